import Derived.Test.YtmjenlogbkbgnaaGreatDoorB16
namespace Go.Proofs.YtmjenlogbkbgnaaGreatDoor
open Go.RowKit Go.Shelf
set_option linter.unusedVariables false
set_option linter.unusedSimpArgs false
set_option maxRecDepth 100000
set_option maxHeartbeats 8000000
theorem ScS.scs {w:World} {b:Nat} {s:Scv} (h:ScS w b s):Scs w b s.a s.n s.cap s.la s.ln s.lc:=⟨h.lt,h.c21,h.c28⟩
theorem TLs.low {w0 V:World} {B B' n cap:Nat} {a:Option Addr} {cs:List Ch} {fs:List Fv} (h:TLs w0 V B a n cap cs fs) (hB:B'≤B):TLs w0 V B' a n cap cs fs:=⟨h.l1,h.l2,h.big,own_low h.row hB,h.ty⟩
def OmPost (R:Option (List Ch)) (w0 w w':World) (b:Nat) (s:Scv) (e:Ending):Prop:=match R with
 | some cs=>e=.returned (.bool true)∧∃ ta tn tc fs,ScS w' b { s with ta:=ta,tn:=tn,tc:=tc }∧TLs w0 w' w.heap.size ta tn tc cs fs
 | none=>e=.returned (.bool false)
theorem operandsMay_any {w0 w:World} (hB0:Below w0.heap.size w0 w) (b:Nat) (s:Scv) (hs:ScS w b s) {x:Sc} (hX:SX w0 s.a s.n s.cap s.la s.ln s.lc x) (q1 q2:Opd) (args:List Opd) (hA:OAt w0 s.pv.a q1) (hB:OAt w0 s.pv.b q2) (hR:OL w0 s.pv.ra s.pv.rn s.pv.rc args) :
  Calls Tryz.prog 177 #[.pointer (some ⟨b,0,none⟩)] w fun e w'=>OmPost (x.opsT (opsL s.pv.op q1 q2 args)) w0 w w' b s e∧But b w w':=by
 have C0:=operandsOf_any s.pv.op s.pv.tp.l s.pv.tp.a s.pv.tp.n s.pv.tp.cap s.pv.a.k s.pv.a.n s.pv.a.x.l s.pv.a.x.a s.pv.a.x.n s.pv.a.x.cap s.pv.b.k s.pv.b.n s.pv.b.x.l s.pv.b.x.a s.pv.b.x.n s.pv.b.x.cap s.pv.ra s.pv.rn s.pv.rc s.pv.sg s.pv.fp.l s.pv.fp.a s.pv.fp.n s.pv.fp.cap s.pv.mu s.pv.fn s.pv.st s.pv.nx s.pv.el s.pv.ps w q1 q2 args (hA.bel hB0) (hB.bel hB0) (hR.bel hB0)
 obtain ⟨os,hos⟩:∃ os,os=opsL s.pv.op q1 q2 args:=⟨_,rfl⟩
 rw [← hos] at C0 ⊢
 have CT:Hid (∀ W oa on oc,Below w.heap.size w W→OL W oa on oc os→Calls Tryz.prog 194 #[.pointer (some ⟨b,0,none⟩),.slice oa on oc] W fun e w'=>TlPost (x.opsT os) w0 w' W.heap.size e∧Below W.heap.size W w'):=fun W oa on oc hW hO=>typesOf_any (jB hB0 hW) hX b (hs.bel hW).scs oa on oc os hO
 have HS:=jH hs
 obtain ⟨⟨op,⟨tl,ta,tn,tc⟩,⟨ak,an,al,aa,am,ac⟩,⟨bk,bn,bl,ba,bm,bc⟩,ra,rn,rc,sg,⟨fl,fa,fm,fc⟩,mu,fn,st,nx,el,ps⟩,sa,sn,sc,ua,un,ucap,mn,nm,lv,oa,on,oc,pa,la,ln,lc,na,nn,nc,qa,qn,qc,dr,tw,fw,xa,xn,xc⟩:=s
 have C61:Hid (Calls Tryz.prog 195 #[pV op tl ta tn tc ak an al aa am ac bk bn bl ba bm bc ra rn rc sg fl fa fm fc mu fn st nx el ps] w fun e w'=>(∃ a n cap,e=.returned (.slice a n cap)∧OL w' a n cap os)∧Below w.heap.size w w'):=C0
 have hrng:Hid (w.rangeAt b 0 [.int .u8 (op:Int),.int .i64 tl,.slice ta tn tc,.int .u8 (ak:Int),.int .i64 an,.int .i64 al,.slice aa am ac,.int .u8 (bk:Int),.int .i64 bn,.int .i64 bl,.slice ba bm bc,.slice ra rn rc,.string sg,.int .i64 fl,.slice fa fm fc,.bool mu,.int .i64 fn,.int .i64 st,.int .i64 nx,.int .i64 el,.int .i64 ps]):=hs.pt.rng
 clear hs hX hA hB hR C0 hB0 hos
 cases hO:x.opsT os with
 | none =>
  rw [hO] at CT
  have CT2:Hid (∀ W oa on oc,Below w.heap.size w W→OL W oa on oc os→Calls Tryz.prog 194 #[.pointer (some ⟨b,0,none⟩),.slice oa on oc] W fun e w'=>e=.returned (.tuple #[.slice none 0 0,.bool false])∧Below W.heap.size W w'):=CT
  clear CT hO
  go_enter Tryz.func177,Tryz.ntmps177
  go_wp2_with (first
   | ((with_reducible show wpList _ _ _ (Oper.mk (some _) (Op.load 118 _) _ _ _ none::_) _ _);refine wpl_load64 b 0 [.int .u8 (op:Int),.int .i64 tl,.slice ta tn tc,.int .u8 (ak:Int),.int .i64 an,.int .i64 al,.slice aa am ac,.int .u8 (bk:Int),.int .i64 bn,.int .i64 bl,.slice ba bm bc,.slice ra rn rc,.string sg,.int .i64 fl,.slice fa fm fc,.bool mu,.int .i64 fn,.int .i64 st,.int .i64 nx,.int .i64 el,.int .i64 ps] rfl rfl hrng.out Tryz.underlying118 rfl ?_)
   | (go_at_call 195;refine C61.out.mono ?_;rintro e w1 ⟨⟨oa1,on1,oc1,rfl,ho1⟩,hb1⟩;have HO:=jH ho1;have HB1:=jH hb1;clear ho1 hb1)
   | (go_at_call 194;refine (CT2.out w1 oa1 on1 oc1 HB1.out HO.out).mono ?_;rintro e w2 ⟨rfl,hb2⟩;have HB2:=jH (jB HB1.out hb2);have HS2:=jH (HS.out.bel HB2.out);clear hb2)
   | ((with_reducible show wpList _ _ _ (Oper.mk none (Op.store 41 _ _) _ _ _ none::_) _ _);refine wpList_store_one b 77 none 0 0 HS2.out.th HS2.out.lt (by omega) rfl rfl ?_;intro w3 hr3 hk3 ht3 hl3 hbt3;have HF:=jH ((But.below HB2.out).trans hbt3);clear hr3 hk3 ht3 hl3 hbt3))
  go_ret
  exact ⟨rfl,HF.out⟩
 | some cs =>
  rw [hO] at CT
  have CT2:Hid (∀ W oa on oc,Below w.heap.size w W→OL W oa on oc os→Calls Tryz.prog 194 #[.pointer (some ⟨b,0,none⟩),.slice oa on oc] W fun e w'=>(∃ a n cap fs,e=.returned (.tuple #[.slice a n cap,.bool true])∧TLs w0 w' W.heap.size a n cap cs fs)∧Below W.heap.size W w'):=CT
  clear CT hO
  go_enter Tryz.func177,Tryz.ntmps177
  go_wp2_with (first
   | ((with_reducible show wpList _ _ _ (Oper.mk (some _) (Op.load 118 _) _ _ _ none::_) _ _);refine wpl_load64 b 0 [.int .u8 (op:Int),.int .i64 tl,.slice ta tn tc,.int .u8 (ak:Int),.int .i64 an,.int .i64 al,.slice aa am ac,.int .u8 (bk:Int),.int .i64 bn,.int .i64 bl,.slice ba bm bc,.slice ra rn rc,.string sg,.int .i64 fl,.slice fa fm fc,.bool mu,.int .i64 fn,.int .i64 st,.int .i64 nx,.int .i64 el,.int .i64 ps] rfl rfl hrng.out Tryz.underlying118 rfl ?_)
   | (go_at_call 195;refine C61.out.mono ?_;rintro e w1 ⟨⟨oa1,on1,oc1,rfl,ho1⟩,hb1⟩;have HO:=jH ho1;have HB1:=jH hb1;clear ho1 hb1)
   | (go_at_call 194;refine (CT2.out w1 oa1 on1 oc1 HB1.out HO.out).mono ?_;rintro e w2 ⟨⟨a2,n2,c2,fs,rfl,htl⟩,hb2⟩;have HB2:=jH (jB HB1.out hb2);have HS2:=jH (HS.out.bel HB2.out);have HTL:=jH (htl.low HB1.out.size);clear hb2 htl)
   | ((with_reducible show wpList _ _ _ (Oper.mk none (Op.store 41 _ _) _ _ _ none::_) _ _);refine wpList_store_one b 77 a2 n2 c2 HS2.out.th HS2.out.lt (by omega) rfl rfl ?_;intro w3 hr3 hk3 ht3 hl3 hbt3;have HF:=jH ((But.below HB2.out).trans hbt3);have HS3:=jH (HS2.out.setOps a2 n2 c2 hr3 hk3 ht3 hl3);have HTL3:=jH (HTL.out.but hbt3 HS.out.lt);clear hr3 hk3 ht3 hl3 hbt3))
  go_ret
  exact ⟨⟨rfl,a2,n2,c2,fs,HS3.out,HTL3.out⟩,HF.out⟩
def shrB:Option (Ch × List Int)→Bool
 | some y=>!byShr y.2
 | none=>false
def WyAt (w0:World) (g:Gy) (R:Option (Ch × List Int)):Prop:=match R with
 | some y=>TyAt w0 g.f y.1.ty∧g.br=byRef y.2∧g.bs=byShr y.2
 | none=>g=zG
def PlPost (r:Bool) (w0 w':World) (b:Nat) (s:Scv) (R1 R2:Option (Ch × List Int)):Prop:=r=true→∃ tw fw,ScS w' b { s with tw:=tw,fw:=fw }∧WyAt w0 tw R1∧WyAt w0 fw R2
theorem places_any {w0 w:World} (hB0:Below w0.heap.size w0 w) (b:Nat) (s:Scv) (hs:ScS w b s) (hlo:w0.heap.size≤b) {x:Sc} (hX:SX w0 s.a s.n s.cap s.la s.ln s.lc x) (p1 p2:Plc) (hT:PAt w0 s.pv.tp p1.p) (hTl:s.pv.tp.l=p1.l) (hF:PAt w0 s.pv.fp p2.p) (hFl:s.pv.fp.l=p2.l) (h0:s.tw=zG) (h1:s.fw=zG)
  (RT RF:Option (Ch × List Int)) (hRT:RT=x.way p1) (hRF:RF=x.way p2) (r:Bool) (hr:r=((!(fldO s.pv.op).testBit 0 || shrB RT) && (!(fldO s.pv.op).testBit 5 || RF.isSome))) :
  Calls Tryz.prog 176 #[.pointer (some ⟨b,0,none⟩)] w fun e w'=>e=.returned (.bool r)∧But b w w'∧PlPost r w0 w' b s (if (fldO s.pv.op).testBit 0 then RT else none) (if (fldO s.pv.op).testBit 5 then RF else none):=by
 have K1:=fun W=>has_any s.pv.op 0 (by omega) 1 rfl W _ rfl
 have K2:=fun W=>has_any s.pv.op 5 (by omega) 32 rfl W _ rfl
 have KT:∀ W,Below w0.heap.size w0 W→Scs W b s.a s.n s.cap s.la s.ln s.lc→Calls Tryz.prog 193 #[.pointer (some ⟨b,0,none⟩),s.pv.tp.v] W fun e w'=>GwPost RT w0 e∧Below W.heap.size W w':=fun W hW hb=>wayG_any hW hX.sf hX.lf b hb (hT.bel hW) RT (by rw [hRT];unfold Sc.way;rw [hTl])
 have KF:∀ W,Below w0.heap.size w0 W→Scs W b s.a s.n s.cap s.la s.ln s.lc→Calls Tryz.prog 193 #[.pointer (some ⟨b,0,none⟩),s.pv.fp.v] W fun e w'=>GwPost RF w0 e∧Below W.heap.size W w':=fun W hW hb=>wayG_any hW hX.sf hX.lf b hb (hF.bel hW) RF (by rw [hRF];unfold Sc.way;rw [hFl])
 have HS:=jH hs
 have HSb:=jH hB0
 have HSt:Hid (But b w w):=But.refl b w
 have HLO:=jH hlo
 have E0:Hid (WyAt w0 s.tw none):=h0
 have E1:Hid (WyAt w0 s.fw none):=h1
 obtain ⟨⟨op,⟨tl,ta,tn,tc⟩,⟨ak,an,al,aa,am,ac⟩,⟨bk,bn,bl,ba,bm,bc⟩,ra,rn,rc,sg,⟨fl,fa,fm,fc⟩,mu,fn,st,nx,el,ps⟩,sa,sn,sc,ua,un,ucap,mn,nm,lv,oa,on,oc,pa,la,ln,lc,na,nn,nc,qa,qn,qc,dr,tw,fw,xa,xn,xc⟩:=s
 have c0:w.cell? ⟨b,0,none⟩=some (.int .u8 (op:Int)):=hs.pt.2.1
 have c1:w.cell? ⟨b,1,none⟩=some (.int .i64 tl):=hs.pt.2.2.1
 have c2:w.cell? ⟨b,2,none⟩=some (.slice ta tn tc):=hs.pt.2.2.2.1
 have c13:w.cell? ⟨b,13,none⟩=some (.int .i64 fl):=hs.pt.2.2.2.2.2.2.2.2.2.2.2.2.2.2.1
 have c14:w.cell? ⟨b,14,none⟩=some (.slice fa fm fc):=hs.pt.2.2.2.2.2.2.2.2.2.2.2.2.2.2.2.1
 obtain ⟨tk,tbr,tbs⟩:=tw
 simp only at hr h0 h1 K1 K2 KT KF ⊢
 have KT':∀ W,Below w0.heap.size w0 W→Scs W b sa sn sc la ln lc→Calls Tryz.prog 193 #[.pointer (some ⟨b,0,none⟩),plV tl ta tn tc] W fun e w'=>GwPost RT w0 e∧Below W.heap.size W w':=KT
 have KF':∀ W,Below w0.heap.size w0 W→Scs W b sa sn sc la ln lc→Calls Tryz.prog 193 #[.pointer (some ⟨b,0,none⟩),plV fl fa fm fc] W fun e w'=>GwPost RF w0 e∧Below W.heap.size W w':=KF
 clear hs hX hT hTl hF hFl hRT hRF h0 h1 hB0 hlo KT KF
 cases hb0:(fldO op).testBit 0 <;> cases hb5:(fldO op).testBit 5 <;> rw [hb0] at K1 hr <;> rw [hb5] at K2 hr <;> (have C1:=jH K1;have C2:=jH K2;clear K1 K2 hb0 hb5) <;> simp only [Bool.not_false,Bool.not_true,Bool.true_or,Bool.false_or,Bool.true_and,Bool.and_true,Bool.false_eq_true,if_false,if_true] at hr ⊢
 ·subst hr
  clear KT' KF'
  go_enter Tryz.func176,Tryz.ntmps176
  go_wp2_with (first
   | (go_at_call 192;with_reducible refine (C1.out _).mono ?_;rintro e w9 ⟨rfl,hw⟩;replace hw:=hw.symm;subst hw)
   | (go_at_call 192;with_reducible refine (C2.out _).mono ?_;rintro e w9 ⟨rfl,hw⟩;replace hw:=hw.symm;subst hw))
  go_ret
  exact ⟨rfl,HSt.out,fun _=>⟨⟨tk,tbr,tbs⟩,fw,HS.out,E0.out,E1.out⟩⟩
 ·clear KT'
  cases RF with
  | none =>
   have hr2:r=false:=hr
   subst hr2
   clear hr
   have CFF:Hid (∀ W,Below w0.heap.size w0 W→Scs W b sa sn sc la ln lc→Calls Tryz.prog 193 #[.pointer (some ⟨b,0,none⟩),plV fl fa fm fc] W fun e w'=>(∃ y:Gy,e=.returned (.tuple #[y.v,.bool false]))∧Below W.heap.size W w'):=KF'
   clear KF'
   go_enter Tryz.func176,Tryz.ntmps176
   go_wp2_with (first
   | (go_at_call 192;with_reducible refine (C1.out _).mono ?_;rintro e w9 ⟨rfl,hw⟩;replace hw:=hw.symm;subst hw)
   | (go_at_call 192;with_reducible refine (C2.out _).mono ?_;rintro e w9 ⟨rfl,hw⟩;replace hw:=hw.symm;subst hw)
   | (go_at_call 193;with_reducible refine (CFF.out w HSb.out HS.out.scs).mono ?_;rintro e w1 ⟨⟨⟨⟨k1,m1,r1,s1,a1,n1,p1⟩,br1,bs1⟩,rfl⟩,hb1⟩;have H1:=jH (HS.out.bel hb1);have H1b:Hid (Below w0.heap.size w0 w1):=jH (jB HSb.out hb1);have H1t:Hid (But b w w1):=jH (HSt.out.trans (But.below hb1));clear hb1)
   | ((with_reducible show wpList _ _ _ (Oper.mk none (Op.store 246 _ _) _ _ _ none::_) _ _);refine wpl_storeS b 70 ⟨⟨k1,m1,r1,s1,a1,n1,p1⟩,br1,bs1⟩ H1.out.th H1.out.lt (by omega) rfl rfl ?_;intro w2 hr hk ht hl hbt;have H2t:Hid (But b w w2):=jH (H1t.out.trans hbt);clear hr hk ht hl hbt))
   go_ret
   exact ⟨rfl,H2t.out,fun h=>by cases h⟩
  | some yF =>
   have hr2:r=true:=hr
   subst hr2
   clear hr
   obtain ⟨zc,zgs⟩:=yF
   obtain ⟨br1,hbr1⟩:∃ z,z=byRef zgs:=⟨_,rfl⟩
   obtain ⟨bs1,hbs1⟩:∃ z,z=byShr zgs:=⟨_,rfl⟩
   have CFF:Hid (∀ W,Below w0.heap.size w0 W→Scs W b sa sn sc la ln lc→Calls Tryz.prog 193 #[.pointer (some ⟨b,0,none⟩),plV fl fa fm fc] W fun e w'=>(∃ f':Fv,e=.returned (.tuple #[Gy.v ⟨f',br1,bs1⟩,.bool true])∧TyAt w0 f' zc.ty)∧Below W.heap.size W w'):=by rw [hbr1,hbs1];exact KF'
   have BR1:Hid (br1=byRef zgs):=hbr1
   have BS1:Hid (bs1=byShr zgs):=hbs1
   clear KF' hbr1 hbs1
   go_enter Tryz.func176,Tryz.ntmps176
   go_wp2_with (first
   | (go_at_call 192;with_reducible refine (C1.out _).mono ?_;rintro e w9 ⟨rfl,hw⟩;replace hw:=hw.symm;subst hw)
   | (go_at_call 192;with_reducible refine (C2.out _).mono ?_;rintro e w9 ⟨rfl,hw⟩;replace hw:=hw.symm;subst hw)
   | (go_at_call 193;with_reducible refine (CFF.out w HSb.out HS.out.scs).mono ?_;rintro e w1 ⟨⟨⟨k1,m1,r1,s1,a1,n1,p1⟩,rfl,hty1⟩,hb1⟩;have H1:=jH (HS.out.bel hb1);have H1b:Hid (Below w0.heap.size w0 w1):=jH (jB HSb.out hb1);have H1t:Hid (But b w w1):=jH (HSt.out.trans (But.below hb1));have HTY1:=jH hty1;clear hb1 hty1)
   | ((with_reducible show wpList _ _ _ (Oper.mk none (Op.store 246 _ _) _ _ _ none::_) _ _);refine wpl_storeS b 70 ⟨⟨k1,m1,r1,s1,a1,n1,p1⟩,br1,bs1⟩ H1.out.th H1.out.lt (by omega) rfl rfl ?_;intro w2 hr hk ht hl hbt;have H2t:Hid (But b w w2):=jH (H1t.out.trans hbt);have H2b:Hid (Below w0.heap.size w0 w2):=jH (belBut H1b.out hbt HLO.out H1b.out.size);have H2:=jH (H1.out.setFr ⟨⟨k1,m1,r1,s1,a1,n1,p1⟩,br1,bs1⟩ hr hk ht hl);obtain ⟨-,e10,e11,e12,e13,e14,e15,e16,e17,e18,e19,e110,e111,e112,e113,e114,e115,e116,e117,e118,e119,e120⟩:=H2.out.pt;clear e13 e14 e15 e16 e17 e18 e19 e110 e111 e112 e115 e116 e117 e118 e119 e120;simp only at e10 e11 e12 e113 e114;have e1t:w2.cell? ⟨b,69,none⟩=some (.bool tbs):=H2.out.t69;clear hr hk ht hl hbt))
   go_ret
   exact ⟨rfl,H2t.out,fun _=>⟨⟨tk,tbr,tbs⟩,_,H2.out,E0.out,⟨HTY1.out,BR1.out,BS1.out⟩⟩⟩
 ·clear KF'
  cases RT with
  | none =>
   have hr2:r=false:=hr
   subst hr2
   clear hr
   have CTT:Hid (∀ W,Below w0.heap.size w0 W→Scs W b sa sn sc la ln lc→Calls Tryz.prog 193 #[.pointer (some ⟨b,0,none⟩),plV tl ta tn tc] W fun e w'=>(∃ y:Gy,e=.returned (.tuple #[y.v,.bool false]))∧Below W.heap.size W w'):=KT'
   clear KT'
   go_enter Tryz.func176,Tryz.ntmps176
   go_wp2_with (first
   | (go_at_call 192;with_reducible refine (C1.out _).mono ?_;rintro e w9 ⟨rfl,hw⟩;replace hw:=hw.symm;subst hw)
   | (go_at_call 192;with_reducible refine (C2.out _).mono ?_;rintro e w9 ⟨rfl,hw⟩;replace hw:=hw.symm;subst hw)
   | (go_at_call 193;with_reducible refine (CTT.out w HSb.out HS.out.scs).mono ?_;rintro e w1 ⟨⟨⟨⟨k1,m1,r1,s1,a1,n1,p1⟩,br1,bs1⟩,rfl⟩,hb1⟩;have H1:=jH (HS.out.bel hb1);have H1b:Hid (Below w0.heap.size w0 w1):=jH (jB HSb.out hb1);have H1t:Hid (But b w w1):=jH (HSt.out.trans (But.below hb1));clear hb1)
   | ((with_reducible show wpList _ _ _ (Oper.mk none (Op.store 246 _ _) _ _ _ none::_) _ _);refine wpl_storeS b 63 ⟨⟨k1,m1,r1,s1,a1,n1,p1⟩,br1,bs1⟩ H1.out.th H1.out.lt (by omega) rfl rfl ?_;intro w2 hr hk ht hl hbt;have H2t:Hid (But b w w2):=jH (H1t.out.trans hbt);clear hr hk ht hl hbt))
   go_ret
   exact ⟨rfl,H2t.out,fun h=>by cases h⟩
  | some yT =>
   obtain ⟨yc,ygs⟩:=yT
   obtain ⟨br1,hbr1⟩:∃ z,z=byRef ygs:=⟨_,rfl⟩
   obtain ⟨bs1,hbs1⟩:∃ z,z=byShr ygs:=⟨_,rfl⟩
   have CTT:Hid (∀ W,Below w0.heap.size w0 W→Scs W b sa sn sc la ln lc→Calls Tryz.prog 193 #[.pointer (some ⟨b,0,none⟩),plV tl ta tn tc] W fun e w'=>(∃ f':Fv,e=.returned (.tuple #[Gy.v ⟨f',br1,bs1⟩,.bool true])∧TyAt w0 f' yc.ty)∧Below W.heap.size W w'):=by rw [hbr1,hbs1];exact KT'
   have BR1:Hid (br1=byRef ygs):=hbr1
   have BS1:Hid (bs1=byShr ygs):=hbs1
   simp only [shrB,← hbs1] at hr
   clear KT' hbr1 hbs1
   cases bs1 with
   | true =>
    have hr2:r=false:=hr
    subst hr2
    clear hr
    go_enter Tryz.func176,Tryz.ntmps176
    go_wp2_with (first
   | (go_at_call 192;with_reducible refine (C1.out _).mono ?_;rintro e w9 ⟨rfl,hw⟩;replace hw:=hw.symm;subst hw)
   | (go_at_call 192;with_reducible refine (C2.out _).mono ?_;rintro e w9 ⟨rfl,hw⟩;replace hw:=hw.symm;subst hw)
   | (go_at_call 193;with_reducible refine (CTT.out w HSb.out HS.out.scs).mono ?_;rintro e w1 ⟨⟨⟨k1,m1,r1,s1,a1,n1,p1⟩,rfl,hty1⟩,hb1⟩;have H1:=jH (HS.out.bel hb1);have H1b:Hid (Below w0.heap.size w0 w1):=jH (jB HSb.out hb1);have H1t:Hid (But b w w1):=jH (HSt.out.trans (But.below hb1));have HTY1:=jH hty1;clear hb1 hty1)
   | ((with_reducible show wpList _ _ _ (Oper.mk none (Op.store 246 _ _) _ _ _ none::_) _ _);refine wpl_storeS b 63 ⟨⟨k1,m1,r1,s1,a1,n1,p1⟩,br1,true⟩ H1.out.th H1.out.lt (by omega) rfl rfl ?_;intro w2 hr hk ht hl hbt;have H2t:Hid (But b w w2):=jH (H1t.out.trans hbt);have H2b:Hid (Below w0.heap.size w0 w2):=jH (belBut H1b.out hbt HLO.out H1b.out.size);have H2:=jH (H1.out.setTo ⟨⟨k1,m1,r1,s1,a1,n1,p1⟩,br1,true⟩ hr hk ht hl);obtain ⟨-,e10,e11,e12,e13,e14,e15,e16,e17,e18,e19,e110,e111,e112,e113,e114,e115,e116,e117,e118,e119,e120⟩:=H2.out.pt;clear e13 e14 e15 e16 e17 e18 e19 e110 e111 e112 e115 e116 e117 e118 e119 e120;simp only at e10 e11 e12 e113 e114;have e1t:w2.cell? ⟨b,69,none⟩=some (.bool true):=H2.out.t69;clear hr hk ht hl hbt))
    go_ret
    exact ⟨rfl,H2t.out,fun h=>by cases h⟩
   | false =>
    have hr2:r=true:=hr
    subst hr2
    clear hr
    go_enter Tryz.func176,Tryz.ntmps176
    go_wp2_with (first
   | (go_at_call 192;with_reducible refine (C1.out _).mono ?_;rintro e w9 ⟨rfl,hw⟩;replace hw:=hw.symm;subst hw)
   | (go_at_call 192;with_reducible refine (C2.out _).mono ?_;rintro e w9 ⟨rfl,hw⟩;replace hw:=hw.symm;subst hw)
   | (go_at_call 193;with_reducible refine (CTT.out w HSb.out HS.out.scs).mono ?_;rintro e w1 ⟨⟨⟨k1,m1,r1,s1,a1,n1,p1⟩,rfl,hty1⟩,hb1⟩;have H1:=jH (HS.out.bel hb1);have H1b:Hid (Below w0.heap.size w0 w1):=jH (jB HSb.out hb1);have H1t:Hid (But b w w1):=jH (HSt.out.trans (But.below hb1));have HTY1:=jH hty1;clear hb1 hty1)
   | ((with_reducible show wpList _ _ _ (Oper.mk none (Op.store 246 _ _) _ _ _ none::_) _ _);refine wpl_storeS b 63 ⟨⟨k1,m1,r1,s1,a1,n1,p1⟩,br1,false⟩ H1.out.th H1.out.lt (by omega) rfl rfl ?_;intro w2 hr hk ht hl hbt;have H2t:Hid (But b w w2):=jH (H1t.out.trans hbt);have H2b:Hid (Below w0.heap.size w0 w2):=jH (belBut H1b.out hbt HLO.out H1b.out.size);have H2:=jH (H1.out.setTo ⟨⟨k1,m1,r1,s1,a1,n1,p1⟩,br1,false⟩ hr hk ht hl);obtain ⟨-,e10,e11,e12,e13,e14,e15,e16,e17,e18,e19,e110,e111,e112,e113,e114,e115,e116,e117,e118,e119,e120⟩:=H2.out.pt;clear e13 e14 e15 e16 e17 e18 e19 e110 e111 e112 e115 e116 e117 e118 e119 e120;simp only at e10 e11 e12 e113 e114;have e1t:w2.cell? ⟨b,69,none⟩=some (.bool false):=H2.out.t69;clear hr hk ht hl hbt))
    go_ret
    exact ⟨rfl,H2t.out,fun _=>⟨_,fw,H2.out,⟨HTY1.out,BR1.out,BS1.out⟩,E1.out⟩⟩
 ·cases RT with
  | none =>
   have hr2:r=false:=hr
   subst hr2
   clear hr KF'
   have CTT:Hid (∀ W,Below w0.heap.size w0 W→Scs W b sa sn sc la ln lc→Calls Tryz.prog 193 #[.pointer (some ⟨b,0,none⟩),plV tl ta tn tc] W fun e w'=>(∃ y:Gy,e=.returned (.tuple #[y.v,.bool false]))∧Below W.heap.size W w'):=KT'
   clear KT'
   go_enter Tryz.func176,Tryz.ntmps176
   go_wp2_with (first
   | (go_at_call 192;with_reducible refine (C1.out _).mono ?_;rintro e w9 ⟨rfl,hw⟩;replace hw:=hw.symm;subst hw)
   | (go_at_call 192;with_reducible refine (C2.out _).mono ?_;rintro e w9 ⟨rfl,hw⟩;replace hw:=hw.symm;subst hw)
   | (go_at_call 193;with_reducible refine (CTT.out w HSb.out HS.out.scs).mono ?_;rintro e w1 ⟨⟨⟨⟨k1,m1,r1,s1,a1,n1,p1⟩,br1,bs1⟩,rfl⟩,hb1⟩;have H1:=jH (HS.out.bel hb1);have H1b:Hid (Below w0.heap.size w0 w1):=jH (jB HSb.out hb1);have H1t:Hid (But b w w1):=jH (HSt.out.trans (But.below hb1));clear hb1)
   | ((with_reducible show wpList _ _ _ (Oper.mk none (Op.store 246 _ _) _ _ _ none::_) _ _);refine wpl_storeS b 63 ⟨⟨k1,m1,r1,s1,a1,n1,p1⟩,br1,bs1⟩ H1.out.th H1.out.lt (by omega) rfl rfl ?_;intro w2 hr hk ht hl hbt;have H2t:Hid (But b w w2):=jH (H1t.out.trans hbt);clear hr hk ht hl hbt))
   go_ret
   exact ⟨rfl,H2t.out,fun h=>by cases h⟩
  | some yT =>
   obtain ⟨yc,ygs⟩:=yT
   obtain ⟨br1,hbr1⟩:∃ z,z=byRef ygs:=⟨_,rfl⟩
   obtain ⟨bs1,hbs1⟩:∃ z,z=byShr ygs:=⟨_,rfl⟩
   have CTT:Hid (∀ W,Below w0.heap.size w0 W→Scs W b sa sn sc la ln lc→Calls Tryz.prog 193 #[.pointer (some ⟨b,0,none⟩),plV tl ta tn tc] W fun e w'=>(∃ f':Fv,e=.returned (.tuple #[Gy.v ⟨f',br1,bs1⟩,.bool true])∧TyAt w0 f' yc.ty)∧Below W.heap.size W w'):=by rw [hbr1,hbs1];exact KT'
   have BR1:Hid (br1=byRef ygs):=hbr1
   have BS1:Hid (bs1=byShr ygs):=hbs1
   simp only [shrB,← hbs1] at hr
   clear KT' hbr1 hbs1
   cases bs1 with
   | true =>
    have hr2:r=false:=hr
    subst hr2
    clear hr KF'
    go_enter Tryz.func176,Tryz.ntmps176
    go_wp2_with (first
   | (go_at_call 192;with_reducible refine (C1.out _).mono ?_;rintro e w9 ⟨rfl,hw⟩;replace hw:=hw.symm;subst hw)
   | (go_at_call 192;with_reducible refine (C2.out _).mono ?_;rintro e w9 ⟨rfl,hw⟩;replace hw:=hw.symm;subst hw)
   | (go_at_call 193;with_reducible refine (CTT.out w HSb.out HS.out.scs).mono ?_;rintro e w1 ⟨⟨⟨k1,m1,r1,s1,a1,n1,p1⟩,rfl,hty1⟩,hb1⟩;have H1:=jH (HS.out.bel hb1);have H1b:Hid (Below w0.heap.size w0 w1):=jH (jB HSb.out hb1);have H1t:Hid (But b w w1):=jH (HSt.out.trans (But.below hb1));have HTY1:=jH hty1;clear hb1 hty1)
   | ((with_reducible show wpList _ _ _ (Oper.mk none (Op.store 246 _ _) _ _ _ none::_) _ _);refine wpl_storeS b 63 ⟨⟨k1,m1,r1,s1,a1,n1,p1⟩,br1,true⟩ H1.out.th H1.out.lt (by omega) rfl rfl ?_;intro w2 hr hk ht hl hbt;have H2t:Hid (But b w w2):=jH (H1t.out.trans hbt);have H2b:Hid (Below w0.heap.size w0 w2):=jH (belBut H1b.out hbt HLO.out H1b.out.size);have H2:=jH (H1.out.setTo ⟨⟨k1,m1,r1,s1,a1,n1,p1⟩,br1,true⟩ hr hk ht hl);obtain ⟨-,e10,e11,e12,e13,e14,e15,e16,e17,e18,e19,e110,e111,e112,e113,e114,e115,e116,e117,e118,e119,e120⟩:=H2.out.pt;clear e13 e14 e15 e16 e17 e18 e19 e110 e111 e112 e115 e116 e117 e118 e119 e120;simp only at e10 e11 e12 e113 e114;have e1t:w2.cell? ⟨b,69,none⟩=some (.bool true):=H2.out.t69;clear hr hk ht hl hbt))
    go_ret
    exact ⟨rfl,H2t.out,fun h=>by cases h⟩
   | false =>
    cases RF with
    | none =>
     have hr2:r=false:=hr
     subst hr2
     clear hr
     have CFF:Hid (∀ W,Below w0.heap.size w0 W→Scs W b sa sn sc la ln lc→Calls Tryz.prog 193 #[.pointer (some ⟨b,0,none⟩),plV fl fa fm fc] W fun e w'=>(∃ y:Gy,e=.returned (.tuple #[y.v,.bool false]))∧Below W.heap.size W w'):=KF'
     clear KF'
     go_enter Tryz.func176,Tryz.ntmps176
     go_wp2_with (first
   | (go_at_call 192;with_reducible refine (C1.out _).mono ?_;rintro e w9 ⟨rfl,hw⟩;replace hw:=hw.symm;subst hw)
   | (go_at_call 192;with_reducible refine (C2.out _).mono ?_;rintro e w9 ⟨rfl,hw⟩;replace hw:=hw.symm;subst hw)
   | (go_at_call 193;with_reducible refine (CTT.out w HSb.out HS.out.scs).mono ?_;rintro e w1 ⟨⟨⟨k1,m1,r1,s1,a1,n1,p1⟩,rfl,hty1⟩,hb1⟩;have H1:=jH (HS.out.bel hb1);have H1b:Hid (Below w0.heap.size w0 w1):=jH (jB HSb.out hb1);have H1t:Hid (But b w w1):=jH (HSt.out.trans (But.below hb1));have HTY1:=jH hty1;clear hb1 hty1)
   | ((with_reducible show wpList _ _ _ (Oper.mk none (Op.store 246 _ _) _ _ _ none::_) _ _);refine wpl_storeS b 63 ⟨⟨k1,m1,r1,s1,a1,n1,p1⟩,br1,false⟩ H1.out.th H1.out.lt (by omega) rfl rfl ?_;intro w2 hr hk ht hl hbt;have H2t:Hid (But b w w2):=jH (H1t.out.trans hbt);have H2b:Hid (Below w0.heap.size w0 w2):=jH (belBut H1b.out hbt HLO.out H1b.out.size);have H2:=jH (H1.out.setTo ⟨⟨k1,m1,r1,s1,a1,n1,p1⟩,br1,false⟩ hr hk ht hl);obtain ⟨-,e10,e11,e12,e13,e14,e15,e16,e17,e18,e19,e110,e111,e112,e113,e114,e115,e116,e117,e118,e119,e120⟩:=H2.out.pt;clear e13 e14 e15 e16 e17 e18 e19 e110 e111 e112 e115 e116 e117 e118 e119 e120;simp only at e10 e11 e12 e113 e114;have e1t:w2.cell? ⟨b,69,none⟩=some (.bool false):=H2.out.t69;clear hr hk ht hl hbt)
   | (go_at_call 193;with_reducible refine (CFF.out w2 H2b.out H2.out.scs).mono ?_;rintro e w3 ⟨⟨⟨⟨k3,m3,r3,s3,a3,n3,p3⟩,br3,bs3⟩,rfl⟩,hb3⟩;have H3:=jH (H2.out.bel hb3);have H3b:Hid (Below w0.heap.size w0 w3):=jH (jB H2b.out hb3);have H3t:Hid (But b w w3):=jH (H2t.out.trans (But.below hb3));clear hb3)
   | ((with_reducible show wpList _ _ _ (Oper.mk none (Op.store 246 _ _) _ _ _ none::_) _ _);refine wpl_storeS b 70 ⟨⟨k3,m3,r3,s3,a3,n3,p3⟩,br3,bs3⟩ H3.out.th H3.out.lt (by omega) rfl rfl ?_;intro w4 hr hk ht hl hbt;have H4t:Hid (But b w w4):=jH (H3t.out.trans hbt);clear hr hk ht hl hbt))
     go_ret
     exact ⟨rfl,H4t.out,fun h=>by cases h⟩
    | some yF =>
     have hr2:r=true:=hr
     subst hr2
     clear hr
     obtain ⟨zc,zgs⟩:=yF
     obtain ⟨br3,hbr3⟩:∃ z,z=byRef zgs:=⟨_,rfl⟩
     obtain ⟨bs3,hbs3⟩:∃ z,z=byShr zgs:=⟨_,rfl⟩
     have CFF:Hid (∀ W,Below w0.heap.size w0 W→Scs W b sa sn sc la ln lc→Calls Tryz.prog 193 #[.pointer (some ⟨b,0,none⟩),plV fl fa fm fc] W fun e w'=>(∃ f':Fv,e=.returned (.tuple #[Gy.v ⟨f',br3,bs3⟩,.bool true])∧TyAt w0 f' zc.ty)∧Below W.heap.size W w'):=by rw [hbr3,hbs3];exact KF'
     have BR3:Hid (br3=byRef zgs):=hbr3
     have BS3:Hid (bs3=byShr zgs):=hbs3
     clear KF' hbr3 hbs3
     go_enter Tryz.func176,Tryz.ntmps176
     go_wp2_with (first
   | (go_at_call 192;with_reducible refine (C1.out _).mono ?_;rintro e w9 ⟨rfl,hw⟩;replace hw:=hw.symm;subst hw)
   | (go_at_call 192;with_reducible refine (C2.out _).mono ?_;rintro e w9 ⟨rfl,hw⟩;replace hw:=hw.symm;subst hw)
   | (go_at_call 193;with_reducible refine (CTT.out w HSb.out HS.out.scs).mono ?_;rintro e w1 ⟨⟨⟨k1,m1,r1,s1,a1,n1,p1⟩,rfl,hty1⟩,hb1⟩;have H1:=jH (HS.out.bel hb1);have H1b:Hid (Below w0.heap.size w0 w1):=jH (jB HSb.out hb1);have H1t:Hid (But b w w1):=jH (HSt.out.trans (But.below hb1));have HTY1:=jH hty1;clear hb1 hty1)
   | ((with_reducible show wpList _ _ _ (Oper.mk none (Op.store 246 _ _) _ _ _ none::_) _ _);refine wpl_storeS b 63 ⟨⟨k1,m1,r1,s1,a1,n1,p1⟩,br1,false⟩ H1.out.th H1.out.lt (by omega) rfl rfl ?_;intro w2 hr hk ht hl hbt;have H2t:Hid (But b w w2):=jH (H1t.out.trans hbt);have H2b:Hid (Below w0.heap.size w0 w2):=jH (belBut H1b.out hbt HLO.out H1b.out.size);have H2:=jH (H1.out.setTo ⟨⟨k1,m1,r1,s1,a1,n1,p1⟩,br1,false⟩ hr hk ht hl);obtain ⟨-,e10,e11,e12,e13,e14,e15,e16,e17,e18,e19,e110,e111,e112,e113,e114,e115,e116,e117,e118,e119,e120⟩:=H2.out.pt;clear e13 e14 e15 e16 e17 e18 e19 e110 e111 e112 e115 e116 e117 e118 e119 e120;simp only at e10 e11 e12 e113 e114;have e1t:w2.cell? ⟨b,69,none⟩=some (.bool false):=H2.out.t69;clear hr hk ht hl hbt)
   | (go_at_call 193;with_reducible refine (CFF.out w2 H2b.out H2.out.scs).mono ?_;rintro e w3 ⟨⟨⟨k3,m3,r3,s3,a3,n3,p3⟩,rfl,hty3⟩,hb3⟩;have H3:=jH (H2.out.bel hb3);have H3b:Hid (Below w0.heap.size w0 w3):=jH (jB H2b.out hb3);have H3t:Hid (But b w w3):=jH (H2t.out.trans (But.below hb3));have HTY3:=jH hty3;clear hb3 hty3)
   | ((with_reducible show wpList _ _ _ (Oper.mk none (Op.store 246 _ _) _ _ _ none::_) _ _);refine wpl_storeS b 70 ⟨⟨k3,m3,r3,s3,a3,n3,p3⟩,br3,bs3⟩ H3.out.th H3.out.lt (by omega) rfl rfl ?_;intro w4 hr hk ht hl hbt;have H4t:Hid (But b w w4):=jH (H3t.out.trans hbt);have H4b:Hid (Below w0.heap.size w0 w4):=jH (belBut H3b.out hbt HLO.out H3b.out.size);have H4:=jH (H3.out.setFr ⟨⟨k3,m3,r3,s3,a3,n3,p3⟩,br3,bs3⟩ hr hk ht hl);obtain ⟨-,e30,e31,e32,e33,e34,e35,e36,e37,e38,e39,e310,e311,e312,e313,e314,e315,e316,e317,e318,e319,e320⟩:=H4.out.pt;clear e33 e34 e35 e36 e37 e38 e39 e310 e311 e312 e315 e316 e317 e318 e319 e320;simp only at e30 e31 e32 e313 e314;have e3t:w4.cell? ⟨b,69,none⟩=some (.bool false):=H4.out.t69;clear hr hk ht hl hbt))
     go_ret
     exact ⟨rfl,H4t.out,fun _=>⟨_,_,H4.out,⟨HTY1.out,BR1.out,BS1.out⟩,⟨HTY3.out,BR3.out,BS3.out⟩⟩⟩
end Go.Proofs.YtmjenlogbkbgnaaGreatDoor
