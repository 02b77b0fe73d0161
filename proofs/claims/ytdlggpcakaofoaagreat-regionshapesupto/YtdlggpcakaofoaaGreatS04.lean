import Derived.Test.YtdlggpcakaofoaaGreatS01
namespace Go.Proofs.YtdlggpcakaofoaaGreat
open Go.RowKit Go.Shelf
set_option linter.unusedVariables false
set_option linter.unusedSimpArgs false
set_option maxRecDepth 100000
set_option maxHeartbeats 8000000
theorem Borrowed_any {w:World} {a ua:Option Addr} {n cap un ucap:Nat} {mn:Int} {gs:List Grp} {j:Nat} {g:Grp} {cl:List Ch} {fc:Nat→List Ch} (h:UG1 w a ua n cap un ucap mn gs j g cl fc) (hc:cntP gs (cntL g.lv cl) g.pt≤512) {fc2:Nat→List Ch} (hSF:SF w a n cap fc2) {q l:Nat} {p:Pnt} (hp:g.pt[q]?=some p) (ho:p.op=4) (hl:p.fr.l=(l:Int)) (hp8:p.fr.p.length≤8) {c d:Ch} {gv:List Int} (hcl:(numR g.lv cl)[l]?=some c) (hok:c.ok n) (hway:wayC fc2 c p.fr.p=some (d,gv)) (hOd:Ok d) (hrg:c.rg) {x:Int} (hx:(atR gs (cntL g.lv cl) g.pt)[q]?=some x) :
  Calls Tryz.prog 22 #[uV a n cap ua un ucap mn,.int .i64 (j:Int),.int .i64 (q:Int)] w fun e w'=>∃ f':Fv,e=.returned (.tuple #[f'.v,.int .i64 0])∧New w w' f' (.ref p.mu x d):=by
 obtain ⟨ug,uo,qa,qn,qc,pg,po,pv,hPt⟩:=ptOf_ex h hp
 have hln:l<cl.length:=by have:=(List.getElem?_eq_some_iff.1 hcl).1;rw [numR_len] at this;exact this
 have hcl5:=h.rg.cln
 obtain ⟨V,hV⟩:∃ V,V=(w.alloc (uO a n cap ua un ucap mn)).alloc zT.o:=⟨_,rfl⟩
 have hB:Below w.heap.size w V:=by rw [hV];exact belA (belA bR)
 have A2:Hid (At V w.heap.size (uO a n cap ua un ucap mn)):=jH (by rw [hV];exact (At.new _ _).alloc _)
 have A4:Hid (At V (w.heap.size+1) zT.o):=jH (by rw [hV];exact at_snd _ _ _)
 have hz:Hid (V.heap.size=w.heap.size+2):=jH (by rw [hV];simp only [World.size_alloc])
 have CK:=jH (maker_yes (h.bel hB) hc hp 4 ho)
 have HPT:Hid (∀ W,Below w.heap.size w W→ug<W.heap.size∧W.cell? ⟨ug,uo+j*7+6,none⟩=some (.slice (some ⟨pg,po,none⟩) qn qc)∧pg<W.heap.size∧W.rangeAt pg (po+q*21) (pC pv)):=jH fun W hW=>by
  have k:=hPt.bel hW
  exact ⟨k.ul,by rw [← k.eq];exact k.c6,k.pl,k.rng⟩
 have eu:=hPt.eu
 subst eu
 obtain ⟨fpl,fpa,fpn,fpc,hfp⟩:∃ fpl fpa fpn fpc,pv.fp=⟨fpl,fpa,fpn,fpc⟩:=⟨_,_,_,_,rfl⟩
 have hfl:fpl=(l:Int):=by have:=hPt.pt.fl;rw [hfp] at this;rw [← hl];exact this
 subst hfl
 have HPA:Hid (PAt w ⟨(l:Int),fpa,fpn,fpc⟩ p.fr.p):=jH (by have:=hPt.pt.fp;rw [hfp] at this;exact this)
 have HPV:Hid (pv.fp=⟨(l:Int),fpa,fpn,fpc⟩∧pv.mu=p.mu):=jH ⟨hfp,hPt.pt.mu⟩
 obtain ⟨fp,hfpp⟩:∃ fp,fp=p.fr.p:=⟨_,rfl⟩
 rw [← hfpp] at HPA hp8 hway
 have HSF:=jH hSF
 have HP8:=jH hp8
 have HWY:=jH hway
 have HOD:=jH hOd
 have j0:(0:Int)≤(j:Int):=by omega
 have j1:(j:Int)<(un:Int):=by have:=h.rg.jn;omega
 have u32:(un:Int)≤32:=by have:=h.rg.un32;omega
 have q0:(0:Int)≤(q:Int):=by omega
 have q1:(q:Int)<(qn:Int):=by have:=hPt.ql;omega
 have q2:(qn:Int)≤1024:=by have:=hPt.qn5;omega
 have hqp:q<g.pt.length:=(List.getElem?_eq_some_iff.1 hp).1
 have HB:=jH hB
 have HV:=jH hV
 have HX:=jH hx
 have HCL:=jH hcl
 have HOK:=jH hok
 have HRG:=jH hrg
 obtain ⟨mu,hmu⟩:∃ mu,mu=p.mu:=⟨_,rfl⟩
 rw [← hmu] at HPV ⊢
 obtain ⟨L,hL⟩:∃ L,L=numR g.lv cl:=⟨_,rfl⟩
 obtain ⟨X,hX⟩:∃ X,X=atR gs (cntL g.lv cl) g.pt:=⟨_,rfl⟩
 have CK2:Hid (Calls Tryz.prog 50 #[uV a n cap (some ⟨ug,uo,none⟩) un ucap mn,.int .i64 (j:Int),.int .i64 (q:Int),.int .u8 4] V fun e w'=>∃ (lv:Int) (np:Nat) (cn:Int) (nl:Nat) (aL:Option Addr) (cL:Nat) (aA:Option Addr) (cA:Nat),e=.returned (.tuple #[rgV lv np cn (.slice aL nl cL) (.slice aA np cA),.int .i64 0])∧(∃ fl lo hi,FRow w' V.heap.size (.slice aL nl cL) L fl lo hi)∧w'.ownsRow V.heap.size 3 1 (.slice aA np cA) np (iCells X)∧Below V.heap.size V w'∧nl=L.length∧l<nl∧nl≤512∧q<np):=jH (CK.out.mono fun e w' k=>by
  obtain ⟨aL,cL,aA,cA,h1,h2,h3⟩:=k
  exact ⟨_,_,_,_,aL,cL,aA,cA,h1,by rw [hL];exact h2.row,by rw [hX];exact h2.ats,h3,by rw [hL,numR_len],hln,hcl5,hqp⟩)
 rw [← hL] at HCL
 rw [← hX] at HX
 clear h hc hB hV hPt hp ho hl hfp hfpp hSF hp8 hway hOd hcl hok hrg hx hmu hL hX CK hln hcl5 hqp
 go_enter Tryz.func22,Tryz.ntmps22
 go_upto_region 1 with fail
 change Code.wp _ _ _ _ ((w.alloc (uO a n cap (some ⟨ug,uo,none⟩) un ucap mn)).alloc zT.o)
 rw [← HV.out]
 clear HV
 obtain ⟨u0,u1,u2⟩:=A2.out.un
 go_upto_region 2 with (go_at_call 50;refine CK2.out.mono ?_;rintro e w1 ⟨lv,np,cn,nl,aL,cL,aA,cA,rfl,hR,hA,hb1,hnl,hlt,hl5,hqp⟩;have HR:=jH hR;have HA:=jH hA;have HB1:=jH hb1;have HNL:=jH hnl;clear hR hA hb1 hnl u0 u1 u2)
 have A8:Hid (At (w1.alloc (rgO lv np cn (.slice aL nl cL) (.slice aA np cA))) w1.heap.size (rgO lv np cn (.slice aL nl cL) (.slice aA np cA))):=jH (At.new _ _)
 have A22:=jH ((A2.out.below HB1.out).alloc (rgO lv np cn (.slice aL nl cL) (.slice aA np cA)))
 have A42:=jH ((A4.out.below HB1.out).alloc (rgO lv np cn (.slice aL nl cL) (.slice aA np cA)))
 have HB2:=jH (belA HB1.out (o:=(rgO lv np cn (.slice aL nl cL) (.slice aA np cA))))
 obtain ⟨fl,lo,hi,hRow⟩:=HR.out
 have HR2:=jH (hRow.bel (belA bR (o:=(rgO lv np cn (.slice aL nl cL) (.slice aA np cA)))))
 have HA2:=jH (own_bel HA.out (belA bR (o:=(rgO lv np cn (.slice aL nl cL) (.slice aA np cA)))))
 have HS2:=jH HB1.out.size
 obtain ⟨b8,hb8⟩:∃ b8,b8=w1.heap.size:=⟨_,rfl⟩
 rw [← hb8] at A8 HS2 ⊢
 generalize (w1.alloc (rgO lv np cn (.slice aL nl cL) (.slice aA np cA)))=U at A8 A22 A42 HB2 HR2 HA2 ⊢
 clear HR HA HB1 hRow A2 A4 CK2 hb8
 obtain ⟨u0,u1,u2⟩:=A22.out.un
 obtain ⟨x1,x2,x3,x4⟩:=HPT.out _ (jB HB.out HB2.out)
 have HX4:=jH x4
 clear x4
 go_upto_region 5 with (first
  | ((with_reducible show wpList _ _ _ (Oper.mk (some _) (Op.load 65 _) _ _ _ none::_) _ _);refine wpl_load64 pg (po+q*21) (pC pv) rfl rfl HX4.out Tryz.underlying65 rfl ?_)
  | ((with_reducible show wpList _ _ _ (Oper.mk none (Op.store 65 _ _) _ _ _ none::_) _ _);refine wpl_store64 U.heap.size (there_new U _ _ 21 rfl) (by simp) pv rfl rfl ?_;intro U3 hr3 hl3 hb3;have HR3:=jH hr3;have HL3:=jH hl3;have HBT3:=jH hb3;clear hr3 hb3 hl3))
 have k8:=jH ((A8.out.alloc _).but HBT3.out (by have:=A8.out.lt;omega))
 have k2:=jH ((A22.out.alloc _).but HBT3.out (by have:=A22.out.lt;omega))
 have k4:=jH ((A42.out.alloc _).but HBT3.out (by have:=A42.out.lt;omega))
 have kb:=jH (belBut (belA HB2.out) HBT3.out HB2.out.size (by have:=HB2.out.size;simp;omega))
 have kR:=jH (belBut (belA (Below.refl U.heap.size U)) HBT3.out (Nat.le_refl _) (by simp))
 have kr:=jH (HR2.out.bel kR.out)
 have ka:=jH (own_bel HA2.out kR.out)
 obtain ⟨b10,hb10⟩:∃ b10,b10=U.heap.size:=⟨_,rfl⟩
 rw [← hb10] at HR3 HL3 ⊢
 have HS3:Hid (b8<b10):=jH (by rw [hb10];exact A8.out.lt)
 clear A8 A22 A42 HB2 HR2 HA2 HBT3 HX4 u0 u1 u2 x1 x2 x3 hb10 kR
 obtain ⟨gL,cL2,c',f,hv,hgl,hgB,hc1,hf1,hC5,hOw⟩:=kr.out.at (n:=0) (i:=l) (by rw [← HNL.out];exact hlt)
 rw [HCL.out] at hc1
 cases hc1
 have ev:aL=some ⟨gL,0,none⟩:=by have:=hv;simp only [Value.slice.injEq] at this;exact this.1
 subst ev
 have hTy:=hOw.ty HRG.out
 obtain ⟨gA,cA2,hvA⟩:=own_is ka.out (by omega)
 have evA:aA=some ⟨gA,0,none⟩:=by have:=hvA;simp only [Value.slice.injEq] at this;exact this.1
 subst evA
 have hxA:=own_cell ka.out (iC_at HX.out)
 have hgA:=(ka.out.lt gA rfl).2
 have hgAB:=own_lo ka.out gA rfl
 obtain ⟨pv1,pv3⟩:=HPV.out
 have y13:U3.cell? ⟨b10,13,none⟩=some (.int .i64 (l:Int)):=by have:=HR3.out 13 _ rfl;rw [Nat.zero_add,pv1] at this;exact this
 have y14:U3.cell? ⟨b10,14,none⟩=some (.slice fpa fpn fpc):=by have:=HR3.out 14 _ rfl;rw [Nat.zero_add,pv1] at this;exact this
 have y15:U3.cell? ⟨b10,15,none⟩=some (.bool mu):=by have:=HR3.out 15 _ rfl;rw [Nat.zero_add,pv3] at this;exact this
 have CTy:=jH (rtypeOf_any U3 (HSF.out.bel (jB HB.out kb.out)) gL 0 l nl cL fpa fpn fpc (HPA.out.bel (jB HB.out kb.out)) HP8.out hlt hl5 (by rw [Nat.zero_add];exact hC5) hTy HOK.out HWY.out HOD.out)
 obtain ⟨u0,u1,u2⟩:=k2.out.un
 obtain ⟨d0,d1,d2,d3,d4⟩:=k8.out.rg
 have hl8:=k8.out.lt
 have hl10:=HL3.out
 have HXA:=jH hxA
 have HGA:=jH (And.intro hgA hgAB)
 have HY15:=jH y15
 clear hxA hgA hgAB pv1 pv3 hv hvA hC5 hTy hOw hf1 hgl hgB
 go_upto_region 6 with (go_at_call 46;refine CTy.out.mono ?_;rintro e w4 ⟨⟨k5,m5,r5,s5,a5,n5,c5⟩,rfl,hN⟩;have HN:=jH hN;clear hN)
 clear y13 y14 y15 u0 u1 u2 d0 d1 d2 d3 d4 hl8 hl10
 have z4:=jH (((k4.out.below HN.out.bel).alloc (tyO k5 m5 r5 s5 a5 n5 c5)))
 have z8:=jH (((k8.out.below HN.out.bel).alloc (tyO k5 m5 r5 s5 a5 n5 c5)))
 have z11:Hid (At (w4.alloc (tyO k5 m5 r5 s5 a5 n5 c5)) w4.heap.size (Fv.o ⟨k5,m5,r5,s5,a5,n5,c5⟩)):=jH (At.new _ _)
 have zb:=jH (belA HN.out.bel (o:=tyO k5 m5 r5 s5 a5 n5 c5))
 have zO:Hid (OwnL (w4.alloc (tyO k5 m5 r5 s5 a5 n5 c5)) U3.heap.size w4.heap.size ⟨k5,m5,r5,s5,a5,n5,c5⟩ d):=jH (HN.out.own.bel (belA bR))
 have zs:=jH HN.out.bel.size
 have zs2:Hid ((w4.alloc (tyO k5 m5 r5 s5 a5 n5 c5)).heap.size=w4.heap.size+1):=jH (by simp)
 obtain ⟨b11,hb11⟩:∃ b11,b11=w4.heap.size:=⟨_,rfl⟩
 rw [← hb11] at z11 zO zs zs2 ⊢
 generalize (w4.alloc (tyO k5 m5 r5 s5 a5 n5 c5))=U5 at z4 z8 z11 zb zO zs2 ⊢
 clear hb11
 have zx:=jH ((zb.out.cell (p:=⟨gA,q,none⟩) HGA.out.1).trans HXA.out.1)
 have zy:=jH ((zb.out.cell (p:=⟨b10,15,none⟩) HL3.out).trans HY15.out)
 have hsz:Hid (w.heap.size+2≤V.heap.size∧V.heap.size≤b8∧b8<b10∧b10<U3.heap.size∧U3.heap.size≤b11∧b11<U5.heap.size):=jH ⟨by have:=hz.out;omega,HS2.out,HS3.out,HL3.out,zs.out,by have:=zs2.out;omega⟩
 have n1:b8≠w.heap.size+1:=by have:=hsz.out;omega
 have n2:b10≠w.heap.size+1:=by have:=hsz.out;omega
 have n3:b11≠w.heap.size+1:=by have:=hsz.out;omega
 have n4:gA≠w.heap.size+1:=by have:=hsz.out;have:=HGA.out.2;omega
 have hxl:gA<U5.heap.size:=by have:=hsz.out;have:=HGA.out.1;omega
 have hqi:(q:Int)<(np:Int):=by omega
 have hnp5:True:=trivial
 have SB:Hid (∀ W,But (w.heap.size+1) U5 W→W.cell? ⟨b10,15,none⟩=some (.bool mu)∧W.cell? ⟨b8,4,none⟩=some (.slice (some ⟨gA,0,none⟩) np cA)∧W.cell? ⟨gA,q,none⟩=some (.int .i64 x)∧C5 W b11 0 ⟨k5,m5,r5,s5,a5,n5,c5⟩∧b10<W.heap.size∧b8<W.heap.size∧gA<W.heap.size):=jH fun W hW=>by
  have hs:=hsz.out
  refine ⟨(cell_heap (hW.block b10 (by omega) (fun e=>n2 (Option.some.inj e))) _).trans zy.out,(z8.out.but hW n1).rg.2.2.2.2,(cell_heap (hW.block gA hxl (fun e=>n4 (Option.some.inj e))) _).trans zx.out,(z11.out.but hW n3).ty,?_,?_,?_⟩ <;> have:=hW.size <;> omega
 have hq0:True:=trivial
 have HA6:Hid (At U5.drew (w.heap.size+1) zT.o):=jH (z4.out.below bR.drew)
 refine beginH (S:=fun W=>But (w.heap.size+1) U5 W) (fun _ _ _ _ _ h=>h) (by kernel_rfl) (But.below bR.drew) (fun hq hH=>?_)
 refine tz 0 39 (.pointer (some ⟨b10,15,none⟩)) hq rfl rfl hH ?_
 simp only [pb,pc]
 refine tq 1 40 (.bool mu) hq rfl rfl (fun W hSw=>by (obtain ⟨c1,c2,c3,⟨hc4,p0,p1,p2,p3,p4⟩,h1,h2,h3⟩:=SB.out _ hSw;go_simp;try rfl)) hH ?_
 simp only [pb,pc]
 refine tz 2 41 (.pointer (some ⟨b8,4,none⟩)) hq rfl rfl hH ?_
 simp only [pb,pc]
 refine tq 3 42 (.slice (some ⟨gA,0,none⟩) np cA) hq rfl rfl (fun W hSw=>by (obtain ⟨c1,c2,c3,⟨hc4,p0,p1,p2,p3,p4⟩,h1,h2,h3⟩:=SB.out _ hSw;go_simp;try rfl)) hH ?_
 simp only [pb,pc]
 refine tz 4 43 (.int .i64 (q:Int)) hq rfl rfl hH ?_
 simp only [pb,pc]
 refine tz 5 44 (.pointer (some ⟨gA,q,none⟩)) hq rfl rfl hH ?_
 simp only [pb,pc]
 refine tq 6 45 (.int .i64 x) hq rfl rfl (fun W hSw=>by (obtain ⟨c1,c2,c3,⟨hc4,p0,p1,p2,p3,p4⟩,h1,h2,h3⟩:=SB.out _ hSw;go_simp;try rfl)) hH ?_
 simp only [pb,pc]
 refine tq 7 46 (tyV k5 m5 r5 s5 a5 n5 c5) hq rfl rfl (fun W hSw=>by (obtain ⟨-,-,-,⟨-,p0,p1,p2,p3,p4⟩,-,-,-⟩:=SB.out _ hSw;simp only [Nat.zero_add] at p0 p1 p2 p3 p4;go_simp;try rfl)) hH ?_
 simp only [pb,pc]
 generalize U5.drew=W0 at hH HA6 ⊢
 refine aR1 8 rfl (fun K hK=>?_)
 go_simp
 go_wp2_with fail
 have HA7:=jH (HA6.out.alloc (tyO k5 m5 r5 s5 a5 n5 c5))
 have HW0:=jH hH
 have HAZ:Hid (At (W0.alloc (tyO k5 m5 r5 s5 a5 n5 c5)) W0.heap.size (Fv.o ⟨k5,m5,r5,s5,a5,n5,c5⟩)):=jH (At.new _ _)
 have HZ0:Hid ((W0.alloc (tyO k5 m5 r5 s5 a5 n5 c5)).heap.size=W0.heap.size+1):=jH (by simp)
 refine hK.out _ _ (show But (w.heap.size+1) U5 (W0.alloc (tyO k5 m5 r5 s5 a5 n5 c5)) from hH.trans (But.below (belA bR))) (fun hHeld2=>?_)
 clear hK K hH
 have hH:=hHeld2
 clear hHeld2
 try simp only [Act.put,List.setIfInBounds_toArray,pb,pc]
 obtain ⟨bz,hbz⟩:∃ bz,bz=W0.heap.size:=⟨_,rfl⟩
 have HBZ:Hid (U5.heap.size≤bz):=jH (by rw [hbz];exact HW0.out.size)
 rw [← hbz] at HAZ HZ0 ⊢
 generalize (W0.alloc (tyO k5 m5 r5 s5 a5 n5 c5))=W1 at HA7 HAZ HZ0 hH ⊢
 clear HA6 HW0 hbz
 refine tz 9 48 (tyV 4 mu x 0 (some ⟨bz,0,none⟩) 1 1) hq rfl rfl hH ?_
 simp only [pb,pc]
 refine aRd [10] ?_
 refine AllReadyH.cons (o:={ dst:=none,op:=.store 46 (.tmp 6) (.tmp 48),type:=0,pos := "region.go:29",after:=_,guard:=none }) rfl (fun K hK=>?_) AllReadyH.nil
 rw [if_pos (by rfl)]
 refine wp_store_mid 46 (.tmp 6) (.tmp 48) rfl (w.heap.size+1) 0 (t5 ⟨4,mu,x,0,some ⟨bz,0,none⟩,1,1⟩).toArray rfl rfl (fun j hj=>?_) size46 (all_oneCell_toArray (t5_ones _)) ?_
 ·have hA:=HA7.out
  unfold At at hA
  refine ⟨?_,frozen_of_row _ _ _ _ _ hA⟩
  rw [cell_of_row _ _ _ _ _ _ hA,Nat.zero_add]
  have:j<5:=hj
  simp [zT,Fv.o,this]
 refine hK.out _ _ (show But (w.heap.size+1) U5 (W1.setCells (w.heap.size+1) 0 (t5 ⟨4,mu,x,0,some ⟨bz,0,none⟩,1,1⟩)) from hH.trans (but_setCells _ _ _ _)) (fun hHeld2=>?_)
 clear hK K
 try simp only [Act.put,List.setIfInBounds_toArray,pb,pc]
 have hHeld3:=hH
 clear hH
 have hH:=hHeld2
 clear hHeld2
 refine tz 11 7 (.int .i64 0) hq rfl rfl hH ?_
 simp only [pb,pc]
 refine wpAnyH_done (by kernel_rfl) ?_ _
 have hs:=hsz.out
 have hW1:=HZ0.out
 have hbzU:=HBZ.out
 have hO1:OwnL W1 U3.heap.size b11 ⟨k5,m5,r5,s5,a5,n5,c5⟩ d:=zO.out.keep fun g0 o0 h1 h2 hA=>hA.but hHeld3 (by omega)
 have hW9:W1.setCells (w.heap.size+1) 0 (t5 ⟨4,mu,x,0,some ⟨bz,0,none⟩,1,1⟩)=S5 W1 (w.heap.size+1) ⟨4,mu,x,0,some ⟨bz,0,none⟩,1,1⟩:=rfl
 rw [hW9] at hH ⊢
 have F1:C5 (S5 W1 (w.heap.size+1) ⟨4,mu,x,0,some ⟨bz,0,none⟩,1,1⟩) (w.heap.size+1) 0 ⟨4,mu,x,0,some ⟨bz,0,none⟩,1,1⟩:=(HA7.out.set5 ⟨4,mu,x,0,some ⟨bz,0,none⟩,1,1⟩).ty
 have hBel:Below w.heap.size w (S5 W1 (w.heap.size+1) ⟨4,mu,x,0,some ⟨bz,0,none⟩,1,1⟩):=((jB HB.out (kb.out.trans (zb.out.mono (by have:=kb.out.size;omega)))).grown hH (by have:=HB.out.size;omega) (fun k e=>by cases e;omega))
 have F2:New w (S5 W1 (w.heap.size+1) ⟨4,mu,x,0,some ⟨bz,0,none⟩,1,1⟩) ⟨4,mu,x,0,some ⟨bz,0,none⟩,1,1⟩ (.ref mu x d):=⟨.ref mu x bz ⟨k5,m5,r5,s5,a5,n5,c5⟩ d (by omega) (by rw [size_S5];omega) (HAZ.out.S5 (by omega) _) ((hO1.keep fun g0 o0 h1 h2 hA=>hA.S5 (by omega) _).low (by omega) (by rw [size_S5];omega)),hBel⟩
 clear hH hq
 go_wp2_with fail
 exact bodyPost_ret (results_c2 (g:=⟨4,mu,x,0,some ⟨bz,0,none⟩,1,1⟩) Tryz.results22 rfl rfl F1) rfl ⟨⟨4,mu,x,0,some ⟨bz,0,none⟩,1,1⟩,rfl,F2⟩
theorem Borrowed_no {w:World} {a ua:Option Addr} {n cap un ucap:Nat} {mn:Int} {gs:List Grp} {j:Nat} {g:Grp} {cl:List Ch} {fc:Nat→List Ch} (h:UG1 w a ua n cap un ucap mn gs j g cl fc) (hc:cntP gs (cntL g.lv cl) g.pt≤512) {q:Nat} {p:Pnt} (hp:g.pt[q]?=some p) (ho:p.op≠4) :
  Calls Tryz.prog 22 #[uV a n cap ua un ucap mn,.int .i64 (j:Int),.int .i64 (q:Int)] w fun e w'=>e=.returned (.tuple #[zT.v,.int .i64 130])∧Below w.heap.size w w':=by
 obtain ⟨V,hV⟩:∃ V,V=(w.alloc (uO a n cap ua un ucap mn)).alloc zT.o:=⟨_,rfl⟩
 have hB:Below w.heap.size w V:=by rw [hV];exact belA (belA bR)
 have A2:Hid (At V w.heap.size (uO a n cap ua un ucap mn)):=jH (by rw [hV];exact (At.new _ _).alloc _)
 have A7:Hid (At V (w.heap.size+1) zT.o):=jH (by rw [hV];exact at_snd _ _ _)
 have HB:=jH hB
 have HV:=jH hV
 have CK:=jH (maker_no (h.bel hB) hc hp 4 ho)
 clear h hc hp ho hB hV
 go_enter Tryz.func22,Tryz.ntmps22
 go_upto_region 1 with fail
 change Code.wp _ _ _ _ ((w.alloc (uO a n cap ua un ucap mn)).alloc zT.o)
 rw [← HV.out]
 clear HV
 obtain ⟨u0,u1,u2⟩:=A2.out.un
 go_upto_region 2 with (go_at_call 50;refine CK.out.mono ?_;rintro e w1 ⟨rfl,hb1⟩;have HB1:=jH hb1;clear hb1 u0 u1 u2)
 have HB2:=jH (belA HB1.out (o:=(rgO 0 0 0 (.slice none 0 0) (.slice none 0 0))))
 change Code.wp _ _ _ _ (w1.alloc (rgO 0 0 0 (.slice none 0 0) (.slice none 0 0)))
 generalize (w1.alloc (rgO 0 0 0 (.slice none 0 0) (.slice none 0 0)))=U at HB2 ⊢
 have B4:=A7.out.below HB2.out
 have g0:=B4.tyF 0
 have g1:=B4.tyF 1
 have g2:=B4.tyF 2
 have g3:=B4.tyF 3
 have g4:=B4.tyF 4
 obtain ⟨hl4,q0,q1,q2,q3,q4⟩:=B4.ty
 simp only [Nat.zero_add] at q0 q1 q2 q3 q4
 go_wp2_with fail
 obtain ⟨F1,F2⟩:=new_zero (jB HB.out HB2.out) (b:=w.heap.size+1) (by omega) B4
 exact bodyPost_ret (results_c2 (g:=zT) Tryz.results22 rfl rfl F1) rfl ⟨rfl,F2.bel⟩
structure JK (w0:World) (b9 b5:Nat) (lv:Int) (np:Nat) (cn:Int) (vL:Value) (gA cA:Nat) (q:Nat) (_l:List Int) (W:World):Prop where
 a9:At W b9 (rgO lv np cn vL (.slice (some ⟨gA,0,none⟩) np cA))
 a5:At W b5 (One (.int .i64 (q:Int)) 3)
 bel:Below w0.heap.size w0 W
theorem turnK (w0:World) (b9 b5:Nat) (lv:Int) (np:Nat) (cn:Int) (vL:Value) (gA cA:Nat) (q:Nat) (x:Int) (hgA:gA<w0.heap.size) (hx:w0.cell? ⟨gA,q,none⟩=some (.int .i64 x)) (hq:q<np) (h9:b9<w0.heap.size) (h5:b5<w0.heap.size) (hn:np≤100000) (x0:-1≤x) (x1:x≤100000) :
  TurnR 51 [.pointer (some ⟨b9,0,none⟩),.pointer (some ⟨b5,0,none⟩)] (fun _ r=>0≤r∧r≤100000) w0 w0.heap.size (JK w0 b9 b5 lv np cn vL gA cA q) (fun _ r=>x+r) where
 enters:=fun args W=>by kernel_rfl
 alloc:=fun l W o h=>⟨h.a9.alloc o,h.a5.alloc o,h.bel.alloc h.bel.size o⟩
 set:=fun l W W' i f h hA hi hb=>⟨h.a9.but hb (by omega),h.a5.but hb (by omega),h.bel.grown hb h.bel.size (fun k hk=>by cases hk;exact hi)⟩
 bel:=fun l W h=>h.bel
 siz:=fun l W h=>h.bel.size
 call:=by
  rintro l r W ⟨l0,l1⟩ r0 r1 hJ
  have hcx:=(hJ.bel.cell (p:=⟨gA,q,none⟩) hgA).trans hx
  show Calls Tryz.prog 51 #[.int .i64 r,.pointer (some ⟨b9,0,none⟩),.pointer (some ⟨b5,0,none⟩)] W _
  have FIN:Hid (JK w0 b9 b5 lv np cn vL gA cA q (l++[r]) W∧KeepT W W∧W.heap.size≤W.heap.size):=jH ⟨⟨hJ.a9,hJ.a5,hJ.bel⟩,fun i f x=>x,Nat.le_refl _⟩
  obtain ⟨d0,d1,d2,d3,d4⟩:=hJ.a9.rg
  obtain ⟨c0,f0⟩:=hJ.a5.one
  have hlt5:=hJ.a5.lt
  have hlt9:=hJ.a9.lt
  have hgW:gA<W.heap.size:=Nat.lt_of_lt_of_le hgA hJ.bel.size
  have k0:(0:Int)≤(q:Int):=by omega
  have k1:(q:Int)<(np:Int):=by omega
  have w1:IntKind.i64.wrap (x+r)=x+r:=by rw [IntKind.wrap_i64];omega
  clear hJ hx hgA h9 h5 r0 r1
  go_enter Tryz.func51,Tryz.ntmps51
  (first|go_wp2_with fail|go_region)
  go_ret
  exact ⟨rfl,FIN.out⟩
end Go.Proofs.YtdlggpcakaofoaaGreat
