import Derived.Test.YtmjenlogbkbgnaaGreatDoorB06
namespace Go.Proofs.YtmjenlogbkbgnaaGreatDoor
open Go.RowKit Go.Shelf
set_option linter.unusedVariables false
set_option linter.unusedSimpArgs false
set_option maxRecDepth 100000
set_option maxHeartbeats 8000000
theorem drops_ne (f:Fv) (w:World) (hk:¬ (f.k:Int)=5) (sv:Value):Calls Tryz.prog 211 #[sv,f.v] w fun e w'=>e=.returned (.bool (decide ((f.k:Int)=3)))∧Below w.heap.size w w':=by
 obtain ⟨k,m,r,s,a,n,cap⟩:=f
 have k5:¬ (k:Int)=5:=hk
 have k6:((k:Int) == 5)=false:=by simpa using k5
 show Calls Tryz.prog 211 #[sv,tyV k m r s a n cap] w fun e w'=>e=.returned (.bool (decide ((k:Int)=3)))∧Below w.heap.size w w'
 clear hk
 by_cases k3:(k:Int)=3
 ·rw [decide_eq_true k3]
  go_enter Tryz.func211,Tryz.ntmps211
  go_wp2_with fail
  go_ret
  exact ⟨rfl,belA bR⟩
 ·rw [decide_eq_false k3]
  have k4:((k:Int) == 3)=false:=by simpa using k3
  go_enter Tryz.func211,Tryz.ntmps211
  go_wp2_with fail
  go_ret
  exact ⟨rfl,belA bR⟩
theorem take_any' (ss:List (List Ty)) {l:List Ty} {k:Nat} {t:Ty} (h:l[k]?=some t):(l.take (k+1)).any (dpT ss)=((l.take k).any (dpT ss) || dpT ss t):=by
 rw [List.take_add_one,h]
 simp
theorem drops_any (w0:World) (a:Option Addr) (n cap:Nat) (ss:List (List Ty)) (h:StAt w0 a n cap ss) (hn:n≤32) (hF:Fine ss) (rk:Nat→Nat) (hr:Rank ss rk) :
  ∀ (c j:Nat) (W:World) (V:Fv),rk j<c→j<n→Below w0.heap.size w0 W→V.k=5→V.s=(j:Int) →
   Calls Tryz.prog 211 #[.slice a n cap,V.v] W fun e w'=>e=.returned (.bool (dp ss j))∧Below W.heap.size W w':=by
 intro c
 induction c with
 | zero=>intro j W V hc;omega
 | succ c ih =>
  intro j W V hc hj hBW hVk hVs
  obtain ⟨vk,vm,vr,vs,va,vn,vcap⟩:=V
  simp only at hVk hVs
  subst hVk
  subst hVs
  show Calls Tryz.prog 211 #[.slice a n cap,tyV 5 vm vr (j:Int) va vn vcap] W _
  have q0:(0:Int)≤(j:Int):=by omega
  have q2:(j:Int)<(n:Int):=by omega
  have HC:=jH hc
  have HBW:=jH hBW
  have HLN:=jH h.len
  obtain ⟨x,hx⟩:∃ x,x=dp ss j:=⟨_,rfl⟩
  have HX:=jH hx
  rw [← hx]
  obtain ⟨fs,hfs⟩:∃ fs,ss[j]?=some fs:=⟨_,List.getElem?_eq_getElem (by have:=h.len;omega)⟩
  obtain ⟨g,off,fa,fcap,hag,hg,hcell,hFd⟩:=h.field hBW hfs
  obtain ⟨f1,f2,f3⟩:=hF j fs hfs
  have hg2:g<W.heap.size:=Nat.lt_of_lt_of_le hg hBW.size
  have HFL:=jH (fld_of hfs)
  have IH:=jH ih
  have HF:=jH hFd
  have HP:=jH f3
  have HR:=jH hr
  obtain ⟨m,hm⟩:∃ m,m=fs.length:=⟨_,rfl⟩
  have HM:=jH hm
  have m8:m≤8:=by omega
  rw [← hm] at hcell
  subst hag
  clear f1 f2 f3 hm hfs hF ih hc hBW h hFd hr hx
  go_enter Tryz.func211,Tryz.ntmps211
  go_wp2_with fail
  go_loopw [20] (fun v20 Z=>∃ k:Nat,k≤m∧v20=.int .i64 k∧(fs.take k).any (dpT ss)=false∧Below W.heap.size W Z) (fun v20 _=>m - (intOf v20).toNat)
  case atStart=>exact ⟨0,Nat.zero_le _,rfl,rfl,belA bR⟩
  case round =>
   obtain ⟨k,hk,rfl,hany,hBV⟩:=hrel
   have HBV:=jH hBV
   have HAN:=jH hany
   have hB0:=HBW.out.trans (hBV.mono HBW.out.size)
   have HB0:=jH hB0
   have HFk:=jH (HF.out.bel hB0)
   clear hBV hB0 hany
   by_cases hlk:k<m
   ·obtain ⟨t,ht⟩:∃ t,fs[k]?=some t:=⟨_,List.getElem?_eq_getElem (by have:=HM.out;omega)⟩
    obtain ⟨g',off',hfa,hkk⟩:=HFk.out.2 (fun e=>by subst e;simp at ht)
    obtain ⟨V,nm,hnm,hV5,hVt⟩:=hkk k t ht
    have HTT:=jH ht
    have HPT:=jH (HP.out t (List.mem_of_getElem? ht))
    have HVT:=jH hVt
    obtain ⟨hl5,p0,p1,p2,p3,p4⟩:=hV5
    subst hfa
    have e0:(0:Int)≤(k:Int):=by omega
    have e1:(k:Int)<(m:Int):=by omega
    have e2:(k:Int)≤1000:=by omega
    have CW:Hid (∀ (y:Bool),y=dpT ss t→∀ W1,Below w0.heap.size w0 W1→Calls Tryz.prog 211 #[.slice (some ⟨g,off,none⟩) n cap,V.v] W1 fun e w'=>e=.returned (.bool y)∧Below W1.heap.size W1 w'):=jH (fun y hy W1 hB1=>by
     rw [hy]
     cases hs:subT t with
     | none =>
      obtain ⟨h1,h2⟩:=dpT_ne ss HPT.out hs HVT.out
      rw [h2]
      exact drops_ne V W1 h1 _
     | some l =>
      obtain ⟨hl,rfl⟩:=HPT.out.sub hs
      obtain ⟨ta,tcap,rfl,-⟩:=HVT.out.leaf
      have hst:Stp ss j l:=⟨_,by rw [HFL.out];exact List.mem_of_getElem? HTT.out,hs⟩
      have:=HR.out.2 j l hst
      have hc':=HC.out
      have e:dpT ss (Ch.leaf 5 (l:Int)).ty=dp ss l:=by unfold dpT;rw [hs]
      rw [e]
      exact IH.out l W1 _ (by omega) (by have:=HLN.out;omega) hB1 rfl rfl)
    clear hkk ht hVt
    have HBX:Hid (∀ o1,Below w0.heap.size w0 (wr.alloc o1)):=jH (fun o1=>HB0.out.alloc HB0.out.size o1)
    cases hy:dpT ss t with
    | true =>
     have CW1:=jH (CW.out true hy.symm)
     have hx1:x=true:=by
      rw [HX.out,dp_eq HR.out,HFL.out]
      exact List.any_eq_true.2 ⟨t,List.mem_of_getElem? HTT.out,hy⟩
     have HX1:=jH hx1
     clear CW hx1
     go_wp2_with (go_at_call 211;refine (CW1.out _ (HBX.out _)).mono ?_;rintro e w1 ⟨rfl,hb1⟩)
     go_ret
     rw [HX1.out]
     exact ⟨rfl,jB (belA HBV.out) hb1⟩
    | false =>
     have CW1:=jH (CW.out false hy.symm)
     clear CW
     go_wp2_with (go_at_call 211;refine (CW1.out _ (HBX.out _)).mono ?_;rintro e w1 ⟨rfl,hb1⟩)
     refine ⟨⟨k+1,hlk,by go_num,?_,jB (belA HBV.out) hb1⟩,?_⟩
     ·rw [take_any' ss HTT.out,HAN.out,hy]
      rfl
     ·show m - ((k:Int)+1).toNat<m - (k:Int).toNat
      omega
   ·obtain rfl:k=m:=by omega
    have z1:¬ ((k:Int)<(k:Int)):=by omega
    have hx1:x=false:=by
     rw [HX.out,dp_eq HR.out,HFL.out,← List.take_of_length_le (l:=fs) (i:=k) (by have:=HM.out;omega)]
     exact HAN.out
    have HX1:=jH hx1
    clear hx1
    go_wp2_with fail
    go_ret
    rw [HX1.out]
    exact ⟨rfl,HBV.out⟩
theorem MayT_any (a:Option Addr) (n cap:Nat) (ss:List (List Ty)) (w:World) (h:StAt w a n cap ss) (b1 b2 b3:Nat→Bool) (hb:Flt ss b1 b2 b3) (t:Ty) (f:Fv) (ht:TyAt w f t) (x:Bool) (hx:x=mayS n b1 b2 b3 t) :
  Calls Tryz.prog 210 #[.slice a n cap,f.v] w fun e w'=>e=.returned (.bool x)∧Below w.heap.size w w':=by
 have A0:At (w.alloc f.o) w.heap.size f.o:=At.new _ _
 obtain ⟨rr,hrr⟩:∃ rr,rr=mayB n 48 t:=⟨_,rfl⟩
 have CM:Hid (∀ W,Below w.heap.size w W→Calls Tryz.prog 80 #[.int .i64 (n:Int),f.v] W fun e w'=>e=.returned (.bool rr)∧Below W.heap.size W w'):=jH (fun W hW=>by rw [hrr];exact mayAmong_any n t f W (ht.bel hW))
 have HX:Hid (x=(decide ((stRes n b1 b2 b3).2=0) && rr)):=jH (by rw [hx,hrr];rfl)
 rcases stRes_e n b1 b2 b3 with he|he
 ·have CS:Hid (∀ W,Below w.heap.size w W→Calls Tryz.prog 167 #[.slice a n cap] W fun e w'=>e=.returned (.tuple #[.int .i64 0,.int .i64 0])∧Below W.heap.size W w'):=jH (fun W hW=>by
   have:=Structs_any a n cap ss W (h.bel hW) b1 b2 b3 hb
   rw [(stRes_ok he).2.2.2.2] at this
   exact this)
  have HX2:Hid (x=rr):=jH (by rw [HX.out,he];rfl)
  obtain ⟨k,m,r,s,aa,nn,cc⟩:=f
  show Calls Tryz.prog 210 #[.slice a n cap,tyV k m r s aa nn cc] w _
  clear h hb hrr he hx ht HX
  go_enter Tryz.func210,Tryz.ntmps210
  go_wp2_with (first
   | (go_at_call 167;refine (CS.out _ (belA bR)).mono ?_;rintro e w1 ⟨rfl,hb1⟩;obtain ⟨hl,p0,p1,p2,p3,p4⟩:=(A0.below hb1).ty)
   | (go_at_call 80;refine (CM.out w1 (below1 hb1)).mono ?_;rintro e w2 ⟨rfl,hb2⟩))
  go_ret
  rw [HX2.out]
  exact ⟨rfl,jB (below1 hb1) hb2⟩
 ·have CS:Hid (∀ W,Below w.heap.size w W→∃ q:Int,Calls Tryz.prog 167 #[.slice a n cap] W fun e w'=>e=.returned (.tuple #[.int .i64 q,.int .i64 2])∧Below W.heap.size W w'):=jH (fun W hW=>by
   have:=Structs_any a n cap ss W (h.bel hW) b1 b2 b3 hb
   rw [he] at this
   exact ⟨_,this⟩)
  have HX2:Hid (x=false):=jH (by rw [HX.out,he];rfl)
  obtain ⟨k,m,r,s,aa,nn,cc⟩:=f
  obtain ⟨q,hq⟩:=CS.out _ (belA (o:=tyO k m r s aa nn cc) bR)
  have CQ:=jH hq
  show Calls Tryz.prog 210 #[.slice a n cap,tyV k m r s aa nn cc] w _
  clear h hb hrr he hx ht HX CS hq
  go_enter Tryz.func210,Tryz.ntmps210
  go_wp2_with (go_at_call 167;refine CQ.out.mono ?_;rintro e w1 ⟨rfl,hb1⟩;obtain ⟨hl,p0,p1,p2,p3,p4⟩:=(A0.below hb1).ty)
  go_ret
  rw [HX2.out]
  exact ⟨rfl,below1 hb1⟩
theorem Drops_yes (a:Option Addr) (n cap:Nat) (ss:List (List Ty)) (w:World) (h:StAt w a n cap ss) (b1 b2 b3:Nat→Bool) (hb:Flt ss b1 b2 b3) (t:Ty) (f:Fv) (ht:TyAt w f t) (hx:mayS n b1 b2 b3 t=true) (q:Bool) (hq:q=dpT ss t) :
  Calls Tryz.prog 188 #[.slice a n cap,f.v] w fun e w'=>e=.returned (.tuple #[.bool q,.int .i64 0])∧Below w.heap.size w w':=by
 have CM:Hid (Calls Tryz.prog 210 #[.slice a n cap,f.v] (w.alloc f.o) fun e w'=>e=.returned (.bool true)∧Below (w.alloc f.o).heap.size (w.alloc f.o) w'):=jH (MayT_any a n cap ss _ (h.bel (belA bR)) b1 b2 b3 hb t f (ht.bel (belA bR)) true hx.symm)
 obtain ⟨hW,hmb⟩:=well_of h hb hx
 have A0:At (w.alloc f.o) w.heap.size f.o:=At.new _ _
 have CW:Hid (∀ W,Below w.heap.size w W→Calls Tryz.prog 211 #[.slice a n cap,f.v] W fun e w'=>e=.returned (.bool q)∧Below W.heap.size W w'):=jH (fun W hB=>by
  rcases may_kind hmb ht ss with ⟨j,hj,hs,h1,h2⟩|⟨hs,h1,h2⟩
  ·obtain ⟨rk,hr⟩:=hW.rank
   have e:q=dp ss j:=by rw [hq];unfold dpT;rw [hs]
   rw [e]
   exact drops_any w a n cap ss h hW.le hW.fine rk hr _ j W f (Nat.lt_succ_self _) hj hB h1 h2
  ·rw [hq,h2]
   exact drops_ne f W h1 _)
 obtain ⟨k,m,r,s,aa,nn,cc⟩:=f
 show Calls Tryz.prog 188 #[.slice a n cap,tyV k m r s aa nn cc] w _
 clear h hb ht hx hW hmb hq
 go_enter Tryz.func188,Tryz.ntmps188
 go_wp2_with (first
  | (go_at_call 210;refine CM.out.mono ?_;rintro e w1 ⟨rfl,hb1⟩;obtain ⟨hl,p0,p1,p2,p3,p4⟩:=(A0.below hb1).ty;have HB1:=jH hb1;clear hb1)
  | (go_at_call 211;refine (CW.out _ (below1 HB1.out)).mono ?_;rintro e w2 ⟨rfl,hb2⟩;have HB2:=jH hb2;clear hb2))
 go_ret2
 exact ⟨rfl,jB (below1 HB1.out) HB2.out⟩
def copB (c:Ch):Bool:=match c with|.leaf k _=>decide (k=1∨k=2)|.box _=>false|.ref m _ _=>!m
theorem Copies_yes (c:Ch) (f:Fv) (w:World) (hc:Ok c) (h:TyAt w f c.ty):Calls Tryz.prog 222 #[f.v] w fun e w'=>e=.returned (.bool (copB c))∧Below w.heap.size w w':=by
 have CS:Hid (Calls Tryz.prog 48 #[f.v] (w.alloc f.o) fun e w'=>e=.returned (.bool true)∧Below (w.alloc f.o).heap.size (w.alloc f.o) w'):=by
  have:=some_any c.ty f (w.alloc f.o) (h.bel (belA bR))
  rw [hc.is] at this
  exact this
 have A0:At (w.alloc f.o) w.heap.size f.o:=At.new _ _
 cases c with
 | leaf k s =>
  obtain ⟨a,cap,rfl,-⟩:=h.leaf
  show Calls Tryz.prog 222 #[tyV k false 0 s a 0 cap] w _
  have hk:(k=1∨k=2)∧s=0∨k=5∧0≤s∧s<32:=hc.ok
  clear h
  have hk2:k=1∨k=2∨k=5:=by omega
  clear hk
  rcases hk2 with rfl|rfl|rfl
  all_goals
   go_enter Tryz.func222,Tryz.ntmps222
   go_wp2_with (go_at_call 48;refine CS.out.mono ?_;rintro e w1 ⟨rfl,hb1⟩;obtain ⟨hl,p0,p1,p2,p3,p4⟩:=(A0.below hb1).ty)
   go_ret
   exact ⟨rfl,below1 hb1⟩
 | box c =>
  obtain ⟨g,off,cap,f',rfl,-⟩:=h.box
  show Calls Tryz.prog 222 #[tyV 3 false 0 0 (some ⟨g,off,none⟩) 1 cap] w _
  clear h
  go_enter Tryz.func222,Tryz.ntmps222
  go_wp2_with (go_at_call 48;refine CS.out.mono ?_;rintro e w1 ⟨rfl,hb1⟩;obtain ⟨hl,p0,p1,p2,p3,p4⟩:=(A0.below hb1).ty)
  go_ret
  exact ⟨rfl,below1 hb1⟩
 | ref m r c =>
  obtain ⟨g,off,cap,f',rfl,-⟩:=h.ref
  show Calls Tryz.prog 222 #[tyV 4 m r 0 (some ⟨g,off,none⟩) 1 cap] w _
  clear h
  go_enter Tryz.func222,Tryz.ntmps222
  go_wp2_with (go_at_call 48;refine CS.out.mono ?_;rintro e w1 ⟨rfl,hb1⟩;obtain ⟨hl,p0,p1,p2,p3,p4⟩:=(A0.below hb1).ty)
  go_ret
  exact ⟨by first|rfl|simp [copB],below1 hb1⟩
structure Plc where
 l:Int
 p:List Int
structure Opd where
 k:Nat
 n:Int
 pl:Plc
structure Pnt where
 op:Nat
 to:Plc
 a:Opd
 b:Opd
 args:List Opd
 sg:List UInt8
 fr:Plc
 mu:Bool
 fn:Int
 st:Int
 nx:Int
 el:Int
 pos:Int
structure Grp where
 nm:ByteArray
 lv:Int
 ou:List (Int × Int)
 pa:Int
 lo:List Ty
 ns:List ByteArray
 pt:List Pnt
def noPlc (p:Plc):Bool:=decide (p.l=0) && decide (p.p.length=0)
def noOpd (o:Opd):Bool:=decide (o.k=0) && decide (o.n=0) && noPlc o.pl
def fldO (op:Nat):Nat :=
 if op=1∨op=5 then 3 else if op=2 then 23 else if op=3 then 19 else if op=4 then 97 else if op=6 then 265 else if op=7 then 137
 else if op=8 then 1 else if op=9 then 2 else if op=10∨op=11 then 32 else if op=12 then 514 else 0
def restB (p:Pnt):Bool :=
 ((fldO p.op).testBit 0 || noPlc p.to) && ((fldO p.op).testBit 1 || noOpd p.a) && ((fldO p.op).testBit 2 || noOpd p.b) && ((fldO p.op).testBit 3 || decide (p.args.length=0)) &&
 ((fldO p.op).testBit 4 || decide (p.sg.length=0)) && ((fldO p.op).testBit 5 || noPlc p.fr) && ((fldO p.op).testBit 6 || !p.mu) && ((fldO p.op).testBit 7 || decide (p.fn=0)) &&
 ((fldO p.op).testBit 8 || decide (p.st=0)) && ((fldO p.op).testBit 9 || decide (p.el=0))
def goesB (np:Nat) (p:Pnt):Bool:=decide (0≤p.nx) && decide (p.nx<np) && (decide (0≤p.el) && decide (p.el<np)) && (!decide (p.op=14) || decide (p.nx=0))
structure Sc where
 fc:Nat→List Ch
 cl:List Ch
 dr:Nat→Bool
 hs:List (Nat × List Ch)
 np:Nat
def Sc.way (x:Sc) (p:Plc):Option (Ch × List Int):=wayP x.fc x.cl p.l p.p
def byRef (gs:List Int):Bool:=gs.any fun g=>decide (2≤g)
def byShr (gs:List Int):Bool:=gs.any fun g=>decide (g=3)
def Sc.opT (x:Sc) (o:Opd):Option Ch :=
 if o.k=1 then (if noPlc o.pl then some (.leaf 1 0) else none)
 else if o.k=2 then (if noPlc o.pl && (decide (o.n=0) || decide (o.n=1)) then some (.leaf 2 0) else none)
 else if o.k=3 then (x.way o.pl).bind fun y=>if decide (o.n=0) && copB y.1 then some y.1 else none
 else if o.k=4 then (x.way o.pl).bind fun y=>if decide (o.n=0) && !copB y.1 && !byRef y.2 then some y.1 else none
 else none
def Sc.opsT (x:Sc):List Opd→Option (List Ch)
 | []=>some []
 | o::l=>(x.opT o).bind fun c=>(x.opsT l).map (c::·)
def opsOf (p:Pnt):List Opd:=(if (fldO p.op).testBit 1 then [p.a] else [])++(if (fldO p.op).testBit 2 then [p.b] else [])++(if (fldO p.op).testBit 3 then p.args else [])
def kindC:Ch→Nat
 | .leaf k _=>k
 | .box _=>3
 | .ref _ _ _=>4
def alikeL:List Ch→List Ch→Bool
 | [],[]=>true
 | c::l,d::m=>alikeB c d && alikeL l m
 | _,_=>false
def isSum (s:List UInt8):Bool:=decide (s=[43]) || decide (s=[45]) || decide (s=[42]) || decide (s=[47]) || decide (s=[37])
def isEq (s:List UInt8):Bool:=decide (s=[61,61]) || decide (s=[33,61])
def isLess (s:List UInt8):Bool:=decide (s=[60]) || decide (s=[60,61]) || decide (s=[62]) || decide (s=[62,61])
def allK (k:Nat) (l:List Ch):Bool:=l.all fun c=>decide (kindC c=k)
def Sc.drp (x:Sc):Ch→Bool
 | .box _=>true
 | .leaf k s=>decide (k=5) && x.dr s.toNat
 | _=>false
def Sc.opB (x:Sc) (p:Pnt) (to fr:Option (Ch × List Int)) (os:List Ch):Bool :=
 let t:Ch:=(to.map (·.1)).getD (.leaf 0 0)
 let f:Ch:=(fr.map (·.1)).getD (.leaf 0 0)
 let g:List Int:=(fr.map (·.2)).getD []
 let o:Ch:=(os[0]?).getD (.leaf 0 0)
 if p.op=1 then alikeB t o
 else if p.op=2 then
  if isSum p.sg then allK 1 os && allK 1 [t] else if isEq p.sg then (allK 1 os || allK 2 os) && allK 2 [t] else if isLess p.sg then allK 1 os && allK 2 [t] else false
 else if p.op=3 then (decide (p.sg=[45]) && allK 1 [t,o]) || (decide (p.sg=[33]) && allK 2 [t,o])
 else if p.op=4 then (match t with|.ref m _ c=>decide (m=p.mu) && alikeB c f && !(p.mu && byShr g)|_=>false)
 else if p.op=5 then (match t with|.box c=>alikeB c o|_=>false)
 else if p.op=6 then (match t with|.leaf k s=>decide (k=5) && decide (s=p.st) && alikeL (x.fc p.st.toNat) os|_=>false)
 else if p.op=7 then decide (0≤p.fn) && (match x.hs[p.fn.toNat]? with|some h=>alikeB ((h.2[0]?).getD (.leaf 0 0)) t && alikeL ((h.2.drop 1).take h.1) os|none=>false)
 else if p.op=8 then allK 1 [t]
 else if p.op=9 then allK 1 os
 else if p.op=10 then x.drp f && !byRef g
 else if p.op=11 then !decide (p.fr.l=0) && decide (p.fr.p.length=0)
 else if p.op=12 then allK 2 os
 else decide (p.op=13) || decide (p.op=14)
def Sc.toB (x:Sc) (p:Pnt):Bool:=!(fldO p.op).testBit 0 || (match x.way p.to with|some y=>!byShr y.2|none=>false)
def Sc.frB (x:Sc) (p:Pnt):Bool:=!(fldO p.op).testBit 5 || (x.way p.fr).isSome
def Sc.toW (x:Sc) (p:Pnt):Option (Ch × List Int):=if (fldO p.op).testBit 0 then x.way p.to else none
def Sc.frW (x:Sc) (p:Pnt):Option (Ch × List Int):=if (fldO p.op).testBit 5 then x.way p.fr else none
def Sc.ptB (x:Sc) (p:Pnt):Bool :=
 (restB p && decide (0≤p.pos)) && goesB x.np p && (x.toB p && x.frB p) && (match x.opsT (opsOf p) with|some os=>x.opB p (x.toW p) (x.frW p) os|none=>false)
def implC:Ch→List (Int × Int)
 | .leaf _ _=>[]
 | .box c=>implC c
 | .ref _ r c=>c.regs.map (fun l=>(l,r))++implC c
def riseB:Int × Int→List (Int × Int)→Bool
 | _,[]=>true
 | a,b::l=>(decide (a.1<b.1) || decide (a.1=b.1) && decide (a.2<b.2)) && riseB b l
def outlB (lv:Int) (ou:List (Int × Int)) (sig:List Ch):Bool :=
 ou.all (fun o=>decide (0≤o.1) && decide (o.1<lv) && (decide (0≤o.2) && decide (o.2<lv)) && !decide (o.1=o.2)) && riseB (-1,0) ou &&
 (List.range 8).all (fun a=>(List.range 8).all fun b=>(List.range 8).all fun c=>!(decide (((a:Int),(b:Int))∈ou) && decide (((b:Int),(c:Int))∈ou) && !decide (a=c)) || decide (((a:Int),(c:Int))∈ou)) &&
 sig.all (fun c=>(implC c).all fun o=>decide (o.1=o.2) || decide (o∈ou))
theorem fields_any (op:Nat) (w:World):Calls Tryz.prog 190 #[.int .u8 (op:Int)] w fun e w'=>e=.returned (.int .u16 (fldO op:Int))∧w'=w:=by
 by_cases hop:op≤12∧op≠0
 ·obtain ⟨h1,h2⟩:=hop
  match op,h1,h2 with
  | 0,_,h=>exact absurd rfl h
  | 1,_,_=>go_enter Tryz.func190,Tryz.ntmps190;go_wp2_with fail;go_ret;exact ⟨rfl,rfl⟩
  | 2,_,_=>go_enter Tryz.func190,Tryz.ntmps190;go_wp2_with fail;go_ret;exact ⟨rfl,rfl⟩
  | 3,_,_=>go_enter Tryz.func190,Tryz.ntmps190;go_wp2_with fail;go_ret;exact ⟨rfl,rfl⟩
  | 4,_,_=>go_enter Tryz.func190,Tryz.ntmps190;go_wp2_with fail;go_ret;exact ⟨rfl,rfl⟩
  | 5,_,_=>go_enter Tryz.func190,Tryz.ntmps190;go_wp2_with fail;go_ret;exact ⟨rfl,rfl⟩
  | 6,_,_=>go_enter Tryz.func190,Tryz.ntmps190;go_wp2_with fail;go_ret;exact ⟨rfl,rfl⟩
  | 7,_,_=>go_enter Tryz.func190,Tryz.ntmps190;go_wp2_with fail;go_ret;exact ⟨rfl,rfl⟩
  | 8,_,_=>go_enter Tryz.func190,Tryz.ntmps190;go_wp2_with fail;go_ret;exact ⟨rfl,rfl⟩
  | 9,_,_=>go_enter Tryz.func190,Tryz.ntmps190;go_wp2_with fail;go_ret;exact ⟨rfl,rfl⟩
  | 10,_,_=>go_enter Tryz.func190,Tryz.ntmps190;go_wp2_with fail;go_ret;exact ⟨rfl,rfl⟩
  | 11,_,_=>go_enter Tryz.func190,Tryz.ntmps190;go_wp2_with fail;go_ret;exact ⟨rfl,rfl⟩
  | 12,_,_=>go_enter Tryz.func190,Tryz.ntmps190;go_wp2_with fail;go_ret;exact ⟨rfl,rfl⟩
  | n+13,h,_=>omega
 ·have e0:fldO op=0:=by
   unfold fldO
   repeat (rw [if_neg (by omega)])
  have h1:¬ (op:Int)=1:=by omega
  have h2:¬ (op:Int)=2:=by omega
  have h3:¬ (op:Int)=3:=by omega
  have h4:¬ (op:Int)=4:=by omega
  have h5:¬ (op:Int)=5:=by omega
  have h6:¬ (op:Int)=6:=by omega
  have h7:¬ (op:Int)=7:=by omega
  have h8:¬ (op:Int)=8:=by omega
  have h9:¬ (op:Int)=9:=by omega
  have h10:¬ (op:Int)=10:=by omega
  have h11:¬ (op:Int)=11:=by omega
  have h12:¬ (op:Int)=12:=by omega
  rw [e0]
  clear hop e0
  go_enter Tryz.func190,Tryz.ntmps190
  go_wp2_with fail
  go_ret
  exact ⟨rfl,rfl⟩
theorem fld_val (op:Nat):fldO op=0∨fldO op=1∨fldO op=2∨fldO op=3∨fldO op=19∨fldO op=23∨fldO op=32∨fldO op=97∨fldO op=137∨fldO op=265∨fldO op=514:=by
 unfold fldO
 repeat (split;simp)
 simp
theorem has_any (op i:Nat) (hi:i<10) (f:Int) (hf:f=((2 ^ i:Nat):Int)) (w:World) (b:Bool) (hb:b=(fldO op).testBit i):Calls Tryz.prog 192 #[.int .u8 (op:Int),.int .u16 f] w fun e w'=>e=.returned (.bool b)∧w'=w:=by
 have C:Hid (∀ W,Calls Tryz.prog 190 #[.int .u8 (op:Int)] W fun e w'=>e=.returned (.int .u16 (fldO op:Int))∧w'=W):=fun W=>fields_any op W
 obtain ⟨F,hF⟩:∃ F,F=fldO op:=⟨_,rfl⟩
 have hv:=fld_val op
 rw [← hF] at C hv hb
 have key:(bits BinOp.and IntKind.u16 (F:Int) f != 0)=b:=by
  subst hf hb
  clear hF C
  match i,hi with
  | 0,_=>rcases hv with rfl|rfl|rfl|rfl|rfl|rfl|rfl|rfl|rfl|rfl|rfl <;> decide
  | 1,_=>rcases hv with rfl|rfl|rfl|rfl|rfl|rfl|rfl|rfl|rfl|rfl|rfl <;> decide
  | 2,_=>rcases hv with rfl|rfl|rfl|rfl|rfl|rfl|rfl|rfl|rfl|rfl|rfl <;> decide
  | 3,_=>rcases hv with rfl|rfl|rfl|rfl|rfl|rfl|rfl|rfl|rfl|rfl|rfl <;> decide
  | 4,_=>rcases hv with rfl|rfl|rfl|rfl|rfl|rfl|rfl|rfl|rfl|rfl|rfl <;> decide
  | 5,_=>rcases hv with rfl|rfl|rfl|rfl|rfl|rfl|rfl|rfl|rfl|rfl|rfl <;> decide
  | 6,_=>rcases hv with rfl|rfl|rfl|rfl|rfl|rfl|rfl|rfl|rfl|rfl|rfl <;> decide
  | 7,_=>rcases hv with rfl|rfl|rfl|rfl|rfl|rfl|rfl|rfl|rfl|rfl|rfl <;> decide
  | 8,_=>rcases hv with rfl|rfl|rfl|rfl|rfl|rfl|rfl|rfl|rfl|rfl|rfl <;> decide
  | 9,_=>rcases hv with rfl|rfl|rfl|rfl|rfl|rfl|rfl|rfl|rfl|rfl|rfl <;> decide
  | n+10,h=>omega
 clear hv hF hb hf
 go_enter Tryz.func192,Tryz.ntmps192
 go_wp2_with (go_at_call 190;refine (C.out _).mono ?_;rintro e w1 ⟨rfl,hw⟩;subst hw)
 go_ret
 exact ⟨rfl,rfl⟩
structure Ov where
 k:Nat
 n:Int
 x:Pt
abbrev oV (k:Nat) (n l:Int) (a:Option Addr) (m cap:Nat):Value:=.agg #[.int .u8 (k:Int),.int .i64 n,.int .i64 l,.slice a m cap]
abbrev oO (k:Nat) (n l:Int) (a:Option Addr) (m cap:Nat):Obj:=.cells #[.int .u8 (k:Int),.int .i64 n,.int .i64 l,.slice a m cap] 115 (0,0)
abbrev Ov.v (o:Ov):Value:=oV o.k o.n o.x.l o.x.a o.x.n o.x.cap
theorem At.ov {w:World} {b k:Nat} {n l:Int} {a:Option Addr} {m cap:Nat} (h:At w b (oO k n l a m cap)):w.cell? ⟨b,0,none⟩=some (.int .u8 (k:Int))∧w.cell? ⟨b,1,none⟩=some (.int .i64 n)∧w.cell? ⟨b,2,none⟩=some (.int .i64 l)∧w.cell? ⟨b,3,none⟩=some (.slice a m cap):=by
 unfold At at h
 exact ⟨by simp [World.cell?,h],by simp [World.cell?,h],by simp [World.cell?,h],by simp [World.cell?,h]⟩
theorem noPlace_any (l:Int) (a:Option Addr) (n cap:Nat) (w:World) (b:Bool) (hb:b=(decide (l=0) && decide (n=0))):Calls Tryz.prog 212 #[plV l a n cap] w fun e w'=>e=.returned (.bool b)∧Below w.heap.size w w':=by
 by_cases h1:l=0
 ·subst h1
  by_cases h2:n=0
  ·subst h2
   have e1:b=true:=by rw [hb];rfl
   subst e1
   clear hb
   go_enter Tryz.func212,Tryz.ntmps212
   go_wp2_with fail
   go_ret
   exact ⟨rfl,belA bR⟩
  ·have e1:b=false:=by rw [hb,decide_eq_false h2];rfl
   have h3:((n:Int) == 0)=false:=by simp;omega
   subst e1
   clear hb
   go_enter Tryz.func212,Tryz.ntmps212
   go_wp2_with fail
   go_ret
   exact ⟨rfl,belA bR⟩
 ·have e1:b=false:=by rw [hb,decide_eq_false h1];rfl
  subst e1
  clear hb
  go_enter Tryz.func212,Tryz.ntmps212
  go_wp2_with fail
  go_ret
  exact ⟨rfl,belA bR⟩
theorem noOpd_any (k:Nat) (n l:Int) (a:Option Addr) (m cap:Nat) (w:World) (b:Bool) (hb:b=(decide (k=0) && decide (n=0) && (decide (l=0) && decide (m=0)))):Calls Tryz.prog 213 #[oV k n l a m cap] w fun e w'=>e=.returned (.bool b)∧Below w.heap.size w w':=by
 by_cases h1:k=0
 ·subst h1
  by_cases h2:n=0
  ·subst h2
   have C:Hid (∀ W,Calls Tryz.prog 212 #[plV l a m cap] W fun e w'=>e=.returned (.bool b)∧Below W.heap.size W w'):=fun W=>noPlace_any l a m cap W b (by rw [hb];simp)
   clear hb
   show Calls Tryz.prog 213 #[.agg #[.int .u8 0,.int .i64 0,.int .i64 l,.slice a m cap]] w _
   go_enter Tryz.func213,Tryz.ntmps213
   go_wp2_with (go_at_call 212;refine (C.out _).mono ?_;rintro e w1 ⟨rfl,hw⟩)
   all_goals go_ret
   all_goals exact ⟨rfl,jB (belA bR) hw⟩
  ·have e1:b=false:=by rw [hb,decide_eq_false h2];rfl
   subst e1
   clear hb
   show Calls Tryz.prog 213 #[.agg #[.int .u8 0,.int .i64 n,.int .i64 l,.slice a m cap]] w _
   go_enter Tryz.func213,Tryz.ntmps213
   go_wp2_with fail
   go_ret
   exact ⟨rfl,belA bR⟩
 ·have e1:b=false:=by rw [hb,decide_eq_false h1];rfl
  have h3:¬ (k:Int)=0:=by omega
  subst e1
  clear hb
  show Calls Tryz.prog 213 #[.agg #[.int .u8 (k:Int),.int .i64 n,.int .i64 l,.slice a m cap]] w _
  go_enter Tryz.func213,Tryz.ntmps213
  go_wp2_with fail
  go_ret
  exact ⟨rfl,belA bR⟩
end Go.Proofs.YtmjenlogbkbgnaaGreatDoor
