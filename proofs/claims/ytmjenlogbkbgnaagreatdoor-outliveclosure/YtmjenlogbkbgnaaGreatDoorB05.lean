import Derived.Test.YtmjenlogbkbgnaaGreatDoorB04
import Derived.Shelf.RegionOpen
import Derived.Shelf.Lay
import Derived.Lib.ItoaLen
import Derived.StillTailTactics
import Derived.Deep.DeepAppendRoom
import Derived.Deep.LoopGhost
namespace Go.Proofs.YtmjenlogbkbgnaaGreatDoor
open Go.RowKit Go.Shelf
set_option linter.unusedVariables false
set_option linter.unusedSimpArgs false
set_option maxRecDepth 100000
set_option maxHeartbeats 8000000
structure Flt (ss:List (List Ty)) (b1 b2 b3:Nat→Bool):Prop where
 h1:∀ (i:Nat) (fs:List Ty),ss[i]?=some fs→(b1 i=true↔¬ (1≤fs.length∧fs.length≤8∧∀ t∈fs,PlainT ss.length t))
 h2:∀ i,b2 i=true↔Stn ss i i
 h3:∀ i,b3 i=true↔16<tw ss i
theorem flt_ex (ss:List (List Ty)):∃ b1 b2 b3,Flt ss b1 b2 b3:=by
 have dec:∀ p:Prop,Decidable p:=fun p=>Classical.propDecidable p
 exact ⟨fun i=>decide (¬ (1≤(fld ss i).length∧(fld ss i).length≤8∧∀ t∈fld ss i,PlainT ss.length t)),fun i=>decide (Stn ss i i),fun i=>decide (16<tw ss i),
  ⟨fun i fs h=>by rw [← fld_of h];exact decide_eq_true_iff,fun i=>decide_eq_true_iff,fun i=>decide_eq_true_iff⟩⟩
theorem Flt.fine {ss:List (List Ty)} {b1 b2 b3:Nat→Bool} (h:Flt ss b1 b2 b3) (h1:∀ i,i<ss.length→b1 i=false):Fine ss:=fun i fs hi=>by
 have hl:=(List.getElem?_eq_some_iff.1 hi).1
 rcases Classical.em (1≤fs.length∧fs.length≤8∧∀ t∈fs,PlainT ss.length t) with h'|h'
 ·exact h'
 ·have:=(h.h1 i fs hi).2 h'
  rw [h1 i hl] at this
  cases this
theorem Flt.rank {ss:List (List Ty)} {b1 b2 b3:Nat→Bool} (h:Flt ss b1 b2 b3) (hF:Fine ss) (h2:∀ i,i<ss.length→b2 i=false):∃ rk,Rank ss rk :=
 rank_ex hF.lt (fun i hi hs=>by have:=(h.h2 i).2 hs;rw [h2 i hi] at this;cases this)
theorem stRes_big {n:Nat} {b1 b2 b3:Nat→Bool} (h:32<n):stRes n b1 b2 b3=(32,2):=by unfold stRes;rw [if_pos h]
theorem stRes_1 {n i:Nat} {b1 b2 b3:Nat→Bool} (h:¬ 32<n) (hi:i<n) (hb:b1 i=true) (hb':∀ j,j<i→b1 j=false):stRes n b1 b2 b3=(i,2):=by
 unfold stRes;rw [if_neg h,fstB_some hi hb hb']
theorem stRes_2 {n i:Nat} {b1 b2 b3:Nat→Bool} (h:¬ 32<n) (h1:∀ j,j<n→b1 j=false) (hi:i<n) (hb:b2 i=true) (hb':∀ j,j<i→b2 j=false):stRes n b1 b2 b3=(i,2):=by
 unfold stRes;rw [if_neg h,fstB_none h1,fstB_some hi hb hb']
theorem stRes_3 {n i:Nat} {b1 b2 b3:Nat→Bool} (h:¬ 32<n) (h1:∀ j,j<n→b1 j=false) (h2:∀ j,j<n→b2 j=false) (hi:i<n) (hb:b3 i=true) (hb':∀ j,j<i→b3 j=false):stRes n b1 b2 b3=(i,2):=by
 unfold stRes;rw [if_neg h,fstB_none h1,fstB_none h2,fstB_some hi hb hb']
theorem stRes_0 {n:Nat} {b1 b2 b3:Nat→Bool} (h:¬ 32<n) (h1:∀ j,j<n→b1 j=false) (h2:∀ j,j<n→b2 j=false) (h3:∀ j,j<n→b3 j=false):stRes n b1 b2 b3=(0,0):=by
 unfold stRes;rw [if_neg h,fstB_none h1,fstB_none h2,fstB_none h3]
theorem stRes_ok {n:Nat} {b1 b2 b3:Nat→Bool} (h:(stRes n b1 b2 b3).2=0):¬ 32<n∧(∀ j,j<n→b1 j=false)∧(∀ j,j<n→b2 j=false)∧(∀ j,j<n→b3 j=false)∧stRes n b1 b2 b3=(0,0):=by
 unfold stRes at h ⊢
 split at h
 ·cases h
 ·rename_i hn
  cases e1:fstB b1 n with
  | some i=>rw [e1] at h;cases h
  | none =>
   cases e2:fstB b2 n with
   | some i=>rw [e1,e2] at h;cases h
   | none =>
    cases e3:fstB b3 n with
    | some i=>rw [e1,e2,e3] at h;cases h
    | none=>exact ⟨hn,fstB_no e1,fstB_no e2,fstB_no e3,by rw [if_neg hn]⟩
theorem stRes_e (n:Nat) (b1 b2 b3:Nat→Bool):(stRes n b1 b2 b3).2=0∨(stRes n b1 b2 b3).2=2:=by
 unfold stRes
 split
 ·exact .inr rfl
 ·cases fstB b1 n with
  | some i=>exact .inr rfl
  | none =>
   cases fstB b2 n with
   | some i=>exact .inr rfl
   | none =>
    cases fstB b3 n with
    | some i=>exact .inr rfl
    | none=>exact .inl rfl
abbrev fnV (n:Nat):Value:=.func (.func n) #[] #[]
abbrev fnO:Obj:=.cells #[fnV 180,fnV 181,fnV 182] 204
theorem Structs_any (a:Option Addr) (n cap:Nat) (ss:List (List Ty)) (w:World) (h:StAt w a n cap ss) (b1 b2 b3:Nat→Bool) (hb:Flt ss b1 b2 b3) :
  Calls Tryz.prog 167 #[.slice a n cap] w fun e w'=>e=.returned (.tuple #[.int .i64 ((stRes n b1 b2 b3).1:Int),.int .i64 ((stRes n b1 b2 b3).2:Int)])∧Below w.heap.size w w':=by
 by_cases hn:32<n
 ·rw [stRes_big hn]
  have k1:(32:Int)<(n:Int):=by omega
  clear h hb
  go_enter Tryz.func167,Tryz.ntmps167
  go_wp2_with fail
  go_ret2
  exact ⟨rfl,Below.refl _ _⟩
 have k1:¬ (32:Int)<(n:Int):=by omega
 obtain ⟨R,hR⟩:∃ R,R=stRes n b1 b2 b3:=⟨_,rfl⟩
 rw [← hR]
 have HR:=jH hR
 have HN:=jH hn
 have hlen:n=ss.length:=h.len
 have HLN:=jH hlen
 have C1:Hid (∀ W i,Below w.heap.size w W→i<n→∀ x,x=b1 i→Calls Tryz.prog 180 #[.slice a n cap,.int .i64 (i:Int)] W fun e w'=>e=.returned (.bool x)∧Below W.heap.size W w'):=jH (fun W i hW hi x hx=>by
  obtain ⟨fs,hfs⟩:∃ fs,ss[i]?=some fs:=⟨_,List.getElem?_eq_getElem (by omega)⟩
  exact wrong_any a n cap ss W (h.bel hW) (by omega) i fs hfs x (by rw [hx,hlen];exact hb.h1 i fs hfs))
 have C2:Hid ((∀ j,j<n→b1 j=false)→∀ W i,Below w.heap.size w W→i<n→∀ x,x=b2 i→Calls Tryz.prog 181 #[.slice a n cap,.int .i64 (i:Int)] W fun e w'=>e=.returned (.bool x)∧Below W.heap.size W w'):=jH (fun h1 W i hW hi x hx=>endless_any a n cap ss W (h.bel hW) (by omega) (hb.fine (fun j hj=>h1 j (by omega))) i hi x (by rw [hx];exact hb.h2 i))
 have C3:Hid ((∀ j,j<n→b1 j=false)→(∀ j,j<n→b2 j=false)→∀ W i,Below w.heap.size w W→i<n→∀ x,x=b3 i→Calls Tryz.prog 182 #[.slice a n cap,.int .i64 (i:Int)] W fun e w'=>e=.returned (.bool x)∧Below W.heap.size W w'):=jH (fun h1 h2 W i hW hi x hx=>by
  have hF:=hb.fine (fun j hj=>h1 j (by omega))
  obtain ⟨rk,hr⟩:=hb.rank hF (fun j hj=>h2 j (by omega))
  exact large_any a n cap ss W (h.bel hW) (by omega) hF rk hr i hi x (by rw [hx];exact hb.h3 i))
 clear h hb hR hn hlen
 go_enter Tryz.func167,Tryz.ntmps167
 go_wp2_with fail
 go_loopw [12] (fun i W=>∃ k:Nat,k≤3∧i=.int .i64 k∧(1≤k→∀ j,j<n→b1 j=false)∧(2≤k→∀ j,j<n→b2 j=false)∧(3≤k→∀ j,j<n→b3 j=false)∧Below w.heap.size w W∧At W w.heap.size fnO) (fun i _=>3 - (intOf i).toNat)
 case atStart=>exact ⟨0,by omega,rfl,by omega,by omega,by omega,belA bR,At.new _ _⟩
 case round =>
  obtain ⟨k,hk,rfl,hk1,hk2,hk3,hB,hA⟩:=hrel
  have H1:=jH hk1
  have H2:=jH hk2
  have H3:=jH hk3
  have HB:=jH hB
  have HA:=jH hA
  obtain ⟨wo,rfl⟩:∃ wo,wo=wr:=⟨_,rfl⟩
  have hlw:=hA.lt
  unfold At at hA
  have c0:wo.cell? ⟨w.heap.size,0,none⟩=some (fnV 180):=by simp [World.cell?,hA]
  have c1:wo.cell? ⟨w.heap.size,1,none⟩=some (fnV 181):=by simp [World.cell?,hA]
  have c2:wo.cell? ⟨w.heap.size,2,none⟩=some (fnV 182):=by simp [World.cell?,hA]
  clear hA hB hk1 hk2 hk3
  have hk3:k=0∨k=1∨k=2∨k=3:=by omega
  rcases hk3 with rfl|rfl|rfl|rfl
  ·rw [show ((0:Nat):Int)=(0:Int) from rfl]
   go_wp2_with fail
   go_loopw [18] (fun v V=>∃ i:Nat,i≤n∧v=.int .i64 i∧(∀ j,j<i→b1 j=false)∧Below wo.heap.size wo V) (fun v _=>n - (intOf v).toNat)
   case atStart=>exact ⟨0,Nat.zero_le _,rfl,fun j hj=>by omega,Below.refl _ _⟩
   case round =>
    obtain ⟨i,hi,rfl,hall,hBi⟩:=hrel
    have HALL:=jH hall
    have HBi:=jH hBi
    have HBw:=jH (jB HB.out hBi)
    clear hall hBi
    by_cases hlt:i<n
    ·have j1:(i:Int)<(n:Int):=by omega
     have j2:(i:Int)≤1000:=by have:=HN.out;omega
     cases hx:b1 i with
     | true =>
      have CC:=jH (C1.out wr i HBw.out hlt true hx.symm)
      have HRR:=jH (HR.out.trans (stRes_1 HN.out hlt hx HALL.out))
      go_wp2_with (go_at_call 180;refine CC.out.mono ?_;rintro e w1 ⟨rfl,hb1⟩)
      go_ret2
      rw [HRR.out]
      exact ⟨rfl,jB HBw.out hb1⟩
     | false =>
      have CC:=jH (C1.out wr i HBw.out hlt false hx.symm)
      have HXF:=jH hx
      clear hx
      go_wp2_with (go_at_call 180;refine CC.out.mono ?_;rintro e w1 ⟨rfl,hb1⟩)
      refine ⟨⟨i+1,hlt,by go_num,fun j hj=>?_,jB HBi.out hb1⟩,?_⟩
      ·by_cases e:j=i
       ·subst e;exact HXF.out
       ·exact HALL.out j (by omega)
      ·show n - ((i:Int)+1).toNat<n - (i:Int).toNat
       omega
    ·obtain rfl:i=n:=by omega
     have z1:¬ ((i:Int)<(i:Int)):=by omega
     go_wp2_with fail
     exact ⟨⟨1,by omega,by go_num,fun _=>HALL.out,fun h=>by omega,fun h=>by omega,HBw.out,HA.out.below HBi.out⟩,by simp [intOf]⟩
  ·rw [show ((1:Nat):Int)=(1:Int) from rfl]
   go_wp2_with fail
   go_loopw [18] (fun v V=>∃ i:Nat,i≤n∧v=.int .i64 i∧(∀ j,j<i→b2 j=false)∧Below wo.heap.size wo V) (fun v _=>n - (intOf v).toNat)
   case atStart=>exact ⟨0,Nat.zero_le _,rfl,fun j hj=>by omega,Below.refl _ _⟩
   case round =>
    obtain ⟨i,hi,rfl,hall,hBi⟩:=hrel
    have HALL:=jH hall
    have HBi:=jH hBi
    have HBw:=jH (jB HB.out hBi)
    clear hall hBi
    by_cases hlt:i<n
    ·have j1:(i:Int)<(n:Int):=by omega
     have j2:(i:Int)≤1000:=by have:=HN.out;omega
     cases hx:b2 i with
     | true =>
      have CC:=jH (C2.out (H1.out (by omega)) wr i HBw.out hlt true hx.symm)
      have HRR:=jH (HR.out.trans (stRes_2 HN.out (H1.out (by omega)) hlt hx HALL.out))
      go_wp2_with (go_at_call 181;refine CC.out.mono ?_;rintro e w1 ⟨rfl,hb1⟩)
      go_ret2
      rw [HRR.out]
      exact ⟨rfl,jB HBw.out hb1⟩
     | false =>
      have CC:=jH (C2.out (H1.out (by omega)) wr i HBw.out hlt false hx.symm)
      have HXF:=jH hx
      clear hx
      go_wp2_with (go_at_call 181;refine CC.out.mono ?_;rintro e w1 ⟨rfl,hb1⟩)
      refine ⟨⟨i+1,hlt,by go_num,fun j hj=>?_,jB HBi.out hb1⟩,?_⟩
      ·by_cases e:j=i
       ·subst e;exact HXF.out
       ·exact HALL.out j (by omega)
      ·show n - ((i:Int)+1).toNat<n - (i:Int).toNat
       omega
    ·obtain rfl:i=n:=by omega
     have z1:¬ ((i:Int)<(i:Int)):=by omega
     go_wp2_with fail
     exact ⟨⟨2,by omega,by go_num,fun _=>H1.out (by omega),fun _=>HALL.out,fun h=>by omega,HBw.out,HA.out.below HBi.out⟩,by simp [intOf]⟩
  ·rw [show ((2:Nat):Int)=(2:Int) from rfl]
   go_wp2_with fail
   go_loopw [18] (fun v V=>∃ i:Nat,i≤n∧v=.int .i64 i∧(∀ j,j<i→b3 j=false)∧Below wo.heap.size wo V) (fun v _=>n - (intOf v).toNat)
   case atStart=>exact ⟨0,Nat.zero_le _,rfl,fun j hj=>by omega,Below.refl _ _⟩
   case round =>
    obtain ⟨i,hi,rfl,hall,hBi⟩:=hrel
    have HALL:=jH hall
    have HBi:=jH hBi
    have HBw:=jH (jB HB.out hBi)
    clear hall hBi
    by_cases hlt:i<n
    ·have j1:(i:Int)<(n:Int):=by omega
     have j2:(i:Int)≤1000:=by have:=HN.out;omega
     cases hx:b3 i with
     | true =>
      have CC:=jH (C3.out (H1.out (by omega)) (H2.out (by omega)) wr i HBw.out hlt true hx.symm)
      have HRR:=jH (HR.out.trans (stRes_3 HN.out (H1.out (by omega)) (H2.out (by omega)) hlt hx HALL.out))
      go_wp2_with (go_at_call 182;refine CC.out.mono ?_;rintro e w1 ⟨rfl,hb1⟩)
      go_ret2
      rw [HRR.out]
      exact ⟨rfl,jB HBw.out hb1⟩
     | false =>
      have CC:=jH (C3.out (H1.out (by omega)) (H2.out (by omega)) wr i HBw.out hlt false hx.symm)
      have HXF:=jH hx
      clear hx
      go_wp2_with (go_at_call 182;refine CC.out.mono ?_;rintro e w1 ⟨rfl,hb1⟩)
      refine ⟨⟨i+1,hlt,by go_num,fun j hj=>?_,jB HBi.out hb1⟩,?_⟩
      ·by_cases e:j=i
       ·subst e;exact HXF.out
       ·exact HALL.out j (by omega)
      ·show n - ((i:Int)+1).toNat<n - (i:Int).toNat
       omega
    ·obtain rfl:i=n:=by omega
     have z1:¬ ((i:Int)<(i:Int)):=by omega
     go_wp2_with fail
     exact ⟨⟨3,by omega,by go_num,fun _=>H1.out (by omega),fun _=>H2.out (by omega),fun _=>HALL.out,HBw.out,HA.out.below HBi.out⟩,by simp [intOf]⟩
  ·have HRR:=jH (HR.out.trans (stRes_0 HN.out (H1.out (by omega)) (H2.out (by omega)) (H3.out (by omega))))
   go_wp2_with fail
   go_ret2
   rw [HRR.out]
   exact ⟨rfl,HB.out⟩
def mayS (n:Nat) (b1 b2 b3:Nat→Bool) (t:Ty):Bool:=decide ((stRes n b1 b2 b3).2=0) && mayB n 48 t
structure Well (n:Nat) (ss:List (List Ty)):Prop where
 len:n=ss.length
 le:n≤32
 fine:Fine ss
 rank:∃ rk,Rank ss rk
 small:∀ i,i<n→tw ss i≤16
theorem well_of {a:Option Addr} {n cap:Nat} {ss:List (List Ty)} {w:World} (h:StAt w a n cap ss) {b1 b2 b3:Nat→Bool} (hb:Flt ss b1 b2 b3) {t:Ty} (hm:mayS n b1 b2 b3 t=true):Well n ss∧mayB n 48 t=true:=by
 unfold mayS at hm
 rw [Bool.and_eq_true,decide_eq_true_iff] at hm
 obtain ⟨h1,h2,h3,h4,-⟩:=stRes_ok hm.1
 have hl:=h.len
 have hF:=hb.fine (fun j hj=>h2 j (by omega))
 refine ⟨⟨hl,by omega,hF,hb.rank hF (fun j hj=>h3 j (by omega)),fun i hi=>?_⟩,hm.2⟩
 rcases Nat.lt_or_ge 16 (tw ss i) with h'|h'
 ·have:=(hb.h3 i).2 h'
  rw [h4 i hi] at this
  cases this
 ·exact h'
theorem may_kind {n:Nat} {t:Ty} {f:Fv} {w:World} (hm:mayB n 48 t=true) (ht:TyAt w f t) (ss:List (List Ty)):(∃ j:Nat,j<n∧subT t=some j∧f.k=5∧f.s=(j:Int))∨subT t=none∧¬ (f.k:Int)=5∧dpT ss t=decide ((f.k:Int)=3):=by
 obtain ⟨c,rfl,h1,h2⟩:=mayB_ch hm
 cases c with
 | leaf k s =>
  obtain ⟨ta,tcap,rfl,-⟩:=ht.leaf
  rcases h1 with ⟨h1,-⟩|⟨rfl,h1,h4⟩
  ·refine .inr ⟨?_,?_,?_⟩
   ·simp only [Ch.ty,subT];rw [if_neg (by omega)]
   ·show ¬ (k:Int)=5
    omega
   ·simp only [Ch.ty,dpT,subT]
    rw [if_neg (by omega)]
    simp only [boxT]
    rw [decide_eq_false (by omega),decide_eq_false (by omega)]
  ·exact .inl ⟨s.toNat,by omega,rfl,rfl,by show s=_;omega⟩
 | box c =>
  obtain ⟨_,_,_,_,rfl,-⟩:=ht.box
  exact .inr ⟨rfl,by show ¬ ((3:Nat):Int)=5;omega,rfl⟩
 | ref m r c =>
  obtain ⟨_,_,_,_,rfl,-⟩:=ht.ref
  exact .inr ⟨rfl,by show ¬ ((4:Nat):Int)=5;omega,rfl⟩
structure Pt where
 l:Int
 a:Option Addr
 n:Nat
 cap:Nat
abbrev plV (l:Int) (a:Option Addr) (n cap:Nat):Value:=.agg #[.int .i64 l,.slice a n cap]
abbrev plO (l:Int) (a:Option Addr) (n cap:Nat):Obj:=.cells #[.int .i64 l,.slice a n cap] 109 (0,0)
abbrev Pt.v (x:Pt):Value:=plV x.l x.a x.n x.cap
abbrev Pt.o (x:Pt):Obj:=plO x.l x.a x.n x.cap
structure PAt (w:World) (x:Pt) (p:List Int):Prop where
 row:IntR w x.a x.n x.cap p
 l0:-9223372036854775808≤x.l
 l1:x.l≤9223372036854775807
theorem PAt.bel {w w':World} {x:Pt} {p:List Int} (h:PAt w x p) (hb:Below w.heap.size w w'):PAt w' x p:=⟨h.row.bel hb,h.l0,h.l1⟩
theorem At.pl {w:World} {b:Nat} {l:Int} {a:Option Addr} {n cap:Nat} (h:At w b (plO l a n cap)):w.cell? ⟨b,0,none⟩=some (.int .i64 l)∧w.cell? ⟨b,1,none⟩=some (.slice a n cap):=by
 unfold At at h
 exact ⟨by simp [World.cell?,h],by simp [World.cell?,h]⟩
theorem IntR.nth {w:World} {a:Option Addr} {n cap:Nat} {L:List Int} (h:IntR w a n cap L) {i:Nat} {x:Int} (hi:L[i]?=some x):∃ g off,a=some ⟨g,off,none⟩∧g<w.heap.size∧w.cell? ⟨g,off+i,none⟩=some (.int .i64 x)∧-9223372036854775808≤x∧x≤9223372036854775807:=by
 obtain ⟨g,off,h1,h2,h3⟩:=h.cells (fun e=>by subst e;simp at hi)
 exact ⟨g,off,h1,h2,h3 i x hi,h.rng x (List.mem_of_getElem? hi)⟩
theorem IntR.drewN {w:World} {a:Option Addr} {n cap:Nat} {L:List Int} (h:IntR w a n cap L) (d:Nat):IntR (w.drewN d) a n cap L:=h.bel (belN bR d)
theorem IntR.cut {w:World} {a:Option Addr} {n cap:Nat} {L:List Int} (h:IntR w a n cap L) (k:Nat) (hk:k≤n):IntR w a k cap (L.take k) where
 len:=by rw [List.length_take,← h.len];omega
 le:=Nat.le_trans hk h.le
 big:=h.big
 cells:=fun hne=>by
  obtain ⟨g,off,h1,h2,h3⟩:=h.cells (fun e=>hne (by rw [e];simp))
  exact ⟨g,off,h1,h2,fun i x hx=>h3 i x (by rw [List.getElem?_take] at hx;split at hx;exact hx;cases hx)⟩
 rng:=fun x hx=>h.rng x (List.mem_of_mem_take hx)
 nil:=h.nil
theorem bel2 {w:World} {o1 o2:Obj}:Below w.heap.size w ((w.alloc o1).alloc o2):=belA (belA bR)
theorem own_cell {W:World} {B e s n g cap:Nat} {xs:List Value} (h:W.ownsRow B e s (.slice (some ⟨g,0,none⟩) n cap) n xs) {j:Nat} {u:Value} (hj:xs[j]?=some u):W.cell? ⟨g,j,none⟩=some u∧g<W.heap.size:=by
 rcases h.2 with ⟨e0,-⟩|⟨g',cap',cur,e0,-,hg,-,-,-,ht⟩
 ·cases e0
 ·cases e0
  refine ⟨?_,lt_of_block hg⟩
  have hc:W.cell? ⟨g,j,none⟩=cur[j]?:=by simp [World.cell?,hg]
  rw [hc]
  rw [← ht,List.getElem?_take] at hj
  split at hj
  ·simpa using hj
  ·cases hj
theorem new1 (W:World) (u:Value) (t:Nat):∀ j x,[u][j]?=some x→(W.alloc (.cells #[u] t)).cell? ((⟨W.heap.size,0,none⟩:Addr).add j)=some x:=fun j x hx=>by
 rw [Addr.add_lit,Nat.zero_add]
 have hA:At (W.alloc (.cells #[u] t)) W.heap.size (.cells #[u] t):=At.new _ _
 generalize W.alloc (.cells #[u] t)=W' at hA ⊢
 unfold At at hA
 have:W'.cell? ⟨W.heap.size,j,none⟩=#[u][j]?:=by simp [World.cell?,hA]
 rw [this]
 simpa using hx
theorem own_grow {W W':World} {B e s n:Nat} {v:Value} {xs:List Value} {r:Option Nat} (h:W.ownsRow B e s v n xs) (k:W.grownBy W' r) (hn:∀ g,v.ownBlock=some g→some g≠r):W'.ownsRow B e s v n xs:=by
 refine ⟨h.1,?_⟩
 rcases h.2 with h0|⟨g,cap,cur,e0,h1,hg,h2⟩
 ·exact .inl h0
 ·subst e0
  exact .inr ⟨g,cap,cur,rfl,h1,(k.block g (lt_of_block hg) (hn g rfl)).trans hg,h2⟩
structure LcAt (w:World) (a:Option Addr) (n cap:Nat) (ts:List Ty):Prop where
 len:n=ts.length
 big:n≤maxLen
 cells:ts≠[]→∃ g off,a=some ⟨g,off,none⟩∧∀ i t,ts[i]?=some t→∃ V:Fv,C5 w g (off+i*5) V∧TyAt w V t
theorem LcAt.bel {w w':World} {a:Option Addr} {n cap:Nat} {ts:List Ty} (h:LcAt w a n cap ts) (hb:Below w.heap.size w w'):LcAt w' a n cap ts :=
 ⟨h.len,h.big,fun hne=>by
  obtain ⟨g,off,e,hk⟩:=h.cells hne
  refine ⟨g,off,e,fun i t hi=>?_⟩
  obtain ⟨V,h1,h2⟩:=hk i t hi
  exact ⟨V,h1.below hb,h2.bel hb⟩⟩
theorem LcAt.one {w:World} {a:Option Addr} {n cap:Nat} {ts:List Ty} (h:LcAt w a n cap ts) {i:Nat} {t:Ty} (hi:ts[i]?=some t):∃ g off V,a=some ⟨g,off,none⟩∧C5 w g (off+i*5) V∧TyAt w V t:=by
 obtain ⟨g,off,e,hk⟩:=h.cells (fun e=>by subst e;simp at hi)
 obtain ⟨V,h1,h2⟩:=hk i t hi
 exact ⟨g,off,V,e,h1,h2⟩
theorem below_S5 {w W:World} (h:Below w.heap.size w W) {b:Nat} (hb:w.heap.size≤b) (g:Fv):Below w.heap.size w (S5 W b g):=h.grown (but_s5 W b g) h.size (fun k hk=>by cases hk;exact hb)
theorem mayB_mono {n m:Int} (h:n≤m) {d:Nat} {t:Ty} (ht:mayB n d t=true):mayB m d t=true:=by
 obtain ⟨c,rfl,h1,h2⟩:=mayB_ch ht
 exact ch_mayB (Ch.ok_mono h c h1) h2
def MA (w:World) (n:Int) (rr:Bool) (k:Nat) (W:World):Prop:=∃ (c:Ch) (f:Fv),k=c.depth∧At W w.heap.size f.o∧TyAt w f c.ty∧c.ok 32∧(rr=true↔c.ok n)∧Below w.heap.size w W
theorem among_any (n:Nat) (hn:n≤32) (t:Ty) (f:Fv) (w:World) (h:TyAt w f t):Calls Tryz.prog 223 #[.int .i64 n,f.v] w fun e w'=>e=.returned (.bool (mayB n 48 t))∧Below w.heap.size w w':=by
 have HA0:=jH (At.new w f.o)
 cases hb:isT t with
 | false =>
  have hf:mayB n 48 t=false:=by
   cases hm:mayB n 48 t with
   | false=>rfl
   | true=>rw [show isT t=true from mayB_mono (by omega) hm] at hb;cases hb
  rw [hf]
  have C:Hid (Calls Tryz.prog 21 #[f.v,f.v] (w.alloc f.o) fun e w'=>e=.returned (.bool false)∧Below (w.alloc f.o).heap.size (w.alloc f.o) w'):=Alike_no t t f f _ (h.bel (belA bR)) (h.bel (belA bR)) (.inl hb)
  obtain ⟨k,m,r,s,a,n',cap⟩:=f
  show Calls Tryz.prog 223 #[.int .i64 n,tyV k m r s a n' cap] w _
  obtain ⟨hlt,p0,p1,p2,p3,p4⟩:=HA0.out.ty
  clear h hb hf
  go_enter Tryz.func223,Tryz.ntmps223
  go_wp2_with (go_at_call 21;refine C.out.mono ?_;rintro e w1 ⟨rfl,hb1⟩)
  go_ret
  exact ⟨rfl,below1 hb1⟩
 | true =>
  obtain ⟨c,rfl,hc⟩:=ok_of hb
  obtain ⟨rr,hrr⟩:∃ rr,rr=mayB n 48 c.ty:=⟨_,rfl⟩
  have hr2:rr=true↔c.ok n:=by rw [hrr,mayB_iff];exact ⟨fun h=>h.1,fun h=>⟨h,hc.deep⟩⟩
  rw [← hrr]
  have C:Hid (Calls Tryz.prog 21 #[f.v,f.v] (w.alloc f.o) fun e w'=>e=.returned (.bool true)∧Below (w.alloc f.o).heap.size (w.alloc f.o) w'):=by
   have:=Alike_yes c c f f (w.alloc f.o) (h.bel (belA bR)) (h.bel (belA bR)) hc hc
   rw [alike_self] at this
   exact this
  have HM0:Hid (∀ W,Below (w.alloc f.o).heap.size (w.alloc f.o) W→MA w n rr c.depth W):=fun W hW=>⟨c,f,rfl,HA0.out.below hW,h,hc.ok,hr2,below1 hW⟩
  obtain ⟨k,m,r,s,a,n',cap⟩:=f
  show Calls Tryz.prog 223 #[.int .i64 n,tyV k m r s a n' cap] w _
  obtain ⟨hlt,p0,p1,p2,p3,p4⟩:=HA0.out.ty
  clear h hb hrr hr2
  go_enter Tryz.func223,Tryz.ntmps223
  go_wp2_with (go_at_call 21;refine C.out.mono ?_;rintro e w1 ⟨rfl,hb1⟩)
  have HM1:=jH (HM0.out w1 hb1)
  clear HM0 hb1 C HA0 hlt p0 p1 p2 p3 p4
  go_loopg [9] c.depth (fun k v W=>MA w n rr k W)
  case atStart=>exact HM1.out
  case round =>
   obtain ⟨c',f',hk,hA,hT,hok,hrr,hB⟩:=hrel
   clear HM1
   obtain ⟨hlt,p0,p1,p2,p3,p4⟩:=hA.ty
   have HB:=jH hB
   have HR:=jH hrr
   cases c' with
   | leaf k' s' =>
    obtain ⟨a',cap',rfl,-⟩:=hT.leaf
    have hk':(k'=1∨k'=2)∧s'=0∨k'=5∧0≤s'∧s'<32:=hok
    have k3:¬ (k':Int)=3:=by omega
    have k4:¬ (k':Int)=4:=by omega
    have k3b:((k':Int) == 3)=false:=by simpa using k3
    have hr3:rr=true↔((k'=1∨k'=2)∧s'=0∨k'=5∧0≤s'∧s'<n):=hrr
    by_cases k5:k'=5
    ·subst k5
     have hrs:rr=decide (s'<(n:Int)):=by
      rw [Bool.eq_iff_iff,hr3,decide_eq_true_iff]
      omega
     subst hrs
     clear hT hA hok hrr hB hk' hr3 HR hk
     go_wp2_with fail
     go_ret
     exact ⟨rfl,HB.out⟩
    ·have hrs:rr=true:=by rw [hr3];omega
     subst hrs
     have k5i:¬ (k':Int)=5:=by omega
     clear hT hA hok hrr hB hk' hr3 HR hk
     go_wp2_with fail
     go_ret
     exact ⟨rfl,HB.out⟩
   | box d =>
    obtain ⟨g,off,cap',f2,rfl,hc5,ht2⟩:=hT.box
    obtain ⟨hg,q0,q1,q2,q3,q4⟩:=hc5.below hB
    have g0:=hA.tyF 0
    have g1:=hA.tyF 1
    have g2:=hA.tyF 2
    have g3:=hA.tyF 3
    have g4:=hA.tyF 4
    have FIN:Hid (MA w n rr d.depth (S5 wr w.heap.size f2)):=⟨d,f2,rfl,hA.set5 f2,ht2,hok,hrr,below_S5 hB (Nat.le_refl _) f2⟩
    have HK:Hid (gk=(Ch.box d).depth):=hk
    clear hT hok hk hB hA hc5 ht2 hrr
    go_wp2_with fail
    go_roundg d.depth
    case measure=>rw [HK.out];simp [Ch.depth]
    case rel=>exact FIN.out
   | ref m' r' d =>
    obtain ⟨g,off,cap',f2,rfl,hc5,ht2,r0,r1⟩:=hT.ref
    obtain ⟨hg,q0,q1,q2,q3,q4⟩:=hc5.below hB
    have g0:=hA.tyF 0
    have g1:=hA.tyF 1
    have g2:=hA.tyF 2
    have g3:=hA.tyF 3
    have g4:=hA.tyF 4
    have hrr2:rr=true↔d.ok n:=hrr.trans ⟨fun h=>h.2,fun h=>⟨hok.1,h⟩⟩
    have FIN:Hid (MA w n rr d.depth (S5 wr w.heap.size f2)):=⟨d,f2,rfl,hA.set5 f2,ht2,hok.2,hrr2,below_S5 hB (Nat.le_refl _) f2⟩
    have HK:Hid (gk=(Ch.ref m' r' d).depth):=hk
    clear hT hok hk hB hA hc5 ht2 hrr hrr2
    go_wp2_with fail
    go_roundg d.depth
    case measure=>rw [HK.out];simp [Ch.depth]
    case rel=>exact FIN.out
structure SC (w:World) (a:Option Addr) (n cap:Nat) (so:Bool):Prop where
 call:∀ W,Below w.heap.size w W→Calls Tryz.prog 167 #[.slice a n cap] W fun e w'=>(∃ i e0:Int,e=.returned (.tuple #[.int .i64 i,.int .i64 e0])∧(e0=0↔so=true))∧Below W.heap.size W w'
 le:so=true→n≤32
theorem sc_of {w:World} {a:Option Addr} {n cap:Nat} {ss:List (List Ty)} (h:StAt w a n cap ss) {b1 b2 b3:Nat→Bool} (hb:Flt ss b1 b2 b3):SC w a n cap (decide ((stRes n b1 b2 b3).2=0)) where
 call:=fun W hW=>(Structs_any a n cap ss W (h.bel hW) b1 b2 b3 hb).mono fun e w' k=>⟨⟨_,_,k.1,by rw [decide_eq_true_iff];omega⟩,k.2⟩
 le:=fun hs=>by
  rw [decide_eq_true_iff] at hs
  have:=(stRes_ok hs).1
  omega
theorem all_any {w:World} {a la:Option Addr} {n cap ln lcap:Nat} {ts:List Ty} {so:Bool} (hS:SC w a n cap so) (h:LcAt w la ln lcap ts) (b:Bool) (hb:b=true↔so=true∧∀ t∈ts,mayB n 48 t=true) :
  Calls Tryz.prog 220 #[.slice a n cap,.slice la ln lcap] w fun e w'=>e=.returned (.bool b)∧Below w.heap.size w w':=by
 have C1:=jH (hS.call w bR)
 cases hso:so with
 | false =>
  rw [hso] at C1 hb
  have hbf:b=false:=by
   cases hbb:b with
   | false=>rfl
   | true=>exact absurd (hb.1 hbb).1 (by simp)
  subst hbf
  clear hb hS h
  go_enter Tryz.func220,Tryz.ntmps220
  go_wp2_with (go_at_call 167;refine C1.out.mono ?_;rintro e w1 ⟨⟨i,e0,rfl,he⟩,hb1⟩;have he0:¬ e0=0:=(fun e=>by have:=he.1 e;cases this);clear he)
  go_ret
  exact ⟨rfl,hb1⟩
 | true =>
  have hn:=hS.le hso
  rw [hso] at C1 hb
  have HL:=jH h
  have hb2:b=true↔∀ t∈ts,mayB n 48 t=true:=hb.trans ⟨fun h=>h.2,fun h=>⟨rfl,h⟩⟩
  have HB:=jH hb2
  have hln:ln=ts.length:=h.len
  have HLN:=jH hln
  have hbig:ln≤9223372036854775807:=by have:=h.big;unfold maxLen at this;omega
  have C2:Hid (∀ t (f:Fv) W,TyAt W f t→Calls Tryz.prog 223 #[.int .i64 n,f.v] W fun e w'=>e=.returned (.bool (mayB n 48 t))∧Below W.heap.size W w'):=fun t f W hT=>among_any n hn t f W hT
  clear hb hb2 hS h hln hso hn
  go_enter Tryz.func220,Tryz.ntmps220
  go_wp2_with (go_at_call 167;refine C1.out.mono ?_;rintro e w1 ⟨⟨i,e0,rfl,he⟩,hb1⟩;obtain rfl:=he.2 rfl;clear he)
  have HB1:=jH hb1
  clear hb1 C1
  go_loopw [18] (fun v V=>∃ i:Nat,i≤ln∧v=.int .i64 i∧(∀ j t,j<i→ts[j]?=some t→mayB n 48 t=true)∧Below w.heap.size w V) (fun v _=>ln - (intOf v).toNat)
  case atStart=>exact ⟨0,Nat.zero_le _,rfl,fun j t hj=>by omega,HB1.out⟩
  case round =>
   obtain ⟨i,hi,rfl,hall,hBV⟩:=hrel
   have HALL:=jH hall
   have HBV:=jH hBV
   clear hall hBV HB1
   by_cases hlt:i<ln
   ·obtain ⟨t,ht⟩:∃ t,ts[i]?=some t:=⟨_,List.getElem?_eq_getElem (by have:=HLN.out;omega)⟩
    obtain ⟨g,off,V,ea,hc5,hT⟩:=(HL.out.bel HBV.out).one ht
    subst ea
    have HTT:=jH ht
    obtain ⟨hg,p0,p1,p2,p3,p4⟩:=hc5
    obtain ⟨bt,hbt⟩:∃ bt,bt=mayB n 48 t:=⟨_,rfl⟩
    have HBT:=jH hbt
    have C3:Hid (Calls Tryz.prog 223 #[.int .i64 n,V.v] (wr.alloc V.o) fun e w'=>e=.returned (.bool bt)∧Below (wr.alloc V.o).heap.size (wr.alloc V.o) w'):=by
     have:=C2.out t V (wr.alloc V.o) (hT.bel (belA bR))
     rw [← hbt] at this
     exact this
    have j0:(0:Int)≤(i:Int):=by omega
    have j1:(i:Int)<(ln:Int):=by omega
    clear hT ht hbt
    cases bt with
    | false =>
     have hbf:b=false:=by
      cases hbb:b with
      | false=>rfl
      | true =>
       have:=HB.out.1 hbb t (List.mem_of_getElem? HTT.out)
       rw [← HBT.out] at this
       cases this
     subst hbf
     go_wp2_with (go_at_call 223;refine C3.out.mono ?_;rintro e w2 ⟨rfl,hb2⟩)
     go_ret
     exact ⟨rfl,jB HBV.out (below1 hb2)⟩
    | true =>
     have j2:(i:Int)+1≤9223372036854775807:=by omega
     go_wp2_with (go_at_call 223;refine C3.out.mono ?_;rintro e w2 ⟨rfl,hb2⟩)
     refine ⟨⟨i+1,hlt,rfl,fun j t' hj ht'=>?_,jB HBV.out (below1 hb2)⟩,?_⟩
     ·by_cases e:j=i
      ·subst e
       rw [HTT.out] at ht'
       cases ht'
       exact HBT.out.symm
      ·exact HALL.out j t' (by omega) ht'
     ·show ln - ((i:Int)+1).toNat<ln - (i:Int).toNat
      omega
   ·obtain rfl:i=ln:=by omega
    have lt:¬ (i:Int)<(i:Int):=by omega
    have hbt:b=true:=HB.out.2 fun t ht=>by
     obtain ⟨j,hj⟩:=List.mem_iff_getElem?.1 ht
     exact HALL.out j t (by have:=(List.getElem?_eq_some_iff.1 hj).1;have:=HLN.out;omega) hj
    subst hbt
    go_wp2_with fail
    go_ret
    exact ⟨rfl,HBV.out⟩
def stepC (fc:Nat→List Ch):Ch→Int→Option (Ch × Int)
 | .leaf k sn,s=>if k=5∧0≤s then ((fc sn.toNat)[s.toNat]?).map (fun d=>(d,0)) else none
 | .box c,s=>if s=-1 then some (c,1) else none
 | .ref m _ c,s=>if s=-1 then some (c,if m then 2 else 3) else none
theorem stepC_leaf (fc:Nat→List Ch) (k:Nat) (sn s:Int):stepC fc (.leaf k sn) s=if k=5∧0≤s then ((fc sn.toNat)[s.toNat]?).map (fun d=>(d,0)) else none:=rfl
theorem stepC_box (fc:Nat→List Ch) (c:Ch) (s:Int):stepC fc (.box c) s=if s=-1 then some (c,1) else none:=rfl
theorem stepC_ref (fc:Nat→List Ch) (m:Bool) (r:Int) (c:Ch) (s:Int):stepC fc (.ref m r c) s=if s=-1 then some (c,if m then 2 else 3) else none:=rfl
def wayC (fc:Nat→List Ch):Ch→List Int→Option (Ch × List Int)
 | c,[]=>some (c,[])
 | c,s::p=>(stepC fc c s).bind fun x=>(wayC fc x.1 p).map fun y=>(y.1,x.2::y.2)
structure SF (w:World) (a:Option Addr) (n cap:Nat) (fc:Nat→List Ch):Prop where
 st:∀ j,j<n→∃ g off fa fcap,a=some ⟨g,off,none⟩∧g<w.heap.size∧w.cell? ⟨g,off+j*2+1,none⟩=some (.slice fa (fc j).length fcap)∧FdAt w fa ((fc j).map Ch.ty)
 ok:∀ j,j<n→∀ c∈fc j,c.ok n
 le:n≤32
 len:∀ j,j<n→(fc j).length≤8
theorem SF.bel {w w':World} {a:Option Addr} {n cap:Nat} {fc:Nat→List Ch} (h:SF w a n cap fc) (hb:Below w.heap.size w w'):SF w' a n cap fc where
 st:=fun j hj=>by
  obtain ⟨g,off,fa,fcap,e,hg,h1,h2⟩:=h.st j hj
  exact ⟨g,off,fa,fcap,e,Nat.lt_of_lt_of_le hg hb.size,(hb.cell (p:=⟨g,off+j*2+1,none⟩) hg).trans h1,h2.bel hb⟩
 ok:=h.ok
 le:=h.le
 len:=h.len
theorem stepC_ok {w:World} {a:Option Addr} {n cap:Nat} {fc:Nat→List Ch} (h:SF w a n cap fc) {c d:Ch} {s g:Int} (hc:c.ok n) (hs:stepC fc c s=some (d,g)):d.ok n∧(0≤g∧g≤3):=by
 cases c with
 | leaf k sn =>
  rw [stepC_leaf] at hs
  split at hs
  ·rename_i hk
   rw [Option.map_eq_some_iff] at hs
   obtain ⟨x,hx,e⟩:=hs
   cases e
   have hk5:(k=1∨k=2)∧sn=0∨k=5∧0≤sn∧sn<n:=hc
   exact ⟨h.ok sn.toNat (by omega) d (List.mem_of_getElem? hx),by omega⟩
  ·cases hs
 | box c =>
  rw [stepC_box] at hs
  split at hs
  ·cases hs;exact ⟨hc,by omega⟩
  ·cases hs
 | ref m r c =>
  rw [stepC_ref] at hs
  split at hs
  ·cases hs
   refine ⟨hc.2,?_⟩
   cases m <;> simp
  ·cases hs
theorem wpl_storeT {w:World} {ops:Array Oper} {rest:List Oper} {a:Act} {Q:Exit→Act→World→Prop} {x y:Nat} {ty:TypeId} {pos:String} {after:Array Edge} (b:Nat) (f0 f:Fv) (hA:At w b f0.o)
  (hx:a.eval (.tmp x)=.pointer (some ⟨b,0,none⟩)) (hy:a.eval (.tmp y)=f.v) (h:∀ w',w'=S5 w b f→wpList Tryz.prog ops Q rest a w'):wpList Tryz.prog ops Q (⟨none,.store 43 (.tmp x) (.tmp y),ty,pos,after,none⟩::rest) a w:=by
 refine wpList_plain rfl fun K hK=>?_
 have g0:=hA.tyF 0
 have g1:=hA.tyF 1
 have g2:=hA.tyF 2
 have g3:=hA.tyF 3
 have g4:=hA.tyF 4
 obtain ⟨hl,q0,q1,q2,q3,q4⟩:=hA.ty
 simp only [Nat.zero_add] at q0 q1 q2 q3 q4
 have hx2:a.tmps[x]?.getD undef=.pointer (some ⟨b,0,none⟩):=by rw [← hx];simp [Act.eval]
 have hy2:a.tmps[y]?.getD undef=f.v:=by rw [← hy];simp [Act.eval]
 unfold Oper.wp
 simp [execOp,hx2,hy2,go_sem,q0,q1,q2,q3,q4,g0,g1,g2,g3,g4]
 exact hK _ _ (h _ rfl)
theorem Tryz.results224:Tryz.f224.results=#[.cell 6 43,.tmp 7,.tmp 8]:=rfl
def StfPost (R:Option (Ch × Int)) (w:World) (e:Ending):Prop:=match R with
 | some x=>∃ f':Fv,e=.returned (.tuple #[f'.v,.int .i64 x.2,.bool true])∧TyAt w f' x.1.ty
 | none=>e=.returned (.tuple #[zT.v,.int .i64 0,.bool false])
theorem stepFrom_any {w0 w:World} (hB0:Below w0.heap.size w0 w) {a:Option Addr} {n cap:Nat} {fc:Nat→List Ch} (h:SF w0 a n cap fc) (c:Ch) (f:Fv) (hc:c.ok n) (hT:TyAt w0 f c.ty) (s:Int) (s0:-9223372036854775808≤s) (s1:s≤9223372036854775807) (R:Option (Ch × Int)) (hR:R=stepC fc c s) :
  Calls Tryz.prog 224 #[.slice a n cap,f.v,.int .i64 s] w fun e w'=>StfPost R w0 e∧Below w.heap.size w w':=by
 have A0:At ((w.alloc f.o).alloc zT.o) w.heap.size f.o:=(At.new _ _).alloc _
 have A4:At ((w.alloc f.o).alloc zT.o) (w.heap.size+1) zT.o:=at_snd _ _ _
 have HA4:=jH A4
 have hB:Below w.heap.size w ((w.alloc f.o).alloc zT.o):=belB w f zT
 have HB:=jH hB
 have g0:=A4.tyF 0
 have g1:=A4.tyF 1
 have g2:=A4.tyF 2
 have g3:=A4.tyF 3
 have g4:=A4.tyF 4
 have FIN:Hid (∀ f':Fv,C5 (S5 ((w.alloc f.o).alloc zT.o) (w.heap.size+1) f') (w.heap.size+1) 0 f'∧Below w.heap.size w (S5 ((w.alloc f.o).alloc zT.o) (w.heap.size+1) f')):=fun f'=>⟨(HA4.out.set5 f').ty,below_S5 HB.out (by omega) f'⟩
 cases c with
 | leaf k sn =>
  obtain ⟨fa0,fcap0,rfl,-⟩:=hT.leaf
  have hk5:(k=1∨k=2)∧sn=0∨k=5∧0≤sn∧sn<n:=hc
  by_cases k5:k=5
  ·subst k5
   obtain ⟨j,rfl⟩:∃ j:Nat,sn=(j:Int):=⟨sn.toNat,by omega⟩
   have hj:j<n:=by omega
   obtain ⟨g,off,fa,fcap,ea,hg,hcell,hF⟩:=h.st j hj
   replace hcell:=(hB0.cell (p:=⟨g,off+j*2+1,none⟩) hg).trans hcell
   replace hg:=Nat.lt_of_lt_of_le hg hB0.size
   have hlen:=h.len j hj
   subst ea
   have HF:=jH hF
   obtain ⟨m,hm⟩:∃ m,m=(fc j).length:=⟨_,rfl⟩
   rw [← hm] at hcell hlen
   have HM:=jH hm
   have e0:stepC fc (.leaf 5 (j:Int)) s=if 0≤s then ((fc j)[s.toNat]?).map (fun d=>(d,0)) else none:=by
    rw [stepC_leaf]
    simp
   rw [e0] at hR
   have j0:(0:Int)≤(j:Int):=by omega
   have j1:(j:Int)<(n:Int):=by omega
   have j2:(j:Int)≤32:=by have:=h.le;omega
   have HBW:=jH hB
   clear hB A0 A4 hc hT hF hm hk5 e0
   show Calls Tryz.prog 224 #[.slice (some ⟨g,off,none⟩) n cap,tyV 5 false 0 (j:Int) fa0 0 fcap0,.int .i64 s] w _
   by_cases hs0:s<0
   ·rw [if_neg (by omega)] at hR
    subst hR
    clear h HF
    go_enter Tryz.func224,Tryz.ntmps224
    go_wp2_with fail
    exact bodyPost_ret (results_c3 (g:=zT) Tryz.results224 rfl rfl rfl HA4.out.ty) rfl ⟨rfl,HB.out⟩
   ·rw [if_pos (by omega)] at hR
    obtain ⟨i,rfl⟩:∃ i:Nat,s=(i:Int):=⟨s.toNat,by omega⟩
    rw [Int.toNat_natCast] at hR
    by_cases hi:i<m
    ·obtain ⟨d,hd⟩:∃ d,(fc j)[i]?=some d:=⟨_,List.getElem?_eq_getElem (by have:=HM.out;omega)⟩
     rw [hd] at hR
     have hR2:R=some (d,0):=hR
     subst hR2
     have hd2:((fc j).map Ch.ty)[i]?=some d.ty:=by rw [List.getElem?_map,hd];rfl
     obtain ⟨g',off',ea',hk⟩:=HF.out.2 (fun e=>by rw [e] at hd2;simp at hd2)
     obtain ⟨V,nm,-,hV5,hVt⟩:=hk i d.ty hd2
     subst ea'
     have HVT:=jH hVt
     obtain ⟨hg',p0,p1,p2,p3,p4⟩:=hV5.below hB0
     have i0:(0:Int)≤(i:Int):=by omega
     have i1:(i:Int)<(m:Int):=by omega
     have i2:¬ (m:Int)≤(i:Int):=by omega
     have i3:¬ (i:Int)<0:=by omega
     clear h HF hd hd2 hR hk hVt hs0 hV5 hB0
     go_enter Tryz.func224,Tryz.ntmps224
     go_wp2_with (((with_reducible show wpList _ _ _ (Oper.mk none (Op.store 43 _ _) _ _ _ none::_) _ _);refine wpl_storeT (w.heap.size+1) zT V HA4.out rfl rfl ?_;intro w9 hw9;have F9:Hid (C5 w9 (w.heap.size+1) 0 V∧Below w.heap.size w w9):=(by rw [hw9];exact FIN.out V);clear hw9))
     exact bodyPost_ret (results_c3 (g:=V) Tryz.results224 rfl rfl rfl F9.out.1) rfl ⟨⟨V,rfl,HVT.out⟩,F9.out.2⟩
    ·have hd:(fc j)[i]?=none:=List.getElem?_eq_none (by have:=HM.out;omega)
     rw [hd] at hR
     have hR2:R=none:=hR
     subst hR2
     have i2:(m:Int)≤(i:Int):=by omega
     have i3:¬ (i:Int)<0:=by omega
     clear h HF hd hR hs0
     go_enter Tryz.func224,Tryz.ntmps224
     go_wp2_with fail
     exact bodyPost_ret (results_c3 (g:=zT) Tryz.results224 rfl rfl rfl HA4.out.ty) rfl ⟨rfl,HB.out⟩
  ·rw [stepC_leaf,if_neg (fun e=>k5 e.1)] at hR
   subst hR
   have k1:¬ (k:Int)=5:=by omega
   have k3:¬ (k:Int)=3:=by omega
   have k4:¬ (k:Int)=4:=by omega
   have k4b:((k:Int) == 4)=false:=by simpa using k4
   clear h hc hT hB A0 A4 hk5
   show Calls Tryz.prog 224 #[.slice a n cap,tyV k false 0 sn fa0 0 fcap0,.int .i64 s] w _
   by_cases hs:s=-1
   ·subst hs
    go_enter Tryz.func224,Tryz.ntmps224
    go_wp2_with fail
    exact bodyPost_ret (results_c3 (g:=zT) Tryz.results224 rfl rfl rfl HA4.out.ty) rfl ⟨rfl,HB.out⟩
   ·go_enter Tryz.func224,Tryz.ntmps224
    go_wp2_with fail
    exact bodyPost_ret (results_c3 (g:=zT) Tryz.results224 rfl rfl rfl HA4.out.ty) rfl ⟨rfl,HB.out⟩
 | box d =>
  obtain ⟨g,off,cap',f2,rfl,hc5,ht2⟩:=hT.box
  rw [stepC_box] at hR
  have HVT:=jH ht2
  obtain ⟨hg,p0,p1,p2,p3,p4⟩:=hc5.below hB0
  clear hc5
  clear h hc hT hB A0 A4 ht2 s0 s1 hB0
  show Calls Tryz.prog 224 #[.slice a n cap,tyV 3 false 0 0 (some ⟨g,off,none⟩) 1 cap',.int .i64 s] w _
  by_cases hs:s=-1
  ·subst hs
   have hR2:R=some (d,1):=hR
   clear hR
   subst hR2
   go_enter Tryz.func224,Tryz.ntmps224
   go_wp2_with (((with_reducible show wpList _ _ _ (Oper.mk none (Op.store 43 _ _) _ _ _ none::_) _ _);refine wpl_storeT (w.heap.size+1) zT f2 HA4.out rfl rfl ?_;intro w9 hw9;have F9:Hid (C5 w9 (w.heap.size+1) 0 f2∧Below w.heap.size w w9):=(by rw [hw9];exact FIN.out f2);clear hw9))
   exact bodyPost_ret (results_c3 (g:=f2) Tryz.results224 rfl rfl rfl F9.out.1) rfl ⟨⟨f2,rfl,HVT.out⟩,F9.out.2⟩
  ·rw [if_neg hs] at hR
   subst hR
   go_enter Tryz.func224,Tryz.ntmps224
   go_wp2_with fail
   exact bodyPost_ret (results_c3 (g:=zT) Tryz.results224 rfl rfl rfl HA4.out.ty) rfl ⟨rfl,HB.out⟩
 | ref m r d =>
  obtain ⟨g,off,cap',f2,rfl,hc5,ht2,r0,r1⟩:=hT.ref
  rw [stepC_ref] at hR
  have HVT:=jH ht2
  obtain ⟨hg,p0,p1,p2,p3,p4⟩:=hc5.below hB0
  clear hc5
  clear h hc hT hB A0 A4 ht2 s0 s1 hB0
  show Calls Tryz.prog 224 #[.slice a n cap,tyV 4 m r 0 (some ⟨g,off,none⟩) 1 cap',.int .i64 s] w _
  by_cases hs:s=-1
  ·subst hs
   cases m with
   | true =>
    have hR2:R=some (d,2):=hR
    clear hR
    subst hR2
    go_enter Tryz.func224,Tryz.ntmps224
    go_wp2_with (((with_reducible show wpList _ _ _ (Oper.mk none (Op.store 43 _ _) _ _ _ none::_) _ _);refine wpl_storeT (w.heap.size+1) zT f2 HA4.out rfl rfl ?_;intro w9 hw9;have F9:Hid (C5 w9 (w.heap.size+1) 0 f2∧Below w.heap.size w w9):=(by rw [hw9];exact FIN.out f2);clear hw9))
    exact bodyPost_ret (results_c3 (g:=f2) Tryz.results224 rfl rfl rfl F9.out.1) rfl ⟨⟨f2,rfl,HVT.out⟩,F9.out.2⟩
   | false =>
    have hR2:R=some (d,3):=hR
    clear hR
    subst hR2
    go_enter Tryz.func224,Tryz.ntmps224
    go_wp2_with (((with_reducible show wpList _ _ _ (Oper.mk none (Op.store 43 _ _) _ _ _ none::_) _ _);refine wpl_storeT (w.heap.size+1) zT f2 HA4.out rfl rfl ?_;intro w9 hw9;have F9:Hid (C5 w9 (w.heap.size+1) 0 f2∧Below w.heap.size w w9):=(by rw [hw9];exact FIN.out f2);clear hw9))
    exact bodyPost_ret (results_c3 (g:=f2) Tryz.results224 rfl rfl rfl F9.out.1) rfl ⟨⟨f2,rfl,HVT.out⟩,F9.out.2⟩
  ·rw [if_neg hs] at hR
   subst hR
   go_enter Tryz.func224,Tryz.ntmps224
   go_wp2_with fail
   exact bodyPost_ret (results_c3 (g:=zT) Tryz.results224 rfl rfl rfl HA4.out.ty) rfl ⟨rfl,HB.out⟩
end Go.Proofs.YtmjenlogbkbgnaaGreatDoor
