import Derived.Test.YtmjenlogbkbgnaaGreatDoorB03
namespace Go.Proofs.YtmjenlogbkbgnaaGreatDoor
open Go.RowKit
set_option linter.unusedVariables false
set_option linter.unusedSimpArgs false
set_option maxRecDepth 100000
set_option maxHeartbeats 4000000
def subT:Ty→Option Nat
 | .mk k _ _ s _=>if k=5 then some s.toNat else none
def boxT:Ty→Bool
 | .mk k _ _ _ _=>decide (k=3)
def fld (ss:List (List Ty)) (i:Nat):List Ty:=(ss[i]?).getD []
theorem fld_of {ss:List (List Ty)} {i:Nat} {fs:List Ty} (h:ss[i]?=some fs):fld ss i=fs:=by unfold fld;rw [h];rfl
def Stp (ss:List (List Ty)) (i j:Nat):Prop:=∃ t∈fld ss i,subT t=some j
inductive Stn (ss:List (List Ty)):Nat→Nat→Prop
 | one {i j:Nat} (h:Stp ss i j):Stn ss i j
 | more {i j k:Nat} (h:Stp ss i j) (h':Stn ss j k):Stn ss i k
theorem Stn.trans {ss:List (List Ty)} {i j k:Nat} (h:Stn ss i j) (h':Stn ss j k):Stn ss i k:=by
 induction h with
 | one h=>exact .more h h'
 | more h _ ih=>exact .more h (ih h')
theorem Stn.closed {ss:List (List Ty)} {M:Nat→Prop} {i:Nat} (h1:∀ j,Stp ss i j→M j) (h2:∀ j k,M j→Stp ss j k→M k):∀ {k:Nat},Stn ss i k→M k:=by
 intro k hk
 have key:∀ {a b:Nat},Stn ss a b→(∀ j,Stp ss a j→M j)→M b:=by
  intro a b hab
  induction hab with
  | one h=>intro hs;exact hs _ h
  | more h _ ih=>intro hs;exact ih (fun j hj=>h2 _ _ (hs _ h) hj)
 exact key hk h1
theorem filter_lt {p q:Nat→Bool}:∀ {l:List Nat} {x:Nat},(∀ y∈l,p y=true→q y=true)→x∈l→q x=true→p x=false→(l.filter p).length<(l.filter q).length:=by
 have le:∀ l:List Nat,(∀ y∈l,p y=true→q y=true)→(l.filter p).length≤(l.filter q).length:=by
  intro l
  induction l with
  | nil=>intro _;simp
  | cons y l ih =>
   intro h
   have:=ih (fun z hz=>h z (List.mem_cons_of_mem _ hz))
   cases hp:p y with
   | false =>
    rw [List.filter_cons_of_neg (by simp [hp])]
    cases hq:q y with
    | false=>rw [List.filter_cons_of_neg (by simp [hq])];exact this
    | true=>rw [List.filter_cons_of_pos hq];simp;omega
   | true =>
    have hq:=h y List.mem_cons_self hp
    rw [List.filter_cons_of_pos hp,List.filter_cons_of_pos hq]
    simpa using this
 intro l
 induction l with
 | nil=>intro x _ hx;cases hx
 | cons y l ih =>
  intro x h hx hq hp
  have hl:=le l (fun z hz=>h z (List.mem_cons_of_mem _ hz))
  rcases List.mem_cons.1 hx with rfl|hx
  ·rw [List.filter_cons_of_neg (by simp [hp]),List.filter_cons_of_pos hq]
   simp
   omega
  ·have:=ih (fun z hz=>h z (List.mem_cons_of_mem _ hz)) hx hq hp
   cases hp':p y with
   | false =>
    rw [List.filter_cons_of_neg (by simp [hp'])]
    cases hq':q y with
    | false=>rw [List.filter_cons_of_neg (by simp [hq'])];exact this
    | true=>rw [List.filter_cons_of_pos hq'];simp;omega
   | true =>
    have hq':=h y List.mem_cons_self hp'
    rw [List.filter_cons_of_pos hp',List.filter_cons_of_pos hq']
    simpa using this
def Rank (ss:List (List Ty)) (rk:Nat→Nat):Prop:=(∀ i,rk i≤ss.length)∧∀ i j,Stp ss i j→rk j<rk i
theorem rank_ex {ss:List (List Ty)} (hlt:∀ i j,Stp ss i j→j<ss.length) (hac:∀ i,i<ss.length→¬ Stn ss i i):∃ rk,Rank ss rk:=by
 have dec:∀ a b,Decidable (Stn ss a b):=fun a b=>Classical.propDecidable _
 refine ⟨fun i=>((List.range ss.length).filter (fun j=>decide (Stn ss i j))).length,fun i=>?_,fun i j h=>?_⟩
 ·have:=List.length_filter_le (fun j=>decide (Stn ss i j)) (List.range ss.length)
  simpa using this
 ·refine filter_lt (x:=j) (fun k _ hk=>?_) (by simpa using hlt i j h) ?_ ?_
  ·have:=of_decide_eq_true hk
   exact decide_eq_true (Stn.more h this)
  ·exact decide_eq_true (Stn.one h)
  ·exact decide_eq_false (hac j (hlt i j h))
def twF (ss:List (List Ty)):Nat→Nat→Nat
 | 0,_=>0
 | f+1,i=>((fld ss i).map fun t=>match subT t with|some j=>twF ss f j|none=>1).sum
def dpF (ss:List (List Ty)):Nat→Nat→Bool
 | 0,_=>false
 | f+1,i=>(fld ss i).any fun t=>match subT t with|some j=>dpF ss f j|none=>boxT t
theorem twF_stable {ss:List (List Ty)} {rk:Nat→Nat} (hr:Rank ss rk):∀ (f g i:Nat),rk i<f→rk i<g→twF ss f i=twF ss g i
 | 0,_,_,h,_=>by omega
 | _+1,0,_,_,h=>by omega
 | f+1,g+1,i,h,h'=>by
  unfold twF
  congr 1
  apply List.map_congr_left
  intro t ht
  cases hs:subT t with
  | none=>rfl
  | some j =>
   have:=hr.2 i j ⟨t,ht,hs⟩
   exact twF_stable hr f g j (by omega) (by omega)
theorem dpF_stable {ss:List (List Ty)} {rk:Nat→Nat} (hr:Rank ss rk):∀ (f g i:Nat),rk i<f→rk i<g→dpF ss f i=dpF ss g i
 | 0,_,_,h,_=>by omega
 | _+1,0,_,_,h=>by omega
 | f+1,g+1,i,h,h'=>by
  unfold dpF
  rw [Bool.eq_iff_iff,List.any_eq_true,List.any_eq_true]
  have key:∀ t∈fld ss i,(match subT t with|some j=>dpF ss f j|none=>boxT t)=(match subT t with|some j=>dpF ss g j|none=>boxT t):=by
   intro t ht
   cases hs:subT t with
   | none=>rfl
   | some j =>
    have:=hr.2 i j ⟨t,ht,hs⟩
    exact dpF_stable hr f g j (by omega) (by omega)
  constructor
  ·rintro ⟨t,ht,h⟩
   exact ⟨t,ht,by rw [← key t ht];exact h⟩
  ·rintro ⟨t,ht,h⟩
   exact ⟨t,ht,by rw [key t ht];exact h⟩
def tw (ss:List (List Ty)) (i:Nat):Nat:=twF ss (ss.length+1) i
def dp (ss:List (List Ty)) (i:Nat):Bool:=dpF ss (ss.length+1) i
def wdT (ss:List (List Ty)) (t:Ty):Nat:=match subT t with|some j=>tw ss j|none=>1
def dpT (ss:List (List Ty)) (t:Ty):Bool:=match subT t with|some j=>dp ss j|none=>boxT t
theorem tw_eq {ss:List (List Ty)} {rk:Nat→Nat} (hr:Rank ss rk) (i:Nat):tw ss i=((fld ss i).map (wdT ss)).sum:=by
 have hi:=hr.1 i
 show twF ss (ss.length+1) i=_
 unfold twF
 congr 1
 apply List.map_congr_left
 intro t ht
 unfold wdT
 cases hs:subT t with
 | none=>rfl
 | some j =>
  have:=hr.2 i j ⟨t,ht,hs⟩
  exact twF_stable hr _ _ j (by omega) (by omega)
theorem dp_eq {ss:List (List Ty)} {rk:Nat→Nat} (hr:Rank ss rk) (i:Nat):dp ss i=(fld ss i).any (dpT ss):=by
 have hi:=hr.1 i
 show dpF ss (ss.length+1) i=_
 unfold dpF
 rw [Bool.eq_iff_iff,List.any_eq_true,List.any_eq_true]
 have key:∀ t∈fld ss i,(match subT t with|some j=>dpF ss ss.length j|none=>boxT t)=dpT ss t:=by
  intro t ht
  unfold dpT
  cases hs:subT t with
  | none=>rfl
  | some j =>
   have:=hr.2 i j ⟨t,ht,hs⟩
   exact dpF_stable hr _ _ j (by omega) (by omega)
 constructor
 ·rintro ⟨t,ht,h⟩
  exact ⟨t,ht,by rw [← key t ht];exact h⟩
 ·rintro ⟨t,ht,h⟩
  exact ⟨t,ht,by rw [key t ht];exact h⟩
def cw (ss:List (List Ty)) (t:Ty):Nat:=min (wdT ss t) 17
def cwS (ss:List (List Ty)) (i:Nat):Nat:=min (tw ss i) 17
theorem cw_sub {ss:List (List Ty)} {t:Ty} {j:Nat} (h:subT t=some j):cw ss t=cwS ss j:=by unfold cw cwS wdT;rw [h]
theorem cw_none {ss:List (List Ty)} {t:Ty} (h:subT t=none):cw ss t=1:=by unfold cw wdT;rw [h];rfl
theorem cap_sum {α:Type} (f:α→Nat):∀ l:List α,min ((l.map fun x=>min (f x) 17).sum) 17=min ((l.map f).sum) 17
 | []=>rfl
 | x::l=>by
  have:=cap_sum f l
  simp only [List.map_cons,List.sum_cons]
  omega
theorem cwS_eq {ss:List (List Ty)} {rk:Nat→Nat} (hr:Rank ss rk) (i:Nat):cwS ss i=min ((fld ss i).map (cw ss)).sum 17:=by
 unfold cwS
 rw [tw_eq hr]
 exact (cap_sum (wdT ss) _).symm
def fstB (b:Nat→Bool):Nat→Option Nat
 | 0=>none
 | n+1=>match fstB b n with|some i=>some i|none=>if b n=true then some n else none
theorem fstB_none {b:Nat→Bool}:∀ {n:Nat},(∀ j,j<n→b j=false)→fstB b n=none
 | 0,_=>rfl
 | n+1,h=>by
  unfold fstB
  rw [fstB_none (fun j hj=>h j (by omega)),h n (by omega)]
  rfl
theorem fstB_some {b:Nat→Bool}:∀ {n i:Nat},i<n→b i=true→(∀ j,j<i→b j=false)→fstB b n=some i
 | 0,i,hi,_,_=>by omega
 | n+1,i,hi,h,h'=>by
  unfold fstB
  by_cases e:i=n
  ·subst e
   rw [fstB_none h']
   simp [h]
  ·rw [fstB_some (n:=n) (by omega) h h']
theorem fstB_no {b:Nat→Bool} {n:Nat} (h:fstB b n=none):∀ j,j<n→b j=false:=by
 intro j hj
 cases hb:b j with
 | false=>rfl
 | true =>
  exfalso
  have key:∀ k,k≤j→(∀ i,i<k→b i=false):=by
   intro k
   induction k with
   | zero=>intro _ i hi;omega
   | succ k ih =>
    intro hk i hi
    by_cases e:i=k
    ·subst e
     cases hc:b i with
     | false=>rfl
     | true=>rw [fstB_some (by omega) hc (ih (by omega))] at h;cases h
    ·exact ih (by omega) i (by omega)
  rw [fstB_some hj hb (key j (Nat.le_refl _))] at h
  cases h
def stRes (n:Nat) (b1 b2 b3:Nat→Bool):Nat × Nat :=
 if 32<n then (32,2) else
 match fstB b1 n with
 | some i=>(i,2)
 | none=>match fstB b2 n with
  | some i=>(i,2)
  | none=>match fstB b3 n with
   | some i=>(i,2)
   | none=>(0,0)
def Fine (ss:List (List Ty)):Prop:=∀ (i:Nat) (fs:List Ty),ss[i]?=some fs→1≤fs.length∧fs.length≤8∧∀ t∈fs,PlainT ss.length t
theorem Fine.at {ss:List (List Ty)} (h:Fine ss) {i:Nat} {t:Ty} (ht:t∈fld ss i):PlainT ss.length t:=by
 unfold fld at ht
 cases hi:ss[i]? with
 | none=>rw [hi] at ht;cases ht
 | some fs=>rw [hi] at ht;exact (h i fs hi).2.2 t ht
theorem PlainT.sub {n:Nat} {t:Ty} (h:PlainT n t) {j:Nat} (hj:subT t=some j):j<n∧t=(Ch.leaf 5 (j:Int)).ty:=by
 obtain ⟨c,rfl,h1,h2,h3⟩:=h
 cases c with
 | leaf k s =>
  simp only [Ch.ty,subT] at hj
  split at hj
  ·rename_i hk
   subst hk
   cases hj
   rcases h1 with ⟨h1,-⟩|⟨-,h1,h4⟩
   ·omega
   ·refine ⟨by omega,?_⟩
    rw [show ((s.toNat:Nat):Int)=s by omega]
  ·cases hj
 | box c=>simp [Ch.ty,subT] at hj
 | ref m r c=>simp [Ch.ty,subT] at hj
theorem Fine.lt {ss:List (List Ty)} (h:Fine ss):∀ i j,Stp ss i j→j<ss.length:=fun i j ⟨t,ht,hj⟩=>((h.at ht).sub hj).1
theorem PlainT.kind {n:Nat} {t:Ty} (h:PlainT n t):(∃ j:Nat,j<n∧subT t=some j∧boxT t=false∧t=(Ch.leaf 5 (j:Int)).ty)∨subT t=none∧∃ c:Ch,t=c.ty∧c.regs=[]∧((∃ k s,c=.leaf k s∧(k=1∨k=2)∧boxT t=false)∨∃ d,c=.box d∧boxT t=true):=by
 obtain ⟨c,rfl,h1,h2,h3⟩:=h
 cases c with
 | leaf k s =>
  rcases h1 with ⟨h1,-⟩|⟨rfl,h1,h4⟩
  ·refine .inr ⟨?_,_,rfl,h3,.inl ⟨k,s,rfl,h1,?_⟩⟩
   ·simp only [Ch.ty,subT];rw [if_neg (by omega)]
   ·simp only [Ch.ty,boxT];exact decide_eq_false (by omega)
  ·refine .inl ⟨s.toNat,by omega,rfl,rfl,?_⟩
   rw [show ((s.toNat:Nat):Int)=s by omega]
 | box c=>exact .inr ⟨rfl,_,rfl,h3,.inr ⟨c,rfl,rfl⟩⟩
 | ref m r c=>simp [Ch.regs] at h3
def arr (v:Nat→Value):Array Value:=((List.range 32).map v).toArray
theorem arr_size (v:Nat→Value):(arr v).size=32:=by simp [arr]
theorem arr_at (v:Nat→Value) {j:Nat} (h:j<32):(arr v)[j]?=some (v j):=by simp [arr,h]
def upd {α:Type} (v:Nat→α) (j:Nat) (x:α):Nat→α:=fun i=>if i=j then x else v i
theorem upd_same {α:Type} (v:Nat→α) (j:Nat) (x:α):upd v j x j=x:=by simp [upd]
theorem upd_other {α:Type} (v:Nat→α) {i j:Nat} (x:α) (h:i≠j):upd v j x i=v i:=by simp [upd,h]
theorem arr_set (v:Nat→Value) (j:Nat) (x:Value):(arr v).setIfInBounds j x=arr (upd v j x):=by
 apply Array.ext_getElem?
 intro i
 by_cases hi:i<32
 ·rw [arr_at _ hi]
  by_cases e:i=j
  ·subst e
   rw [upd_same]
   simp [arr_size,hi]
  ·rw [upd_other _ _ e,Array.getElem?_setIfInBounds_ne (by omega),arr_at _ hi]
 ·rw [Array.getElem?_eq_none (by rw [Array.size_setIfInBounds,arr_size];omega),Array.getElem?_eq_none (by rw [arr_size];omega)]
abbrev Arr (w:World) (b t:Nat) (v:Nat→Value):Prop:=At w b (.cells (arr v) t (0,0))
theorem At.arrc {w:World} {b t:Nat} {v:Nat→Value} (h:Arr w b t v) {j:Nat} (hj:j<32):w.cell? ⟨b,j,none⟩=some (v j):=by
 unfold Arr At at h
 simp only [World.cell?,h]
 simpa using arr_at v hj
theorem At.arrf {w:World} {b t:Nat} {v:Nat→Value} (h:Arr w b t v) (j:Nat):w.frozen? ⟨b,j,none⟩=false:=frozen_of_row w b j _ t h
theorem At.arrs {w:World} {b t:Nat} {v:Nat→Value} (h:Arr w b t v) (j:Nat) (x:Value):Arr (w.setCell ⟨b,j,none⟩ x) b t (upd v j x):=by
 have:=heap_setCell_same w b j (arr v) t x h
 rw [arr_set] at this
 exact this
abbrev bV (M:Nat→Bool):Nat→Value:=fun i=>.bool (M i)
theorem bV_upd (M:Nat→Bool) (j:Nat) (x:Bool):upd (bV M) j (.bool x)=bV (upd M j x):=by
 funext i
 by_cases e:i=j <;> simp [upd,bV,e]
def left (M:Nat→Bool):Nat:=((List.range 32).filter fun j=>!M j).length
theorem left_lt {M:Nat→Bool} {j:Nat} (hj:j<32) (h:M j=false):left (upd M j true)<left M:=by
 refine filter_lt (x:=j) (fun i _ hi=>?_) (by simpa using hj) (by simp [h]) (by simp [upd])
 by_cases e:i=j
 ·subst e;simp [upd] at hi
 ·simpa [upd,e] using hi
theorem left_le {M M':Nat→Bool} (h:∀ j,M j=true→M' j=true):left M'≤left M:=by
 unfold left
 rw [← List.countP_eq_length_filter,← List.countP_eq_length_filter]
 refine List.countP_mono_left fun i _ hi=>?_
 cases hm:M i with
 | false=>rfl
 | true=>rw [h i hm] at hi;cases hi
structure MP (ss:List (List Ty)) (i:Nat) (M M':Nat→Bool):Prop where
 mono:∀ j,M j=true→M' j=true
 from':∀ j,M' j=true→M j=false→Stn ss i j
 step:∀ j,Stp ss i j→M' j=true
 clos:∀ j,M' j=true→M j=false→∀ k,Stp ss j k→M' k=true
structure MK (ss:List (List Ty)) (i k:Nat) (M M':Nat→Bool):Prop where
 mono:∀ j,M j=true→M' j=true
 from':∀ j,M' j=true→M j=false→Stn ss i j
 step:∀ t∈(fld ss i).take k,∀ j,subT t=some j→M' j=true
 clos:∀ j,M' j=true→M j=false→∀ k,Stp ss j k→M' k=true
theorem MK.init (ss:List (List Ty)) (i:Nat) (M:Nat→Bool):MK ss i 0 M M:=⟨fun _ h=>h,fun j h h'=>(by rw [h] at h';cases h'),fun t ht=>(by cases ht),fun j h h'=>(by rw [h] at h';cases h')⟩
theorem MK.skip {ss:List (List Ty)} {i k:Nat} {M M':Nat→Bool} (h:MK ss i k M M') {t:Ty} (ht:(fld ss i)[k]?=some t) (hj:∀ j,subT t=some j→M' j=true):MK ss i (k+1) M M':=by
 refine ⟨h.mono,h.from',fun u hu j hs=>?_,h.clos⟩
 rw [List.take_add_one,ht] at hu
 rcases List.mem_append.1 hu with hu|hu
 ·exact h.step u hu j hs
 ·simp at hu
  subst hu
  exact hj j hs
theorem MK.into {ss:List (List Ty)} {i k j:Nat} {M M' M'':Nat→Bool} (h:MK ss i k M M') {t:Ty} (ht:(fld ss i)[k]?=some t) (hj:subT t=some j) (hm:M' j=false) (hp:MP ss j (upd M' j true) M''):MK ss i (k+1) M M'':=by
 have hst:Stp ss i j:=⟨t,List.mem_of_getElem? ht,hj⟩
 have up:∀ x,M' x=true→M'' x=true:=fun x hx=>hp.mono x (by by_cases e:x=j <;> simp [upd,e,hx])
 have jm:M'' j=true:=hp.mono j (by simp [upd])
 refine ⟨fun x hx=>up x (h.mono x hx),fun x hx h0=>?_,fun u hu l hs=>?_,fun x hx h0 l hl=>?_⟩
 ·by_cases e:x=j
  ·subst e;exact .one hst
  ·cases hx':M' x with
   | true=>exact h.from' x hx' h0
   | false=>exact .more hst (hp.from' x hx (by simp [upd,e,hx']))
 ·rw [List.take_add_one,ht] at hu
  rcases List.mem_append.1 hu with hu|hu
  ·exact up l (h.step u hu l hs)
  ·simp at hu
   subst hu
   rw [hj] at hs
   cases hs
   exact jm
 ·by_cases e:x=j
  ·subst e;exact hp.step l hl
  ·cases hx':M' x with
   | true=>exact up l (h.clos x hx' h0 l hl)
   | false=>exact hp.clos x hx (by simp [upd,e,hx']) l hl
theorem MK.all {ss:List (List Ty)} {i k:Nat} {M M':Nat→Bool} (h:MK ss i k M M') (hk:(fld ss i).length≤k):MP ss i M M' :=
 ⟨h.mono,h.from',fun j ⟨t,ht,hj⟩=>h.step t (by rw [List.take_of_length_le hk];exact ht) j hj,h.clos⟩
theorem MP.iff {ss:List (List Ty)} {i:Nat} {M:Nat→Bool} (h:MP ss i (fun _=>false) M) (j:Nat):M j=true↔Stn ss i j :=
 ⟨fun hj=>h.from' j hj rfl,fun hr=>Stn.closed (M:=fun j=>M j=true) h.step (fun a b ha hb=>h.clos a ha rfl b hb) hr⟩
theorem belBut {B b:Nat} {x y z:World} (h:Below B x y) (k:But b y z) (hb:B≤b) (hB:B≤y.heap.size):Below B x z :=
 h.trans ⟨k.os,k.tape,k.output,k.size,fun i hi=>k.block i (Nat.lt_of_lt_of_le hi hB) (fun e=>by have:=Option.some.inj e;omega)⟩
theorem C5.s {w:World} {g o:Nat} {f:Fv} (h:C5 w g o f):w.cell? ⟨g,o+3,none⟩=some (.int .i64 f.s):=h.2.2.2.2.1
theorem StAt.field {w0 W:World} {a:Option Addr} {n cap:Nat} {ss:List (List Ty)} (h:StAt w0 a n cap ss) (hB:Below w0.heap.size w0 W) {i:Nat} {fs:List Ty} (hi:ss[i]?=some fs):∃ g off fa fcap,a=some ⟨g,off,none⟩∧g<w0.heap.size∧W.cell? ⟨g,off+i*2+1,none⟩=some (.slice fa fs.length fcap)∧FdAt w0 fa fs:=by
 obtain ⟨g,off,fa,fcap,h1,h2,h3,h4⟩:=h.one hi
 exact ⟨g,off,fa,fcap,h1,h2,(hB.cell (p:=⟨g,off+i*2+1,none⟩) h2).trans h3,h4⟩
theorem mark_any (w0:World) (a:Option Addr) (n cap:Nat) (ss:List (List Ty)) (h:StAt w0 a n cap ss) (hn:n≤32) (hF:Fine ss) (b:Nat) (hb:w0.heap.size≤b) :
  ∀ (c i:Nat) (M:Nat→Bool) (W:World),left M<c→i<n→Below w0.heap.size w0 W→Arr W b 231 (bV M) →
   Calls Tryz.prog 205 #[.slice a n cap,.int .i64 (i:Int),.pointer (some ⟨b,0,none⟩)] W fun e w'=>e=.returned (.tuple #[])∧∃ M',Arr w' b 231 (bV M')∧But b W w'∧MP ss i M M':=by
 intro c
 induction c with
 | zero=>intro i M W hc;omega
 | succ c ih =>
  intro i M W hc hi hBW hA
  have HLN:=jH h.len
  obtain ⟨fs,hfs⟩:∃ fs,ss[i]?=some fs:=⟨_,List.getElem?_eq_getElem (by have:=h.len;omega)⟩
  obtain ⟨g,off,fa,fcap,hag,hg,hcell,hFd⟩:=h.field hBW hfs
  obtain ⟨f1,f2,f3⟩:=hF i fs hfs
  have hfl:=fld_of hfs
  have IH:=jH ih
  have HF:=jH hFd
  have HP:=jH f3
  have HFL:=jH hfl
  have HBW:=jH hBW
  have HC:=jH hc
  have HA:=jH hA
  have HSS:=jH hF
  subst hag
  have j0:(0:Int)≤(i:Int):=by omega
  have j1:(i:Int)<(n:Int):=by omega
  obtain ⟨m,hm⟩:∃ m,m=fs.length:=⟨_,rfl⟩
  have HM:=jH hm
  have m8:m≤8:=by omega
  rw [← hm] at hcell
  clear hFd f1 f2 f3 hfl hm hfs hF ih hc hA hBW h
  go_enter Tryz.func205,Tryz.ntmps205
  go_wp2_with fail
  go_loopw [15] (fun v V=>∃ k:Nat,k≤m∧v=.int .i64 k∧∃ M',Arr V b 231 (bV M')∧But b W V∧MK ss i k M M') (fun v _=>m - (intOf v).toNat)
  case atStart=>exact ⟨0,Nat.zero_le _,rfl,M,HA.out,But.refl _ _,MK.init _ _ _⟩
  case round =>
   obtain ⟨k,hk,rfl,M',hA',hBV,hMK⟩:=hrel
   have HA':=jH hA'
   have HBV:=jH hBV
   have HMK:=jH hMK
   have hB0:=belBut HBW.out hBV hb HBW.out.size
   have HB0:=jH hB0
   have HFk:=jH (HF.out.bel hB0)
   clear hA' hBV hMK hB0
   by_cases hlk:k<m
   ·obtain ⟨t,ht⟩:∃ t,fs[k]?=some t:=⟨_,List.getElem?_eq_getElem (by have:=HM.out;omega)⟩
    obtain ⟨g',off',hfa,hkk⟩:=HFk.out.2 (fun e=>by subst e;simp at ht)
    obtain ⟨V,nm,hnm,hV5,hVt⟩:=hkk k t ht
    have HTT:Hid ((fld ss i)[k]?=some t):=jH (by rw [HFL.out];exact ht)
    have HPT:=jH (HP.out t (List.mem_of_getElem? ht))
    obtain ⟨hl5,p0,p1,p2,p3,p4⟩:=hV5
    subst hfa
    have e0:(0:Int)≤(k:Int):=by omega
    have e1:(k:Int)<(m:Int):=by omega
    have e2:(k:Int)≤1000:=by omega
    clear hkk ht
    rcases HPT.out.kind with ⟨j,hj,hs,-,rfl⟩|⟨hs,ch,rfl,-,hch⟩
    ·obtain ⟨ta,tcap,rfl,-⟩:=hVt.leaf
     have hj32:j<32:=by have:=HLN.out;omega
     have HS:=jH hs
     have q0:(0:Int)≤(j:Int):=by omega
     have q1:(j:Int)<32:=by omega
     have hc0:=HA'.out.arrc hj32
     have hf0:=HA'.out.arrf j
     have hbl:=HA'.out.lt
     clear hs hVt
     cases hm:M' j with
     | true =>
      rw [show bV M' j=.bool true from by simp [bV,hm]] at hc0
      have HMJ:=jH hm
      clear hm
      go_wp2_with fail
      go_quiet (fail)
      go_wp2_with fail
      refine ⟨⟨k+1,hlk,by go_num,M',((HA'.out.alloc _).alloc _).drewN nq,(HBV.out.alloc _).alloc _ |>.trans (But.below (belN bR nq)),HMK.out.skip HTT.out (fun l hl=>?_)⟩,?_⟩
      ·rw [HS.out] at hl
       cases hl
       exact HMJ.out
      ·show m - ((k:Int)+1).toNat<m - (k:Int).toNat
       omega
     | false =>
      rw [show bV M' j=.bool false from by simp [bV,hm]] at hc0
      have HMJ:=jH hm
      clear hm
      go_wp2_with fail
      go_quiet (fail)
      have HLE:Hid (left (upd M' j true)<c):=jH (by have h1:=left_lt hj32 HMJ.out;have h2:=left_le HMK.out.mono;have h3:=HC.out;omega)
      have CR:Hid (∀ W1,Arr W1 b 231 (bV (upd M' j true))→Below w0.heap.size w0 W1→Calls Tryz.prog 205 #[.slice (some ⟨g,off,none⟩) n cap,.int .i64 (j:Int),.pointer (some ⟨b,0,none⟩)] W1 fun e w'=>e=.returned (.tuple #[])∧∃ M'',Arr w' b 231 (bV M'')∧But b W1 w'∧MP ss j (upd M' j true) M''):=jH (fun W1 hA1 hB1=>IH.out j _ W1 HLE.out (by have:=HLN.out;omega) hB1 hA1)
      go_wp2_with fail
      go_region
      have HAX:Hid (∀ o1 o2 d,Arr ((((wr.alloc o1).alloc o2).drewN d).setCell ⟨b,j,none⟩ (.bool true)) b 231 (bV (upd M' j true))):=jH (fun o1 o2 d=>by have:=(((HA'.out.alloc o1).alloc o2).drewN d).arrs j (.bool true);rw [bV_upd] at this;exact this)
      have HBX:Hid (∀ o1 o2 d,Below w0.heap.size w0 ((((wr.alloc o1).alloc o2).drewN d).setCell ⟨b,j,none⟩ (.bool true))):=jH (fun o1 o2 d=>(belN ((HB0.out.alloc HB0.out.size o1).alloc (by have:=HB0.out.size;simp;omega) o2) d).setCell (p:=⟨b,j,none⟩) hb _)
      have HUX:Hid (∀ o1 o2 d,But b W ((((wr.alloc o1).alloc o2).drewN d).setCell ⟨b,j,none⟩ (.bool true))):=jH (fun o1 o2 d=>(((HBV.out.alloc o1).alloc o2).trans (But.below (belN bR d))).set j _)
      go_wp2_with (go_at_call 205;refine (CR.out _ (HAX.out _ _ _) (HBX.out _ _ _)).mono ?_;rintro e w1 ⟨rfl,M'',hA'',hB'',hMP⟩)
      refine ⟨⟨k+1,hlk,by go_num,M'',hA'',(HUX.out _ _ _).trans hB'',HMK.out.into HTT.out HS.out HMJ.out hMP⟩,?_⟩
      show m - ((k:Int)+1).toNat<m - (k:Int).toNat
      omega
    ·have HS:=jH hs
     have hk5:¬ (V.k:Int)=5:=by
      rcases hch with ⟨kk,s,rfl,hkk,-⟩|⟨d,rfl,-⟩
      ·obtain ⟨ta,tcap,rfl,-⟩:=hVt.leaf
       show ¬ (kk:Int)=5
       omega
      ·obtain ⟨_,_,_,_,rfl,-⟩:=hVt.box
       show ¬ ((3:Nat):Int)=5
       omega
     have hk6:((V.k:Int) == 5)=false:=by simpa using hk5
     clear hs hVt hch
     go_wp2_with fail
     go_quiet (fail)
     go_wp2_with fail
     refine ⟨⟨k+1,hlk,by go_num,M',((HA'.out.alloc _).alloc _).drewN nq,(HBV.out.alloc _).alloc _ |>.trans (But.below (belN bR nq)),HMK.out.skip HTT.out (fun l hl=>?_)⟩,?_⟩
     ·rw [HS.out] at hl
      cases hl
     ·show m - ((k:Int)+1).toNat<m - (k:Int).toNat
      omega
   ·obtain rfl:k=m:=by omega
    have z1:¬ ((k:Int)<(k:Int)):=by omega
    go_wp2_with fail
    go_end0
    exact ⟨rfl,M',HA'.out,HBV.out,HMK.out.all (by rw [HFL.out];have:=HM.out;omega)⟩
theorem arr_false:arr (bV fun _=>false)=#[.bool false,.bool false,.bool false,.bool false,.bool false,.bool false,.bool false,.bool false,.bool false,.bool false,.bool false,.bool false,.bool false,.bool false,.bool false,.bool false,.bool false,.bool false,.bool false,.bool false,.bool false,.bool false,.bool false,.bool false,.bool false,.bool false,.bool false,.bool false,.bool false,.bool false,.bool false,.bool false]:=rfl
theorem endless_any (a:Option Addr) (n cap:Nat) (ss:List (List Ty)) (w:World) (h:StAt w a n cap ss) (hn:n≤32) (hF:Fine ss) (i:Nat) (hi:i<n) (b:Bool) (hb:b=true↔Stn ss i i) :
  Calls Tryz.prog 181 #[.slice a n cap,.int .i64 (i:Int)] w fun e w'=>e=.returned (.bool b)∧Below w.heap.size w w':=by
 have HB:=jH hb
 have CM:Hid (∀ W,Below w.heap.size w W→Arr W w.heap.size 231 (bV fun _=>false)→Calls Tryz.prog 205 #[.slice a n cap,.int .i64 (i:Int),.pointer (some ⟨w.heap.size,0,none⟩)] W fun e w'=>e=.returned (.tuple #[])∧∃ M',Arr w' w.heap.size 231 (bV M')∧But w.heap.size W w'∧MP ss i (fun _=>false) M'):=jH (fun W hW hA=>mark_any w a n cap ss h hn hF w.heap.size (Nat.le_refl _) _ i _ W (Nat.lt_succ_self _) hi hW hA)
 have j0:(0:Int)≤(i:Int):=by omega
 have j1:(i:Int)<32:=by omega
 have HI:=jH (Nat.lt_of_lt_of_le hi hn)
 have HA1:Hid (∀ o,o=Obj.cells (arr (bV fun _=>false)) 231→Arr (w.alloc o) w.heap.size 231 (bV fun _=>false)):=jH (fun o e=>by subst e;exact At.new _ _)
 clear h hF hb hi hn
 go_enter Tryz.func181,Tryz.ntmps181
 go_wp2_with (go_at_call 205;refine (CM.out _ (belA bR) (HA1.out _ (by rw [arr_false]))).mono ?_;rintro e w1 ⟨rfl,M',hA',hB',hMP⟩;have hc0:=At.arrc hA' HI.out;have hbl:=At.lt hA';have HMP:=jH hMP;have HB':=jH hB';clear hMP hB' hA')
 go_ret
 refine ⟨?_,belBut (belA bR) HB'.out (Nat.le_refl _) (by simp)⟩
 have e:M' i=b:=by
  have h1:=HMP.out.iff i
  have h2:=HB.out
  rw [Bool.eq_iff_iff,h1,h2]
 rw [← e]
 rfl
abbrev iV (K:Nat→Nat):Nat→Value:=fun i=>.int .i64 (K i:Int)
theorem iV_upd (K:Nat→Nat) (j x:Nat):upd (iV K) j (.int .i64 (x:Int))=iV (upd K j x):=by
 funext i
 by_cases e:i=j <;> simp [upd,iV,e]
def KOk (ss:List (List Ty)) (K:Nat→Nat):Prop:=∀ i,K i=0∨K i=cwS ss i
theorem KOk.set {ss:List (List Ty)} {K:Nat→Nat} (h:KOk ss K) (j:Nat):KOk ss (upd K j (cwS ss j)):=fun i=>by
 by_cases e:i=j
 ·subst e;right;exact upd_same _ _ _
 ·rw [upd_other _ _ e];exact h i
theorem cw_le (ss:List (List Ty)) (t:Ty):cw ss t≤17:=by unfold cw;omega
theorem sum_cw (ss:List (List Ty)):∀ l:List Ty,(l.map (cw ss)).sum≤17*l.length
 | []=>by simp
 | t::l=>by
  have h1:=cw_le ss t
  have h2:=sum_cw ss l
  simp only [List.map_cons,List.sum_cons,List.length_cons]
  omega
theorem take_sum (ss:List (List Ty)) {l:List Ty} {k:Nat} {t:Ty} (h:l[k]?=some t):((l.take (k+1)).map (cw ss)).sum=((l.take k).map (cw ss)).sum+cw ss t:=by
 rw [List.take_add_one,h]
 simp
theorem words_ne (f:Fv) (w:World) (hk:¬ (f.k:Int)=5) (sv kv:Value):Calls Tryz.prog 206 #[sv,f.v,kv] w fun e w'=>e=.returned (.int .i64 1)∧Below w.heap.size w w':=by
 obtain ⟨k,m,r,s,a,n,cap⟩:=f
 have k5:¬ (k:Int)=5:=hk
 show Calls Tryz.prog 206 #[sv,tyV k m r s a n cap,kv] w _
 clear hk
 go_enter Tryz.func206,Tryz.ntmps206
 go_wp2_with fail
 go_ret
 exact ⟨rfl,belA bR⟩
theorem words_any (w0:World) (a:Option Addr) (n cap:Nat) (ss:List (List Ty)) (h:StAt w0 a n cap ss) (hn:n≤32) (hF:Fine ss) (rk:Nat→Nat) (hr:Rank ss rk) (b:Nat) (hb:w0.heap.size≤b) :
  ∀ (c j:Nat) (K:Nat→Nat) (W:World) (V:Fv),rk j<c→j<n→Below w0.heap.size w0 W→Arr W b 275 (iV K)→KOk ss K→V.k=5→V.s=(j:Int) →
   Calls Tryz.prog 206 #[.slice a n cap,V.v,.pointer (some ⟨b,0,none⟩)] W fun e w'=>e=.returned (.int .i64 (cwS ss j:Int))∧∃ K',Arr w' b 275 (iV K')∧KOk ss K'∧But b W w':=by
 intro c
 induction c with
 | zero=>intro j K W V hc;omega
 | succ c ih =>
  intro j K W V hc hj hBW hA hK hVk hVs
  obtain ⟨vk,vm,vr,vs,va,vn,vcap⟩:=V
  simp only at hVk hVs
  subst hVk
  subst hVs
  show Calls Tryz.prog 206 #[.slice a n cap,tyV 5 vm vr (j:Int) va vn vcap,.pointer (some ⟨b,0,none⟩)] W _
  have hj32:j<32:=by omega
  have q0:(0:Int)≤(j:Int):=by omega
  have q1:(j:Int)<32:=by omega
  have q2:(j:Int)<(n:Int):=by omega
  have HK:=jH hK
  have HC:=jH hc
  have HBW:=jH hBW
  have HA:=jH hA
  have HLN:=jH h.len
  have hbl:=hA.lt
  have hc0:=hA.arrc hj32
  have hf0:=hA.arrf j
  obtain ⟨x,hx⟩:∃ x,x=cwS ss j:=⟨_,rfl⟩
  have HX:=jH hx
  rw [← hx]
  by_cases hz:K j=0
  ·rw [show iV K j=.int .i64 0 from by simp [iV,hz]] at hc0
   obtain ⟨fs,hfs⟩:∃ fs,ss[j]?=some fs:=⟨_,List.getElem?_eq_getElem (by have:=h.len;omega)⟩
   obtain ⟨g,off,fa,fcap,hag,hg,hcell,hFd⟩:=h.field hBW hfs
   obtain ⟨f1,f2,f3⟩:=hF j fs hfs
   have hg2:g<W.heap.size:=Nat.lt_of_lt_of_le hg hBW.size
   have HFL:=jH (fld_of hfs)
   have IH:=jH ih
   have HF:=jH hFd
   have HP:=jH f3
   have HR:=jH hr
   obtain ⟨m,hm⟩:∃ m,m=fs.length:=⟨_,rfl⟩
   have HM:=jH hm
   have m8:m≤8:=by omega
   have HS:=jH (sum_cw ss)
   rw [← hm] at hcell
   subst hag
   clear f1 f2 f3 hm hfs hF ih hc hA hBW h hK hFd hr hx hz
   go_enter Tryz.func206,Tryz.ntmps206
   go_wp2_with fail
   go_quiet (fail)
   go_wp2_with fail
   go_loopw [7,27] (fun v7 v27 Z=>∃ (k:Nat) (K':Nat→Nat),k≤m∧v27=.int .i64 k∧v7=.int .i64 ((((fs.take k).map (cw ss)).sum:Nat):Int)∧Arr Z b 275 (iV K')∧KOk ss K'∧But b W Z∧At Z W.heap.size (tyO 5 vm vr (j:Int) va vn vcap)) (fun _ v27 _=>m - (intOf v27).toNat)
   case atStart=>exact ⟨0,K,Nat.zero_le _,rfl,rfl,(HA.out.alloc _).drewN nq,HK.out,But.below (belN (belA bR) nq),(At.new _ _).drewN nq⟩
   case round =>
    obtain ⟨k,K',hk,rfl,rfl,hA',hK',hBV,hT⟩:=hrel
    have HA':=jH hA'
    have HK':=jH hK'
    have HBV:=jH hBV
    have HT:=jH hT
    have hB0:=belBut HBW.out hBV hb HBW.out.size
    have HB0:=jH hB0
    have HFk:=jH (HF.out.bel hB0)
    have hbl':=hA'.lt
    obtain ⟨z,hz⟩:∃ z,z=((fs.take k).map (cw ss)).sum:=⟨_,rfl⟩
    rw [← hz]
    have HZ:=jH hz
    have z9:z≤200:=by
     have h1:=HS.out (fs.take k)
     have h2:(fs.take k).length≤k:=by simp;omega
     omega
    clear hA' hK' hBV hT hB0 hz
    by_cases hlk:k<m
    ·obtain ⟨t,ht⟩:∃ t,fs[k]?=some t:=⟨_,List.getElem?_eq_getElem (by have:=HM.out;omega)⟩
     obtain ⟨g',off',hfa,hkk⟩:=HFk.out.2 (fun e=>by subst e;simp at ht)
     obtain ⟨V,nm,hnm,hV5,hVt⟩:=hkk k t ht
     have HTT:=jH ht
     have HPT:=jH (HP.out t (List.mem_of_getElem? ht))
     have HVT:=jH hVt
     obtain ⟨hl5,p0,p1,p2,p3,p4⟩:=hV5
     subst hfa
     have e0:(0:Int)≤(k:Int):=by omega
     have e1:(k:Int)<(m:Int):=by omega
     have e2:(k:Int)≤1000:=by omega
     obtain ⟨y,hy⟩:∃ y,y=cw ss t:=⟨_,rfl⟩
     have y9:y≤17:=by rw [hy];exact cw_le ss t
     have HY:=jH hy
     have CW:Hid (∀ W1,Arr W1 b 275 (iV K')→Below w0.heap.size w0 W1→Calls Tryz.prog 206 #[.slice (some ⟨g,off,none⟩) n cap,V.v,.pointer (some ⟨b,0,none⟩)] W1 fun e w'=>e=.returned (.int .i64 (y:Int))∧∃ K'',Arr w' b 275 (iV K'')∧KOk ss K''∧But b W1 w'):=jH (fun W1 hA1 hB1=>by
      rcases HPT.out.kind with ⟨l,hl,hs,-,rfl⟩|⟨hs,ch,rfl,-,hch⟩
      ·obtain ⟨ta,tcap,rfl,-⟩:=HVT.out.leaf
       have hst:Stp ss j l:=⟨_,by rw [HFL.out];exact List.mem_of_getElem? HTT.out,hs⟩
       have:=HR.out.2 j l hst
       have hc':=HC.out
       rw [hy,cw_sub hs]
       exact IH.out l K' W1 _ (by omega) (by have:=HLN.out;omega) hB1 hA1 HK'.out rfl rfl
      ·have hk5:¬ (V.k:Int)=5:=by
        rcases hch with ⟨kk,s,rfl,hkk,-⟩|⟨d,rfl,-⟩
        ·obtain ⟨ta,tcap,rfl,-⟩:=HVT.out.leaf
         show ¬ (kk:Int)=5
         omega
        ·obtain ⟨_,_,_,_,rfl,-⟩:=HVT.out.box
         show ¬ ((3:Nat):Int)=5
         omega
       rw [hy,cw_none hs]
       refine (words_ne V W1 hk5 _ _).mono ?_
       rintro e w' ⟨rfl,hb'⟩
       exact ⟨rfl,K',hA1.below hb',HK'.out,But.below hb'⟩)
     have w8:IntKind.i64.wrap ((z:Int)+(y:Int))=(z:Int)+(y:Int):=by rw [IntKind.wrap_i64];omega
     clear hkk ht hVt hy
     have HAX:Hid (∀ o1,Arr (wr.alloc o1) b 275 (iV K')):=jH (fun o1=>HA'.out.alloc o1)
     have HBX:Hid (∀ o1,Below w0.heap.size w0 (wr.alloc o1)):=jH (fun o1=>HB0.out.alloc HB0.out.size o1)
     have HUX:Hid (∀ o1,But b W (wr.alloc o1)):=jH (fun o1=>HBV.out.alloc o1)
     go_wp2_with (go_at_call 206;refine (CW.out _ (HAX.out _) (HBX.out _)).mono ?_;rintro e w1 ⟨rfl,K'',hA'',hK'',hB''⟩)
     refine ⟨⟨k+1,K'',hlk,by go_num,?_,hA'',hK'',(HUX.out _).trans hB'',(HT.out.alloc _).but hB'' (by omega)⟩,?_⟩
     ·rw [take_sum ss HTT.out,← HZ.out,← HY.out]
      show Value.int .i64 ((z:Int)+(y:Int))=.int .i64 ((z+y:Nat):Int)
      rw [show ((z+y:Nat):Int)=(z:Int)+(y:Int) from by omega]
     ·show m - ((k:Int)+1).toNat<m - (k:Int).toNat
      omega
    ·obtain rfl:k=m:=by omega
     have z1:¬ ((k:Int)<(k:Int)):=by omega
     have hzx:(if (17:Int)<(z:Int) then (17:Int) else (z:Int))=(x:Int):=by
      have h1:=cwS_eq HR.out j
      rw [HFL.out,← List.take_of_length_le (l:=fs) (i:=k) (by have:=HM.out;omega),← HZ.out,← HX.out] at h1
      split <;> omega
     obtain ⟨hlT,c0,c1,c2,c3,c4⟩:=At.ty (f:=⟨5,vm,vr,(j:Int),va,vn,vcap⟩) HT.out
     have hc0':=HA'.out.arrc hj32
     have hf0':=HA'.out.arrf j
     go_wp2_with fail
     go_region
     go_wp2_with fail
     go_quiet (fail)
     go_wp2_with fail
     go_ret
     have HAX:=HA'.out.arrs j (.int .i64 (x:Int))
     rw [iV_upd] at HAX
     refine ⟨rfl,_,HAX.drew.drewN nq,?_,((HBV.out.set j _).drew).trans (But.below (belN bR nq))⟩
     rw [HX.out]
     exact HK'.out.set j
  ·have hKj:K j=x:=by
    rcases hK j with h0|h0
    ·exact absurd h0 hz
    ·rw [h0];exact hx.symm
   rw [show iV K j=.int .i64 (x:Int) from by simp [iV,hKj]] at hc0
   have hx0:¬ (x:Int)=0:=by omega
   have hx1:((x:Int) == 0)=false:=by simpa using hx0
   clear hc hA hBW h hK hr hx hz hF ih hKj
   go_enter Tryz.func206,Tryz.ntmps206
   go_wp2_with fail
   go_quiet (fail)
   go_wp2_with fail
   go_quiet (fail)
   go_wp2_with fail
   go_ret
   exact ⟨rfl,K,((HA.out.alloc _).drewN _).drewN _,HK.out,But.below (belN (belN (belA bR) _) _)⟩
theorem arr_zero:arr (iV fun _=>0)=#[.int .i64 0,.int .i64 0,.int .i64 0,.int .i64 0,.int .i64 0,.int .i64 0,.int .i64 0,.int .i64 0,.int .i64 0,.int .i64 0,.int .i64 0,.int .i64 0,.int .i64 0,.int .i64 0,.int .i64 0,.int .i64 0,.int .i64 0,.int .i64 0,.int .i64 0,.int .i64 0,.int .i64 0,.int .i64 0,.int .i64 0,.int .i64 0,.int .i64 0,.int .i64 0,.int .i64 0,.int .i64 0,.int .i64 0,.int .i64 0,.int .i64 0,.int .i64 0]:=rfl
theorem KOk.zero (ss:List (List Ty)):KOk ss fun _=>0:=fun _=>.inl rfl
theorem large_any (a:Option Addr) (n cap:Nat) (ss:List (List Ty)) (w:World) (h:StAt w a n cap ss) (hn:n≤32) (hF:Fine ss) (rk:Nat→Nat) (hr:Rank ss rk) (i:Nat) (hi:i<n) (b:Bool) (hb:b=true↔16<tw ss i) :
  Calls Tryz.prog 182 #[.slice a n cap,.int .i64 (i:Int)] w fun e w'=>e=.returned (.bool b)∧Below w.heap.size w w':=by
 obtain ⟨x,hx⟩:∃ x,x=cwS ss i:=⟨_,rfl⟩
 have hbx:b=decide ((16:Int)<(x:Int)):=by
  have e:cwS ss i=min (tw ss i) 17:=rfl
  rw [Bool.eq_iff_iff,hb,decide_eq_true_iff]
  omega
 have CM:Hid (∀ W (V:Fv),Below w.heap.size w W→Arr W (w.heap.size+1) 275 (iV fun _=>0)→V.k=5→V.s=(i:Int)→Calls Tryz.prog 206 #[.slice a n cap,V.v,.pointer (some ⟨w.heap.size+1,0,none⟩)] W fun e w'=>e=.returned (.int .i64 (x:Int))∧∃ K',Arr w' (w.heap.size+1) 275 (iV K')∧KOk ss K'∧But (w.heap.size+1) W w'):=jH (fun W V hW hA h1 h2=>by rw [hx];exact words_any w a n cap ss h hn hF rk hr (w.heap.size+1) (by omega) _ i _ W V (Nat.lt_succ_self _) hi hW hA (KOk.zero ss) h1 h2)
 have HA1:Hid (∀ o1 o,o=Obj.cells (arr (iV fun _=>0)) 275→Arr ((w.alloc o1).alloc o) (w.heap.size+1) 275 (iV fun _=>0)):=jH (fun o1 o e=>by subst e;exact at_snd _ _ _)
 rw [hbx]
 clear h hF hb hn hbx hx hr hi
 go_enter Tryz.func182,Tryz.ntmps182
 go_wp2_with (go_at_call 206;refine (CM.out _ ⟨5,false,0,(i:Int),none,0,0⟩ (belA (belA bR)) (HA1.out _ _ (by rw [arr_zero])) rfl rfl).mono ?_;rintro e w1 ⟨rfl,K',hA',hK',hB'⟩;have HB':=jH hB';clear hA' hK' hB')
 go_ret
 exact ⟨rfl,belBut (belA (belA bR)) HB'.out (by omega) (by simp;omega)⟩
theorem dpT_ne {n:Nat} {t:Ty} {w:World} {V:Fv} (ss:List (List Ty)) (h:PlainT n t) (hs:subT t=none) (hV:TyAt w V t):¬ (V.k:Int)=5∧dpT ss t=decide ((V.k:Int)=3):=by
 have e:dpT ss t=boxT t:=by unfold dpT;rw [hs]
 rw [e]
 rcases h.kind with ⟨l,hl,hs',-,rfl⟩|⟨-,ch,rfl,-,hch⟩
 ·rw [hs] at hs';cases hs'
 ·rcases hch with ⟨kk,s,rfl,hkk,hbx⟩|⟨d,rfl,hbx⟩
  ·obtain ⟨ta,tcap,rfl,-⟩:=hV.leaf
   refine ⟨?_,?_⟩
   ·show ¬ (kk:Int)=5
    omega
   ·rw [hbx]
    show false=decide ((kk:Int)=3)
    exact (decide_eq_false (by omega)).symm
  ·obtain ⟨_,_,_,_,rfl,-⟩:=hV.box
   exact ⟨by show ¬ ((3:Nat):Int)=5;omega,by rw [hbx];rfl⟩
end Go.Proofs.YtmjenlogbkbgnaaGreatDoor
