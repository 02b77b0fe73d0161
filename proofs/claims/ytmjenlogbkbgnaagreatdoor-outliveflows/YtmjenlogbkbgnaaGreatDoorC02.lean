import Derived.Test.YtmjenlogbkbgnaaGreatDoorC01
import Derived.Deep.AppendLies
import Derived.Deep.OwnRows
import Derived.Lib.OwnBridge
import Derived.Test.YtmjenlogbkbgnaaGreatDoorShelf
namespace Go.Proofs.YtmjenlogbkbgnaaGreatDoor
open Go.RowKit Go.Shelf
set_option linter.unusedVariables false
set_option linter.unusedSimpArgs false
set_option maxRecDepth 100000
set_option maxHeartbeats 4000000
structure Sl where
 a:Option Addr
 n:Nat
 cap:Nat
structure NetA (W:World) (a:Option Addr) (n cap:Nat) (l:List (List Int)):Prop where
 len:n=l.length
 at_:∀ (j:Nat) (r:List Int),l[j]?=some r→∃ (g off:Nat) (y:Sl),a=some ⟨g,off,none⟩∧g<W.heap.size∧W.cell? ⟨g,off+j,none⟩=some (.slice y.a y.n y.cap)∧IntR W y.a y.n y.cap r
theorem NetA.bel {W W':World} {a:Option Addr} {n cap:Nat} {l:List (List Int)} (h:NetA W a n cap l) (hb:Below W.heap.size W W'):NetA W' a n cap l :=
 ⟨h.len,fun j r hj=>by
  obtain ⟨g,off,y,e,hg,hc,hi⟩:=h.at_ j r hj
  exact ⟨g,off,y,e,Nat.lt_of_lt_of_le hg hb.size,(hb.cell (p:=⟨g,off+j,none⟩) hg).trans hc,hi.bel hb⟩⟩
def put1 (t:List (List Int)) (p q:Int):List (List Int):=t.set q.toNat ((t[q.toNat]?).getD []++[p])
theorem put1_len (t:List (List Int)) (p q:Int):(put1 t p q).length=t.length:=by unfold put1;simp
def Bd (c:Nat) (t:List (List Int)):Prop:=∀ x∈t,x.length≤c
theorem Bd.put {c:Nat} {t:List (List Int)} (h:Bd c t) (p q:Int):Bd (c+1) (put1 t p q):=fun x hx=>by
 unfold put1 at hx
 rcases List.mem_or_eq_of_mem_set hx with h1|h1
 ·have:=h x h1;omega
 ·subst h1
  rw [List.length_append]
  cases he:t[q.toNat]? with
  | none=>simp
  | some y=>have:=h y (List.mem_of_getElem? he);simp;omega
structure TbI (w0 W:World) (g:Nat) (t:List (List Int)) (vs:List Value):Prop where
 blk:At W g (.cells vs.toArray 55 (0,0))
 lo:w0.heap.size≤g
 len:vs.length=t.length
 own:∀ (j:Nat) (v:Value) (r:List Int),vs[j]?=some v→t[j]?=some r→W.ownsRow w0.heap.size 3 1 v r.length (iCells r)
 sep:∀ (j k:Nat) (v u:Value),j≠k→vs[j]?=some v→vs[k]?=some u→∀ b,v.ownBlock=some b→u.ownBlock≠some b
 bel:Below w0.heap.size w0 W
theorem TbI.start (w:World) (n:Nat):TbI w (w.alloc (.cells (madeCells #[.slice none 0 0] n) 55)) w.heap.size (List.replicate n []) (madeCells #[.slice none 0 0] n).toList:=by
 have hv:∀ (j:Nat) (v:Value),(madeCells #[.slice none 0 0] n).toList[j]?=some v→v=.slice none 0 0:=fun j v h=>by
  have:=List.mem_of_getElem? h
  unfold madeCells at this
  simp at this
  obtain ⟨k,-,hk⟩:=this
  rw [← hk,Nat.mod_one]
  rfl
 refine ⟨by rw [Array.toArray_toList];exact At.new _ _,Nat.le_refl _,by unfold madeCells;simp,fun j v r h1 h2=>?_,fun j k v u hjk h1 h2 b hb=>?_,belA bR⟩
 ·rw [hv j v h1]
  have:r=[]:=by
   have:=List.mem_of_getElem? h2
   simp at this
   exact this.2
  rw [this]
  exact World.ownsRow_nil _ _ _ _
 ·rw [hv j v h1] at hb
  cases hb
theorem TbI.nth {w0 W:World} {g:Nat} {t:List (List Int)} {vs:List Value} (h:TbI w0 W g t vs) {q:Nat} (hq:q<t.length):∃ (y:Sl) (r:List Int),vs[q]?=some (.slice y.a y.n y.cap)∧t[q]?=some r∧y.n=r.length:=by
 have hv:vs[q]?=some (vs[q]'(by rw [h.len];exact hq)):=List.getElem?_eq_getElem _
 have ht:t[q]?=some t[q]:=List.getElem?_eq_getElem _
 obtain ⟨a,cap,e⟩:=own_sl (h.own q _ _ hv ht)
 rw [e] at hv
 exact ⟨⟨a,_,cap⟩,_,hv,ht,rfl⟩
theorem TbI.cell {w0 W:World} {g:Nat} {t:List (List Int)} {vs:List Value} (h:TbI w0 W g t vs) {q:Nat} {v:Value} (hq:vs[q]?=some v):W.cell? ⟨g,q,none⟩=some v:=by
 rw [cell_of_row _ _ _ _ _ _ h.blk]
 simpa using hq
theorem TbI.at2 {w0 W w2:World} {g:Nat} {t:List (List Int)} {vs:List Value} (h:TbI w0 W g t vs) {q:Nat} {v:Value} {r:List Int} (hq:vs[q]?=some v) (ht:t[q]?=some r) {o:Obj} (hg:(W.alloc o).grownBy w2 v.ownBlock):At w2 g (.cells vs.toArray 55 (0,0)) :=
 (h.blk.alloc _).grown hg (own_ne (h.own q v r hq ht) h.blk (by decide))
theorem TbI.next {w0 W w2:World} {g:Nat} {t:List (List Int)} {vs:List Value} (h:TbI w0 W g t vs) {q:Nat} {v:Value} {r:List Int} (hq:vs[q]?=some v) (ht:t[q]?=some r) (p:Int) {o:Obj} (hg:(W.alloc o).grownBy w2 v.ownBlock) {gg cap:Nat}
  (ho:w2.ownsRow w0.heap.size 3 1 (.slice (some ⟨gg,0,none⟩) (r.length+1) cap) (r.length+1) (iCells r++[.int .i64 p])) (hat:v.ownBlock=some gg∨gg=W.heap.size+1) :
  TbI w0 (w2.setCell ⟨g,q,none⟩ (.slice (some ⟨gg,0,none⟩) (r.length+1) cap)) g (t.set q (r++[p])) (vs.set q (.slice (some ⟨gg,0,none⟩) (r.length+1) cap)):=by
 have hA2:=h.at2 hq ht hg
 have hql:q<vs.length:=(List.getElem?_eq_some_iff.1 hq).1
 have hqt:q<t.length:=(List.getElem?_eq_some_iff.1 ht).1
 have hown:=h.own q v r hq ht
 have hnew:∀ k u,k≠q→vs[k]?=some u→u.ownBlock≠some gg:=fun k u hk hu e=>by
  rcases hat with h1|h1
  ·exact h.sep q k v u (fun e'=>hk e'.symm) hq hu gg h1 e
  ·have hr:∃ r',t[k]?=some r':=⟨_,List.getElem?_eq_getElem (by rw [← h.len];exact (List.getElem?_eq_some_iff.1 hu).1)⟩
   obtain ⟨r',hr⟩:=hr
   have:=((h.own k u r' hu hr).lt gg e).2
   omega
 refine ⟨?_,h.lo,by simp [h.len],fun j u r' h1 h2=>?_,fun j k u u' hjk h1 h2 b hb=>?_,?_⟩
 ·have:=heap_setCell_same w2 g q vs.toArray 55 (.slice (some ⟨gg,0,none⟩) (r.length+1) cap) hA2
  unfold At
  rw [this]
  simp
 ·by_cases hj:j=q
  ·subst hj
   rw [List.getElem?_set_self hql] at h1
   rw [List.getElem?_set_self hqt] at h2
   cases h1
   cases h2
   have e:(r++[p]).length=r.length+1:=by simp
   rw [e,show iCells (r++[p])=iCells r++[.int .i64 p] by simp [iCells]]
   exact ownsRow_setCell_other ho (fun e=>own_ne ho hA2 (by decide) e.symm) _
  ·rw [List.getElem?_set_ne (fun e=>hj e.symm)] at h1 h2
   have h3:=h.own j u r' h1 h2
   have h4:w2.ownsRow w0.heap.size 3 1 u r'.length (iCells r'):=by
    refine (h3.alloc _).kept hg ?_
    cases hb:u.ownBlock with
    | none=>exact .inl rfl
    | some b=>exact .inr (fun e=>h.sep j q u v hj h1 hq b hb e.symm)
   exact ownsRow_setCell_other h4 (fun e=>own_ne h4 hA2 (by decide) e.symm) _
 ·by_cases hj:j=q
  ·subst hj
   rw [List.getElem?_set_self hql] at h1
   rw [List.getElem?_set_ne hjk] at h2
   cases h1
   cases hb
   exact hnew k u' (fun e=>hjk e.symm) h2
  ·rw [List.getElem?_set_ne (fun e=>hj e.symm)] at h1
   by_cases hk:k=q
   ·subst hk
    rw [List.getElem?_set_self hql] at h2
    cases h2
    intro e
    cases e
    exact hnew j u hj h1 hb
   ·rw [List.getElem?_set_ne (fun e=>hk e.symm)] at h2
    exact h.sep j k u u' hjk h1 h2 b hb
 ·refine Below.setCell ?_ h.lo _
  exact (belA h.bel).grown hg (by simp only [World.size_alloc];have:=h.bel.size;omega) (fun k hk=>(hown.lt k hk).1)
theorem own_int {W:World} {B:Nat} {v:Value} {r:List Int} (h:W.ownsRow B 3 1 v r.length (iCells r)) (hr:∀ x∈r,-9223372036854775808≤x∧x≤9223372036854775807):∃ a cap,v=.slice a r.length cap∧IntR W a r.length cap r:=by
 rcases h.2 with ⟨e,h0⟩|⟨g,cap,cur,e,-,hb,hn,hm,hs,ht⟩
 ·have:r=[]:=List.eq_nil_of_length_eq_zero h0
  subst this
  exact ⟨none,0,e,rfl,Nat.le_refl _,by unfold maxLen;omega,fun h=>absurd rfl h,hr,fun _=>rfl⟩
 ·refine ⟨_,cap,e,rfl,hn,hm,fun _=>⟨g,0,rfl,lt_of_block hb,fun i x hx=>?_⟩,hr,fun e=>by cases e⟩
  rw [cell_of_row _ _ _ _ _ _ hb,Nat.zero_add]
  have h1:(iCells r)[i]?=some (.int .i64 x):=by simp [iCells,hx]
  rw [← ht,List.getElem?_take] at h1
  split at h1
  ·simpa using h1
  ·cases h1
theorem TbI.net {w0 W:World} {g:Nat} {t:List (List Int)} {vs:List Value} (h:TbI w0 W g t vs) (hr:∀ r∈t,∀ x∈r,-9223372036854775808≤x∧x≤9223372036854775807):NetA W (some ⟨g,0,none⟩) t.length t.length t :=
 ⟨rfl,fun j r hj=>by
  have hl:j<vs.length:=by rw [h.len];exact (List.getElem?_eq_some_iff.1 hj).1
  have hv:vs[j]?=some vs[j]:=List.getElem?_eq_getElem _
  obtain ⟨a,cap,e,hI⟩:=own_int (h.own j _ r hv hj) (hr r (List.mem_of_getElem? hj))
  rw [e] at hv
  refine ⟨g,0,⟨a,r.length,cap⟩,rfl,h.blk.lt,?_,hI⟩
  rw [Nat.zero_add]
  exact h.cell hv⟩
theorem put1_mem {t:List (List Int)} {p q:Int} {P:Int→Prop} (h:∀ r∈t,∀ x∈r,P x) (hp:P p):∀ r∈put1 t p q,∀ x∈r,P x:=fun r hr x hx=>by
 unfold put1 at hr
 rcases List.mem_or_eq_of_mem_set hr with h1|h1
 ·exact h r h1 x hx
 ·subst h1
  rcases List.mem_append.1 hx with h2|h2
  ·cases he:t[q.toNat]? with
   | none=>rw [he] at h2;simp at h2
   | some y=>rw [he] at h2;exact h y (List.mem_of_getElem? he) x h2
  ·simp at h2;subst h2;exact hp
theorem Tryz.info55:(Tryz.prog.info? 55).map (fun i=>(i.zero,i.size,i.bytes))=some (some (.slice none 0 0),1,24):=by kernel_rfl
def lgI (l:List (Int × Int)) (n:Nat):Nat→List (List Int)
 | 0=>List.replicate n []
 | i+1=>match l[i]? with|some p=>put1 (lgI l n i) p.1 p.2|none=>lgI l n i
theorem lgI_len (l:List (Int × Int)) (n i:Nat):(lgI l n i).length=n:=by
 induction i with
 | zero=>simp [lgI]
 | succ i ih =>
  simp only [lgI]
  split
  ·rw [put1_len,ih]
  ·exact ih
theorem lgI_bd (l:List (Int × Int)) (n i:Nat):Bd i (lgI l n i):=by
 induction i with
 | zero=>intro x hx;simp [lgI] at hx;simp [hx.2]
 | succ i ih =>
  simp only [lgI]
  split
  ·exact ih.put _ _
  ·exact fun x hx=>Nat.le_succ_of_le (ih x hx)
theorem put1_get {t:List (List Int)} {p:Int} {q s:Nat} {r:List Int} (hr:t[s]?=some r):∃ r',(put1 t p (q:Int))[s]?=some r'∧∀ x,x∈r'↔x∈r∨x=p∧s=q:=by
 unfold put1
 rw [Int.toNat_natCast]
 by_cases h:s=q
 ·subst h
  refine ⟨r++[p],?_,fun x=>by simp⟩
  rw [hr,List.getElem?_set_self (List.getElem?_eq_some_iff.1 hr).1]
  rfl
 ·refine ⟨r,?_,fun x=>by simp [h]⟩
  rw [List.getElem?_set_ne (fun e=>h e.symm),hr]
theorem lgI_mem (l:List (Int × Int)) (n:Nat) (hl:∀ p∈l,0≤p.2∧p.2<(n:Int)):∀ (i s:Nat),s<n→∃ r,(lgI l n i)[s]?=some r∧∀ x,x∈r↔∃ j,j<i∧l[j]?=some (x,(s:Int))
 | 0,s,hs=>⟨[],by simp [lgI,hs],fun x=>by simp⟩
 | i+1,s,hs=>by
  obtain ⟨r,h1,h2⟩:=lgI_mem l n hl i s hs
  simp only [lgI]
  cases hp:l[i]? with
  | none =>
   refine ⟨r,h1,fun x=>?_⟩
   rw [h2]
   refine ⟨fun ⟨j,a,b⟩=>⟨j,by omega,b⟩,fun ⟨j,a,b⟩=>⟨j,?_,b⟩⟩
   rcases Nat.lt_or_ge j i with h|h
   ·exact h
   ·obtain rfl:j=i:=by omega
    rw [hp] at b
    cases b
  | some p =>
   obtain ⟨a,b⟩:=p
   have hb:=hl _ (List.mem_of_getElem? hp)
   obtain ⟨q,rfl⟩:∃ q:Nat,b=(q:Int):=⟨b.toNat,by simp only at hb;omega⟩
   obtain ⟨r',h3,h4⟩:=put1_get (p:=a) (q:=q) h1
   refine ⟨r',h3,fun x=>?_⟩
   rw [h4,h2]
   constructor
   ·rintro (⟨j,h5,h6⟩|⟨rfl,rfl⟩)
    ·exact ⟨j,by omega,h6⟩
    ·exact ⟨i,by omega,hp⟩
   ·rintro ⟨j,h5,h6⟩
    rcases Nat.lt_or_ge j i with h|h
    ·exact .inl ⟨j,h,h6⟩
    ·obtain rfl:j=i:=by omega
     rw [hp] at h6
     cases h6
     exact .inr ⟨rfl,rfl⟩
inductive Rch (l:List (Int × Int)) (a:Int):Int→Prop
 | refl:Rch l a a
 | step {x y:Int}:Rch l a x→(y,x)∈l→Rch l a y
theorem Rch.trans {l:List (Int × Int)} {a b c:Int} (h:Rch l a b) (k:Rch l b c):Rch l a c:=by
 induction k with
 | refl=>exact h
 | step _ hm ih=>exact .step ih hm
theorem nodup_le:∀ (n:Nat) (ls:List Nat),ls.Nodup→(∀ x∈ls,x<n)→ls.length≤n
 | 0,ls,_,h=>by
  cases ls with
  | nil=>exact Nat.le_refl _
  | cons a l=>exact absurd (h a (by simp)) (by omega)
 | n+1,ls,hn,h=>by
  have h1:=nodup_le n (ls.erase n) (hn.erase _) (fun x hx=>by
   have:=h x (List.mem_of_mem_erase hx)
   have hne:x≠n:=fun e=>by subst e;exact absurd hx (by simp [hn.mem_erase_iff])
   omega)
  rw [List.length_erase] at h1
  split at h1 <;> omega
structure Wk (l:List (Int × Int)) (f n:Nat) (ls:List Nat) (k:Nat):Prop where
 nd:ls.Nodup
 lt:∀ x∈ls,x<n
 rc:∀ x∈ls,Rch l (f:Int) (x:Int)
 st:f∈ls
 kl:k≤ls.length
 dn:∀ (j x:Nat),j<k→ls[j]?=some x→∀ y:Nat,((y:Int),(x:Int))∈l→y∈ls
theorem Wk.start {l:List (Int × Int)} {f n:Nat} (hf:f<n):Wk l f n [f] 0:=⟨by simp,fun x hx=>by simp at hx;omega,fun x hx=>by simp at hx;subst hx;exact .refl,by simp,by simp,fun j x hj=>by omega⟩
theorem Wk.len {l:List (Int × Int)} {f n:Nat} {ls:List Nat} {k:Nat} (h:Wk l f n ls k):ls.length≤n:=nodup_le n ls h.nd h.lt
theorem Wk.put {l:List (Int × Int)} {f n:Nat} {ls:List Nat} {k x q:Nat} (h:Wk l f n ls k) (hx:x∈ls) (hq:((q:Int),(x:Int))∈l) (hqn:q<n) (hno:q ∉ ls):Wk l f n (ls++[q]) k where
 nd:=by
  rw [List.nodup_append]
  exact ⟨h.nd,by simp,fun a ha b hb=>by simp at hb;subst hb;exact fun e=>hno (e ▸ ha)⟩
 lt:=fun y hy=>by
  rcases List.mem_append.1 hy with h1|h1
  ·exact h.lt y h1
  ·simp at h1;omega
 rc:=fun y hy=>by
  rcases List.mem_append.1 hy with h1|h1
  ·exact h.rc y h1
  ·simp at h1;subst h1;exact .step (h.rc x hx) hq
 st:=List.mem_append.2 (.inl h.st)
 kl:=by have:=h.kl;simp;omega
 dn:=fun j y hj hy z hz=>by
  rw [List.getElem?_append_left (by have:=h.kl;omega)] at hy
  exact List.mem_append.2 (.inl (h.dn j y hj hy z hz))
theorem Wk.on {l:List (Int × Int)} {f n:Nat} {ls:List Nat} {k x:Nat} (h:Wk l f n ls k) (hx:ls[k]?=some x) (hd:∀ y:Nat,((y:Int),(x:Int))∈l→y∈ls):Wk l f n ls (k+1) :=
 ⟨h.nd,h.lt,h.rc,h.st,(List.getElem?_eq_some_iff.1 hx).1,fun j z hj hz=>by
  rcases Nat.lt_or_ge j k with h1|h1
  ·exact h.dn j z h1 hz
  ·obtain rfl:j=k:=by omega
   rw [hx] at hz
   cases hz
   exact hd⟩
structure RcF (l:List (Int × Int)) (n f:Nat) (ls:List Nat):Prop where
 up:ls.Pairwise (·<·)
 lt:∀ x∈ls,x<n
 iff:∀ y:Int,Rch l (f:Int) y↔∃ x:Nat,x∈ls∧y=(x:Int)
theorem Wk.all {l:List (Int × Int)} {f n:Nat} {ls:List Nat} (h:Wk l f n ls ls.length) (hl:∀ p∈l,(0≤p.1∧p.1<(n:Int))∧0≤p.2∧p.2<(n:Int)) (y:Int):Rch l (f:Int) y↔∃ x:Nat,x∈ls∧y=(x:Int):=by
 constructor
 ·intro hr
  induction hr with
  | refl=>exact ⟨f,h.st,rfl⟩
  | step _ hm ih =>
   obtain ⟨x,hx,rfl⟩:=ih
   obtain ⟨j,hj⟩:=List.getElem?_of_mem hx
   have hp:=hl _ hm
   rename_i z _
   obtain ⟨z,rfl⟩:∃ z':Nat,z=(z':Int):=⟨z.toNat,by simp only at hp;omega⟩
   exact ⟨z,h.dn j x (List.getElem?_eq_some_iff.1 hj).1 hj z hm,rfl⟩
 ·rintro ⟨x,hx,rfl⟩
  exact h.rc x hx
def cmA (n:Nat) (ls:List Nat):Array Value:=((List.range n).map fun i=>Value.bool (decide (i∈ls))).toArray
theorem cmA_get {n q:Nat} (ls:List Nat) (hq:q<n):(cmA n ls)[q]?=some (.bool (decide (q∈ls))):=by simp [cmA,hq]
theorem cmA_set {n q:Nat} (ls:List Nat) (hq:q<n):(cmA n ls).setIfInBounds q (.bool true)=cmA n (ls++[q]):=by
 apply Array.ext_getElem?
 intro i
 by_cases hi:i<n
 ·rw [cmA_get _ hi,Array.getElem?_setIfInBounds]
  by_cases hq':q=i
  ·subst hq';simp [cmA,hq]
  ·have:¬ i=q:=fun e=>hq' e.symm
   rw [if_neg hq',cmA_get _ hi]
   simp [this]
 ·have h1:n≤i:=by omega
  rw [Array.getElem?_setIfInBounds]
  have:¬ q=i:=by omega
  rw [if_neg this]
  simp [cmA,h1]
theorem cmA_nil (n:Nat):madeCells #[.bool false] n=cmA n []:=by
 apply Array.ext_getElem?
 intro i
 by_cases hi:i<n
 ·rw [cmA_get _ hi]
  have:(madeCells #[Value.bool false] n).toList[i]?=some (.bool false):=by rw [toList_madeCells_one,List.getElem?_replicate,if_pos hi]
  simpa using this
 ·have h1:n≤i:=by omega
  have e:(madeCells #[Value.bool false] n).toList[i]?=none:=by rw [toList_madeCells_one,List.getElem?_replicate,if_neg hi]
  have e2:(madeCells #[Value.bool false] n)[i]?=none:=by simpa using e
  rw [e2]
  simp [cmA,h1]
structure WkM (U W:World) (gc n:Nat) (v:Value) (ls:List Nat):Prop where
 blk:At W gc (.cells (cmA n ls) 4)
 row:W.ownsRow U.heap.size 3 1 v ls.length (iCells (ls.map Int.ofNat))
 bel:Below U.heap.size U W
 glo:U.heap.size≤gc
theorem WkM.came {U W:World} {gc n:Nat} {v:Value} {ls:List Nat} (h:WkM U W gc n v ls) {q:Nat} (hq:q<n):W.cell? ⟨gc,q,none⟩=some (.bool (decide (q∈ls)))∧W.frozen? ⟨gc,q,none⟩=false:=⟨by rw [cell_of_row _ _ _ _ _ _ h.blk];exact cmA_get ls hq,frozen_of_row _ _ _ _ _ h.blk⟩
theorem iC_nat {ls:List Nat} {k x:Nat} (h:ls[k]?=some x):(iCells (ls.map Int.ofNat))[k]?=some (.int .i64 (x:Int)):=by simp [iCells,h]
theorem WkM.nth {U W:World} {gc n:Nat} {v:Value} {ls:List Nat} (h:WkM U W gc n v ls) {k x:Nat} (hk:ls[k]?=some x):∃ g cap,v=.slice (some ⟨g,0,none⟩) ls.length cap∧W.cell? ⟨g,k,none⟩=some (.int .i64 (x:Int))∧g<W.heap.size:=by
 obtain ⟨g,cap,rfl⟩:=own_is h.row (by have:=(List.getElem?_eq_some_iff.1 hk).1;omega)
 have:=own_cell h.row (iC_nat hk)
 exact ⟨g,cap,rfl,this.1,this.2⟩
theorem WkM.start {U:World} {f n:Nat} (hf:f<n) (hn:n≤512):WkM U (((U.alloc (.cells (madeCells #[.bool false] n) 4)).setCell ⟨U.heap.size,f,none⟩ (.bool true)).alloc (.cells #[.int .i64 (f:Int)] 3)) U.heap.size n (.slice (some ⟨U.heap.size+1,0,none⟩) 1 1) [f]:=by
 refine ⟨?_,?_,?_,Nat.le_refl _⟩
 ·refine At.alloc ?_ _
  have:=heap_setCell_same (U.alloc (.cells (madeCells #[.bool false] n) 4)) U.heap.size f _ 4 (.bool true) (At.new _ _)
  unfold At
  rw [this,cmA_nil,cmA_set _ hf]
  rfl
 ·have:=World.ownsRow_lit (base:=U.heap.size) (e:=3) (size:=1) ((U.alloc (.cells (madeCells #[.bool false] n) 4)).setCell ⟨U.heap.size,f,none⟩ (.bool true)) #[.int .i64 (f:Int)] 1 (by simp) (by unfold maxLen;omega) rfl
  simpa [iCells] using this
 ·exact belA ((belA bR).setCell (Nat.le_refl _) _)
theorem WkM.next {U W w2:World} {gc n:Nat} {v v':Value} {ls:List Nat} (h:WkM U W gc n v ls) {q:Nat} (hq:q<n) (hg:((W.setCell ⟨gc,q,none⟩ (.bool true)).alloc (.cells #[.int .i64 (q:Int)] 3)).grownBy w2 v.ownBlock)
  (ho:w2.ownsRow U.heap.size 3 1 v' (ls.length+1) (iCells (ls.map Int.ofNat)++[.int .i64 (q:Int)])):WkM U w2 gc n v' (ls++[q]):=by
 have hA:At (W.setCell ⟨gc,q,none⟩ (.bool true)) gc (.cells (cmA n (ls++[q])) 4):=by
  have:=heap_setCell_same W gc q _ 4 (.bool true) h.blk
  unfold At
  rw [this,cmA_set _ hq]
 have hR:((W.setCell ⟨gc,q,none⟩ (.bool true)).alloc (.cells #[.int .i64 (q:Int)] 3)).ownsRow U.heap.size 3 1 v ls.length (iCells (ls.map Int.ofNat)):=(ownsRow_setCell_other h.row (fun e=>own_ne h.row h.blk (by decide) e.symm) _).alloc _
 have hB:Below U.heap.size U ((W.setCell ⟨gc,q,none⟩ (.bool true)).alloc (.cells #[.int .i64 (q:Int)] 3)):=belA (h.bel.setCell h.glo _)
 refine ⟨(hA.alloc _).grown hg (own_ne hR (hA.alloc _) (by decide)),?_,hB.grown hg hB.size (fun k hk=>own_lo hR k hk),h.glo⟩
 rw [List.length_append]
 simpa [iCells] using ho
theorem WkM.own2 {U W:World} {gc n:Nat} {v:Value} {ls:List Nat} (h:WkM U W gc n v ls) (q:Nat) (o:Obj):((W.setCell ⟨gc,q,none⟩ (.bool true)).alloc o).ownsRow U.heap.size 3 1 v ls.length (iCells (ls.map Int.ofNat)):=(ownsRow_setCell_other h.row (fun e=>own_ne h.row h.blk (by decide) e.symm) _).alloc _
theorem belG (w:World) (os:Array Obj):Below w.heap.size w (Go.Sort.grow w os):=⟨rfl,rfl,rfl,by simp,fun k hk=>by
 show (w.heap++os)[k]?=_
 exact Array.getElem?_append_left hk⟩
open Go.Lib Go.Sort in
theorem sort_own {B:Nat} {W0 W:World} {v:Value} {zs:List Int} (h:W.ownsRow B 3 1 v zs.length (iCells zs)) (hne:zs≠[]) (hb:Below B W0 W) (hl:zs.length≤100000):∃ g c,v=.slice (some ⟨g,0,none⟩) zs.length c ∧
  Calls Tryz.prog 79 #[.slice (some ⟨g,0,none⟩) zs.length c] W fun e w'=>e=.returned (.tuple #[])∧w'.ownsRow B 3 1 (.slice (some ⟨g,0,none⟩) zs.length c) zs.length (iCells (zs.mergeSort fun x y=>decide (x≤y)))∧Below B W0 w':=by
 obtain ⟨g,c,rfl,hg,hlt,h1,h2,h3,hH⟩:=holds_of_ownsRow (enc:=Value.int .i64) (zs:=zs) h (fun e=>by
  obtain ⟨g,cap,e2⟩:=own_is h (List.length_pos_iff.2 hne)
  rw [e] at e2
  cases e2)
 refine ⟨g,c,rfl,(Tryz.slices_Sort_int g 0 c zs W hH hlt (by omega)).mono ?_⟩
 rintro e w' ⟨rfl,n,os,rfl⟩
 have hr:=ownsRow_putRow (q:=n) (k:=zs.length) (ys:=zs.mergeSort fun x y=>decide (x≤y)) h (by simp) (Nat.le_refl _)
 have hb2:Below B W0 (putRow (Value.int .i64) (Sort.ahead W n) g 0 (zs.mergeSort fun x y=>decide (x≤y)).toArray):=below_putRow hb hg
 refine ⟨rfl,own_bel ?_ (belG _ _),hb2.trans ((belG _ _).mono (by simp [putRow,mapBlock,Sort.ahead];omega))⟩
 have e:(zs.mergeSort fun x y=>decide (x≤y)).take zs.length=zs.mergeSort fun x y=>decide (x≤y):=List.take_of_length_le (by simp)
 rw [e] at hr
 exact hr
theorem Wk.sorted {l:List (Int × Int)} {f n:Nat} {ls:List Nat} (h:Wk l f n ls ls.length) (hl:∀ p∈l,(0≤p.1∧p.1<(n:Int))∧0≤p.2∧p.2<(n:Int)):RcF l n f (ls.mergeSort fun x y=>decide (x≤y)) where
 up:=by
  have h1:=List.pairwise_mergeSort (le:=fun x y=>decide (x≤y)) (fun a b c=>by simp;omega) (fun a b=>by simp;omega) ls
  have h2:(ls.mergeSort fun x y=>decide (x≤y)).Nodup:=(List.mergeSort_perm ls _).nodup_iff.2 h.nd
  refine (h1.and h2).imp fun {a b} hab=>?_
  have:=hab.1
  have:=hab.2
  simp at *
  omega
 lt:=fun x hx=>h.lt x ((List.mergeSort_perm ls _).mem_iff.1 hx)
 iff:=fun y=>by
  rw [h.all hl]
  exact ⟨fun ⟨x,a,b⟩=>⟨x,(List.mergeSort_perm ls _).mem_iff.2 a,b⟩,fun ⟨x,a,b⟩=>⟨x,(List.mergeSort_perm ls _).mem_iff.1 a,b⟩⟩
theorem sort_nat (ls:List Nat):(ls.map Int.ofNat).mergeSort (fun x y=>decide (x≤y))=(ls.mergeSort fun x y=>decide (x≤y)).map Int.ofNat:=by
 rw [List.map_mergeSort]
 intro a _ b _
 simp
theorem intR_own {W:World} {B n g c:Nat} {zs:List Int} (h:W.ownsRow B 3 1 (.slice (some ⟨g,0,none⟩) n c) n (iCells zs)) (hz:zs.length=n) (hr:∀ x∈zs,-9223372036854775808≤x∧x≤9223372036854775807):IntR W (some ⟨g,0,none⟩) n c zs:=by
 subst hz
 obtain ⟨a,cap,e,hI⟩:=own_int h hr
 cases e
 exact hI
theorem newsS (W:World) (x:Value) (t:Nat) (p:Addr) (u0:Value):∀ (j:Nat) (u:Value),([x]:List Value)[j]?=some u→((W.setCell p u0).alloc (.cells #[x] t)).cell? ((⟨W.heap.size,0,none⟩:Addr).add j)=some u:=fun j u hu=>by
 have:=World.news_of_block (cs:=#[x]) (At.new (W.setCell p u0) (.cells #[x] t)) j u hu
 rwa [World.size_setCell] at this
theorem Tryz.info4:(Tryz.prog.info? 4).map (fun i=>(i.zero,i.size,i.bytes))=some (some (.bool false),1,1):=by kernel_rfl
theorem lgI_rng {l:List (Int × Int)} {n:Nat} (hn:n≤512) (hl:∀ p∈l,(0≤p.1∧p.1<(n:Int))∧0≤p.2∧p.2<(n:Int)) {i:Nat} {r:List Int} (hr:r∈lgI l n i) {x:Int} (hx:x∈r):-9223372036854775808≤x∧x≤9223372036854775807:=by
 have key:∀ i,∀ r∈lgI l n i,∀ x∈r,0≤x∧x<(n:Int):=by
  intro i
  induction i with
  | zero=>intro r hr x hx;simp [lgI] at hr;rw [hr.2] at hx;simp at hx
  | succ i ih =>
   intro r hr
   simp only [lgI] at hr
   split at hr
   ·rename_i p hp
    exact put1_mem (P:=fun x=>0≤x∧x<(n:Int)) ih (hl p (List.mem_of_getElem? hp)).1 r hr
   ·exact ih r hr
 have:=key i r hr x hx
 omega
theorem TbI.on {w0 W W':World} {g:Nat} {t:List (List Int)} {vs:List Value} (h:TbI w0 W g t vs) (k:Below W.heap.size W W'):TbI w0 W' g t vs:=⟨h.blk.below k,h.lo,h.len,fun j v r a b=>own_bel (h.own j v r a b) k,h.sep,jB h.bel k⟩
theorem at_two {W:World} {b t:Nat} {x y:Value} (h:At W b (.cells #[x,y] t)):W.cell? ⟨b,0,none⟩=some x∧W.cell? ⟨b,1,none⟩=some y:=by
 unfold At at h
 exact ⟨by simp [World.cell?,h],by simp [World.cell?,h]⟩
theorem lgI_next {l:List (Int × Int)} {n i q:Nat} {p:Int} {rr:List Int} (h:l[i]?=some (p,(q:Int))) (hr:(lgI l n i)[q]?=some rr):lgI l n (i+1)=(lgI l n i).set q (rr++[p]):=by
 simp only [lgI,h,put1,Int.toNat_natCast,hr,Option.getD_some]
theorem news1 (V:World) (x:Value) (t:Nat):∀ (j:Nat) (u:Value),([x]:List Value)[j]?=some u→(V.alloc (.cells #[x] t)).cell? ((⟨V.heap.size,0,none⟩:Addr).add j)=some u:=fun j u hu =>
 World.news_of_block (cs:=#[x]) (At.new V (.cells #[x] t)) j u hu
theorem reached_any (w:World) (a:Option Addr) (m cap:Nat) (l:List (Int × Int)) (hP:PrR w a m cap l) (hm:m≤100000) (n:Nat) (hn:n≤512) (f:Nat) (hf:f<n) (hl:∀ p∈l,(0≤p.1∧p.1<(n:Int))∧0≤p.2∧p.2<(n:Int)) :
  Calls Tryz.prog 47 #[.slice a m cap,.int .i64 (n:Int),.int .i64 (f:Int)] w fun e w'=>∃ (gg c:Nat) (ls:List Nat),e=.returned (.slice (some ⟨gg,0,none⟩) ls.length c)∧IntR w' (some ⟨gg,0,none⟩) ls.length c (ls.map Int.ofNat)∧RcF l n f ls∧Below w.heap.size w w':=by
 have HP:=jH hP
 have HL:=jH hl
 have HM:=jH hP.len
 have n0:(0:Int)≤(n:Int):=by omega
 have n1:(n:Int)≤512:=by omega
 have m0:(0:Int)≤(m:Int):=by omega
 have m1:(m:Int)≤100000:=by omega
 obtain ⟨i0,hi0,hz0,hz1,hz2⟩:=info_parts Tryz.info55
 obtain ⟨i3,hi3,hy0,hy1,hy2⟩:=info_parts Tryz.info3
 have HS:=jH (TbI.start w n)
 obtain ⟨W0,hW0⟩:∃ W0,W0=w.alloc (.cells (madeCells #[.slice none 0 0] n) 55):=⟨_,rfl⟩
 clear hP hl
 go_enter Tryz.func47,Tryz.ntmps47
 go_wp2_with (refine wpList_make_row _ rfl _ _ 147 rfl 55 i0 (.slice none 0 0) Tryz.underlying147 hi0 hz0 hz1 rfl .i64 .i64 n rfl rfl (by rw [hz2];omega) (by omega) ?_)
 go_upto_region 2 with fail
 rw [← hW0] at HS ⊢
 clear hW0
 go_wp2_with fail
 go_loopw [19] (fun v V=>∃ (i:Nat) (vs:List Value),i≤m∧v=.int .i64 (i:Int)∧TbI w V w.heap.size (lgI l n i) vs) (fun v _=>m - (intOf v).toNat)
 case atStart=>exact ⟨0,_,Nat.zero_le _,rfl,HS.out⟩
 case round =>
  obtain ⟨i,vs,hi,rfl,hT⟩:=hrel
  have HT:=jH hT
  clear hT
  by_cases hlt:i<m
  ·obtain ⟨⟨p,q⟩,hri⟩:∃ r,l[i]?=some r:=⟨_,List.getElem?_eq_getElem (by have:=HM.out;omega)⟩
   obtain ⟨⟨hp0,hp1⟩,hq0,hq1⟩:=HL.out _ (List.mem_of_getElem? hri)
   simp only at hp0 hp1 hq0 hq1
   obtain ⟨q,rfl⟩:∃ q':Nat,q=(q':Int):=⟨q.toNat,by omega⟩
   obtain ⟨g,off,ea,hg,c0,c1⟩:=(HP.out.bel HT.out.bel).nth hri
   simp only at c0 c1
   have ea2:a=some ⟨g,off,none⟩:=ea
   subst ea2
   have i0':(0:Int)≤(i:Int):=by omega
   have i1':(i:Int)<(m:Int):=by omega
   have HLT:=jH hlt
   have HRI:=jH hri
   clear hlt hri hi ea
   go_upto_region 5 with fail
   have HT1:=jH (HT.out.on ((belA bR).drew:Below wr.heap.size wr (wr.alloc (.cells #[.int .i64 p,.int .i64 (q:Int)] 36)).drew))
   have hS0:At (wr.alloc (.cells #[.int .i64 p,.int .i64 (q:Int)] 36)).drew wr.heap.size (.cells #[.int .i64 p,.int .i64 (q:Int)] 36):=(At.new _ _).drew
   have hbx:w.heap.size<wr.heap.size:=HT.out.blk.lt
   have hlen:(lgI l n i).length=n:=lgI_len l n i
   obtain ⟨⟨va,vn,vcap⟩,rr,hv,ht,hvn⟩:=HT1.out.nth (q:=q) (by omega)
   have hvn':vn=rr.length:=hvn
   subst hvn'
   have hB:rr.length≤i:=lgI_bd l n i rr (List.mem_of_getElem? ht)
   replace hv:vs[q]?=some (.slice va rr.length vcap):=hv
   have HV:=jH hv
   have HR:=jH ht
   have hwz:(wr.alloc (.cells #[.int .i64 p,.int .i64 (q:Int)] 36)).drew.heap.size=wr.heap.size+1:=by simp [World.drew]
   have q1':(q:Int)<(n:Int):=hq1
   clear hv ht hvn c0 c1 hg
   refine beginH (S:=fun W=>At W wr.heap.size (.cells #[.int .i64 p,.int .i64 (q:Int)] 36)) (fun _ _ _ _ _ h=>h) (by kernel_rfl) hS0 (fun hq hH=>?_)
   clear hS0
   generalize (wr.alloc (.cells #[.int .i64 p,.int .i64 (q:Int)] 36)).drew=V0 at HT1 hH hwz ⊢
   have HWZ:=jH hwz
   clear HT hwz
   refine tz 0 23 (.slice (some ⟨w.heap.size,0,none⟩) n n) hq rfl rfl hH ?_
   simp only [pb,pc]
   refine tz 1 24 (.pointer (some ⟨wr.heap.size,1,none⟩)) hq rfl rfl hH ?_
   simp only [pb,pc]
   refine tq 2 25 (.int .i64 (q:Int)) hq rfl rfl (fun W hSw=>by (obtain ⟨s0,s1⟩:=at_two (show At W wr.heap.size (.cells #[.int .i64 p,.int .i64 (q:Int)] 36) from hSw);go_simp;try rfl)) hH ?_
   simp only [pb,pc]
   refine tz 3 26 (.slice (some ⟨w.heap.size,0,none⟩) n n) hq rfl rfl hH ?_
   simp only [pb,pc]
   refine tz 4 27 (.pointer (some ⟨wr.heap.size,1,none⟩)) hq rfl rfl hH ?_
   simp only [pb,pc]
   refine tq 5 28 (.int .i64 (q:Int)) hq rfl rfl (fun W hSw=>by (obtain ⟨s0,s1⟩:=at_two (show At W wr.heap.size (.cells #[.int .i64 p,.int .i64 (q:Int)] 36) from hSw);go_simp;try rfl)) hH ?_
   simp only [pb,pc]
   refine tz 6 29 (.pointer (some ⟨w.heap.size,q,none⟩)) hq rfl rfl hH ?_
   simp only [pb,pc]
   refine tz 8 31 (.pointer (some ⟨wr.heap.size,0,none⟩)) hq rfl rfl hH ?_
   simp only [pb,pc]
   refine tq 9 32 (.int .i64 p) hq rfl rfl (fun W hSw=>by (obtain ⟨s0,s1⟩:=at_two (show At W wr.heap.size (.cells #[.int .i64 p,.int .i64 (q:Int)] 36) from hSw);go_simp;try rfl)) hH ?_
   simp only [pb,pc]
   refine aRd [7,10] ?_
   refine AllReadyH.cons rfl (fun K hK=>?_) (AllReadyH.cons rfl (fun K hK=>?_) AllReadyH.nil)
   ·have cq:=HT1.out.cell HV.out
    go_simp
    go_wp2_with fail
    refine hK.out _ _ hH (fun hH=>?_)
    clear hK K cq
    try simp only [Act.put,List.setIfInBounds_toArray,pb,pc]
    refine aR1 10 rfl (fun K hK=>?_)
    go_simp
    go_wp2_with fail
    have HT2:=jH (HT1.out.on (belA bR (o:=.cells #[.int .i64 p] 3)))
    refine hK.out _ _ (show At (V0.alloc (.cells #[.int .i64 p] 3)) wr.heap.size _ from hH.alloc _) (fun hH=>?_)
    clear hK K
    try simp only [Act.put,List.setIfInBounds_toArray,pb,pc]
    refine aRd [11] ?_
    refine AllReadyH.cons (o:={ dst:=some 34,op:=.call { callee:=.builtin .append,args:=#[.tmp 30,.tmp 33],argTypes:=#[55,55] },type:=55,pos := "reach.go:13",after:=_,guard:=none }) rfl (fun K hK=>?_) AllReadyH.nil
    rw [if_pos (by rfl)]
    refine wp_append_lies _ (.tmp 30) (.tmp 33) 55 rfl w.heap.size 3 i3 (.int .i64 0) 1 8 Tryz.underlying55 hi3 hy0 hy1 hy2 rfl (by decide) (.slice va rr.length vcap) rr.length _ rfl (HT2.out.own q _ rr HV.out HR.out) ⟨V0.heap.size,0,none⟩ 1 1 [.int .i64 p] rfl rfl (news1 V0 _ 3) (fun u hu=>by simp at hu;subst hu;rfl) (by decide) (by unfold maxLen;omega) (by omega) (by have:=HWZ.out;simp only [World.size_alloc];omega) (V0.heap.size+1) (by simp) ?_
    intro gg cc w2 ho hg hat hltg
    have hA:=HT1.out.at2 HV.out HR.out hg
    have c2:w2.cell? ⟨w.heap.size,q,none⟩=some (.slice va rr.length vcap):=by rw [cell_of_row _ _ _ _ _ _ hA];simpa using HV.out
    have f2:w2.frozen? ⟨w.heap.size,q,none⟩=false:=frozen_of_row w2 _ q _ 55 hA
    have hS2:At w2 wr.heap.size (.cells #[.int .i64 p,.int .i64 (q:Int)] 36):=hH.grown hg (own_ne (HT2.out.own q _ rr HV.out HR.out) hH (by decide))
    have HN:=jH (HT1.out.next HV.out HR.out p hg ho hat)
    refine hK.out _ _ hS2 (fun hH=>?_)
    clear hK K hg ho hat hS2 hA
    try simp only [Act.put,List.setIfInBounds_toArray,pb,pc]
    refine tz 12 35 (.pointer (some ⟨w.heap.size,q,none⟩)) hq rfl rfl hH ?_
    simp only [pb,pc]
    refine aR1 13 rfl (fun K hK=>?_)
    go_simp
    go_wp2_with fail
    refine hK.out _ _ (show At (w2.setCell ⟨w.heap.size,q,none⟩ (.slice (some ⟨gg,0,none⟩) (rr.length+1) cc)) wr.heap.size _ from hH.set (by simp only;omega) _) (fun hH=>?_)
    clear hK K c2 f2
    try simp only [Act.put,List.setIfInBounds_toArray,pb,pc]
    refine wpAnyH_done (by kernel_rfl) ?_ _
    clear hH hq
    go_wp2_with fail
    refine ⟨⟨i+1,_,HLT.out,rfl,by rw [lgI_next HRI.out HR.out];exact HN.out⟩,?_⟩
    show m - ((i:Int)+1).toNat<m - (i:Int).toNat
    have:=HLT.out
    omega
   ·go_simp
    go_wp2_with fail
    have HT2:=jH (HT1.out.on (belA bR (o:=.cells #[.int .i64 p] 3)))
    refine hK.out _ _ (show At (V0.alloc (.cells #[.int .i64 p] 3)) wr.heap.size _ from hH.alloc _) (fun hH=>?_)
    clear hK K
    try simp only [Act.put,List.setIfInBounds_toArray,pb,pc]
    refine aR1 7 rfl (fun K hK=>?_)
    have cq:=HT2.out.cell HV.out
    go_simp
    go_wp2_with fail
    refine hK.out _ _ hH (fun hH=>?_)
    clear hK K cq
    try simp only [Act.put,List.setIfInBounds_toArray,pb,pc]
    refine aRd [11] ?_
    refine AllReadyH.cons (o:={ dst:=some 34,op:=.call { callee:=.builtin .append,args:=#[.tmp 30,.tmp 33],argTypes:=#[55,55] },type:=55,pos := "reach.go:13",after:=_,guard:=none }) rfl (fun K hK=>?_) AllReadyH.nil
    rw [if_pos (by rfl)]
    refine wp_append_lies _ (.tmp 30) (.tmp 33) 55 rfl w.heap.size 3 i3 (.int .i64 0) 1 8 Tryz.underlying55 hi3 hy0 hy1 hy2 rfl (by decide) (.slice va rr.length vcap) rr.length _ rfl (HT2.out.own q _ rr HV.out HR.out) ⟨V0.heap.size,0,none⟩ 1 1 [.int .i64 p] rfl rfl (news1 V0 _ 3) (fun u hu=>by simp at hu;subst hu;rfl) (by decide) (by unfold maxLen;omega) (by omega) (by have:=HWZ.out;simp only [World.size_alloc];omega) (V0.heap.size+1) (by simp) ?_
    intro gg cc w2 ho hg hat hltg
    have hA:=HT1.out.at2 HV.out HR.out hg
    have c2:w2.cell? ⟨w.heap.size,q,none⟩=some (.slice va rr.length vcap):=by rw [cell_of_row _ _ _ _ _ _ hA];simpa using HV.out
    have f2:w2.frozen? ⟨w.heap.size,q,none⟩=false:=frozen_of_row w2 _ q _ 55 hA
    have hS2:At w2 wr.heap.size (.cells #[.int .i64 p,.int .i64 (q:Int)] 36):=hH.grown hg (own_ne (HT2.out.own q _ rr HV.out HR.out) hH (by decide))
    have HN:=jH (HT1.out.next HV.out HR.out p hg ho hat)
    refine hK.out _ _ hS2 (fun hH=>?_)
    clear hK K hg ho hat hS2 hA
    try simp only [Act.put,List.setIfInBounds_toArray,pb,pc]
    refine tz 12 35 (.pointer (some ⟨w.heap.size,q,none⟩)) hq rfl rfl hH ?_
    simp only [pb,pc]
    refine aR1 13 rfl (fun K hK=>?_)
    go_simp
    go_wp2_with fail
    refine hK.out _ _ (show At (w2.setCell ⟨w.heap.size,q,none⟩ (.slice (some ⟨gg,0,none⟩) (rr.length+1) cc)) wr.heap.size _ from hH.set (by simp only;omega) _) (fun hH=>?_)
    clear hK K c2 f2
    try simp only [Act.put,List.setIfInBounds_toArray,pb,pc]
    refine wpAnyH_done (by kernel_rfl) ?_ _
    clear hH hq
    go_wp2_with fail
    refine ⟨⟨i+1,_,HLT.out,rfl,by rw [lgI_next HRI.out HR.out];exact HN.out⟩,?_⟩
    show m - ((i:Int)+1).toNat<m - (i:Int).toNat
    have:=HLT.out
    omega
  ·obtain rfl:i=m:=by omega
   have lt:¬ (i:Int)<(i:Int):=by omega
   obtain ⟨U,hUe⟩:∃ U,U=wr:=⟨_,rfl⟩
   subst hUe
   have hUB:=jH HT.out.bel
   have HN:=jH (HT.out.net (fun r hr x hx=>lgI_rng hn HL.out hr hx))
   have HMEM:=jH (lgI_mem l n (fun p hp=>(HL.out p hp).2) i)
   have hbx:w.heap.size<U.heap.size:=HT.out.blk.lt
   rw [lgI_len] at HN
   obtain ⟨i4,hi4,hx0,hx1,hx2⟩:=info_parts Tryz.info4
   have HS0:=jH (WkM.start (U:=U) hf hn)
   have hA0:At (U.alloc (.cells (madeCells #[.bool false] n) 4)) U.heap.size (.cells (madeCells #[.bool false] n) 4):=At.new _ _
   have c0:(U.alloc (.cells (madeCells #[.bool false] n) 4)).cell? ⟨U.heap.size,f,none⟩=some (.bool false):=by
    rw [cell_of_row _ _ _ _ _ _ hA0,cmA_nil,cmA_get _ hf]
    simp
   have f0:(U.alloc (.cells (madeCells #[.bool false] n) 4)).frozen? ⟨U.heap.size,f,none⟩=false:=frozen_of_row _ _ _ _ _ hA0
   obtain ⟨U0,hU0⟩:∃ U0,U0=U.alloc (.cells (madeCells #[.bool false] n) 4):=⟨_,rfl⟩
   rw [← hU0] at HS0 c0 f0
   have hUs:U0.heap.size=U.heap.size+1:=by rw [hU0];simp
   have f1:(0:Int)≤(f:Int):=by omega
   have f2:(f:Int)<(n:Int):=by omega
   clear hlt hi HT hA0 HS
   go_upto_region 8 with (refine wpList_make_row _ rfl _ _ 101 rfl 4 i4 (.bool false) Tryz.underlying101 hi4 hx0 hx1 rfl .i64 .i64 n rfl rfl (by rw [hx2];omega) (by omega) ?_)
   rw [← hU0]
   clear hU0
   go_wp2_with fail
   clear c0 f0 hUs
   go_loopw [11,12] (fun v11 v12 V=>∃ (k:Nat) (ls:List Nat),v12=.int .i64 (k:Int)∧WkM U V U.heap.size n v11 ls∧Wk l f n ls k) (fun _ v12 _=>n - (intOf v12).toNat)
   case atStart=>exact ⟨0,[f],rfl,HS0.out,Wk.start hf⟩
   case round =>
    obtain ⟨k,ls,rfl,hM,hW⟩:=hrel
    have HM1:=jH hM
    have HW1:=jH hW
    have hlen:=hW.len
    have hkl:=hW.kl
    have k0:(0:Int)≤(k:Int):=by omega
    clear hM hW
    by_cases hlt:k<ls.length
    ·obtain ⟨x,hx⟩:∃ x,ls[k]?=some x:=⟨_,List.getElem?_eq_getElem hlt⟩
     obtain ⟨g,cp,e1,hc,hg⟩:=HM1.out.nth hx
     subst e1
     have hxn:x<n:=HW1.out.lt x (List.mem_of_getElem? hx)
     obtain ⟨r,hr,hmem⟩:=HMEM.out x hxn
     obtain ⟨gN,oN,⟨ya,yn,yc⟩,eN,hgN,hcN,hI⟩:=HN.out.at_ x r hr
     cases eN
     rw [Nat.zero_add] at hcN
     replace hcN:=(HM1.out.bel.cell (p:=⟨w.heap.size,x,none⟩) hgN).trans hcN
     have hyn:yn=r.length:=hI.len
     have hrb:r.length≤100000:=by have:=lgI_bd l n i r (List.mem_of_getElem? hr);omega
     have x0:(0:Int)≤(x:Int):=by omega
     have x1:(x:Int)<(n:Int):=by omega
     have k1:(k:Int)<(ls.length:Int):=by omega
     have kb:(ls.length:Int)≤512:=by omega
     have y0:(0:Int)≤(yn:Int):=by omega
     have y1:(yn:Int)≤100000:=by omega
     have HX:=jH hx
     have HI:=jH hI
     have HMM:=jH hmem
     have HYN:=jH hyn
     have HLT:=jH hlt
     have HKN:Hid (k<n):=jH (by omega)
     clear hx hr hmem hI hlt hkl hlen hg hgN hyn
     go_wp2_with fail
     go_loopw [11,58] (fun v11 v58 V=>∃ (e:Nat) (ls':List Nat),e≤yn∧v58=.int .i64 (e:Int)∧WkM U V U.heap.size n v11 ls'∧Wk l f n ls' k∧ls'[k]?=some x∧∀ (j:Nat) (y:Int),j<e→r[j]?=some y→∃ y':Nat,y=(y':Int)∧y'∈ls') (fun _ v58 _=>yn - (intOf v58).toNat)
     case atStart=>exact ⟨0,ls,Nat.zero_le _,rfl,HM1.out,HW1.out,HX.out,fun j y h=>by omega⟩
     case round =>
      clear HM1 HW1 hc hcN
      obtain ⟨e,lt,he,rfl,hM,hW,hx,hdone⟩:=hrel
      have HM1:=jH hM
      have HW1:=jH hW
      have HX1:=jH hx
      have HD:=jH hdone
      have hlen:=hW.len
      clear hM hW hx hdone
      by_cases hlt:e<yn
      ·obtain ⟨q,hq⟩:∃ q,r[e]?=some q:=⟨_,List.getElem?_eq_getElem (by have:=HYN.out;omega)⟩
       obtain ⟨jj,hjj,hlq⟩:=(HMM.out q).1 (List.mem_of_getElem? hq)
       have hmq:=List.mem_of_getElem? hlq
       have hqr:=(HL.out _ hmq).1
       obtain ⟨q,rfl⟩:∃ q':Nat,q=(q':Int):=⟨q.toNat,by simp only at hqr;omega⟩
       have hqn:q<n:=by simp only at hqr;omega
       obtain ⟨gr,ro,ea,hgr,hcr,-,-⟩:=HI.out.nth hq
       have ea2:ya=some ⟨gr,ro,none⟩:=ea
       subst ea2
       have hcr':=(HM1.out.bel.cell (p:=⟨gr,ro+e,none⟩) hgr).trans hcr
       obtain ⟨cc,fc⟩:=HM1.out.came hqn
       obtain ⟨a2,c2,ev⟩:=own_sl HM1.out.row
       subst ev
       have e0:(0:Int)≤(e:Int):=by omega
       have e1:(e:Int)<(yn:Int):=by omega
       have q0:(0:Int)≤(q:Int):=by omega
       have q1:(q:Int)<(n:Int):=by omega
       have HLT2:=jH hlt
       have HQ:=jH hq
       have HMQ:=jH hmq
       have HQN:=jH hqn
       have hsz:=HM1.out.bel.size
       have hgl:=HM1.out.blk.lt
       clear hlt he hq hjj hlq hmq hqr hqn hcr ea
       by_cases hin:q∈lt
       ·rw [decide_eq_true hin] at cc
        have HIN:=jH hin
        clear hin
        go_wp2_with fail
        refine ⟨⟨e+1,lt,HLT2.out,rfl,HM1.out,HW1.out,HX1.out,fun j y hj hy=>?_⟩,?_⟩
        ·rcases Nat.lt_or_ge j e with h1|h1
         ·exact HD.out j y h1 hy
         ·obtain rfl:j=e:=by omega
          rw [HQ.out] at hy
          cases hy
          exact ⟨q,rfl,HIN.out⟩
        ·show yn - ((e:Int)+1).toNat<yn - (e:Int).toNat
         have:=HLT2.out
         omega
       ·rw [decide_eq_false hin] at cc
        have HIN:=jH hin
        clear hin
        go_wp2_with (at_builtin;refine wpList_append_own _ rfl _ _ 55 rfl U.heap.size 3 i3 (.int .i64 0) 1 8 Tryz.underlying55 hi3 hy0 hy1 hy2 rfl (by decide) (.slice a2 lt.length c2) lt.length _ rfl (HM1.out.own2 q _) ⟨wr.heap.size,0,none⟩ 1 1 [.int .i64 (q:Int)] rfl rfl (newsS wr _ _ _ _) (fun u hu=>by simp at hu;subst hu;rfl) (by unfold maxLen;omega) (by omega) (by simp only [World.size_alloc,World.size_setCell];omega) ?_;intro v' w5 ho hg hn5;have HM2:=jH (HM1.out.next HQN.out hg ho);obtain ⟨a6,c6,ev⟩:=own_sl ho;subst ev;clear ho hg hn5)
        refine ⟨⟨e+1,lt++[q],HLT2.out,rfl,HM2.out,HW1.out.put (List.mem_of_getElem? HX1.out) HMQ.out HQN.out HIN.out,?_,fun j y hj hy=>?_⟩,?_⟩
        ·rw [List.getElem?_append_left (List.getElem?_eq_some_iff.1 HX1.out).1]
         exact HX1.out
        ·rcases Nat.lt_or_ge j e with h1|h1
         ·obtain ⟨y',h2,h3⟩:=HD.out j y h1 hy
          exact ⟨y',h2,List.mem_append.2 (.inl h3)⟩
         ·obtain rfl:j=e:=by omega
          rw [HQ.out] at hy
          cases hy
          exact ⟨q,rfl,by simp⟩
        ·show yn - ((e:Int)+1).toNat<yn - (e:Int).toNat
         have:=HLT2.out
         omega
      ·obtain rfl:e=yn:=by omega
       have lt1:¬ (e:Int)<(e:Int):=by omega
       clear hlt he
       go_wp2_with fail
       refine ⟨⟨k+1,lt,rfl,HM1.out,HW1.out.on HX1.out (fun y hy=>?_)⟩,?_⟩
       ·obtain ⟨jj,hjj⟩:=List.getElem?_of_mem hy
        have hjl:=(List.getElem?_eq_some_iff.1 hjj).1
        obtain ⟨s,hs⟩:=List.getElem?_of_mem ((HMM.out (y:Int)).2 ⟨jj,by have:=HM.out;omega,hjj⟩)
        obtain ⟨y',h2,h3⟩:=HD.out s _ (by have:=(List.getElem?_eq_some_iff.1 hs).1;have:=HYN.out;omega) hs
        obtain rfl:y=y':=by omega
        exact h3
       ·show n - ((k:Int)+1).toNat<n - (k:Int).toNat
        have:=HKN.out
        omega
    ·obtain rfl:k=ls.length:=by omega
     have lt:¬ (ls.length:Int)<(ls.length:Int):=by omega
     obtain ⟨hne,hlm⟩:ls.map Int.ofNat≠[]∧(ls.map Int.ofNat).length=ls.length:=⟨fun e=>by have:=HW1.out.st;have e2:=congrArg List.length e;simp at e2;subst e2;simp at this,by simp⟩
     have hrow:=HM1.out.row
     rw [← hlm] at hrow
     obtain ⟨gs,cs,ev,CS⟩:=sort_own hrow hne HM1.out.bel (by omega)
     rw [hlm] at ev CS
     subst ev
     have HCS:=jH CS
     have HLM:=jH hlm
     clear hlt hkl hrow CS hne hlm HM1
     go_wp2_with (go_at_call 79;refine HCS.out.mono ?_;rintro e w5 ⟨rfl,ho,hb⟩;have HO:=jH ho;have HB:=jH hb;clear ho hb)
     go_ret
     refine ⟨gs,cs,ls.mergeSort fun x y=>decide (x≤y),by simp,?_,HW1.out.sorted HL.out,jB hUB.out HB.out⟩
     have h1:=HO.out
     rw [sort_nat] at h1
     have:=intR_own h1 (by simp) (fun x hx=>by
      obtain ⟨y,hy,rfl⟩:=List.mem_map.1 hx
      have:=HW1.out.lt y ((List.mergeSort_perm ls _).mem_iff.1 hy)
      simp only [Int.ofNat_eq_natCast]
      omega)
     simpa using this
def frB (l:List (Int × Int)) (count region:Int):Bool:=(decide (0≤count) && decide (count≤512) && blwB count region) && !l.any (outB count)
theorem frB_all {l:List (Int × Int)} {n:Int} (h:l.any (outB n)=false):∀ p∈l,(0≤p.1∧p.1<n)∧0≤p.2∧p.2<n:=fun p hp=>by
 have:=List.any_eq_false.1 h p hp
 simp [outB,blwB] at this
 omega
theorem From_yes (w:World) (a:Option Addr) (m cap:Nat) (l:List (Int × Int)) (hP:PrR w a m cap l) (hm:m≤100000) (n f:Nat) (hb:frB l (n:Int) (f:Int)=true) :
  Calls Tryz.prog 19 #[.slice a m cap,.int .i64 (n:Int),.int .i64 (f:Int)] w fun e w'=>∃ (gg c:Nat) (ls:List Nat),e=.returned (.tuple #[.slice (some ⟨gg,0,none⟩) ls.length c,.int .i64 0])∧IntR w' (some ⟨gg,0,none⟩) ls.length c (ls.map Int.ofNat)∧RcF l n f ls∧Below w.heap.size w w':=by
 unfold frB at hb
 simp only [Bool.and_eq_true,decide_eq_true_eq,Bool.not_eq_true'] at hb
 obtain ⟨⟨⟨-,h512⟩,hx⟩,hy⟩:=hb
 have C:=jH (isBelow_any (n:Int) (f:Int))
 have C2:=jH (areBelow_any (n:Int) a m cap l w hP)
 have hf:f<n:=by simp [blwB] at hx;omega
 have C3:=jH (fun (V:World) (hV:Below w.heap.size w V)=>reached_any V a m cap l (hP.bel hV) hm n (by omega) f hf (frB_all hy))
 rw [hx] at C
 rw [hy] at C2
 have n0:¬ (n:Int)<0:=by omega
 have n1:¬ (512:Int)<(n:Int):=by omega
 clear hx hy hP h512 hf hm
 go_enter Tryz.func19,Tryz.ntmps19
 go_wp2_with (go_at_call 46;refine (C.out _).mono ?_;rintro e w1 ⟨rfl,hw⟩;subst hw)
 go_wp2_with (go_at_call 42;refine C2.out.mono ?_;rintro e w1 ⟨rfl,hB⟩;have HB:=jH hB;have C4:=jH (C3.out _ hB);clear hB)
 go_wp2_with (go_at_call 47;refine C4.out.mono ?_;rintro e w2 ⟨gg,cc,ls,rfl,hI,hR,hB⟩;have HI:=jH hI;have HR:=jH hR;have HB2:=jH (jB HB.out hB);clear hI hR hB)
 go_ret2
 exact ⟨gg,cc,ls,rfl,HI.out,HR.out,HB2.out⟩
end Go.Proofs.YtmjenlogbkbgnaaGreatDoor
