import Derived.Test.YtjchbclkdbojpaaDoorDc
namespace Go.Proofs.YtjchbclkdbojpaaDoor
set_option linter.unusedVariables false
set_option linter.unusedSimpArgs false

/-- Which struct a type is, if it is one. -/
def subT : Ty → Option Nat
  | .mk k _ _ s _ => if k = 5 then some s.toNat else none
/-- Is it a box? -/
def boxT : Ty → Bool
  | .mk k _ _ _ _ => decide (k = 3)
/-- The fields' types of a struct. -/
def fld (ss : List (List Ty)) (i : Nat) : List Ty := (ss[i]?).getD []
theorem fld_of {ss : List (List Ty)} {i : Nat} {fs : List Ty} (h : ss[i]? = some fs) : fld ss i = fs := by unfold fld; rw [h]; rfl
/-- j stands right in i. -/
def Stp (ss : List (List Ty)) (i j : Nat) : Prop := ∃ t ∈ fld ss i, subT t = some j
/-- j stands in i, however deep. -/
inductive Stn (ss : List (List Ty)) : Nat → Nat → Prop
  | one {i j : Nat} (h : Stp ss i j) : Stn ss i j
  | more {i j k : Nat} (h : Stp ss i j) (h' : Stn ss j k) : Stn ss i k
theorem Stn.trans {ss : List (List Ty)} {i j k : Nat} (h : Stn ss i j) (h' : Stn ss j k) : Stn ss i k := by
  induction h with
  | one h => exact .more h h'
  | more h _ ih => exact .more h (ih h')
/-- A set that has what stands right in i, and with each of its own what stands right in that, has all that stands in i. -/
theorem Stn.closed {ss : List (List Ty)} {M : Nat → Prop} {i : Nat} (h1 : ∀ j, Stp ss i j → M j) (h2 : ∀ j k, M j → Stp ss j k → M k) : ∀ {k : Nat}, Stn ss i k → M k := by
  intro k hk
  have key : ∀ {a b : Nat}, Stn ss a b → (∀ j, Stp ss a j → M j) → M b := by
    intro a b hab
    induction hab with
    | one h => intro hs; exact hs _ h
    | more h _ ih => intro hs; exact ih (fun j hj => h2 _ _ (hs _ h) hj)
  exact key hk h1
theorem filter_lt {p q : Nat → Bool} : ∀ {l : List Nat} {x : Nat}, (∀ y ∈ l, p y = true → q y = true) → x ∈ l → q x = true → p x = false → (l.filter p).length < (l.filter q).length := by
  have le : ∀ l : List Nat, (∀ y ∈ l, p y = true → q y = true) → (l.filter p).length ≤ (l.filter q).length := by
    intro l
    induction l with
    | nil => intro _; simp
    | cons y l ih =>
      intro h
      have := ih (fun z hz => h z (List.mem_cons_of_mem _ hz))
      cases hp : p y with
      | false =>
        rw [List.filter_cons_of_neg (by simp [hp])]
        cases hq : q y with
        | false => rw [List.filter_cons_of_neg (by simp [hq])]; exact this
        | true => rw [List.filter_cons_of_pos hq]; simp; omega
      | true =>
        have hq := h y List.mem_cons_self hp
        rw [List.filter_cons_of_pos hp, List.filter_cons_of_pos hq]
        simpa using this
  intro l
  induction l with
  | nil => intro x _ hx; cases hx
  | cons y l ih =>
    intro x h hx hq hp
    have hl := le l (fun z hz => h z (List.mem_cons_of_mem _ hz))
    rcases List.mem_cons.1 hx with rfl | hx
    · rw [List.filter_cons_of_neg (by simp [hp]), List.filter_cons_of_pos hq]
      simp
      omega
    · have := ih (fun z hz => h z (List.mem_cons_of_mem _ hz)) hx hq hp
      cases hp' : p y with
      | false =>
        rw [List.filter_cons_of_neg (by simp [hp'])]
        cases hq' : q y with
        | false => rw [List.filter_cons_of_neg (by simp [hq'])]; exact this
        | true => rw [List.filter_cons_of_pos hq']; simp; omega
      | true =>
        have hq' := h y List.mem_cons_self hp'
        rw [List.filter_cons_of_pos hp', List.filter_cons_of_pos hq']
        simpa using this
/-- Structs none of which stands in itself have a rank. -/
def Rank (ss : List (List Ty)) (rk : Nat → Nat) : Prop := (∀ i, rk i ≤ ss.length) ∧ ∀ i j, Stp ss i j → rk j < rk i
theorem rank_ex {ss : List (List Ty)} (hlt : ∀ i j, Stp ss i j → j < ss.length) (hac : ∀ i, i < ss.length → ¬ Stn ss i i) : ∃ rk, Rank ss rk := by
  have dec : ∀ a b, Decidable (Stn ss a b) := fun a b => Classical.propDecidable _
  refine ⟨fun i => ((List.range ss.length).filter (fun j => decide (Stn ss i j))).length, fun i => ?_, fun i j h => ?_⟩
  · have := List.length_filter_le (fun j => decide (Stn ss i j)) (List.range ss.length)
    simpa using this
  · refine filter_lt (x := j) (fun k _ hk => ?_) (by simpa using hlt i j h) ?_ ?_
    · have := of_decide_eq_true hk
      exact decide_eq_true (Stn.more h this)
    · exact decide_eq_true (Stn.one h)
    · exact decide_eq_false (hac j (hlt i j h))
/-- Words of a struct, so deep. -/
def twF (ss : List (List Ty)) : Nat → Nat → Nat
  | 0, _ => 0
  | f + 1, i => ((fld ss i).map fun t => match subT t with | some j => twF ss f j | none => 1).sum
/-- Has a struct a box in it, so deep? -/
def dpF (ss : List (List Ty)) : Nat → Nat → Bool
  | 0, _ => false
  | f + 1, i => (fld ss i).any fun t => match subT t with | some j => dpF ss f j | none => boxT t
theorem twF_stable {ss : List (List Ty)} {rk : Nat → Nat} (hr : Rank ss rk) : ∀ (f g i : Nat), rk i < f → rk i < g → twF ss f i = twF ss g i
  | 0, _, _, h, _ => by omega
  | _ + 1, 0, _, _, h => by omega
  | f + 1, g + 1, i, h, h' => by
    unfold twF
    congr 1
    apply List.map_congr_left
    intro t ht
    cases hs : subT t with
    | none => rfl
    | some j =>
      have := hr.2 i j ⟨t, ht, hs⟩
      exact twF_stable hr f g j (by omega) (by omega)
theorem dpF_stable {ss : List (List Ty)} {rk : Nat → Nat} (hr : Rank ss rk) : ∀ (f g i : Nat), rk i < f → rk i < g → dpF ss f i = dpF ss g i
  | 0, _, _, h, _ => by omega
  | _ + 1, 0, _, _, h => by omega
  | f + 1, g + 1, i, h, h' => by
    unfold dpF
    rw [Bool.eq_iff_iff, List.any_eq_true, List.any_eq_true]
    have key : ∀ t ∈ fld ss i, (match subT t with | some j => dpF ss f j | none => boxT t) = (match subT t with | some j => dpF ss g j | none => boxT t) := by
      intro t ht
      cases hs : subT t with
      | none => rfl
      | some j =>
        have := hr.2 i j ⟨t, ht, hs⟩
        exact dpF_stable hr f g j (by omega) (by omega)
    constructor
    · rintro ⟨t, ht, h⟩
      exact ⟨t, ht, by rw [← key t ht]; exact h⟩
    · rintro ⟨t, ht, h⟩
      exact ⟨t, ht, by rw [key t ht]; exact h⟩
def tw (ss : List (List Ty)) (i : Nat) : Nat := twF ss (ss.length + 1) i
def dp (ss : List (List Ty)) (i : Nat) : Bool := dpF ss (ss.length + 1) i
/-- Words of a type, however many. -/
def wdT (ss : List (List Ty)) (t : Ty) : Nat := match subT t with | some j => tw ss j | none => 1
/-- Does it need dropping? -/
def dpT (ss : List (List Ty)) (t : Ty) : Bool := match subT t with | some j => dp ss j | none => boxT t
theorem tw_eq {ss : List (List Ty)} {rk : Nat → Nat} (hr : Rank ss rk) (i : Nat) : tw ss i = ((fld ss i).map (wdT ss)).sum := by
  have hi := hr.1 i
  show twF ss (ss.length + 1) i = _
  unfold twF
  congr 1
  apply List.map_congr_left
  intro t ht
  unfold wdT
  cases hs : subT t with
  | none => rfl
  | some j =>
    have := hr.2 i j ⟨t, ht, hs⟩
    exact twF_stable hr _ _ j (by omega) (by omega)
theorem dp_eq {ss : List (List Ty)} {rk : Nat → Nat} (hr : Rank ss rk) (i : Nat) : dp ss i = (fld ss i).any (dpT ss) := by
  have hi := hr.1 i
  show dpF ss (ss.length + 1) i = _
  unfold dpF
  rw [Bool.eq_iff_iff, List.any_eq_true, List.any_eq_true]
  have key : ∀ t ∈ fld ss i, (match subT t with | some j => dpF ss ss.length j | none => boxT t) = dpT ss t := by
    intro t ht
    unfold dpT
    cases hs : subT t with
    | none => rfl
    | some j =>
      have := hr.2 i j ⟨t, ht, hs⟩
      exact dpF_stable hr _ _ j (by omega) (by omega)
  constructor
  · rintro ⟨t, ht, h⟩
    exact ⟨t, ht, by rw [← key t ht]; exact h⟩
  · rintro ⟨t, ht, h⟩
    exact ⟨t, ht, by rw [key t ht]; exact h⟩
/-- Words, counted no further than one above 16. -/
def cw (ss : List (List Ty)) (t : Ty) : Nat := min (wdT ss t) 17
def cwS (ss : List (List Ty)) (i : Nat) : Nat := min (tw ss i) 17
theorem cw_sub {ss : List (List Ty)} {t : Ty} {j : Nat} (h : subT t = some j) : cw ss t = cwS ss j := by unfold cw cwS wdT; rw [h]
theorem cw_none {ss : List (List Ty)} {t : Ty} (h : subT t = none) : cw ss t = 1 := by unfold cw wdT; rw [h]; rfl
theorem cap_sum {α : Type} (f : α → Nat) : ∀ l : List α, min ((l.map fun x => min (f x) 17).sum) 17 = min ((l.map f).sum) 17
  | [] => rfl
  | x :: l => by
    have := cap_sum f l
    simp only [List.map_cons, List.sum_cons]
    omega
theorem cwS_eq {ss : List (List Ty)} {rk : Nat → Nat} (hr : Rank ss rk) (i : Nat) : cwS ss i = min ((fld ss i).map (cw ss)).sum 17 := by
  unfold cwS
  rw [tw_eq hr]
  exact (cap_sum (wdT ss) _).symm
theorem sum_len {α : Type} (f : α → Nat) : ∀ l : List α, (∀ x ∈ l, 1 ≤ f x) → l.length ≤ (l.map f).sum
  | [], _ => Nat.le_refl _
  | x :: l, h => by
    have h1 := h x List.mem_cons_self
    have h2 := sum_len f l (fun y hy => h y (List.mem_cons_of_mem _ hy))
    simp only [List.map_cons, List.sum_cons, List.length_cons]
    omega
theorem tw_pos {ss : List (List Ty)} {rk : Nat → Nat} (hr : Rank ss rk) (hlt : ∀ i j, Stp ss i j → j < ss.length) (hne : ∀ i, i < ss.length → 1 ≤ (fld ss i).length) : ∀ (n i : Nat), rk i < n → i < ss.length → 1 ≤ tw ss i
  | 0, _, h, _ => by omega
  | n + 1, i, h, hi => by
    rw [tw_eq hr]
    refine Nat.le_trans (hne i hi) (sum_len _ _ (fun t ht => ?_))
    unfold wdT
    cases hs : subT t with
    | none => exact Nat.le_refl _
    | some j =>
      have h1 := hr.2 i j ⟨t, ht, hs⟩
      exact tw_pos hr hlt hne n j (by omega) (hlt i j ⟨t, ht, hs⟩)
/-- The first number at fault. -/
def fstB (b : Nat → Bool) : Nat → Option Nat
  | 0 => none
  | n + 1 => match fstB b n with | some i => some i | none => if b n = true then some n else none
theorem fstB_none {b : Nat → Bool} : ∀ {n : Nat}, (∀ j, j < n → b j = false) → fstB b n = none
  | 0, _ => rfl
  | n + 1, h => by
    unfold fstB
    rw [fstB_none (fun j hj => h j (by omega)), h n (by omega)]
    rfl
theorem fstB_some {b : Nat → Bool} : ∀ {n i : Nat}, i < n → b i = true → (∀ j, j < i → b j = false) → fstB b n = some i
  | 0, i, hi, _, _ => by omega
  | n + 1, i, hi, h, h' => by
    unfold fstB
    by_cases e : i = n
    · subst e
      rw [fstB_none h']
      simp [h]
    · rw [fstB_some (n := n) (by omega) h h']
theorem fstB_no {b : Nat → Bool} {n : Nat} (h : fstB b n = none) : ∀ j, j < n → b j = false := by
  intro j hj
  cases hb : b j with
  | false => rfl
  | true =>
    exfalso
    have key : ∀ k, k ≤ j → (∀ i, i < k → b i = false) := by
      intro k
      induction k with
      | zero => intro _ i hi; omega
      | succ k ih =>
        intro hk i hi
        by_cases e : i = k
        · subst e
          cases hc : b i with
          | false => rfl
          | true => rw [fstB_some (by omega) hc (ih (by omega))] at h; cases h
        · exact ih (by omega) i (by omega)
    rw [fstB_some hj hb (key j (Nat.le_refl _))] at h
    cases h
/-- What is told of structs: which one is at fault, or none. -/
def stRes (n : Nat) (b1 b2 b3 : Nat → Bool) : Nat × Nat :=
  if 32 < n then (32, 2) else
  match fstB b1 n with
  | some i => (i, 2)
  | none => match fstB b2 n with
    | some i => (i, 2)
    | none => match fstB b3 n with
      | some i => (i, 2)
      | none => (0, 0)
/-- Structs whose fields are as they must be. -/
def Fine (ss : List (List Ty)) : Prop := ∀ (i : Nat) (fs : List Ty), ss[i]? = some fs → 1 ≤ fs.length ∧ fs.length ≤ 8 ∧ ∀ t ∈ fs, PlainT ss.length t
theorem Fine.at {ss : List (List Ty)} (h : Fine ss) {i : Nat} {t : Ty} (ht : t ∈ fld ss i) : PlainT ss.length t := by
  unfold fld at ht
  cases hi : ss[i]? with
  | none => rw [hi] at ht; cases ht
  | some fs => rw [hi] at ht; exact (h i fs hi).2.2 t ht
/-- A type that a field may have, and what it is. -/
theorem PlainT.sub {n : Nat} {t : Ty} (h : PlainT n t) {j : Nat} (hj : subT t = some j) : j < n ∧ t = (Ch.leaf 5 (j : Int)).ty := by
  obtain ⟨c, rfl, h1, h2, h3⟩ := h
  cases c with
  | leaf k s =>
    simp only [Ch.ty, subT] at hj
    split at hj
    · rename_i hk
      subst hk
      cases hj
      rcases h1 with ⟨h1, -⟩ | ⟨-, h1, h4⟩
      · omega
      · refine ⟨by omega, ?_⟩
        rw [show ((s.toNat : Nat) : Int) = s by omega]
    · cases hj
  | box c => simp [Ch.ty, subT] at hj
  | ref m r c => simp [Ch.ty, subT] at hj
theorem Fine.lt {ss : List (List Ty)} (h : Fine ss) : ∀ i j, Stp ss i j → j < ss.length := fun i j ⟨t, ht, hj⟩ => ((h.at ht).sub hj).1
theorem PlainT.kind {n : Nat} {t : Ty} (h : PlainT n t) : (∃ j : Nat, j < n ∧ subT t = some j ∧ boxT t = false ∧ t = (Ch.leaf 5 (j : Int)).ty) ∨ subT t = none ∧ ∃ c : Ch, t = c.ty ∧ c.regs = [] ∧ ((∃ k s, c = .leaf k s ∧ (k = 1 ∨ k = 2) ∧ boxT t = false) ∨ ∃ d, c = .box d ∧ boxT t = true) := by
  obtain ⟨c, rfl, h1, h2, h3⟩ := h
  cases c with
  | leaf k s =>
    rcases h1 with ⟨h1, -⟩ | ⟨rfl, h1, h4⟩
    · refine .inr ⟨?_, _, rfl, h3, .inl ⟨k, s, rfl, h1, ?_⟩⟩
      · simp only [Ch.ty, subT]; rw [if_neg (by omega)]
      · simp only [Ch.ty, boxT]; exact decide_eq_false (by omega)
    · refine .inl ⟨s.toNat, by omega, rfl, rfl, ?_⟩
      rw [show ((s.toNat : Nat) : Int) = s by omega]
  | box c => exact .inr ⟨rfl, _, rfl, h3, .inr ⟨c, rfl, rfl⟩⟩
  | ref m r c => simp [Ch.regs] at h3
end Go.Proofs.YtjchbclkdbojpaaDoor
