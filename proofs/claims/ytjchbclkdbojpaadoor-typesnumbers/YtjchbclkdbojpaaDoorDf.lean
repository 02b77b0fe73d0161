import Derived.Test.YtjchbclkdbojpaaDoorDe
import Derived.Test.YtjchbclkdbojpaaDoorN
namespace Go.Proofs.YtjchbclkdbojpaaDoor
open Go.RowKit
set_option linter.unusedVariables false
set_option linter.unusedSimpArgs false

/-- An array of 32 in memory. -/
def arr (v : Nat → Value) : Array Value := ((List.range 32).map v).toArray
theorem arr_size (v : Nat → Value) : (arr v).size = 32 := by simp [arr]
theorem arr_at (v : Nat → Value) {j : Nat} (h : j < 32) : (arr v)[j]? = some (v j) := by simp [arr, h]
def upd {α : Type} (v : Nat → α) (j : Nat) (x : α) : Nat → α := fun i => if i = j then x else v i
theorem upd_same {α : Type} (v : Nat → α) (j : Nat) (x : α) : upd v j x j = x := by simp [upd]
theorem upd_other {α : Type} (v : Nat → α) {i j : Nat} (x : α) (h : i ≠ j) : upd v j x i = v i := by simp [upd, h]
theorem arr_set (v : Nat → Value) (j : Nat) (x : Value) : (arr v).setIfInBounds j x = arr (upd v j x) := by
  apply Array.ext_getElem?
  intro i
  by_cases hi : i < 32
  · rw [arr_at _ hi]
    by_cases e : i = j
    · subst e
      rw [upd_same]
      simp [arr_size, hi]
    · rw [upd_other _ _ e, Array.getElem?_setIfInBounds_ne (by omega), arr_at _ hi]
  · rw [Array.getElem?_eq_none (by rw [Array.size_setIfInBounds, arr_size]; omega), Array.getElem?_eq_none (by rw [arr_size]; omega)]
abbrev Arr (w : World) (b t : Nat) (v : Nat → Value) : Prop := At w b (.cells (arr v) t (0, 0))
theorem At.arrc {w : World} {b t : Nat} {v : Nat → Value} (h : Arr w b t v) {j : Nat} (hj : j < 32) : w.cell? ⟨b, j, none⟩ = some (v j) := by
  unfold Arr At at h
  simp only [World.cell?, h]
  simpa using arr_at v hj
theorem At.arrf {w : World} {b t : Nat} {v : Nat → Value} (h : Arr w b t v) (j : Nat) : w.frozen? ⟨b, j, none⟩ = false := frozen_of_row w b j _ t h
theorem At.arrs {w : World} {b t : Nat} {v : Nat → Value} (h : Arr w b t v) (j : Nat) (x : Value) : Arr (w.setCell ⟨b, j, none⟩ x) b t (upd v j x) := by
  have := heap_setCell_same w b j (arr v) t x h
  rw [arr_set] at this
  exact this
abbrev bV (M : Nat → Bool) : Nat → Value := fun i => .bool (M i)
theorem bV_upd (M : Nat → Bool) (j : Nat) (x : Bool) : upd (bV M) j (.bool x) = bV (upd M j x) := by
  funext i
  by_cases e : i = j <;> simp [upd, bV, e]
/-- How many are not marked yet. -/
def left (M : Nat → Bool) : Nat := ((List.range 32).filter fun j => !M j).length
theorem left_lt {M : Nat → Bool} {j : Nat} (hj : j < 32) (h : M j = false) : left (upd M j true) < left M := by
  refine filter_lt (x := j) (fun i _ hi => ?_) (by simpa using hj) (by simp [h]) (by simp [upd])
  by_cases e : i = j
  · subst e; simp [upd] at hi
  · simpa [upd, e] using hi
theorem left_le {M M' : Nat → Bool} (h : ∀ j, M j = true → M' j = true) : left M' ≤ left M := by
  unfold left
  rw [← List.countP_eq_length_filter, ← List.countP_eq_length_filter]
  refine List.countP_mono_left fun i _ hi => ?_
  cases hm : M i with
  | false => rfl
  | true => rw [h i hm] at hi; cases hi
/-- What marking all within i does. -/
structure MP (ss : List (List Ty)) (i : Nat) (M M' : Nat → Bool) : Prop where
  mono : ∀ j, M j = true → M' j = true
  from' : ∀ j, M' j = true → M j = false → Stn ss i j
  step : ∀ j, Stp ss i j → M' j = true
  clos : ∀ j, M' j = true → M j = false → ∀ k, Stp ss j k → M' k = true
/-- .. as far as the first k fields. -/
structure MK (ss : List (List Ty)) (i k : Nat) (M M' : Nat → Bool) : Prop where
  mono : ∀ j, M j = true → M' j = true
  from' : ∀ j, M' j = true → M j = false → Stn ss i j
  step : ∀ t ∈ (fld ss i).take k, ∀ j, subT t = some j → M' j = true
  clos : ∀ j, M' j = true → M j = false → ∀ k, Stp ss j k → M' k = true
theorem MK.init (ss : List (List Ty)) (i : Nat) (M : Nat → Bool) : MK ss i 0 M M := ⟨fun _ h => h, fun j h h' => (by rw [h] at h'; cases h'), fun t ht => (by cases ht), fun j h h' => (by rw [h] at h'; cases h')⟩
theorem MK.skip {ss : List (List Ty)} {i k : Nat} {M M' : Nat → Bool} (h : MK ss i k M M') {t : Ty} (ht : (fld ss i)[k]? = some t) (hj : ∀ j, subT t = some j → M' j = true) : MK ss i (k + 1) M M' := by
  refine ⟨h.mono, h.from', fun u hu j hs => ?_, h.clos⟩
  rw [List.take_add_one, ht] at hu
  rcases List.mem_append.1 hu with hu | hu
  · exact h.step u hu j hs
  · simp at hu
    subst hu
    exact hj j hs
theorem MK.into {ss : List (List Ty)} {i k j : Nat} {M M' M'' : Nat → Bool} (h : MK ss i k M M') {t : Ty} (ht : (fld ss i)[k]? = some t) (hj : subT t = some j) (hm : M' j = false) (hp : MP ss j (upd M' j true) M'') : MK ss i (k + 1) M M'' := by
  have hst : Stp ss i j := ⟨t, List.mem_of_getElem? ht, hj⟩
  have up : ∀ x, M' x = true → M'' x = true := fun x hx => hp.mono x (by by_cases e : x = j <;> simp [upd, e, hx])
  have jm : M'' j = true := hp.mono j (by simp [upd])
  refine ⟨fun x hx => up x (h.mono x hx), fun x hx h0 => ?_, fun u hu l hs => ?_, fun x hx h0 l hl => ?_⟩
  · by_cases e : x = j
    · subst e; exact .one hst
    · cases hx' : M' x with
      | true => exact h.from' x hx' h0
      | false => exact .more hst (hp.from' x hx (by simp [upd, e, hx']))
  · rw [List.take_add_one, ht] at hu
    rcases List.mem_append.1 hu with hu | hu
    · exact up l (h.step u hu l hs)
    · simp at hu
      subst hu
      rw [hj] at hs
      cases hs
      exact jm
  · by_cases e : x = j
    · subst e; exact hp.step l hl
    · cases hx' : M' x with
      | true => exact up l (h.clos x hx' h0 l hl)
      | false => exact hp.clos x hx (by simp [upd, e, hx']) l hl
theorem MK.all {ss : List (List Ty)} {i k : Nat} {M M' : Nat → Bool} (h : MK ss i k M M') (hk : (fld ss i).length ≤ k) : MP ss i M M' :=
  ⟨h.mono, h.from', fun j ⟨t, ht, hj⟩ => h.step t (by rw [List.take_of_length_le hk]; exact ht) j hj, h.clos⟩
/-- Marked from nothing on: just what stands in it. -/
theorem MP.iff {ss : List (List Ty)} {i : Nat} {M : Nat → Bool} (h : MP ss i (fun _ => false) M) (j : Nat) : M j = true ↔ Stn ss i j :=
  ⟨fun hj => h.from' j hj rfl, fun hr => Stn.closed (M := fun j => M j = true) h.step (fun a b ha hb => h.clos a ha rfl b hb) hr⟩
end Go.Proofs.YtjchbclkdbojpaaDoor
