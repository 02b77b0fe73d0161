import Derived.Lib.Bytealg
import Derived.Laws.Strings
namespace Go.Proofs.YtpnamkpoapcgeaaDoor
set_option linter.unusedVariables false
set_option linter.unusedSimpArgs false

/-- The signs of two bytes, and of one. -/
def twos : List (List UInt8) := [[45, 62], [61, 61], [33, 61], [60, 61], [62, 61], [38, 38], [124, 124]]
def ones : List (List UInt8) := [[123], [125], [40], [41], [60], [62], [44], [59], [58], [46], [38], [42], [33], [61], [43], [45], [47], [37]]
/-- The longest sign that begins a text; none: nothing. -/
def sg (l : List UInt8) : List UInt8 := match twos.find? (fun p => p.isPrefixOf l) with
  | some p => p
  | none => match ones.find? (fun p => p.isPrefixOf l) with
    | some p => p
    | none => []
theorem find_take {α : Type} (p : α → Bool) (d : α) : ∀ (l : List α) (k : Nat), k < l.length → (∀ j, j < k → p (l.getD j d) = false) → p (l.getD k d) = true → l.find? p = some (l.getD k d)
  | [], k, h, _, _ => absurd h (Nat.not_lt_zero _)
  | a :: r, 0, _, _, h => by simp at h; simp [List.find?, h]
  | a :: r, k + 1, hk, hn, h => by
    have h0 := hn 0 (by omega)
    simp at h0
    have := find_take p d r k (by simpa using hk) (fun j hj => by have := hn (j + 1) (by omega); simpa using this) (by simpa using h)
    simp [List.find?, h0]
    simpa using this
theorem find_no {α : Type} (p : α → Bool) (d : α) (l : List α) (h : ∀ j, j < l.length → p (l.getD j d) = false) : l.find? p = none := by
  rw [List.find?_eq_none]
  intro x hx
  obtain ⟨j, hj, rfl⟩ := List.getElem_of_mem hx
  have := h j hj
  rw [List.getD_eq_getElem?_getD, List.getElem?_eq_getElem hj, Option.getD_some] at this
  simp [this]
theorem sg_two {l : List UInt8} {k : Nat} (hk : k < 7) (hn : ∀ j, j < k → (twos.getD j []).isPrefixOf l = false) (h : (twos.getD k []).isPrefixOf l = true) : sg l = twos.getD k [] := by
  unfold sg
  rw [find_take (fun p : List UInt8 => p.isPrefixOf l) [] twos k hk hn h]
theorem sg_one {l : List UInt8} {k : Nat} (h2 : ∀ j, j < 7 → (twos.getD j []).isPrefixOf l = false) (hk : k < 18) (hn : ∀ j, j < k → (ones.getD j []).isPrefixOf l = false) (h : (ones.getD k []).isPrefixOf l = true) : sg l = ones.getD k [] := by
  unfold sg
  rw [find_no (fun p : List UInt8 => p.isPrefixOf l) [] twos (fun j (hj : j < 7) => h2 j hj), find_take (fun p : List UInt8 => p.isPrefixOf l) [] ones k hk hn h]
theorem sg_none {l : List UInt8} (h2 : ∀ j, j < 7 → (twos.getD j []).isPrefixOf l = false) (h1 : ∀ j, j < 18 → (ones.getD j []).isPrefixOf l = false) : sg l = [] := by
  unfold sg
  rw [find_no (fun p : List UInt8 => p.isPrefixOf l) [] twos (fun j (hj : j < 7) => h2 j hj), find_no (fun p : List UInt8 => p.isPrefixOf l) [] ones (fun j (hj : j < 18) => h1 j hj)]
end Go.Proofs.YtpnamkpoapcgeaaDoor
