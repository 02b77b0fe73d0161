import Derived.Test.YtpnamkpoapcgeaaDoorLf
import Derived.Lib.Split
import Derived.Lib.SplitLaws
import Derived.Lib.IndexBytes
namespace Go.Proofs.YtpnamkpoapcgeaaDoor
open Go.RowKit Go.Shelf
set_option linter.unusedVariables false
set_option linter.unusedSimpArgs false

/-- A byte in front of the first of the lines. -/
def consH (c : UInt8) : List (List UInt8) → List (List UInt8)
  | [] => [[c]]
  | h :: t => (c :: h) :: t
/-- What stands between the bytes 10. -/
def lns : List UInt8 → List (List UInt8)
  | [] => [[]]
  | c :: r => if c = 10 then [] :: lns r else consH c (lns r)
theorem lns_none : ∀ (l : List UInt8), Lib.indexByte l 10 = -1 → lns l = [l]
  | [], _ => rfl
  | c :: r, h => by
    unfold Lib.indexByte at h
    by_cases hc : c = 10
    · subst hc
      simp at h
    · have hb : (c == 10) = false := by simpa using hc
      rw [hb, if_neg (by simp)] at h
      have h0 := Lib.indexByte_ge r 10
      have hr : Lib.indexByte r 10 = -1 := by
        split at h
        · rename_i e; simpa using e
        · omega
      unfold lns
      rw [if_neg hc, lns_none r hr]
      rfl
theorem lns_at : ∀ (l : List UInt8) (i : Nat), Lib.indexByte l 10 = i → lns l = l.take i :: lns (l.drop (i + 1))
  | [], i, h => by unfold Lib.indexByte at h; omega
  | c :: r, i, h => by
    unfold Lib.indexByte at h
    by_cases hc : c = 10
    · subst hc
      simp at h
      have : i = 0 := by omega
      subst this
      rfl
    · have hb : (c == 10) = false := by simpa using hc
      rw [hb, if_neg (by simp)] at h
      have h0 := Lib.indexByte_ge r 10
      split at h
      · omega
      · rename_i e
        have e' : Lib.indexByte r 10 ≠ -1 := by simpa using e
        obtain ⟨j, hj⟩ := Int.eq_ofNat_of_zero_le (show 0 ≤ Lib.indexByte r 10 by omega)
        have hi : i = j + 1 := by omega
        subst hi
        have hu : lns (c :: r) = consH c (lns r) := by rw [lns, if_neg hc]
        rw [hu, lns_at r j hj]
        rfl
theorem index_ten (l : List UInt8) : Lib.index l [10] = Lib.indexByte l 10 := Lib.one (str l) ⟨#[10]⟩ rfl
theorem split_lns : ∀ (n : Nat) (l : List UInt8), l.length ≤ n → Lib.splitK [10] 0 (Lib.count l [10]) l = lns l
  | n, l, hn => by
    by_cases h : Lib.index l [10] = -1
    · rw [Lib.count_miss h]
      rw [index_ten] at h
      rw [lns_none l h]
      rfl
    · have hi := index_ten l
      have hg := Lib.indexByte_ge l 10
      obtain ⟨i, he⟩ := Int.eq_ofNat_of_zero_le (show 0 ≤ Lib.index l [10] by omega)
      rw [Lib.count_hit (by simp) he, Nat.add_comm, Lib.splitK, if_neg (by simpa using h), he, lns_at l i (by omega)]
      cases n with
      | zero =>
        have : l = [] := List.length_eq_zero_iff.1 (by omega)
        subst this
        unfold Lib.indexByte at hi
        omega
      | succ n =>
        have hl : l ≠ [] := by rintro rfl; unfold Lib.indexByte at hi; omega
        have := split_lns n (l.drop (i + 1)) (by have := List.length_pos_iff.2 hl; rw [List.length_drop]; omega)
        simp only [Int.toNat_natCast, Nat.add_zero, List.length_singleton]
        show l.take i :: Lib.splitK [10] 0 (Lib.count (l.drop (i + 1)) [10]) (l.drop (i + 1)) = _
        rw [this]
theorem splitB_str (S : List UInt8) : Lib.splitB ⟨#[10]⟩ 0 (Lib.countB (str S) ⟨#[10]⟩) (str S) = (lns S).map str := by
  have h := Lib.splitB_data ⟨#[10]⟩ 0 (Lib.countB (str S) ⟨#[10]⟩) (str S)
  have h2 : ∀ l : List ByteArray, (l.map (·.data.toList)).map str = l := fun l => by
    rw [List.map_map]
    conv => rhs; rw [← List.map_id l]
    apply List.map_congr_left
    intro x _
    rfl
  rw [← h2 (Lib.splitB _ _ _ _), h]
  exact congrArg _ (split_lns S.length S (Nat.le_refl _))
theorem countB_str (S : List UInt8) : Lib.countB (str S) ⟨#[10]⟩ + 1 = (lns S).length := by
  rw [← Lib.splitB_all ⟨#[10]⟩ (by decide) 0 _ (str S) rfl, splitB_str, List.length_map]
theorem lns_sum : ∀ l : List UInt8, ∀ q ∈ lns l, q.length ≤ l.length
  | [], q, h => by simp [lns] at h; simp [h]
  | c :: r, q, h => by
    have ih := lns_sum r
    unfold lns at h
    split at h
    · rcases List.mem_cons.1 h with h | h
      · simp [h]
      · have := ih q h; simp; omega
    · cases hr : lns r with
      | nil => rw [hr] at h; simp [consH] at h; simp [h]
      | cons a t =>
        rw [hr] at h
        unfold consH at h
        rcases List.mem_cons.1 h with h | h
        · have := ih a (by rw [hr]; simp); rw [h]; simp; omega
        · have := ih q (by rw [hr]; simp [h]); simp; omega
theorem lns_len : ∀ l : List UInt8, (lns l).length ≤ l.length + 1
  | [] => by simp [lns]
  | c :: r => by
    have ih := lns_len r
    unfold lns
    split
    · simp; omega
    · cases hr : lns r with
      | nil => simp [consH]
      | cons a t => rw [hr] at ih; simp [consH] at ih ⊢; omega
/-- Strings in a row of their own. -/
abbrev SCells (ls : List (List UInt8)) : Array Value := (ls.map (fun l => Value.string (str l))).toArray
def SRow (w : World) (b : Nat) (ls : List (List UInt8)) : Prop := At w b (.cells (SCells ls) 9 (0, 0))
theorem SRow.cell {w : World} {b : Nat} {ls : List (List UInt8)} (h : SRow w b ls) {i : Nat} {l : List UInt8} (hl : ls[i]? = some l) : w.cell? ⟨b, i, none⟩ = some (.string (str l)) ∧ w.frozen? ⟨b, i, none⟩ = false := by
  refine ⟨?_, Lib.frozen_of_heap h i⟩
  rw [cell_of_row w b i _ 9 (0, 0) h]
  simp [SCells, hl]
theorem SRow.below {w w' : World} {b : Nat} {ls : List (List UInt8)} (h : SRow w b ls) (hb : Below w.heap.size w w') : SRow w' b ls := At.below h hb
theorem SRow.set {w : World} {b : Nat} {ls : List (List UInt8)} (h : SRow w b ls) {i : Nat} {l : List UInt8} (hl : ls[i]? = some l) : SRow (w.setCell ⟨b, i, none⟩ (.string (str l))) b ls := by
  have hlt := At.lt h
  have h' : w.heap[b] = .cells (SCells ls) 9 (0, 0) := by
    have : w.heap[b]? = some (.cells (SCells ls) 9 (0, 0)) := h
    simpa [Array.getElem?_eq_getElem hlt] using this
  show (w.heap.modify b _)[b]? = _
  rw [Array.getElem?_eq_getElem (by simpa using hlt), Array.getElem_modify_self, h']
  have : (SCells ls).setIfInBounds i (.string (str l)) = SCells ls := by
    apply Array.ext
    · simp
    · intro j h1 h2
      rw [Array.getElem_setIfInBounds]
      split
      · rename_i e
        subst e
        obtain ⟨hi, e⟩ := List.getElem?_eq_some_iff.1 hl
        simp [SCells, e]
      · rfl
  simp [this]
end Go.Proofs.YtpnamkpoapcgeaaDoor
