import Derived.Test.YtahdnfogdnondaaGreatDoorV
import Derived.Test.YtahdnfogdnondaaGreatDoorClone
import Derived.Deep.RegionHeld3
import Derived.Test.YtahdnfogdnondaaGreatDoorL
namespace Go.Proofs.YtahdnfogdnondaaGreatDoor
open Go.RowKit
set_option linter.unusedVariables false
set_option linter.unusedSimpArgs false

/-- What a node's first four cells are; a row of its own for its children. -/
def NCur (cur : Array Value) (i : Nat) (x : Nx) (v : Value) : Prop := cur[i * 5]? = some (.int .u8 (x.k : Int)) ∧ cur[i * 5 + 1]? = some (.int .i64 x.p) ∧ cur[i * 5 + 2]? = some (.int .i64 x.n) ∧ cur[i * 5 + 3]? = some (.string (str x.s)) ∧ cur[i * 5 + 4]? = some v
/-- The first k nodes lie in memory of one's own, all of it from lo on and below hi; the others have no children yet. -/
structure OC (W : World) (lo hi g n : Nat) (T : List Nd) (k : Nat) (cur : Array Value) : Prop where
  at_ : W.heap[g]? = some (.cells cur 44 (0, 0))
  size : cur.size = n * 5
  lg : lo ≤ g
  gh : g < hi
  nd : ∀ i d, i < k → T[i]? = some d → ∃ v, NCur cur i d.x v ∧ W.ownsRow lo 3 1 v d.l.length (iCells d.l) ∧ (∀ b, v.ownBlock = some b → b ≠ g ∧ b < hi)
  rest : ∀ i, k ≤ i → i < n → cur[i * 5 + 4]? = some (.slice none 0 0)
theorem OC.cell {W : World} {lo hi g n k : Nat} {T : List Nd} {cur : Array Value} (h : OC W lo hi g n T k cur) (o : Nat) : W.cell? ⟨g, o, none⟩ = cur[o]? := by
  have := h.at_
  simp [World.cell?, this]
theorem OC.free {W : World} {lo hi g n k : Nat} {T : List Nd} {cur : Array Value} (h : OC W lo hi g n T k cur) (o : Nat) : W.frozen? ⟨g, o, none⟩ = false := frozen_of_row W g o _ 44 h.at_
/-- Blocks below hi lie as they lay. -/
structure Keep (hi : Nat) (W W' : World) : Prop where
  size : W.heap.size ≤ W'.heap.size
  same : ∀ b, b < hi → W'.heap[b]? = W.heap[b]?
theorem Keep.refl (hi : Nat) (W : World) : Keep hi W W := ⟨Nat.le_refl _, fun _ _ => rfl⟩
theorem Keep.trans {hi : Nat} {A B C : World} (h : Keep hi A B) (k : Keep hi B C) : Keep hi A C := ⟨Nat.le_trans h.size k.size, fun b hb => (k.same b hb).trans (h.same b hb)⟩
theorem Keep.alloc (W : World) (o : Obj) {hi : Nat} (h : hi ≤ W.heap.size) : Keep hi W (W.alloc o) := ⟨by simp, fun b hb => Below.heap_alloc W o b (by omega)⟩
theorem Keep.below {W W' : World} (h : Below W.heap.size W W') {hi : Nat} (hh : hi ≤ W.heap.size) : Keep hi W W' := ⟨h.size, fun b hb => h.block b (by omega)⟩
theorem Keep.grown {W W' : World} {row : Option Nat} (h : W.grownBy W' row) {hi : Nat} (hh : hi ≤ W.heap.size) (hr : ∀ b, row = some b → hi ≤ b) : Keep hi W W' := ⟨h.size, fun b hb => h.block b (by omega) (fun e => by have := hr b e.symm; omega)⟩
theorem Keep.drew (hi : Nat) (W : World) : Keep hi W W.drew := ⟨Nat.le_refl _, fun _ _ => rfl⟩
theorem owns_keep {W W' : World} {lo hi n : Nat} {v : Value} {xs : List Value} (h : W.ownsRow lo 3 1 v n xs) (hb : ∀ b, v.ownBlock = some b → b < hi) (k : Keep hi W W') : W'.ownsRow lo 3 1 v n xs := by
  refine ⟨h.1, ?_⟩
  rcases h.2 with hn | ⟨g, cap, cur, rfl, h1, hg, rest⟩
  · exact .inl hn
  · exact .inr ⟨g, cap, cur, rfl, h1, (k.same g (hb g rfl)).trans hg, rest⟩
theorem OC.keep {W W' : World} {lo hi g n k : Nat} {T : List Nd} {cur : Array Value} (h : OC W lo hi g n T k cur) (hk : Keep hi W W') : OC W' lo hi g n T k cur :=
  ⟨(hk.same g h.gh).trans h.at_, h.size, h.lg, h.gh, fun i d hi' hd => by
    obtain ⟨v, h1, h2, h3⟩ := h.nd i d hi' hd
    exact ⟨v, h1, owns_keep h2 (fun b e => (h3 b e).2) hk, h3⟩, h.rest⟩
theorem OC.grow {W : World} {lo hi hi' g n k : Nat} {T : List Nd} {cur : Array Value} (h : OC W lo hi g n T k cur) (hh : hi ≤ hi') : OC W lo hi' g n T k cur :=
  ⟨h.at_, h.size, h.lg, Nat.lt_of_lt_of_le h.gh hh, fun i d hi' hd => by
    obtain ⟨v, h1, h2, h3⟩ := h.nd i d hi' hd
    exact ⟨v, h1, h2, fun b e => ⟨(h3 b e).1, Nat.lt_of_lt_of_le (h3 b e).2 hh⟩⟩, h.rest⟩
/-- A cell of the row, at the node that is being laid or behind, is written. -/
theorem OC.set {W : World} {lo hi g n k : Nat} {T : List Nd} {cur : Array Value} (h : OC W lo hi g n T k cur) (o : Nat) (ho : k * 5 ≤ o) (v : Value) (hv : ∀ i, k ≤ i → i * 5 + 4 = o → v = .slice none 0 0) : OC (W.setCell ⟨g, o, none⟩ v) lo hi g n T k (cur.setIfInBounds o v) := by
  refine ⟨heap_setCell_same W g o _ 44 v h.at_, by simpa using h.size, h.lg, h.gh, fun i d hi' hd => ?_, fun i h1 h2 => ?_⟩
  · obtain ⟨u, ⟨n0, n1, n2, n3, n4⟩, h2, h3⟩ := h.nd i d hi' hd
    have hne : ∀ j, j < 5 → (cur.setIfInBounds o v)[i * 5 + j]? = cur[i * 5 + j]? := fun j hj => Array.getElem?_setIfInBounds_ne (by omega)
    refine ⟨u, ⟨(hne 0 (by omega)).trans n0, (hne 1 (by omega)).trans n1, (hne 2 (by omega)).trans n2, (hne 3 (by omega)).trans n3, (hne 4 (by omega)).trans n4⟩, ?_, h3⟩
    exact World.ownsRow.kept h2 (grown_set (grown_refl W (some g)) o v) (by
      cases e : u.ownBlock with
      | none => exact .inl rfl
      | some b => exact .inr (fun e' => (h3 b e).1 (Option.some.inj e')))
  · by_cases e : i * 5 + 4 = o
    · subst e
      rw [hv i h1 rfl, Array.getElem?_setIfInBounds_self_of_lt (by have := h.size; omega)]
    · rw [Array.getElem?_setIfInBounds_ne (fun e' => e e'.symm)]
      exact h.rest i h1 h2
/-- The node that was being laid has been laid. -/
theorem OC.next {W : World} {lo hi g n k : Nat} {T : List Nd} {cur : Array Value} {d : Nd} {v : Value} (h : ∀ i, k + 1 ≤ i → i < n → cur[i * 5 + 4]? = some (.slice none 0 0)) (h0 : W.heap[g]? = some (.cells cur 44 (0, 0))) (hs : cur.size = n * 5) (hl : lo ≤ g) (hg : g < hi)
    (hn : ∀ i d, i < k → T[i]? = some d → ∃ v, NCur cur i d.x v ∧ W.ownsRow lo 3 1 v d.l.length (iCells d.l) ∧ (∀ b, v.ownBlock = some b → b ≠ g ∧ b < hi))
    (hd : T[k]? = some d) (hc : NCur cur k d.x v) (ho : W.ownsRow lo 3 1 v d.l.length (iCells d.l)) (hb : ∀ b, v.ownBlock = some b → b ≠ g ∧ b < hi) : OC W lo hi g n T (k + 1) cur := by
  refine ⟨h0, hs, hl, hg, fun i e hi' he => ?_, h⟩
  rcases Nat.lt_or_ge i k with h1 | h1
  · exact hn i e h1 he
  · obtain rfl : i = k := by omega
    rw [hd] at he
    cases he
    exact ⟨v, hc, ho, hb⟩
theorem owns_slice {W : World} {lo n : Nat} {v : Value} {l : List Int} (h : W.ownsRow lo 3 1 v l.length (iCells l)) : ∃ a cap, v = .slice a l.length cap ∧ IRow W a l := by
  rcases h.2 with ⟨rfl, h0⟩ | ⟨g, cap, cur, rfl, h1, hg, h2, h3, h4, h5⟩
  · rw [h0]; exact ⟨none, 0, rfl, fun hn => absurd (List.length_eq_zero_iff.1 h0) hn⟩
  · refine ⟨some ⟨g, 0, none⟩, cap, rfl, fun _ => ⟨g, 0, rfl, (Array.getElem?_eq_some_iff.1 hg).1, fun i c hi => ?_⟩⟩
    have hc : W.cell? ⟨g, 0 + i, none⟩ = cur[0 + i]? := by simp [World.cell?, hg]
    rw [hc, Nat.zero_add]
    have : (iCells l)[i]? = some (.int .i64 c) := by rw [iCells, List.getElem?_map, hi]; rfl
    rw [← h5, List.getElem?_take] at this
    split at this
    · simpa using this
    · cases this
/-- A tree in memory of one's own can be read. -/
theorem OC.tat {W : World} {lo hi g n : Nat} {T : List Nd} {cur : Array Value} (h : OC W lo hi g n T n cur) (hn : T.length = n) : TAt W (some ⟨g, 0, none⟩) T := fun _ => by
  refine ⟨g, 0, rfl, fun i d hd => ?_⟩
  have hi' := (List.getElem?_eq_some_iff.1 hd).1
  obtain ⟨v, ⟨n0, n1, n2, n3, n4⟩, h2, h3⟩ := h.nd i d (by omega) hd
  obtain ⟨a, cap, rfl, hr⟩ := owns_slice (n := n) h2
  rw [Nat.zero_add]
  exact ⟨(Array.getElem?_eq_some_iff.1 h.at_).1, (h.cell _).trans n0, (h.cell _).trans n1, (h.cell _).trans n2, (h.cell _).trans n3, a, cap, (h.cell _).trans n4, hr⟩
end Go.Proofs.YtahdnfogdnondaaGreatDoor
