import Derived.Test.YtpnamkpoapcgeaaDoorB
import Derived.Test.YtpnamkpoapcgeaaDoorM
import Derived.Test.YtpnamkpoapcgeaaDoorShelf
import Derived.Scope
namespace Go.Proofs.YtpnamkpoapcgeaaDoor
open Go.RowKit
set_option linter.unusedVariables false
set_option linter.unusedSimpArgs false

/-- Bytes as a string. -/
def str (l : List UInt8) : ByteArray := ⟨l.toArray⟩
theorem str_data (l : List UInt8) : (str l).data.toList = l := rfl
theorem str_list (l : List UInt8) : (str l).toList = l := by rw [Go.ByteArray.toList_eq]; rfl
theorem str_size (l : List UInt8) : (str l).size = l.length := rfl
theorem hasP (s : ByteArray) (p : List UInt8) (w : World) {b : Bool} (h : p.isPrefixOf s.data.toList = b) : Calls Tryd.prog 88 #[.string s, .string (str p)] w fun e w' => e = .returned (.bool b) ∧ w' = w := by
  have := Tryd.strings_HasPrefix s (str p) w
  rw [str_data] at this
  unfold Lib.hasPrefix at this
  rw [h] at this
  exact this
def twoVals : List Value := twos.map (fun l => .string (str l))
def oneVals : List Value := ones.map (fun l => .string (str l))
theorem two_cell {W : World} {g : Nat} (h : W.heap[g]? = some (.cells twoVals.toArray 9 (0, 0))) {j : Nat} (hj : j < 7) : W.cell? ⟨g, j, none⟩ = some (.string (str (twos.getD j []))) := by
  have hc : W.cell? ⟨g, j, none⟩ = twoVals.toArray[j]? := by unfold World.cell?; rw [h]; rfl
  have hl : j < twos.length := hj
  rw [hc]
  simp [twoVals, List.getElem?_eq_getElem hl, List.getD_eq_getElem?_getD]
theorem one_cell {W : World} {g : Nat} (h : W.heap[g]? = some (.cells oneVals.toArray 9 (0, 0))) {j : Nat} (hj : j < 18) : W.cell? ⟨g, j, none⟩ = some (.string (str (ones.getD j []))) := by
  have hc : W.cell? ⟨g, j, none⟩ = oneVals.toArray[j]? := by unfold World.cell?; rw [h]; rfl
  have hl : j < ones.length := hj
  rw [hc]
  simp [oneVals, List.getElem?_eq_getElem hl, List.getD_eq_getElem?_getD]
theorem heap_kept {W : World} {g : Nat} {o o' : Obj} (h : W.heap[g]? = some o) : (W.alloc o').heap[g]? = some o := (Below.heap_alloc W o' g (lt_of_block h)).trans h
theorem pair_cell0 {w : World} {o1 o2 : Obj} {a b : Value} {t : Nat} : (((w.alloc o1).alloc o2).alloc (.cells #[a, b] t)).cell? ⟨w.heap.size + 1 + 1, 0, none⟩ = some a := by
  have h := heap_alloc_new ((w.alloc o1).alloc o2) (.cells #[a, b] t)
  simp only [World.size_alloc] at h
  unfold World.cell?; rw [h]; rfl
theorem pair_cell1 {w : World} {o1 o2 : Obj} {a b : Value} {t : Nat} : (((w.alloc o1).alloc o2).alloc (.cells #[a, b] t)).cell? ⟨w.heap.size + 1 + 1, 1, none⟩ = some b := by
  have h := heap_alloc_new ((w.alloc o1).alloc o2) (.cells #[a, b] t)
  simp only [World.size_alloc] at h
  unfold World.cell?; rw [h]; rfl
theorem index0 (a b : Value) (W : World) : (Instr.index 121 (.agg #[a, b]) (.int .i64 0)).run Tryd.prog W = .ok a W := by kernel_rfl
theorem index1 (a b : Value) (W : World) : (Instr.index 121 (.agg #[a, b]) (.int .i64 1)).run Tryd.prog W = .ok b W := by kernel_rfl
set_option maxRecDepth 100000 in
set_option maxHeartbeats 1000000 in
theorem longestSign_any (s : ByteArray) (w : World) : Calls Tryd.prog 84 #[.string s] w fun e w' => e = .returned (.string (str (sg s.data.toList))) ∧ Below w.heap.size w w' := by
  go_enter Tryd.func84, Tryd.ntmps84
  go_wp2
  refine wp_scope_straight ?_
  go_wp2
  refine wp_label ?_
  generalize hW : World.alloc _ _ = W
  have h2 : W.heap[w.heap.size]? = some (.cells twoVals.toArray 9 (0, 0)) := by
    rw [← hW]; exact heap_kept (heap_kept (heap_alloc_new w (.cells twoVals.toArray 9 (0, 0))))
  have h1 : W.heap[w.heap.size + 1]? = some (.cells oneVals.toArray 9 (0, 0)) := by
    rw [← hW]
    have := heap_alloc_new (w.alloc (.cells twoVals.toArray 9 (0, 0))) (.cells oneVals.toArray 9 (0, 0))
    rw [World.size_alloc] at this
    exact heap_kept this
  have hB : Below w.heap.size w W := by rw [← hW]; exact (((Below.refl _ _).alloc (Nat.le_refl _) _).alloc (by simp) _).alloc (by simp; omega) _
  have hc0 : W.cell? ⟨w.heap.size + 1 + 1, 0, none⟩ = some (.slice (some ⟨w.heap.size, 0, none⟩) 7 7) := by rw [← hW]; exact pair_cell0
  have hc1 : W.cell? ⟨w.heap.size + 1 + 1, 1, none⟩ = some (.slice (some ⟨w.heap.size + 1, 0, none⟩) 18 18) := by rw [← hW]; exact pair_cell1
  clear hW
  have H2 : Hid (∀ j, j < 7 → W.cell? ⟨w.heap.size, j, none⟩ = some (.string (str (twos.getD j [])))) := fun j hj => two_cell h2 hj
  have H1 : Hid (∀ j, j < 18 → W.cell? ⟨w.heap.size + 1, j, none⟩ = some (.string (str (ones.getD j [])))) := fun j hj => one_cell h1 hj
  clear h1 h2
  have hi0 := index0 (.slice (some ⟨w.heap.size, 0, none⟩) 7 7) (.slice (some ⟨w.heap.size + 1, 0, none⟩) 18 18)
  have hi1 := index1 (.slice (some ⟨w.heap.size, 0, none⟩) 7 7) (.slice (some ⟨w.heap.size + 1, 0, none⟩) 18 18)
  go_wp2
  refine wp_loop_rounds 3 ?_
  rw [rounds_succ]
  go_wp2
  go_loop [4, 18] (fun f i => ∃ k : Nat, k ≤ 7 ∧ f = .string ⟨#[]⟩ ∧ i = .int .i64 k ∧ Hid (∀ j, j < k → (twos.getD j []).isPrefixOf s.data.toList = false)) (fun _ i => 7 - (intOf i).toNat)
  case atStart => exact ⟨0, Nat.zero_le _, rfl, rfl, fun j hj => absurd hj (Nat.not_lt_zero _)⟩
  case round =>
  obtain ⟨k, hk, rfl, rfl, hn⟩ := hrel
  by_cases hlt : k < 7
  · have hc := H2.out k hlt
    have g1 : (k : Int) < 7 := by omega
    have g0 : (0 : Int) ≤ (k : Int) := by omega
    obtain ⟨p, hp⟩ : ∃ p, p = twos.getD k [] := ⟨_, rfl⟩
    rw [← hp] at hc
    cases he : p.isPrefixOf s.data.toList
    · have HP := hasP s p W he
      have HN : Hid (∀ j, j < k + 1 → (twos.getD j []).isPrefixOf s.data.toList = false) := fun j hj => by
        rcases Nat.lt_or_ge j k with h | h
        · exact hn.out j h
        · obtain rfl : j = k := by omega
          rw [← hp]; exact he
      clear hp he hn
      go_wp2_with (go_at_call 88; refine HP.mono ?_; rintro e w' ⟨rfl, rfl⟩)
      go_round
      case rel => exact ⟨k + 1, by omega, rfl, by go_num, HN⟩
      case measure => simp [intOf]; omega
    · have HP := hasP s p W he
      have HS : Hid (sg s.data.toList = p) := by show _ = _; rw [hp] at he ⊢; exact sg_two hlt hn.out he
      clear hp he hn
      go_wp2_with (go_at_call 88; refine HP.mono ?_; rintro e w' ⟨rfl, rfl⟩)
      simp only [Exit.noGoto]
      go_ret
      exact ⟨by rw [HS.out]; rfl, hB⟩
  · have hk9 : k = 7 := by omega
    subst hk9
    have HT : Hid (∀ j, j < 7 → (twos.getD j []).isPrefixOf s.data.toList = false) := hn
    clear hn
    go_wp2
    rw [rounds_succ]
    go_wp2
    go_loop [4, 18] (fun f i => ∃ k : Nat, k ≤ 18 ∧ f = .string ⟨#[]⟩ ∧ i = .int .i64 k ∧ Hid (∀ j, j < k → (ones.getD j []).isPrefixOf s.data.toList = false)) (fun _ i => 18 - (intOf i).toNat)
    case atStart => exact ⟨0, Nat.zero_le _, rfl, rfl, fun j hj => absurd hj (Nat.not_lt_zero _)⟩
    case round =>
    obtain ⟨k, hk, rfl, rfl, hn⟩ := hrel
    by_cases hlt : k < 18
    · have hc := H1.out k hlt
      have g1 : (k : Int) < 18 := by omega
      have g0 : (0 : Int) ≤ (k : Int) := by omega
      obtain ⟨p, hp⟩ : ∃ p, p = ones.getD k [] := ⟨_, rfl⟩
      rw [← hp] at hc
      cases he : p.isPrefixOf s.data.toList
      · have HP := hasP s p W he
        have HN : Hid (∀ j, j < k + 1 → (ones.getD j []).isPrefixOf s.data.toList = false) := fun j hj => by
          rcases Nat.lt_or_ge j k with h | h
          · exact hn.out j h
          · obtain rfl : j = k := by omega
            rw [← hp]; exact he
        clear hp he hn
        go_wp2_with (go_at_call 88; refine HP.mono ?_; rintro e w' ⟨rfl, rfl⟩)
        go_round
        case rel => exact ⟨k + 1, by omega, rfl, by go_num, HN⟩
        case measure => simp [intOf]; omega
      · have HP := hasP s p W he
        have HS : Hid (sg s.data.toList = p) := by show _ = _; rw [hp] at he ⊢; exact sg_one HT.out hlt hn.out he
        clear hp he hn
        go_wp2_with (go_at_call 88; refine HP.mono ?_; rintro e w' ⟨rfl, rfl⟩)
        simp only [Exit.noGoto]
        go_ret
        exact ⟨by rw [HS.out]; rfl, hB⟩
    · have hk9 : k = 18 := by omega
      subst hk9
      have HS : Hid (sg s.data.toList = []) := sg_none HT.out hn.out
      clear hn
      go_wp2
      rw [rounds_succ]
      go_wp2
      simp only [Exit.noGoto]
      go_ret
      exact ⟨by rw [HS.out]; rfl, hB⟩
end Go.Proofs.YtpnamkpoapcgeaaDoor
