import Derived.Test.YtpnamkpoapcgeaaDoorLi
namespace Go.Proofs.YtpnamkpoapcgeaaDoor
open Go.RowKit Go.Shelf
set_option linter.unusedVariables false
set_option linter.unusedSimpArgs false

theorem split_str (S : List UInt8) (w : World) (h : w.ShapedOpen Tryd.prog) (hS : S.length ≤ 65536) :
    Calls Tryd.prog 44 #[.string (str S), .string ⟨#[10]⟩] w fun e w' => e = .returned (.slice (some ⟨w.heap.size, 0, none⟩) (lns S).length (lns S).length) ∧ w' = w.alloc (.cells (SCells (lns S)) 9) := by
  refine (Tryd.strings_Split_shaped (str S) ⟨#[10]⟩ w h (by rw [str_size]; omega) (by decide)).mono ?_
  rintro e w' ⟨rfl, rfl⟩
  rw [splitB_str, countB_str]
  refine ⟨rfl, ?_⟩
  rw [List.map_map]
  rfl
set_option maxRecDepth 100000 in
theorem lines_long (S : List UInt8) (w : World) (hS : 65536 < S.length) (hm : S.length ≤ maxLen) :
    Calls Tryd.prog 25 #[.string (str S)] w fun e w' => e = .returned (.tuple #[.slice none 0 0, .int .i64 3]) ∧ w' = w := by
  have hsz := str_size S
  have hgt : (65536 : Int) < (S.length : Int) := by omega
  go_enter Tryd.func25, Tryd.ntmps25
  go_wp2
  go_ret2
  exact ⟨rfl, rfl⟩
set_option maxRecDepth 100000 in
set_option maxHeartbeats 2000000 in
theorem lines_ok (S : List UInt8) (w : World) (h : w.ShapedOpen Tryd.prog) (hS : S.length ≤ 65536) :
    Calls Tryd.prog 25 #[.string (str S)] w fun e w' => e = .returned (.tuple #[.slice (some ⟨w.heap.size, 0, none⟩) (lns S).length (lns S).length, .int .i64 0]) ∧ SRow w' w.heap.size (lns S) ∧ Below w.heap.size w w' := by
  have hsz := str_size S
  have hgt : ¬ (65536 : Int) < (S.length : Int) := by omega
  have HS : Hid (Calls Tryd.prog 44 #[.string (str S), .string ⟨#[10]⟩] w fun e w' => e = .returned (.slice (some ⟨w.heap.size, 0, none⟩) (lns S).length (lns S).length) ∧ w' = w.alloc (.cells (SCells (lns S)) 9)) := split_str S w h hS
  have hln := lns_len S
  have hle : ∀ q ∈ lns S, q.length ≤ 65536 := fun q hq => Nat.le_trans (lns_sum S q hq) hS
  have R0 : SRow (w.alloc (.cells (SCells (lns S)) 9)) w.heap.size (lns S) := At.new _ _
  have B0 : Below w.heap.size w (w.alloc (.cells (SCells (lns S)) 9)) := belA (Below.refl _ _)
  generalize lns S = L at *
  have HCl : Hid (∀ W (q : List UInt8), q.length ≤ 65536 → Calls Tryd.prog 33 #[.string (str q)] W fun e w' => e = .returned (.string (str q)) ∧ Below W.heap.size W w') := fun W q h => clone_any (str q) W (by rw [str_size]; omega)
  go_enter Tryd.func25, Tryd.ntmps25
  go_wp2_with (first | (go_at_call 44; refine HS.out.mono ?_; rintro e w1 ⟨rfl, rfl⟩))
  go_loopw [14] (fun i W => ∃ k : Nat, k ≤ L.length ∧ i = .int .i64 k ∧ SRow W w.heap.size L ∧ Below w.heap.size w W) (fun i _ => L.length - (intOf i).toNat)
  case atStart => exact ⟨0, Nat.zero_le _, rfl, R0, B0⟩
  case round =>
    obtain ⟨k, hk, rfl, hR, hB⟩ := hrel
    by_cases hlt : k < L.length
    · obtain ⟨q, hq⟩ : ∃ q, L[k]? = some q := ⟨_, List.getElem?_eq_getElem hlt⟩
      have hql := hle q (List.mem_of_getElem? hq)
      have g1 : (0 : Int) ≤ (k : Int) := by omega
      have g2 : (k : Int) < (L.length : Int) := by omega
      have w3 : IntKind.i64.wrap ((k : Int) + 1) = (k : Int) + 1 := by rw [IntKind.wrap_i64]; omega
      obtain ⟨c0, f0⟩ := hR.cell hq
      go_wp2_with (first | (go_at_call 33; refine (HCl.out _ q hql).mono ?_; rintro e w2 ⟨rfl, hb2⟩; have hR2 := hR.below hb2; obtain ⟨d0, df⟩ := hR2.cell hq))
      go_roundw
      case rel => exact ⟨k + 1, by omega, by go_num, hR2.set hq, (below_aft hB hb2).setCell (by simp) _⟩
      case measure => simp [intOf]; omega
    · obtain rfl : k = L.length := by omega
      go_wp2
      go_ret2
      exact ⟨rfl, hR, hB⟩
end Go.Proofs.YtpnamkpoapcgeaaDoor
