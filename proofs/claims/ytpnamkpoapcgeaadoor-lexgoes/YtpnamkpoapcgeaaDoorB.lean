import Derived.Test.YtpnamkpoapcgeaaDoorA
import Derived.Handy
import Derived.Deep.MidRow
namespace Go.Proofs.YtpnamkpoapcgeaaDoor
open Go.RowKit
set_option linter.unusedVariables false
set_option linter.unusedSimpArgs false

theorem ret_ib {k : IntKind} {a b : Int} {x y : Bool} (h : a = b) (h' : x = y) : Ending.returned (.tuple #[.int k a, .bool x]) = .returned (.tuple #[.int k b, .bool y]) := by rw [h, h']
/-- The keywords. -/
def kw : List (List UInt8) := [[102, 110], [115, 116, 114, 117, 99, 116], [108, 101, 116], [105, 102], [101, 108, 115, 101], [108, 111, 111, 112], [119, 104, 105, 108, 101], [98, 114, 101, 97, 107], [99, 111, 110, 116, 105, 110, 117, 101], [114, 101, 116, 117, 114, 110], [116, 114, 117, 101], [102, 97, 108, 115, 101], [109, 117, 116], [112, 114, 105, 110, 116], [114, 101, 97, 100], [98, 111, 120], [105, 54, 52], [98, 111, 111, 108], [66, 111, 120]]
def isW (s : ByteArray) : Bool := kw.any (s.toList == ·)
set_option maxHeartbeats 1000000 in
theorem isWord_any (s : ByteArray) (w : World) : Calls Tryd.prog 82 #[.string s] w fun e w' => e = .returned (.bool (isW s)) ∧ w' = w := by
  go_enter Tryd.func82, Tryd.ntmps82
  go_wp2
  all_goals go_ret
  all_goals refine ⟨ret_bool ?_, rfl⟩
  all_goals first | (simp only [isW, kw, List.any_cons, List.any_nil, *]; rfl) | (simp_all; done)
theorem rRow_any (c : Nat) (w : World) : Calls Tryd.prog 77 #[.int .u8 (c : Int)] w fun e w' => e = .returned (.bool (isR c)) ∧ w' = w := by
  have e1 : isR c = (isL c || isG c || isD c || decide (c = 95)) := by
    rw [Bool.eq_iff_iff]; unfold isR isL isG isD; simp only [decide_eq_true_eq, Bool.or_eq_true]; omega
  rw [e1]
  cases hl : isL c
  · cases hg : isG c
    · cases hd : isD c
      · go_enter Tryd.func77, Tryd.ntmps77
        go_wp2_with (first | (go_at_call 47; refine (rLetter_any c _).mono ?_; rw [hl]; rintro e w' ⟨rfl, rfl⟩) | (go_at_call 48; refine (rGreat_any c _).mono ?_; rw [hg]; rintro e w' ⟨rfl, rfl⟩) | (go_at_call 51; refine (rDigit_any c _).mono ?_; rw [hd]; rintro e w' ⟨rfl, rfl⟩))
        all_goals go_ret
        all_goals refine ⟨ret_bool ?_, rfl⟩
        all_goals (rw [Bool.eq_iff_iff]; simp; omega)
      · go_enter Tryd.func77, Tryd.ntmps77
        go_wp2_with (first | (go_at_call 47; refine (rLetter_any c _).mono ?_; rw [hl]; rintro e w' ⟨rfl, rfl⟩) | (go_at_call 48; refine (rGreat_any c _).mono ?_; rw [hg]; rintro e w' ⟨rfl, rfl⟩) | (go_at_call 51; refine (rDigit_any c _).mono ?_; rw [hd]; rintro e w' ⟨rfl, rfl⟩))
        all_goals go_ret
        all_goals exact ⟨rfl, rfl⟩
    · go_enter Tryd.func77, Tryd.ntmps77
      go_wp2_with (first | (go_at_call 47; refine (rLetter_any c _).mono ?_; rw [hl]; rintro e w' ⟨rfl, rfl⟩) | (go_at_call 48; refine (rGreat_any c _).mono ?_; rw [hg]; rintro e w' ⟨rfl, rfl⟩))
      all_goals go_ret
      all_goals exact ⟨rfl, rfl⟩
  · go_enter Tryd.func77, Tryd.ntmps77
    go_wp2_with (first | (go_at_call 47; refine (rLetter_any c _).mono ?_; rw [hl]; rintro e w' ⟨rfl, rfl⟩))
    all_goals go_ret
    all_goals exact ⟨rfl, rfl⟩
/-- A number with one more digit behind it, if that is one and the number does not grow too great. -/
def wdig (v c : Nat) : Option Nat := if isD c = true ∧ v * 10 + (c - 48) ≤ 9223372036854775807 then some (v * 10 + (c - 48)) else none
theorem withDigit_some (v c r : Nat) (w : World) (h : wdig v c = some r) : Calls Tryd.prog 83 #[.int .i64 (v : Int), .int .u8 (c : Int)] w fun e w' => e = .returned (.tuple #[.int .i64 (r : Int), .bool true]) ∧ w' = w := by
  unfold wdig at h
  split at h
  · rename_i hh
    obtain ⟨h1, h2⟩ := hh
    cases h
    have hd := (cls_D c).2 h1
    unfold isD at h1
    rw [decide_eq_true_eq] at h1
    obtain ⟨d, rfl⟩ : ∃ d, c = d + 48 := ⟨c - 48, by omega⟩
    have HC : Hid (∀ w, Calls Tryd.prog 57 #[.int .u8 ((d + 48 : Nat) : Int)] w fun e w' => e = .returned (.int .u8 4) ∧ w' = w) := fun w => by have := cls_any (d + 48) w; rw [hd] at this; exact this
    have hq : (v : Int) ≤ (9223372036854775807 - (d : Int)) / 10 := by omega
    clear hd
    go_enter Tryd.func83, Tryd.ntmps83
    go_wp2_with (go_at_call 57; refine (HC.out _).mono ?_; rintro e w' ⟨rfl, rfl⟩)
    go_ret2
    exact ⟨ret_ib (a := (v : Int) * 10 + (d : Int)) (by omega) rfl, rfl⟩
  · cases h
theorem withDigit_none (v c : Nat) (w : World) (hv : v ≤ 9223372036854775807) (h : wdig v c = none) : Calls Tryd.prog 83 #[.int .i64 (v : Int), .int .u8 (c : Int)] w fun e w' => e = .returned (.tuple #[.int .i64 0, .bool false]) ∧ w' = w := by
  unfold wdig at h
  split at h
  · cases h
  · rename_i hh
    cases hd : isD c
    · have hd' : ¬ cls c = 4 := fun e => by rw [cls_D] at e; rw [e] at hd; cases hd
      obtain ⟨k, hk⟩ : ∃ k, k = cls c := ⟨_, rfl⟩
      have HC : Hid (∀ w, Calls Tryd.prog 57 #[.int .u8 (c : Int)] w fun e w' => e = .returned (.int .u8 (k : Int)) ∧ w' = w) := fun w => by rw [hk]; exact cls_any c w
      rw [← hk] at hd'
      have hd2 : ((k : Int) != 4) = true := by simp; omega
      clear hk hh
      go_enter Tryd.func83, Tryd.ntmps83
      go_wp2_with (go_at_call 57; refine (HC.out _).mono ?_; rintro e w' ⟨rfl, rfl⟩)
      all_goals first | (go_ret2; exact ⟨rfl, rfl⟩) | (exfalso; simp at *; omega)
    · have h4 := (cls_D c).2 hd
      have h1 : 48 ≤ c ∧ c ≤ 57 := by unfold isD at hd; exact of_decide_eq_true hd
      have h2 : ¬ v * 10 + (c - 48) ≤ 9223372036854775807 := fun e => hh ⟨hd, e⟩
      obtain ⟨d, rfl⟩ : ∃ d, c = d + 48 := ⟨c - 48, by omega⟩
      have HC : Hid (∀ w, Calls Tryd.prog 57 #[.int .u8 ((d + 48 : Nat) : Int)] w fun e w' => e = .returned (.int .u8 4) ∧ w' = w) := fun w => by have := cls_any (d + 48) w; rw [h4] at this; exact this
      have hq : (9223372036854775807 - (d : Int)) / 10 < (v : Int) := by omega
      clear h4 hh h2
      go_enter Tryd.func83, Tryd.ntmps83
      go_wp2_with (go_at_call 57; refine (HC.out _).mono ?_; rintro e w' ⟨rfl, rfl⟩)
      go_ret2
      exact ⟨rfl, rfl⟩
/-- The keyword at a place. -/
def kwb (i : Nat) : ByteArray := ⟨(kw.getD i []).toArray⟩
theorem kwb_list (i : Nat) : (kwb i).toList = kw.getD i [] := by
  rw [Go.ByteArray.toList_eq]; rfl
theorem kw_none {s : ByteArray} (h : ∀ j, j < 19 → ((kwb j).toList == s.toList) = false) : isW s = false := by
  unfold isW
  rw [List.any_eq_false]
  intro x hx
  obtain ⟨j, hj, rfl⟩ := List.getElem_of_mem hx
  have hl : kw.length = 19 := rfl
  have h1 := h j (by omega)
  rw [kwb_list, List.getD_eq_getElem?_getD, List.getElem?_eq_getElem hj, Option.getD_some] at h1
  intro e
  rw [beq_iff_eq] at e
  rw [← e] at h1
  simp at h1
theorem kw_some {s : ByteArray} {j : Nat} (hj : j < 19) (h : ((kwb j).toList == s.toList) = true) : isW s = true := by
  unfold isW
  rw [List.any_eq_true]
  have hl : kw.length = 19 := rfl
  have hj' : j < kw.length := by omega
  rw [beq_iff_eq, kwb_list, List.getD_eq_getElem?_getD, List.getElem?_eq_getElem hj', Option.getD_some] at h
  exact ⟨kw[j], List.getElem_mem hj', by rw [beq_iff_eq]; exact h.symm⟩
theorem there_new (w : World) (vs : Array Value) (t : Nat) {n : Nat} (h : vs.size = n) : (w.alloc (.cells vs t)).there w.heap.size 0 n := by
  intro j hj
  have hb := heap_alloc_new w (.cells vs t)
  subst h
  have hc : (w.alloc (.cells vs t)).cell? ⟨w.heap.size, 0 + j, none⟩ = vs[0 + j]? := by unfold World.cell?; rw [hb]; rfl
  exact ⟨by rw [hc]; simp [hj], by rw [Nat.zero_add]; exact frozen_of_row _ _ _ _ _ hb⟩
theorem below_cells {B b : Nat} {a : World} (hb : B ≤ b) : ∀ (vs : List Value) (o : Nat) (w : World), Below B a w → Below B a (w.setCells b o vs)
  | [], _, _, h => h
  | v :: r, o, w, h => below_cells hb r (o + 1) _ (h.setCell hb v)
theorem kw_vals : ([.string ⟨#[102, 110]⟩, .string ⟨#[115, 116, 114, 117, 99, 116]⟩, .string ⟨#[108, 101, 116]⟩, .string ⟨#[105, 102]⟩, .string ⟨#[101, 108, 115, 101]⟩, .string ⟨#[108, 111, 111, 112]⟩, .string ⟨#[119, 104, 105, 108, 101]⟩, .string ⟨#[98, 114, 101, 97, 107]⟩, .string ⟨#[99, 111, 110, 116, 105, 110, 117, 101]⟩, .string ⟨#[114, 101, 116, 117, 114, 110]⟩, .string ⟨#[116, 114, 117, 101]⟩, .string ⟨#[102, 97, 108, 115, 101]⟩, .string ⟨#[109, 117, 116]⟩, .string ⟨#[112, 114, 105, 110, 116]⟩, .string ⟨#[114, 101, 97, 100]⟩, .string ⟨#[98, 111, 120]⟩, .string ⟨#[105, 54, 52]⟩, .string ⟨#[98, 111, 111, 108]⟩, .string ⟨#[66, 111, 120]⟩, .string ⟨#[]⟩, .string ⟨#[]⟩] : List Value) = (List.range 21).map (fun i => Value.string (kwb i)) := by kernel_rfl
theorem kw_at {i : Nat} (hi : i < 19) : ([.string ⟨#[102, 110]⟩, .string ⟨#[115, 116, 114, 117, 99, 116]⟩, .string ⟨#[108, 101, 116]⟩, .string ⟨#[105, 102]⟩, .string ⟨#[101, 108, 115, 101]⟩, .string ⟨#[108, 111, 111, 112]⟩, .string ⟨#[119, 104, 105, 108, 101]⟩, .string ⟨#[98, 114, 101, 97, 107]⟩, .string ⟨#[99, 111, 110, 116, 105, 110, 117, 101]⟩, .string ⟨#[114, 101, 116, 117, 114, 110]⟩, .string ⟨#[116, 114, 117, 101]⟩, .string ⟨#[102, 97, 108, 115, 101]⟩, .string ⟨#[109, 117, 116]⟩, .string ⟨#[112, 114, 105, 110, 116]⟩, .string ⟨#[114, 101, 97, 100]⟩, .string ⟨#[98, 111, 120]⟩, .string ⟨#[105, 54, 52]⟩, .string ⟨#[98, 111, 111, 108]⟩, .string ⟨#[66, 111, 120]⟩, .string ⟨#[]⟩, .string ⟨#[]⟩] : List Value)[i]? = some (.string (kwb i)) := by
  rw [kw_vals, List.getElem?_map, List.getElem?_range (by omega)]; rfl
theorem kw_cell (W0 : World) (g : Nat) (h : W0.there g 0 21) {i : Nat} (hi : i < 19) : (W0.setCells g 0 [.string ⟨#[102, 110]⟩, .string ⟨#[115, 116, 114, 117, 99, 116]⟩, .string ⟨#[108, 101, 116]⟩, .string ⟨#[105, 102]⟩, .string ⟨#[101, 108, 115, 101]⟩, .string ⟨#[108, 111, 111, 112]⟩, .string ⟨#[119, 104, 105, 108, 101]⟩, .string ⟨#[98, 114, 101, 97, 107]⟩, .string ⟨#[99, 111, 110, 116, 105, 110, 117, 101]⟩, .string ⟨#[114, 101, 116, 117, 114, 110]⟩, .string ⟨#[116, 114, 117, 101]⟩, .string ⟨#[102, 97, 108, 115, 101]⟩, .string ⟨#[109, 117, 116]⟩, .string ⟨#[112, 114, 105, 110, 116]⟩, .string ⟨#[114, 101, 97, 100]⟩, .string ⟨#[98, 111, 120]⟩, .string ⟨#[105, 54, 52]⟩, .string ⟨#[98, 111, 111, 108]⟩, .string ⟨#[66, 111, 120]⟩, .string ⟨#[]⟩, .string ⟨#[]⟩]).cell? ⟨g, i, none⟩ = some (.string (kwb i)) := by
  have := World.rangeAt_setCells_same W0 g 0 [.string ⟨#[102, 110]⟩, .string ⟨#[115, 116, 114, 117, 99, 116]⟩, .string ⟨#[108, 101, 116]⟩, .string ⟨#[105, 102]⟩, .string ⟨#[101, 108, 115, 101]⟩, .string ⟨#[108, 111, 111, 112]⟩, .string ⟨#[119, 104, 105, 108, 101]⟩, .string ⟨#[98, 114, 101, 97, 107]⟩, .string ⟨#[99, 111, 110, 116, 105, 110, 117, 101]⟩, .string ⟨#[114, 101, 116, 117, 114, 110]⟩, .string ⟨#[116, 114, 117, 101]⟩, .string ⟨#[102, 97, 108, 115, 101]⟩, .string ⟨#[109, 117, 116]⟩, .string ⟨#[112, 114, 105, 110, 116]⟩, .string ⟨#[114, 101, 97, 100]⟩, .string ⟨#[98, 111, 120]⟩, .string ⟨#[105, 54, 52]⟩, .string ⟨#[98, 111, 111, 108]⟩, .string ⟨#[66, 111, 120]⟩, .string ⟨#[]⟩, .string ⟨#[]⟩] h i _ (kw_at hi)
  rw [Nat.zero_add] at this
  exact this
set_option maxRecDepth 100000 in
set_option maxHeartbeats 1000000 in
theorem rWord_any (s : ByteArray) (w : World) : Calls Tryd.prog 50 #[.string s] w fun e w' => e = .returned (.bool (isW s)) ∧ Below w.heap.size w w' := by
  go_enter Tryd.func50, Tryd.ntmps50
  go_wp2_with (refine wpList_store_mid rfl 100 _ _ rfl w.heap.size 0 _ rfl rfl (there_new w _ _ (by kernel_rfl)) (by kernel_rfl) (by kernel_rfl) ?_)
  generalize hW : World.setCells _ _ _ _ = W
  have hB : Below w.heap.size w W := by rw [← hW]; exact below_cells (Nat.le_refl _) _ _ _ ((Below.refl _ _).alloc (Nat.le_refl _) _)
  have hC : ∀ i, i < 19 → W.cell? ⟨w.heap.size, i, none⟩ = some (.string (kwb i)) := by
    intro i hi
    rw [← hW]
    exact kw_cell _ _ (there_new w _ _ (by kernel_rfl)) hi
  clear hW
  have HC : Hid (∀ i, i < 19 → W.cell? ⟨w.heap.size, i, none⟩ = some (.string (kwb i))) := hC
  clear hC
  go_loop [4] (fun i => ∃ k : Nat, k ≤ 19 ∧ i = .int .i64 k ∧ Hid (∀ j, j < k → ((kwb j).toList == s.toList) = false)) (fun i => 19 - (intOf i).toNat)
  case atStart => exact ⟨0, Nat.zero_le _, rfl, fun j hj => absurd hj (Nat.not_lt_zero _)⟩
  case round =>
    obtain ⟨k, hk, rfl, hn⟩ := hrel
    by_cases hlt : k < 19
    · have hc := HC.out k hlt
      have h1 : (k : Int) < 19 := by omega
      have h0 : (0 : Int) ≤ (k : Int) := by omega
      cases he : ((kwb k).toList == s.toList)
      · go_wp2
        go_round
        case rel => exact ⟨k + 1, by omega, by go_num, fun j hj => by
          rcases Nat.lt_or_ge j k with h | h
          · exact hn.out j h
          · obtain rfl : j = k := by omega
            exact he⟩
        case measure => simp [intOf]; omega
      · go_wp2
        go_ret
        exact ⟨ret_bool (kw_some hlt he).symm, hB⟩
    · have hk9 : k = 19 := by omega
      subst hk9
      go_wp2
      go_ret
      exact ⟨ret_bool (kw_none hn.out).symm, hB⟩
end Go.Proofs.YtpnamkpoapcgeaaDoor
