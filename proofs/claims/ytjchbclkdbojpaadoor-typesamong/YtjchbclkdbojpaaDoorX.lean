import Derived.Test.YtjchbclkdbojpaaDoorW
import Derived.Lib.ItoaLen
namespace Go.Proofs.YtjchbclkdbojpaaDoor
open Go.RowKit
set_option linter.unusedVariables false
set_option linter.unusedSimpArgs false

theorem str_app (a b : List UInt8) : str a ++ str b = str (a ++ b) := by
  apply ByteArray.ext
  simp [str, ByteArray.data_append]
/-- Itoa tells the number. -/
def ItC (w0 : World) (n : Int) : Prop := ∀ W, Below w0.heap.size w0 W → Calls Tryd.prog 87 #[.int .i64 n] W fun e w' => e = .returned (.string (str (Lib.itoa n))) ∧ Below W.heap.size W w'
/-- A reference's head. -/
def hdT (m : Bool) (r : Int) (isRef : Bool) : List UInt8 :=
  [38] ++ ((if 0 ≤ r then [39] ++ Lib.itoa r ++ [32] else []) ++ ((if m then [109, 117, 116, 32] else []) ++ (if r < 0 ∧ m = false ∧ isRef = true then [32] else [])))
theorem str_toList (s : List UInt8) : (str s).toList = s := by rw [ByteArray.toList_eq]; rfl
set_option maxRecDepth 100000 in
set_option maxHeartbeats 2000000 in
theorem head_r_true (r : Int) (g off cap : Nat) (f : Fv) (w : World) (hc : C5 w g off f) (hr : 0 ≤ r) (hr1 : r ≤ 9223372036854775807) (hI : ItC w r) (x : Bool) :
    Calls Tryd.prog 88 #[tyV 4 true r 0 (some ⟨g, off, none⟩) 1 cap] w fun e w' => e = .returned (.string (str (hdT true r x))) ∧ Below w.heap.size w w' := by
  have CI : Hid (∀ W, Below w.heap.size w W → Calls Tryd.prog 87 #[.int .i64 r] W fun e w' => e = .returned (.string (str (Lib.itoa r))) ∧ Below W.heap.size W w') := hI
  have A1 : At (w.alloc (tyO 4 true r 0 (some ⟨g, off, none⟩) 1 cap)) w.heap.size (Fv.o ⟨4, true, r, 0, some ⟨g, off, none⟩, 1, cap⟩) := At.new _ _
  have HC : Hid (C5 w g off f) := hc
  have hres : str (hdT true r x) = (⟨#[38]⟩ : ByteArray) ++ ((⟨#[39]⟩ : ByteArray) ++ str (Lib.itoa r) ++ (⟨#[32]⟩ : ByteArray)) ++ (⟨#[109, 117, 116, 32]⟩ : ByteArray) := by
    have e : hdT true r x = [38] ++ ([39] ++ Lib.itoa r ++ [32]) ++ [109, 117, 116, 32] := by
      unfold hdT
      rw [if_pos hr]
      have : ¬ r < 0 := by omega
      simp [this]
    rw [e, ← str_app, ← str_app, ← str_app, ← str_app]
    rfl
  have nq : ¬ ((⟨#[38]⟩ : ByteArray) ++ ((⟨#[39]⟩ : ByteArray) ++ str (Lib.itoa r) ++ (⟨#[32]⟩ : ByteArray)) ++ (⟨#[109, 117, 116, 32]⟩ : ByteArray)).toList = [38] := by
    rw [← hres, str_toList]
    intro e
    have := congrArg List.length e
    simp [hdT, hr] at this
  rw [hres]
  obtain ⟨t, ht⟩ : ∃ t, t = str (Lib.itoa r) := ⟨_, rfl⟩
  rw [← ht] at CI nq ⊢
  obtain ⟨z, hz⟩ : ∃ z, t.size = z := ⟨_, rfl⟩
  have z20 : z ≤ 21 := by rw [← hz, ht]; exact Lib.itoa_length_le r (by omega) hr1
  have n1 : ¬ 9223372036854775807 < 1 + z := by omega
  have n2 : ¬ 9223372036854775807 < 1 + z + 1 := by omega
  have n3 : ¬ 9223372036854775807 < 1 + (1 + z + 1) := by omega
  have n4 : ¬ 9223372036854775807 < 1 + (1 + z + 1) + 4 := by omega
  clear ht z20 hres hI hc
  go_enter Tryd.func88, Tryd.ntmps88
  go_wp2_with (go_at_call 87; refine (CI.out _ (belA (Below.refl _ _))).mono ?_; rintro e w1 ⟨rfl, hb1⟩; obtain ⟨-, p0, p1, p2, p3, p4⟩ := (A1.below hb1).ty; obtain ⟨-, q0, q1, q2, q3, q4⟩ := HC.out.below (below1 hb1))
  go_ret
  exact ⟨rfl, below1 hb1⟩
set_option maxRecDepth 100000 in
set_option maxHeartbeats 2000000 in
theorem head_r_false (r : Int) (g off cap : Nat) (f : Fv) (w : World) (hc : C5 w g off f) (hr : 0 ≤ r) (hr1 : r ≤ 9223372036854775807) (hI : ItC w r) (x : Bool) :
    Calls Tryd.prog 88 #[tyV 4 false r 0 (some ⟨g, off, none⟩) 1 cap] w fun e w' => e = .returned (.string (str (hdT false r x))) ∧ Below w.heap.size w w' := by
  have CI : Hid (∀ W, Below w.heap.size w W → Calls Tryd.prog 87 #[.int .i64 r] W fun e w' => e = .returned (.string (str (Lib.itoa r))) ∧ Below W.heap.size W w') := hI
  have A1 : At (w.alloc (tyO 4 false r 0 (some ⟨g, off, none⟩) 1 cap)) w.heap.size (Fv.o ⟨4, false, r, 0, some ⟨g, off, none⟩, 1, cap⟩) := At.new _ _
  have HC : Hid (C5 w g off f) := hc
  have hres : str (hdT false r x) = (⟨#[38]⟩ : ByteArray) ++ ((⟨#[39]⟩ : ByteArray) ++ str (Lib.itoa r) ++ (⟨#[32]⟩ : ByteArray)) := by
    have e : hdT false r x = [38] ++ ([39] ++ Lib.itoa r ++ [32]) := by
      unfold hdT
      rw [if_pos hr]
      have : ¬ r < 0 := by omega
      simp [this]
    rw [e, ← str_app, ← str_app, ← str_app]
    rfl
  have nq : ¬ ((⟨#[38]⟩ : ByteArray) ++ ((⟨#[39]⟩ : ByteArray) ++ str (Lib.itoa r) ++ (⟨#[32]⟩ : ByteArray))).toList = [38] := by
    rw [← hres, str_toList]
    intro e
    have := congrArg List.length e
    simp [hdT, hr] at this
  rw [hres]
  obtain ⟨t, ht⟩ : ∃ t, t = str (Lib.itoa r) := ⟨_, rfl⟩
  rw [← ht] at CI nq ⊢
  obtain ⟨z, hz⟩ : ∃ z, t.size = z := ⟨_, rfl⟩
  have z20 : z ≤ 21 := by rw [← hz, ht]; exact Lib.itoa_length_le r (by omega) hr1
  have n1 : ¬ 9223372036854775807 < 1 + z := by omega
  have n2 : ¬ 9223372036854775807 < 1 + z + 1 := by omega
  have n3 : ¬ 9223372036854775807 < 1 + (1 + z + 1) := by omega
  have n4 : ¬ 9223372036854775807 < 1 + (1 + z + 1) + 4 := by omega
  clear ht z20 hres hI hc
  go_enter Tryd.func88, Tryd.ntmps88
  go_wp2_with (go_at_call 87; refine (CI.out _ (belA (Below.refl _ _))).mono ?_; rintro e w1 ⟨rfl, hb1⟩; obtain ⟨-, p0, p1, p2, p3, p4⟩ := (A1.below hb1).ty; obtain ⟨-, q0, q1, q2, q3, q4⟩ := HC.out.below (below1 hb1))
  go_ret
  exact ⟨rfl, below1 hb1⟩
set_option maxRecDepth 100000 in
set_option maxHeartbeats 2000000 in
theorem head_m (r : Int) (g off cap : Nat) (f : Fv) (w : World) (hc : C5 w g off f) (hr : r < 0) (x : Bool) :
    Calls Tryd.prog 88 #[tyV 4 true r 0 (some ⟨g, off, none⟩) 1 cap] w fun e w' => e = .returned (.string (str (hdT true r x))) ∧ Below w.heap.size w w' := by
  have hres : str (hdT true r x) = (⟨#[38, 109, 117, 116, 32]⟩ : ByteArray) := by
    have e : hdT true r x = [38, 109, 117, 116, 32] := by
      unfold hdT
      have : ¬ 0 ≤ r := by omega
      simp [this]
    rw [e]
    rfl
  rw [hres]
  obtain ⟨hg, q0, q1, q2, q3, q4⟩ := hc
  have ea : (⟨#[38]⟩ : ByteArray) ++ (⟨#[109, 117, 116, 32]⟩ : ByteArray) = (⟨#[38, 109, 117, 116, 32]⟩ : ByteArray) := str_app [38] [109, 117, 116, 32]
  have nq : ¬ ((⟨#[38]⟩ : ByteArray) ++ (⟨#[109, 117, 116, 32]⟩ : ByteArray)).toList = [38] := by
    rw [ea, show (⟨#[38, 109, 117, 116, 32]⟩ : ByteArray) = str [38, 109, 117, 116, 32] from rfl, str_toList]
    simp
  have HEA : Hid ((⟨#[38]⟩ : ByteArray) ++ (⟨#[109, 117, 116, 32]⟩ : ByteArray) = (⟨#[38, 109, 117, 116, 32]⟩ : ByteArray)) := ea
  clear ea hres
  go_enter Tryd.func88, Tryd.ntmps88
  go_wp2_with fail
  go_ret
  exact ⟨by first | rfl | rw [← HEA.out]; rfl, belA (Below.refl _ _)⟩
set_option maxRecDepth 100000 in
set_option maxHeartbeats 2000000 in
theorem head_b_true (r : Int) (g off cap : Nat) (f : Fv) (w : World) (hc : C5 w g off f) (hr : r < 0) (hk : f.k = 4) :
    Calls Tryd.prog 88 #[tyV 4 false r 0 (some ⟨g, off, none⟩) 1 cap] w fun e w' => e = .returned (.string (str (hdT false r true))) ∧ Below w.heap.size w w' := by
  have hres : str (hdT false r true) = (⟨#[38, 32]⟩ : ByteArray) := by
    have e : hdT false r true = [38, 32] := by
      unfold hdT
      have : ¬ 0 ≤ r := by omega
      simp [this, hr]
    rw [e]
    rfl
  rw [hres]
  obtain ⟨hg, q0, q1, q2, q3, q4⟩ := hc
  rw [hk] at q0
  have ea : (⟨#[38]⟩ : ByteArray) ++ (⟨#[32]⟩ : ByteArray) = (⟨#[38, 32]⟩ : ByteArray) := str_app [38] [32]
  have HEA : Hid ((⟨#[38]⟩ : ByteArray) ++ (⟨#[32]⟩ : ByteArray) = (⟨#[38, 32]⟩ : ByteArray)) := ea
  clear ea hres hk
  go_enter Tryd.func88, Tryd.ntmps88
  go_wp2_with fail
  go_ret
  exact ⟨by first | rfl | rw [← HEA.out]; rfl, belA (Below.refl _ _)⟩
set_option maxRecDepth 100000 in
set_option maxHeartbeats 2000000 in
theorem head_b_false (r : Int) (g off cap : Nat) (f : Fv) (w : World) (hc : C5 w g off f) (hr : r < 0) (hk : ¬ f.k = 4) :
    Calls Tryd.prog 88 #[tyV 4 false r 0 (some ⟨g, off, none⟩) 1 cap] w fun e w' => e = .returned (.string (str (hdT false r false))) ∧ Below w.heap.size w w' := by
  have hres : str (hdT false r false) = (⟨#[38]⟩ : ByteArray) := by
    have e : hdT false r false = [38] := by
      unfold hdT
      have : ¬ 0 ≤ r := by omega
      simp [this, hr]
    rw [e]
    rfl
  rw [hres]
  obtain ⟨hg, q0, q1, q2, q3, q4⟩ := hc
  have hk1 : ¬ (f.k : Int) = 4 := by omega
  have ea : (⟨#[38]⟩ : ByteArray) ++ (⟨#[32]⟩ : ByteArray) = (⟨#[38, 32]⟩ : ByteArray) := str_app [38] [32]
  have HEA : Hid ((⟨#[38]⟩ : ByteArray) ++ (⟨#[32]⟩ : ByteArray) = (⟨#[38, 32]⟩ : ByteArray)) := ea
  clear ea hres hk
  go_enter Tryd.func88, Tryd.ntmps88
  go_wp2_with fail
  go_ret
  exact ⟨by first | rfl | rw [← HEA.out]; rfl, belA (Below.refl _ _)⟩
theorem head_any (m : Bool) (r : Int) (g off cap : Nat) (f : Fv) (w : World) (hc : C5 w g off f) (hr1 : r ≤ 9223372036854775807) (hI : 0 ≤ r → ItC w r) :
    Calls Tryd.prog 88 #[tyV 4 m r 0 (some ⟨g, off, none⟩) 1 cap] w fun e w' => e = .returned (.string (str (hdT m r (decide (f.k = 4))))) ∧ Below w.heap.size w w' := by
  by_cases hr : 0 ≤ r
  · cases m with
    | true => exact head_r_true r g off cap f w hc hr hr1 (hI hr) _
    | false => exact head_r_false r g off cap f w hc hr hr1 (hI hr) _
  · cases m with
    | true => exact head_m r g off cap f w hc (by omega) _
    | false =>
      by_cases hk : f.k = 4
      · rw [decide_eq_true hk]
        exact head_b_true r g off cap f w hc (by omega) hk
      · rw [decide_eq_false hk]
        exact head_b_false r g off cap f w hc (by omega) hk
end Go.Proofs.YtjchbclkdbojpaaDoor
