import Derived.Test.YtddjmhfcaeckgaaDoorV
namespace Go.Proofs.YtddjmhfcaeckgaaDoor
open Go.RowKit
set_option linter.unusedVariables false
set_option linter.unusedSimpArgs false

theorem goesWell_lt (x : Int) (m : Nat) (s : ByteArray) (w : World) (h0 : 0 ≤ x) (h1 : x ≤ 1032) (hm : (x + 7) / 8 = (m : Int)) (hs : s.size < m) :
    Calls Tryd.prog 56 #[.int .i64 x, .string s] w fun e w' => e = .returned (.int .i64 s.size) ∧ w' = w := by
  have h2 : (s.size : Int) < (m : Int) := by omega
  have h3 : ((s.size : Int) == (m : Int)) = false := by simp; omega
  have hmx : m ≤ 130 := by omega
  go_enter Tryd.func56, Tryd.ntmps56
  go_wp2_with (go_at_call 53; refine (byteCount_any _ _ h0 h1).mono ?_; rintro e w' ⟨rfl, rfl⟩)
  go_ret
  exact ⟨rfl, rfl⟩
theorem idx_str {s : ByteArray} {p : Nat} {b : Int} (hp : p < s.size) (hb : ((s[p]).toNat : Int) = b) (w : World) : (Instr.index 9 (.string s) (.int .i64 (p : Int))).run Tryd.prog w = .ok (.int .u8 b) w := by
  rw [run_index_string w 9 s .i64 p Tryd.underlying9, dif_pos ⟨by omega, by omega⟩]
  simp [hb]
theorem goesWell_bad (x : Int) (p : Nat) (s : ByteArray) (w : World) (b : Int) (h0 : 0 ≤ x) (h1 : x ≤ 1032) (hm : (x + 7) / 8 = (p : Int) + 1) (hp : p < s.size) (hb : ((s[p]).toNat : Int) = b) (hu : ¬ x % 8 = 0) (hv : IntKind.u8.wrap (b * 2 ^ (x % 8).toNat) ≠ 0) :
    Calls Tryd.prog 56 #[.int .i64 x, .string s] w fun e w' => e = .returned (.int .i64 p) ∧ w' = w := by
  have hidx := idx_str hp hb
  have h2 : (p : Int) + 1 ≤ (s.size : Int) := by omega
  have hmx : p ≤ 130 := by omega
  have hu7 : 0 ≤ x % 8 := by omega
  have hu9 : x % 8 ≤ 8 := by omega
  have hj1 : (0 : Int) ≤ (p : Int) := by omega
  clear hb hp
  have hu1 : (x % 8 != 0) = true := by simpa using hu
  obtain ⟨v, hvv⟩ : ∃ v, IntKind.u8.wrap (b * 2 ^ (x % 8).toNat) = v := ⟨_, rfl⟩
  rw [hvv] at hv
  have hv1 : (v != 0) = true := by simpa using hv
  clear hu hv
  by_cases hgt : (p : Int) + 1 < (s.size : Int)
  · go_enter Tryd.func56, Tryd.ntmps56
    go_wp2_with (go_at_call 53; refine (byteCount_any _ _ h0 h1).mono ?_; rintro e w' ⟨rfl, rfl⟩)
    go_ret
    exact ⟨ret_int (by omega), rfl⟩
  · have heq : (s.size : Int) = (p : Int) + 1 := by omega
    clear hgt h2
    go_enter Tryd.func56, Tryd.ntmps56
    go_wp2_with (go_at_call 53; refine (byteCount_any _ _ h0 h1).mono ?_; rintro e w' ⟨rfl, rfl⟩)
    go_ret
    exact ⟨ret_int (by omega), rfl⟩
theorem goesWell_well (x : Int) (p : Nat) (s : ByteArray) (w : World) (b : Int) (h0 : 0 ≤ x) (h1 : x ≤ 1032) (hm : (x + 7) / 8 = (p : Int) + 1) (hp : p < s.size) (hb : ((s[p]).toNat : Int) = b) (hu : ¬ x % 8 = 0) (hv : IntKind.u8.wrap (b * 2 ^ (x % 8).toNat) = 0) :
    Calls Tryd.prog 56 #[.int .i64 x, .string s] w fun e w' => e = .returned (.int .i64 ((p : Int) + 1)) ∧ w' = w := by
  have hidx := idx_str hp hb
  have h2 : (p : Int) + 1 ≤ (s.size : Int) := by omega
  have hmx : p ≤ 130 := by omega
  have hu7 : 0 ≤ x % 8 := by omega
  have hu9 : x % 8 ≤ 8 := by omega
  have hj1 : (0 : Int) ≤ (p : Int) := by omega
  clear hb hp
  have hu1 : (x % 8 != 0) = true := by simpa using hu
  clear hu
  by_cases hgt : (p : Int) + 1 < (s.size : Int)
  · go_enter Tryd.func56, Tryd.ntmps56
    go_wp2_with (go_at_call 53; refine (byteCount_any _ _ h0 h1).mono ?_; rintro e w' ⟨rfl, rfl⟩)
    go_ret
    exact ⟨ret_int (by omega), rfl⟩
  · have heq : (s.size : Int) = (p : Int) + 1 := by omega
    clear hgt h2
    go_enter Tryd.func56, Tryd.ntmps56
    go_wp2_with (go_at_call 53; refine (byteCount_any _ _ h0 h1).mono ?_; rintro e w' ⟨rfl, rfl⟩)
    go_ret
    exact ⟨ret_int (by omega), rfl⟩
theorem goesWell_full (x : Int) (p : Nat) (s : ByteArray) (w : World) (b : Int) (h0 : 0 ≤ x) (h1 : x ≤ 1032) (hm : (x + 7) / 8 = (p : Int) + 1) (hp : p < s.size) (hb : ((s[p]).toNat : Int) = b) (hu : x % 8 = 0) :
    Calls Tryd.prog 56 #[.int .i64 x, .string s] w fun e w' => e = .returned (.int .i64 ((p : Int) + 1)) ∧ w' = w := by
  have hidx := idx_str hp hb
  have h2 : (p : Int) + 1 ≤ (s.size : Int) := by omega
  have hmx : p ≤ 130 := by omega
  have hu7 : 0 ≤ x % 8 := by omega
  have hu9 : x % 8 ≤ 8 := by omega
  have hj1 : (0 : Int) ≤ (p : Int) := by omega
  clear hb hp
  by_cases hgt : (p : Int) + 1 < (s.size : Int)
  · go_enter Tryd.func56, Tryd.ntmps56
    go_wp2_with (go_at_call 53; refine (byteCount_any _ _ h0 h1).mono ?_; rintro e w' ⟨rfl, rfl⟩)
    go_ret
    exact ⟨ret_int (by omega), rfl⟩
  · have heq : (s.size : Int) = (p : Int) + 1 := by omega
    clear hgt h2
    go_enter Tryd.func56, Tryd.ntmps56
    go_wp2_with (go_at_call 53; refine (byteCount_any _ _ h0 h1).mono ?_; rintro e w' ⟨rfl, rfl⟩)
    go_ret
    exact ⟨ret_int (by omega), rfl⟩
theorem byte_bad : ∀ b : Fin 256, ∀ u : Fin 8, (IntKind.u8.wrap ((b.val : Int) * 2 ^ u.val) ≠ 0) ↔ ∃ j : Fin 8, u ≤ j ∧ bits .and .u8 (b.val : Int) (128 / 2 ^ j.val) ≠ 0 := by
  decide +kernel
end Go.Proofs.YtddjmhfcaeckgaaDoor
