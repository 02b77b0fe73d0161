import Derived.Test.YtddjmhfcaeckgaaDoorB
namespace Go.Proofs.YtddjmhfcaeckgaaDoor
open Go.RowKit
set_option linter.unusedVariables false
set_option linter.unusedSimpArgs false

/-- All of these are words. -/
def Words (zs : List Int) : Prop := ∀ i, 0 ≤ zs.getD i 0 ∧ zs.getD i 0 < 18446744073709551616

theorem last_zero (z u : Nat) (hz : z < 2 ^ 64) (h : ∀ j, u ≤ j → j < 64 → z / 2 ^ j % 2 = 0) : z / 2 ^ u = 0 := by
  apply Nat.eq_of_testBit_eq
  intro i
  rw [Nat.testBit_div_two_pow, Nat.zero_testBit, Nat.testBit_eq_decide_div_mod_eq]
  by_cases hi : i + u < 64
  · simp [h (i + u) (by omega) hi]
  · have : z / 2 ^ (i + u) = 0 := Nat.div_eq_of_lt (Nat.lt_of_lt_of_le hz (Nat.pow_le_pow_right (by omega) (by omega)))
    simp [this]
/-- The bit j of a word. -/
def bitOf (z : Int) (j : Nat) : Int := z / 2 ^ j % 2
theorem bitOf_nat (k j : Nat) : bitOf (k : Int) j = ((k / 2 ^ j % 2 : Nat) : Int) := by simp [bitOf]
theorem div_nat (k u : Nat) : (k : Int) / 2 ^ u = ((k / 2 ^ u : Nat) : Int) := by simp
theorem last_zero' (z : Int) (u : Nat) (h0 : 0 ≤ z) (h1 : z < 18446744073709551616) (h : ∀ j, u ≤ j → j < 64 → bitOf z j = 0) : z / 2 ^ u = 0 := by
  obtain ⟨k, rfl⟩ := Int.eq_ofNat_of_zero_le h0
  have hk : k < 2 ^ 64 := by omega
  clear h1
  rw [div_nat, last_zero k u hk fun j h1 h2 => by have := h j h1 h2; rw [bitOf_nat] at this; omega]
  rfl
theorem high_zero (z : Int) (u j : Nat) (h0 : 0 ≤ z) (h : z / 2 ^ u = 0) (hj : u ≤ j) : bitOf z j = 0 := by
  obtain ⟨k, rfl⟩ := Int.eq_ofNat_of_zero_le h0
  rw [bitOf_nat]
  rw [div_nat] at h
  have h' : k / 2 ^ u = 0 := by omega
  have h2 : k < 2 ^ u := by
    rcases Nat.lt_or_ge k (2 ^ u) with h' | h'
    · exact h'
    · have := Nat.div_pos h' (Nat.two_pow_pos u); omega
  have h3 : 2 ^ u ≤ 2 ^ j := Nat.pow_le_pow_right (by omega) hj
  rw [Nat.div_eq_of_lt (by omega)]
  rfl
theorem div_word {z : Int} (j : Nat) (h0 : 0 ≤ z) (h1 : z < 18446744073709551616) : 0 ≤ z / 2 ^ j ∧ z / 2 ^ j ≤ 18446744073709551615 :=
  ⟨Int.ediv_nonneg h0 (Int.le_of_lt (Int.pow_pos (by decide))), by have := Int.ediv_le_self (2 ^ j) h0; omega⟩
theorem shr_and (z : Int) (j : Nat) (h0 : 0 ≤ z) (h1 : z < 18446744073709551616) : bits .and .u64 (z / 2 ^ j) 1 = bitOf z j :=
  and_one_u64 _ (div_word j h0 h1).1 (div_word j h0 h1).2

theorem refMay_yes (x : Int) (a : Option Addr) (n cap : Nat) (zs : List Int) (w : World) (hz : zs.length = n) (hw : Words zs) (hc : Cells w a zs) (hy : mayB x zs = true) :
    Calls Tryd.prog 15 #[.agg #[.int .i64 x, .slice a n cap]] w fun e w' => e = .returned (.bool true) ∧ Below w.heap.size w w' := by
  obtain ⟨hw1, hw2, hw3⟩ := mayB_width hy
  have hn : ((n : Int) == (x + 63) / 64) = true := by simpa [hz] using hw3
  have hnm : n ≤ 17 := by omega
  obtain ⟨xn, rfl⟩ := Int.eq_ofNat_of_zero_le hw1
  have hxm : xn ≤ 64 * n := by omega
  have hxm2 : 64 * n < xn + 64 := by omega
  have hlast : ∀ j : Nat, xn ≤ j → j < 64 * n → bitOf (zs.getD (n - 1) 0) (j % 64) = 0 := by
    intro j h1 h2
    simp [mayB] at hy
    rcases hy.2 with h | h
    · omega
    · have e : (((xn : Int)) % 64).toNat = xn % 64 := by omega
      rw [e, hz] at h
      refine high_zero _ (xn % 64) _ (hw _).1 ?_ (by omega)
      simpa using h
  have HC := hc.alloc (Two (.int .i64 xn) (.slice a n cap))
  have hd1 : ¬ (xn : Int) < 0 := by omega
  have hd2 : ¬ 1032 < (xn : Int) := by omega
  have hd3 : ((n : Int) != ((xn : Int) + 63) / 64) = false := by simp only [bne, hn]; rfl
  have B1 := At.new w (Two (.int .i64 xn) (.slice a n cap))
  clear hy hw3 hc
  go_enter Tryd.func15, Tryd.ntmps15
  go_wp2
  go_loop [3] (fun i => ∃ k : Nat, k ≤ 64 * n ∧ xn ≤ k ∧ i = .int .i64 k) (fun i => 64 * n - (intOf i).toNat)
  case atStart => exact ⟨xn, hxm, Nat.le_refl _, rfl⟩
  case round =>
    obtain ⟨k, hk1, hk2, rfl⟩ := hrel
    by_cases hlt : k < 64 * n
    · rcases HC with h | ⟨b, off, rfl, hb, hcl⟩
      · subst h; simp at hz; omega
      · have hck := hcl (n - 1) (by omega)
        have hl := hlast k hk2 hlt
        have hwz := hw (n - 1)
        obtain ⟨z, hzz⟩ : ∃ z, z = zs.getD (n - 1) 0 := ⟨_, rfl⟩
        rw [← hzz] at hck hl hwz
        have hq : ((k : Int) / 64) = ((n - 1 : Nat) : Int) := by omega
        have hr : ((k : Int) % 64).toNat = k % 64 := by omega
        have hsa := shr_and z (k % 64) hwz.1 hwz.2
        rw [hl] at hsa
        have hx2 : (((n - 1 : Nat)) : Int) < (n : Int) := by omega
        clear hzz hw hcl hlast
        go_wp2
        go_round
        case rel => exact ⟨k + 1, by omega, by omega, by go_num⟩
        case measure => simp [intOf]; omega
    · go_wp2
      go_ret
      exact ⟨rfl, (Below.refl _ _).alloc (Nat.le_refl _) _⟩
theorem refMay_no1 (x : Int) (a : Option Addr) (n cap : Nat) (w : World) (h : ¬ (0 ≤ x ∧ x ≤ 1032)) :
    Calls Tryd.prog 15 #[.agg #[.int .i64 x, .slice a n cap]] w fun e w' => e = .returned (.bool false) ∧ Below w.heap.size w w' := by
  by_cases h0 : x < 0
  · clear h
    go_enter Tryd.func15, Tryd.ntmps15
    go_wp2
    go_ret
    exact ⟨rfl, (Below.refl _ _).alloc (Nat.le_refl _) _⟩
  · have h1 : 1032 < x := by omega
    clear h
    go_enter Tryd.func15, Tryd.ntmps15
    go_wp2
    go_ret
    exact ⟨rfl, (Below.refl _ _).alloc (Nat.le_refl _) _⟩
theorem refMay_no2 (x : Int) (a : Option Addr) (n cap : Nat) (w : World) (h0 : 0 ≤ x) (h1 : x ≤ 1032) (hm : n ≤ maxLen) (hn : (n : Int) ≠ (x + 63) / 64) :
    Calls Tryd.prog 15 #[.agg #[.int .i64 x, .slice a n cap]] w fun e w' => e = .returned (.bool false) ∧ Below w.heap.size w w' := by
  have hd3 : ((n : Int) != (x + 63) / 64) = true := by simpa using hn
  have hd1 : ¬ x < 0 := by omega
  have hd2 : ¬ 1032 < x := by omega
  unfold maxLen at hm
  clear hn
  go_enter Tryd.func15, Tryd.ntmps15
  go_wp2
  go_ret
  exact ⟨rfl, (Below.refl _ _).alloc (Nat.le_refl _) _⟩
theorem refMay_no3 (x : Int) (a : Option Addr) (n cap : Nat) (zs : List Int) (w : World) (hz : zs.length = n) (hw : Words zs) (hc : Cells w a zs) (h0 : 0 ≤ x) (h1 : x ≤ 1032) (hn' : (n : Int) = (x + 63) / 64) (hy : mayB x zs = false) :
    Calls Tryd.prog 15 #[.agg #[.int .i64 x, .slice a n cap]] w fun e w' => e = .returned (.bool false) ∧ Below w.heap.size w w' := by
  have hn : ((n : Int) == (x + 63) / 64) = true := by simpa using hn'
  have hnm : n ≤ 17 := by omega
  obtain ⟨xn, rfl⟩ := Int.eq_ofNat_of_zero_le h0
  have hxm : xn ≤ 64 * n := by omega
  have hxm2 : 64 * n < xn + 64 := by omega
  have hlast : ¬ ∀ j : Nat, xn ≤ j → j < 64 * n → bitOf (zs.getD (n - 1) 0) (j % 64) = 0 := by
    intro h
    simp [mayB, h1, hz, ← hn'] at hy
    obtain ⟨hy1, hy2⟩ := hy
    have e : (((xn : Int)) % 64).toNat = xn % 64 := by omega
    rw [e] at hy2
    have := last_zero' (zs.getD (n - 1) 0) (xn % 64) (hw _).1 (hw _).2 fun j h1 h2 => by
      have := h (64 * (n - 1) + j) (by omega) (by omega)
      rwa [show (64 * (n - 1) + j) % 64 = j by omega] at this
    exact hy2 (by simpa using this)
  have HC := hc.alloc (Two (.int .i64 xn) (.slice a n cap))
  have hd1 : ¬ (xn : Int) < 0 := by omega
  have hd2 : ¬ 1032 < (xn : Int) := by omega
  have hd3 : ((n : Int) != ((xn : Int) + 63) / 64) = false := by simp only [bne, hn]; rfl
  clear hy hn' hc
  have HL : Hid (¬ ∀ j : Nat, xn ≤ j → j < 64 * n → bitOf (zs.getD (n - 1) 0) (j % 64) = 0) := hlast
  clear hlast
  go_enter Tryd.func15, Tryd.ntmps15
  go_wp2
  go_loop [3] (fun i => ∃ k : Nat, k ≤ 64 * n ∧ xn ≤ k ∧ i = .int .i64 k ∧ Hid (∀ j : Nat, xn ≤ j → j < k → bitOf (zs.getD (n - 1) 0) (j % 64) = 0)) (fun i => 64 * n - (intOf i).toNat)
  case atStart => exact ⟨xn, hxm, Nat.le_refl _, rfl, fun j h1 h2 => by omega⟩
  case round =>
    obtain ⟨k, hk1, hk2, rfl, hk3⟩ := hrel
    by_cases hlt : k < 64 * n
    · rcases HC with h | ⟨b, off, rfl, hb, hcl⟩
      · subst h; simp at hz; omega
      · have hck := hcl (n - 1) (by omega)
        have hwz := hw (n - 1)
        obtain ⟨z, hzz⟩ : ∃ z, z = zs.getD (n - 1) 0 := ⟨_, rfl⟩
        rw [← hzz] at hck hwz hk3 HL
        have hq : ((k : Int) / 64) = ((n - 1 : Nat) : Int) := by omega
        have hr : ((k : Int) % 64).toNat = k % 64 := by omega
        have hsa := shr_and z (k % 64) hwz.1 hwz.2
        have hx2 : (((n - 1 : Nat)) : Int) < (n : Int) := by omega
        by_cases hl : bitOf z (k % 64) = 0
        · have hk4 : Hid (∀ j : Nat, xn ≤ j → j < k + 1 → bitOf z (j % 64) = 0) := fun j h1 h2 => by
            by_cases e : j = k
            · subst e; exact hl
            · exact hk3 j h1 (by omega)
          rw [hl] at hsa
          clear hw hcl hl
          have HZ : Hid (z = zs.getD (n - 1) 0) := hzz
          clear hzz
          go_wp2
          go_round
          case rel => exact ⟨k + 1, by omega, by omega, by go_num, by rw [← HZ.out]; exact hk4⟩
          case measure => simp [intOf]; omega
        · have hb1 : bitOf z (k % 64) = 1 := by
            have : bitOf z (k % 64) = 0 ∨ bitOf z (k % 64) = 1 := by unfold bitOf; omega
            omega
          rw [hb1] at hsa
          clear hw hcl hl hzz hb1
          go_wp2
          go_ret
          exact ⟨rfl, (Below.refl _ _).alloc (Nat.le_refl _) _⟩
    · exact (HL.out fun j h1 h2 => hk3 j h1 (by omega)).elim

theorem refMay_no (x : Int) (a : Option Addr) (n cap : Nat) (zs : List Int) (w : World) (hz : zs.length = n) (hm : n ≤ maxLen) (hw : Words zs) (hc : Cells w a zs) (hy : mayB x zs = false) :
    Calls Tryd.prog 15 #[.agg #[.int .i64 x, .slice a n cap]] w fun e w' => e = .returned (.bool false) ∧ Below w.heap.size w w' := by
  by_cases h : 0 ≤ x ∧ x ≤ 1032
  · by_cases hn : (n : Int) = (x + 63) / 64
    · exact refMay_no3 x a n cap zs w hz hw hc h.1 h.2 hn hy
    · exact refMay_no2 x a n cap w h.1 h.2 hm hn
  · exact refMay_no1 x a n cap w h
end Go.Proofs.YtddjmhfcaeckgaaDoor
