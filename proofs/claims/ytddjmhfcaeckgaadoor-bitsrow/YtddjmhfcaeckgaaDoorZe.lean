import Derived.Laws.Bits64b
import Derived.Laws.Closers25b
import Derived.Lib.TrailingZeros
namespace Go.Proofs.YtddjmhfcaeckgaaDoor
set_option linter.unusedVariables false
set_option linter.unusedSimpArgs false

/-- Is the bit j of a word set? -/
def tb (z : Int) (j : Nat) : Bool := z.toNat.testBit j
/-- All of these are words. -/
def Wd (zs : List Int) : Prop := ∀ i, 0 ≤ zs.getD i 0 ∧ zs.getD i 0 < 18446744073709551616
/-- Is the bit k of these words set? -/
def gb (zs : List Int) (k : Nat) : Bool := tb (zs.getD (k / 64) 0) (k % 64)

theorem tb_high {z : Int} (h0 : 0 ≤ z) (h1 : z < 18446744073709551616) {j : Nat} (hj : 64 ≤ j) : tb z j = false := by
  obtain ⟨m, rfl⟩ := Int.eq_ofNat_of_zero_le h0
  unfold tb
  apply Nat.testBit_lt_two_pow
  have : (2 : Nat) ^ 64 ≤ 2 ^ j := Nat.pow_le_pow_right (by decide) hj
  simp
  omega
theorem tb_or {a b : Int} (ha0 : 0 ≤ a) (ha : a < 18446744073709551616) (hb0 : 0 ≤ b) (hb : b < 18446744073709551616) (j : Nat) : tb (bits .or .u64 a b) j = (tb a j || tb b j) := by
  obtain ⟨m, rfl⟩ := Int.eq_ofNat_of_zero_le ha0
  obtain ⟨k, rfl⟩ := Int.eq_ofNat_of_zero_le hb0
  rw [bits_or_u64_nat m k (by omega) (by omega)]
  unfold tb
  simp only [Int.toNat_natCast, Nat.testBit_or]
theorem tb_and {a b : Int} (ha0 : 0 ≤ a) (ha : a < 18446744073709551616) (hb0 : 0 ≤ b) (hb : b < 18446744073709551616) (j : Nat) : tb (bits .and .u64 a b) j = (tb a j && tb b j) := by
  obtain ⟨m, rfl⟩ := Int.eq_ofNat_of_zero_le ha0
  obtain ⟨k, rfl⟩ := Int.eq_ofNat_of_zero_le hb0
  rw [bits_and_u64_nat m k (by omega) (by omega)]
  unfold tb
  simp only [Int.toNat_natCast, Nat.testBit_and]
theorem tb_andNot {a b : Int} (ha0 : 0 ≤ a) (ha : a < 18446744073709551616) (hb0 : 0 ≤ b) (hb : b < 18446744073709551616) (j : Nat) : tb (bits .andNot .u64 a b) j = (tb a j && !tb b j) := by
  by_cases hj : 64 ≤ j
  · rw [tb_high ha0 ha hj, tb_high (bits_lo_u64 _ _ _) (by have := bits_hi_u64 .andNot a b; omega) hj]
    rfl
  obtain ⟨m, rfl⟩ := Int.eq_ofNat_of_zero_le ha0
  obtain ⟨k, rfl⟩ := Int.eq_ofNat_of_zero_le hb0
  have e : bits .andNot .u64 (m : Int) (k : Int) = (((BitVec.ofInt 64 (m : Int) &&& ~~~ BitVec.ofInt 64 (k : Int)).toNat : Nat) : Int) := by
    show IntKind.u64.wrap ((BitVec.ofInt 64 (m : Int) &&& ~~~ BitVec.ofInt 64 (k : Int)).toNat : Int) = _
    have h := (BitVec.ofInt 64 (m : Int) &&& ~~~ BitVec.ofInt 64 (k : Int)).isLt
    rw [IntKind.wrap_u64]
    exact Int.emod_eq_of_lt (by omega) (by omega)
  rw [e]
  unfold tb
  simp only [Int.toNat_natCast, BitVec.testBit_toNat, BitVec.ofInt_natCast, BitVec.getLsbD_and, BitVec.getLsbD_not, BitVec.getLsbD_ofNat]
  have hj' : j < 64 := by omega
  simp [hj']
theorem tb_zero (j : Nat) : tb 0 j = false := by simp [tb]
theorem tb_ext {a b : Int} (ha0 : 0 ≤ a) (ha : a < 18446744073709551616) (hb0 : 0 ≤ b) (hb : b < 18446744073709551616) (h : ∀ j, j < 64 → tb a j = tb b j) : a = b := by
  have hn : a.toNat = b.toNat := by
    apply Nat.eq_of_testBit_eq
    intro j
    by_cases hj : j < 64
    · exact h j hj
    · have h1 := tb_high ha0 ha (j := j) (by omega)
      have h2 := tb_high hb0 hb (j := j) (by omega)
      unfold tb at h1 h2
      rw [h1, h2]
  omega
theorem words_ext {xs ys : List Int} {n : Nat} (hx : Wd xs) (hy : Wd ys) (h1 : xs.length = n) (h2 : ys.length = n) (h : ∀ k, k < 64 * n → gb xs k = gb ys k) : xs = ys := by
  apply List.ext_getElem (by omega)
  intro i hi1 hi2
  have e1 : xs.getD i 0 = xs[i] := by simp [hi1]
  have e2 : ys.getD i 0 = ys[i] := by simp [hi2]
  rw [← e1, ← e2]
  apply tb_ext (hx i).1 (hx i).2 (hy i).1 (hy i).2
  intro j hj
  have := h (64 * i + j) (by omega)
  unfold gb at this
  rw [show (64 * i + j) / 64 = i by omega, show (64 * i + j) % 64 = j by omega] at this
  exact this

/-- Two lists of words put together word by word. -/
def jn (op : BinOp) (xs ys : List Int) : List Int := List.zipWith (bits op .u64) xs ys
theorem jn_len (op : BinOp) (xs ys : List Int) {n : Nat} (h1 : xs.length = n) (h2 : ys.length = n) : (jn op xs ys).length = n := by simp [jn, h1, h2]
theorem jn_at (op : BinOp) (xs ys : List Int) {n i : Nat} (h1 : xs.length = n) (h2 : ys.length = n) (hi : i < n) : (jn op xs ys).getD i 0 = bits op .u64 (xs.getD i 0) (ys.getD i 0) := by
  have a1 : i < xs.length := by omega
  have a2 : i < ys.length := by omega
  have e1 : xs.getD i 0 = xs[i] := by simp [a1]
  have e2 : ys.getD i 0 = ys[i] := by simp [a2]
  have hl : i < (List.zipWith (bits op .u64) xs ys).length := by simp [h1, h2, hi]
  have e3 : (jn op xs ys).getD i 0 = (List.zipWith (bits op .u64) xs ys)[i] := by
    unfold jn
    rw [List.getD_eq_getElem?_getD, List.getElem?_eq_getElem hl]; rfl
  rw [e1, e2, e3, List.getElem_zipWith]
theorem jn_words (op : BinOp) (xs ys : List Int) {n : Nat} (h1 : xs.length = n) (h2 : ys.length = n) : Wd (jn op xs ys) := by
  intro i
  by_cases hi : i < n
  · rw [jn_at op xs ys h1 h2 hi]
    have := bits_hi_u64 op (xs.getD i 0) (ys.getD i 0)
    exact ⟨bits_lo_u64 _ _ _, by omega⟩
  · have : (jn op xs ys).getD i 0 = 0 := by
      have hl := jn_len op xs ys h1 h2
      rw [List.getD_eq_getElem?_getD, List.getElem?_eq_none (by omega)]; rfl
    rw [this]; decide
theorem gb_or {xs ys : List Int} {n k : Nat} (h1 : xs.length = n) (h2 : ys.length = n) (hx : Wd xs) (hy : Wd ys) (hk : k < 64 * n) : gb (jn .or xs ys) k = (gb xs k || gb ys k) := by
  unfold gb
  rw [jn_at .or xs ys h1 h2 (by omega), tb_or (hx _).1 (hx _).2 (hy _).1 (hy _).2]
theorem gb_and {xs ys : List Int} {n k : Nat} (h1 : xs.length = n) (h2 : ys.length = n) (hx : Wd xs) (hy : Wd ys) (hk : k < 64 * n) : gb (jn .and xs ys) k = (gb xs k && gb ys k) := by
  unfold gb
  rw [jn_at .and xs ys h1 h2 (by omega), tb_and (hx _).1 (hx _).2 (hy _).1 (hy _).2]
theorem gb_less {xs ys : List Int} {n k : Nat} (h1 : xs.length = n) (h2 : ys.length = n) (hx : Wd xs) (hy : Wd ys) (hk : k < 64 * n) : gb (jn .andNot xs ys) k = (gb xs k && !gb ys k) := by
  unfold gb
  rw [jn_at .andNot xs ys h1 h2 (by omega), tb_andNot (hx _).1 (hx _).2 (hy _).1 (hy _).2]

/-- The numbers from s on, below N, that c takes. -/
def rs (c : Nat → Bool) (s N : Nat) : List Nat := (List.range' s (N - s)).filter c
theorem rs_end (c : Nat → Bool) (N : Nat) : rs c N N = [] := by simp [rs]
theorem rs_one (c : Nat → Bool) (s N : Nat) (h : s < N) : rs c s N = if c s then s :: rs c (s + 1) N else rs c (s + 1) N := by
  unfold rs
  rw [show N - s = (N - (s + 1)) + 1 by omega, List.range'_succ, List.filter_cons]
theorem rs_skip (c : Nat → Bool) (N : Nat) : ∀ (d s : Nat), s + d ≤ N → (∀ k, s ≤ k → k < s + d → c k = false) → rs c s N = rs c (s + d) N := by
  intro d
  induction d with
  | zero => intro s _ _; rfl
  | succ d ih =>
    intro s hN hf
    rw [rs_one c s N (by omega), hf s (Nat.le_refl _) (by omega)]
    have := ih (s + 1) (by omega) (fun k h1 h2 => hf k (by omega) (by omega))
    rw [show s + 1 + d = s + (d + 1) by omega] at this
    simpa using this
theorem rs_next (c : Nat → Bool) (N d s : Nat) (hN : s + d < N) (hf : ∀ k, s ≤ k → k < s + d → c k = false) (ht : c (s + d) = true) : rs c s N = (s + d) :: rs c (s + d + 1) N := by
  rw [rs_skip c N d s (by omega) hf, rs_one c (s + d) N hN, ht]
  rfl
theorem rs_lt {c : Nat → Bool} {s N k : Nat} (h : k ∈ rs c s N) : s ≤ k ∧ k < N ∧ c k = true := by
  unfold rs at h
  rw [List.mem_filter, List.mem_range'] at h
  obtain ⟨⟨i, h1, h2⟩, h3⟩ := h
  exact ⟨by omega, by omega, h3⟩
theorem rs_nil {c : Nat → Bool} {s N : Nat} (h : ∀ k, s ≤ k → k < N → c k = false) : rs c s N = [] := by
  apply List.eq_nil_iff_forall_not_mem.2
  intro k hk
  have := rs_lt hk
  rw [h k this.1 this.2.1] at this
  exact absurd this.2.2 (by simp)
theorem rs_cong {c d : Nat → Bool} {N : Nat} (h : ∀ k, k < N → c k = d k) (s : Nat) : rs c s N = rs d s N := by
  unfold rs
  apply List.filter_congr
  intro k hk
  rw [List.mem_range'] at hk
  obtain ⟨i, h1, h2⟩ := hk
  exact h k (by omega)

/-- The lowest bit of a word that is not 0. -/
def low (z : Int) : Nat := Lib.ctz 64 z.toNat
theorem low_form {w : Nat} (h0 : w ≠ 0) (h1 : w < 18446744073709551616) : ∃ m, w = 2 ^ Lib.ctz 64 w * (2 * m + 1) ∧ Lib.ctz 64 w < 64 := by
  have := Lib.ctzFrom_spec 64 w (by omega) (by omega)
  simpa [Lib.ctz, h0] using this
theorem nat_low (q m j : Nat) : (2 ^ q * (2 * m + 1)).testBit j = (decide (q ≤ j) && (2 * m + 1).testBit (j - q)) := by
  rw [Nat.mul_comm, Nat.testBit_mul_two_pow]
theorem nat_clear (q m j : Nat) : ((2 ^ q * (2 * m + 1)) &&& (2 ^ q * (2 * m + 1) - 1)).testBit j = (!decide (j = q) && (2 ^ q * (2 * m + 1)).testBit j) := by
  have hp : 0 < 2 ^ q := Nat.two_pow_pos q
  have e : 2 ^ q * (2 * m + 1) - 1 = 2 ^ q * (2 * m) + (2 ^ q - 1) := by
    rw [Nat.mul_add, Nat.mul_one]; omega
  rw [Nat.testBit_and, e, nat_low, Nat.testBit_two_pow_mul_add _ (by omega)]
  by_cases h1 : j < q
  · have : ¬ q ≤ j := by omega
    simp [this]
  · by_cases h2 : j = q
    · subst h2
      simp [Nat.testBit_zero]
    · obtain ⟨t, rfl⟩ : ∃ t, j = q + (t + 1) := ⟨j - q - 1, by omega⟩
      have e3 : q + (t + 1) - q = t + 1 := by omega
      have hne : ¬ (q + (t + 1) = q) := by omega
      simp only [h1, if_false, e3, Nat.testBit_succ, hne, decide_false, Bool.not_false, Bool.true_and]
      have d1 : (2 * m + 1) / 2 = m := by omega
      have d2 : 2 * m / 2 = m := by omega
      rw [d1, d2]
      simp
theorem low_is {z : Int} (h0 : 0 < z) (h1 : z < 18446744073709551616) : low z < 64 ∧ tb z (low z) = true ∧ (∀ j, j < low z → tb z j = false) ∧ (∀ j, tb (bits .and .u64 z (z - 1)) j = (!decide (j = low z) && tb z j)) ∧ 0 ≤ bits .and .u64 z (z - 1) ∧ bits .and .u64 z (z - 1) < z := by
  obtain ⟨w, rfl⟩ := Int.eq_ofNat_of_zero_le (Int.le_of_lt h0)
  obtain ⟨m, hm, hq⟩ := low_form (w := w) (by omega) (by omega)
  have hz : ((w : Int) - 1) = ((w - 1 : Nat) : Int) := by omega
  have hb : bits .and .u64 (w : Int) ((w : Int) - 1) = ((w &&& (w - 1) : Nat) : Int) := by
    rw [hz, bits_and_u64_nat w (w - 1) (by omega) (by omega)]
  have hle : w &&& (w - 1) ≤ w - 1 := Nat.and_le_right
  have hl : low (w : Int) = Lib.ctz 64 w := by unfold low; rw [Int.toNat_natCast]
  obtain ⟨q, hqe⟩ : ∃ q, q = Lib.ctz 64 w := ⟨_, rfl⟩
  rw [← hqe] at hl hm hq
  rw [hl, hb]
  refine ⟨hq, ?_, ?_, ?_, by omega, by omega⟩
  · unfold tb; rw [Int.toNat_natCast, hm, nat_low]; simp [Nat.testBit_zero]
  · intro j hj
    unfold tb; rw [Int.toNat_natCast, hm, nat_low]
    have : ¬ q ≤ j := by omega
    simp [this]
  · intro j
    unfold tb; rw [Int.toNat_natCast, Int.toNat_natCast, hm]
    exact nat_clear q m j

/-- What is left of a word: the bits from p on. -/
def Left (w z : Int) (p : Nat) : Prop := 0 ≤ w ∧ w < 18446744073709551616 ∧ p ≤ 64 ∧ ∀ j, tb w j = (decide (p ≤ j) && tb z j)
theorem left_start {z : Int} (h0 : 0 ≤ z) (h1 : z < 18446744073709551616) : Left z z 0 := ⟨h0, h1, by omega, fun j => by simp⟩
theorem left_none {w : Int} {zs : List Int} {i n p : Nat} (h : Left w (zs.getD i 0) p) (hi : i < n) (hw : w = 0) : rs (gb zs) (64 * i + p) (64 * n) = rs (gb zs) (64 * (i + 1)) (64 * n) := by
  obtain ⟨h0, h1, hp, hj⟩ := h
  have := rs_skip (gb zs) (64 * n) (64 - p) (64 * i + p) (by omega) fun k hk1 hk2 => by
    have := hj (k - 64 * i)
    rw [hw, tb_zero] at this
    have hd : decide (p ≤ k - 64 * i) = true := by simp; omega
    rw [hd, Bool.true_and] at this
    unfold gb
    rw [show k / 64 = i by omega, show k % 64 = k - 64 * i by omega]
    exact this.symm
  rw [this]
  congr 1
  omega
theorem left_next {w : Int} {zs : List Int} {i n p : Nat} (h : Left w (zs.getD i 0) p) (hi : i < n) (hw : w ≠ 0) :
    rs (gb zs) (64 * i + p) (64 * n) = (64 * i + low w) :: rs (gb zs) (64 * i + (low w + 1)) (64 * n) ∧ low w < 64 ∧ Left (bits .and .u64 w (w - 1)) (zs.getD i 0) (low w + 1) ∧ bits .and .u64 w (w - 1) < w := by
  obtain ⟨h0, h1, hp, hj⟩ := h
  obtain ⟨l1, l2, l3, l4, l5, l6⟩ := low_is (z := w) (by omega) h1
  have hpl : p ≤ low w := by
    have := hj (low w)
    rw [l2] at this
    have h := this.symm
    rw [Bool.and_eq_true, decide_eq_true_iff] at h
    exact h.1
  refine ⟨?_, l1, ⟨l5, by omega, by omega, ?_⟩, l6⟩
  · have := rs_next (gb zs) (64 * n) (low w - p) (64 * i + p) (by omega) (fun k hk1 hk2 => by
      have h2 := hj (k - 64 * i)
      rw [l3 _ (by omega)] at h2
      have hd : decide (p ≤ k - 64 * i) = true := by simp; omega
      rw [hd, Bool.true_and] at h2
      unfold gb
      rw [show k / 64 = i by omega, show k % 64 = k - 64 * i by omega]
      exact h2.symm) (by
      have h2 := hj (low w)
      rw [l2] at h2
      have hd : decide (p ≤ low w) = true := by simpa using hpl
      rw [hd, Bool.true_and] at h2
      unfold gb
      rw [show (64 * i + p + (low w - p)) / 64 = i by omega, show (64 * i + p + (low w - p)) % 64 = low w by omega]
      exact h2.symm)
    rw [this]
    congr 1
    · omega
    · congr 1; omega
  · intro j
    rw [l4, hj j]
    by_cases e : j = low w
    · subst e
      have : ¬ low w + 1 ≤ low w := by omega
      simp [this]
    · by_cases e2 : j < low w
      · have h3 := l3 j e2
        rw [hj j] at h3
        have : ¬ low w + 1 ≤ j := by omega
        rw [h3, decide_eq_false this, Bool.and_false, Bool.false_and]
      · have a1 : p ≤ j := by omega
        have a2 : low w + 1 ≤ j := by omega
        simp [e, a1, a2]
end Go.Proofs.YtddjmhfcaeckgaaDoor
