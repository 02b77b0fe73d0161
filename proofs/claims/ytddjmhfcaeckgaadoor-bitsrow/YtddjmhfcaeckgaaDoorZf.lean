import Derived.Test.YtddjmhfcaeckgaaDoorZe
import Derived.Test.YtddjmhfcaeckgaaDoorX
import Derived.Test.YtddjmhfcaeckgaaDoorV
import Derived.Test.YtddjmhfcaeckgaaDoorS
namespace Go.Proofs.YtddjmhfcaeckgaaDoor
open Go.RowKit
set_option linter.unusedVariables false
set_option linter.unusedSimpArgs false

theorem getB_gb (zs : List Int) (k : Nat) (hw : Words zs) : getB zs (k : Int) = gb zs k := by
  rw [getB_is zs k hw]
  unfold gb tb
  rw [show ((k : Int) / 64).toNat = k / 64 by omega, show ((k : Int) % 64).toNat = k % 64 by omega]
  obtain ⟨m, hm⟩ := Int.eq_ofNat_of_zero_le (hw (k / 64)).1
  rw [hm, Int.toNat_natCast, Nat.testBit_eq_decide_div_mod_eq, bitOf_nat]
  by_cases h : m / 2 ^ (k % 64) % 2 = 1
  · rw [h]; rfl
  · have h' : m / 2 ^ (k % 64) % 2 = 0 := by omega
    rw [h']; rfl
theorem wd_of {zs : List Int} (h : Words zs) : Wd zs := h
/-- Behind its width a row that may be has no bits. -/
theorem mayB_high {xn k : Nat} {zs : List Int} (hy : mayB (xn : Int) zs = true) (hw : Words zs) (h1 : xn ≤ k) (h2 : k < 64 * zs.length) : gb zs k = false := by
  obtain ⟨w1, w2, w3⟩ := mayB_width hy
  simp [mayB] at hy
  unfold gb
  rcases hy.2 with h | h
  · omega
  · have e : (((xn : Int)) % 64).toNat = xn % 64 := by omega
    rw [e] at h
    have hk : k / 64 = zs.length - 1 := by omega
    rw [hk]
    obtain ⟨m, hm⟩ := Int.eq_ofNat_of_zero_le (hw (zs.length - 1)).1
    have hm' : zs[zs.length - 1]?.getD 0 = (m : Int) := by simpa using hm
    rw [hm', div_nat] at h
    rw [hm]
    unfold tb
    rw [Int.toNat_natCast]
    apply Nat.testBit_lt_two_pow
    have h' : m / 2 ^ (xn % 64) = 0 := by omega
    have hlt : m < 2 ^ (xn % 64) := by
      rcases Nat.lt_or_ge m (2 ^ (xn % 64)) with h3 | h3
      · exact h3
      · have := Nat.div_pos h3 (Nat.two_pow_pos (xn % 64)); omega
    have : 2 ^ (xn % 64) ≤ 2 ^ (k % 64) := Nat.pow_le_pow_right (by omega) (by omega)
    omega

/-- The words behind k bits, where c says which are set. -/
def build (c : Nat → Bool) (n : Nat) : Nat → List Int
  | 0 => List.replicate n 0
  | k + 1 => putW (c k) (build c n k) k
theorem build_len (c : Nat → Bool) (n : Nat) : ∀ k, (build c n k).length = n := by
  intro k
  induction k with
  | zero => simp [build]
  | succ k ih => unfold build putW; split <;> simp [turn1, ih]
theorem wd_zero (n : Nat) : Wd (List.replicate n 0) := by
  intro i
  have : (List.replicate n (0 : Int)).getD i 0 = 0 := by
    rw [List.getD_eq_getElem?_getD, List.getElem?_replicate]
    split <;> rfl
  rw [this]; decide
theorem wd_set {zs : List Int} (h : Wd zs) (i : Nat) {z : Int} (h0 : 0 ≤ z) (h1 : z < 18446744073709551616) : Wd (zs.set i z) := by
  intro j
  rw [List.getD_eq_getElem?_getD, List.getElem?_set]
  have := h j
  rw [List.getD_eq_getElem?_getD] at this
  split
  · split
    · exact ⟨h0, h1⟩
    · exact ⟨by simp, by simp⟩
  · exact this
theorem wd_turn {zs : List Int} (h : Wd zs) (op : BinOp) (k : Int) : Wd (turn1 (bits op .u64) zs k) := by
  unfold turn1
  have := bits_hi_u64 op (zs.getD (k / 64).toNat 0) (wbit k)
  exact wd_set h _ (bits_lo_u64 _ _ _) (by omega)
theorem build_words (c : Nat → Bool) (n : Nat) : ∀ k, Wd (build c n k) := by
  intro k
  induction k with
  | zero => exact wd_zero n
  | succ k ih =>
    unfold build putW
    split
    · exact wd_turn ih _ _
    · exact ih
theorem tb_wbit (m i : Nat) : tb (wbit (m : Int)) i = decide (m % 64 = i) := by
  unfold tb wbit
  rw [show ((m : Int) % 64).toNat = m % 64 by omega]
  have : ((2 : Int) ^ (m % 64)) = ((2 ^ (m % 64) : Nat) : Int) := by simp
  rw [this, Int.toNat_natCast, Nat.testBit_two_pow]
theorem gb_set {zs : List Int} {q : Nat} (hq : q < zs.length) (z : Int) (k : Nat) : gb (zs.set q z) k = if k / 64 = q then tb z (k % 64) else gb zs k := by
  unfold gb
  rw [List.getD_eq_getElem?_getD, List.getElem?_set]
  by_cases h : q = k / 64
  · subst h; simp [hq]
  · have h' : ¬ k / 64 = q := fun e => h e.symm
    simp [h, h']
theorem gb_turn {zs : List Int} {n m k : Nat} (hw : Wd zs) (hl : zs.length = n) (hm : m < 64 * n) (hk : k < 64 * n) : gb (turn1 (bits .or .u64) zs (m : Int)) k = (decide (k = m) || gb zs k) := by
  unfold turn1
  rw [show ((m : Int) / 64).toNat = m / 64 by omega, gb_set (by omega)]
  have hb := wbit_lt (m : Int)
  split
  · rename_i h
    rw [tb_or (hw _).1 (hw _).2 hb.1 hb.2, tb_wbit]
    unfold gb
    rw [h, Bool.or_comm]
    congr 1
    by_cases e : k = m
    · subst e; simp
    · have : ¬ m % 64 = k % 64 := by omega
      simp [e, this]
  · rename_i h
    have : ¬ k = m := fun e => h (by rw [e])
    simp [this]
theorem gb_zero (n k : Nat) : gb (List.replicate n 0) k = false := by
  unfold gb
  have : (List.replicate n (0 : Int)).getD (k / 64) 0 = 0 := by
    rw [List.getD_eq_getElem?_getD, List.getElem?_replicate]
    split <;> rfl
  rw [this, tb_zero]
theorem gb_build (c : Nat → Bool) {n k : Nat} (hk : k < 64 * n) : ∀ m, m ≤ 64 * n → gb (build c n m) k = (decide (k < m) && c k) := by
  intro m
  induction m with
  | zero => intro _; simp [build, gb_zero]
  | succ m ih =>
    intro hm
    have ih' := ih (by omega)
    unfold build putW
    by_cases e : k = m
    · subst e
      cases hc : c k
      · simp [ih', hc]
      · simp [gb_turn (build_words c n k) (build_len c n k) (by omega : k < 64 * n) hk]
    · have e1 : decide (k < m + 1) = decide (k < m) := by
        by_cases h : k < m
        · simp [h]; omega
        · simp [h]; omega
      rw [e1]
      split
      · rw [gb_turn (build_words c n m) (build_len c n m) (by omega) hk, ih']
        simp [e]
      · exact ih'

/-- What the bit of a row put together is: how 0 or, 1 and, 2 less. -/
def cj (how : Nat) (p q : Bool) : Bool := match how with
  | 0 => p || q
  | 1 => p && q
  | _ => p && !q
/-- The words of a row put together, by the way. -/
def opj (how : Nat) : BinOp := match how with
  | 0 => .or
  | 1 => .and
  | _ => .andNot
theorem gb_jn {xs ys : List Int} {n k : Nat} (how : Nat) (h1 : xs.length = n) (h2 : ys.length = n) (hx : Wd xs) (hy : Wd ys) (hk : k < 64 * n) : gb (jn (opj how) xs ys) k = cj how (gb xs k) (gb ys k) := by
  unfold opj cj
  split
  · exact gb_or h1 h2 hx hy hk
  · exact gb_and h1 h2 hx hy hk
  · exact gb_less h1 h2 hx hy hk
theorem join_eq {xn n : Nat} {zs ys : List Int} (how : Nat) (hz : zs.length = n) (hy : ys.length = n) (hwz : Words zs) (hwy : Words ys) (hmz : mayB (xn : Int) zs = true) (hmy : mayB (xn : Int) ys = true) :
    jn (opj how) zs ys = build (fun k => cj how (gb zs k) (gb ys k)) n xn := by
  obtain ⟨w1, w2, w3⟩ := mayB_width hmz
  have hxn : xn ≤ 64 * n := by omega
  refine words_ext (n := n) (jn_words _ _ _ hz hy) (build_words _ _ _) (jn_len _ _ _ hz hy) (build_len _ _ _) fun k hk => ?_
  rw [gb_jn how hz hy hwz hwy hk, gb_build _ hk xn hxn]
  by_cases h : k < xn
  · simp [h]
  · have a1 := mayB_high hmz hwz (k := k) (by omega) (by omega)
    have a2 := mayB_high hmy hwy (k := k) (by omega) (by omega)
    simp only [h, decide_false, Bool.false_and, a1, a2]
    unfold cj
    split <;> rfl

/-- May both be, of one width? -/
def bothB (x y : Int) (zs ys : List Int) : Bool := mayB x zs && mayB y ys && decide (x = y)
/-- The width, the words and the error of what is answered where two rows are put together. -/
def jx (x y : Int) (zs ys : List Int) : Int := if bothB x y zs ys then x else 0
def jz (how : Nat) (x y : Int) (zs ys : List Int) : List Int := if bothB x y zs ys then jn (opj how) zs ys else []
def je (x y : Int) (zs ys : List Int) : Int := if bothB x y zs ys then 0 else 2
theorem both_parts {x y : Int} {zs ys : List Int} (h : bothB x y zs ys = true) : mayB x zs = true ∧ mayB y ys = true ∧ x = y ∧ zs.length = ys.length := by
  unfold bothB at h
  rw [Bool.and_eq_true, Bool.and_eq_true, decide_eq_true_iff] at h
  obtain ⟨⟨h1, h2⟩, h3⟩ := h
  have a := mayB_width h1
  have b := mayB_width h2
  exact ⟨h1, h2, h3, by omega⟩
theorem jz_len (how : Nat) (x y : Int) (zs ys : List Int) : (jz how x y zs ys).length ≤ 17 := by
  unfold jz
  split
  · rename_i h
    obtain ⟨h1, h2, h3, h4⟩ := both_parts h
    have := mayB_width h1
    rw [jn_len _ _ _ h4 rfl]
    omega
  · simp
end Go.Proofs.YtddjmhfcaeckgaaDoor
