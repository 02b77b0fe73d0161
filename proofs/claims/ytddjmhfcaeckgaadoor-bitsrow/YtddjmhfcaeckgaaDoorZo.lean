import Derived.Laws.Bits64b
import Derived.Laws.Closers25b
namespace Go.Proofs.YtddjmhfcaeckgaaDoor
set_option linter.unusedVariables false
set_option linter.unusedSimpArgs false

theorem and_split (x c d m : Nat) (hc : c < 2 ^ m) : x &&& (c + 2 ^ m * d) = (x % 2 ^ m &&& c) + 2 ^ m * (x / 2 ^ m &&& d) := by
  apply Nat.eq_of_testBit_eq
  intro i
  have hl : (x % 2 ^ m &&& c) < 2 ^ m := Nat.lt_of_le_of_lt Nat.and_le_right hc
  rw [Nat.testBit_and, Nat.add_comm c, Nat.testBit_two_pow_mul_add _ hc, Nat.add_comm (x % 2 ^ m &&& c), Nat.testBit_two_pow_mul_add _ hl]
  by_cases h : i < m
  · simp only [h, if_true, Nat.testBit_and, Nat.testBit_mod_two_pow, decide_true, Bool.true_and]
  · simp only [h, if_false, Nat.testBit_and, Nat.testBit_div_two_pow]
    rw [show i - m + m = i by omega]

/-- The even fields of k bits, n of them. -/
def evens (k : Nat) : Nat → Nat → Nat
  | 0, _ => 0
  | n + 1, x => x % 2 ^ k + 2 ^ (k + k) * evens k n (x / 2 ^ (k + k))
/-- Their mask. -/
def mask (k : Nat) : Nat → Nat
  | 0 => 0
  | n + 1 => (2 ^ k - 1) + 2 ^ (k + k) * mask k n
theorem pow_dbl (k : Nat) : 2 ^ (k + k) = 2 ^ k * 2 ^ k := Nat.pow_add 2 k k
theorem mod_low (x k : Nat) : x % 2 ^ (k + k) % 2 ^ k = x % 2 ^ k := Nat.mod_mod_of_dvd _ (by rw [pow_dbl]; exact Nat.dvd_mul_right _ _)
theorem and_mask (k : Nat) : ∀ n x, x &&& mask k n = evens k n x := by
  intro n
  induction n with
  | zero => intro x; simp [mask, evens]
  | succ n ih =>
    intro x
    have hp : 0 < 2 ^ k := Nat.two_pow_pos k
    have hle : 2 ^ k ≤ 2 ^ (k + k) := Nat.pow_le_pow_right (by omega) (by omega)
    unfold mask evens
    rw [and_split x _ _ (k + k) (by omega), ih, Nat.and_two_pow_sub_one_eq_mod, mod_low]
/-- Two neighbours added up, in fields of twice as many bits. -/
def step (k n x : Nat) : Nat := evens k n (x / 2 ^ k) + evens k n x
/-- All n fields of k bits, added up. -/
def dsum (k : Nat) : Nat → Nat → Nat
  | 0, _ => 0
  | n + 1, x => x % 2 ^ k + dsum k n (x / 2 ^ k)
/-- Each of the n fields of k bits is at most m. -/
def flds (k m : Nat) : Nat → Nat → Prop
  | 0, _ => True
  | n + 1, x => x % 2 ^ k ≤ m ∧ flds k m n (x / 2 ^ k)
theorem dsum_succ (k n x : Nat) : dsum k (n + 1) x = x % 2 ^ k + dsum k n (x / 2 ^ k) := rfl
theorem step_succ (k n x : Nat) : step k (n + 1) x = (x / 2 ^ k % 2 ^ k + x % 2 ^ k) + 2 ^ (k + k) * step k n (x / 2 ^ (k + k)) := by
  unfold step
  show (x / 2 ^ k % 2 ^ k + 2 ^ (k + k) * evens k n (x / 2 ^ k / 2 ^ (k + k))) + (x % 2 ^ k + 2 ^ (k + k) * evens k n (x / 2 ^ (k + k))) = _
  have e : x / 2 ^ k / 2 ^ (k + k) = x / 2 ^ (k + k) / 2 ^ k := by rw [Nat.div_div_eq_div_mul, Nat.div_div_eq_div_mul, Nat.mul_comm]
  rw [e, Nat.mul_add]
  omega
theorem pair_lt (k x : Nat) (hk : 1 ≤ k) : x / 2 ^ k % 2 ^ k + x % 2 ^ k < 2 ^ (k + k) := by
  have hp : 0 < 2 ^ k := Nat.two_pow_pos k
  have h1 := Nat.mod_lt (x / 2 ^ k) hp
  have h2 := Nat.mod_lt x hp
  have h3 : 2 ^ 1 ≤ 2 ^ k := Nat.pow_le_pow_right (by omega) hk
  have h4 : 2 * 2 ^ k ≤ 2 ^ k * 2 ^ k := Nat.mul_le_mul_right _ h3
  rw [pow_dbl]
  omega
theorem step_mod (k n x : Nat) (hk : 1 ≤ k) : step k (n + 1) x % 2 ^ (k + k) = x / 2 ^ k % 2 ^ k + x % 2 ^ k := by
  rw [step_succ, Nat.add_mul_mod_self_left]
  exact Nat.mod_eq_of_lt (pair_lt k x hk)
theorem step_div (k n x : Nat) (hk : 1 ≤ k) : step k (n + 1) x / 2 ^ (k + k) = step k n (x / 2 ^ (k + k)) := by
  rw [step_succ, Nat.add_mul_div_left _ _ (Nat.two_pow_pos _), Nat.div_eq_of_lt (pair_lt k x hk), Nat.zero_add]
theorem div_dbl (k x : Nat) : x / 2 ^ k / 2 ^ k = x / 2 ^ (k + k) := by rw [Nat.div_div_eq_div_mul, pow_dbl]
theorem step_sum (k : Nat) (hk : 1 ≤ k) : ∀ n x, dsum (k + k) n (step k n x) = dsum k (n + n) x := by
  intro n
  induction n with
  | zero => intro x; rfl
  | succ n ih =>
    intro x
    rw [show n + 1 + (n + 1) = (n + n) + 1 + 1 by omega]
    rw [dsum_succ, step_mod k n x hk, step_div k n x hk, ih, dsum_succ, dsum_succ, div_dbl]
    omega
theorem step_flds (k m : Nat) (hk : 1 ≤ k) : ∀ n x, flds k m (n + n) x → flds (k + k) (m + m) n (step k n x) := by
  intro n
  induction n with
  | zero => intro x _; trivial
  | succ n ih =>
    intro x h
    rw [show n + 1 + (n + 1) = (n + n) + 1 + 1 by omega] at h
    obtain ⟨h1, h2, h3⟩ := h
    rw [div_dbl] at h3
    refine ⟨?_, ?_⟩
    · rw [step_mod k n x hk]; omega
    · rw [step_div k n x hk]; exact ih _ h3
theorem step_lt (k : Nat) (hk : 1 ≤ k) : ∀ n x, step k n x < 2 ^ ((k + k) * n) := by
  intro n
  induction n with
  | zero => intro x; simp [step, evens]
  | succ n ih =>
    intro x
    have h1 := ih (x / 2 ^ (k + k))
    have h2 := pair_lt k x hk
    have e : 2 ^ ((k + k) * (n + 1)) = 2 ^ ((k + k) * n) * 2 ^ (k + k) := by rw [Nat.mul_succ, Nat.pow_add]
    rw [e, step_succ]
    generalize 2 ^ ((k + k) * n) = A at *
    generalize 2 ^ (k + k) = B at *
    generalize step k n (x / B) = s at *
    generalize x / 2 ^ k % 2 ^ k + x % 2 ^ k = t at *
    have h3 : B * (s + 1) ≤ B * A := Nat.mul_le_mul_left _ h1
    rw [Nat.mul_add, Nat.mul_one] at h3
    rw [Nat.mul_comm A B]
    omega
theorem flds_ext (k m : Nat) : ∀ n x, x < 2 ^ (k * n) → flds k m n x → flds k m (n + 1) x := by
  intro n
  induction n with
  | zero =>
    intro x hx _
    simp at hx
    subst hx
    exact ⟨by simp, trivial⟩
  | succ n ih =>
    intro x hx h
    refine ⟨h.1, ih _ ?_ h.2⟩
    rw [Nat.mul_succ, Nat.pow_add] at hx
    exact Nat.div_lt_of_lt_mul (by rw [Nat.mul_comm]; exact hx)
theorem flds_mono (k m m' : Nat) (hm : m ≤ m') : ∀ n x, flds k m n x → flds k m' n x := by
  intro n
  induction n with
  | zero => intro x _; trivial
  | succ n ih => intro x h; exact ⟨Nat.le_trans h.1 hm, ih _ h.2⟩
/-- With small nibbles nothing is carried. -/
theorem nib_step : ∀ n x, flds 4 7 (n + n + 1) x → (x / 16 + x) &&& mask 4 n = step 4 n x := by
  intro n
  induction n with
  | zero => intro x _; simp [mask, step, evens]
  | succ n ih =>
    intro x h
    rw [show n + 1 + (n + 1) + 1 = (n + n + 1) + 1 + 1 by omega] at h
    obtain ⟨h1, h2, h3⟩ := h
    rw [div_dbl] at h3
    have hy := ih (x / 2 ^ (4 + 4)) h3
    have h4 : x / 2 ^ (4 + 4) % 2 ^ 4 ≤ 7 := h3.1
    rw [step_succ]
    show (x / 16 + x) &&& ((2 ^ 4 - 1) + 2 ^ (4 + 4) * mask 4 n) = _
    rw [and_split _ _ _ (4 + 4) (by decide), Nat.and_two_pow_sub_one_eq_mod, mod_low]
    have e1 : (x / 16 + x) / 2 ^ (4 + 4) = x / 2 ^ (4 + 4) / 16 + x / 2 ^ (4 + 4) := by
      simp only [Nat.reducePow, Nat.reduceAdd] at *
      have hb : x / 16 = x / 16 % 16 + 16 * (x / 256) := by omega
      have ha : x = x % 16 + 16 * (x / 16 % 16) + 256 * (x / 256) := by omega
      generalize x / 16 % 16 = b at *
      generalize x % 16 = a at *
      generalize x / 256 = y at *
      rw [hb]
      omega
    rw [e1, hy]
    congr 1
    simp only [Nat.reducePow, Nat.reduceAdd] at *
    omega
/-- A number by its bytes. -/
def horn : List Nat → Nat
  | [] => 0
  | c :: t => c + 256 * horn t
def digs : Nat → Nat → List Nat
  | 0, _ => []
  | n + 1, x => x % 256 :: digs n (x / 256)
theorem horn_digs : ∀ n x, x < 256 ^ n → horn (digs n x) = x := by
  intro n
  induction n with
  | zero => intro x h; simp at h; subst h; rfl
  | succ n ih =>
    intro x h
    show x % 256 + 256 * horn (digs n (x / 256)) = x
    rw [Nat.pow_succ] at h
    rw [ih _ (Nat.div_lt_of_lt_mul (by rw [Nat.mul_comm]; exact h))]
    omega
theorem horn_div (c : Nat) (t : List Nat) (h : c < 256) : horn (c :: t) / 256 = horn t := by
  show (c + 256 * horn t) / 256 = horn t
  omega
theorem horn_add (a b : Nat) (s t : List Nat) : horn (a :: s) + horn (b :: t) = (a + b) + 256 * (horn s + horn t) := by
  show (a + 256 * horn s) + (b + 256 * horn t) = _
  omega
theorem horn_nil (t : List Nat) : horn t + horn [] = horn t := rfl
theorem horn_cons (a : Nat) (t : List Nat) : a + 256 * horn t = horn (a :: t) := rfl
theorem horn_lt : ∀ l : List Nat, (∀ c ∈ l, c < 256) → horn l < 256 ^ l.length := by
  intro l
  induction l with
  | nil => intro _; simp [horn]
  | cons c t ih =>
    intro h
    have h1 := h c (by simp)
    have h2 := ih fun d hd => h d (by simp [hd])
    show c + 256 * horn t < 256 ^ (t.length + 1)
    rw [Nat.pow_succ]
    generalize 256 ^ t.length = A at *
    omega
theorem horn_lt2 : ∀ l : List Nat, (∀ c ∈ l, c < 128) → 2 * horn l < 256 ^ l.length := by
  intro l
  induction l with
  | nil => intro _; simp [horn]
  | cons c t ih =>
    intro h
    have h1 := h c (by simp)
    have h2 := ih fun d hd => h d (by simp [hd])
    show 2 * (c + 256 * horn t) < 256 ^ (t.length + 1)
    rw [Nat.pow_succ]
    generalize 256 ^ t.length = A at *
    omega
theorem fold_eight (c0 c1 c2 c3 c4 c5 c6 c7 : Nat) (h0 : c0 ≤ 8) (h1 : c1 ≤ 8) (h2 : c2 ≤ 8) (h3 : c3 ≤ 8) (h4 : c4 ≤ 8) (h5 : c5 ≤ 8) (h6 : c6 ≤ 8) (h7 : c7 ≤ 8) (x x4 x5 x6 : Nat) (hx : x = horn [c0, c1, c2, c3, c4, c5, c6, c7])
    (k4 : x4 = x + x / 256) (k5 : x5 = x4 + x4 / 65536) (k6 : x6 = x5 + x5 / 4294967296) :
    x4 < 18446744073709551616 ∧ x5 < 18446744073709551616 ∧ 2 * x6 < 18446744073709551616 ∧ x6 % 128 = c0 + c1 + c2 + c3 + c4 + c5 + c6 + c7 := by
  have e4 : x4 = horn [c0 + c1, c1 + c2, c2 + c3, c3 + c4, c4 + c5, c5 + c6, c6 + c7, c7] := by
    rw [k4, hx, horn_div _ _ (by omega)]
    simp only [horn_add, horn_nil, horn_cons]
  have e4' : x4 / 65536 = horn [c2 + c3, c3 + c4, c4 + c5, c5 + c6, c6 + c7, c7] := by
    rw [show (65536 : Nat) = 256 * 256 by decide, ← Nat.div_div_eq_div_mul, e4, horn_div _ _ (by omega), horn_div _ _ (by omega)]
  have e5 : x5 = horn [c0 + c1 + (c2 + c3), c1 + c2 + (c3 + c4), c2 + c3 + (c4 + c5), c3 + c4 + (c5 + c6), c4 + c5 + (c6 + c7), c5 + c6 + c7, c6 + c7, c7] := by
    rw [k5, e4', e4]
    simp only [horn_add, horn_nil, horn_cons]
  have e5' : x5 / 4294967296 = horn [c4 + c5 + (c6 + c7), c5 + c6 + c7, c6 + c7, c7] := by
    rw [show (4294967296 : Nat) = 256 * 256 * 256 * 256 by decide, ← Nat.div_div_eq_div_mul, ← Nat.div_div_eq_div_mul, ← Nat.div_div_eq_div_mul, e5, horn_div _ _ (by omega), horn_div _ _ (by omega), horn_div _ _ (by omega), horn_div _ _ (by omega)]
  have e6 : x6 = horn [c0 + c1 + (c2 + c3) + (c4 + c5 + (c6 + c7)), c1 + c2 + (c3 + c4) + (c5 + c6 + c7), c2 + c3 + (c4 + c5) + (c6 + c7), c3 + c4 + (c5 + c6) + c7, c4 + c5 + (c6 + c7), c5 + c6 + c7, c6 + c7, c7] := by
    rw [k6, e5', e5]
    simp only [horn_add, horn_nil, horn_cons]
  have l4 := horn_lt [c0 + c1, c1 + c2, c2 + c3, c3 + c4, c4 + c5, c5 + c6, c6 + c7, c7] (by intro c hc; simp at hc; omega)
  have l5 := horn_lt [c0 + c1 + (c2 + c3), c1 + c2 + (c3 + c4), c2 + c3 + (c4 + c5), c3 + c4 + (c5 + c6), c4 + c5 + (c6 + c7), c5 + c6 + c7, c6 + c7, c7] (by intro c hc; simp at hc; omega)
  have l6 := horn_lt2 [c0 + c1 + (c2 + c3) + (c4 + c5 + (c6 + c7)), c1 + c2 + (c3 + c4) + (c5 + c6 + c7), c2 + c3 + (c4 + c5) + (c6 + c7), c3 + c4 + (c5 + c6) + c7, c4 + c5 + (c6 + c7), c5 + c6 + c7, c6 + c7, c7] (by intro c hc; simp at hc; omega)
  rw [← e4] at l4
  rw [← e5] at l5
  rw [← e6] at l6
  simp only [List.length_cons, List.length_nil, Nat.zero_add, Nat.reduceAdd, Nat.reducePow] at l4 l5 l6
  refine ⟨l4, l5, l6, ?_⟩
  rw [e6]
  generalize [c1 + c2 + (c3 + c4) + (c5 + c6 + c7), c2 + c3 + (c4 + c5) + (c6 + c7), c3 + c4 + (c5 + c6) + c7, c4 + c5 + (c6 + c7), c5 + c6 + c7, c6 + c7, c7] = t
  show (c0 + c1 + (c2 + c3) + (c4 + c5 + (c6 + c7)) + 256 * horn t) % 128 = _
  omega
/-- The bytes of a word, added up by doubling. -/
theorem byte_fold (x : Nat) (h : flds 8 8 8 x) (hx : x < 18446744073709551616) (x4 x5 x6 : Nat) (h4 : x4 = x + x / 256) (h5 : x5 = x4 + x4 / 65536) (h6 : x6 = x5 + x5 / 4294967296) :
    x4 < 18446744073709551616 ∧ x5 < 18446744073709551616 ∧ 2 * x6 < 18446744073709551616 ∧ x6 % 128 = dsum 8 8 x := by
  simp only [flds, dsum, Nat.reducePow, and_true, Nat.add_zero] at h ⊢
  obtain ⟨b0, b1, b2, b3, b4, b5, b6, b7⟩ := h
  have hh := (horn_digs 8 x (by simp only [Nat.reducePow]; exact hx)).symm
  simp only [digs] at hh
  have := fold_eight _ _ _ _ _ _ _ _ b0 b1 b2 b3 b4 b5 b6 b7 x x4 x5 x6 hh h4 h5 h6
  refine ⟨this.1, this.2.1, this.2.2.1, ?_⟩
  rw [this.2.2.2]
  simp only [Nat.add_assoc]
theorem and_wrap (y m : Nat) (hm : m < 18446744073709551616) : y % 18446744073709551616 &&& m = y &&& m := by
  have := and_split y m 0 64 (by simp only [Nat.reducePow]; exact hm)
  simp only [Nat.mul_zero, Nat.add_zero, Nat.reducePow, Nat.and_zero] at this
  exact this.symm
theorem flds_one : ∀ n x, flds 1 1 n x := by
  intro n
  induction n with
  | zero => intro x; trivial
  | succ n ih => intro x; exact ⟨by omega, ih _⟩

/-- How many of the d numbers from s on c takes. -/
def cnt (c : Nat → Bool) (s : Nat) : Nat → Nat
  | 0 => 0
  | d + 1 => (if c s then 1 else 0) + cnt c (s + 1) d
theorem cnt_add (c : Nat → Bool) : ∀ d s e, cnt c s (d + e) = cnt c s d + cnt c (s + d) e := by
  intro d
  induction d with
  | zero => intro s e; simp [cnt]
  | succ d ih =>
    intro s e
    rw [show d + 1 + e = (d + e) + 1 by omega]
    show (if c s then 1 else 0) + cnt c (s + 1) (d + e) = (if c s then 1 else 0) + cnt c (s + 1) d + cnt c (s + (d + 1)) e
    rw [ih, show s + 1 + d = s + (d + 1) by omega]
    omega
theorem cnt_bits (c : Nat → Bool) : ∀ d s x, (∀ j, j < d → c (s + j) = x.testBit j) → cnt c s d = dsum 1 d x := by
  intro d
  induction d with
  | zero => intro s x _; rfl
  | succ d ih =>
    intro s x h
    have h0 := h 0 (by omega)
    rw [Nat.add_zero, Nat.testBit_zero] at h0
    have hr := ih (s + 1) (x / 2) fun j hj => by
      have := h (j + 1) (by omega)
      rw [show s + 1 + j = s + (j + 1) by omega, this, Nat.testBit_succ]
    show (if c s then 1 else 0) + cnt c (s + 1) d = x % 2 ^ 1 + dsum 1 d (x / 2 ^ 1)
    rw [show (2 : Nat) ^ 1 = 2 by decide, hr, h0]
    congr 1
    by_cases e : x % 2 = 1
    · simp [e]
    · have : x % 2 = 0 := by omega
      simp [this]
/-- Or and and, together, have as many bits as both. -/
theorem cnt_two {f g o a : Nat → Bool} : ∀ d s, (∀ k, s ≤ k → k < s + d → o k = (f k || g k) ∧ a k = (f k && g k)) → cnt o s d + cnt a s d = cnt f s d + cnt g s d := by
  intro d
  induction d with
  | zero => intro s _; rfl
  | succ d ih =>
    intro s h
    have hr := ih (s + 1) fun k h1 h2 => h k (by omega) (by omega)
    obtain ⟨h1, h2⟩ := h s (Nat.le_refl _) (by omega)
    show ((if o s then 1 else 0) + cnt o (s + 1) d) + ((if a s then 1 else 0) + cnt a (s + 1) d) = ((if f s then 1 else 0) + cnt f (s + 1) d) + ((if g s then 1 else 0) + cnt g (s + 1) d)
    rw [h1, h2]
    cases f s <;> cases g s <;> simp <;> omega
end Go.Proofs.YtddjmhfcaeckgaaDoor
