import Derived.Test.YtpnamkpoapcgeaaDoorKb
import Derived.Lib.ItoaNum
namespace Go.Proofs.YtpnamkpoapcgeaaDoor
set_option linter.unusedVariables false
set_option linter.unusedSimpArgs false

/-- The same by a recursion. -/
def rl (p : Nat → Bool) : Nat → List UInt8 → Nat
  | 0, _ => 0
  | _ + 1, [] => 0
  | n + 1, c :: r => if p c.toNat then rl p n r + 1 else 0
theorem rl_eq (p : Nat → Bool) : ∀ (n : Nat) (l : List UInt8), ((l.take n).takeWhile (fun c => p c.toNat)).length = rl p n l
  | 0, l => by simp [rl]
  | n + 1, [] => by simp [rl]
  | n + 1, c :: r => by
    have := rl_eq p n r
    simp only [List.take_succ_cons, List.takeWhile_cons, rl]
    split <;> simp_all
theorem rowLen_rl (p : Nat → Bool) (l : List UInt8) : rowLen p l = rl p 32 l := rl_eq p 32 l
theorem take_cons_inv {α : Type} {c : α} {r m : List α} {k : Nat} (h : (c :: r).take (k + 1) = m.take (k + 1)) : ∃ m', m = c :: m' ∧ r.take k = m'.take k := by
  cases m with
  | nil => simp at h
  | cons d m' =>
    simp only [List.take_succ_cons, List.cons.injEq] at h
    exact ⟨m', by rw [h.1], h.2⟩
theorem take_nil_inv {α : Type} {m : List α} {k : Nat} (h : ([] : List α).take (k + 1) = m.take (k + 1)) : m = [] := by
  cases m with
  | nil => rfl
  | cons d m' => simp at h
theorem rl_local (p : Nat → Bool) : ∀ (n : Nat) (l m : List UInt8), l.take (rl p n l + 1) = m.take (rl p n l + 1) → rl p n m = rl p n l
  | 0, l, m, _ => by simp [rl]
  | n + 1, [], m, h => by rw [take_nil_inv h]
  | n + 1, c :: r, m, h => by
    obtain ⟨m', rfl, h'⟩ := take_cons_inv h
    simp only [rl] at h' ⊢
    split
    · rename_i hp
      rw [if_pos hp] at h'
      rw [rl_local p n r m' h']
    · rfl
theorem take_shorter {α : Type} {l m : List α} {a b : Nat} (h : l.take b = m.take b) (hab : a ≤ b) : l.take a = m.take a := by
  have h1 := congrArg (List.take a) h
  rwa [List.take_take, List.take_take, Nat.min_eq_left hab] at h1
theorem rdRow_local {k : Nat} {p : Nat → Bool} {l m : List UInt8} (h : l.take (rowLen p l + 1) = m.take (rowLen p l + 1)) : rdRow k p m = rdRow k p l := by
  have h1 : rowLen p m = rowLen p l := by
    rw [rowLen_rl] at h
    rw [rowLen_rl, rowLen_rl]
    exact rl_local p 32 l m h
  have h2 : m.take (rowLen p l) = l.take (rowLen p l) := (take_shorter h (Nat.le_succ _)).symm
  have h3 : rowAt m (rowLen p l) = rowAt l (rowLen p l) := by
    unfold rowAt
    rw [List.head?_drop, List.head?_drop]
    have h4 := congrArg (fun x => x[rowLen p l]?) h
    simp only [List.getElem?_take, Nat.lt_succ_self, if_true] at h4
    rw [h4]
  unfold rdRow
  rw [h1, h2, h3]
theorem rdRow_far' (k : Nat) (p : Nat → Bool) (l : List UInt8) : (rdRow k p l).far = rowLen p l := by unfold rdRow; split <;> rfl
theorem intGo_ge' : ∀ (l : List UInt8) (v n : Nat), n ≤ (intGo v n l).far
  | [], v, n => by simp [intGo]
  | c :: r, v, n => by
    unfold intGo
    split
    · split
      · simp
      · split
        · simp
        · rename_i v' h
          have := intGo_ge' r v' (n + 1)
          omega
    · simp
theorem intGo_local : ∀ (l m : List UInt8) (v n : Nat), l.take ((intGo v n l).far - n + 1) = m.take ((intGo v n l).far - n + 1) → intGo v n m = intGo v n l
  | [], m, v, n, h => by rw [take_nil_inv h]
  | c :: r, m, v, n, h => by
    obtain ⟨m', rfl, h'⟩ := take_cons_inv h
    unfold intGo at h' ⊢
    split
    · rename_i h1
      rw [if_pos h1] at h'
      split
      · rfl
      · rename_i h2
        rw [if_neg h2] at h'
        cases hw : wdig v c.toNat with
        | none => rfl
        | some v' =>
          rw [hw] at h'
          dsimp only at h' ⊢
          refine intGo_local r m' v' (n + 1) ?_
          have := intGo_ge' r v' (n + 1)
          rwa [show (intGo v' (n + 1) r).far - (n + 1) + 1 = (intGo v' (n + 1) r).far - n by omega]
    · rfl
theorem rdLife_local {l m : List UInt8} (h : l.take (rdLife l).far = m.take (rdLife l).far) : rdLife m = rdLife l := by
  cases l with
  | nil => rw [take_nil_inv (k := 0) h]
  | cons c r =>
    by_cases hc : isL c.toNat
    · have hf : (rdLife (c :: r)).far = rowLen isN (c :: r) + 1 := by
        unfold rdLife
        dsimp only
        rw [if_pos hc]
        split <;> (dsimp only; rw [rdRow_far']; omega)
      rw [hf] at h
      have h1 := rdRow_local (k := 2) h
      obtain ⟨m', rfl, h'⟩ := take_cons_inv h
      unfold rdLife
      dsimp only
      rw [if_pos hc, if_pos hc, h1]
    · have hf : (rdLife (c :: r)).far = 0 + 1 := by
        unfold rdLife
        dsimp only
        rw [if_neg hc]
      rw [hf] at h
      obtain ⟨m', rfl, h'⟩ := take_cons_inv h
      unfold rdLife
      dsimp only
      rw [if_neg hc, if_neg hc]
theorem sg_take (l : List UInt8) : sg l = sg (l.take 2) := by
  match l with
  | [] => rfl
  | [a] => rfl
  | a :: b :: r => rfl
theorem sg_nil_first {c : UInt8} {r : List UInt8} (h : sg (c :: r) = []) : c ∉ ([123, 125, 40, 41, 60, 62, 44, 59, 58, 46, 38, 42, 33, 61, 43, 45, 47, 37] : List UInt8) := by
  unfold sg at h
  split at h
  · rename_i p hp
    have := List.mem_of_find?_eq_some hp
    subst h
    exact absurd this (by decide)
  · split at h
    · rename_i p hp
      have := List.mem_of_find?_eq_some hp
      subst h
      exact absurd this (by decide)
    · rename_i hn
      rw [List.find?_eq_none] at hn
      intro hm
      refine hn [c] ?_ (by simp [List.isPrefixOf])
      unfold ones
      revert hm
      simp only [List.mem_cons, List.not_mem_nil, or_false, List.cons.injEq, and_true]
      exact id
theorem sg_nil_of {c : UInt8} (r : List UInt8) (h : c ∉ ([123, 125, 40, 41, 60, 62, 44, 59, 58, 46, 38, 42, 33, 61, 43, 45, 47, 37] : List UInt8)) (h2 : c ≠ 124) : sg (c :: r) = [] := by
  simp only [List.mem_cons, List.not_mem_nil, or_false, not_or] at h
  obtain ⟨q1, q2, q3, q4, q5, q6, q7, q8, q9, q10, q11, q12, q13, q14, q15, q16, q17, q18⟩ := h
  have e : ∀ a : UInt8, c ≠ a → (a == c) = false := fun a h => by simpa using fun h' => h h'.symm
  simp [sg, twos, ones, List.find?, List.isPrefixOf, e _ q1, e _ q2, e _ q3, e _ q4, e _ q5, e _ q6, e _ q7, e _ q8, e _ q9, e _ q10, e _ q11, e _ q12, e _ q13, e _ q14, e _ q15, e _ q16, e _ q17, e _ q18, e _ h2]
theorem sg_len (l : List UInt8) (h : sg l ≠ []) : 1 ≤ (sg l).length ∧ (sg l).length ≤ 2 := by
  unfold sg at h ⊢
  split
  · rename_i p hp
    have := List.mem_of_find?_eq_some hp
    simp only [twos, List.mem_cons, List.not_mem_nil, or_false] at this
    rcases this with rfl | rfl | rfl | rfl | rfl | rfl | rfl <;> decide
  · rename_i h0
    rw [h0] at h
    split
    · rename_i p hp
      have := List.mem_of_find?_eq_some hp
      simp only [ones, List.mem_cons, List.not_mem_nil, or_false] at this
      rcases this with rfl | rfl | rfl | rfl | rfl | rfl | rfl | rfl | rfl | rfl | rfl | rfl | rfl | rfl | rfl | rfl | rfl | rfl <;> decide
    · rename_i h1
      rw [h1] at h
      exact absurd rfl h
theorem rdSign_local {c : UInt8} {r m : List UInt8} (h : (c :: r).take ((rdSign (c :: r)).far + 1) = m.take ((rdSign (c :: r)).far + 1)) : rdSign m = rdSign (c :: r) := by
  obtain ⟨m', rfl, h'⟩ := take_cons_inv h
  by_cases hs : sg (c :: r) = []
  · by_cases hc : c = 124
    · have hf : (rdSign (c :: r)).far = 1 := by unfold rdSign; rw [hs]; simp [hc]
      rw [hf] at h
      have h1 : sg (c :: m') = sg (c :: r) := by rw [sg_take (c :: m'), ← h, ← sg_take]
      unfold rdSign
      rw [h1, hs]
      simp
    · have h1 := sg_nil_of m' (sg_nil_first hs) hc
      unfold rdSign
      rw [h1, hs]
      simp
  · have hl := sg_len _ hs
    have hf : (rdSign (c :: r)).far = (sg (c :: r)).length := by
      unfold rdSign
      rw [if_neg (by simpa using hs)]
    rw [hf] at h
    have h1 : sg (c :: m') = sg (c :: r) := by rw [sg_take (c :: m'), ← take_shorter h (by omega), ← sg_take]
    unfold rdSign
    rw [h1, if_neg (by simpa using hs), if_neg (by simpa using hs)]
/-- What is read is told by one byte more than it has. -/
theorem rd_local {l m : List UInt8} (h : l.take ((rd l).far + 1) = m.take ((rd l).far + 1)) : rd m = rd l := by
  cases l with
  | nil => rw [take_nil_inv h]
  | cons c r =>
    have h0 := h
    obtain ⟨m', rfl, h'⟩ := take_cons_inv h
    unfold rd at h0 ⊢
    dsimp only at h0 ⊢
    split
    · rename_i hc
      rw [if_pos hc, rdRow_far'] at h0
      exact rdRow_local h0
    · rename_i h1
      rw [if_neg h1] at h0
      split
      · rename_i hc
        rw [if_pos hc, rdRow_far'] at h0
        exact rdRow_local h0
      · rename_i h2
        rw [if_neg h2] at h0
        split
        · rename_i hc
          rw [if_pos hc] at h0
          exact intGo_local _ _ _ _ h0
        · rename_i h3
          rw [if_neg h3] at h0
          split
          · rename_i hc
            rw [if_pos hc] at h0
            simp only [List.take_succ_cons, List.cons.injEq, true_and] at h0
            exact rdLife_local h0
          · rename_i hc
            rw [if_neg hc] at h0
            exact rdSign_local h0
/-- The text of what was read. -/
def txt (R : Rd) : List UInt8 := if R.k = 5 then Lib.decDigits R.n else if R.k = 4 then 39 :: R.s else R.s
theorem isR_32 : isR 32 = false := by decide
theorem isN_32 : isN 32 = false := by decide
theorem rl_take (p : Nat → Bool) : ∀ (n : Nat) (l : List UInt8), rl p n (l.take (rl p n l)) = rl p n l
  | 0, l => by simp [rl]
  | n + 1, [] => by simp [rl]
  | n + 1, c :: r => by
    have ih := rl_take p n r
    by_cases h : p c.toNat = true
    · simp only [rl, h, if_true, List.take_succ_cons, ih]
    · simp only [rl, h, if_false, Bool.false_eq_true, List.take_zero]
theorem rl_sep (p : Nat → Bool) (hp : p 32 = false) (Y : List UInt8) : ∀ (n : Nat) (T : List UInt8), rl p n T = T.length → rl p n (T ++ 32 :: Y) = T.length
  | 0, T, h => by simp [rl] at h ⊢; exact h
  | n + 1, [], h => by simp [rl, hp]
  | n + 1, c :: r, h => by
    by_cases hc : p c.toNat = true
    · simp only [rl, hc, if_true, List.length_cons, List.cons_append] at h ⊢
      rw [rl_sep p hp Y n r (by omega)]
    · simp [rl, hc] at h
theorem rl_le (p : Nat → Bool) : ∀ (n : Nat) (l : List UInt8), rl p n l ≤ l.length
  | 0, l => by simp [rl]
  | n + 1, [] => by simp [rl]
  | n + 1, c :: r => by
    have := rl_le p n r
    simp only [rl, List.length_cons]
    split <;> omega
theorem rdRow_k {k : Nat} {p : Nat → Bool} {l : List UInt8} (h : (rdRow k p l).k ≠ 0) : rowAt l (rowLen p l) = false ∧ rdRow k p l = ⟨if isWl (l.take (rowLen p l)) then 1 else k, 0, l.take (rowLen p l), rowLen p l⟩ := by
  unfold rdRow at h ⊢
  split
  · rename_i h1
    rw [if_pos h1] at h
    exact absurd rfl h
  · rename_i h1
    exact ⟨by simpa using h1, rfl⟩
theorem rdRow_take {k : Nat} {p : Nat → Bool} {l : List UInt8} (h : (rdRow k p l).k ≠ 0) : rdRow k p (l.take (rowLen p l)) = rdRow k p l := by
  obtain ⟨h1, h2⟩ := rdRow_k h
  have hn : rowLen p (l.take (rowLen p l)) = rowLen p l := by
    rw [rowLen_rl p l]
    rw [rowLen_rl]
    exact rl_take p 32 l
  have h3 : rowAt (l.take (rowLen p l)) (rowLen p l) = false := rowAt_ge (by rw [List.length_take]; omega)
  rw [h2]
  unfold rdRow
  rw [hn, h3, List.take_take, Nat.min_self]
  simp
theorem rdRow_sep {k : Nat} {p : Nat → Bool} (hp : p 32 = false) {T : List UInt8} (Y : List UInt8) (hf : rowLen p T = T.length) : rdRow k p (T ++ 32 :: Y) = rdRow k p T := by
  have hn : rowLen p (T ++ 32 :: Y) = T.length := by
    rw [rowLen_rl] at hf ⊢
    exact rl_sep p hp Y 32 T hf
  have h1 : rowAt T T.length = false := rowAt_ge (Nat.le_refl _)
  have h2 : rowAt (T ++ 32 :: Y) T.length = false := by
    unfold rowAt
    rw [List.drop_left]
    exact isR_32
  unfold rdRow
  rw [hn, hf, h1, h2, List.take_left, List.take_length]
theorem intGo_take : ∀ (l : List UInt8) (v n : Nat), (intGo v n l).k ≠ 0 → intGo v n (l.take ((intGo v n l).far - n)) = intGo v n l
  | [], v, n, h => by simp [intGo]
  | c :: r, v, n, h => by
    have hu : intGo v n (c :: r) = if isR c.toNat then (if 0 < n ∧ v = 0 then ⟨0, 0, [], n⟩ else match wdig v c.toNat with
      | none => ⟨0, 0, [], n⟩
      | some v' => intGo v' (n + 1) r) else ⟨5, v, [], n⟩ := by rw [intGo]; rfl
    by_cases h1 : isR c.toNat = true
    · rw [if_pos h1] at hu
      by_cases h2 : 0 < n ∧ v = 0
      · rw [if_pos h2] at hu
        rw [hu] at h
        exact absurd rfl h
      · rw [if_neg h2] at hu
        cases hw : wdig v c.toNat with
        | none => rw [hw] at hu; rw [hu] at h; exact absurd rfl h
        | some v' =>
          rw [hw] at hu
          dsimp only at hu
          rw [hu] at h ⊢
          have hge := intGo_ge' r v' (n + 1)
          have ih := intGo_take r v' (n + 1) h
          rw [show (intGo v' (n + 1) r).far - n = ((intGo v' (n + 1) r).far - (n + 1)) + 1 by omega, List.take_succ_cons, intGo, if_pos h1, if_neg h2, hw]
          exact ih
    · rw [if_neg h1] at hu
      rw [hu]
      simp [intGo]
theorem intGo_sep (Y : List UInt8) : ∀ (T : List UInt8) (v n : Nat), (intGo v n T).k ≠ 0 → (intGo v n T).far = n + T.length → intGo v n (T ++ 32 :: Y) = intGo v n T
  | [], v, n, h, hf => by simp [intGo, isR_32]
  | c :: r, v, n, h, hf => by
    have hu : ∀ r', intGo v n (c :: r') = if isR c.toNat then (if 0 < n ∧ v = 0 then ⟨0, 0, [], n⟩ else match wdig v c.toNat with
      | none => ⟨0, 0, [], n⟩
      | some v' => intGo v' (n + 1) r') else ⟨5, v, [], n⟩ := fun r' => by rw [intGo]; rfl
    rw [List.cons_append, hu, hu]
    rw [hu] at h hf
    by_cases h1 : isR c.toNat = true
    · rw [if_pos h1] at h hf ⊢
      rw [if_pos h1]
      by_cases h2 : 0 < n ∧ v = 0
      · rw [if_pos h2] at h
        exact absurd rfl h
      · rw [if_neg h2] at h hf ⊢
        rw [if_neg h2]
        cases hw : wdig v c.toNat with
        | none => rfl
        | some v' =>
          rw [hw] at h hf
          dsimp only at h hf ⊢
          exact intGo_sep Y r v' (n + 1) h (by simp at hf; omega)
    · rw [if_neg h1] at hf
      simp at hf
theorem dig_char {c : UInt8} (h : isD c.toNat = true) : UInt8.ofNat (48 + (c.toNat - 48)) = c := by
  unfold isD at h
  simp only [decide_eq_true_eq] at h
  rw [show 48 + (c.toNat - 48) = c.toNat by omega]
  exact UInt8.ofNat_toNat
theorem intGo_text : ∀ (l : List UInt8) (v n : Nat) (pre : List UInt8), pre.length = n → (n = 0 → v = 0) → (0 < n → Lib.decDigits v = pre) → (n = 0 → 0 < (intGo v n l).far) → (intGo v n l).k ≠ 0 → Lib.decDigits (intGo v n l).n = pre ++ l.take ((intGo v n l).far - n)
  | [], v, n, pre, hl, h0, hp, hq, hk => by
    have : 0 < n := by
      rcases Nat.eq_zero_or_pos n with h | h
      · have := hq h; simp [intGo] at this; omega
      · exact h
    simp [intGo, hp this]
  | c :: r, v, n, pre, hl, h0, hp, hq, hk => by
    have hu : intGo v n (c :: r) = if isR c.toNat then (if 0 < n ∧ v = 0 then ⟨0, 0, [], n⟩ else match wdig v c.toNat with
      | none => ⟨0, 0, [], n⟩
      | some v' => intGo v' (n + 1) r) else ⟨5, v, [], n⟩ := by rw [intGo]; rfl
    by_cases h1 : isR c.toNat = true
    · rw [if_pos h1] at hu
      by_cases h2 : 0 < n ∧ v = 0
      · rw [if_pos h2] at hu
        rw [hu] at hk
        exact absurd rfl hk
      · rw [if_neg h2] at hu
        cases hw : wdig v c.toNat with
        | none => rw [hw] at hu; rw [hu] at hk; exact absurd rfl hk
        | some v' =>
          rw [hw] at hu
          dsimp only at hu
          have hge := intGo_ge' r v' (n + 1)
          unfold wdig at hw
          split at hw
          · rename_i hd
            obtain ⟨hd, hm⟩ := hd
            cases hw
            have hd' := hd
            unfold isD at hd'
            simp only [decide_eq_true_eq] at hd'
            have key : Lib.decDigits (v * 10 + (c.toNat - 48)) = pre ++ [c] := by
              rcases Nat.eq_zero_or_pos n with h | h
              · have hv := h0 h
                subst hv
                have : pre = [] := List.length_eq_zero_iff.1 (by omega)
                subst this
                rw [show 0 * 10 + (c.toNat - 48) = c.toNat - 48 by omega, Lib.decDigits_one (by omega), dig_char hd]
                rfl
              · have hv : v ≠ 0 := fun e => h2 ⟨h, e⟩
                rw [Lib.decDigits, dif_neg (by omega), show (v * 10 + (c.toNat - 48)) / 10 = v by omega, show (v * 10 + (c.toNat - 48)) % 10 = c.toNat - 48 by omega, hp h, dig_char hd]
            rw [hu] at hk ⊢
            have ih := intGo_text r (v * 10 + (c.toNat - 48)) (n + 1) (pre ++ [c]) (by simp [hl]) (fun h => by omega) (fun _ => key) (fun h => by omega) hk
            rw [ih, show (intGo (v * 10 + (c.toNat - 48)) (n + 1) r).far - n = ((intGo (v * 10 + (c.toNat - 48)) (n + 1) r).far - (n + 1)) + 1 by omega, List.take_succ_cons]
            simp
          · cases hw
    · rw [if_neg h1] at hu
      rw [hu] at hq ⊢
      have hn : 0 < n := by
        rcases Nat.eq_zero_or_pos n with h | h
        · have := hq h; simpa using this
        · exact h
      simp [hp hn]
theorem intGo_k5 : ∀ (l : List UInt8) (v n : Nat), (intGo v n l).k ≠ 0 → (intGo v n l).k = 5 ∧ (intGo v n l).s = []
  | [], v, n, _ => by simp [intGo]
  | c :: r, v, n, h => by
    unfold intGo at h ⊢
    split
    · rename_i h1
      rw [if_pos h1] at h
      split
      · rename_i h2
        rw [if_pos h2] at h
        exact absurd rfl h
      · rename_i h2
        rw [if_neg h2] at h
        cases hw : wdig v c.toNat with
        | none => rw [hw] at h; exact absurd rfl h
        | some v' =>
          rw [hw] at h
          exact intGo_k5 r v' (n + 1) h
    · exact ⟨rfl, rfl⟩
theorem sg_mem {l : List UInt8} (h : sg l ≠ []) : (sg l ∈ twos ∨ sg l ∈ ones) ∧ sg l <+: l := by
  unfold sg at h ⊢
  split
  · rename_i p hp
    exact ⟨.inl (List.mem_of_find?_eq_some hp), List.isPrefixOf_iff_prefix.1 (by simpa using List.find?_some hp)⟩
  · rename_i h0
    rw [h0] at h
    split
    · rename_i p hp
      exact ⟨.inr (List.mem_of_find?_eq_some hp), List.isPrefixOf_iff_prefix.1 (by simpa using List.find?_some hp)⟩
    · rename_i h1
      rw [h1] at h
      exact absurd rfl h
theorem sg_self : ∀ p, p ∈ twos ∨ p ∈ ones → sg p = p := by
  intro p h
  have h1 : ∀ p ∈ twos ++ ones, sg p = p := by decide
  exact h1 p (List.mem_append.2 h)
theorem sg_sep (Y : List UInt8) : ∀ p, p ∈ twos ∨ p ∈ ones → sg (p ++ 32 :: Y) = p := by
  intro p h
  rw [sg_take]
  have h1 : ∀ p ∈ twos ++ ones, sg ((p ++ [32]).take 2) = p := by decide
  have h2 : (p ++ 32 :: Y).take 2 = (p ++ [32]).take 2 := by
    have h3 : ∀ p ∈ twos ++ ones, p.length = 2 ∨ p.length = 1 := by decide
    rcases h3 p (List.mem_append.2 h) with h4 | h4
    · rw [List.take_append_of_le_length (by omega), List.take_append_of_le_length (by omega)]
    · match p, h4 with
      | [a], _ => rfl
  rw [h2]
  exact h1 p (List.mem_append.2 h)
theorem isL_isN' {c : Nat} (h : isL c = true) : isN c = true := by unfold isL at h; unfold isN; simp only [decide_eq_true_eq] at h ⊢; exact .inl h
theorem isG_isR' {c : Nat} (h : isG c = true) : isR c = true := by unfold isG at h; unfold isR; simp only [decide_eq_true_eq] at h ⊢; exact .inr (.inl h)
theorem isD_isR' {c : Nat} (h : isD c = true) : isR c = true := by unfold isD at h; unfold isR; simp only [decide_eq_true_eq] at h ⊢; exact .inr (.inr (.inl h))
theorem rowLen_pos' {p : Nat → Bool} {c : UInt8} (r : List UInt8) (h : p c.toNat = true) : 0 < rowLen p (c :: r) := by
  rw [rowLen_rl]; simp [rl, h]
theorem rdLife_k {r : List UInt8} (h : (rdLife r).k ≠ 0) : ∃ c q, r = c :: q ∧ isL c.toNat = true ∧ (rdRow 2 isN r).k = 2 ∧ rdLife r = ⟨4, 0, (rdRow 2 isN r).s, 1 + (rdRow 2 isN r).far⟩ := by
  unfold rdLife at h
  split at h
  · exact absurd rfl h
  · rename_i c q
    split at h
    · rename_i hc
      split at h
      · rename_i hk
        refine ⟨c, q, rfl, hc, hk, ?_⟩
        unfold rdLife
        dsimp only
        rw [if_pos hc, if_pos hk]
      · exact absurd rfl h
    · exact absurd rfl h
theorem rdSign_k {l : List UInt8} (h : (rdSign l).k ≠ 0) : sg l ≠ [] ∧ rdSign l = ⟨6, 0, sg l, (sg l).length⟩ := by
  unfold rdSign at h ⊢
  split
  · rename_i h1
    rw [if_pos h1] at h
    exact absurd rfl h
  · rename_i h1
    exact ⟨by simpa using h1, rfl⟩
theorem rd_cons (c : UInt8) (r : List UInt8) : rd (c :: r) = if isL c.toNat then rdRow 2 isN (c :: r) else if isG c.toNat then rdRow 3 isR (c :: r) else if isD c.toNat then intGo 0 0 (c :: r) else if c.toNat = 39 then rdLife r else rdSign (c :: r) := rfl
theorem uint8_eq {c : UInt8} {n : Nat} (h : c.toNat = n) : c = UInt8.ofNat n := by rw [← h]; exact UInt8.ofNat_toNat.symm
/-- What is read has its text. -/
theorem rd_text (l : List UInt8) (h : (rd l).k ≠ 0) : l.take (rd l).far = txt (rd l) := by
  cases l with
  | nil => exact absurd rfl h
  | cons c r =>
    rw [rd_cons] at h ⊢
    by_cases h1 : isL c.toNat = true
    · rw [if_pos h1] at h ⊢
      obtain ⟨_, e⟩ := rdRow_k h
      rw [e]; unfold txt; dsimp only
      rw [if_neg (by split <;> decide), if_neg (by split <;> decide)]
    · rw [if_neg h1] at h ⊢
      by_cases h2 : isG c.toNat = true
      · rw [if_pos h2] at h ⊢
        obtain ⟨_, e⟩ := rdRow_k h
        rw [e]; unfold txt; dsimp only
        rw [if_neg (by split <;> decide), if_neg (by split <;> decide)]
      · rw [if_neg h2] at h ⊢
        by_cases h3 : isD c.toNat = true
        · rw [if_pos h3] at h ⊢
          have hp : 0 < (intGo 0 0 (c :: r)).far := by
            unfold intGo at h ⊢
            rw [if_pos (isD_isR' h3), if_neg (by omega)] at h ⊢
            cases hw : wdig 0 c.toNat with
            | none => rw [hw] at h; exact absurd rfl h
            | some v => have := intGo_ge' r v (0 + 1); show 0 < (intGo v (0 + 1) r).far; omega
          have h4 := intGo_text (c :: r) 0 0 [] rfl (fun _ => rfl) (fun h => absurd h (Nat.lt_irrefl 0)) (fun _ => hp) h
          unfold txt
          rw [(intGo_k5 _ _ _ h).1, if_pos rfl, h4]
          simp
        · rw [if_neg h3] at h ⊢
          by_cases h4 : c.toNat = 39
          · rw [if_pos h4] at h ⊢
            obtain ⟨d, q, rfl, hd, hk, e⟩ := rdLife_k h
            obtain ⟨_, e2⟩ := rdRow_k (by rw [hk]; decide : (rdRow 2 isN (d :: q)).k ≠ 0)
            rw [e]; unfold txt; dsimp only
            rw [if_neg (by decide), if_pos rfl, Nat.add_comm, List.take_succ_cons, e2, uint8_eq h4]
            rfl
          · rw [if_neg h4] at h ⊢
            obtain ⟨hs, e⟩ := rdSign_k h
            rw [e]; unfold txt; dsimp only
            rw [if_neg (by decide), if_neg (by decide)]
            exact (List.prefix_iff_eq_take.1 (sg_mem hs).2).symm
theorem rdRow_pos {c : UInt8} {r : List UInt8} {k : Nat} {p : Nat → Bool} (hp : p c.toNat = true) : ∃ n, (rdRow k p (c :: r)).far = n + 1 := by
  rw [rdRow_far']
  have := rowLen_pos' r hp
  exact ⟨rowLen p (c :: r) - 1, by omega⟩
/-- A token alone is read as it was. -/
theorem rd_take (l : List UInt8) (h : (rd l).k ≠ 0) : rd (l.take (rd l).far) = rd l := by
  cases l with
  | nil => rfl
  | cons c r =>
    rw [rd_cons] at h ⊢
    by_cases h1 : isL c.toNat = true
    · rw [if_pos h1] at h ⊢
      obtain ⟨n, hn⟩ := rdRow_pos (r := r) (k := 2) (isL_isN' h1)
      have e := rdRow_take h
      rw [← rdRow_far' 2 isN (c :: r), hn] at e
      rw [hn]
      rw [List.take_succ_cons] at e ⊢
      rw [rd_cons, if_pos h1, e]
    · rw [if_neg h1] at h ⊢
      by_cases h2 : isG c.toNat = true
      · rw [if_pos h2] at h ⊢
        obtain ⟨n, hn⟩ := rdRow_pos (r := r) (k := 3) (isG_isR' h2)
        have e := rdRow_take h
        rw [← rdRow_far' 3 isR (c :: r), hn] at e
        rw [hn]
        rw [List.take_succ_cons] at e ⊢
        rw [rd_cons, if_neg h1, if_pos h2, e]
      · rw [if_neg h2] at h ⊢
        by_cases h3 : isD c.toNat = true
        · rw [if_pos h3] at h ⊢
          have hp : 0 < (intGo 0 0 (c :: r)).far := by
            unfold intGo at h ⊢
            rw [if_pos (isD_isR' h3), if_neg (by omega)] at h ⊢
            cases hw : wdig 0 c.toNat with
            | none => rw [hw] at h; exact absurd rfl h
            | some v => have := intGo_ge' r v (0 + 1); show 0 < (intGo v (0 + 1) r).far; omega
          have e := intGo_take (c :: r) 0 0 h
          rw [Nat.sub_zero] at e
          obtain ⟨n, hn⟩ : ∃ n, (intGo 0 0 (c :: r)).far = n + 1 := ⟨(intGo 0 0 (c :: r)).far - 1, by omega⟩
          rw [hn] at e ⊢
          rw [List.take_succ_cons] at e ⊢
          rw [rd_cons, if_neg h1, if_neg h2, if_pos h3, e]
        · rw [if_neg h3] at h ⊢
          by_cases h4 : c.toNat = 39
          · rw [if_pos h4] at h ⊢
            obtain ⟨d, q, rfl, hd, hk, e⟩ := rdLife_k h
            have hk0 : (rdRow 2 isN (d :: q)).k ≠ 0 := by rw [hk]; decide
            have e2 := rdRow_take hk0
            obtain ⟨n, hn⟩ := rdRow_pos (r := q) (k := 2) (isL_isN' hd)
            rw [e]; dsimp only
            rw [← rdRow_far' 2 isN (d :: q), hn] at e2
            rw [hn, Nat.add_comm, List.take_succ_cons]
            rw [List.take_succ_cons] at e2 ⊢
            rw [rd_cons, if_neg h1, if_neg h2, if_neg h3, if_pos h4]
            unfold rdLife
            dsimp only
            rw [if_pos hd, e2, hk, if_pos rfl, hn, Nat.add_comm]
          · rw [if_neg h4] at h ⊢
            obtain ⟨hs, e⟩ := rdSign_k h
            have hl := sg_len _ hs
            rw [e]; dsimp only
            have h5 := (List.prefix_iff_eq_take.1 (sg_mem hs).2).symm
            have h6 := sg_self _ (sg_mem hs).1
            obtain ⟨n, hn⟩ : ∃ n, (sg (c :: r)).length = n + 1 := ⟨(sg (c :: r)).length - 1, by omega⟩
            rw [hn] at h5 ⊢
            rw [List.take_succ_cons] at h5 ⊢
            rw [rd_cons, if_neg h1, if_neg h2, if_neg h3, if_neg h4]
            unfold rdSign
            rw [h5, h6, if_neg (by simpa using hs), hn]
/-- A blank behind a token changes nothing. -/
theorem rd_sep (T Y : List UInt8) (h : (rd T).k ≠ 0) (hf : (rd T).far = T.length) : rd (T ++ 32 :: Y) = rd T := by
  cases T with
  | nil => exact absurd rfl h
  | cons c r =>
    rw [List.cons_append, rd_cons, rd_cons]
    rw [rd_cons] at h hf
    by_cases h1 : isL c.toNat = true
    · rw [if_pos h1] at h hf ⊢
      rw [if_pos h1]
      rw [rdRow_far'] at hf
      exact rdRow_sep isN_32 Y hf
    · rw [if_neg h1] at h hf ⊢
      rw [if_neg h1]
      by_cases h2 : isG c.toNat = true
      · rw [if_pos h2] at h hf ⊢
        rw [if_pos h2]
        rw [rdRow_far'] at hf
        exact rdRow_sep isR_32 Y hf
      · rw [if_neg h2] at h hf ⊢
        rw [if_neg h2]
        by_cases h3 : isD c.toNat = true
        · rw [if_pos h3] at h hf ⊢
          rw [if_pos h3]
          exact intGo_sep Y (c :: r) 0 0 h (by omega)
        · rw [if_neg h3] at h hf ⊢
          rw [if_neg h3]
          by_cases h4 : c.toNat = 39
          · rw [if_pos h4] at h hf ⊢
            rw [if_pos h4]
            obtain ⟨d, q, rfl, hd, hk, e⟩ := rdLife_k h
            rw [e, rdRow_far'] at hf
            have e2 := rdRow_sep (k := 2) isN_32 Y (show rowLen isN (d :: q) = (d :: q).length by simp at hf ⊢; omega)
            have hk2 : (rdRow 2 isN (d :: (q ++ 32 :: Y))).k = 2 := by rw [← List.cons_append, e2]; exact hk
            rw [e]
            unfold rdLife
            dsimp only [List.cons_append] at e2 ⊢
            rw [if_pos hd, if_pos hk2, e2]
          · rw [if_neg h4] at h hf ⊢
            rw [if_neg h4]
            obtain ⟨hs, e⟩ := rdSign_k h
            rw [e] at hf
            have h5 := (List.prefix_iff_eq_take.1 (sg_mem hs).2)
            dsimp only at hf
            rw [hf, List.take_length] at h5
            have h6 := sg_sep Y _ (sg_mem hs).1
            rw [h5] at h6
            rw [e]
            unfold rdSign
            rw [List.cons_append] at h6
            rw [h6, h5]
            rfl
end Go.Proofs.YtpnamkpoapcgeaaDoor
