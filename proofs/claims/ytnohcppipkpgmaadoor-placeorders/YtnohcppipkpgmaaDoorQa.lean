import Derived.Test.YtnohcppipkpgmaaDoorRows
import Derived.Lib.ItoaLen
namespace Go.Proofs.YtnohcppipkpgmaaDoor
open Go.RowKit
set_option linter.unusedVariables false
set_option linter.unusedSimpArgs false

/-- Which of two paths stands ahead. -/
def ordL : List Int → List Int → Int
  | [], [] => 0
  | [], _ :: _ => -1
  | _ :: _, [] => 1
  | a :: p, b :: q => if a < b then -1 else if b < a then 1 else ordL p q
/-- Which of two places stands ahead. -/
def ordP (l m : Int) (p q : List Int) : Int := if l < m then -1 else if m < l then 1 else ordL p q
theorem ordL_anti : ∀ p q : List Int, ordL q p = - ordL p q
  | [], [] => rfl
  | [], _ :: _ => rfl
  | _ :: _, [] => rfl
  | a :: p, b :: q => by
    unfold ordL
    rw [ordL_anti p q]
    repeat' split
    all_goals omega
theorem ordL_zero : ∀ p q : List Int, ordL p q = 0 ↔ p = q
  | [], [] => by simp [ordL]
  | [], _ :: _ => by simp [ordL]
  | _ :: _, [] => by simp [ordL]
  | a :: p, b :: q => by
    unfold ordL
    have ih := ordL_zero p q
    repeat' split
    · constructor
      · intro h; omega
      · intro h; injection h with h1 h2; omega
    · constructor
      · intro h; omega
      · intro h; injection h with h1 h2; omega
    · rw [ih]
      constructor
      · intro h; rw [h, show a = b by omega]
      · intro h; injection h
theorem ordL_is : ∀ p q : List Int, ordL p q = -1 ∨ ordL p q = 0 ∨ ordL p q = 1
  | [], [] => by simp [ordL]
  | [], _ :: _ => by simp [ordL]
  | _ :: _, [] => by simp [ordL]
  | a :: p, b :: q => by
    unfold ordL
    have ih := ordL_is p q
    repeat' split
    all_goals omega
theorem ordL_pre : ∀ p q : List Int, p <+: q → ordL p q ≤ 0
  | [], [], _ => by simp [ordL]
  | [], _ :: _, _ => by simp [ordL]
  | _ :: _, [], h => by simp at h
  | a :: p, b :: q, h => by
    obtain ⟨rfl, h2⟩ := List.cons_prefix_cons.1 h
    have ih := ordL_pre p q h2
    unfold ordL
    rw [if_neg (by omega), if_neg (by omega)]
    exact ih
theorem ordL_trans : ∀ p q r : List Int, ordL p q ≤ 0 → ordL q r ≤ 0 → ordL p r ≤ 0 ∧ (ordL p r = 0 → ordL p q = 0 ∧ ordL q r = 0)
  | [], [], [], _, _ => by simp [ordL]
  | [], [], _ :: _, _, _ => by simp [ordL]
  | [], _ :: _, [], _, h => by simp [ordL] at h
  | [], _ :: _, _ :: _, _, _ => by simp [ordL]
  | _ :: _, [], _, h, _ => by simp [ordL] at h
  | _ :: _, _ :: _, [], _, h => by simp [ordL] at h
  | a :: p, b :: q, c :: r, h1, h2 => by
    have ih := ordL_trans p q r
    unfold ordL at h1 h2 ⊢
    repeat' split at h1
    all_goals repeat' split at h2
    all_goals repeat' split
    all_goals first | omega | exact ih h1 h2
theorem ordP_anti (l m : Int) (p q : List Int) : ordP m l q p = - ordP l m p q := by
  unfold ordP
  have := ordL_anti p q
  repeat' split
  all_goals omega
theorem ordP_is (l m : Int) (p q : List Int) : ordP l m p q = -1 ∨ ordP l m p q = 0 ∨ ordP l m p q = 1 := by
  unfold ordP
  have := ordL_is p q
  repeat' split
  all_goals omega
theorem ordP_zero (l m : Int) (p q : List Int) : ordP l m p q = 0 ↔ l = m ∧ p = q := by
  unfold ordP
  have := ordL_zero p q
  repeat' split
  · constructor
    · intro h; omega
    · rintro ⟨h, -⟩; omega
  · constructor
    · intro h; omega
    · rintro ⟨h, -⟩; omega
  · rw [this]
    constructor
    · intro h; exact ⟨by omega, h⟩
    · rintro ⟨-, h⟩; exact h
theorem ordP_pre {l m : Int} {p q : List Int} (h : l = m ∧ p <+: q) : ordP l m p q ≤ 0 := by
  obtain ⟨rfl, h⟩ := h
  unfold ordP
  rw [if_neg (by omega), if_neg (by omega)]
  exact ordL_pre p q h
theorem ordP_trans (l m n : Int) (p q r : List Int) (h1 : ordP l m p q ≤ 0) (h2 : ordP m n q r ≤ 0) : ordP l n p r ≤ 0 ∧ (ordP l n p r = 0 → ordP l m p q = 0 ∧ ordP m n q r = 0) := by
  have ih := ordL_trans p q r
  unfold ordP at h1 h2 ⊢
  repeat' split at h1
  all_goals repeat' split at h2
  all_goals repeat' split
  all_goals first | omega | exact ih h1 h2
/-- Of a prefix and one step more. -/
theorem ordP_next (l : Int) (p : List Int) (i : Nat) (h : i < p.length) : ordP l l (p.take i) (p.take (i + 1)) = -1 := by
  have h1 := ordP_pre (l := l) (m := l) (p := p.take i) (q := p.take (i + 1)) ⟨rfl, List.take_prefix_take_left (by omega)⟩
  have h2 := ordP_is l l (p.take i) (p.take (i + 1))
  have h3 := ordP_zero l l (p.take i) (p.take (i + 1))
  have h4 : ¬ p.take i = p.take (i + 1) := fun e => by
    have := congrArg List.length e
    rw [List.length_take, List.length_take] at this
    omega
  rcases h2 with h2 | h2 | h2
  · exact h2
  · exact absurd (h3.1 h2).2 h4
  · omega
theorem pre_iff {q p : List Int} : q <+: p ↔ ∃ i, i ≤ p.length ∧ p.take i = q := by
  constructor
  · intro h
    exact ⟨q.length, h.length_le, (List.prefix_iff_eq_take.1 h).symm⟩
  · rintro ⟨i, -, rfl⟩
    exact List.take_prefix _ _

/-- A step's text. -/
def stT (s : Int) : List UInt8 := if s = -1 then [46, 42] else 46 :: Lib.itoa s
/-- A place's text. -/
def txtP (l : Int) (p : List Int) : List UInt8 := 95 :: (Lib.itoa l ++ (p.map stT).flatten)
/-- The digits with which a text begins. -/
def dgs : Int → Nat → List UInt8 → Option (Int × List UInt8)
  | n, k, [] => if 0 < k then some (n, []) else none
  | n, k, c :: r => if 48 ≤ c.toNat ∧ c.toNat ≤ 57 then (if (0 < k ∧ n = 0) ∨ (9223372036854775807 - ((c.toNat : Int) - 48)).tdiv 10 < n then none else dgs (n * 10 + ((c.toNat : Int) - 48)) (k + 1) r)
    else if 0 < k then some (n, c :: r) else none
/-- Does a text begin with no digit? -/
def noDig : List UInt8 → Prop
  | [] => True
  | c :: _ => ¬ (48 ≤ c.toNat ∧ c.toNat ≤ 57)
theorem u8n {n : Nat} (h : n < 256) : (UInt8.ofNat n).toNat = n := by
  rw [UInt8.toNat_ofNat']
  exact Nat.mod_eq_of_lt h
theorem itoa_nn {v : Int} (h : 0 ≤ v) : Lib.itoa v = Lib.decDigits v.toNat := by
  have := Lib.itoa_nonneg v.toNat
  rwa [Int.toNat_of_nonneg h] at this
theorem dig_len (u : Nat) : 1 ≤ (Lib.decDigits u).length := by
  rw [Lib.decDigits]
  split
  · simp
  · simp
theorem dgs_go : ∀ (u : Nat), (u : Int) ≤ 9223372036854775807 → ∀ r, dgs 0 0 (Lib.decDigits u ++ r) = dgs u (Lib.decDigits u).length r := by
  intro u
  induction u using Nat.strongRecOn with
  | ind u ih =>
    intro hu r
    by_cases h10 : u < 10
    · have e : Lib.decDigits u = [UInt8.ofNat (48 + u)] := Lib.decDigits_one h10
      rw [e]
      show dgs 0 0 (UInt8.ofNat (48 + u) :: r) = dgs u 1 r
      rw [dgs, u8n (by omega), if_pos (by omega), if_neg]
      · congr 1
        omega
      · rintro (h | h)
        · omega
        · rw [Int.tdiv_eq_ediv_of_nonneg (by omega)] at h
          omega
    · have e : Lib.decDigits u = Lib.decDigits (u / 10) ++ [UInt8.ofNat (48 + u % 10)] := by rw [Lib.decDigits, dif_neg h10]
      rw [e, List.append_assoc, ih (u / 10) (by omega) (by omega), List.length_append]
      show dgs _ _ (UInt8.ofNat (48 + u % 10) :: r) = _
      have hl := dig_len (u / 10)
      rw [dgs, u8n (by omega), if_pos (by omega), if_neg]
      · show dgs _ ((Lib.decDigits (u / 10)).length + 1) r = _
        congr 1
        omega
      · rintro (h | h)
        · omega
        · rw [Int.tdiv_eq_ediv_of_nonneg (by omega)] at h
          omega
theorem dgs_stop {n : Int} {k : Nat} (hk : 0 < k) : ∀ {r : List UInt8}, noDig r → dgs n k r = some (n, r)
  | [], _ => by rw [dgs, if_pos hk]
  | c :: r, h => by rw [dgs, if_neg h, if_pos hk]
theorem dgs_itoa {v : Int} (h0 : 0 ≤ v) (h1 : v ≤ 9223372036854775807) {r : List UInt8} (hr : noDig r) : dgs 0 0 (Lib.itoa v ++ r) = some (v, r) := by
  rw [itoa_nn h0, dgs_go v.toNat (by omega), dgs_stop (by have := dig_len v.toNat; omega) hr, Int.toNat_of_nonneg h0]
theorem dgs_back : ∀ (S : List UInt8) (n k : Nat) (v : Int) (r : List UInt8), 0 < k → (n : Int) ≤ 9223372036854775807 → dgs n k S = some (v, r) → 0 ≤ v ∧ v ≤ 9223372036854775807 ∧ noDig r ∧ Lib.decDigits n ++ S = Lib.itoa v ++ r
  | [], n, k, v, r, hk, hn, h => by
    rw [dgs, if_pos hk] at h
    cases h
    exact ⟨by omega, hn, trivial, by rw [Lib.itoa_nonneg]⟩
  | c :: S, n, k, v, r, hk, hn, h => by
    rw [dgs] at h
    split at h
    · rename_i hc
      split at h
      · cases h
      · rename_i h2
        have hn0 : n ≠ 0 := fun e => h2 (.inl ⟨hk, by omega⟩)
        have h3 : ¬ (9223372036854775807 - ((c.toNat : Int) - 48)).tdiv 10 < (n : Int) := fun e => h2 (.inr e)
        rw [Int.tdiv_eq_ediv_of_nonneg (by omega)] at h3
        obtain ⟨d, hd⟩ : ∃ d : Nat, c.toNat = 48 + d := ⟨c.toNat - 48, by omega⟩
        have hcd : c = UInt8.ofNat (48 + d) := by rw [← hd]; exact (UInt8.ofNat_toNat).symm
        have e : Lib.decDigits (n * 10 + d) = Lib.decDigits n ++ [c] := by
          rw [Lib.decDigits, dif_neg (by omega), show (n * 10 + d) / 10 = n by omega, show (n * 10 + d) % 10 = d by omega, hcd]
        rw [show ((n : Int) * 10 + ((c.toNat : Int) - 48)) = ((n * 10 + d : Nat) : Int) by omega] at h
        obtain ⟨g1, g2, g3, g4⟩ := dgs_back S (n * 10 + d) (k + 1) v r (by omega) (by omega) h
        refine ⟨g1, g2, g3, ?_⟩
        rw [← g4, e]
        simp
    · rename_i hc
      cases h
      exact ⟨by omega, hn, hc, by rw [Lib.itoa_nonneg]⟩
theorem dgs_text {S : List UInt8} {v : Int} {r : List UInt8} (h : dgs 0 0 S = some (v, r)) : 0 ≤ v ∧ v ≤ 9223372036854775807 ∧ noDig r ∧ S = Lib.itoa v ++ r := by
  cases S with
  | nil => simp [dgs] at h
  | cons c S =>
    rw [dgs] at h
    split at h
    · rename_i hc
      split at h
      · cases h
      · obtain ⟨d, hd⟩ : ∃ d : Nat, c.toNat = 48 + d := ⟨c.toNat - 48, by omega⟩
        have hcd : c = UInt8.ofNat (48 + d) := by rw [← hd]; exact (UInt8.ofNat_toNat).symm
        rw [show ((0 : Int) * 10 + ((c.toNat : Int) - 48)) = ((d : Nat) : Int) by omega] at h
        obtain ⟨g1, g2, g3, g4⟩ := dgs_back S d 1 v r (by omega) (by omega) h
        refine ⟨g1, g2, g3, ?_⟩
        rw [← g4, Lib.decDigits_one (by omega), hcd]
        rfl
    · simp at h
/-- The step with which a text begins. -/
def stR (S : List UInt8) : Option (Int × List UInt8) :=
  if S.head? = some 46 then (if S.tail.head? = some 42 then some (-1, S.tail.tail) else dgs 0 0 S.tail) else none
/-- Steps up to a text's end, so many at most. -/
def stsR : Nat → List UInt8 → Option (List Int)
  | 0, S => if S = [] then some [] else none
  | k + 1, S => if S = [] then some [] else (stR S).bind fun x => (stsR k x.2).map (x.1 :: ·)
/-- The place whose text it is. -/
def rdP (S : List UInt8) : Option (Int × List Int) :=
  if S.head? = some 95 then (dgs 0 0 S.tail).bind fun x => (stsR 8 x.2).map fun p => (x.1, p) else none
theorem stT_no (p : List Int) : noDig ((p.map stT).flatten) := by
  cases p with
  | nil => trivial
  | cons s p =>
    rw [List.map_cons, List.flatten_cons]
    unfold stT
    split
    · exact show ¬ (48 ≤ (46 : UInt8).toNat ∧ (46 : UInt8).toNat ≤ 57) by decide
    · exact show ¬ (48 ≤ (46 : UInt8).toNat ∧ (46 : UInt8).toNat ≤ 57) by decide
theorem itoa_42 {v : Int} (h : 0 ≤ v) (r : List UInt8) : ¬ (Lib.itoa v ++ r).head? = some 42 := by
  rw [itoa_nn h]
  have : ∀ u : Nat, ∀ r, ¬ (Lib.decDigits u ++ r).head? = some 42 := by
    intro u
    induction u using Nat.strongRecOn with
    | ind u ih =>
      intro r
      by_cases h10 : u < 10
      · rw [Lib.decDigits_one h10]
        intro e
        have e2 : UInt8.ofNat (48 + u) = 42 := by simpa using e
        have := congrArg UInt8.toNat e2
        rw [u8n (by omega)] at this
        have h42 : (42 : UInt8).toNat = 42 := rfl
        omega
      · rw [Lib.decDigits, dif_neg h10, List.append_assoc]
        exact ih (u / 10) (by omega) _
  exact this _ r
/-- A path with no number that no place has. -/
def okS (p : List Int) : Prop := ∀ s ∈ p, -1 ≤ s ∧ s ≤ 9223372036854775807
theorem stsR_txt : ∀ (k : Nat) (p : List Int), okS p → stsR k (p.map stT).flatten = if p.length ≤ k then some p else none
  | 0, [], _ => rfl
  | 0, s :: p, h => by
    rw [stsR, if_neg, if_neg (by simp)]
    rw [List.map_cons, List.flatten_cons]
    unfold stT
    split <;> simp
  | k + 1, [], _ => rfl
  | k + 1, s :: p, h => by
    have ih := stsR_txt k p (fun x hx => h x (List.mem_cons_of_mem _ hx))
    have hs := h s (List.mem_cons_self ..)
    have hne : ¬ ((s :: p).map stT).flatten = [] := by
      rw [List.map_cons, List.flatten_cons]
      unfold stT
      split <;> simp
    have hst : stR ((s :: p).map stT).flatten = some (s, (p.map stT).flatten) := by
      rw [List.map_cons, List.flatten_cons]
      by_cases h1 : s = -1
      · subst h1
        simp [stR, stT]
      · have e : stT s = 46 :: Lib.itoa s := if_neg h1
        unfold stR
        rw [e, List.cons_append, List.head?_cons, if_pos rfl, List.tail_cons, if_neg (itoa_42 (by omega) _), dgs_itoa (by omega) hs.2 (stT_no p)]
    rw [stsR, if_neg hne, hst]
    show (stsR k (p.map stT).flatten).map (s :: ·) = _
    rw [ih]
    by_cases hl : p.length ≤ k
    · rw [if_pos hl, if_pos (by simp; omega)]; rfl
    · rw [if_neg hl, if_neg (by simp; omega)]; rfl
theorem rdP_txt {l : Int} {p : List Int} (h0 : 0 ≤ l) (h1 : l ≤ 9223372036854775807) (hp : okS p) : rdP (txtP l p) = if p.length ≤ 8 then some (l, p) else none := by
  unfold rdP txtP
  rw [List.head?_cons, if_pos rfl, List.tail_cons, dgs_itoa h0 h1 (stT_no p)]
  show (stsR 8 (p.map stT).flatten).map (fun q => (l, q)) = _
  rw [stsR_txt 8 p hp]
  split <;> rfl
theorem stR_text {S : List UInt8} {s : Int} {r : List UInt8} (h : stR S = some (s, r)) : -1 ≤ s ∧ s ≤ 9223372036854775807 ∧ S = stT s ++ r := by
  unfold stR at h
  split at h
  · rename_i h1
    match S, h1 with
    | c :: T, h1 =>
      obtain rfl : c = 46 := by simpa using h1
      rw [List.tail_cons] at h
      split at h
      · rename_i h2
        match T, h2 with
        | d :: U, h2 =>
          obtain rfl : d = 42 := by simpa using h2
          cases h
          exact ⟨by omega, by omega, rfl⟩
      · obtain ⟨g1, g2, g3, g4⟩ := dgs_text h
        refine ⟨by omega, g2, ?_⟩
        unfold stT
        rw [if_neg (by omega), List.cons_append, ← g4]
  · cases h
theorem stsR_text : ∀ (k : Nat) (S : List UInt8) (p : List Int), stsR k S = some p → okS p ∧ p.length ≤ k ∧ S = (p.map stT).flatten
  | 0, S, p, h => by
    rw [stsR] at h
    split at h
    · rename_i e
      cases h
      exact ⟨fun s hs => by simp at hs, by simp, e⟩
    · cases h
  | k + 1, S, p, h => by
    rw [stsR] at h
    split at h
    · rename_i e
      cases h
      exact ⟨fun s hs => by simp at hs, by simp, e⟩
    · rw [Option.bind_eq_some_iff] at h
      obtain ⟨⟨s, r⟩, h1, h2⟩ := h
      rw [Option.map_eq_some_iff] at h2
      obtain ⟨q, h2, rfl⟩ := h2
      obtain ⟨g1, g2, g3⟩ := stR_text h1
      obtain ⟨k1, k2, k3⟩ := stsR_text k r q h2
      refine ⟨fun x hx => ?_, by simp; omega, ?_⟩
      · rcases List.mem_cons.1 hx with rfl | hx
        · exact ⟨g1, g2⟩
        · exact k1 x hx
      · rw [List.map_cons, List.flatten_cons, ← k3]
        exact g3
theorem rdP_text {S : List UInt8} {l : Int} {p : List Int} (h : rdP S = some (l, p)) : 0 ≤ l ∧ l ≤ 9223372036854775807 ∧ okS p ∧ p.length ≤ 8 ∧ S = txtP l p := by
  unfold rdP at h
  split at h
  · rename_i h1
    match S, h1 with
    | c :: T, h1 =>
      obtain rfl : c = 95 := by simpa using h1
      rw [List.tail_cons, Option.bind_eq_some_iff] at h
      obtain ⟨⟨n, r⟩, h2, h3⟩ := h
      rw [Option.map_eq_some_iff] at h3
      obtain ⟨q, h3, e⟩ := h3
      cases e
      obtain ⟨g1, g2, g3, g4⟩ := dgs_text h2
      obtain ⟨k1, k2, k3⟩ := stsR_text 8 r p h3
      refine ⟨g1, g2, k1, k2, ?_⟩
      unfold txtP
      rw [← k3, ← g4]
  · cases h
end Go.Proofs.YtnohcppipkpgmaaDoor
