import Derived.Test.YtpnamkpoapcgeaaDoorJ
namespace Go.Proofs.YtpnamkpoapcgeaaDoor
open Go.RowKit
set_option linter.unusedVariables false
set_option linter.unusedSimpArgs false

theorem isL_isN {c : Nat} (h : isL c = true) : isN c = true := by unfold isL at h; unfold isN; simp only [decide_eq_true_eq] at h ⊢; exact .inl h
theorem isG_isR {c : Nat} (h : isG c = true) : isR c = true := by unfold isG at h; unfold isR; simp only [decide_eq_true_eq] at h ⊢; exact .inr (.inl h)
theorem isD_isR {c : Nat} (h : isD c = true) : isR c = true := by unfold isD at h; unfold isR; simp only [decide_eq_true_eq] at h ⊢; exact .inr (.inr (.inl h))
theorem rowLen_pos {p : Nat → Bool} {c : UInt8} (r : List UInt8) (h : p c.toNat = true) : 0 < rowLen p (c :: r) := by
  unfold rowLen
  simp [List.takeWhile_cons, h]
theorem intGo_ge : ∀ (l : List UInt8) (v n : Nat), n ≤ (intGo v n l).far
  | [], v, n => by simp [intGo]
  | c :: r, v, n => by
    unfold intGo
    split
    · split
      · simp
      · split
        · simp
        · rename_i v' h
          have := intGo_ge r v' (n + 1)
          omega
    · simp
/-- A token is not empty. -/
theorem rd_pos (c : UInt8) (r : List UInt8) (h : (rd (c :: r)).k ≠ 0) : 0 < (rd (c :: r)).far := by
  unfold rd at h ⊢
  dsimp only at h ⊢
  split
  · rename_i hc
    rw [rdRow_far]; exact rowLen_pos r (isL_isN hc)
  · rename_i h1
    rw [if_neg h1] at h
    split
    · rename_i hc
      rw [rdRow_far]; exact rowLen_pos r (isG_isR hc)
    · rename_i h2
      rw [if_neg h2] at h
      split
      · rename_i hc
        rw [if_pos hc] at h
        unfold intGo at h ⊢
        rw [if_pos (isD_isR hc), if_neg (by omega)] at h ⊢
        cases hw : wdig 0 c.toNat with
        | none => rw [hw] at h; exact absurd rfl h
        | some v =>
          have := intGo_ge r v (0 + 1)
          show 0 < (intGo v (0 + 1) r).far
          omega
      · rename_i h3
        rw [if_neg h3] at h
        split
        · unfold rdLife
          split
          · simp
          · split
            · split <;> (dsimp only; omega)
            · simp
        · rename_i h4
          rw [if_neg h4] at h
          unfold rdSign at h ⊢
          split
          · rename_i he
            rw [if_pos he] at h
            exact absurd rfl h
          · rename_i he
            simp only [List.isEmpty_iff] at he
            exact List.length_pos_iff.2 he
/-- What pieces tells, of what is left (with more rounds than bytes left: all of it). -/
def pcsF (N : Nat) : Nat → List UInt8 → List Tk
  | 0, _ => []
  | f + 1, l => match sk false l with
    | [] => []
    | c :: r => if (rd (c :: r)).k = 0 then [pc N (c :: r)] else pc N (c :: r) :: pcsF N f ((c :: r).drop (rd (c :: r)).far)
theorem pcsF_step (N f : Nat) (l : List UInt8) (c : UInt8) (r : List UInt8) (h : sk false l = c :: r) :
    pcsF N (f + 1) l = if (rd (c :: r)).k = 0 then [pc N (c :: r)] else pc N (c :: r) :: pcsF N f ((c :: r).drop (rd (c :: r)).far) := by
  rw [pcsF, h]
theorem pcsF_nil (N f : Nat) (l : List UInt8) (h : sk false l = []) : pcsF N f l = [] := by
  cases f with
  | zero => rfl
  | succ f => rw [pcsF, h]
theorem left_lt {l : List UInt8} {c : UInt8} {r : List UInt8} (h : sk false l = c :: r) (hk : (rd (c :: r)).k ≠ 0) : ((c :: r).drop (rd (c :: r)).far).length < l.length := by
  have h1 := sk_len false l
  rw [h] at h1
  have h2 := rd_pos c r hk
  have h3 := rd_far (c :: r)
  rw [List.length_drop]
  simp only [List.length_cons] at *
  omega
theorem left_le {l : List UInt8} {c : UInt8} {r : List UInt8} (h : sk false l = c :: r) : ((c :: r).drop (rd (c :: r)).far).length ≤ l.length := by
  have h1 := sk_len false l
  rw [h] at h1
  rw [List.length_drop]
  omega
theorem pcsF_enough (N : Nat) : ∀ (f g : Nat) (l : List UInt8), l.length < f → l.length < g → pcsF N f l = pcsF N g l
  | 0, g, l, h, _ => by omega
  | f + 1, 0, l, _, h => by omega
  | f + 1, g + 1, l, h1, h2 => by
    cases hs : sk false l with
    | nil => rw [pcsF_nil _ _ _ hs, pcsF_nil _ _ _ hs]
    | cons c r =>
      rw [pcsF_step _ _ _ _ _ hs, pcsF_step _ _ _ _ _ hs]
      by_cases hk : (rd (c :: r)).k = 0
      · rw [if_pos hk, if_pos hk]
      · have := left_lt hs hk
        rw [if_neg hk, if_neg hk, pcsF_enough N f g _ (by omega) (by omega)]
def pcs (N : Nat) (l : List UInt8) : List Tk := pcsF N (l.length + 1) l
theorem pcs_nil {N : Nat} {l : List UInt8} (h : sk false l = []) : pcs N l = [] := pcsF_nil _ _ _ h
theorem pcs_last {N : Nat} {l : List UInt8} {c : UInt8} {r : List UInt8} (h : sk false l = c :: r) (hk : (rd (c :: r)).k = 0) : pcs N l = [pc N (c :: r)] := by
  unfold pcs; rw [pcsF_step _ _ _ _ _ h, if_pos hk]
theorem pcs_more {N : Nat} {l : List UInt8} {c : UInt8} {r : List UInt8} (h : sk false l = c :: r) (hk : (rd (c :: r)).k ≠ 0) : pcs N l = pc N (c :: r) :: pcs N ((c :: r).drop (rd (c :: r)).far) := by
  unfold pcs; rw [pcsF_step _ _ _ _ _ h, if_neg hk, pcsF_enough N _ (((c :: r).drop (rd (c :: r)).far).length + 1) _ (left_lt h hk) (by omega)]
theorem pcsF_len (N : Nat) : ∀ (f : Nat) (l : List UInt8), (pcsF N f l).length ≤ l.length
  | 0, l => by simp [pcsF]
  | f + 1, l => by
    cases hs : sk false l with
    | nil => rw [pcsF_nil _ _ _ hs]; simp
    | cons c r =>
      rw [pcsF_step _ _ _ _ _ hs]
      have h1 := sk_len false l
      rw [hs] at h1
      simp only [List.length_cons] at h1
      by_cases hk : (rd (c :: r)).k = 0
      · rw [if_pos hk]; simp; omega
      · have h2 := left_lt hs hk
        have h3 := pcsF_len N f ((c :: r).drop (rd (c :: r)).far)
        rw [if_neg hk, List.length_cons]
        omega
theorem pcs_len (N : Nat) (l : List UInt8) : (pcs N l).length ≤ l.length := pcsF_len _ _ _
end Go.Proofs.YtpnamkpoapcgeaaDoor
