import Derived.Test.YtpnamkpoapcgeaaDoorTa
import Derived.Test.YtpnamkpoapcgeaaDoorLc
namespace Go.Proofs.YtpnamkpoapcgeaaDoor
set_option linter.unusedVariables false
set_option linter.unusedSimpArgs false

theorem rd_blank {c : UInt8} (r : List UInt8) (h : isB c.toNat = true) : (rd (c :: r)).k = 0 := by
  have hc : c = 9 ∨ c = 10 ∨ c = 13 ∨ c = 32 := by
    unfold isB at h
    simp only [decide_eq_true_eq] at h
    rcases h with h | h | h | h
    · exact .inl (uint8_eq h)
    · exact .inr (.inl (uint8_eq h))
    · exact .inr (.inr (.inl (uint8_eq h)))
    · exact .inr (.inr (.inr (uint8_eq h)))
  rcases hc with rfl | rfl | rfl | rfl <;>
  · rw [rd_cons, if_neg (by decide), if_neg (by decide), if_neg (by decide), if_neg (by decide)]
    unfold rdSign
    rw [sg_nil_of r (by decide) (by decide)]
    rfl
theorem rd_slash (r : List UInt8) : (rd (47 :: r)).far = 1 := by
  rw [rd_cons, if_neg (by decide), if_neg (by decide), if_neg (by decide), if_neg (by decide)]
  have h : sg (47 :: r) = [47] := by
    cases r with
    | nil => rfl
    | cons b q => rfl
  unfold rdSign
  rw [h]
  rfl
theorem sk_of {l : List UInt8} (hk : (rd l).k ≠ 0) (hc : [47, 47].isPrefixOf l = false) : sk false l = l := by
  cases l with
  | nil => rfl
  | cons c r =>
    refine sk_stop ?_ hc
    cases hb : isB c.toNat with
    | false => rfl
    | true => exact absurd (rd_blank r hb) hk
theorem not_note {T : List UInt8} (hf : (rd T).far = T.length) : [47, 47].isPrefixOf T = false := by
  match T, hf with
  | [], _ => rfl
  | [a], _ => simp [List.isPrefixOf]
  | a :: b :: q, hf =>
    by_cases ha : a = 47
    · subst ha
      rw [rd_slash] at hf
      simp at hf
    · have : (47 == a) = false := by simpa using fun h => ha h.symm
      simp [List.isPrefixOf, this]
theorem tz_txt (R : Rd) (p : Int) : tzText ⟨R.k, p, R.n, R.s⟩ = txt R := by
  unfold tzText txt
  dsimp only
  have hi : Lib.itoa (R.n : Int) = Lib.decDigits R.n := by
    unfold Lib.itoa
    rw [if_neg (by omega)]
    rfl
  by_cases h5 : R.k = 5
  · rw [if_pos (by omega), if_pos h5, hi]
  · rw [if_neg (by omega), if_neg h5]
    by_cases h4 : R.k = 4
    · rw [if_pos (by omega), if_pos h4]
    · rw [if_neg (by omega), if_neg h4]
/-- The same but for their places. -/
def Lk (x : Tk) (t : Tz) : Prop := (x.k : Int) = t.k ∧ (x.n : Int) = t.n ∧ x.s = t.s
theorem may_get {t : Tz} (h : tzMay t = true) : (rd (tzText t)).k ≠ 0 ∧ (rd (tzText t)).far = (tzText t).length ∧ ((rd (tzText t)).k : Int) = t.k ∧ ((rd (tzText t)).n : Int) = t.n ∧ (rd (tzText t)).s = t.s ∧ 0 ≤ t.p := by
  unfold tzMay at h
  simp only [Bool.and_eq_true, Bool.not_eq_true', beq_eq_false_iff_ne, ne_eq, decide_eq_false_iff_not, decide_eq_true_eq] at h
  obtain ⟨⟨h0, h1⟩, h2, h3, h4, h5⟩ := h
  exact ⟨fun e => h0 (by rw [← h3, e]; rfl), h2, h3, h4, h5, by omega⟩
theorem may_of {t : Tz} (h0 : (rd (tzText t)).k ≠ 0) (h2 : (rd (tzText t)).far = (tzText t).length) (h3 : ((rd (tzText t)).k : Int) = t.k) (h4 : ((rd (tzText t)).n : Int) = t.n) (h5 : (rd (tzText t)).s = t.s) (h6 : 0 ≤ t.p) : tzMay t = true := by
  unfold tzMay
  simp only [Bool.and_eq_true, Bool.not_eq_true', beq_eq_false_iff_ne, ne_eq, decide_eq_false_iff_not, decide_eq_true_eq]
  exact ⟨⟨by omega, by omega⟩, h2, h3, h4, h5⟩
theorem lk_text {x : Tk} {t : Tz} (h : Lk x t) : tzText (tkZ x) = tzText t := by
  unfold tzText tkZ
  dsimp only
  rw [h.1, h.2.1, h.2.2]
theorem same_lk {x : Tk} {t : Tz} : tzSame (tkZ x) t = true ↔ Lk x t := by
  unfold tzSame Lk tkZ
  simp only [decide_eq_true_eq]
theorem take_eq_len {l T : List UInt8} {n : Nat} (h : l.take n = T) (hn : n ≤ l.length) : n = T.length := by
  rw [← h, List.length_take]; omega
/-- What a row of pieces begins with. -/
theorem pcs_step {N : Nat} {l : List UInt8} {x : Tk} {xs : List Tk} (h : pcs N l = x :: xs) : ∃ c r, sk false l = c :: r ∧ x = pc N (c :: r) ∧ ((rd (c :: r)).k ≠ 0 → xs = pcs N ((c :: r).drop (rd (c :: r)).far)) ∧ ((rd (c :: r)).k = 0 → xs = []) := by
  cases hs : sk false l with
  | nil => rw [pcs_nil hs] at h; cases h
  | cons c r =>
    refine ⟨c, r, rfl, ?_⟩
    by_cases hk : (rd (c :: r)).k = 0
    · rw [pcs_last hs hk] at h
      cases h
      exact ⟨rfl, fun h => absurd hk h, fun _ => rfl⟩
    · rw [pcs_more hs hk] at h
      cases h
      exact ⟨rfl, fun _ => rfl, fun h => absurd h hk⟩
theorem pc_k {N : Nat} {l : List UInt8} : (pc N l).k = (rd l).k ∧ (pc N l).n = (rd l).n ∧ (pc N l).s = (rd l).s := ⟨rfl, rfl, rfl⟩
theorem pc_text {N : Nat} {l : List UInt8} (hk : (rd l).k ≠ 0) : tzText (tkZ (pc N l)) = l.take (rd l).far := by
  rw [rd_text l hk, ← tz_txt (rd l) ((pc N l).p : Int)]
  rfl
theorem lexToks_pcs {S : List UInt8} (h : lexToks S ≠ []) : lexToks S = pcs S.length S ∧ S.length ≤ 65536 ∧ ∀ t ∈ pcs S.length S, t.k ≠ 0 := by
  unfold lexToks at h ⊢
  split
  · rename_i h1
    exact ⟨rfl, h1⟩
  · rename_i h1
    rw [if_neg h1] at h
    exact absurd rfl h
theorem rd_ext : ∀ {X Y : Rd}, X.k = Y.k → X.n = Y.n → X.s = Y.s → X.far = Y.far → X = Y := by
  rintro ⟨_, _, _, _⟩ ⟨_, _, _, _⟩ rfl rfl rfl rfl
  rfl
/-- Two tokens that may stand side by side: the first is read as it was. -/
theorem noclash {a b : Tz} {x y : Tk} (ha : tzMay a = true) (hb : tzMay b = true) (hl : lexToks (tzText a ++ tzText b) = [x, y]) (hx : Lk x a) : rd (tzText a ++ tzText b) = rd (tzText a) ∧ [47, 47].isPrefixOf (tzText a ++ tzText b) = false := by
  obtain ⟨a0, a1, a2, a3, a4, _⟩ := may_get ha
  obtain ⟨b0, b1, b2, b3, b4, _⟩ := may_get hb
  have hTa : tzText (⟨a.k, 0, a.n, a.s⟩ : Tz) = tzText a := rfl
  generalize tzText a = A at *
  generalize tzText b = B at *
  obtain ⟨e1, e2, e3⟩ := lexToks_pcs (by rw [hl]; simp : lexToks (A ++ B) ≠ [])
  rw [hl] at e1
  have hnote : [47, 47].isPrefixOf (A ++ B) = false := by
    match A, a0, a1 with
    | [], h, _ => exact absurd rfl h
    | c :: d :: q, _, h =>
      have := not_note h
      simpa [List.isPrefixOf] using this
    | [c], _, h =>
      match B, b0, b1 with
      | [], h', _ => exact absurd rfl h'
      | d :: q, _, h' =>
        cases hp : [47, 47].isPrefixOf ([c] ++ d :: q) with
        | false => rfl
        | true =>
          exfalso
          simp [List.isPrefixOf] at hp
          obtain ⟨p1, p2⟩ := hp
          subst p1 p2
          rw [rd_slash] at h'
          have : q = [] := by simpa using h'.symm
          subst this
          have e4 : pcs ([47] ++ [47] : List UInt8).length ([47] ++ [47]) = [] := pcs_nil (by decide)
          rw [e4] at e1
          cases e1
  refine ⟨?_, hnote⟩
  have hsk : sk false (A ++ B) = A ++ B := by
    match A, a0 with
    | [], h => exact absurd rfl h
    | c :: q, h =>
      rw [List.cons_append]
      rw [List.cons_append] at hnote
      refine sk_stop ?_ hnote
      cases hb : isB c.toNat with
      | false => rfl
      | true => exact absurd (rd_blank q hb) h
  obtain ⟨c, r, f1, f2, f3, f4⟩ := pcs_step e1.symm
  rw [hsk] at f1
  rw [← f1] at f2 f3 f4
  have hk : (rd (A ++ B)).k ≠ 0 := fun h => by
    have := f4 h
    cases this
  have ht := pc_text (N := (A ++ B).length) hk
  rw [← f2, lk_text hx] at ht
  have hT : tzText a = A := hTa ▸ rfl
  rw [hT] at ht
  have hfar := take_eq_len ht.symm (rd_far _)
  have g1 := hx.1
  have g2 := hx.2.1
  have g3 := hx.2.2
  rw [f2] at g1 g2 g3
  have q1 : (rd (A ++ B)).k = (rd A).k := by have : ((rd (A ++ B)).k : Int) = a.k := g1; omega
  have q2 : (rd (A ++ B)).n = (rd A).n := by have : ((rd (A ++ B)).n : Int) = a.n := g2; omega
  have q3 : (rd (A ++ B)).s = (rd A).s := by have : (rd (A ++ B)).s = a.s := g3; rw [this, a4]
  have q4 : (rd (A ++ B)).far = (rd A).far := by rw [hfar, a1]
  exact rd_ext q1 q2 q3 q4
end Go.Proofs.YtpnamkpoapcgeaaDoor
