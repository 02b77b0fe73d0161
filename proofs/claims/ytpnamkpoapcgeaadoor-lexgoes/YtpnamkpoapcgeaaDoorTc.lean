import Derived.Test.YtpnamkpoapcgeaaDoorTb
namespace Go.Proofs.YtpnamkpoapcgeaaDoor
set_option linter.unusedVariables false
set_option linter.unusedSimpArgs false

theorem pcs_skip {N : Nat} {l l' : List UInt8} (h : sk false l = sk false l') : pcs N l = pcs N l' := by
  cases hs : sk false l' with
  | nil => rw [pcs_nil hs, pcs_nil (h.trans hs)]
  | cons c r =>
    by_cases hk : (rd (c :: r)).k = 0
    · rw [pcs_last hs hk, pcs_last (h.trans hs) hk]
    · rw [pcs_more hs hk, pcs_more (h.trans hs) hk]
/-- Do two tokens' texts, put together, come out otherwise? -/
def cl (a b : Tz) : Bool := match lexToks (tzText a ++ tzText b) with
  | [x, y] => !(tzSame (tkZ x) a && tzSame (tkZ y) b)
  | _ => true
theorem cl_false {a b : Tz} (h : cl a b = false) : ∃ x y, lexToks (tzText a ++ tzText b) = [x, y] ∧ Lk x a ∧ Lk y b := by
  unfold cl at h
  split at h
  · rename_i x y hl
    simp only [Bool.not_eq_false', Bool.and_eq_true] at h
    exact ⟨x, y, hl, same_lk.1 h.1, same_lk.1 h.2⟩
  · cases h
theorem cl_of {a b : Tz} {x y : Tk} (h : lexToks (tzText a ++ tzText b) = [x, y]) (hx : Lk x a) (hy : Lk y b) : cl a b = false := by
  unfold cl
  rw [h]
  dsimp only
  rw [same_lk.2 hx, same_lk.2 hy]
  rfl
/-- What stands behind a token's text, the others being told with blanks where they are wanted. -/
def jr (bl : Tz → Tz → Bool) : Tz → List Tz → List UInt8
  | _, [] => []
  | a, b :: r => (if bl a b = true then [32] else []) ++ (tzText b ++ jr bl b r)
def jf (bl : Tz → Tz → Bool) : List Tz → List UInt8
  | [] => []
  | a :: r => tzText a ++ jr bl a r
/-- Wherever there is no blank, the two may stand side by side. -/
def Sep (bl : Tz → Tz → Bool) : Tz → List Tz → Prop
  | _, [] => True
  | a, b :: r => (bl a b = true ∨ cl a b = false) ∧ Sep bl b r
theorem sep_of {bl : Tz → Tz → Bool} (h : ∀ a b, bl a b = true ∨ cl a b = false) : ∀ (r : List Tz) (a : Tz), Sep bl a r
  | [], a => trivial
  | b :: r, a => ⟨h a b, sep_of h r b⟩
def Lks : List Tk → List Tz → Prop
  | [], [] => True
  | x :: xs, t :: ts => Lk x t ∧ x.k ≠ 0 ∧ Lks xs ts
  | _, _ => False
theorem first_two {A B : List UInt8} (Y : List UInt8) (h : 2 ≤ (A ++ B).length) : [47, 47].isPrefixOf (A ++ (B ++ Y)) = [47, 47].isPrefixOf (A ++ B) := by
  rw [← List.append_assoc]
  match A ++ B, h with
  | c :: d :: q, _ => simp [List.isPrefixOf]
theorem rd_next {a : Tz} {r : List Tz} {bl : Tz → Tz → Bool} (ha : tzMay a = true) (hr : ∀ t ∈ r, tzMay t = true) (hs : Sep bl a r) : rd (tzText a ++ jr bl a r) = rd (tzText a) ∧ [47, 47].isPrefixOf (tzText a ++ jr bl a r) = false := by
  obtain ⟨a0, a1, a2, a3, a4, _⟩ := may_get ha
  cases r with
  | nil => simp only [jr, List.append_nil]; exact ⟨trivial, not_note a1⟩
  | cons b q =>
    obtain ⟨b0, b1, b2, b3, b4, _⟩ := may_get (hr b (by simp))
    have hane : 1 ≤ (tzText a).length := by
      cases h : tzText a with
      | nil => rw [h] at a0; exact absurd rfl a0
      | cons c p => simp
    have hbne : 1 ≤ (tzText b).length := by
      cases h : tzText b with
      | nil => rw [h] at b0; exact absurd rfl b0
      | cons c p => simp
    by_cases hb : bl a b = true
    · simp only [jr, hb, if_true, List.cons_append, List.nil_append]
      refine ⟨rd_sep _ _ a0 a1, ?_⟩
      have := not_note a1
      revert this
      match tzText a, hane with
      | [c], _ => simp [List.isPrefixOf]
      | c :: d :: p, _ => simp [List.isPrefixOf]
    · have hc : cl a b = false := hs.1.resolve_left hb
      obtain ⟨x, y, hl, hx, hy⟩ := cl_false hc
      obtain ⟨n1, n2⟩ := noclash ha (hr b (by simp)) hl hx
      simp only [jr, hb, if_false, List.nil_append, Bool.false_eq_true]
      refine ⟨?_, ?_⟩
      · have h := rd_local (l := tzText a ++ tzText b) (m := tzText a ++ tzText b ++ jr bl b q) (by rw [n1, a1]; exact (List.take_append_of_le_length (by rw [List.length_append]; omega)).symm)
        rw [← List.append_assoc, h, n1]
      · rw [first_two _ (by rw [List.length_append]; omega)]
        exact n2
/-- Tokens put together are read as they were. -/
theorem back (N : Nat) (bl : Tz → Tz → Bool) : ∀ (r : List Tz) (a : Tz), tzMay a = true → (∀ t ∈ r, tzMay t = true) → Sep bl a r → Lks (pcs N (tzText a ++ jr bl a r)) (a :: r)
  | r, a, ha, hr, hs => by
    obtain ⟨a0, a1, a2, a3, a4, _⟩ := may_get ha
    obtain ⟨e1, e2⟩ := rd_next ha hr hs
    have hk : (rd (tzText a ++ jr bl a r)).k ≠ 0 := by rw [e1]; exact a0
    have hsk := sk_of hk e2
    have hst : pcs N (tzText a ++ jr bl a r) = pc N (tzText a ++ jr bl a r) :: pcs N (jr bl a r) := by
      cases hl : tzText a ++ jr bl a r with
      | nil => rw [hl] at hk; exact absurd rfl hk
      | cons c q =>
        rw [hl] at hsk hk
        rw [pcs_more hsk hk, ← hl, e1, a1, List.drop_left]
    rw [hst]
    refine ⟨⟨?_, ?_, ?_⟩, ?_, ?_⟩
    · rw [pc_k.1, e1]; exact a2
    · rw [pc_k.2.1, e1]; exact a3
    · rw [pc_k.2.2, e1]; exact a4
    · rw [pc_k.1]; exact hk
    · match r, hr, hs with
      | [], _, _ => simp only [jr]; rw [pcs_nil rfl]; trivial
      | b :: q, hr, hs =>
        have ih := back N bl q b (hr b (by simp)) (fun t ht => hr t (by simp [ht])) hs.2
        have : pcs N (jr bl a (b :: q)) = pcs N (tzText b ++ jr bl b q) := by
          by_cases hb : bl a b = true
          · simp only [jr, hb, if_true, List.cons_append, List.nil_append]
            exact pcs_skip (sk_blank (by decide))
          · simp only [jr, hb, if_false, List.nil_append, Bool.false_eq_true]
        rw [this]
        exact ih
theorem lks_k : ∀ {xs : List Tk} {ts : List Tz}, Lks xs ts → ∀ x ∈ xs, x.k ≠ 0
  | [], _, _, x, hx => by cases hx
  | y :: ys, t :: ts, h, x, hx => by
    rcases List.mem_cons.1 hx with rfl | hx
    · exact h.2.1
    · exact lks_k h.2.2 x hx
theorem back_lex (bl : Tz → Tz → Bool) (ts : List Tz) (hm : ∀ t ∈ ts, tzMay t = true) (hs : ∀ a b, bl a b = true ∨ cl a b = false) (hl : (jf bl ts).length ≤ 65536) : Lks (lexToks (jf bl ts)) ts := by
  cases ts with
  | nil => exact (by decide : lexToks [] = []) ▸ trivial
  | cons a r =>
    have h := back (jf bl (a :: r)).length bl r a (hm a (by simp)) (fun t ht => hm t (by simp [ht])) (sep_of hs r a)
    unfold lexToks
    rw [if_pos ⟨hl, lks_k h⟩]
    exact h
theorem jr_len {bl bl' : Tz → Tz → Bool} (h : ∀ a b, bl a b = true → bl' a b = true) : ∀ (r : List Tz) (a : Tz), (jr bl a r).length ≤ (jr bl' a r).length
  | [], a => by simp [jr]
  | b :: r, a => by
    have ih := jr_len h r b
    have hh := h a b
    simp only [jr, List.length_append]
    by_cases h1 : bl a b = true
    · rw [if_pos h1, if_pos (hh h1)]; omega
    · rw [if_neg h1]; simp only [List.length_nil]; omega
theorem jf_len {bl bl' : Tz → Tz → Bool} (h : ∀ a b, bl a b = true → bl' a b = true) (ts : List Tz) : (jf bl ts).length ≤ (jf bl' ts).length := by
  cases ts with
  | nil => simp [jf]
  | cons a r => simp only [jf, List.length_append]; have := jr_len h r a; omega
/-- A token that was read may be. -/
theorem pc_may {N : Nat} {l : List UInt8} (hk : (rd l).k ≠ 0) : tzMay (tkZ (pc N l)) = true := by
  have ht := pc_text (N := N) hk
  have e := rd_take l hk
  have hf := rd_far l
  refine may_of ?_ ?_ ?_ ?_ ?_ ?_
  · rw [ht, e]; exact hk
  · rw [ht, e, List.length_take]; omega
  · rw [ht, e]; rfl
  · rw [ht, e]; rfl
  · rw [ht, e]; rfl
  · show (0 : Int) ≤ ((pc N l).p : Int); omega
theorem pcs_may {N : Nat} : ∀ (f : Nat) (l : List UInt8), l.length < f → ∀ x ∈ pcs N l, x.k ≠ 0 → tzMay (tkZ x) = true
  | 0, l, h, _, _, _ => by omega
  | f + 1, l, h, x, hx, hxk => by
    cases hp : pcs N l with
    | nil => rw [hp] at hx; cases hx
    | cons y ys =>
      obtain ⟨c, r, h1, rfl, h3, h4⟩ := pcs_step hp
      rw [hp] at hx
      by_cases hk : (rd (c :: r)).k = 0
      · rw [h4 hk] at hx
        simp at hx
        subst hx
        exact absurd hk hxk
      · rcases List.mem_cons.1 hx with rfl | hx
        · exact pc_may hk
        · rw [h3 hk] at hx
          exact pcs_may f _ (by have := left_lt h1 hk; omega) x hx hxk
theorem lexToks_may {S : List UInt8} {x : Tk} (hx : x ∈ lexToks S) : tzMay (tkZ x) = true := by
  obtain ⟨h1, h2, h3⟩ := lexToks_pcs (S := S) (by intro h; rw [h] at hx; cases hx)
  rw [h1] at hx
  exact pcs_may _ S (Nat.lt_succ_self _) x hx (h3 x hx)
theorem sk_idem : ∀ (b : Bool) (l : List UInt8), sk false (sk b l) = sk b l
  | b, [] => by cases b <;> rfl
  | true, c :: r => by
    by_cases h1 : c = 10
    · have : sk true (c :: r) = sk false r := by rw [sk, if_pos h1]
      rw [this]; exact sk_idem false r
    · have : sk true (c :: r) = sk true r := by rw [sk, if_neg h1]
      rw [this]; exact sk_idem true r
  | false, c :: r => by
    by_cases h1 : isB c.toNat = true
    · rw [sk_blank h1]; exact sk_idem false r
    · by_cases h2 : c = 47 ∧ r.head? = some 47
      · have : sk false (c :: r) = sk true r := by rw [sk, if_neg h1, if_pos h2]
        rw [this]; exact sk_idem true r
      · have : sk false (c :: r) = c :: r := by rw [sk, if_neg h1, if_neg h2]
        rw [this, this]
theorem sk_note {l : List UInt8} (h : sk false l = l) (hne : l ≠ []) : [47, 47].isPrefixOf l = false := by
  cases hp : [47, 47].isPrefixOf l with
  | false => rfl
  | true =>
    have h1 := sk_comment hp
    have h2 := sk_len false (l.drop (cmt l))
    rw [← h1.1, h, List.length_drop] at h2
    have := List.length_pos_iff.2 hne
    omega
theorem sk_suffix : ∀ (b : Bool) (l : List UInt8), sk b l <:+ l
  | b, [] => by cases b <;> exact List.suffix_rfl
  | true, c :: r => by
    unfold sk
    split
    · exact (sk_suffix false r).trans (List.suffix_cons c r)
    · exact (sk_suffix true r).trans (List.suffix_cons c r)
  | false, c :: r => by
    by_cases h1 : isB c.toNat = true
    · rw [sk_blank h1]; exact (sk_suffix false r).trans (List.suffix_cons c r)
    · by_cases h2 : c = 47 ∧ r.head? = some 47
      · have : sk false (c :: r) = sk true r := by rw [sk, if_neg h1, if_pos h2]
        rw [this]; exact (sk_suffix true r).trans (List.suffix_cons c r)
      · have : sk false (c :: r) = c :: r := by rw [sk, if_neg h1, if_neg h2]
        rw [this]; exact List.suffix_rfl
theorem sk_eq_of_len (l : List UInt8) (h : l.length ≤ (sk false l).length) : sk false l = l := by
  obtain ⟨t, ht⟩ := sk_suffix false l
  have h1 := congrArg List.length ht
  rw [List.length_append] at h1
  have : t = [] := List.length_eq_zero_iff.1 (by omega)
  subst this
  exact ht
/-- Two tokens side by side in a text: no blank is wanted. -/
theorem side {N : Nat} {m : List UInt8} (hN : m.length ≤ 65536) (hm : sk false m = m) (hk : (rd m).k ≠ 0) (hs : sk false (m.drop (rd m).far) = m.drop (rd m).far) (hk2 : (rd (m.drop (rd m).far)).k ≠ 0) : cl (tkZ (pc N m)) (tkZ (pc N (m.drop (rd m).far))) = false := by
  have t1 := pc_text (N := N) hk
  have t2 := pc_text (N := N) hk2
  obtain ⟨l', hl'⟩ : ∃ l', l' = m.drop (rd m).far := ⟨_, rfl⟩
  rw [← hl'] at t2 hs hk2 ⊢
  obtain ⟨A, hA⟩ : ∃ A, A = m.take (rd m).far := ⟨_, rfl⟩
  obtain ⟨B, hB⟩ : ∃ B, B = l'.take (rd l').far := ⟨_, rfl⟩
  have hAl : A.length = (rd m).far := by rw [hA, List.length_take]; have := rd_far m; omega
  have hBl : B.length = (rd l').far := by rw [hB, List.length_take]; have := rd_far l'; omega
  have hBp : 1 ≤ B.length := by
    rw [hBl]
    cases hl2 : l' with
    | nil => rw [hl2] at hk2; exact absurd rfl hk2
    | cons c r => rw [hl2] at hk2; exact rd_pos c r hk2
  have hAp : 1 ≤ A.length := by
    rw [hAl]
    cases hl2 : m with
    | nil => rw [hl2] at hk; exact absurd rfl hk
    | cons c r => rw [hl2] at hk; exact rd_pos c r hk
  have hAB : A ++ B = m.take ((rd m).far + (rd l').far) := by rw [List.take_add, ← hl', ← hA, ← hB]
  have hrd : rd (A ++ B) = rd m := by
    refine rd_local ?_
    rw [hAB, List.take_take, Nat.min_eq_left (by omega)]
  have hmne : m ≠ [] := by rintro rfl; exact absurd rfl hk
  have hnote : [47, 47].isPrefixOf (A ++ B) = false := by
    have h1 := sk_note hm hmne
    have h2 : m = A ++ (B ++ l'.drop (rd l').far) := by rw [hB, List.take_append_drop, hl', hA, List.take_append_drop]
    rw [h2, first_two _ (by rw [List.length_append]; omega)] at h1
    exact h1
  have hkAB : (rd (A ++ B)).k ≠ 0 := by rw [hrd]; exact hk
  have hskAB := sk_of hkAB hnote
  have hrB : rd B = rd l' := by rw [hB]; exact rd_take l' hk2
  have hkB : (rd B).k ≠ 0 := by rw [hrB]; exact hk2
  have hskB : sk false B = B := sk_of hkB (not_note (by rw [hrB, hBl]))
  have hlen : (A ++ B).length ≤ 65536 := by
    rw [hAB, List.length_take]; omega
  have hp : pcs (A ++ B).length (A ++ B) = [pc (A ++ B).length (A ++ B), pc (A ++ B).length B] := by
    have h2 : pcs (A ++ B).length B = [pc (A ++ B).length B] := by
      cases hBc : B with
      | nil => rw [hBc] at hBp; simp at hBp
      | cons c r =>
        rw [hBc] at hskB hkB
        rw [pcs_more hskB hkB]
        have h3 : (rd (c :: r)).far = (c :: r).length := by rw [← hBc, hrB, hBl]
        rw [h3, List.drop_length, pcs_nil rfl]
    cases hABc : A ++ B with
    | nil => rw [hABc] at hkAB; exact absurd rfl hkAB
    | cons c r =>
      rw [hABc] at hskAB hkAB h2
      rw [pcs_more hskAB hkAB]
      have h3 : (c :: r).drop (rd (c :: r)).far = B := by rw [← hABc, hrd, ← hAl, List.drop_left]
      rw [h3, h2]
  have hlx : lexToks (A ++ B) = [pc (A ++ B).length (A ++ B), pc (A ++ B).length B] := by
    have hall : ∀ t ∈ pcs (A ++ B).length (A ++ B), t.k ≠ 0 := by
      intro t ht
      rw [hp] at ht
      simp only [List.mem_cons, List.not_mem_nil, or_false] at ht
      rcases ht with rfl | rfl
      · exact hkAB
      · exact hkB
    unfold lexToks
    rw [if_pos ⟨hlen, hall⟩]
    exact hp
  refine cl_of (x := pc (A ++ B).length (A ++ B)) (y := pc (A ++ B).length B) ?_ ?_ ?_
  · rw [t1, t2, ← hA, ← hB]; exact hlx
  · unfold Lk tkZ pc; dsimp only; rw [hrd]; exact ⟨rfl, rfl, rfl⟩
  · unfold Lk tkZ pc; dsimp only; rw [hrB]; exact ⟨rfl, rfl, rfl⟩
/-- Told tight, tokens are no longer than the text that they were read of. -/
theorem tight_le {N : Nat} : ∀ (f : Nat) (l : List UInt8), l.length < f → l.length ≤ 65536 → (∀ t ∈ pcs N l, t.k ≠ 0) → (jf cl ((pcs N l).map tkZ)).length ≤ (sk false l).length
  | 0, l, h, _, _ => by omega
  | f + 1, l, h, hl, hz => by
    cases hp : pcs N l with
    | nil => simp [jf]
    | cons x xs =>
      obtain ⟨c, r, h1, h2, h3, h4⟩ := pcs_step hp
      have hk : (rd (c :: r)).k ≠ 0 := by
        have := hz x (by rw [hp]; simp)
        rw [h2] at this
        exact this
      have hxs := h3 hk
      have hlt := left_lt h1 hk
      have hsl := sk_len false l
      have hidem : sk false (c :: r) = c :: r := by rw [← h1]; exact sk_idem false l
      rw [h1] at hsl ⊢
      have hz' : ∀ t ∈ pcs N ((c :: r).drop (rd (c :: r)).far), t.k ≠ 0 := fun t ht => hz t (by rw [hp, hxs]; simp [ht])
      have ih := tight_le f ((c :: r).drop (rd (c :: r)).far) (by omega) (by omega) hz'
      have hT : (tzText (tkZ x)).length = (rd (c :: r)).far := by
        rw [h2, pc_text hk, List.length_take]; have := rd_far (c :: r); omega
      have hsl2 := sk_len false ((c :: r).drop (rd (c :: r)).far)
      have hfr := rd_far (c :: r)
      have hdl : ((c :: r).drop (rd (c :: r)).far).length = (c :: r).length - (rd (c :: r)).far := List.length_drop
      rw [← hxs] at ih
      show (tzText (tkZ x) ++ jr cl (tkZ x) (xs.map tkZ)).length ≤ (c :: r).length
      rw [List.length_append, hT]
      cases hx2 : xs with
      | nil => simp [jr] at *; omega
      | cons y ys =>
        rw [hx2] at ih
        have e : (jr cl (tkZ x) ((y :: ys).map tkZ)).length = (if cl (tkZ x) (tkZ y) = true then 1 else 0) + (jf cl ((y :: ys).map tkZ)).length := by
          simp only [List.map_cons, jr, jf, List.length_append]
          split <;> simp
        rw [e]
        by_cases hsame : sk false ((c :: r).drop (rd (c :: r)).far) = (c :: r).drop (rd (c :: r)).far
        · rw [hx2] at hxs
          obtain ⟨c', r', g1, g2, g3, g4⟩ := pcs_step hxs.symm
          rw [hsame] at g1
          rw [← g1] at g2
          have hk2 : (rd ((c :: r).drop (rd (c :: r)).far)).k ≠ 0 := by
            have := hz' y (by rw [← hxs]; simp)
            rw [g2] at this
            exact this
          have hside := side (N := N) (m := c :: r) (by omega) hidem hk hsame hk2
          rw [← h2, ← g2] at hside
          rw [hside]
          simp only [Bool.false_eq_true, if_false]
          omega
        · have hlt2 : (sk false ((c :: r).drop (rd (c :: r)).far)).length < ((c :: r).drop (rd (c :: r)).far).length := by
            rcases Nat.lt_or_ge (sk false ((c :: r).drop (rd (c :: r)).far)).length ((c :: r).drop (rd (c :: r)).far).length with h | h
            · exact h
            · exfalso
              apply hsame
              exact sk_eq_of_len _ h
          split <;> omega
end Go.Proofs.YtpnamkpoapcgeaaDoor
