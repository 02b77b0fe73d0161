import Derived.Test.YtpnamkpoapcgeaaDoorTn
namespace Go.Proofs.YtpnamkpoapcgeaaDoor
open Go.RowKit Go.Shelf
set_option linter.unusedVariables false
set_option linter.unusedSimpArgs false

theorem sk_t (a : UInt8) (l : List UInt8) : sk true (a :: l) = if a = 10 then sk false l else sk true l := by rw [sk]
theorem sk_f (a : UInt8) (l : List UInt8) : sk false (a :: l) = if isB a.toNat then sk false l else if a = 47 ∧ l.head? = some 47 then sk true l else a :: l := by rw [sk]
/-- What is passed over is told by the bytes up to the token. -/
theorem sk_local : ∀ (b : Bool) (l u : List UInt8) (c : UInt8) (r : List UInt8), sk b l = c :: r → l.take (l.length - (c :: r).length + 1) = u.take (l.length - (c :: r).length + 1) → [47, 47].isPrefixOf (u.drop (l.length - (c :: r).length)) = false →
    sk b u = u.drop (l.length - (c :: r).length)
  | b, [], u, c, r, h, _, _ => by cases b <;> cases h
  | true, a :: l, u, c, r, h, h1, h2 => by
    rw [sk_t] at h
    have hlen : (c :: r).length ≤ l.length := by
      split at h
      · rw [← h]; exact sk_len false l
      · rw [← h]; exact sk_len true l
    have e0 : (a :: l).length - (c :: r).length = (l.length - (c :: r).length) + 1 := by simp only [List.length_cons] at hlen ⊢; omega
    rw [e0] at h1 h2 ⊢
    obtain ⟨u', rfl, h1'⟩ := take_cons_inv h1
    rw [List.drop_succ_cons] at h2 ⊢
    rw [sk_t]
    by_cases ha : a = 10
    · rw [if_pos ha] at h ⊢
      exact sk_local false l u' c r h h1' h2
    · rw [if_neg ha] at h ⊢
      exact sk_local true l u' c r h h1' h2
  | false, a :: l, u, c, r, h, h1, h2 => by
    rw [sk_f] at h
    by_cases hB : isB a.toNat = true
    · rw [if_pos hB] at h
      have hlen : (c :: r).length ≤ l.length := by rw [← h]; exact sk_len false l
      have e0 : (a :: l).length - (c :: r).length = (l.length - (c :: r).length) + 1 := by simp only [List.length_cons] at hlen ⊢; omega
      rw [e0] at h1 h2 ⊢
      obtain ⟨u', rfl, h1'⟩ := take_cons_inv h1
      rw [List.drop_succ_cons] at h2 ⊢
      rw [sk_f, if_pos hB]
      exact sk_local false l u' c r h h1' h2
    · by_cases hN : a = 47 ∧ l.head? = some 47
      · rw [if_neg hB, if_pos hN] at h
        have hlen : (c :: r).length ≤ l.length := by rw [← h]; exact sk_len true l
        have e0 : (a :: l).length - (c :: r).length = (l.length - (c :: r).length) + 1 := by simp only [List.length_cons] at hlen ⊢; omega
        rw [e0] at h1 h2 ⊢
        obtain ⟨u', rfl, h1'⟩ := take_cons_inv h1
        rw [List.drop_succ_cons] at h2 ⊢
        have hN' : a = 47 ∧ u'.head? = some 47 := by
          refine ⟨hN.1, ?_⟩
          have h3 := congrArg List.head? (take_shorter h1' (show 1 ≤ l.length - (c :: r).length + 1 by omega))
          rw [← hN.2]
          cases l <;> cases u' <;> simp_all
        rw [sk_f, if_neg hB, if_pos hN']
        exact sk_local true l u' c r h h1' h2
      · rw [if_neg hB, if_neg hN] at h
        obtain ⟨rfl, rfl⟩ := List.cons.inj h
        have e0 : (a :: l).length - (a :: l).length = 0 := by omega
        rw [e0] at h1 h2 ⊢
        obtain ⟨u', rfl, h1'⟩ := take_cons_inv h1
        rw [List.drop_zero] at h2 ⊢
        rw [sk_f, if_neg hB, if_neg]
        rintro ⟨hc, hu⟩
        subst hc
        cases u' with
        | nil => cases hu
        | cons d q =>
          simp at hu
          subst hu
          simp [List.isPrefixOf] at h2
theorem sk_drop (b : Bool) (l : List UInt8) : sk b l = l.drop (l.length - (sk b l).length) := by
  obtain ⟨t, ht⟩ := sk_suffix b l
  have h1 := congrArg List.length ht
  rw [List.length_append] at h1
  have h2 : l.length - (sk b l).length = t.length := by omega
  rw [h2]
  conv => rhs; rw [← ht]
  rw [List.drop_left]
theorem sk_cut : ∀ (b : Bool) (l : List UInt8), sk b l ≠ [] → sk b (l.take (l.length - (sk b l).length)) = []
  | b, [], h => by cases b <;> exact absurd rfl h
  | true, a :: l, h => by
    rw [sk_t] at h ⊢
    by_cases ha : a = 10
    · rw [if_pos ha] at h ⊢
      have := sk_len false l
      rw [show (a :: l).length - (sk false l).length = (l.length - (sk false l).length) + 1 by simp only [List.length_cons]; omega, List.take_succ_cons, sk_t, if_pos ha]
      exact sk_cut false l h
    · rw [if_neg ha] at h ⊢
      have := sk_len true l
      rw [show (a :: l).length - (sk true l).length = (l.length - (sk true l).length) + 1 by simp only [List.length_cons]; omega, List.take_succ_cons, sk_t, if_neg ha]
      exact sk_cut true l h
  | false, a :: l, h => by
    rw [sk_f] at h ⊢
    by_cases hB : isB a.toNat = true
    · rw [if_pos hB] at h ⊢
      have := sk_len false l
      rw [show (a :: l).length - (sk false l).length = (l.length - (sk false l).length) + 1 by simp only [List.length_cons]; omega, List.take_succ_cons, sk_f, if_pos hB]
      exact sk_cut false l h
    · by_cases hN : a = 47 ∧ l.head? = some 47
      · rw [if_neg hB, if_pos hN] at h ⊢
        have := sk_len true l
        have hlt : (sk true l).length < l.length := by
          cases l with
          | nil => cases hN.2
          | cons d q =>
            simp at hN
            rw [hN.2, sk_t, if_neg (by decide), List.length_cons]
            have := sk_len true q
            omega
        rw [show (a :: l).length - (sk true l).length = (l.length - (sk true l).length) + 1 by simp only [List.length_cons]; omega, List.take_succ_cons, sk_f, if_neg hB, if_pos]
        · exact sk_cut true l h
        · refine ⟨hN.1, ?_⟩
          rw [← hN.2]
          cases l with
          | nil => rfl
          | cons d q => rw [show (d :: q).length - (sk true (d :: q)).length = ((d :: q).length - (sk true (d :: q)).length - 1) + 1 by omega, List.take_succ_cons]; rfl
      · rw [if_neg hB, if_neg hN, Nat.sub_self, List.take_zero]
        rfl
theorem left_drop {N : Nat} {l : List UInt8} {xs : List Tk} {t : Tk} (h : pcs N l = xs ++ [t]) (ht : t.k = 0) : ∃ c r, sk false l = c :: r ∧ (((rd (c :: r)).k = 0 ∧ xs = [] ∧ t = pc N (c :: r)) ∨ ((rd (c :: r)).k ≠ 0 ∧ ∃ ys, xs = pc N (c :: r) :: ys ∧ pcs N ((c :: r).drop (rd (c :: r)).far) = ys ++ [t])) := by
  cases hs : sk false l with
  | nil => rw [pcs_nil hs] at h; simp at h
  | cons c r =>
    refine ⟨c, r, rfl, ?_⟩
    by_cases hk : (rd (c :: r)).k = 0
    · rw [pcs_last hs hk] at h
      left
      cases xs with
      | nil => simp at h; exact ⟨hk, rfl, h.symm⟩
      | cons y ys => simp at h
    · rw [pcs_more hs hk] at h
      right
      refine ⟨hk, ?_⟩
      cases xs with
      | nil =>
        simp at h
        rw [← h.1] at ht
        exact absurd ht hk
      | cons y ys => simp at h; exact ⟨ys, by rw [h.1], h.2⟩
theorem rd_slash_k (r : List UInt8) : (rd (47 :: r)).k ≠ 0 := by
  rw [rd_cons, if_neg (by decide), if_neg (by decide), if_neg (by decide), if_neg (by decide)]
  have h : sg (47 :: r) = [47] := by
    cases r with
    | nil => rfl
    | cons b q => rfl
  unfold rdSign
  rw [h]
  simp
theorem not_note_c {c : UInt8} (h : c ≠ 47) (r : List UInt8) : [47, 47].isPrefixOf (c :: r) = false := by
  have : (47 == c) = false := by simpa using fun e => h e.symm
  simp [List.isPrefixOf, this]
theorem pcs_ge {N : Nat} : ∀ (f : Nat) (l : List UInt8), l.length < f → l.length ≤ N → ∀ x ∈ pcs N l, N - l.length ≤ x.p
  | 0, l, h, _, _, _ => by omega
  | f + 1, l, h, hN, x, hx => by
    cases hp : pcs N l with
    | nil => rw [hp] at hx; cases hx
    | cons y ys =>
      obtain ⟨c, r, h1, rfl, h3, h4⟩ := pcs_step hp
      rw [hp] at hx
      have hsl := sk_len false l
      rw [h1] at hsl
      have hpc : N - l.length ≤ (pc N (c :: r)).p := by
        unfold pc
        dsimp only
        split <;> omega
      by_cases hk : (rd (c :: r)).k = 0
      · rw [h4 hk] at hx
        simp at hx
        subst hx
        exact hpc
      · rcases List.mem_cons.1 hx with rfl | hx
        · exact hpc
        · rw [h3 hk] at hx
          have := left_lt h1 hk
          have := pcs_ge f _ (by omega) (by omega) x hx
          omega
theorem take_drop_eq {α : Type} {l u : List α} {e n : Nat} (h : l.take (e + n) = u.take (e + n)) : (l.drop e).take n = (u.drop e).take n := by
  have := congrArg (List.drop e) h
  rwa [List.drop_take, List.drop_take, Nat.add_sub_cancel_left] at this
/-- One token: what is read of a text that begins alike. -/
theorem same_token {l u : List UInt8} {c : UInt8} {r : List UInt8} (hs : sk false l = c :: r) (h : l.take (l.length - (c :: r).length + (rd (c :: r)).far + 1) = u.take (l.length - (c :: r).length + (rd (c :: r)).far + 1)) (hf : (rd (c :: r)).k ≠ 0 ∨ c ≠ 47) :
    sk false u = u.drop (l.length - (c :: r).length) ∧ rd (u.drop (l.length - (c :: r).length)) = rd (c :: r) := by
  have hd := sk_drop false l
  rw [hs] at hd
  have h1 : (c :: r).take ((rd (c :: r)).far + 1) = (u.drop (l.length - (c :: r).length)).take ((rd (c :: r)).far + 1) := by
    have := take_drop_eq (e := l.length - (c :: r).length) (n := (rd (c :: r)).far + 1) h
    rwa [← hd] at this
  refine ⟨sk_local false l u c r hs (take_shorter h (by omega)) ?_, rd_local h1⟩
  obtain ⟨u', hu, h2⟩ := take_cons_inv h1
  rw [hu]
  rcases hf with hk | hc
  · have hp := rd_pos c r hk
    by_cases hc : c = 47
    · have hid : sk false (c :: r) = c :: r := by rw [← hs]; exact sk_idem false l
      have hn := sk_note hid (by simp)
      cases u' with
      | nil => simp [List.isPrefixOf]
      | cons d q =>
        cases r with
        | nil => have := take_shorter h2 (show 1 ≤ (rd [c]).far by omega); simp at this
        | cons d' q' =>
          have := take_shorter h2 (show 1 ≤ (rd (c :: d' :: q')).far by omega)
          simp at this
          subst this
          simpa [List.isPrefixOf] using hn
    · exact not_note_c hc _
  · exact not_note_c hc _
/-- Where a text is stuck is told by the bytes up to there. -/
theorem stuck_local : ∀ (f : Nat) (l u : List UInt8) (N M : Nat) (xs : List Tk) (t : Tk), l.length < f → pcs N l = xs ++ [t] → t.k = 0 → l.length ≤ N → u.length ≤ M → N - l.length = M - u.length → l.take (t.p - (N - l.length) + 1) = u.take (t.p - (N - l.length) + 1) →
    ∃ ys t', pcs M u = ys ++ [t'] ∧ t'.k = 0 ∧ t'.p = t.p
  | 0, l, u, N, M, xs, t, h, _, _, _, _, _, _ => by omega
  | f + 1, l, u, N, M, xs, t, h, hp, ht, hN, hM, ho, htk => by
    obtain ⟨c, r, hs, hcase⟩ := left_drop hp ht
    have hsl := sk_len false l
    rw [hs] at hsl
    have hfr := rd_far (c :: r)
    rcases hcase with ⟨hk, rfl, rfl⟩ | ⟨hk, ys, rfl, hp'⟩
    · have hpp : (pc N (c :: r)).p = N - (c :: r).length + (rd (c :: r)).far := by unfold pc; dsimp only; rw [if_pos hk]
      rw [hpp, show N - (c :: r).length + (rd (c :: r)).far - (N - l.length) = l.length - (c :: r).length + (rd (c :: r)).far by omega] at htk
      obtain ⟨g1, g2⟩ := same_token hs htk (.inr (by rintro rfl; exact rd_slash_k r hk))
      have hlu : l.length - (c :: r).length + 1 ≤ u.length := by
        have h1 := congrArg List.length (take_shorter htk (show l.length - (c :: r).length + 1 ≤ _ by omega))
        rw [List.length_take, List.length_take] at h1
        simp only [List.length_cons] at h1 hsl ⊢
        omega
      refine ⟨[], pc M (u.drop (l.length - (c :: r).length)), ?_, ?_, ?_⟩
      · cases hu : u.drop (l.length - (c :: r).length) with
        | nil => rw [List.drop_eq_nil_iff] at hu; omega
        | cons c' r' =>
          rw [hu] at g1 g2
          rw [pcs_last g1 (by rw [g2]; exact hk)]
          rfl
      · show (rd (u.drop (l.length - (c :: r).length))).k = 0
        rw [g2]; exact hk
      · rw [hpp]
        unfold pc
        dsimp only
        rw [g2, if_pos hk, List.length_drop]
        omega
    · have hge := pcs_ge (N := N) _ ((c :: r).drop (rd (c :: r)).far) (Nat.lt_succ_self _) (by rw [List.length_drop]; omega) t (by rw [hp']; simp)
      rw [List.length_drop] at hge
      obtain ⟨D, hD⟩ : ∃ D, t.p - (N - l.length) = l.length - (c :: r).length + (rd (c :: r)).far + D := ⟨t.p - (N - l.length) - (l.length - (c :: r).length + (rd (c :: r)).far), by omega⟩
      obtain ⟨g1, g2⟩ := same_token hs (take_shorter htk (by omega)) (.inl hk)
      have hd := sk_drop false l
      rw [hs] at hd
      have hlt := left_lt hs hk
      have h3 : ((c :: r).drop (rd (c :: r)).far).take (D + 1) = ((u.drop (l.length - (c :: r).length)).drop (rd (c :: r)).far).take (D + 1) := by
        rw [hD, show l.length - (c :: r).length + (rd (c :: r)).far + D + 1 = (l.length - (c :: r).length + (rd (c :: r)).far) + (D + 1) by omega] at htk
        have := take_drop_eq htk
        rw [← List.drop_drop, ← List.drop_drop, ← hd] at this
        exact this
      have hlu : l.length - (c :: r).length + (rd (c :: r)).far ≤ u.length := by
        have h1 := congrArg List.length (take_shorter htk (show l.length - (c :: r).length + (rd (c :: r)).far ≤ _ by omega))
        rw [List.length_take, List.length_take] at h1
        omega
      have hdp : 0 < (rd (c :: r)).far := rd_pos c r hk
      obtain ⟨ys', t', e1, e2, e3⟩ := stuck_local f ((c :: r).drop (rd (c :: r)).far) ((u.drop (l.length - (c :: r).length)).drop (rd (c :: r)).far) N M ys t (by omega) hp' ht (by rw [List.length_drop]; omega) (by rw [List.length_drop, List.length_drop]; omega)
        (by rw [List.length_drop, List.length_drop, List.length_drop]; omega)
        (by
          rw [List.length_drop, show t.p - (N - ((c :: r).length - (rd (c :: r)).far)) = D by omega]
          exact h3)
      refine ⟨pc M (u.drop (l.length - (c :: r).length)) :: ys', t', ?_, e2, e3⟩
      cases hu : u.drop (l.length - (c :: r).length) with
      | nil => rw [List.drop_eq_nil_iff] at hu; omega
      | cons c' r' =>
        rw [hu] at g1 g2 e1
        rw [pcs_more g1 (by rw [g2]; exact hk), g2, e1]
        rfl
/-- What may stand where a text is stuck: nothing, or a token that begins as what stands there. -/
def Fix (m V : List UInt8) : Prop := V = [] ∨ ∃ c r V', m = c :: r ∧ V = c :: V' ∧ c ≠ 47 ∧ (rd V).k ≠ 0 ∧ (rd V).far = V.length
/-- A text that is stuck, cut off there and ended well. -/
theorem cut_ok : ∀ (f : Nat) (l : List UInt8) (N : Nat) (xs : List Tk) (t : Tk), l.length < f → pcs N l = xs ++ [t] → t.k = 0 → l.length ≤ N →
    ∃ d m, d ≤ l.length ∧ l.drop d = m ∧ m ≠ [] ∧ (rd m).k = 0 ∧ t.p = (N - l.length) + d + (rd m).far ∧ ∀ V M, Fix m V → ∀ x ∈ pcs M (l.take d ++ V), x.k ≠ 0
  | 0, l, N, xs, t, h, _, _, _ => by omega
  | f + 1, l, N, xs, t, h, hp, ht, hN => by
    obtain ⟨c, r, hs, hcase⟩ := left_drop hp ht
    have hsl := sk_len false l
    rw [hs] at hsl
    have hfr := rd_far (c :: r)
    have hd := sk_drop false l
    rw [hs] at hd
    have hte : (l.take (l.length - (c :: r).length)).length = l.length - (c :: r).length := by rw [List.length_take]; omega
    rcases hcase with ⟨hk, rfl, rfl⟩ | ⟨hk, ys, rfl, hp'⟩
    · refine ⟨l.length - (c :: r).length, c :: r, by omega, hd.symm, by simp, hk, ?_, ?_⟩
      · unfold pc
        dsimp only
        rw [if_pos hk]
        omega
      · rintro V M (rfl | ⟨c', r', V', e1, rfl, hc, hVk, hVf⟩) x hx
        · have := sk_cut false l (by rw [hs]; simp)
          rw [hs] at this
          rw [List.append_nil, pcs_nil this] at hx
          cases hx
        · obtain ⟨rfl, rfl⟩ := List.cons.inj e1
          have hud : (l.take (l.length - (c :: r).length) ++ c :: V').drop (l.length - (c :: r).length) = c :: V' := by
            rw [List.drop_append_of_le_length (by rw [hte]; exact Nat.le_refl _), List.drop_eq_nil_of_le (by rw [hte]; exact Nat.le_refl _), List.nil_append]
          have hut : l.take (l.length - (c :: r).length + 1) = (l.take (l.length - (c :: r).length) ++ c :: V').take (l.length - (c :: r).length + 1) := by
            rw [List.take_add, ← hd, List.take_succ_cons, List.take_zero]
            conv => rhs; rw [List.take_add, hud, List.take_succ_cons, List.take_zero]
            rw [List.take_append_of_le_length (by rw [hte]; exact Nat.le_refl _), List.take_take, Nat.min_self]
          have g := sk_local false l (l.take (l.length - (c :: r).length) ++ c :: V') c r hs hut (by rw [hud]; exact not_note_c hc _)
          rw [hud] at g
          rw [pcs_more g hVk, hVf, List.drop_length, pcs_nil rfl] at hx
          simp at hx
          subst hx
          exact hVk
    · have hlt := left_lt hs hk
      have hdp : 0 < (rd (c :: r)).far := rd_pos c r hk
      obtain ⟨d', m, q1, q2, q3, q4, q5, q6⟩ := cut_ok f ((c :: r).drop (rd (c :: r)).far) N ys t (by omega) hp' ht (by rw [List.length_drop]; omega)
      rw [List.length_drop] at q1 q5
      refine ⟨l.length - (c :: r).length + (rd (c :: r)).far + d', m, by omega, ?_, q3, q4, by omega, ?_⟩
      · rw [← List.drop_drop, ← List.drop_drop, ← hd]; exact q2
      · intro V M hV x hx
        have hll : l.take (l.length - (c :: r).length + (rd (c :: r)).far + d') = l.take (l.length - (c :: r).length) ++ ((c :: r).take (rd (c :: r)).far ++ ((c :: r).drop (rd (c :: r)).far).take d') := by
          rw [Nat.add_assoc, List.take_add, ← hd, List.take_add]
        rw [hll, List.append_assoc, List.append_assoc] at hx
        have hq6 := q6 V M hV
        obtain ⟨R, hR⟩ : ∃ R, R = ((c :: r).drop (rd (c :: r)).far).take d' ++ V := ⟨_, rfl⟩
        rw [← hR] at hx hq6
        have hT : rd ((c :: r).take (rd (c :: r)).far) = rd (c :: r) := rd_take _ hk
        have hTl : ((c :: r).take (rd (c :: r)).far).length = (rd (c :: r)).far := by rw [List.length_take]; omega
        have hR1 : R = [] ∨ ((c :: r).drop (rd (c :: r)).far).take 1 = R.take 1 := by
          rcases Nat.eq_zero_or_pos d' with h0 | h0
          · subst h0
            rw [List.drop_zero] at q2
            rcases hV with rfl | ⟨c', r', V', e1, rfl, _⟩
            · left; rw [hR]; simp
            · right; rw [hR, q2, e1]; simp
          · right
            rw [hR, List.take_append_of_le_length (by rw [List.length_take, List.length_drop]; omega), List.take_take, Nat.min_eq_left h0]
        obtain ⟨T, hTe⟩ : ∃ T, T = (c :: r).take (rd (c :: r)).far := ⟨_, rfl⟩
        rw [← hTe] at hx hT hTl
        have hid : sk false (c :: r) = c :: r := by rw [← hs]; exact sk_idem false l
        have hrd : rd (T ++ R) = rd (c :: r) ∧ [47, 47].isPrefixOf (T ++ R) = false := by
          rcases hR1 with h0 | h1
          · rw [h0, List.append_nil]
            exact ⟨hT, not_note (by rw [hT, hTl])⟩
          · have h2 : (c :: r).take ((rd (c :: r)).far + 1) = (T ++ R).take ((rd (c :: r)).far + 1) := by
              rw [List.take_add, ← hTe, h1, List.take_append, hTl, show (rd (c :: r)).far + 1 - (rd (c :: r)).far = 1 by omega, List.take_of_length_le (l := T) (by omega)]
            refine ⟨rd_local h2, ?_⟩
            have hn := sk_note hid (by simp)
            have h3 := take_shorter h2 (show 2 ≤ (rd (c :: r)).far + 1 by omega)
            cases r with
            | nil =>
              have hf1 : (rd [c]).far = 1 := by simp only [List.length_cons, List.length_nil] at hfr; omega
              have : (T ++ R).take 2 = [c] := by rw [← h3]; rfl
              match hTR : T ++ R with
              | [] => rw [hTR] at this; cases this
              | [y] => simp [List.isPrefixOf]
              | y :: z :: q => rw [hTR] at this; simp at this
            | cons d q =>
              match hTR : T ++ R with
              | [] => simp [List.isPrefixOf]
              | [y] => simp [List.isPrefixOf]
              | y :: z :: q' =>
                rw [hTR] at h3
                simp at h3
                obtain ⟨rfl, rfl⟩ := h3
                simpa [List.isPrefixOf] using hn
        have hTne : ∃ T', T = c :: T' := by
          obtain ⟨n, hn⟩ : ∃ n, (rd (c :: r)).far = n + 1 := ⟨(rd (c :: r)).far - 1, by omega⟩
          rw [hTe, hn, List.take_succ_cons]
          exact ⟨_, rfl⟩
        obtain ⟨T', hT'⟩ := hTne
        have hud : (l.take (l.length - (c :: r).length) ++ (T ++ R)).drop (l.length - (c :: r).length) = T ++ R := by
          rw [List.drop_append_of_le_length (by rw [hte]; exact Nat.le_refl _), List.drop_eq_nil_of_le (by rw [hte]; exact Nat.le_refl _), List.nil_append]
        have hut : l.take (l.length - (c :: r).length + 1) = (l.take (l.length - (c :: r).length) ++ (T ++ R)).take (l.length - (c :: r).length + 1) := by
          rw [List.take_add, ← hd, List.take_succ_cons, List.take_zero]
          conv => rhs; rw [List.take_add, hud, hT', List.cons_append, List.take_succ_cons, List.take_zero]
          rw [List.take_append_of_le_length (by rw [hte]; exact Nat.le_refl _), List.take_take, Nat.min_self]
        have g := sk_local false l (l.take (l.length - (c :: r).length) ++ (T ++ R)) c r hs hut (by rw [hud]; exact hrd.2)
        rw [hud, hT', List.cons_append] at g
        have hrd1 := hrd.1
        rw [hT', List.cons_append] at hrd1 hx
        rw [pcs_more g (by rw [hrd1]; exact hk), hrd1] at hx
        have hdr : (c :: (T' ++ R)).drop (rd (c :: r)).far = R := by rw [← List.cons_append, ← hT', ← hTl, List.drop_left]
        rw [hdr] at hx
        rcases List.mem_cons.1 hx with rfl | hx
        · show (rd (c :: (T' ++ R))).k ≠ 0
          rw [hrd1]; exact hk
        · exact hq6 x hx

theorem rowLen_take (p : Nat → Bool) (l : List UInt8) : rowLen p (l.take (rowLen p l)) = rowLen p l := by
  rw [rowLen_rl p l, rowLen_rl]
  exact rl_take p 32 l
theorem rowLen_len (p : Nat → Bool) (l : List UInt8) : (l.take (rowLen p l)).length = rowLen p l := by
  rw [List.length_take]; have := rowLen_le p l; omega
theorem rdRow_alone {k : Nat} {p : Nat → Bool} (l : List UInt8) : rdRow k p (l.take (rowLen p l)) = ⟨if isWl (l.take (rowLen p l)) then 1 else k, 0, l.take (rowLen p l), rowLen p l⟩ := by
  have h3 : rowAt (l.take (rowLen p l)) (rowLen p l) = false := rowAt_ge (by rw [rowLen_len]; exact Nat.le_refl _)
  unfold rdRow
  rw [rowLen_take, h3, List.take_take, Nat.min_self]
  simp
theorem intGo_cut : ∀ (l : List UInt8) (v n : Nat), (intGo v n l).k = 0 → ∃ v', intGo v n (l.take ((intGo v n l).far - n)) = ⟨5, v', [], (intGo v n l).far⟩
  | [], v, n, h => by simp [intGo] at h
  | c :: r, v, n, h => by
    have hu : ∀ r', intGo v n (c :: r') = if isR c.toNat then (if 0 < n ∧ v = 0 then ⟨0, 0, [], n⟩ else match wdig v c.toNat with
      | none => ⟨0, 0, [], n⟩
      | some v' => intGo v' (n + 1) r') else ⟨5, v, [], n⟩ := fun r' => by rw [intGo]; rfl
    rw [hu] at h ⊢
    by_cases h1 : isR c.toNat = true
    · rw [if_pos h1] at h ⊢
      by_cases h2 : 0 < n ∧ v = 0
      · rw [if_pos h2] at h ⊢
        dsimp only
        rw [Nat.sub_self, List.take_zero]
        exact ⟨v, rfl⟩
      · rw [if_neg h2] at h ⊢
        cases hw : wdig v c.toNat with
        | none =>
          dsimp only
          rw [Nat.sub_self, List.take_zero]
          exact ⟨v, rfl⟩
        | some v' =>
          rw [hw] at h
          dsimp only at h ⊢
          have hge := intGo_ge' r v' (n + 1)
          obtain ⟨v'', e⟩ := intGo_cut r v' (n + 1) h
          refine ⟨v'', ?_⟩
          rw [show (intGo v' (n + 1) r).far - n = ((intGo v' (n + 1) r).far - (n + 1)) + 1 by omega, List.take_succ_cons, hu, if_pos h1, if_neg h2, hw]
          exact e
    · rw [if_neg h1] at h
      cases h
theorem kw_len : ∀ w ∈ kw, w.length ≤ 8 ∧ w ++ [97] ∉ kw := by decide
theorem isWl_iff (l : List UInt8) : isWl l = true ↔ l ∈ kw := by
  unfold isWl
  rw [List.any_eq_true]
  constructor
  · rintro ⟨x, hx, e⟩
    have : l = x := by simpa using e
    rwa [this]
  · intro h
    exact ⟨l, h, by simp⟩
theorem rl_a (p : Nat → Bool) (hp : p 97 = true) : ∀ (n : Nat) (l : List UInt8), rl p n l = l.length → l.length < n → rl p n (l ++ [97]) = l.length + 1
  | 0, l, h, hl => by omega
  | n + 1, [], h, hl => by cases n <;> simp [rl, hp]
  | n + 1, c :: r, h, hl => by
    by_cases hc : p c.toNat = true
    · simp only [rl, hc, if_true, List.length_cons, List.cons_append] at h hl ⊢
      rw [rl_a p hp n r (by omega) (by omega)]
    · simp [rl, hc] at h
/-- Where a text is stuck: with one of these endings it is a token. -/
theorem fix_ok (c : UInt8) (r : List UInt8) (h : (rd (c :: r)).k = 0) : ∃ E, (E = [] ∨ E = [97] ∨ E = [124]) ∧ Fix (c :: r) ((c :: r).take (rd (c :: r)).far ++ E) := by
  rw [rd_cons] at h
  have hrow : ∀ (k : Nat) (p : Nat → Bool), k ≠ 0 → p c.toNat = true → rd (c :: r) = rdRow k p (c :: r) → (∀ q, rd (c :: q) = rdRow k p (c :: q)) → c ≠ 47 → ∃ E, (E = [] ∨ E = [97] ∨ E = [124]) ∧ Fix (c :: r) ((c :: r).take (rd (c :: r)).far ++ E) := by
    intro k p hk0 hpc he hq hc
    refine ⟨[], .inl rfl, .inr ?_⟩
    rw [List.append_nil, he, rdRow_far']
    have hp := rowLen_pos' (p := p) r hpc
    have e := rdRow_alone (k := k) (p := p) (c :: r)
    have hl := rowLen_len p (c :: r)
    obtain ⟨n, hn⟩ : ∃ n, rowLen p (c :: r) = n + 1 := ⟨rowLen p (c :: r) - 1, by omega⟩
    rw [hn, List.take_succ_cons] at e hl ⊢
    refine ⟨c, r, r.take n, rfl, rfl, hc, ?_, ?_⟩
    · rw [hq, e]; dsimp only; split
      · decide
      · exact hk0
    · rw [hq, e]; exact hl.symm
  by_cases h1 : isL c.toNat = true
  · exact hrow 2 isN (by decide) (isL_isN' h1) (by rw [rd_cons, if_pos h1]) (fun q => by rw [rd_cons, if_pos h1]) (by rintro rfl; exact absurd h1 (by decide))
  · rw [if_neg h1] at h
    by_cases h2 : isG c.toNat = true
    · exact hrow 3 isR (by decide) (isG_isR' h2) (by rw [rd_cons, if_neg h1, if_pos h2]) (fun q => by rw [rd_cons, if_neg h1, if_pos h2]) (by rintro rfl; exact absurd h2 (by decide))
    · rw [if_neg h2] at h
      by_cases h3 : isD c.toNat = true
      · rw [if_pos h3] at h
        have he : ∀ q, rd (c :: q) = intGo 0 0 (c :: q) := fun q => by rw [rd_cons, if_neg h1, if_neg h2, if_pos h3]
        have hw : ∃ v, wdig 0 c.toNat = some v := by
          have h3' := h3
          unfold isD at h3'
          simp only [decide_eq_true_eq] at h3'
          refine ⟨0 * 10 + (c.toNat - 48), ?_⟩
          unfold wdig
          rw [if_pos ⟨h3, by omega⟩]
        obtain ⟨v, hw⟩ := hw
        have hfp : 0 < (intGo 0 0 (c :: r)).far := by
          unfold intGo
          rw [if_pos (isD_isR' h3), if_neg (by omega), hw]
          have := intGo_ge' r v (0 + 1)
          show 0 < (intGo v (0 + 1) r).far
          omega
        obtain ⟨v', e⟩ := intGo_cut (c :: r) 0 0 h
        have hfl := intGo_far (c :: r) 0 0
        refine ⟨[], .inl rfl, .inr ?_⟩
        rw [List.append_nil, he r]
        obtain ⟨n, hn⟩ : ∃ n, (intGo 0 0 (c :: r)).far = n + 1 := ⟨(intGo 0 0 (c :: r)).far - 1, by omega⟩
        rw [Nat.sub_zero] at e
        have hl : ((c :: r).take (intGo 0 0 (c :: r)).far).length = (intGo 0 0 (c :: r)).far := by rw [List.length_take]; omega
        rw [hn, List.take_succ_cons] at e hl ⊢
        refine ⟨c, r, r.take n, rfl, rfl, (by rintro rfl; exact absurd h3 (by decide)), ?_, ?_⟩
        · rw [he, e]; simp
        · rw [he, e]; exact hl.symm
      · rw [if_neg h3] at h
        by_cases h4 : c.toNat = 39
        · rw [if_pos h4] at h
          have he : ∀ q, rd (c :: q) = rdLife q := fun q => by rw [rd_cons, if_neg h1, if_neg h2, if_neg h3, if_pos h4]
          have hc47 : c ≠ 47 := by rintro rfl; exact absurd h4 (by decide)
          have hone : (rdLife r).far = 1 → ∃ E, (E = [] ∨ E = [97] ∨ E = [124]) ∧ Fix (c :: r) ((c :: r).take (rd (c :: r)).far ++ E) := fun hf => by
            refine ⟨[97], .inr (.inl rfl), .inr ⟨c, r, [97], rfl, ?_, hc47, ?_, ?_⟩⟩
            · rw [he, hf]; rfl
            · rw [he r, hf]
              show (rd (c :: [97])).k ≠ 0
              rw [he]; decide
            · rw [he r, hf]
              show (rd (c :: [97])).far = 2
              rw [he]; decide
          cases r with
          | nil => exact hone rfl
          | cons d q =>
            by_cases hd : isL d.toNat = true
            · have hlife : rdLife (d :: q) = if (rdRow 2 isN (d :: q)).k = 2 then ⟨4, 0, (rdRow 2 isN (d :: q)).s, 1 + (rdRow 2 isN (d :: q)).far⟩ else ⟨0, 0, [], 1 + (rdRow 2 isN (d :: q)).far⟩ := by
                unfold rdLife; dsimp only; rw [if_pos hd]
              have hk2 : ¬ (rdRow 2 isN (d :: q)).k = 2 := fun hk => by rw [hlife, if_pos hk] at h; cases h
              rw [if_neg hk2] at hlife
              have hp := rowLen_pos' (p := isN) q (isL_isN' hd)
              have hl := rowLen_len isN (d :: q)
              have hal := rdRow_alone (k := 2) (p := isN) (d :: q)
              obtain ⟨n, hn⟩ : ∃ n, rowLen isN (d :: q) = n + 1 := ⟨rowLen isN (d :: q) - 1, by omega⟩
              have hfar : (rd (c :: d :: q)).far = rowLen isN (d :: q) + 1 := by rw [he, hlife, rdRow_far']; dsimp only; omega
              rw [hfar, List.take_succ_cons]
              by_cases hw : isWl ((d :: q).take (rowLen isN (d :: q))) = true
              · obtain ⟨hw8, hwa⟩ := kw_len _ ((isWl_iff _).1 hw)
                refine ⟨[97], .inr (.inl rfl), .inr ⟨c, d :: q, (d :: q).take (rowLen isN (d :: q)) ++ [97], rfl, rfl, hc47, ?_⟩⟩
                have hT : rowLen isN ((d :: q).take (rowLen isN (d :: q)) ++ [97]) = rowLen isN (d :: q) + 1 := by
                  have h5 := rowLen_take isN (d :: q)
                  rw [rowLen_rl] at h5 ⊢
                  rw [rl_a isN (by decide) 32 _ (by rw [h5, hl]) (by omega), hl]
                have hrow2 : rdRow 2 isN ((d :: q).take (rowLen isN (d :: q)) ++ [97]) = ⟨2, 0, (d :: q).take (rowLen isN (d :: q)) ++ [97], rowLen isN (d :: q) + 1⟩ := by
                  have hll : ((d :: q).take (rowLen isN (d :: q)) ++ [97]).length = rowLen isN (d :: q) + 1 := by rw [List.length_append, hl]; rfl
                  unfold rdRow
                  rw [hT, rowAt_ge (by omega), List.take_of_length_le (by omega)]
                  have : isWl ((d :: q).take (rowLen isN (d :: q)) ++ [97]) = false := by
                    cases hh : isWl ((d :: q).take (rowLen isN (d :: q)) ++ [97]) with
                    | false => rfl
                    | true => exact absurd ((isWl_iff _).1 hh) hwa
                  rw [this]
                  simp
                have hlf : rdLife ((d :: q).take (rowLen isN (d :: q)) ++ [97]) = ⟨4, 0, (d :: q).take (rowLen isN (d :: q)) ++ [97], 1 + (rowLen isN (d :: q) + 1)⟩ := by
                  rw [hn, List.take_succ_cons, List.cons_append] at hrow2 ⊢
                  unfold rdLife
                  dsimp only
                  rw [if_pos hd, if_pos (by rw [hrow2]), hrow2]
                rw [List.cons_append, he, hlf]
                refine ⟨by simp, ?_⟩
                rw [List.length_cons, List.length_append, hl]
                simp
                omega
              · refine ⟨[], .inl rfl, .inr ⟨c, d :: q, (d :: q).take (rowLen isN (d :: q)), rfl, by rw [List.append_nil], hc47, ?_⟩⟩
                have hlf : rdLife ((d :: q).take (rowLen isN (d :: q))) = ⟨4, 0, (d :: q).take (rowLen isN (d :: q)), 1 + rowLen isN (d :: q)⟩ := by
                  rw [if_neg hw] at hal
                  rw [hn, List.take_succ_cons] at hal ⊢
                  unfold rdLife
                  dsimp only
                  rw [if_pos hd, if_pos (by rw [hal]), hal]
                rw [List.append_nil, he, hlf]
                refine ⟨by simp, ?_⟩
                rw [List.length_cons, hl]
                dsimp only
                omega
            · refine hone ?_
              unfold rdLife; dsimp only; rw [if_neg hd]
        · rw [if_neg h4] at h
          have he : rd (c :: r) = rdSign (c :: r) := by rw [rd_cons, if_neg h1, if_neg h2, if_neg h3, if_neg h4]
          have hs : sg (c :: r) = [] := by
            unfold rdSign at h
            split at h
            · rename_i hh; simpa using hh
            · cases h
          by_cases hc : c = 124
          · subst hc
            have hf : (rd (124 :: r)).far = 1 := by rw [he]; unfold rdSign; rw [hs]; simp
            refine ⟨[124], .inr (.inr rfl), .inr ⟨124, r, [124], rfl, ?_, by decide, ?_, ?_⟩⟩
            · rw [hf]; rfl
            · rw [hf]; show (rd [124, 124]).k ≠ 0; decide
            · rw [hf]; show (rd [124, 124]).far = 2; decide
          · have hf : (rd (c :: r)).far = 0 := by rw [he]; unfold rdSign; rw [hs]; simp [hc]
            exact ⟨[], .inl rfl, .inl (by rw [hf]; rfl)⟩

/-- A token's text stands in the text at its place. -/
theorem pcs_place (S : List UInt8) : ∀ (f : Nat) (l : List UInt8), l.length < f → l.length ≤ S.length → S.drop (S.length - l.length) = l → ∀ x ∈ pcs S.length l, x.k ≠ 0 → x.p + (tzText (tkZ x)).length ≤ S.length ∧ (S.drop x.p).take (tzText (tkZ x)).length = tzText (tkZ x)
  | 0, l, h, _, _, _, _, _ => by omega
  | f + 1, l, h, hle, hd, x, hx, hxk => by
    cases hp : pcs S.length l with
    | nil => rw [hp] at hx; cases hx
    | cons y ys =>
      obtain ⟨c, r, h1, rfl, h3, h4⟩ := pcs_step hp
      rw [hp] at hx
      have hsl := sk_len false l
      rw [h1] at hsl
      have hfr := rd_far (c :: r)
      have hsd := sk_drop false l
      rw [h1] at hsd
      have hcr : S.drop (S.length - (c :: r).length) = c :: r := by
        conv => rhs; rw [hsd, ← hd]
        rw [List.drop_drop, hd]
        congr 1
        omega
      by_cases hk : (rd (c :: r)).k = 0
      · rw [h4 hk] at hx
        simp at hx
        subst hx
        exact absurd hk hxk
      · rcases List.mem_cons.1 hx with rfl | hx
        · have ht := pc_text (N := S.length) hk
          have hpp : (pc S.length (c :: r)).p = S.length - (c :: r).length := by unfold pc; dsimp only; rw [if_neg hk]; omega
          rw [ht, hpp, hcr, List.length_take]
          refine ⟨by omega, ?_⟩
          rw [Nat.min_eq_left hfr]
        · rw [h3 hk] at hx
          have hlt := left_lt h1 hk
          have hlen : ((c :: r).drop (rd (c :: r)).far).length = (c :: r).length - (rd (c :: r)).far := List.length_drop
          refine pcs_place S f _ (by omega) (by omega) ?_ x hx hxk
          rw [hlen]
          conv => rhs; rw [← hcr]
          rw [List.drop_drop, hcr]
          congr 1
          omega
theorem tok_place {S : List UInt8} {x : Tk} (hx : x ∈ lexToks S) : x.p + (tzText (tkZ x)).length ≤ S.length ∧ (S.drop x.p).take (tzText (tkZ x)).length = tzText (tkZ x) := by
  obtain ⟨h1, h2, h3⟩ := lexToks_pcs (S := S) (by intro h; rw [h] at hx; cases hx)
  rw [h1] at hx
  exact pcs_place S _ S (Nat.lt_succ_self _) (Nat.le_refl _) (by rw [Nat.sub_self]; rfl) x hx (h3 x hx)
/-- Tokens with a blank and a comment behind each. -/
def gap : List UInt8 := [32, 47, 47, 99, 10, 9]
def gl : List Tz → List UInt8
  | [] => []
  | a :: r => tzText a ++ (gap ++ gl r)
theorem gl_snoc : ∀ (ts : List Tz) (a : Tz), gl (ts ++ [a]) = gl ts ++ (tzText a ++ gap)
  | [], a => by simp [gl]
  | b :: r, a => by simp only [List.cons_append, gl, gl_snoc r a, List.append_assoc]
theorem gl_len (M : Nat) : ∀ (ts : List Tz), (∀ t ∈ ts, (tzText t).length ≤ M) → (gl ts).length ≤ ts.length * (M + 6)
  | [], _ => by simp [gl]
  | a :: r, h => by
    have h1 := h a (by simp)
    have h2 := gl_len M r (fun t ht => h t (by simp [ht]))
    simp only [gl, List.length_append, List.length_cons, Nat.succ_mul]
    have : gap.length = 6 := rfl
    omega
theorem sk_gap (l : List UInt8) : sk false (gap ++ l) = sk false l := by
  unfold gap
  simp only [List.cons_append, List.nil_append]
  rw [sk_blank (by decide), sk_f, if_neg (by decide), if_pos ⟨rfl, rfl⟩, sk_t, if_neg (by decide), sk_t, if_neg (by decide), sk_t, if_pos rfl, sk_blank (by decide)]
theorem glue (N : Nat) : ∀ (ts : List Tz), (∀ t ∈ ts, tzMay t = true) → Lks (pcs N (gl ts)) ts
  | [], _ => by simp only [gl]; rw [pcs_nil rfl]; trivial
  | a :: r, h => by
    obtain ⟨a0, a1, a2, a3, a4, _⟩ := may_get (h a (by simp))
    have e0 : gl (a :: r) = tzText a ++ 32 :: ([47, 47, 99, 10, 9] ++ gl r) := rfl
    have e1 : rd (gl (a :: r)) = rd (tzText a) := by rw [e0]; exact rd_sep _ _ a0 a1
    have e2 : [47, 47].isPrefixOf (gl (a :: r)) = false := by
      rw [e0]
      have := not_note a1
      revert this
      match hT : tzText a with
      | [] => rw [hT] at a0; exact absurd rfl a0
      | [c] => simp [List.isPrefixOf]
      | c :: d :: p => simp [List.isPrefixOf]
    have hk : (rd (gl (a :: r))).k ≠ 0 := by rw [e1]; exact a0
    have hsk := sk_of hk e2
    have hst : pcs N (gl (a :: r)) = pc N (gl (a :: r)) :: pcs N (gl r) := by
      cases hl : gl (a :: r) with
      | nil => rw [hl] at hk; exact absurd rfl hk
      | cons c q =>
        rw [hl] at hsk hk
        rw [pcs_more hsk hk, ← hl, e1, a1]
        show _ :: pcs N ((tzText a ++ (gap ++ gl r)).drop (tzText a).length) = _
        rw [List.drop_left, pcs_skip (sk_gap (gl r))]
    rw [hst]
    refine ⟨⟨?_, ?_, ?_⟩, ?_, glue N r (fun t ht => h t (by simp [ht]))⟩
    · rw [pc_k.1, e1]; exact a2
    · rw [pc_k.2.1, e1]; exact a3
    · rw [pc_k.2.2, e1]; exact a4
    · rw [pc_k.1]; exact hk
theorem lex_stuck (w : World) (S : List UInt8) (hS : S.length ≤ 65536) (ys : List Tk) (t : Tk) (h : pcs S.length S = ys ++ [t]) (hk : t.k = 0) :
    Calls Tryd.prog 10 #[.string (str S)] w fun e w' => e = .returned (.tuple #[.slice none 0 0, .int .i64 (t.p : Int), .int .i64 20]) ∧ Below w.heap.size w w' := by
  refine (lex_any w S hS).mono ?_
  rintro e w' ⟨hb, ⟨v, rfl, hr, hz⟩ | ⟨p, t', rfl, hp, hk'⟩⟩
  · exact absurd hk (hz t (by rw [h]; simp))
  · have e1 := (List.append_inj' (h.symm.trans hp) rfl).2
    simp at e1
    subst e1
    exact ⟨rfl, hb⟩
theorem lex_some (w : World) (S : List UInt8) (hS : S.length ≤ 65536) :
    Calls Tryd.prog 10 #[.string (str S)] w fun e w' => ∃ (v : Value) (p er : Int), e = .returned (.tuple #[v, .int .i64 p, .int .i64 er]) ∧ ((∀ t ∈ pcs S.length S, t.k ≠ 0) → er = 0) ∧ Below w.heap.size w w' := by
  refine (lex_any w S hS).mono ?_
  rintro e w' ⟨hb, ⟨v, rfl, hr, hz⟩ | ⟨p, t', rfl, hp, hk'⟩⟩
  · exact ⟨v, 0, 0, rfl, fun _ => rfl, hb⟩
  · exact ⟨_, _, _, rfl, fun h => absurd hk' (h t' (by rw [hp]; simp)), hb⟩
/-- A text that is no tokens: where it is stuck, and what may be said of it. -/
theorem stuck_all (S : List UInt8) (hS : S.length ≤ 16384) (hz : ¬ ∀ t ∈ pcs S.length S, t.k ≠ 0) : ∃ at_ : Nat, at_ ≤ S.length ∧ (∀ w, Calls Tryd.prog 10 #[.string (str S)] w fun e w' => e = .returned (.tuple #[.slice none 0 0, .int .i64 (at_ : Int), .int .i64 20]) ∧ Below w.heap.size w w') ∧
    (∃ E, (E = [] ∨ E = [97] ∨ E = [124]) ∧ ∀ M, ∀ x ∈ pcs M (S.take at_ ++ E), x.k ≠ 0) ∧
    (at_ < S.length → ∀ Y : List UInt8, Y.length ≤ 16384 → ∀ w, Calls Tryd.prog 10 #[.string (str (S.take (at_ + 1) ++ Y))] w fun e w' => e = .returned (.tuple #[.slice none 0 0, .int .i64 (at_ : Int), .int .i64 20]) ∧ Below w.heap.size w w') := by
  have hx : ∃ ys t, pcs S.length S = ys ++ [t] ∧ t.k = 0 := by
    have : ∃ t ∈ pcs S.length S, t.k = 0 := by
      apply Classical.byContradiction
      intro h
      exact hz (fun t ht hk => h ⟨t, ht, hk⟩)
    obtain ⟨t, ht, hk⟩ := this
    obtain ⟨p, q, e⟩ := List.append_of_mem ht
    have := pcs_zero e hk
    subst this
    exact ⟨p, t, e, hk⟩
  obtain ⟨ys, t, hp, hk⟩ := hx
  have hpl := pcs_p (N := S.length) _ S (Nat.lt_succ_self _) (Nat.le_refl _) t (by rw [hp]; simp)
  refine ⟨t.p, hpl, fun w => lex_stuck w S (by omega) ys t hp hk, ?_, ?_⟩
  · obtain ⟨d, m, q1, q2, q3, q4, q5, q6⟩ := cut_ok _ S S.length ys t (Nat.lt_succ_self _) hp hk (Nat.le_refl _)
    rw [Nat.sub_self, Nat.zero_add] at q5
    cases hm : m with
    | nil => exact absurd hm q3
    | cons c r =>
      rw [hm] at q2 q4 q5 q6
      obtain ⟨E, hE, hF⟩ := fix_ok c r q4
      refine ⟨E, hE, fun M x hx => q6 _ M hF x ?_⟩
      rw [q5, List.take_add, q2, List.append_assoc] at hx
      exact hx
  · intro hlt Y hY w
    have hul : (S.take (t.p + 1) ++ Y).length = t.p + 1 + Y.length := by rw [List.length_append, List.length_take]; omega
    obtain ⟨ys', t', e1, e2, e3⟩ := stuck_local _ S (S.take (t.p + 1) ++ Y) S.length (S.take (t.p + 1) ++ Y).length ys t (Nat.lt_succ_self _) hp hk (Nat.le_refl _) (Nat.le_refl _) (by omega)
      (by rw [Nat.sub_self, Nat.sub_zero, List.take_append_of_le_length (by rw [List.length_take]; omega), List.take_take, Nat.min_self])
    have := lex_stuck w _ (by omega) ys' t' e1 e2
    rwa [e3] at this
end Go.Proofs.YtpnamkpoapcgeaaDoor
