import Derived.Test.YtjchbclkdbojpaaDoorPv
namespace Go.Proofs.YtjchbclkdbojpaaDoor
open Go.RowKit
set_option linter.unusedVariables false
set_option linter.unusedSimpArgs false

theorem tk_get {S ws : List UInt8} {p q : Nat} (h0 : ∀ c ∈ ws, c.toNat ≠ 0) (h : tk S ws p = (q, true)) : Seg S p q ws := (tk_seg ws p q h0).1 h
theorem rg_get {S : List UInt8} {p q : Nat} {r : Int} (h : rgP S p = (r, q, true)) : 0 ≤ r ∧ r ≤ maxR ∧ Seg S (p + 1) q (Lib.itoa r ++ [32]) := by
  unfold rgP at h
  split at h
  · rename_i hc
    obtain ⟨h1, h2⟩ := nm_text hc
    have h3 : (nm S maxR (p + 1)).1 = r := by injection h
    have h4 : tk S [32] (nm S maxR (p + 1)).2 = (q, true) := by
      injection h with _ h5
    rw [h3] at h1 h2
    exact ⟨h1, by rw [← h3]; exact nm_most S maxR (p + 1) (by decide), h2.app (tk_get (by simp) h4)⟩
  · injection h with _ h5
    injection h5 with _ h6
    cases h6
/-- What is read of a reference's head. -/
theorem hd_get {S : List UInt8} {p q4 n : Nat} {m : Bool} {r : Int} {x : Bool} (h : hdP S n p = (m, r, q4, true)) (hx : x = true ↔ ah S q4 = 38) : -1 ≤ r ∧ r ≤ maxR ∧ Seg S p q4 ((if 0 ≤ r then [39] ++ Lib.itoa r ++ [32] else []) ++ ((if m then [109, 117, 116, 32] else []) ++ (if r < 0 ∧ m = false ∧ x = true then [32] else []))) := by
  unfold hdP at h
  split at h
  · rename_i a39
    have s39 : Seg S p (p + 1) [39] := seg_one a39 (by decide)
    obtain ⟨⟨r', q2, ok1⟩, hG⟩ : ∃ T, rgP S p = T := ⟨_, rfl⟩
    rw [hG] at h
    cases ok1 with
    | false => simp at h
    | true =>
      obtain ⟨g1, g2, g3⟩ := rg_get hG
      simp only [if_true] at h
      split at h
      · have e1 : true = m := by injection h
        have e2 : r' = r := by injection h with _ h5; injection h5
        have e3 : tk S [109, 117, 116, 32] q2 = (q4, true) := by injection h with _ h5; injection h5 with _ h6
        subst e1 e2
        have s4 := tk_get (by simp) e3
        refine ⟨by omega, g2, ?_⟩
        rw [if_pos g1]
        have hn : ¬ r' < 0 := by omega
        simp only [if_true, hn, false_and, if_false, List.append_nil]
        have := (s39.app g3).app s4
        simpa [List.append_assoc] using this
      · have e1 : false = m := by injection h
        have e2 : r' = r := by injection h with _ h5; injection h5
        have e3 : q2 = q4 := by injection h with _ h5; injection h5 with _ h6; injection h6
        subst e1 e2 e3
        refine ⟨by omega, g2, ?_⟩
        rw [if_pos g1]
        have hn : ¬ r' < 0 := by omega
        simp only [Bool.false_eq_true, if_false, hn, false_and, List.append_nil]
        have := s39.app g3
        simpa [List.append_assoc] using this
  · split at h
    · have e1 : true = m := by injection h
      have e2 : -1 = r := by injection h with _ h5; injection h5
      have e3 : tk S [109, 117, 116, 32] p = (q4, true) := by injection h with _ h5; injection h5 with _ h6
      subst e1 e2
      refine ⟨by omega, by decide, ?_⟩
      simp
      exact tk_get (by simp) e3
    · rename_i a39 a109
      have e1 : false = m := by injection h
      have e2 : -1 = r := by injection h with _ h5; injection h5
      have e3 : apP S n p = (q4, true) := by injection h with _ h5; injection h5 with _ h6
      subst e1 e2
      refine ⟨by omega, by decide, ?_⟩
      unfold apP at e3
      split at e3
      · rename_i a32
        injection e3 with e4 e5
        subst e4
        have hx' : x = false := by
          cases hxx : x with
          | false => rfl
          | true =>
            rw [hx.1 hxx] at e5
            simp at e5
        subst hx'
        simp
        exact Seg.nil S p
      · rename_i a32
        have a32' : ah S p = 32 := by
          apply Classical.byContradiction
          intro hh
          exact a32 hh
        split at e3
        · injection e3 with e4 e5
          cases e5
        · injection e3 with e4 e5
          subst e4
          have hx' : x = true := hx.2 (by simpa using e5)
          subst hx'
          simp
          exact seg_one a32' (by decide)
theorem ch_ref {S : List UInt8} {n p q : Nat} {c : Ch} (h : rdT S n p = (q, some c)) : c.isRef = true ↔ ah S p = 38 := by
  cases n with
  | zero => simp [rdT] at h
  | succ n =>
    unfold rdT at h
    split at h
    · rename_i ha
      have e : (if (tk S [105, 54, 52] p).2 = true then some (Ch.leaf 1 0) else none) = some c := by injection h
      split at e
      · cases e; rw [ha]; simp [Ch.isRef]
      · cases e
    split at h
    · rename_i ha
      have e : (if (tk S [98, 111, 111, 108] p).2 = true then some (Ch.leaf 2 0) else none) = some c := by injection h
      split at e
      · cases e; rw [ha]; simp [Ch.isRef]
      · cases e
    split at h
    · rename_i ha
      have e : (if p + 1 < (nm S 31 (p + 1)).2 then some (Ch.leaf 5 (nm S 31 (p + 1)).1) else none) = some c := by injection h
      split at e
      · cases e; rw [ha]; simp [Ch.isRef]
      · cases e
    split at h
    · rename_i ha
      split at h
      · split at h
        · injection h with _ e; cases e
        · have e := congrArg Prod.snd h
          simp only at e
          split at e
          · cases e; rw [ha.1]; simp [Ch.isRef]
          · cases e
      · injection h with _ e; cases e
    split at h
    · rename_i ha
      split at h
      · have e := congrArg Prod.snd h
        simp only at e
        rw [Option.map_eq_some_iff] at e
        obtain ⟨d, _, rfl⟩ := e
        simp [Ch.isRef, ha.1]
      · injection h with _ e; cases e
    · injection h with _ e; cases e
/-- What is read is a type that may be, and its text stands there. -/
theorem rd_back (S : List UInt8) : ∀ (n p q : Nat) (c : Ch), rdT S n p = (q, some c) → c.ok 32 ∧ c.rg ∧ c.depth ≤ n ∧ Seg S p q (txt c)
  | 0, p, q, c, h => by simp [rdT] at h
  | n + 1, p, q, c, h => by
    unfold rdT at h
    split at h
    · obtain ⟨⟨q', ok⟩, hT⟩ : ∃ T, tk S [105, 54, 52] p = T := ⟨_, rfl⟩
      rw [hT] at h
      cases ok with
      | false => simp at h
      | true =>
        simp at h
        obtain ⟨rfl, rfl⟩ := h
        exact ⟨.inl ⟨.inl rfl, rfl⟩, ⟨by decide, by decide, by decide⟩, by simp [Ch.depth], tk_get (ws := [105, 54, 52]) (by simp) hT⟩
    split at h
    · obtain ⟨⟨q', ok⟩, hT⟩ : ∃ T, tk S [98, 111, 111, 108] p = T := ⟨_, rfl⟩
      rw [hT] at h
      cases ok with
      | false => simp at h
      | true =>
        simp at h
        obtain ⟨rfl, rfl⟩ := h
        exact ⟨.inl ⟨.inr rfl, rfl⟩, ⟨by decide, by decide, by decide⟩, by simp [Ch.depth], tk_get (ws := [98, 111, 111, 108]) (by simp) hT⟩
    split at h
    · rename_i ha
      have h1 := congrArg Prod.fst h
      have h2 := congrArg Prod.snd h
      simp only at h1 h2
      split at h2
      · rename_i hlt
        cases h2
        obtain ⟨t1, t2⟩ := nm_text hlt
        have t3 := nm_most S 31 (p + 1) (by decide)
        rw [h1] at t2
        exact ⟨.inr ⟨rfl, t1, by omega⟩, ⟨by decide, by omega, by omega⟩, by simp [Ch.depth], (seg_one (c := 35) ha (by decide)).app t2⟩
      · cases h2
    split at h
    · obtain ⟨⟨q1, ok⟩, hT⟩ : ∃ T, tk S [66, 111, 120, 60] p = T := ⟨_, rfl⟩
      rw [hT] at h
      cases ok with
      | false => simp at h
      | true =>
        simp only [if_true] at h
        obtain ⟨⟨q2, oc⟩, hR⟩ : ∃ T, rdT S n q1 = T := ⟨_, rfl⟩
        rw [hR] at h
        cases oc with
        | none => simp at h
        | some d =>
          simp only at h
          obtain ⟨⟨q3, ok3⟩, hT3⟩ : ∃ T, tk S [62] q2 = T := ⟨_, rfl⟩
          rw [hT3] at h
          cases ok3 with
          | false => simp at h
          | true =>
            simp at h
            obtain ⟨rfl, rfl⟩ := h
            obtain ⟨i1, i2, i3, i4⟩ := rd_back S n q1 q2 d hR
            exact ⟨i1, i2, by simp [Ch.depth]; exact i3, ((tk_get (by simp) hT).app i4).app (tk_get (by simp) hT3)⟩
    split at h
    · rename_i ha
      obtain ⟨⟨m, r, q4, ok⟩, hH⟩ : ∃ T, hdP S (n + 1) (p + 1) = T := ⟨_, rfl⟩
      rw [hH] at h
      cases ok with
      | false => simp at h
      | true =>
        simp only [if_true] at h
        obtain ⟨⟨q5, oc⟩, hR⟩ : ∃ T, rdT S n q4 = T := ⟨_, rfl⟩
        rw [hR] at h
        cases oc with
        | none => simp at h
        | some d =>
          simp at h
          obtain ⟨rfl, rfl⟩ := h
          obtain ⟨i1, i2, i3, i4⟩ := rd_back S n q4 q5 d hR
          obtain ⟨g1, g2, g3⟩ := hd_get (x := d.isRef) hH (ch_ref hR)
          have s38 : Seg S p (p + 1) [38] := seg_one (c := 38) ha.1 (by decide)
          exact ⟨⟨g1, i1⟩, ⟨⟨by omega, g2⟩, i2⟩, by simp [Ch.depth]; exact i3, (s38.app g3).app i4⟩
    · simp at h
/-- There and back. -/
theorem read_txt (c : Ch) (hc : Ok c) (hr : c.rg) : rdT (txt c) 48 0 = ((txt c).length, some c) := by
  refine rd_txt c hc.ok hr 48 hc.deep (txt c) 0 _ (Nat.zero_le _) ⟨by simp, by simp⟩ ?_
  have : ah (txt c) (txt c).length = 0 := by simp [ah]
  rw [this]
  omega
theorem txt_read (S : List UInt8) (c : Ch) (h : rdT S 48 0 = (S.length, some c)) : Ok c ∧ c.rg ∧ txt c = S := by
  obtain ⟨h1, h2, h3, h4⟩ := rd_back S 48 0 S.length c h
  refine ⟨⟨h1, h3⟩, h2, ?_⟩
  have := h4.2
  simp at this
  exact this.symm
end Go.Proofs.YtjchbclkdbojpaaDoor
