import Derived.Test.YtahdnfogdnondaaGreatDoorPc
namespace Go.Proofs.YtahdnfogdnondaaGreatDoor
set_option linter.unusedVariables false
set_option linter.unusedSimpArgs false

/-- The walk has come to its end behind so many children; it was stopped there, at that parent. -/
def Ended (T : List Nd) (i : Nat) : Prop := ∃ s, stAt T i = some s ∧ nxt T s = none
def Stopped (T : List Nd) (i p : Nat) : Prop := ∃ s c s', stAt T i = some s ∧ nxt T s = some ((p, c), s') ∧ ¬ (c = ((i + 1 : Nat) : Int) ∧ i + 1 < T.length)
theorem stAt_back {T : List Nd} {i : Nat} {s : List (Nat × Nat)} (h : stAt T (i + 1) = some s) : ∃ s0 p c s', stAt T i = some s0 ∧ nxt T s0 = some ((p, c), s') ∧ c = ((i + 1 : Nat) : Int) ∧ i + 1 < T.length := by
  simp only [stAt] at h
  cases h0 : stAt T i with
  | none => rw [h0] at h; cases h
  | some s0 =>
    rw [h0] at h
    simp only at h
    cases h1 : nxt T s0 with
    | none => rw [h1] at h; cases h
    | some x =>
      obtain ⟨⟨p, c⟩, s'⟩ := x
      rw [h1] at h
      simp only at h
      by_cases hc : c = ((i + 1 : Nat) : Int) ∧ i + 1 < T.length
      · exact ⟨s0, p, c, s', rfl, h1, hc.1, hc.2⟩
      · rw [if_neg hc] at h; cases h
theorem stAt_le {T : List Nd} {j : Nat} : ∀ {i : Nat} {s : List (Nat × Nat)}, stAt T i = some s → j ≤ i → ∃ s', stAt T j = some s'
  | 0, s, h, hj => by obtain rfl : j = 0 := by omega
                      exact ⟨s, h⟩
  | i + 1, s, h, hj => by
    rcases Nat.lt_or_ge j (i + 1) with hlt | hge
    · obtain ⟨s0, _, _, _, h0, _⟩ := stAt_back h
      exact stAt_le h0 (by omega)
    · obtain rfl : j = i + 1 := by omega
      exact ⟨s, h⟩
theorem ended_stop {T : List Nd} {i : Nat} (h : Ended T i) {j : Nat} {s : List (Nat × Nat)} (hj : stAt T j = some s) : j ≤ i := by
  apply Classical.byContradiction
  intro hlt
  obtain ⟨s1, h1⟩ := stAt_le hj (show i + 1 ≤ j by omega)
  obtain ⟨s0, p, c, s', a1, a2, -⟩ := stAt_back h1
  obtain ⟨s2, b1, b2⟩ := h
  rw [b1] at a1
  cases a1
  rw [b2] at a2
  cases a2
theorem stopped_stop {T : List Nd} {i p : Nat} (h : Stopped T i p) {j : Nat} {s : List (Nat × Nat)} (hj : stAt T j = some s) : j ≤ i := by
  apply Classical.byContradiction
  intro hlt
  obtain ⟨s1, h1⟩ := stAt_le hj (show i + 1 ≤ j by omega)
  obtain ⟨s0, q, c, s', a1, a2, a3, a4⟩ := stAt_back h1
  obtain ⟨s2, c2, s3, b1, b2, b3⟩ := h
  rw [b1] at a1
  cases a1
  rw [b2] at a2
  cases a2
  exact b3 ⟨a3, a4⟩
theorem stAt_len {T : List Nd} (h0 : T ≠ []) : ∀ {i : Nat} {s : List (Nat × Nat)}, stAt T i = some s → i < T.length
  | 0, s, h => List.length_pos_iff.2 h0
  | i + 1, s, h => by obtain ⟨_, _, _, _, _, _, _, h⟩ := stAt_back h; exact h
theorem nxt_mem {T : List Nd} {x : (Nat × Int) × List (Nat × Nat)} : ∀ {s : List (Nat × Nat)}, nxt T s = some x → (∃ m, (x.1.1, m) ∈ s) ∧ ∀ y ∈ x.2, ∃ m, (y.1, m) ∈ s
  | [], h => by simp [nxt] at h
  | (n, m) :: st, h => by
    simp only [nxt] at h
    cases hk : (kids T n)[m]? with
    | none =>
      rw [hk] at h
      obtain ⟨⟨m', h1⟩, h2⟩ := nxt_mem h
      exact ⟨⟨m', List.mem_cons_of_mem _ h1⟩, fun y hy => by obtain ⟨q, hq⟩ := h2 y hy; exact ⟨q, List.mem_cons_of_mem _ hq⟩⟩
    | some c =>
      rw [hk] at h
      cases h
      refine ⟨⟨m, List.mem_cons_self⟩, fun y hy => ?_⟩
      simp only [List.mem_cons] at hy
      rcases hy with rfl | hy
      · exact ⟨m, List.mem_cons_self⟩
      · exact ⟨y.2, List.mem_cons_of_mem _ hy⟩
theorem stAt_mem {T : List Nd} : ∀ {i : Nat} {s : List (Nat × Nat)}, stAt T i = some s → ∀ y ∈ s, y.1 ≤ i
  | 0, s, h, y, hy => by simp only [stAt] at h; cases h; simp at hy; rw [hy]; exact Nat.le_refl _
  | i + 1, s, h, y, hy => by
    obtain ⟨s0, p, c, s', a1, a2, a3, a4⟩ := stAt_back h
    rw [stAt_succ a1 a2 a3 a4] at h
    cases h
    simp only [List.mem_cons] at hy
    rcases hy with rfl | hy
    · exact Nat.le_refl _
    · obtain ⟨m, hm⟩ := (nxt_mem a2).2 y hy
      have := stAt_mem a1 _ hm
      simp only at this
      omega
theorem ended_whole {T : List Nd} (h0 : T ≠ []) {i : Nat} (h : Ended T i) : i + 1 ≤ T.length ∧ (i + 1 = T.length ↔ ∃ x c, T = (Fo.cons x c .nil).flat 0) := by
  have hi : i < T.length := by obtain ⟨s, hs, _⟩ := h; exact stAt_len h0 hs
  refine ⟨hi, ?_⟩
  rw [← stray_iff h0]
  cases hw : wk T T.length 0 (kids T 0) 1 with
  | inl p =>
    obtain ⟨j, s, c, s', a1, a2, a3⟩ := wk_inl T T.length 0 (kids T 0) 1 p 0 [] [(0, 0)] (by omega) (by omega) (List.length_pos_iff.2 h0) hw rfl rfl rfl
    exfalso
    have e1 := ended_stop h a1
    have hst : Stopped T j p := ⟨s, c, s', a1, a2, a3⟩
    obtain ⟨s2, b1, b2⟩ := h
    have e2 := stopped_stop hst b1
    obtain rfl : i = j := by omega
    rw [b1] at a1
    cases a1
    rw [b2] at a2
    cases a2
  | inr k =>
    obtain ⟨g, e1, e2, e3, e4⟩ := wk_inr T _ _ _ 1 k (List.length_pos_iff.2 h0) hw
    obtain ⟨-, s, c2, c3⟩ := nxt_flat T g 0 0 0 [] [(0, 0)] e4 (by omega) ⟨[], by rw [List.drop_zero, List.append_nil]; exact e1⟩ rfl rfl
    rw [Nat.zero_add] at c2
    have hend : (kids T 0)[0 + g.kinds.length]? = none := by
      rw [e1, Nat.zero_add, ← Fo.len_starts g 1]
      exact List.getElem?_eq_none (Nat.le_refl _)
    rw [nxt_end hend] at c3
    have e5 := ended_stop h c2
    have h' : Ended T g.size := ⟨s, c2, c3⟩
    obtain ⟨s2, b1, b2⟩ := h
    have e6 := ended_stop h' b1
    obtain rfl : i = g.size := by omega
    constructor
    · intro h; rw [e2, Nat.add_comm 1 g.size, h]
    · intro h; cases h; omega
theorem stopped_whole {T : List Nd} (h0 : T ≠ []) {i p : Nat} (h : Stopped T i p) : p < T.length ∧ ¬ ∃ x c, T = (Fo.cons x c .nil).flat 0 := by
  constructor
  · obtain ⟨s, c, s', a1, a2, -⟩ := h
    obtain ⟨m, hm⟩ := (nxt_mem a2).1
    have e1 := stAt_mem a1 _ hm
    have e2 := stAt_len h0 a1
    simp only at e1
    omega
  · rintro ⟨x, c, rfl⟩
    obtain ⟨h1, s, h2, h3⟩ := nxt_whole x c
    have e1 := stopped_stop h h2
    have hE : Ended ((Fo.cons x c .nil).flat 0) c.size := ⟨s, h2, h3⟩
    obtain ⟨s2, c2, s3, b1, b2, b3⟩ := h
    have e2 := ended_stop hE b1
    obtain rfl : i = c.size := by omega
    rw [b1] at h2
    cases h2
    rw [b2] at h3
    cases h3
/-- In a whole tree the walk tells each node's parent. -/
theorem told_whole {x : Nx} {c : Fo} {i p : Nat} {d : Int} {s s' : List (Nat × Nat)} (h : stAt ((Fo.cons x c .nil).flat 0) i = some s) (hn : nxt ((Fo.cons x c .nil).flat 0) s = some ((p, d), s')) : i < c.size ∧ d = ((i + 1 : Nat) : Int) ∧ (c.ups 0 1)[i]? = some (p : Int) := by
  obtain ⟨h1, s2, h2, h3⟩ := nxt_whole x c
  have hE : Ended ((Fo.cons x c .nil).flat 0) c.size := ⟨s2, h2, h3⟩
  have e1 := ended_stop hE h
  have hlt : i < c.size := by
    rcases Nat.lt_or_ge i c.size with h' | h'
    · exact h'
    · obtain rfl : i = c.size := by omega
      rw [h] at h2
      cases h2
      rw [hn] at h3
      cases h3
  obtain ⟨s3, s4, q, a1, a2, a3⟩ := h1 i hlt
  rw [h] at a1
  cases a1
  rw [hn] at a2
  cases a2
  exact ⟨hlt, rfl, a3⟩
theorem ended_size {x : Nx} {c : Fo} {i : Nat} (h : Ended ((Fo.cons x c .nil).flat 0) i) : i = c.size := by
  obtain ⟨h1, s2, h2, h3⟩ := nxt_whole x c
  have hE : Ended ((Fo.cons x c .nil).flat 0) c.size := ⟨s2, h2, h3⟩
  have e1 := ended_stop h h2
  obtain ⟨s, a1, a2⟩ := h
  have e2 := ended_stop hE a1
  omega
end Go.Proofs.YtahdnfogdnondaaGreatDoor
