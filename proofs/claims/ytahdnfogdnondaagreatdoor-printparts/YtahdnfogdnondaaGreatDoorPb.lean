import Derived.Test.YtahdnfogdnondaaGreatDoorPa
namespace Go.Proofs.YtahdnfogdnondaaGreatDoor
set_option linter.unusedVariables false
set_option linter.unusedSimpArgs false

/-- The numbers that a node has below it. -/
def kids (T : List Nd) (n : Nat) : List Int := ((T[n]?).map (·.l)).getD []
/-- The walk, by recursion: over these children of n, the next number being that; the parent at which it is stopped, or the number behind. -/
def wk (T : List Nd) : Nat → Nat → List Int → Nat → Nat ⊕ Nat
  | _, n, [], next => .inr next
  | 0, n, c :: ls, next => .inl n
  | f + 1, n, c :: ls, next => if c = (next : Int) ∧ next < T.length then
      match wk T f next (kids T next) (next + 1) with
      | .inl p => .inl p
      | .inr k => wk T (f + 1) n ls k
    else .inl n
/-- The walk, by a list of its own: the next child, and what is then left. -/
def nxt (T : List Nd) : List (Nat × Nat) → Option ((Nat × Int) × List (Nat × Nat))
  | [] => none
  | (n, m) :: st => match (kids T n)[m]? with
    | none => nxt T st
    | some c => some ((n, c), (n, m + 1) :: st)
/-- The list behind so many children that were as they must be. -/
def stAt (T : List Nd) : Nat → Option (List (Nat × Nat))
  | 0 => some [(0, 0)]
  | i + 1 => match stAt T i with
    | none => none
    | some st => match nxt T st with
      | none => none
      | some ((n, c), st') => if c = ((i + 1 : Nat) : Int) ∧ i + 1 < T.length then some ((i + 1, 0) :: st') else none
theorem stAt_succ {T : List Nd} {i : Nat} {st st' : List (Nat × Nat)} {n : Nat} {c : Int} (h : stAt T i = some st) (hn : nxt T st = some ((n, c), st')) (hc : c = ((i + 1 : Nat) : Int)) (hl : i + 1 < T.length) : stAt T (i + 1) = some ((i + 1, 0) :: st') := by
  simp only [stAt, h, hn]
  rw [if_pos ⟨hc, hl⟩]
theorem nxt_cons {T : List Nd} {n m : Nat} {st : List (Nat × Nat)} {c : Int} (h : (kids T n)[m]? = some c) : nxt T ((n, m) :: st) = some ((n, c), (n, m + 1) :: st) := by
  simp only [nxt, h]
theorem nxt_end {T : List Nd} {n m : Nat} {st : List (Nat × Nat)} (h : (kids T n)[m]? = none) : nxt T ((n, m) :: st) = nxt T st := by
  simp only [nxt, h]
theorem drop_cons {l : List Int} {m : Nat} {c : Int} {ls : List Int} (h : l.drop m = c :: ls) : l[m]? = some c ∧ l.drop (m + 1) = ls := by
  refine ⟨?_, ?_⟩
  · have := congrArg (·[0]?) h
    simpa using this
  · have := congrArg (·.drop 1) h
    simpa using this
theorem drop_nil {l : List Int} {m : Nat} (h : l.drop m = []) : l[m]? = none := by
  have := congrArg (·[0]?) h
  simpa using this
/-- Where the walk goes through, its nodes are trees. -/
theorem wk_inr (T : List Nd) : ∀ (f n : Nat) (ls : List Int) (next k : Nat), next ≤ T.length → wk T f n ls next = .inr k → ∃ g : Fo, ls = g.starts next ∧ k = next + g.size ∧ k ≤ T.length ∧ (T.drop next).take g.size = g.flat next := by
  intro f
  induction f with
  | zero =>
    intro n ls next k hle h
    cases ls with
    | nil => simp only [wk] at h; cases h; exact ⟨.nil, rfl, by simp [Fo.size], hle, by simp [Fo.flat, Fo.size]⟩
    | cons c ls => simp [wk] at h
  | succ f ih =>
    intro n ls
    induction ls with
    | nil => intro next k hle h; simp only [wk] at h; cases h; exact ⟨.nil, rfl, by simp [Fo.size], hle, by simp [Fo.flat, Fo.size]⟩
    | cons c ls ihl =>
      intro next k hle h
      simp only [wk] at h
      by_cases hc : c = (next : Int) ∧ next < T.length
      · rw [if_pos hc] at h
        cases hw : wk T f next (kids T next) (next + 1) with
        | inl p => rw [hw] at h; cases h
        | inr j =>
          rw [hw] at h
          obtain ⟨g1, e1, e2, e2', e3⟩ := ih next _ (next + 1) j (by omega) hw
          obtain ⟨g2, d1, d2, d2', d3⟩ := ihl j k e2' h
          have hT : T[next]? = some (T[next]'hc.2) := List.getElem?_eq_getElem hc.2
          have hk : kids T next = (T[next]'hc.2).l := by simp [kids, hT]
          refine ⟨.cons (T[next]'hc.2).x g1 g2, ?_, ?_, d2', ?_⟩
          · simp only [Fo.starts]
            rw [hc.1, d1, e2]
          · simp only [Fo.size]; omega
          · simp only [Fo.size, Fo.flat]
            rw [← e3]
            have hd : T.drop next = T[next]'hc.2 :: T.drop (next + 1) := List.drop_eq_getElem_cons hc.2
            rw [hd, show 1 + g1.size + g2.size = (g1.size + g2.size) + 1 by omega, List.take_succ_cons]
            congr 1
            · rw [← e1, hk]
            · rw [List.take_add, List.drop_drop]
              congr 1
              rw [show next + 1 + g1.size = j by omega]
              exact d3
      · rw [if_neg hc] at h; cases h
theorem seg_head {T : List Nd} {o : Nat} {x : Nd} {a b : List Nd} {na nb : Nat} (ha : a.length = na) (hb : b.length = nb) (h : (T.drop o).take (1 + na + nb) = x :: (a ++ b)) : T[o]? = some x ∧ (T.drop (o + 1)).take na = a ∧ (T.drop (o + 1 + na)).take nb = b := by
  have h0 : T[o]? = some x := by
    have := congrArg (·[0]?) h
    simpa [List.getElem?_take, List.getElem?_drop, show 0 < 1 + na + nb by omega] using this
  have hlt : o < T.length := by
    rw [List.getElem?_eq_some_iff] at h0
    exact h0.1
  have hd : T.drop o = T[o] :: T.drop (o + 1) := List.drop_eq_getElem_cons hlt
  rw [hd, show 1 + na + nb = (na + nb) + 1 by omega, List.take_succ_cons] at h
  have h2 := (List.cons.inj h).2
  rw [List.take_add, List.drop_drop] at h2
  have hl := congrArg List.length h2
  simp only [List.length_append, ha, hb] at hl
  have hla : ((T.drop (o + 1)).take na).length = na := by
    have l1 : ((T.drop (o + 1)).take na).length ≤ na := List.length_take_le _ _
    have l2 : ((T.drop (o + 1 + na)).take nb).length ≤ nb := List.length_take_le _ _
    omega
  have := List.append_inj h2 (by rw [hla, ha])
  exact ⟨h0, this.1, this.2⟩
/-- Where the nodes are trees the list's walk tells each one's parent, in order. -/
theorem nxt_flat (T : List Nd) (g : Fo) : ∀ (n m i : Nat) (st st0 : List (Nat × Nat)), (T.drop (i + 1)).take g.size = g.flat (i + 1) → i + 1 + g.size ≤ T.length → (∃ rest, (kids T n).drop m = g.starts (i + 1) ++ rest) → stAt T i = some st0 → nxt T st0 = nxt T ((n, m) :: st) →
    (∀ j, j < g.size → ∃ s s' p, stAt T (i + j) = some s ∧ nxt T s = some ((p, ((i + 1 + j : Nat) : Int)), s') ∧ (g.ups n (i + 1))[j]? = some (p : Int)) ∧ ∃ s, stAt T (i + g.size) = some s ∧ nxt T s = nxt T ((n, m + g.kinds.length) :: st) := by
  induction g with
  | nil =>
    intro n m i st st0 h1 h2 h3 h4 h5
    refine ⟨fun j hj => by simp [Fo.size] at hj, st0, h4, h5⟩
  | cons x c r ihc ihr =>
    intro n m i st st0 h1 h2 h3 h4 h5
    simp only [Fo.size, Fo.flat] at h1 h2
    obtain ⟨hx, hc, hr⟩ := seg_head (Fo.len_flat c _) (Fo.len_flat r _) h1
    obtain ⟨rest, h3⟩ := h3
    simp only [Fo.starts, List.cons_append] at h3
    obtain ⟨hm, hm'⟩ := drop_cons h3
    have hn0 : nxt T st0 = some ((n, ((i + 1 : Nat) : Int)), (n, m + 1) :: st) := h5.trans (nxt_cons hm)
    have hs1 : stAt T (i + 1) = some ((i + 1, 0) :: (n, m + 1) :: st) := stAt_succ h4 hn0 rfl (by omega)
    have hk : kids T (i + 1) = c.starts (i + 1 + 1) := by simp [kids, hx]
    obtain ⟨c1, s1, c2, c3⟩ := ihc (i + 1) 0 (i + 1) ((n, m + 1) :: st) _ hc (by omega) ⟨[], by rw [List.drop_zero, List.append_nil]; exact hk⟩ hs1 rfl
    have hend : (kids T (i + 1))[0 + c.kinds.length]? = none := by
      rw [hk, Nat.zero_add, ← Fo.len_starts c (i + 1 + 1)]
      exact List.getElem?_eq_none (Nat.le_refl _)
    rw [nxt_end hend] at c3
    have er : i + 1 + 1 + c.size = i + 1 + c.size + 1 := by omega
    rw [er] at hr hm'
    obtain ⟨r1, s2, r2, r3⟩ := ihr n (m + 1) (i + 1 + c.size) st s1 hr (by omega) ⟨rest, hm'⟩ c2 c3
    refine ⟨fun j hj => ?_, s2, ?_, ?_⟩
    · simp only [Fo.size] at hj
      simp only [Fo.ups]
      cases j with
      | zero => exact ⟨st0, _, n, h4, hn0, rfl⟩
      | succ j =>
        by_cases hlt : j < c.size
        · obtain ⟨s, s', p, a1, a2, a3⟩ := c1 j hlt
          refine ⟨s, s', p, by rw [← a1]; congr 1; omega, by rw [a2]; congr 4; omega, ?_⟩
          rw [List.getElem?_cons_succ, List.getElem?_append_left (by rw [Fo.len_ups]; exact hlt)]
          exact a3
        · obtain ⟨s, s', p, a1, a2, a3⟩ := r1 (j - c.size) (by omega)
          refine ⟨s, s', p, by rw [← a1]; congr 1; omega, by rw [a2]; congr 4; omega, ?_⟩
          rw [List.getElem?_cons_succ, List.getElem?_append_right (by rw [Fo.len_ups]; omega), Fo.len_ups, er]
          exact a3
    · rw [← r2]; congr 1; simp only [Fo.size]; omega
    · rw [r3]; simp only [Fo.kinds, List.length_cons]; congr 3; omega
/-- Where the recursive walk is stopped the list's is, at the same parent. -/
theorem wk_inl (T : List Nd) : ∀ (f n : Nat) (ls : List Int) (next p : Nat) (m : Nat) (st st0 : List (Nat × Nat)), T.length ≤ next + f → 1 ≤ next → next ≤ T.length → wk T f n ls next = .inl p → (kids T n).drop m = ls → stAt T (next - 1) = some st0 → nxt T st0 = nxt T ((n, m) :: st) →
    ∃ i s c s', stAt T i = some s ∧ nxt T s = some ((p, c), s') ∧ ¬ (c = ((i + 1 : Nat) : Int) ∧ i + 1 < T.length) := by
  intro f
  induction f with
  | zero =>
    intro n ls next p m st st0 hf h1 hle h hm h4 h5
    cases ls with
    | nil => simp only [wk] at h; cases h
    | cons c ls =>
      simp only [wk] at h
      cases h
      obtain ⟨a1, a2⟩ := drop_cons hm
      exact ⟨next - 1, st0, c, _, h4, h5.trans (nxt_cons a1), fun h => by omega⟩
  | succ f ih =>
    intro n ls
    induction ls with
    | nil => intro next p m st st0 hf h1 hle h; simp only [wk] at h; cases h
    | cons c ls ihl =>
      intro next p m st st0 hf h1 hle h hm h4 h5
      obtain ⟨a1, a2⟩ := drop_cons hm
      have hn0 := h5.trans (nxt_cons a1)
      simp only [wk] at h
      have hnx : next - 1 + 1 = next := by omega
      by_cases hc : c = (next : Int) ∧ next < T.length
      · rw [if_pos hc] at h
        have hs1 := stAt_succ h4 hn0 (by rw [hnx]; exact hc.1) (by rw [hnx]; exact hc.2)
        rw [hnx] at hs1
        cases hw : wk T f next (kids T next) (next + 1) with
        | inl q =>
          rw [hw] at h
          cases h
          exact ih next _ (next + 1) p 0 ((n, m + 1) :: st) _ (by omega) (by omega) (by omega) hw rfl (by simpa using hs1) rfl
        | inr j =>
          rw [hw] at h
          obtain ⟨g, e1, e2, e3, e4⟩ := wk_inr T f next _ (next + 1) j (by omega) hw
          obtain ⟨-, s1, c2, c3⟩ := nxt_flat T g next 0 next ((n, m + 1) :: st) _ e4 (by omega) ⟨[], by rw [List.drop_zero, List.append_nil]; exact e1⟩ hs1 rfl
          have hend : (kids T next)[0 + g.kinds.length]? = none := by
            rw [e1, Nat.zero_add, ← Fo.len_starts g (next + 1)]
            exact List.getElem?_eq_none (Nat.le_refl _)
          rw [nxt_end hend] at c3
          exact ihl j p (m + 1) st s1 (by omega) (by omega) (by omega) h a2 (by rw [← c2]; congr 1; omega) c3
      · rw [if_neg hc] at h
        cases h
        exact ⟨next - 1, st0, c, _, h4, hn0, by rw [hnx]; exact hc⟩
/-- Trees are walked through. -/
theorem wk_flat (T : List Nd) (g : Fo) : ∀ (f n next : Nat) (ls : List Int), T.length ≤ next + f → next + g.size ≤ T.length → (T.drop next).take g.size = g.flat next → wk T f n (g.starts next ++ ls) next = wk T f n ls (next + g.size) := by
  induction g with
  | nil => intro f n next ls _ _ _; rfl
  | cons x c r ihc ihr =>
    intro f n next ls hf hle h1
    simp only [Fo.size, Fo.flat] at h1 hle
    obtain ⟨hx, hc, hr⟩ := seg_head (Fo.len_flat c _) (Fo.len_flat r _) h1
    have hk : kids T next = c.starts (next + 1) := by simp [kids, hx]
    cases f with
    | zero => omega
    | succ f =>
      have e1 := ihc f next (next + 1) [] (by omega) (by omega) hc
      rw [List.append_nil] at e1
      simp only [Fo.starts, List.cons_append, wk]
      rw [if_pos ⟨trivial, by omega⟩, hk, e1]
      simp only [wk]
      rw [ihr (f + 1) n (next + 1 + c.size) ls (by omega) (by omega) hr]
      simp only [Fo.size]
      congr 1
      omega
/-- What the walk tells of a whole tree. -/
def stray (T : List Nd) : Nat := match wk T T.length 0 (kids T 0) 1 with | .inl p => p | .inr k => k
/-- A tree that is numbered as one meets its nodes. -/
theorem stray_iff {T : List Nd} (h0 : T ≠ []) : wk T T.length 0 (kids T 0) 1 = .inr T.length ↔ ∃ x c, T = (Fo.cons x c .nil).flat 0 := by
  cases T with
  | nil => exact absurd rfl h0
  | cons d T' =>
    constructor
    · intro h
      obtain ⟨g, e1, e2, e3, e4⟩ := wk_inr _ _ _ _ 1 _ (by simp) h
      refine ⟨d.x, g, ?_⟩
      simp only [Fo.flat, List.append_nil]
      have hk : kids (d :: T') 0 = d.l := by simp [kids]
      rw [hk] at e1
      rw [show (0 + 1 : Nat) = 1 from rfl, ← e1, ← e4]
      simp only [List.drop_succ_cons, List.drop_zero]
      rw [List.take_of_length_le (by simp at e2; omega)]
    · rintro ⟨x, c, hT⟩
      rw [hT]
      have hl : ((Fo.cons x c .nil).flat 0).length = 1 + c.size := by rw [Fo.len_flat]; simp [Fo.size]
      have hk : kids ((Fo.cons x c .nil).flat 0) 0 = c.starts 1 := by simp [kids, Fo.flat]
      have := wk_flat ((Fo.cons x c .nil).flat 0) c ((Fo.cons x c .nil).flat 0).length 0 1 [] (by omega) (by omega) (by simp [Fo.flat, List.take_of_length_le, Fo.len_flat])
      rw [List.append_nil] at this
      rw [hk, this, hl]
      simp only [wk]
end Go.Proofs.YtahdnfogdnondaaGreatDoor
