
namespace Go.Proofs.Ytkidcmglidnaoaa
set_option linter.unusedVariables false
set_option linter.unusedSimpArgs false

/-- What a node says of itself: its kind, its place, its number, its text. -/
structure Nx where
  k : Nat
  p : Int
  n : Int
  s : List UInt8
/-- A node: what it says, and its children. -/
structure Nd where
  x : Nx
  l : List Int
/-- Trees, one beside the other: the first one's root, what is below it, the others. -/
inductive Fo where
  | nil : Fo
  | cons (x : Nx) (c r : Fo) : Fo
namespace Fo
def size : Fo → Nat
  | nil => 0
  | cons _ c r => 1 + size c + size r
/-- The numbers of the roots, if the first one's is that. -/
def starts : Nat → Fo → List Int
  | _, nil => []
  | o, cons _ c r => (o : Int) :: starts (o + 1 + size c) r
/-- The nodes, as one meets them, if the first one's number is that. -/
def flat : Nat → Fo → List Nd
  | _, nil => []
  | o, cons x c r => ⟨x, starts (o + 1) c⟩ :: (flat (o + 1) c ++ flat (o + 1 + size c) r)
def kinds : Fo → List Nat
  | nil => []
  | cons x _ r => x.k :: kinds r
def deep : Fo → Nat
  | nil => 0
  | cons _ c r => max (1 + deep c) (deep r)
def all (ok : Nx → List Nat → Bool) : Fo → Bool
  | nil => true
  | cons x c r => ok x (kinds c) && all ok c && all ok r
/-- Of each node how many are above it. -/
def lv : Nat → Fo → List Nat
  | _, nil => []
  | d, cons _ c r => d :: (lv (d + 1) c ++ lv d r)
/-- Of each node its parent. -/
def ups : Int → Nat → Fo → List Int
  | _, _, nil => []
  | p, o, cons _ c r => p :: (ups (o : Int) (o + 1) c ++ ups p (o + 1 + size c) r)
def app : Fo → Fo → Fo
  | nil, g => g
  | cons x c r, g => cons x c (app r g)
/-- The node of that number, and what is below it. -/
def sub : Fo → Nat → Option (Nx × Fo)
  | nil, _ => none
  | cons x c r, 0 => some (x, c)
  | cons x c r, n + 1 => if n < size c then sub c n else sub r (n - size c)
theorem len_flat (f : Fo) : ∀ o, (flat o f).length = size f := by
  induction f with
  | nil => intro o; rfl
  | cons x c r ihc ihr => intro o; simp [flat, size, ihc, ihr]; omega
theorem len_lv (f : Fo) : ∀ d, (lv d f).length = size f := by
  induction f with
  | nil => intro o; rfl
  | cons x c r ihc ihr => intro o; simp [lv, size, ihc, ihr]; omega
theorem len_ups (f : Fo) : ∀ p o, (ups p o f).length = size f := by
  induction f with
  | nil => intro p o; rfl
  | cons x c r ihc ihr => intro p o; simp [ups, size, ihc, ihr]; omega
theorem len_starts (f : Fo) : ∀ o, (starts o f).length = (kinds f).length := by
  induction f with
  | nil => intro o; rfl
  | cons x c r ihc ihr => intro o; simp [starts, kinds, ihr]
theorem kinds_le (f : Fo) : (kinds f).length ≤ size f := by
  induction f with
  | nil => simp [kinds, size]
  | cons x c r ihc ihr => simp [kinds, size]; omega
theorem size_app (f g : Fo) : size (app f g) = size f + size g := by
  induction f with
  | nil => simp [app, size]
  | cons x c r ihc ihr => simp [app, size, ihr]; omega
theorem kinds_app (f g : Fo) : kinds (app f g) = kinds f ++ kinds g := by
  induction f with
  | nil => simp [app, kinds]
  | cons x c r ihc ihr => simp [app, kinds, ihr]
theorem starts_app (f g : Fo) : ∀ o, starts o (app f g) = starts o f ++ starts (o + size f) g := by
  induction f with
  | nil => intro o; simp [app, starts, size]
  | cons x c r ihc ihr => intro o; simp [app, starts, size, ihr]; congr 1; omega
theorem flat_app (f g : Fo) : ∀ o, flat o (app f g) = flat o f ++ flat (o + size f) g := by
  induction f with
  | nil => intro o; simp [app, flat, size]
  | cons x c r ihc ihr => intro o; simp only [app, flat, size, ihr, List.cons_append, List.append_assoc]; congr 4; omega
theorem deep_app (f g : Fo) : deep (app f g) = max (deep f) (deep g) := by
  induction f with
  | nil => simp [app, deep]
  | cons x c r ihc ihr => simp [app, deep, ihr]
theorem all_app (ok : Nx → List Nat → Bool) (f g : Fo) : all ok (app f g) = (all ok f && all ok g) := by
  induction f with
  | nil => simp [app, all]
  | cons x c r ihc ihr => simp [app, all, ihr, Bool.and_assoc]
/-- Numbers moved by so many. -/
def mv (k : Int) (d : Nd) : Nd := ⟨d.x, d.l.map (· + k)⟩
theorem starts_mv (f : Fo) : ∀ o k, starts (o + k) f = (starts o f).map (· + (k : Int)) := by
  induction f with
  | nil => intro o k; rfl
  | cons x c r ihc ihr =>
    intro o k
    have e : o + k + 1 + size c = o + 1 + size c + k := by omega
    simp [starts, e, ihr]
theorem flat_mv (f : Fo) : ∀ o k, flat (o + k) f = (flat o f).map (mv k) := by
  induction f with
  | nil => intro o k; rfl
  | cons x c r ihc ihr =>
    intro o k
    have e : o + k + 1 + size c = o + 1 + size c + k := by omega
    have e1 : o + k + 1 = o + 1 + k := by omega
    show (⟨x, starts (o + k + 1) c⟩ :: (flat (o + k + 1) c ++ flat (o + k + 1 + size c) r) : List Nd) = List.map (mv k) (⟨x, starts (o + 1) c⟩ :: (flat (o + 1) c ++ flat (o + 1 + size c) r))
    rw [e, e1, ihc (o + 1) k, ihr (o + 1 + size c) k, starts_mv c (o + 1) k, List.map_cons, List.map_append]
    rfl
/-- The kinds of the roots are told by their numbers. -/
theorem starts_bound (f : Fo) : ∀ o, ∀ c ∈ starts o f, (o : Int) ≤ c ∧ c < o + size f := by
  induction f with
  | nil => intro o c h; simp [starts] at h
  | cons x c r ihc ihr =>
    intro o y h
    simp only [starts, List.mem_cons] at h
    simp only [size]
    rcases h with rfl | h
    · omega
    · have := ihr _ y h; omega
end Fo
end Go.Proofs.Ytkidcmglidnaoaa
namespace Go.Proofs.Ytkidcmglidnaoaa
set_option linter.unusedVariables false
set_option linter.unusedSimpArgs false

/-- The numbers that a node has below it. -/
def kids (T : List Nd) (n : Nat) : List Int := ((T[n]?).map (·.l)).getD []
/-- The walk, by recursion: over these children of n, the next number being that; the parent at which it is stopped, or the number behind. -/
def wk (T : List Nd) : Nat → Nat → List Int → Nat → Nat ⊕ Nat
  | _, n, [], next => .inr next
  | 0, n, c :: ls, next => .inl n
  | f + 1, n, c :: ls, next => if c = (next : Int) ∧ next < T.length then
      match wk T f next (kids T next) (next + 1) with
      | .inl p => .inl p
      | .inr k => wk T (f + 1) n ls k
    else .inl n
/-- The walk, by a list of its own: the next child, and what is then left. -/
def nxt (T : List Nd) : List (Nat × Nat) → Option ((Nat × Int) × List (Nat × Nat))
  | [] => none
  | (n, m) :: st => match (kids T n)[m]? with
    | none => nxt T st
    | some c => some ((n, c), (n, m + 1) :: st)
/-- The list behind so many children that were as they must be. -/
def stAt (T : List Nd) : Nat → Option (List (Nat × Nat))
  | 0 => some [(0, 0)]
  | i + 1 => match stAt T i with
    | none => none
    | some st => match nxt T st with
      | none => none
      | some ((n, c), st') => if c = ((i + 1 : Nat) : Int) ∧ i + 1 < T.length then some ((i + 1, 0) :: st') else none
theorem stAt_succ {T : List Nd} {i : Nat} {st st' : List (Nat × Nat)} {n : Nat} {c : Int} (h : stAt T i = some st) (hn : nxt T st = some ((n, c), st')) (hc : c = ((i + 1 : Nat) : Int)) (hl : i + 1 < T.length) : stAt T (i + 1) = some ((i + 1, 0) :: st') := by
  simp only [stAt, h, hn]
  rw [if_pos ⟨hc, hl⟩]
theorem nxt_cons {T : List Nd} {n m : Nat} {st : List (Nat × Nat)} {c : Int} (h : (kids T n)[m]? = some c) : nxt T ((n, m) :: st) = some ((n, c), (n, m + 1) :: st) := by
  simp only [nxt, h]
theorem nxt_end {T : List Nd} {n m : Nat} {st : List (Nat × Nat)} (h : (kids T n)[m]? = none) : nxt T ((n, m) :: st) = nxt T st := by
  simp only [nxt, h]
theorem drop_cons {l : List Int} {m : Nat} {c : Int} {ls : List Int} (h : l.drop m = c :: ls) : l[m]? = some c ∧ l.drop (m + 1) = ls := by
  refine ⟨?_, ?_⟩
  · have := congrArg (·[0]?) h
    simpa using this
  · have := congrArg (·.drop 1) h
    simpa using this
theorem drop_nil {l : List Int} {m : Nat} (h : l.drop m = []) : l[m]? = none := by
  have := congrArg (·[0]?) h
  simpa using this
/-- Where the walk goes through, its nodes are trees. -/
theorem wk_inr (T : List Nd) : ∀ (f n : Nat) (ls : List Int) (next k : Nat), next ≤ T.length → wk T f n ls next = .inr k → ∃ g : Fo, ls = g.starts next ∧ k = next + g.size ∧ k ≤ T.length ∧ (T.drop next).take g.size = g.flat next := by
  intro f
  induction f with
  | zero =>
    intro n ls next k hle h
    cases ls with
    | nil => simp only [wk] at h; cases h; exact ⟨.nil, rfl, by simp [Fo.size], hle, by simp [Fo.flat, Fo.size]⟩
    | cons c ls => simp [wk] at h
  | succ f ih =>
    intro n ls
    induction ls with
    | nil => intro next k hle h; simp only [wk] at h; cases h; exact ⟨.nil, rfl, by simp [Fo.size], hle, by simp [Fo.flat, Fo.size]⟩
    | cons c ls ihl =>
      intro next k hle h
      simp only [wk] at h
      by_cases hc : c = (next : Int) ∧ next < T.length
      · rw [if_pos hc] at h
        cases hw : wk T f next (kids T next) (next + 1) with
        | inl p => rw [hw] at h; cases h
        | inr j =>
          rw [hw] at h
          obtain ⟨g1, e1, e2, e2', e3⟩ := ih next _ (next + 1) j (by omega) hw
          obtain ⟨g2, d1, d2, d2', d3⟩ := ihl j k e2' h
          have hT : T[next]? = some (T[next]'hc.2) := List.getElem?_eq_getElem hc.2
          have hk : kids T next = (T[next]'hc.2).l := by simp [kids, hT]
          refine ⟨.cons (T[next]'hc.2).x g1 g2, ?_, ?_, d2', ?_⟩
          · simp only [Fo.starts]
            rw [hc.1, d1, e2]
          · simp only [Fo.size]; omega
          · simp only [Fo.size, Fo.flat]
            rw [← e3]
            have hd : T.drop next = T[next]'hc.2 :: T.drop (next + 1) := List.drop_eq_getElem_cons hc.2
            rw [hd, show 1 + g1.size + g2.size = (g1.size + g2.size) + 1 by omega, List.take_succ_cons]
            congr 1
            · rw [← e1, hk]
            · rw [List.take_add, List.drop_drop]
              congr 1
              rw [show next + 1 + g1.size = j by omega]
              exact d3
      · rw [if_neg hc] at h; cases h
theorem seg_head {T : List Nd} {o : Nat} {x : Nd} {a b : List Nd} {na nb : Nat} (ha : a.length = na) (hb : b.length = nb) (h : (T.drop o).take (1 + na + nb) = x :: (a ++ b)) : T[o]? = some x ∧ (T.drop (o + 1)).take na = a ∧ (T.drop (o + 1 + na)).take nb = b := by
  have h0 : T[o]? = some x := by
    have := congrArg (·[0]?) h
    simpa [List.getElem?_take, List.getElem?_drop, show 0 < 1 + na + nb by omega] using this
  have hlt : o < T.length := by
    rw [List.getElem?_eq_some_iff] at h0
    exact h0.1
  have hd : T.drop o = T[o] :: T.drop (o + 1) := List.drop_eq_getElem_cons hlt
  rw [hd, show 1 + na + nb = (na + nb) + 1 by omega, List.take_succ_cons] at h
  have h2 := (List.cons.inj h).2
  rw [List.take_add, List.drop_drop] at h2
  have hl := congrArg List.length h2
  simp only [List.length_append, ha, hb] at hl
  have hla : ((T.drop (o + 1)).take na).length = na := by
    have l1 : ((T.drop (o + 1)).take na).length ≤ na := List.length_take_le _ _
    have l2 : ((T.drop (o + 1 + na)).take nb).length ≤ nb := List.length_take_le _ _
    omega
  have := List.append_inj h2 (by rw [hla, ha])
  exact ⟨h0, this.1, this.2⟩
/-- Where the nodes are trees the list's walk tells each one's parent, in order. -/
theorem nxt_flat (T : List Nd) (g : Fo) : ∀ (n m i : Nat) (st st0 : List (Nat × Nat)), (T.drop (i + 1)).take g.size = g.flat (i + 1) → i + 1 + g.size ≤ T.length → (∃ rest, (kids T n).drop m = g.starts (i + 1) ++ rest) → stAt T i = some st0 → nxt T st0 = nxt T ((n, m) :: st) →
    (∀ j, j < g.size → ∃ s s' p, stAt T (i + j) = some s ∧ nxt T s = some ((p, ((i + 1 + j : Nat) : Int)), s') ∧ (g.ups n (i + 1))[j]? = some (p : Int)) ∧ ∃ s, stAt T (i + g.size) = some s ∧ nxt T s = nxt T ((n, m + g.kinds.length) :: st) := by
  induction g with
  | nil =>
    intro n m i st st0 h1 h2 h3 h4 h5
    refine ⟨fun j hj => by simp [Fo.size] at hj, st0, h4, h5⟩
  | cons x c r ihc ihr =>
    intro n m i st st0 h1 h2 h3 h4 h5
    simp only [Fo.size, Fo.flat] at h1 h2
    obtain ⟨hx, hc, hr⟩ := seg_head (Fo.len_flat c _) (Fo.len_flat r _) h1
    obtain ⟨rest, h3⟩ := h3
    simp only [Fo.starts, List.cons_append] at h3
    obtain ⟨hm, hm'⟩ := drop_cons h3
    have hn0 : nxt T st0 = some ((n, ((i + 1 : Nat) : Int)), (n, m + 1) :: st) := h5.trans (nxt_cons hm)
    have hs1 : stAt T (i + 1) = some ((i + 1, 0) :: (n, m + 1) :: st) := stAt_succ h4 hn0 rfl (by omega)
    have hk : kids T (i + 1) = c.starts (i + 1 + 1) := by simp [kids, hx]
    obtain ⟨c1, s1, c2, c3⟩ := ihc (i + 1) 0 (i + 1) ((n, m + 1) :: st) _ hc (by omega) ⟨[], by rw [List.drop_zero, List.append_nil]; exact hk⟩ hs1 rfl
    have hend : (kids T (i + 1))[0 + c.kinds.length]? = none := by
      rw [hk, Nat.zero_add, ← Fo.len_starts c (i + 1 + 1)]
      exact List.getElem?_eq_none (Nat.le_refl _)
    rw [nxt_end hend] at c3
    have er : i + 1 + 1 + c.size = i + 1 + c.size + 1 := by omega
    rw [er] at hr hm'
    obtain ⟨r1, s2, r2, r3⟩ := ihr n (m + 1) (i + 1 + c.size) st s1 hr (by omega) ⟨rest, hm'⟩ c2 c3
    refine ⟨fun j hj => ?_, s2, ?_, ?_⟩
    · simp only [Fo.size] at hj
      simp only [Fo.ups]
      cases j with
      | zero => exact ⟨st0, _, n, h4, hn0, rfl⟩
      | succ j =>
        by_cases hlt : j < c.size
        · obtain ⟨s, s', p, a1, a2, a3⟩ := c1 j hlt
          refine ⟨s, s', p, by rw [← a1]; congr 1; omega, by rw [a2]; congr 4; omega, ?_⟩
          rw [List.getElem?_cons_succ, List.getElem?_append_left (by rw [Fo.len_ups]; exact hlt)]
          exact a3
        · obtain ⟨s, s', p, a1, a2, a3⟩ := r1 (j - c.size) (by omega)
          refine ⟨s, s', p, by rw [← a1]; congr 1; omega, by rw [a2]; congr 4; omega, ?_⟩
          rw [List.getElem?_cons_succ, List.getElem?_append_right (by rw [Fo.len_ups]; omega), Fo.len_ups, er]
          exact a3
    · rw [← r2]; congr 1; simp only [Fo.size]; omega
    · rw [r3]; simp only [Fo.kinds, List.length_cons]; congr 3; omega
/-- Where the recursive walk is stopped the list's is, at the same parent. -/
theorem wk_inl (T : List Nd) : ∀ (f n : Nat) (ls : List Int) (next p : Nat) (m : Nat) (st st0 : List (Nat × Nat)), T.length ≤ next + f → 1 ≤ next → next ≤ T.length → wk T f n ls next = .inl p → (kids T n).drop m = ls → stAt T (next - 1) = some st0 → nxt T st0 = nxt T ((n, m) :: st) →
    ∃ i s c s', stAt T i = some s ∧ nxt T s = some ((p, c), s') ∧ ¬ (c = ((i + 1 : Nat) : Int) ∧ i + 1 < T.length) := by
  intro f
  induction f with
  | zero =>
    intro n ls next p m st st0 hf h1 hle h hm h4 h5
    cases ls with
    | nil => simp only [wk] at h; cases h
    | cons c ls =>
      simp only [wk] at h
      cases h
      obtain ⟨a1, a2⟩ := drop_cons hm
      exact ⟨next - 1, st0, c, _, h4, h5.trans (nxt_cons a1), fun h => by omega⟩
  | succ f ih =>
    intro n ls
    induction ls with
    | nil => intro next p m st st0 hf h1 hle h; simp only [wk] at h; cases h
    | cons c ls ihl =>
      intro next p m st st0 hf h1 hle h hm h4 h5
      obtain ⟨a1, a2⟩ := drop_cons hm
      have hn0 := h5.trans (nxt_cons a1)
      simp only [wk] at h
      have hnx : next - 1 + 1 = next := by omega
      by_cases hc : c = (next : Int) ∧ next < T.length
      · rw [if_pos hc] at h
        have hs1 := stAt_succ h4 hn0 (by rw [hnx]; exact hc.1) (by rw [hnx]; exact hc.2)
        rw [hnx] at hs1
        cases hw : wk T f next (kids T next) (next + 1) with
        | inl q =>
          rw [hw] at h
          cases h
          exact ih next _ (next + 1) p 0 ((n, m + 1) :: st) _ (by omega) (by omega) (by omega) hw rfl (by simpa using hs1) rfl
        | inr j =>
          rw [hw] at h
          obtain ⟨g, e1, e2, e3, e4⟩ := wk_inr T f next _ (next + 1) j (by omega) hw
          obtain ⟨-, s1, c2, c3⟩ := nxt_flat T g next 0 next ((n, m + 1) :: st) _ e4 (by omega) ⟨[], by rw [List.drop_zero, List.append_nil]; exact e1⟩ hs1 rfl
          have hend : (kids T next)[0 + g.kinds.length]? = none := by
            rw [e1, Nat.zero_add, ← Fo.len_starts g (next + 1)]
            exact List.getElem?_eq_none (Nat.le_refl _)
          rw [nxt_end hend] at c3
          exact ihl j p (m + 1) st s1 (by omega) (by omega) (by omega) h a2 (by rw [← c2]; congr 1; omega) c3
      · rw [if_neg hc] at h
        cases h
        exact ⟨next - 1, st0, c, _, h4, hn0, by rw [hnx]; exact hc⟩
/-- Trees are walked through. -/
theorem wk_flat (T : List Nd) (g : Fo) : ∀ (f n next : Nat) (ls : List Int), T.length ≤ next + f → next + g.size ≤ T.length → (T.drop next).take g.size = g.flat next → wk T f n (g.starts next ++ ls) next = wk T f n ls (next + g.size) := by
  induction g with
  | nil => intro f n next ls _ _ _; rfl
  | cons x c r ihc ihr =>
    intro f n next ls hf hle h1
    simp only [Fo.size, Fo.flat] at h1 hle
    obtain ⟨hx, hc, hr⟩ := seg_head (Fo.len_flat c _) (Fo.len_flat r _) h1
    have hk : kids T next = c.starts (next + 1) := by simp [kids, hx]
    cases f with
    | zero => omega
    | succ f =>
      have e1 := ihc f next (next + 1) [] (by omega) (by omega) hc
      rw [List.append_nil] at e1
      simp only [Fo.starts, List.cons_append, wk]
      rw [if_pos ⟨trivial, by omega⟩, hk, e1]
      simp only [wk]
      rw [ihr (f + 1) n (next + 1 + c.size) ls (by omega) (by omega) hr]
      simp only [Fo.size]
      congr 1
      omega
/-- What the walk tells of a whole tree. -/
def stray (T : List Nd) : Nat := match wk T T.length 0 (kids T 0) 1 with | .inl p => p | .inr k => k
/-- A tree that is numbered as one meets its nodes. -/
theorem stray_iff {T : List Nd} (h0 : T ≠ []) : wk T T.length 0 (kids T 0) 1 = .inr T.length ↔ ∃ x c, T = (Fo.cons x c .nil).flat 0 := by
  cases T with
  | nil => exact absurd rfl h0
  | cons d T' =>
    constructor
    · intro h
      obtain ⟨g, e1, e2, e3, e4⟩ := wk_inr _ _ _ _ 1 _ (by simp) h
      refine ⟨d.x, g, ?_⟩
      simp only [Fo.flat, List.append_nil]
      have hk : kids (d :: T') 0 = d.l := by simp [kids]
      rw [hk] at e1
      rw [show (0 + 1 : Nat) = 1 from rfl, ← e1, ← e4]
      simp only [List.drop_succ_cons, List.drop_zero]
      rw [List.take_of_length_le (by simp at e2; omega)]
    · rintro ⟨x, c, hT⟩
      rw [hT]
      have hl : ((Fo.cons x c .nil).flat 0).length = 1 + c.size := by rw [Fo.len_flat]; simp [Fo.size]
      have hk : kids ((Fo.cons x c .nil).flat 0) 0 = c.starts 1 := by simp [kids, Fo.flat]
      have := wk_flat ((Fo.cons x c .nil).flat 0) c ((Fo.cons x c .nil).flat 0).length 0 1 [] (by omega) (by omega) (by simp [Fo.flat, List.take_of_length_le, Fo.len_flat])
      rw [List.append_nil] at this
      rw [hk, this, hl]
      simp only [wk]
end Go.Proofs.Ytkidcmglidnaoaa
namespace Go.Proofs.Ytkidcmglidnaoaa
set_option linter.unusedVariables false
set_option linter.unusedSimpArgs false
namespace Fo
/-- A node is one deeper than its parent. -/
theorem lv_ups (g : Fo) : ∀ (p : Int) (o d j v : Nat) (u : Int), (lv d g)[j]? = some v → (ups p o g)[j]? = some u → (u = p ∧ v = d) ∨ ∃ i v', i < j ∧ u = ((o + i : Nat) : Int) ∧ (lv d g)[i]? = some v' ∧ v = v' + 1 := by
  induction g with
  | nil => intro p o d j v u h; simp [lv] at h
  | cons x c r ihc ihr =>
    intro p o d j v u h1 h2
    simp only [lv, ups] at h1 h2 ⊢
    cases j with
    | zero => simp at h1 h2; exact .inl ⟨h2.symm, h1.symm⟩
    | succ j =>
      rw [List.getElem?_cons_succ] at h1 h2
      by_cases hj : j < c.size
      · rw [List.getElem?_append_left (by rw [len_lv]; exact hj)] at h1
        rw [List.getElem?_append_left (by rw [len_ups]; exact hj)] at h2
        right
        rcases ihc _ _ _ _ _ _ h1 h2 with ⟨e1, e2⟩ | ⟨i, v', a1, a2, a3, a4⟩
        · exact ⟨0, d, by omega, by simpa using e1, rfl, e2⟩
        · refine ⟨i + 1, v', by omega, by rw [a2]; congr 1; omega, ?_, a4⟩
          rw [List.getElem?_cons_succ, List.getElem?_append_left (by rw [len_lv]; omega)]
          exact a3
      · rw [List.getElem?_append_right (by rw [len_lv]; omega), len_lv] at h1
        rw [List.getElem?_append_right (by rw [len_ups]; omega), len_ups] at h2
        rcases ihr _ _ _ _ _ _ h1 h2 with ⟨e1, e2⟩ | ⟨i, v', a1, a2, a3, a4⟩
        · exact .inl ⟨e1, e2⟩
        · right
          refine ⟨c.size + i + 1, v', by omega, by rw [a2]; congr 1; omega, ?_, a4⟩
          rw [List.getElem?_cons_succ, List.getElem?_append_right (by rw [len_lv]; omega), len_lv, show c.size + i - c.size = i by omega]
          exact a3
/-- The levels of a whole tree, by its parents. -/
theorem lv_step (x : Nx) (c : Fo) (j : Nat) (u : Int) (h : (ups 0 1 c)[j]? = some u) : ∃ i v, u = ((i : Nat) : Int) ∧ i ≤ j ∧ (lv 0 (cons x c nil))[i]? = some v ∧ (lv 0 (cons x c nil))[j + 1]? = some (v + 1) := by
  have hj : j < c.size := by
    have := (List.getElem?_eq_some_iff.1 h).1
    rwa [len_ups] at this
  obtain ⟨v, hv⟩ : ∃ v, (lv 1 c)[j]? = some v := ⟨_, List.getElem?_eq_getElem (by rw [len_lv]; exact hj)⟩
  have e : lv 0 (cons x c nil) = 0 :: lv 1 c := by simp [lv]
  rw [e]
  rcases lv_ups c 0 1 1 j v u hv h with ⟨e1, e2⟩ | ⟨i, v', a1, a2, a3, a4⟩
  · exact ⟨0, 0, by simpa using e1, by omega, rfl, by rw [List.getElem?_cons_succ, hv, e2]⟩
  · exact ⟨i + 1, v', by rw [a2]; congr 1; omega, by omega, by rw [List.getElem?_cons_succ]; exact a3, by rw [List.getElem?_cons_succ, hv, a4]⟩
theorem lv_bound (g : Fo) : ∀ d, ∀ v ∈ lv d g, d ≤ v ∧ v < d + deep g := by
  induction g with
  | nil => intro d v h; simp [lv] at h
  | cons x c r ihc ihr =>
    intro d v h
    simp only [lv, List.mem_cons, List.mem_append] at h
    simp only [deep]
    rcases h with rfl | h | h
    · omega
    · have := ihc _ v h; omega
    · have := ihr _ v h; omega
theorem lv_max (g : Fo) : ∀ d, 0 < deep g → d + deep g - 1 ∈ lv d g := by
  induction g with
  | nil => intro d h; simp [deep] at h
  | cons x c r ihc ihr =>
    intro d h
    simp only [lv, List.mem_cons, List.mem_append]
    simp only [deep] at h ⊢
    by_cases h1 : deep r ≤ 1 + deep c
    · by_cases h2 : deep c = 0
      · left; omega
      · right; left
        have := ihc (d + 1) (by omega)
        rw [show d + max (1 + deep c) (deep r) - 1 = d + 1 + deep c - 1 by omega]
        exact this
    · right; right
      have := ihr d (by omega)
      rw [show d + max (1 + deep c) (deep r) - 1 = d + deep r - 1 by omega]
      exact this
theorem deep_pos {g : Fo} (h : 0 < size g) : 0 < deep g := by
  cases g with
  | nil => simp [size] at h
  | cons x c r => simp only [deep]; omega
/-- A part of a tree: its nodes, its levels, that it may be. -/
theorem sub_some (g : Fo) : ∀ (n : Nat), n < size g → ∃ x c, sub g n = some (x, c) ∧ n + 1 + size c ≤ size g ∧ deep (cons x c nil) ≤ deep g ∧
    (∀ ok, all ok g = true → all ok (cons x c nil) = true) ∧
    (∀ o, ((flat o g).drop n).take (1 + size c) = flat (o + n) (cons x c nil)) ∧
    (∀ d, ∃ d' rest, d ≤ d' ∧ (lv d g).drop n = lv d' (cons x c nil) ++ rest ∧ ∀ v, rest.head? = some v → v ≤ d') := by
  induction g with
  | nil => intro n h; simp [size] at h
  | cons x c r ihc ihr =>
    intro n h
    simp only [size] at h
    cases n with
    | zero =>
      refine ⟨x, c, rfl, by simp only [size]; omega, by simp only [deep]; omega, fun ok h => ?_, fun o => ?_, fun d => ⟨d, lv d r, Nat.le_refl _, by simp [lv], ?_⟩⟩
      · simp only [all, Bool.and_eq_true] at h ⊢
        exact ⟨h.1, trivial⟩
      · simp only [List.drop_zero, flat, Nat.add_zero, List.append_nil]
        rw [show 1 + size c = size c + 1 by omega, List.take_succ_cons]
        congr 1
        rw [List.take_append_of_le_length (by rw [len_flat]; exact Nat.le_refl _), List.take_of_length_le (by rw [len_flat]; exact Nat.le_refl _)]
      · intro v hv
        cases r with
        | nil => simp [lv] at hv
        | cons y c' r' => simp [lv] at hv; omega
    | succ n =>
      by_cases hn : n < size c
      · obtain ⟨y, c', e1, e2, e3, e4, e5, e6⟩ := ihc n hn
        refine ⟨y, c', by simp only [sub]; rw [if_pos hn]; exact e1, by simp only [size]; omega, by simp only [deep] at e3 ⊢; omega, fun ok h => ?_, fun o => ?_, fun d => ?_⟩
        · simp only [all, Bool.and_eq_true] at h
          exact e4 ok h.1.2
        · simp only [flat, List.drop_succ_cons]
          rw [List.drop_append_of_le_length (by rw [len_flat]; omega), List.take_append_of_le_length (by rw [List.length_drop, len_flat]; omega), e5 (o + 1), show o + (n + 1) = o + 1 + n by omega]
          rfl
        · obtain ⟨d', rest, a1, a2, a3⟩ := e6 (d + 1)
          refine ⟨d', rest ++ lv d r, by omega, ?_, ?_⟩
          · simp only [lv, List.drop_succ_cons] at a2 ⊢
            rw [List.drop_append_of_le_length (by rw [len_lv]; omega), a2, List.append_assoc]
          · intro v hv
            cases rest with
            | nil =>
              cases r with
              | nil => simp [lv] at hv
              | cons z c2 r2 => simp [lv] at hv; omega
            | cons z rest => simp at hv; exact a3 v (by simp [hv])
      · obtain ⟨y, c', e1, e2, e3, e4, e5, e6⟩ := ihr (n - size c) (by omega)
        refine ⟨y, c', by simp only [sub]; rw [if_neg hn]; exact e1, by simp only [size]; omega, by simp only [deep] at e3 ⊢; omega, fun ok h => ?_, fun o => ?_, fun d => ?_⟩
        · simp only [all, Bool.and_eq_true] at h
          exact e4 ok h.2
        · have := e5 (o + 1 + size c)
          rw [show o + 1 + size c + (n - size c) = o + (n + 1) by omega] at this
          rw [← this]
          show ((⟨x, starts (o + 1) c⟩ :: (flat (o + 1) c ++ flat (o + 1 + size c) r)).drop (n + 1)).take _ = _
          rw [List.drop_succ_cons, List.drop_append, len_flat, List.drop_of_length_le (by rw [len_flat]; omega), List.nil_append]
        · obtain ⟨d', rest, a1, a2, a3⟩ := e6 d
          refine ⟨d', rest, a1, ?_, a3⟩
          rw [← a2]
          show ((d :: (lv (d + 1) c ++ lv d r)).drop (n + 1)) = _
          rw [List.drop_succ_cons, List.drop_append, len_lv, List.drop_of_length_le (by rw [len_lv]; omega), List.nil_append]
end Fo
/-- The kinds of these nodes, if all of them are there. -/
def kq (T : List Nd) : List Int → Option (List Nat)
  | [] => some []
  | c :: l => if 0 ≤ c ∧ c < T.length then (kq T l).map (((T[c.toNat]?).map (·.x.k)).getD 0 :: ·) else none
/-- Is a node as its kind asks? -/
def askB (ok : Nx → List Nat → Bool) (T : List Nd) (d : Nd) : Bool := match kq T d.l with | some ks => ok d.x ks | none => false
theorem kq_flat (T : List Nd) (g : Fo) : ∀ o, (T.drop o).take g.size = g.flat o → o + g.size ≤ T.length → kq T (g.starts o) = some g.kinds := by
  induction g with
  | nil => intro o _ _; rfl
  | cons x c r ihc ihr =>
    intro o h hle
    simp only [Fo.size, Fo.flat] at h hle
    obtain ⟨hx, hc, hr⟩ := seg_head (Fo.len_flat c _) (Fo.len_flat r _) h
    simp only [Fo.starts, kq, Fo.kinds]
    rw [if_pos ⟨by omega, by omega⟩, ihr _ hr (by omega)]
    simp [hx]
theorem ask_flat (ok : Nx → List Nat → Bool) (T : List Nd) (g : Fo) : ∀ o, (T.drop o).take g.size = g.flat o → o + g.size ≤ T.length → ((∀ d ∈ g.flat o, askB ok T d = true) ↔ g.all ok = true) := by
  induction g with
  | nil => intro o _ _; simp [Fo.flat, Fo.all]
  | cons x c r ihc ihr =>
    intro o h hle
    simp only [Fo.size, Fo.flat] at h hle
    obtain ⟨hx, hc, hr⟩ := seg_head (Fo.len_flat c _) (Fo.len_flat r _) h
    have hk := kq_flat T c (o + 1) hc (by omega)
    have ha : askB ok T ⟨x, c.starts (o + 1)⟩ = ok x c.kinds := by simp [askB, hk]
    have i1 := ihc (o + 1) hc (by omega)
    have i2 := ihr _ hr (by omega)
    simp only [Fo.flat, Fo.all, Bool.and_eq_true, List.mem_cons, List.mem_append]
    constructor
    · intro h
      exact ⟨⟨by rw [← ha]; exact h _ (.inl rfl), i1.1 fun d hd => h d (.inr (.inl hd))⟩, i2.1 fun d hd => h d (.inr (.inr hd))⟩
    · rintro ⟨⟨a, b⟩, c'⟩ d (rfl | hd | hd)
      · rw [ha]; exact a
      · exact i1.2 b d hd
      · exact i2.2 c' d hd
/-- A tree that may be. -/
def Mayb (ok : Nx → List Nat → Bool) (T : List Nd) : Prop := ∃ x c, T = (Fo.cons x c .nil).flat 0 ∧ (Fo.cons x c .nil).all ok = true ∧ (Fo.cons x c .nil).deep ≤ 48 ∧ T.length ≤ 16384
theorem whole_seg (x : Nx) (c : Fo) : (((Fo.cons x c .nil).flat 0).drop 0).take (Fo.cons x c .nil).size = (Fo.cons x c .nil).flat 0 := by
  rw [List.drop_zero, List.take_of_length_le (by rw [Fo.len_flat]; exact Nat.le_refl _)]
theorem ask_whole (ok : Nx → List Nat → Bool) (x : Nx) (c : Fo) : (∀ d ∈ (Fo.cons x c .nil).flat 0, askB ok ((Fo.cons x c .nil).flat 0) d = true) ↔ (Fo.cons x c .nil).all ok = true :=
  ask_flat ok _ _ 0 (whole_seg x c) (by rw [Fo.len_flat]; omega)
theorem kids_whole (x : Nx) (c : Fo) : kids ((Fo.cons x c .nil).flat 0) 0 = c.starts 1 := by simp [kids, Fo.flat]
/-- Each node's parent, by the list's walk. -/
theorem nxt_whole (x : Nx) (c : Fo) : (∀ j, j < c.size → ∃ s s' p, stAt ((Fo.cons x c .nil).flat 0) j = some s ∧ nxt ((Fo.cons x c .nil).flat 0) s = some ((p, ((j + 1 : Nat) : Int)), s') ∧ (c.ups 0 1)[j]? = some (p : Int)) ∧ ∃ s, stAt ((Fo.cons x c .nil).flat 0) c.size = some s ∧ nxt ((Fo.cons x c .nil).flat 0) s = none := by
  obtain ⟨h1, s, h2, h3⟩ := nxt_flat ((Fo.cons x c .nil).flat 0) c 0 0 0 [] [(0, 0)] (by simp [Fo.flat, List.take_of_length_le, Fo.len_flat]) (by rw [Fo.len_flat]; simp [Fo.size]) ⟨[], by rw [kids_whole]; simp⟩ rfl rfl
  refine ⟨fun j hj => ?_, s, by simpa using h2, ?_⟩
  · obtain ⟨s, s', p, a1, a2, a3⟩ := h1 j hj
    refine ⟨s, s', p, by simpa using a1, ?_, a3⟩
    rw [a2]; congr 4; omega
  · rw [h3, nxt_end]
    · rfl
    · rw [kids_whole, ← Fo.len_starts c 1]
      exact List.getElem?_eq_none (by omega)
end Go.Proofs.Ytkidcmglidnaoaa
namespace Go.Proofs.Ytkidcmglidnaoaa
set_option linter.unusedVariables false
set_option linter.unusedSimpArgs false

/-- The walk has come to its end behind so many children; it was stopped there, at that parent. -/
def Ended (T : List Nd) (i : Nat) : Prop := ∃ s, stAt T i = some s ∧ nxt T s = none
def Stopped (T : List Nd) (i p : Nat) : Prop := ∃ s c s', stAt T i = some s ∧ nxt T s = some ((p, c), s') ∧ ¬ (c = ((i + 1 : Nat) : Int) ∧ i + 1 < T.length)
theorem stAt_back {T : List Nd} {i : Nat} {s : List (Nat × Nat)} (h : stAt T (i + 1) = some s) : ∃ s0 p c s', stAt T i = some s0 ∧ nxt T s0 = some ((p, c), s') ∧ c = ((i + 1 : Nat) : Int) ∧ i + 1 < T.length := by
  simp only [stAt] at h
  cases h0 : stAt T i with
  | none => rw [h0] at h; cases h
  | some s0 =>
    rw [h0] at h
    simp only at h
    cases h1 : nxt T s0 with
    | none => rw [h1] at h; cases h
    | some x =>
      obtain ⟨⟨p, c⟩, s'⟩ := x
      rw [h1] at h
      simp only at h
      by_cases hc : c = ((i + 1 : Nat) : Int) ∧ i + 1 < T.length
      · exact ⟨s0, p, c, s', rfl, h1, hc.1, hc.2⟩
      · rw [if_neg hc] at h; cases h
theorem stAt_le {T : List Nd} {j : Nat} : ∀ {i : Nat} {s : List (Nat × Nat)}, stAt T i = some s → j ≤ i → ∃ s', stAt T j = some s'
  | 0, s, h, hj => by obtain rfl : j = 0 := by omega
                      exact ⟨s, h⟩
  | i + 1, s, h, hj => by
    rcases Nat.lt_or_ge j (i + 1) with hlt | hge
    · obtain ⟨s0, _, _, _, h0, _⟩ := stAt_back h
      exact stAt_le h0 (by omega)
    · obtain rfl : j = i + 1 := by omega
      exact ⟨s, h⟩
theorem ended_stop {T : List Nd} {i : Nat} (h : Ended T i) {j : Nat} {s : List (Nat × Nat)} (hj : stAt T j = some s) : j ≤ i := by
  apply Classical.byContradiction
  intro hlt
  obtain ⟨s1, h1⟩ := stAt_le hj (show i + 1 ≤ j by omega)
  obtain ⟨s0, p, c, s', a1, a2, -⟩ := stAt_back h1
  obtain ⟨s2, b1, b2⟩ := h
  rw [b1] at a1
  cases a1
  rw [b2] at a2
  cases a2
theorem stopped_stop {T : List Nd} {i p : Nat} (h : Stopped T i p) {j : Nat} {s : List (Nat × Nat)} (hj : stAt T j = some s) : j ≤ i := by
  apply Classical.byContradiction
  intro hlt
  obtain ⟨s1, h1⟩ := stAt_le hj (show i + 1 ≤ j by omega)
  obtain ⟨s0, q, c, s', a1, a2, a3, a4⟩ := stAt_back h1
  obtain ⟨s2, c2, s3, b1, b2, b3⟩ := h
  rw [b1] at a1
  cases a1
  rw [b2] at a2
  cases a2
  exact b3 ⟨a3, a4⟩
theorem stAt_len {T : List Nd} (h0 : T ≠ []) : ∀ {i : Nat} {s : List (Nat × Nat)}, stAt T i = some s → i < T.length
  | 0, s, h => List.length_pos_iff.2 h0
  | i + 1, s, h => by obtain ⟨_, _, _, _, _, _, _, h⟩ := stAt_back h; exact h
theorem nxt_mem {T : List Nd} {x : (Nat × Int) × List (Nat × Nat)} : ∀ {s : List (Nat × Nat)}, nxt T s = some x → (∃ m, (x.1.1, m) ∈ s) ∧ ∀ y ∈ x.2, ∃ m, (y.1, m) ∈ s
  | [], h => by simp [nxt] at h
  | (n, m) :: st, h => by
    simp only [nxt] at h
    cases hk : (kids T n)[m]? with
    | none =>
      rw [hk] at h
      obtain ⟨⟨m', h1⟩, h2⟩ := nxt_mem h
      exact ⟨⟨m', List.mem_cons_of_mem _ h1⟩, fun y hy => by obtain ⟨q, hq⟩ := h2 y hy; exact ⟨q, List.mem_cons_of_mem _ hq⟩⟩
    | some c =>
      rw [hk] at h
      cases h
      refine ⟨⟨m, List.mem_cons_self⟩, fun y hy => ?_⟩
      simp only [List.mem_cons] at hy
      rcases hy with rfl | hy
      · exact ⟨m, List.mem_cons_self⟩
      · exact ⟨y.2, List.mem_cons_of_mem _ hy⟩
theorem stAt_mem {T : List Nd} : ∀ {i : Nat} {s : List (Nat × Nat)}, stAt T i = some s → ∀ y ∈ s, y.1 ≤ i
  | 0, s, h, y, hy => by simp only [stAt] at h; cases h; simp at hy; rw [hy]; exact Nat.le_refl _
  | i + 1, s, h, y, hy => by
    obtain ⟨s0, p, c, s', a1, a2, a3, a4⟩ := stAt_back h
    rw [stAt_succ a1 a2 a3 a4] at h
    cases h
    simp only [List.mem_cons] at hy
    rcases hy with rfl | hy
    · exact Nat.le_refl _
    · obtain ⟨m, hm⟩ := (nxt_mem a2).2 y hy
      have := stAt_mem a1 _ hm
      simp only at this
      omega
theorem ended_whole {T : List Nd} (h0 : T ≠ []) {i : Nat} (h : Ended T i) : i + 1 ≤ T.length ∧ (i + 1 = T.length ↔ ∃ x c, T = (Fo.cons x c .nil).flat 0) := by
  have hi : i < T.length := by obtain ⟨s, hs, _⟩ := h; exact stAt_len h0 hs
  refine ⟨hi, ?_⟩
  rw [← stray_iff h0]
  cases hw : wk T T.length 0 (kids T 0) 1 with
  | inl p =>
    obtain ⟨j, s, c, s', a1, a2, a3⟩ := wk_inl T T.length 0 (kids T 0) 1 p 0 [] [(0, 0)] (by omega) (by omega) (List.length_pos_iff.2 h0) hw rfl rfl rfl
    exfalso
    have e1 := ended_stop h a1
    have hst : Stopped T j p := ⟨s, c, s', a1, a2, a3⟩
    obtain ⟨s2, b1, b2⟩ := h
    have e2 := stopped_stop hst b1
    obtain rfl : i = j := by omega
    rw [b1] at a1
    cases a1
    rw [b2] at a2
    cases a2
  | inr k =>
    obtain ⟨g, e1, e2, e3, e4⟩ := wk_inr T _ _ _ 1 k (List.length_pos_iff.2 h0) hw
    obtain ⟨-, s, c2, c3⟩ := nxt_flat T g 0 0 0 [] [(0, 0)] e4 (by omega) ⟨[], by rw [List.drop_zero, List.append_nil]; exact e1⟩ rfl rfl
    rw [Nat.zero_add] at c2
    have hend : (kids T 0)[0 + g.kinds.length]? = none := by
      rw [e1, Nat.zero_add, ← Fo.len_starts g 1]
      exact List.getElem?_eq_none (Nat.le_refl _)
    rw [nxt_end hend] at c3
    have e5 := ended_stop h c2
    have h' : Ended T g.size := ⟨s, c2, c3⟩
    obtain ⟨s2, b1, b2⟩ := h
    have e6 := ended_stop h' b1
    obtain rfl : i = g.size := by omega
    constructor
    · intro h; rw [e2, Nat.add_comm 1 g.size, h]
    · intro h; cases h; omega
theorem stopped_whole {T : List Nd} (h0 : T ≠ []) {i p : Nat} (h : Stopped T i p) : p < T.length ∧ ¬ ∃ x c, T = (Fo.cons x c .nil).flat 0 := by
  constructor
  · obtain ⟨s, c, s', a1, a2, -⟩ := h
    obtain ⟨m, hm⟩ := (nxt_mem a2).1
    have e1 := stAt_mem a1 _ hm
    have e2 := stAt_len h0 a1
    simp only at e1
    omega
  · rintro ⟨x, c, rfl⟩
    obtain ⟨h1, s, h2, h3⟩ := nxt_whole x c
    have e1 := stopped_stop h h2
    have hE : Ended ((Fo.cons x c .nil).flat 0) c.size := ⟨s, h2, h3⟩
    obtain ⟨s2, c2, s3, b1, b2, b3⟩ := h
    have e2 := ended_stop hE b1
    obtain rfl : i = c.size := by omega
    rw [b1] at h2
    cases h2
    rw [b2] at h3
    cases h3
/-- In a whole tree the walk tells each node's parent. -/
theorem told_whole {x : Nx} {c : Fo} {i p : Nat} {d : Int} {s s' : List (Nat × Nat)} (h : stAt ((Fo.cons x c .nil).flat 0) i = some s) (hn : nxt ((Fo.cons x c .nil).flat 0) s = some ((p, d), s')) : i < c.size ∧ d = ((i + 1 : Nat) : Int) ∧ (c.ups 0 1)[i]? = some (p : Int) := by
  obtain ⟨h1, s2, h2, h3⟩ := nxt_whole x c
  have hE : Ended ((Fo.cons x c .nil).flat 0) c.size := ⟨s2, h2, h3⟩
  have e1 := ended_stop hE h
  have hlt : i < c.size := by
    rcases Nat.lt_or_ge i c.size with h' | h'
    · exact h'
    · obtain rfl : i = c.size := by omega
      rw [h] at h2
      cases h2
      rw [hn] at h3
      cases h3
  obtain ⟨s3, s4, q, a1, a2, a3⟩ := h1 i hlt
  rw [h] at a1
  cases a1
  rw [hn] at a2
  cases a2
  exact ⟨hlt, rfl, a3⟩
theorem ended_size {x : Nx} {c : Fo} {i : Nat} (h : Ended ((Fo.cons x c .nil).flat 0) i) : i = c.size := by
  obtain ⟨h1, s2, h2, h3⟩ := nxt_whole x c
  have hE : Ended ((Fo.cons x c .nil).flat 0) c.size := ⟨s2, h2, h3⟩
  have e1 := ended_stop h h2
  obtain ⟨s, a1, a2⟩ := h
  have e2 := ended_stop hE a1
  omega
end Go.Proofs.Ytkidcmglidnaoaa
namespace Go.Proofs.Ytkidcmglidnaoaa
set_option linter.unusedVariables false
set_option linter.unusedSimpArgs false

/-- Trees are told by their nodes. -/
theorem flat_inj (T : List Nd) (f : Fo) : ∀ (g : Fo) (o : Nat), (T.drop o).take f.size = f.flat o → (T.drop o).take g.size = g.flat o → o + f.size ≤ T.length → o + g.size ≤ T.length → f.size = g.size → f = g := by
  induction f with
  | nil =>
    intro g o h1 h2 _ _ hs
    cases g with
    | nil => rfl
    | cons x c r => simp [Fo.size] at hs; omega
  | cons x c r ihc ihr =>
    intro g o h1 h2 l1 l2 hs
    cases g with
    | nil => simp [Fo.size] at hs
    | cons x' c' r' =>
      simp only [Fo.size, Fo.flat] at h1 h2 l1 l2 hs
      obtain ⟨hx, hc, hr⟩ := seg_head (Fo.len_flat c _) (Fo.len_flat r _) h1
      obtain ⟨hx', hc', hr'⟩ := seg_head (Fo.len_flat c' _) (Fo.len_flat r' _) h2
      rw [hx] at hx'
      have e := Option.some.inj hx'
      have ex : x = x' := congrArg Nd.x e
      have es : c.starts (o + 1) = c'.starts (o + 1) := congrArg Nd.l e
      have w1 := wk_flat T c T.length 0 (o + 1) [] (by omega) (by omega) hc
      have w2 := wk_flat T c' T.length 0 (o + 1) [] (by omega) (by omega) hc'
      rw [es, w2] at w1
      simp only [wk] at w1
      have hsz : c.size = c'.size := by
        have := Sum.inr.inj w1
        omega
      have ec := ihc c' (o + 1) hc hc' (by omega) (by omega) hsz
      subst ec ex
      rw [ihr r' _ hr hr' (by omega) (by omega) (by omega)]
theorem whole_inj {x x' : Nx} {c c' : Fo} (h : (Fo.cons x c .nil).flat 0 = (Fo.cons x' c' .nil).flat 0) : Fo.cons x c .nil = Fo.cons x' c' .nil := by
  have hs : (Fo.cons x c .nil).size = (Fo.cons x' c' .nil).size := by rw [← Fo.len_flat _ 0, ← Fo.len_flat _ 0, h]
  refine flat_inj ((Fo.cons x c .nil).flat 0) _ _ 0 (whole_seg x c) ?_ (by rw [Fo.len_flat]; omega) (by rw [Fo.len_flat]; omega) hs
  rw [h]
  exact whole_seg x' c'
/-- What Check says of a tree. -/
def Ck (ok : Nx → List Nat → Bool) (T : List Nd) (e : Int) : Prop :=
  (T = [] ∧ e = 30) ∨ (16384 < T.length ∧ e = 3) ∨ (T ≠ [] ∧ T.length ≤ 16384 ∧
    ((¬ (∃ x c, T = (Fo.cons x c .nil).flat 0 ∧ (Fo.cons x c .nil).all ok = true) ∧ e = 30) ∨
     ∃ x c, T = (Fo.cons x c .nil).flat 0 ∧ (Fo.cons x c .nil).all ok = true ∧ e = if 48 < (Fo.cons x c .nil).deep then 4 else 0))
theorem Ck.may {ok : Nx → List Nat → Bool} {T : List Nd} {e : Int} (h : Ck ok T e) : e = 0 ↔ Mayb ok T := by
  constructor
  · intro he
    rcases h with ⟨_, h⟩ | ⟨_, h⟩ | ⟨_, hl, ⟨_, h⟩ | ⟨x, c, h1, h2, h3⟩⟩
    · omega
    · omega
    · omega
    · refine ⟨x, c, h1, h2, ?_, hl⟩
      rw [he] at h3
      split at h3
      · cases h3
      · omega
  · rintro ⟨x, c, h1, h2, h3, h4⟩
    rcases h with ⟨h, _⟩ | ⟨h, _⟩ | ⟨_, hl, ⟨h, _⟩ | ⟨x', c', k1, k2, k3⟩⟩
    · rw [h1] at h; simp [Fo.flat] at h
    · omega
    · exact absurd ⟨x, c, h1, h2⟩ h
    · have := whole_inj (h1.symm.trans k1)
      rw [k3, ← this, if_neg (by omega)]
/-- What Check says of a tree that is numbered as one meets its nodes. -/
def ckE (ok : Nx → List Nat → Bool) (f : Fo) : Int := if f.all ok = true then (if 48 < f.deep then 4 else 0) else 30
theorem Ck.whole {ok : Nx → List Nat → Bool} {x : Nx} {c : Fo} {e : Int} (h : Ck ok ((Fo.cons x c .nil).flat 0) e) (hl : 1 + c.size ≤ 16384) : e = ckE ok (.cons x c .nil) := by
  have hlen : ((Fo.cons x c .nil).flat 0).length = 1 + c.size := by rw [Fo.len_flat]; simp [Fo.size]
  unfold ckE
  rcases h with ⟨h, _⟩ | ⟨h, _⟩ | ⟨_, _, ⟨h, he⟩ | ⟨x', c', k1, k2, k3⟩⟩
  · simp [Fo.flat] at h
  · omega
  · rw [he, if_neg (fun hh => h ⟨x, c, rfl, hh⟩)]
  · have := whole_inj k1
    rw [this, if_pos k2]
    exact k3
theorem mayb_ne {ok : Nx → List Nat → Bool} {T : List Nd} (h : Mayb ok T) : T ≠ [] := by
  obtain ⟨x, c, h, -⟩ := h
  rw [h]
  simp [Fo.flat]
end Go.Proofs.Ytkidcmglidnaoaa
namespace Go.Proofs.Ytkidcmglidnaoaa
set_option linter.unusedVariables false
set_option linter.unusedSimpArgs false

theorem flat_kids (f : Fo) : ∀ o, ∀ d ∈ f.flat o, (∀ c ∈ d.l, (o : Int) ≤ c ∧ c < o + f.size) ∧ d.l.length ≤ f.size := by
  induction f with
  | nil => intro o d h; simp [Fo.flat] at h
  | cons x c r ihc ihr =>
    intro o d h
    simp only [Fo.flat, List.mem_cons, List.mem_append] at h
    simp only [Fo.size]
    rcases h with rfl | h | h
    · refine ⟨fun y hy => ?_, ?_⟩
      · have := Fo.starts_bound c _ y hy
        omega
      · have e1 := Fo.len_starts c (o + 1)
        have e2 := Fo.kinds_le c
        show (c.starts (o + 1)).length ≤ _
        omega
    · obtain ⟨h1, h2⟩ := ihc _ d h
      exact ⟨fun y hy => by have := h1 y hy; omega, by omega⟩
    · obtain ⟨h1, h2⟩ := ihr _ d h
      exact ⟨fun y hy => by have := h1 y hy; omega, by omega⟩
theorem mv_mv (k : Int) (d : Nd) : Fo.mv (-k) (Fo.mv k d) = d := by
  obtain ⟨x, l⟩ := d
  simp only [Fo.mv, List.map_map]
  congr 1
  conv => rhs; rw [← List.map_id l]
  apply List.map_congr_left
  intro y _
  simp
  omega
theorem mv_zero (d : Nd) : Fo.mv 0 d = d := by
  obtain ⟨x, l⟩ := d
  simp [Fo.mv]
/-- A part of a tree, moved to the front. -/
theorem seg_front {T : List Nd} {x : Nx} {c : Fo} {n : Nat} {m : Nat} (h : (T.drop n).take m = (Fo.cons x c .nil).flat (0 + n)) : ((T.drop n).take m).map (Fo.mv (-(n : Int))) = (Fo.cons x c .nil).flat 0 := by
  rw [h, Fo.flat_mv, List.map_map]
  have : (Fo.mv (-(n : Int)) ∘ Fo.mv (n : Int)) = id := by funext d; exact mv_mv _ d
  rw [this, List.map_id]
/-- The levels from a node on. -/
theorem lv_from {L : List Nat} {d : Nat} {x : Nx} {c : Fo} {rest : List Nat} {n : Nat} (h : L.drop n = Fo.lv d (.cons x c .nil) ++ rest) (hr : ∀ v, rest.head? = some v → v ≤ d) :
    L[n]? = some d ∧ (∀ j, j < c.size → ∃ v, L[n + 1 + j]? = some v ∧ d < v) ∧ (n + 1 + c.size < L.length → ∃ v, L[n + 1 + c.size]? = some v ∧ v ≤ d) := by
  have hg : ∀ i, L[n + i]? = (Fo.lv d (.cons x c .nil) ++ rest)[i]? := fun i => by rw [← h, List.getElem?_drop]
  have hl : Fo.lv d (.cons x c .nil) = d :: Fo.lv (d + 1) c := by simp [Fo.lv]
  refine ⟨?_, fun j hj => ?_, fun hlt => ?_⟩
  · have := hg 0
    rw [hl] at this
    simpa using this
  · have := hg (1 + j)
    rw [hl, List.cons_append, show 1 + j = j + 1 by omega, List.getElem?_cons_succ, List.getElem?_append_left (by rw [Fo.len_lv]; exact hj)] at this
    obtain ⟨v, hv⟩ : ∃ v, (Fo.lv (d + 1) c)[j]? = some v := ⟨_, List.getElem?_eq_getElem (by rw [Fo.len_lv]; exact hj)⟩
    refine ⟨v, by rw [show n + 1 + j = n + (j + 1) by omega, this, hv], ?_⟩
    have := Fo.lv_bound c (d + 1) v (List.mem_of_getElem? hv)
    omega
  · have := hg (1 + c.size)
    rw [hl, List.cons_append, show 1 + c.size = c.size + 1 by omega, List.getElem?_cons_succ, List.getElem?_append_right (by rw [Fo.len_lv]; exact Nat.le_refl _), Fo.len_lv, Nat.sub_self] at this
    rw [show n + 1 + c.size = n + (c.size + 1) by omega, this]
    cases rest with
    | nil =>
      exfalso
      have e := congrArg List.length h
      rw [hl] at e
      simp [Fo.len_lv] at e
      omega
    | cons v rest => exact ⟨v, rfl, hr v rfl⟩
end Go.Proofs.Ytkidcmglidnaoaa
