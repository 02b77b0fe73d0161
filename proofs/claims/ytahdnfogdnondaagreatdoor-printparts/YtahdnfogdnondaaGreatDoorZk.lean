import Derived.Test.YtahdnfogdnondaaGreatDoorZi
namespace Go.Proofs.YtahdnfogdnondaaGreatDoor
open Go.RowKit
set_option linter.unusedVariables false
set_option linter.unusedSimpArgs false

/-- What a tree of the arguments has, however great it is. -/
structure Lg (T : List Nd) : Prop where
  n : T.length ≤ maxLen
  x : ∀ d ∈ T, SmX d.x
  l : ∀ d ∈ T, d.l.length ≤ maxLen
  c : ∀ d ∈ T, ∀ c ∈ d.l, -9223372036854775808 ≤ c ∧ c ≤ 9223372036854775807
theorem Lg.sm {T : List Nd} (h : Lg T) (h1 : T.length ≤ 16392) (h2 : ∀ d ∈ T, d.l.length ≤ 16392) : Sm T :=
  ⟨by omega, fun d hd => ⟨(h.x d hd).k, (h.x d hd).p0, (h.x d hd).p1, (h.x d hd).n0, (h.x d hd).n1, (h.x d hd).s, by have := h2 d hd; omega, h.c d hd⟩⟩
/-- How many numbers the lists of the first k nodes have. -/
def sl (T : List Nd) (k : Nat) : Nat := ((T.take k).map (fun d => d.l.length)).sum
theorem sl_succ {T : List Nd} {k : Nat} {d : Nd} (h : T[k]? = some d) : sl T (k + 1) = sl T k + d.l.length := by
  unfold sl
  rw [List.take_add_one, h]
  simp
theorem sl_mono (T : List Nd) (k : Nat) : ∀ j, sl T k ≤ sl T (k + j)
  | 0 => Nat.le_refl _
  | j + 1 => by
    refine Nat.le_trans (sl_mono T k j) ?_
    cases h : T[k + j]? with
    | some d => rw [← Nat.add_assoc, sl_succ h]; omega
    | none =>
      have h' := List.getElem?_eq_none_iff.1 h
      unfold sl
      rw [List.take_of_length_le h', List.take_of_length_le (by omega)]
      exact Nat.le_refl _
theorem sl_one {T : List Nd} {k : Nat} {d : Nd} (h : T[k]? = some d) : sl T k + d.l.length ≤ sl T T.length := by
  have hk := (List.getElem?_eq_some_iff.1 h).1
  have := sl_mono T (k + 1) (T.length - (k + 1))
  rw [sl_succ h, show k + 1 + (T.length - (k + 1)) = T.length by omega] at this
  exact this
/-- It is no greater than the law asks. -/
def Fit (T : List Nd) : Prop := T.length ≤ 16392 ∧ sl T T.length ≤ 16392
theorem Fit.l {T : List Nd} (h : Fit T) : ∀ d ∈ T, d.l.length ≤ 16392 := fun d hd => by
  obtain ⟨j, hj, rfl⟩ := List.getElem_of_mem hd
  have := sl_one (List.getElem?_eq_getElem hj)
  have := h.2
  omega
theorem sameB_refl (T : List Nd) : sameB T T = true := by
  rw [sameB_iff]
  refine ⟨rfl, fun i c d hc hd => ?_⟩
  rw [hc] at hd
  cases hd
  simp [alB]
/-- The trees of a forest, in order. -/
def roots : Fo → List (Nx × Fo)
  | .nil => []
  | .cons x c r => (x, c) :: roots r
theorem fo_roots (f : Fo) : fo (roots f) = f := by
  induction f with
  | nil => rfl
  | cons x c r _ ih => simp only [roots, fo, ih]
theorem roots_starts (f : Fo) : ∀ (o i : Nat), (f.starts o)[i]? = ((roots f)[i]?).map (fun _ => ((o + (fo ((roots f).take i)).size : Nat) : Int)) := by
  induction f with
  | nil => intro o i; simp [Fo.starts, roots]
  | cons x c r _ ih =>
    intro o i
    cases i with
    | zero => simp [Fo.starts, roots, fo, Fo.size]
    | succ i =>
      simp only [Fo.starts, roots, List.getElem?_cons_succ, List.take_succ_cons, fo, Fo.size]
      rw [ih]
      congr 1
      funext _
      congr 1
      omega
theorem roots_sub (f : Fo) : ∀ (i : Nat) (y : Nx × Fo), (roots f)[i]? = some y → f.sub ((fo ((roots f).take i)).size) = some y := by
  induction f with
  | nil => intro i y h; simp [roots] at h
  | cons x c r _ ih =>
    intro i y h
    cases i with
    | zero => simp [roots] at h; subst h; rfl
    | succ i =>
      simp only [roots, List.getElem?_cons_succ, List.take_succ_cons, fo, Fo.size] at h ⊢
      rw [show 1 + c.size + (fo ((roots r).take i)).size = (c.size + (fo ((roots r).take i)).size) + 1 by omega]
      simp only [Fo.sub]
      rw [if_neg (by omega), show c.size + (fo ((roots r).take i)).size - c.size = (fo ((roots r).take i)).size by omega]
      exact ih i y h
theorem roots_len (f : Fo) : (roots f).length = f.kinds.length := by
  induction f with
  | nil => rfl
  | cons x c r _ ih => simp [roots, Fo.kinds, ih]
/-- A row of another type is turned: a tree of one's own is not. -/
theorem OC.other {W W' : World} {lo hi g n k : Nat} {T : List Nd} {cur : Array Value} (h : OC W lo hi g n T k cur) {row : Option Nat} (hg : W.grownBy W' row) (hr : ∀ b, row = some b → ∃ cur', W.heap[b]? = some (.cells cur' 24 (0, 0))) : OC W' lo hi g n T k cur := by
  have hgne : some g ≠ row := fun e => by
    obtain ⟨cur', h'⟩ := hr g e.symm
    rw [h.at_] at h'
    cases h'
  refine ⟨(hg.block g (Array.getElem?_eq_some_iff.1 h.at_).1 hgne).trans h.at_, h.size, h.lg, h.gh, fun i d hi' hd => ?_, h.rest⟩
  obtain ⟨v, h1, h2, h3⟩ := h.nd i d hi' hd
  refine ⟨v, h1, h2.kept hg ?_, h3⟩
  rcases h2.2 with ⟨rfl, _⟩ | ⟨g', cap', cu, rfl, _, hgg, _⟩
  · exact .inl rfl
  · refine .inr (fun e => ?_)
    obtain ⟨cur', h'⟩ := hr g' (by rw [← e]; rfl)
    rw [hgg] at h'
    cases h'
theorem Tryz.info24 : (Tryz.prog.info? 24).map (fun i => (i.zero, i.size, i.bytes)) = some (some (.agg #[.slice none 0 0]), 1, 24) := by kernel_rfl
end Go.Proofs.YtahdnfogdnondaaGreatDoor
