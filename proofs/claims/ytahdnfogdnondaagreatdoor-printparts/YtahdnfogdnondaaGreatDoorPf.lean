import Derived.Test.YtahdnfogdnondaaGreatDoorPe
namespace Go.Proofs.YtahdnfogdnondaaGreatDoor
set_option linter.unusedVariables false
set_option linter.unusedSimpArgs false

theorem flat_kids (f : Fo) : ∀ o, ∀ d ∈ f.flat o, (∀ c ∈ d.l, (o : Int) ≤ c ∧ c < o + f.size) ∧ d.l.length ≤ f.size := by
  induction f with
  | nil => intro o d h; simp [Fo.flat] at h
  | cons x c r ihc ihr =>
    intro o d h
    simp only [Fo.flat, List.mem_cons, List.mem_append] at h
    simp only [Fo.size]
    rcases h with rfl | h | h
    · refine ⟨fun y hy => ?_, ?_⟩
      · have := Fo.starts_bound c _ y hy
        omega
      · have e1 := Fo.len_starts c (o + 1)
        have e2 := Fo.kinds_le c
        show (c.starts (o + 1)).length ≤ _
        omega
    · obtain ⟨h1, h2⟩ := ihc _ d h
      exact ⟨fun y hy => by have := h1 y hy; omega, by omega⟩
    · obtain ⟨h1, h2⟩ := ihr _ d h
      exact ⟨fun y hy => by have := h1 y hy; omega, by omega⟩
theorem mv_mv (k : Int) (d : Nd) : Fo.mv (-k) (Fo.mv k d) = d := by
  obtain ⟨x, l⟩ := d
  simp only [Fo.mv, List.map_map]
  congr 1
  conv => rhs; rw [← List.map_id l]
  apply List.map_congr_left
  intro y _
  simp
  omega
theorem mv_zero (d : Nd) : Fo.mv 0 d = d := by
  obtain ⟨x, l⟩ := d
  simp [Fo.mv]
/-- A part of a tree, moved to the front. -/
theorem seg_front {T : List Nd} {x : Nx} {c : Fo} {n : Nat} {m : Nat} (h : (T.drop n).take m = (Fo.cons x c .nil).flat (0 + n)) : ((T.drop n).take m).map (Fo.mv (-(n : Int))) = (Fo.cons x c .nil).flat 0 := by
  rw [h, Fo.flat_mv, List.map_map]
  have : (Fo.mv (-(n : Int)) ∘ Fo.mv (n : Int)) = id := by funext d; exact mv_mv _ d
  rw [this, List.map_id]
/-- The levels from a node on. -/
theorem lv_from {L : List Nat} {d : Nat} {x : Nx} {c : Fo} {rest : List Nat} {n : Nat} (h : L.drop n = Fo.lv d (.cons x c .nil) ++ rest) (hr : ∀ v, rest.head? = some v → v ≤ d) :
    L[n]? = some d ∧ (∀ j, j < c.size → ∃ v, L[n + 1 + j]? = some v ∧ d < v) ∧ (n + 1 + c.size < L.length → ∃ v, L[n + 1 + c.size]? = some v ∧ v ≤ d) := by
  have hg : ∀ i, L[n + i]? = (Fo.lv d (.cons x c .nil) ++ rest)[i]? := fun i => by rw [← h, List.getElem?_drop]
  have hl : Fo.lv d (.cons x c .nil) = d :: Fo.lv (d + 1) c := by simp [Fo.lv]
  refine ⟨?_, fun j hj => ?_, fun hlt => ?_⟩
  · have := hg 0
    rw [hl] at this
    simpa using this
  · have := hg (1 + j)
    rw [hl, List.cons_append, show 1 + j = j + 1 by omega, List.getElem?_cons_succ, List.getElem?_append_left (by rw [Fo.len_lv]; exact hj)] at this
    obtain ⟨v, hv⟩ : ∃ v, (Fo.lv (d + 1) c)[j]? = some v := ⟨_, List.getElem?_eq_getElem (by rw [Fo.len_lv]; exact hj)⟩
    refine ⟨v, by rw [show n + 1 + j = n + (j + 1) by omega, this, hv], ?_⟩
    have := Fo.lv_bound c (d + 1) v (List.mem_of_getElem? hv)
    omega
  · have := hg (1 + c.size)
    rw [hl, List.cons_append, show 1 + c.size = c.size + 1 by omega, List.getElem?_cons_succ, List.getElem?_append_right (by rw [Fo.len_lv]; exact Nat.le_refl _), Fo.len_lv, Nat.sub_self] at this
    rw [show n + 1 + c.size = n + (c.size + 1) by omega, this]
    cases rest with
    | nil =>
      exfalso
      have e := congrArg List.length h
      rw [hl] at e
      simp [Fo.len_lv] at e
      omega
    | cons v rest => exact ⟨v, rfl, hr v rfl⟩
end Go.Proofs.YtahdnfogdnondaaGreatDoor
