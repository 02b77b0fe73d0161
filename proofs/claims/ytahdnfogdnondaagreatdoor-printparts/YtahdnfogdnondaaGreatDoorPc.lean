import Derived.Test.YtahdnfogdnondaaGreatDoorPb
namespace Go.Proofs.YtahdnfogdnondaaGreatDoor
set_option linter.unusedVariables false
set_option linter.unusedSimpArgs false
namespace Fo
/-- A node is one deeper than its parent. -/
theorem lv_ups (g : Fo) : ∀ (p : Int) (o d j v : Nat) (u : Int), (lv d g)[j]? = some v → (ups p o g)[j]? = some u → (u = p ∧ v = d) ∨ ∃ i v', i < j ∧ u = ((o + i : Nat) : Int) ∧ (lv d g)[i]? = some v' ∧ v = v' + 1 := by
  induction g with
  | nil => intro p o d j v u h; simp [lv] at h
  | cons x c r ihc ihr =>
    intro p o d j v u h1 h2
    simp only [lv, ups] at h1 h2 ⊢
    cases j with
    | zero => simp at h1 h2; exact .inl ⟨h2.symm, h1.symm⟩
    | succ j =>
      rw [List.getElem?_cons_succ] at h1 h2
      by_cases hj : j < c.size
      · rw [List.getElem?_append_left (by rw [len_lv]; exact hj)] at h1
        rw [List.getElem?_append_left (by rw [len_ups]; exact hj)] at h2
        right
        rcases ihc _ _ _ _ _ _ h1 h2 with ⟨e1, e2⟩ | ⟨i, v', a1, a2, a3, a4⟩
        · exact ⟨0, d, by omega, by simpa using e1, rfl, e2⟩
        · refine ⟨i + 1, v', by omega, by rw [a2]; congr 1; omega, ?_, a4⟩
          rw [List.getElem?_cons_succ, List.getElem?_append_left (by rw [len_lv]; omega)]
          exact a3
      · rw [List.getElem?_append_right (by rw [len_lv]; omega), len_lv] at h1
        rw [List.getElem?_append_right (by rw [len_ups]; omega), len_ups] at h2
        rcases ihr _ _ _ _ _ _ h1 h2 with ⟨e1, e2⟩ | ⟨i, v', a1, a2, a3, a4⟩
        · exact .inl ⟨e1, e2⟩
        · right
          refine ⟨c.size + i + 1, v', by omega, by rw [a2]; congr 1; omega, ?_, a4⟩
          rw [List.getElem?_cons_succ, List.getElem?_append_right (by rw [len_lv]; omega), len_lv, show c.size + i - c.size = i by omega]
          exact a3
/-- The levels of a whole tree, by its parents. -/
theorem lv_step (x : Nx) (c : Fo) (j : Nat) (u : Int) (h : (ups 0 1 c)[j]? = some u) : ∃ i v, u = ((i : Nat) : Int) ∧ i ≤ j ∧ (lv 0 (cons x c nil))[i]? = some v ∧ (lv 0 (cons x c nil))[j + 1]? = some (v + 1) := by
  have hj : j < c.size := by
    have := (List.getElem?_eq_some_iff.1 h).1
    rwa [len_ups] at this
  obtain ⟨v, hv⟩ : ∃ v, (lv 1 c)[j]? = some v := ⟨_, List.getElem?_eq_getElem (by rw [len_lv]; exact hj)⟩
  have e : lv 0 (cons x c nil) = 0 :: lv 1 c := by simp [lv]
  rw [e]
  rcases lv_ups c 0 1 1 j v u hv h with ⟨e1, e2⟩ | ⟨i, v', a1, a2, a3, a4⟩
  · exact ⟨0, 0, by simpa using e1, by omega, rfl, by rw [List.getElem?_cons_succ, hv, e2]⟩
  · exact ⟨i + 1, v', by rw [a2]; congr 1; omega, by omega, by rw [List.getElem?_cons_succ]; exact a3, by rw [List.getElem?_cons_succ, hv, a4]⟩
theorem lv_bound (g : Fo) : ∀ d, ∀ v ∈ lv d g, d ≤ v ∧ v < d + deep g := by
  induction g with
  | nil => intro d v h; simp [lv] at h
  | cons x c r ihc ihr =>
    intro d v h
    simp only [lv, List.mem_cons, List.mem_append] at h
    simp only [deep]
    rcases h with rfl | h | h
    · omega
    · have := ihc _ v h; omega
    · have := ihr _ v h; omega
theorem lv_max (g : Fo) : ∀ d, 0 < deep g → d + deep g - 1 ∈ lv d g := by
  induction g with
  | nil => intro d h; simp [deep] at h
  | cons x c r ihc ihr =>
    intro d h
    simp only [lv, List.mem_cons, List.mem_append]
    simp only [deep] at h ⊢
    by_cases h1 : deep r ≤ 1 + deep c
    · by_cases h2 : deep c = 0
      · left; omega
      · right; left
        have := ihc (d + 1) (by omega)
        rw [show d + max (1 + deep c) (deep r) - 1 = d + 1 + deep c - 1 by omega]
        exact this
    · right; right
      have := ihr d (by omega)
      rw [show d + max (1 + deep c) (deep r) - 1 = d + deep r - 1 by omega]
      exact this
theorem deep_pos {g : Fo} (h : 0 < size g) : 0 < deep g := by
  cases g with
  | nil => simp [size] at h
  | cons x c r => simp only [deep]; omega
/-- A part of a tree: its nodes, its levels, that it may be. -/
theorem sub_some (g : Fo) : ∀ (n : Nat), n < size g → ∃ x c, sub g n = some (x, c) ∧ n + 1 + size c ≤ size g ∧ deep (cons x c nil) ≤ deep g ∧
    (∀ ok, all ok g = true → all ok (cons x c nil) = true) ∧
    (∀ o, ((flat o g).drop n).take (1 + size c) = flat (o + n) (cons x c nil)) ∧
    (∀ d, ∃ d' rest, d ≤ d' ∧ (lv d g).drop n = lv d' (cons x c nil) ++ rest ∧ ∀ v, rest.head? = some v → v ≤ d') := by
  induction g with
  | nil => intro n h; simp [size] at h
  | cons x c r ihc ihr =>
    intro n h
    simp only [size] at h
    cases n with
    | zero =>
      refine ⟨x, c, rfl, by simp only [size]; omega, by simp only [deep]; omega, fun ok h => ?_, fun o => ?_, fun d => ⟨d, lv d r, Nat.le_refl _, by simp [lv], ?_⟩⟩
      · simp only [all, Bool.and_eq_true] at h ⊢
        exact ⟨h.1, trivial⟩
      · simp only [List.drop_zero, flat, Nat.add_zero, List.append_nil]
        rw [show 1 + size c = size c + 1 by omega, List.take_succ_cons]
        congr 1
        rw [List.take_append_of_le_length (by rw [len_flat]; exact Nat.le_refl _), List.take_of_length_le (by rw [len_flat]; exact Nat.le_refl _)]
      · intro v hv
        cases r with
        | nil => simp [lv] at hv
        | cons y c' r' => simp [lv] at hv; omega
    | succ n =>
      by_cases hn : n < size c
      · obtain ⟨y, c', e1, e2, e3, e4, e5, e6⟩ := ihc n hn
        refine ⟨y, c', by simp only [sub]; rw [if_pos hn]; exact e1, by simp only [size]; omega, by simp only [deep] at e3 ⊢; omega, fun ok h => ?_, fun o => ?_, fun d => ?_⟩
        · simp only [all, Bool.and_eq_true] at h
          exact e4 ok h.1.2
        · simp only [flat, List.drop_succ_cons]
          rw [List.drop_append_of_le_length (by rw [len_flat]; omega), List.take_append_of_le_length (by rw [List.length_drop, len_flat]; omega), e5 (o + 1), show o + (n + 1) = o + 1 + n by omega]
          rfl
        · obtain ⟨d', rest, a1, a2, a3⟩ := e6 (d + 1)
          refine ⟨d', rest ++ lv d r, by omega, ?_, ?_⟩
          · simp only [lv, List.drop_succ_cons] at a2 ⊢
            rw [List.drop_append_of_le_length (by rw [len_lv]; omega), a2, List.append_assoc]
          · intro v hv
            cases rest with
            | nil =>
              cases r with
              | nil => simp [lv] at hv
              | cons z c2 r2 => simp [lv] at hv; omega
            | cons z rest => simp at hv; exact a3 v (by simp [hv])
      · obtain ⟨y, c', e1, e2, e3, e4, e5, e6⟩ := ihr (n - size c) (by omega)
        refine ⟨y, c', by simp only [sub]; rw [if_neg hn]; exact e1, by simp only [size]; omega, by simp only [deep] at e3 ⊢; omega, fun ok h => ?_, fun o => ?_, fun d => ?_⟩
        · simp only [all, Bool.and_eq_true] at h
          exact e4 ok h.2
        · have := e5 (o + 1 + size c)
          rw [show o + 1 + size c + (n - size c) = o + (n + 1) by omega] at this
          rw [← this]
          show ((⟨x, starts (o + 1) c⟩ :: (flat (o + 1) c ++ flat (o + 1 + size c) r)).drop (n + 1)).take _ = _
          rw [List.drop_succ_cons, List.drop_append, len_flat, List.drop_of_length_le (by rw [len_flat]; omega), List.nil_append]
        · obtain ⟨d', rest, a1, a2, a3⟩ := e6 d
          refine ⟨d', rest, a1, ?_, a3⟩
          rw [← a2]
          show ((d :: (lv (d + 1) c ++ lv d r)).drop (n + 1)) = _
          rw [List.drop_succ_cons, List.drop_append, len_lv, List.drop_of_length_le (by rw [len_lv]; omega), List.nil_append]
end Fo
/-- The kinds of these nodes, if all of them are there. -/
def kq (T : List Nd) : List Int → Option (List Nat)
  | [] => some []
  | c :: l => if 0 ≤ c ∧ c < T.length then (kq T l).map (((T[c.toNat]?).map (·.x.k)).getD 0 :: ·) else none
/-- Is a node as its kind asks? -/
def askB (ok : Nx → List Nat → Bool) (T : List Nd) (d : Nd) : Bool := match kq T d.l with | some ks => ok d.x ks | none => false
theorem kq_flat (T : List Nd) (g : Fo) : ∀ o, (T.drop o).take g.size = g.flat o → o + g.size ≤ T.length → kq T (g.starts o) = some g.kinds := by
  induction g with
  | nil => intro o _ _; rfl
  | cons x c r ihc ihr =>
    intro o h hle
    simp only [Fo.size, Fo.flat] at h hle
    obtain ⟨hx, hc, hr⟩ := seg_head (Fo.len_flat c _) (Fo.len_flat r _) h
    simp only [Fo.starts, kq, Fo.kinds]
    rw [if_pos ⟨by omega, by omega⟩, ihr _ hr (by omega)]
    simp [hx]
theorem ask_flat (ok : Nx → List Nat → Bool) (T : List Nd) (g : Fo) : ∀ o, (T.drop o).take g.size = g.flat o → o + g.size ≤ T.length → ((∀ d ∈ g.flat o, askB ok T d = true) ↔ g.all ok = true) := by
  induction g with
  | nil => intro o _ _; simp [Fo.flat, Fo.all]
  | cons x c r ihc ihr =>
    intro o h hle
    simp only [Fo.size, Fo.flat] at h hle
    obtain ⟨hx, hc, hr⟩ := seg_head (Fo.len_flat c _) (Fo.len_flat r _) h
    have hk := kq_flat T c (o + 1) hc (by omega)
    have ha : askB ok T ⟨x, c.starts (o + 1)⟩ = ok x c.kinds := by simp [askB, hk]
    have i1 := ihc (o + 1) hc (by omega)
    have i2 := ihr _ hr (by omega)
    simp only [Fo.flat, Fo.all, Bool.and_eq_true, List.mem_cons, List.mem_append]
    constructor
    · intro h
      exact ⟨⟨by rw [← ha]; exact h _ (.inl rfl), i1.1 fun d hd => h d (.inr (.inl hd))⟩, i2.1 fun d hd => h d (.inr (.inr hd))⟩
    · rintro ⟨⟨a, b⟩, c'⟩ d (rfl | hd | hd)
      · rw [ha]; exact a
      · exact i1.2 b d hd
      · exact i2.2 c' d hd
/-- A tree that may be. -/
def Mayb (ok : Nx → List Nat → Bool) (T : List Nd) : Prop := ∃ x c, T = (Fo.cons x c .nil).flat 0 ∧ (Fo.cons x c .nil).all ok = true ∧ (Fo.cons x c .nil).deep ≤ 48 ∧ T.length ≤ 16384
theorem whole_seg (x : Nx) (c : Fo) : (((Fo.cons x c .nil).flat 0).drop 0).take (Fo.cons x c .nil).size = (Fo.cons x c .nil).flat 0 := by
  rw [List.drop_zero, List.take_of_length_le (by rw [Fo.len_flat]; exact Nat.le_refl _)]
theorem ask_whole (ok : Nx → List Nat → Bool) (x : Nx) (c : Fo) : (∀ d ∈ (Fo.cons x c .nil).flat 0, askB ok ((Fo.cons x c .nil).flat 0) d = true) ↔ (Fo.cons x c .nil).all ok = true :=
  ask_flat ok _ _ 0 (whole_seg x c) (by rw [Fo.len_flat]; omega)
theorem kids_whole (x : Nx) (c : Fo) : kids ((Fo.cons x c .nil).flat 0) 0 = c.starts 1 := by simp [kids, Fo.flat]
/-- Each node's parent, by the list's walk. -/
theorem nxt_whole (x : Nx) (c : Fo) : (∀ j, j < c.size → ∃ s s' p, stAt ((Fo.cons x c .nil).flat 0) j = some s ∧ nxt ((Fo.cons x c .nil).flat 0) s = some ((p, ((j + 1 : Nat) : Int)), s') ∧ (c.ups 0 1)[j]? = some (p : Int)) ∧ ∃ s, stAt ((Fo.cons x c .nil).flat 0) c.size = some s ∧ nxt ((Fo.cons x c .nil).flat 0) s = none := by
  obtain ⟨h1, s, h2, h3⟩ := nxt_flat ((Fo.cons x c .nil).flat 0) c 0 0 0 [] [(0, 0)] (by simp [Fo.flat, List.take_of_length_le, Fo.len_flat]) (by rw [Fo.len_flat]; simp [Fo.size]) ⟨[], by rw [kids_whole]; simp⟩ rfl rfl
  refine ⟨fun j hj => ?_, s, by simpa using h2, ?_⟩
  · obtain ⟨s, s', p, a1, a2, a3⟩ := h1 j hj
    refine ⟨s, s', p, by simpa using a1, ?_, a3⟩
    rw [a2]; congr 4; omega
  · rw [h3, nxt_end]
    · rfl
    · rw [kids_whole, ← Fo.len_starts c 1]
      exact List.getElem?_eq_none (by omega)
end Go.Proofs.YtahdnfogdnondaaGreatDoor
