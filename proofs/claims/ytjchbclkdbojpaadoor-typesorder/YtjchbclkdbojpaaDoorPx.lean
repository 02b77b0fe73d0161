import Derived.Test.YtjchbclkdbojpaaDoorA
namespace Go.Proofs.YtjchbclkdbojpaaDoor

theorem asksL_self : ∀ (b : Bool) (c : Ch), ∀ p ∈ asksL b c c, p.1 = p.2
  | b, .box c, p, h => asksL_self b c p h
  | b, .ref m r c, p, h => by
    simp only [asksL, List.mem_cons, List.mem_append] at h
    rcases h with rfl | h | h
    · rfl
    · split at h
      · simp at h; subst h; rfl
      · simp at h
    · exact asksL_self _ c p h
  | b, .leaf _ _, p, h => by simp [asksL] at h
theorem alikeB_trans : ∀ (a b c : Ch), alikeB a b = true → alikeB b c = true → alikeB a c = true
  | .leaf _ _, .leaf _ _, .leaf _ _, h, k => by simp [alikeB] at h k ⊢; exact ⟨h.1.trans k.1, h.2.trans k.2⟩
  | .box a, .box b, .box c, h, k => alikeB_trans a b c h k
  | .ref m _ a, .ref m' _ b, .ref m'' _ c, h, k => by
    simp only [alikeB, Bool.and_eq_true, decide_eq_true_eq] at h k ⊢
    exact ⟨h.1.trans k.1, alikeB_trans a b c h.2 k.2⟩
  | .leaf _ _, .box _, _, h, _ => by simp [alikeB] at h
  | .leaf _ _, .ref _ _ _, _, h, _ => by simp [alikeB] at h
  | .box _, .leaf _ _, _, h, _ => by simp [alikeB] at h
  | .box _, .ref _ _ _, _, h, _ => by simp [alikeB] at h
  | .ref _ _ _, .leaf _ _, _, h, _ => by simp [alikeB] at h
  | .ref _ _ _, .box _, _, h, _ => by simp [alikeB] at h
  | _, .leaf _ _, .box _, _, h => by simp [alikeB] at h
  | _, .leaf _ _, .ref _ _ _, _, h => by simp [alikeB] at h
  | _, .box _, .leaf _ _, _, h => by simp [alikeB] at h
  | _, .box _, .ref _ _ _, _, h => by simp [alikeB] at h
  | _, .ref _ _ _, .leaf _ _, _, h => by simp [alikeB] at h
  | _, .ref _ _ _, .box _, _, h => by simp [alikeB] at h
theorem asksL_step : ∀ (a b c : Ch) (m : Bool), alikeB a b = true → alikeB b c = true → ∀ p ∈ asksL m a c, ∃ s, ((p.1, s) ∈ asksL m a b ∧ (s, p.2) ∈ asksL m b c) ∨ ((p.1, s) ∈ asksL m b c ∧ (s, p.2) ∈ asksL m a b)
  | .box a, .box b, .box c, m, h, k, p, hp => asksL_step a b c m h k p hp
  | .ref ma ra a, .ref mb rb b, .ref mc rc c, m, h, k, p, hp => by
    simp only [alikeB, Bool.and_eq_true, decide_eq_true_eq] at h k
    obtain ⟨rfl, h⟩ := h
    obtain ⟨rfl, k⟩ := k
    simp only [asksL, List.mem_cons, List.mem_append] at hp ⊢
    rcases hp with rfl | hp | hp
    · exact ⟨rb, .inl ⟨.inl rfl, .inl rfl⟩⟩
    · split at hp
      · simp at hp
        subst hp
        exact ⟨rb, .inr ⟨.inr (.inl (by simp; assumption)), .inr (.inl (by simp; assumption))⟩⟩
      · simp at hp
    · obtain ⟨s, hs⟩ := asksL_step a b c (m || ma) h k p hp
      rcases hs with ⟨h1, h2⟩ | ⟨h1, h2⟩
      · exact ⟨s, .inl ⟨.inr (.inr h1), .inr (.inr h2)⟩⟩
      · exact ⟨s, .inr ⟨.inr (.inr h1), .inr (.inr h2)⟩⟩
  | .leaf _ _, _, .leaf _ _, m, _, _, p, hp => by simp [asksL] at hp
  | .leaf _ _, _, .box _, m, _, _, p, hp => by simp [asksL] at hp
  | .leaf _ _, _, .ref _ _ _, m, _, _, p, hp => by simp [asksL] at hp
  | .box _, _, .leaf _ _, m, _, _, p, hp => by simp [asksL] at hp
  | .box _, _, .ref _ _ _, m, _, _, p, hp => by simp [asksL] at hp
  | .ref _ _ _, _, .leaf _ _, m, _, _, p, hp => by simp [asksL] at hp
  | .ref _ _ _, _, .box _, m, _, _, p, hp => by simp [asksL] at hp
  | .box _, .leaf _ _, .box _, m, h, _, p, hp => by simp [alikeB] at h
  | .box _, .ref _ _ _, .box _, m, h, _, p, hp => by simp [alikeB] at h
  | .ref _ _ _, .leaf _ _, .ref _ _ _, m, h, _, p, hp => by simp [alikeB] at h
  | .ref _ _ _, .box _, .ref _ _ _, m, h, _, p, hp => by simp [alikeB] at h
theorem len_sub {α : Type} [DecidableEq α] : ∀ (l S : List α), l.Nodup → (∀ x ∈ l, x ∈ S) → l.length ≤ S.length
  | [], _, _, _ => Nat.zero_le _
  | x :: l, S, hn, hs => by
    obtain ⟨h1, h2⟩ := List.nodup_cons.1 hn
    have hx : x ∈ S := hs x (List.mem_cons_self)
    have := len_sub l (S.erase x) h2 (fun y hy => (List.mem_erase_of_ne (by rintro rfl; exact h1 hy)).2 (hs y (List.mem_cons_of_mem _ hy)))
    rw [List.length_erase_of_mem hx] at this
    have : 0 < S.length := List.length_pos_of_mem hx
    simp
    omega
/-- The closure under way: what is out so far, closed below place i, and at i below k. -/
def RI (l out : List (Int × Int)) (i k : Nat) : Prop := ∃ ex, out = l ++ ex ∧ ex.Nodup ∧ (∀ x ∈ ex, x.1 ∈ l.map Prod.fst ∧ x.2 ∈ l.map Prod.snd) ∧
  ∀ i' k' x y, out[i']? = some x → l[k']? = some y → (i' < i ∨ i' = i ∧ k' < k) → y.1 = x.2 → (x.1, y.2) ∈ out
theorem RI.start (l : List (Int × Int)) : RI l l 0 0 := ⟨[], by simp, List.nodup_nil, by simp, fun i' k' x y _ _ h => by omega⟩
theorem RI.len {l out : List (Int × Int)} {i k : Nat} (h : RI l out i k) : out.length ≤ l.length + l.length * l.length := by
  obtain ⟨ex, rfl, hn, hs, _⟩ := h
  have := len_sub ex ((l.map Prod.fst).flatMap fun a => (l.map Prod.snd).map fun b => (a, b)) hn (fun x hx => by
    obtain ⟨h1, h2⟩ := hs x hx
    exact List.mem_flatMap.2 ⟨x.1, h1, List.mem_map.2 ⟨x.2, h2, rfl⟩⟩)
  have e : ∀ (A B : List Int), (A.flatMap fun a => B.map fun b => (a, b)).length = A.length * B.length := by
    intro A B
    induction A with
    | nil => simp
    | cons a A ih => simp only [List.flatMap_cons, List.length_append, List.length_map, ih, List.length_cons, Nat.succ_mul]; omega
  rw [e] at this
  simp at this ⊢
  omega
theorem RI.skip {l out : List (Int × Int)} {i k : Nat} (h : RI l out i k) {x y : Int × Int} (hx : out[i]? = some x) (hy : l[k]? = some y) (hxy : y.1 = x.2 → (x.1, y.2) ∈ out) : RI l out i (k + 1) := by
  obtain ⟨ex, rfl, hn, hs, hc⟩ := h
  refine ⟨ex, rfl, hn, hs, fun i' k' x' y' h1 h2 h3 h4 => ?_⟩
  by_cases he : i' = i ∧ k' = k
  · obtain ⟨rfl, rfl⟩ := he
    rw [hx] at h1
    rw [hy] at h2
    cases h1
    cases h2
    exact hxy h4
  · exact hc i' k' x' y' h1 h2 (by omega) h4
theorem RI.add {l out : List (Int × Int)} {i k : Nat} (h : RI l out i k) {x y : Int × Int} (hx : out[i]? = some x) (hy : l[k]? = some y) (hxy : (x.1, y.2) ∉ out) : RI l (out ++ [(x.1, y.2)]) i (k + 1) := by
  obtain ⟨ex, rfl, hn, hs, hc⟩ := h
  have hi : i < (l ++ ex).length := (List.getElem?_eq_some_iff.1 hx).1
  have hm := List.mem_of_getElem? hx
  refine ⟨ex ++ [(x.1, y.2)], by simp, ?_, ?_, fun i' k' x' y' h1 h2 h3 h4 => ?_⟩
  · rw [List.nodup_append]
    refine ⟨hn, by simp, fun a ha b hb => ?_⟩
    simp at hb
    subst hb
    rintro rfl
    exact hxy (List.mem_append_right _ ha)
  · intro z hz
    rcases List.mem_append.1 hz with hz | hz
    · exact hs z hz
    · simp at hz
      subst hz
      refine ⟨?_, List.mem_map.2 ⟨y, List.mem_of_getElem? hy, rfl⟩⟩
      rcases List.mem_append.1 hm with hm | hm
      · exact List.mem_map.2 ⟨x, hm, rfl⟩
      · exact (hs x hm).1
  · have hi' : i' < (l ++ ex).length := by omega
    rw [List.getElem?_append_left hi'] at h1
    by_cases he : i' = i ∧ k' = k
    · obtain ⟨rfl, rfl⟩ := he
      rw [hx] at h1
      rw [hy] at h2
      cases h1
      cases h2
      simp
    · exact List.mem_append_left _ (hc i' k' x' y' h1 h2 (by omega) h4)
theorem RI.row {l out : List (Int × Int)} {i : Nat} (h : RI l out i l.length) : RI l out (i + 1) 0 := by
  obtain ⟨ex, rfl, hn, hs, hc⟩ := h
  refine ⟨ex, rfl, hn, hs, fun i' k' x' y' h1 h2 h3 h4 => hc i' k' x' y' h1 h2 ?_ h4⟩
  have := (List.getElem?_eq_some_iff.1 h2).1
  omega
theorem RI.has {a b c : Ch} {out : List (Int × Int)} (h : RI (asksL false a b ++ asksL false b c) out out.length 0) (h1 : alikeB a b = true) (h2 : alikeB b c = true) : ∀ p ∈ asksL false a c, p ∈ out := by
  obtain ⟨ex, rfl, hn, hs, hc⟩ := h
  have close : ∀ x y, x ∈ asksL false a b ++ asksL false b c → y ∈ asksL false a b ++ asksL false b c → y.1 = x.2 → (x.1, y.2) ∈ (asksL false a b ++ asksL false b c) ++ ex := fun x y hx hy e => by
    obtain ⟨i, hi⟩ := List.mem_iff_getElem?.1 hx
    obtain ⟨k, hk⟩ := List.mem_iff_getElem?.1 hy
    have hl : i < (asksL false a b ++ asksL false b c).length := (List.getElem?_eq_some_iff.1 hi).1
    exact hc i k x y (by rw [List.getElem?_append_left hl]; exact hi) hk (.inl (by rw [List.length_append]; omega)) e
  intro p hp
  obtain ⟨s, ⟨q1, q2⟩ | ⟨q1, q2⟩⟩ := asksL_step a b c false h1 h2 p hp
  · exact close (p.1, s) (s, p.2) (List.mem_append_left _ q1) (List.mem_append_right _ q2) rfl
  · exact close (p.1, s) (s, p.2) (List.mem_append_right _ q1) (List.mem_append_left _ q2) rfl
end Go.Proofs.YtjchbclkdbojpaaDoor
