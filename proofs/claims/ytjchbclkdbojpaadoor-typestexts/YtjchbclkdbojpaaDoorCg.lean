import Derived.Test.YtjchbclkdbojpaaDoorY
namespace Go.Proofs.YtjchbclkdbojpaaDoor
open Go.RowKit Go.Shelf
set_option linter.unusedVariables false
set_option linter.unusedSimpArgs false

set_option maxRecDepth 100000 in
set_option maxHeartbeats 1000000 in
theorem rt_leaf (k : Nat) (s : Int) (a : Option Addr) (cap : Nat) (w : World) (hk : k = 1 ∨ k = 2) : Calls Tryd.prog 77 #[tyV k false 0 s a 0 cap] w fun e w' => e = .returned (.string (str (txt (.leaf k s)))) ∧ Below w.heap.size w w' := by
  rcases hk with rfl | rfl
  · show Calls Tryd.prog 77 #[tyV 1 false 0 s a 0 cap] w fun e w' => e = .returned (.string (⟨#[105, 54, 52]⟩ : ByteArray)) ∧ Below w.heap.size w w'
    go_enter Tryd.func77, Tryd.ntmps77
    go_wp2_with fail
    go_ret
    exact ⟨rfl, belA (Below.refl _ _)⟩
  · show Calls Tryd.prog 77 #[tyV 2 false 0 s a 0 cap] w fun e w' => e = .returned (.string (⟨#[98, 111, 111, 108]⟩ : ByteArray)) ∧ Below w.heap.size w w'
    go_enter Tryd.func77, Tryd.ntmps77
    go_wp2_with fail
    go_ret
    exact ⟨rfl, belA (Below.refl _ _)⟩
set_option maxRecDepth 100000 in
set_option maxHeartbeats 1000000 in
theorem rt_num (s : Int) (a : Option Addr) (cap : Nat) (w : World) (h0 : -9223372036854775808 ≤ s) (h1 : s ≤ 9223372036854775807) (hI : ItC w s) : Calls Tryd.prog 77 #[tyV 5 false 0 s a 0 cap] w fun e w' => e = .returned (.string (str (txt (.leaf 5 s)))) ∧ Below w.heap.size w w' := by
  have CI : Hid (∀ W, Below w.heap.size w W → Calls Tryd.prog 87 #[.int .i64 s] W fun e w' => e = .returned (.string (str (Lib.itoa s))) ∧ Below W.heap.size W w') := hI
  have hres : str (txt (.leaf 5 s)) = (⟨#[35]⟩ : ByteArray) ++ str (Lib.itoa s) := by
    rw [show txt (.leaf 5 s) = [35] ++ Lib.itoa s from rfl, ← str_app]
    rfl
  rw [hres]
  obtain ⟨t, ht⟩ : ∃ t, t = str (Lib.itoa s) := ⟨_, rfl⟩
  rw [← ht] at CI ⊢
  obtain ⟨z, hz⟩ : ∃ z, t.size = z := ⟨_, rfl⟩
  have z20 : z ≤ 21 := by rw [← hz, ht]; exact Lib.itoa_length_le s (by omega) h1
  have n1 : ¬ 9223372036854775807 < 1 + z := by omega
  clear ht z20 hres hI
  go_enter Tryd.func77, Tryd.ntmps77
  go_wp2_with (go_at_call 87; refine (CI.out _ (belA (Below.refl _ _))).mono ?_; rintro e w1 ⟨rfl, hb1⟩)
  go_ret
  exact ⟨rfl, below1 hb1⟩
set_option maxRecDepth 100000 in
set_option maxHeartbeats 1000000 in
theorem rt_box (g off cap : Nat) (f : Fv) (c : Ch) (w : World) (hc : C5 w g off f) (hl : (txt c).length ≤ 2000) (IH0 : ∀ W, Below w.heap.size w W → Calls Tryd.prog 77 #[f.v] W fun e w' => e = .returned (.string (str (txt c))) ∧ Below W.heap.size W w') : Calls Tryd.prog 77 #[tyV 3 false 0 0 (some ⟨g, off, none⟩) 1 cap] w fun e w' => e = .returned (.string (str (txt (.box c)))) ∧ Below w.heap.size w w' := by
  have IH : Hid (∀ W, Below w.heap.size w W → Calls Tryd.prog 77 #[f.v] W fun e w' => e = .returned (.string (str (txt c))) ∧ Below W.heap.size W w') := IH0
  have hres : str (txt (.box c)) = (⟨#[66, 111, 120, 60]⟩ : ByteArray) ++ str (txt c) ++ (⟨#[62]⟩ : ByteArray) := by
    rw [show txt (.box c) = [66, 111, 120, 60] ++ txt c ++ [62] from rfl, ← str_app, ← str_app]
    rfl
  rw [hres]
  obtain ⟨t, ht⟩ : ∃ t, t = str (txt c) := ⟨_, rfl⟩
  rw [← ht] at IH ⊢
  obtain ⟨z, hz⟩ : ∃ z, t.size = z := ⟨_, rfl⟩
  have z20 : z ≤ 2000 := by rw [← hz, ht]; exact hl
  have n1 : ¬ 9223372036854775807 < 4 + z := by omega
  have n2 : ¬ 9223372036854775807 < 4 + z + 1 := by omega
  obtain ⟨hg, p0, p1, p2, p3, p4⟩ := hc
  clear ht z20 hres IH0 hl
  go_enter Tryd.func77, Tryd.ntmps77
  go_wp2_with (go_at_call 77; refine (IH.out _ (belA (Below.refl _ _))).mono ?_; rintro e w1 ⟨rfl, hb1⟩)
  go_ret
  exact ⟨rfl, below1 hb1⟩
set_option maxRecDepth 100000 in
set_option maxHeartbeats 4000000 in
theorem rt_r_true (r : Int) (g off cap : Nat) (f : Fv) (c : Ch) (w : World) (hc : C5 w g off f) (hl : (txt c).length ≤ 2000) (hr : 0 ≤ r) (hr1 : r ≤ 9223372036854775807) (hI : ItC w r) (IH0 : ∀ W, Below w.heap.size w W → Calls Tryd.prog 77 #[f.v] W fun e w' => e = .returned (.string (str (txt c))) ∧ Below W.heap.size W w') : Calls Tryd.prog 77 #[tyV 4 true r 0 (some ⟨g, off, none⟩) 1 cap] w fun e w' => e = .returned (.string (str (txt (.ref true r c)))) ∧ Below w.heap.size w w' := by
  have IH : Hid (∀ W, Below w.heap.size w W → Calls Tryd.prog 77 #[f.v] W fun e w' => e = .returned (.string (str (txt c))) ∧ Below W.heap.size W w') := IH0
  have A1 : At (w.alloc (tyO 4 true r 0 (some ⟨g, off, none⟩) 1 cap)) w.heap.size (Fv.o ⟨4, true, r, 0, some ⟨g, off, none⟩, 1, cap⟩) := At.new _ _
  have HC : Hid (C5 w g off f) := hc
  have CI : Hid (∀ W, Below w.heap.size w W → Calls Tryd.prog 87 #[.int .i64 r] W fun e w' => e = .returned (.string (str (Lib.itoa r))) ∧ Below W.heap.size W w') := hI
  have hitl := Lib.itoa_length_le r (by omega) hr1
  have hres : str (txt (.ref true r c)) = ((⟨#[38]⟩ : ByteArray) ++ (⟨#[39]⟩ : ByteArray) ++ str (Lib.itoa r) ++ (⟨#[32]⟩ : ByteArray)) ++ (⟨#[109, 117, 116, 32]⟩ : ByteArray) ++ str (txt c) := by
    rw [show txt (.ref true r c) = hdT true r c.isRef ++ txt c from rfl, ← str_app]
    rw [show str (hdT true r c.isRef) = ((⟨#[38]⟩ : ByteArray) ++ (⟨#[39]⟩ : ByteArray) ++ str (Lib.itoa r) ++ (⟨#[32]⟩ : ByteArray)) ++ (⟨#[109, 117, 116, 32]⟩ : ByteArray) by
      have e : hdT true r c.isRef = [38] ++ [39] ++ Lib.itoa r ++ [32] ++ [109, 117, 116, 32] := by
        unfold hdT
        rw [if_pos hr]
        have : ¬ r < 0 := by omega
        simp [this]
      rw [e, ← str_app, ← str_app, ← str_app, ← str_app]
      rfl]
  rw [hres]
  obtain ⟨u, hu⟩ : ∃ u, u = str (txt c) := ⟨_, rfl⟩
  rw [← hu] at IH ⊢
  obtain ⟨zu, hzu⟩ : ∃ zu, u.size = zu := ⟨_, rfl⟩
  have zu20 : zu ≤ 2000 := by rw [← hzu, hu]; exact hl
  obtain ⟨t, ht⟩ : ∃ t, t = str (Lib.itoa r) := ⟨_, rfl⟩
  rw [← ht] at CI ⊢
  obtain ⟨z, hz⟩ : ∃ z, t.size = z := ⟨_, rfl⟩
  have z20 : z ≤ 21 := by rw [← hz, ht]; exact hitl
  have nq : ¬ (((⟨#[38]⟩ : ByteArray) ++ (⟨#[39]⟩ : ByteArray) ++ t ++ (⟨#[32]⟩ : ByteArray)) ++ (⟨#[109, 117, 116, 32]⟩ : ByteArray)).toList = [38] := by
    intro e
    rw [ByteArray.toList_eq] at e
    have := congrArg List.length e
    simp at this
  have n12643 : ¬ 9223372036854775807 < 1 + 1 := by omega
  have n48130 : ¬ 9223372036854775807 < 1 + 1 + z := by omega
  have n76808 : ¬ 9223372036854775807 < 1 + 1 + z + 1 := by omega
  have n57114 : ¬ 9223372036854775807 < 1 + 1 + z + 1 + 4 := by omega
  have n2124 : ¬ 9223372036854775807 < 1 + 1 + z + 1 + zu := by omega
  have n96087 : ¬ 9223372036854775807 < 1 + 1 + z + 1 + 4 + zu := by omega
  have n19437 : ¬ 9223372036854775807 < 2 + z := by omega
  have n23980 : ¬ 9223372036854775807 < 2 + z + 1 := by omega
  have n28687 : ¬ 9223372036854775807 < 2 + z + 1 + 4 := by omega
  have n22767 : ¬ 9223372036854775807 < 2 + z + 1 + zu := by omega
  have n61864 : ¬ 9223372036854775807 < 2 + z + 1 + 4 + zu := by omega
  clear hres hu IH0 hl ht hI hitl hc
  go_enter Tryd.func77, Tryd.ntmps77
  go_wp2_with (first
    | (go_at_call 87; refine (CI.out _ (belA (Below.refl _ _))).mono ?_; rintro e w1 ⟨rfl, hb1⟩; obtain ⟨-, p0, p1, p2, p3, p4⟩ := (A1.below hb1).ty; obtain ⟨-, q0, q1, q2, q3, q4⟩ := HC.out.below (below1 hb1))
    | (go_at_call 77; refine (IH.out _ (below1 hb1)).mono ?_; rintro e w2 ⟨rfl, hb2⟩))
  go_ret
  exact ⟨rfl, below_aft (below1 hb1) hb2⟩
set_option maxRecDepth 100000 in
set_option maxHeartbeats 4000000 in
theorem rt_r_false (r : Int) (g off cap : Nat) (f : Fv) (c : Ch) (w : World) (hc : C5 w g off f) (hl : (txt c).length ≤ 2000) (hr : 0 ≤ r) (hr1 : r ≤ 9223372036854775807) (hI : ItC w r) (IH0 : ∀ W, Below w.heap.size w W → Calls Tryd.prog 77 #[f.v] W fun e w' => e = .returned (.string (str (txt c))) ∧ Below W.heap.size W w') : Calls Tryd.prog 77 #[tyV 4 false r 0 (some ⟨g, off, none⟩) 1 cap] w fun e w' => e = .returned (.string (str (txt (.ref false r c)))) ∧ Below w.heap.size w w' := by
  have IH : Hid (∀ W, Below w.heap.size w W → Calls Tryd.prog 77 #[f.v] W fun e w' => e = .returned (.string (str (txt c))) ∧ Below W.heap.size W w') := IH0
  have A1 : At (w.alloc (tyO 4 false r 0 (some ⟨g, off, none⟩) 1 cap)) w.heap.size (Fv.o ⟨4, false, r, 0, some ⟨g, off, none⟩, 1, cap⟩) := At.new _ _
  have HC : Hid (C5 w g off f) := hc
  have CI : Hid (∀ W, Below w.heap.size w W → Calls Tryd.prog 87 #[.int .i64 r] W fun e w' => e = .returned (.string (str (Lib.itoa r))) ∧ Below W.heap.size W w') := hI
  have hitl := Lib.itoa_length_le r (by omega) hr1
  have hres : str (txt (.ref false r c)) = ((⟨#[38]⟩ : ByteArray) ++ (⟨#[39]⟩ : ByteArray) ++ str (Lib.itoa r) ++ (⟨#[32]⟩ : ByteArray)) ++ str (txt c) := by
    rw [show txt (.ref false r c) = hdT false r c.isRef ++ txt c from rfl, ← str_app]
    rw [show str (hdT false r c.isRef) = ((⟨#[38]⟩ : ByteArray) ++ (⟨#[39]⟩ : ByteArray) ++ str (Lib.itoa r) ++ (⟨#[32]⟩ : ByteArray)) by
      have e : hdT false r c.isRef = [38] ++ [39] ++ Lib.itoa r ++ [32] := by
        unfold hdT
        rw [if_pos hr]
        have : ¬ r < 0 := by omega
        simp [this]
      rw [e, ← str_app, ← str_app, ← str_app]
      rfl]
  rw [hres]
  obtain ⟨u, hu⟩ : ∃ u, u = str (txt c) := ⟨_, rfl⟩
  rw [← hu] at IH ⊢
  obtain ⟨zu, hzu⟩ : ∃ zu, u.size = zu := ⟨_, rfl⟩
  have zu20 : zu ≤ 2000 := by rw [← hzu, hu]; exact hl
  obtain ⟨t, ht⟩ : ∃ t, t = str (Lib.itoa r) := ⟨_, rfl⟩
  rw [← ht] at CI ⊢
  obtain ⟨z, hz⟩ : ∃ z, t.size = z := ⟨_, rfl⟩
  have z20 : z ≤ 21 := by rw [← hz, ht]; exact hitl
  have nq : ¬ (((⟨#[38]⟩ : ByteArray) ++ (⟨#[39]⟩ : ByteArray) ++ t ++ (⟨#[32]⟩ : ByteArray))).toList = [38] := by
    intro e
    rw [ByteArray.toList_eq] at e
    have := congrArg List.length e
    simp at this
  have n12643 : ¬ 9223372036854775807 < 1 + 1 := by omega
  have n48130 : ¬ 9223372036854775807 < 1 + 1 + z := by omega
  have n76808 : ¬ 9223372036854775807 < 1 + 1 + z + 1 := by omega
  have n57114 : ¬ 9223372036854775807 < 1 + 1 + z + 1 + 4 := by omega
  have n2124 : ¬ 9223372036854775807 < 1 + 1 + z + 1 + zu := by omega
  have n96087 : ¬ 9223372036854775807 < 1 + 1 + z + 1 + 4 + zu := by omega
  have n19437 : ¬ 9223372036854775807 < 2 + z := by omega
  have n23980 : ¬ 9223372036854775807 < 2 + z + 1 := by omega
  have n28687 : ¬ 9223372036854775807 < 2 + z + 1 + 4 := by omega
  have n22767 : ¬ 9223372036854775807 < 2 + z + 1 + zu := by omega
  have n61864 : ¬ 9223372036854775807 < 2 + z + 1 + 4 + zu := by omega
  clear hres hu IH0 hl ht hI hitl hc
  go_enter Tryd.func77, Tryd.ntmps77
  go_wp2_with (first
    | (go_at_call 87; refine (CI.out _ (belA (Below.refl _ _))).mono ?_; rintro e w1 ⟨rfl, hb1⟩; obtain ⟨-, p0, p1, p2, p3, p4⟩ := (A1.below hb1).ty; obtain ⟨-, q0, q1, q2, q3, q4⟩ := HC.out.below (below1 hb1))
    | (go_at_call 77; refine (IH.out _ (below1 hb1)).mono ?_; rintro e w2 ⟨rfl, hb2⟩))
  go_ret
  exact ⟨rfl, below_aft (below1 hb1) hb2⟩
theorem txt_ne : ∀ c : Ch, txt c ≠ []
  | .leaf k s => by unfold txt; split; simp; split <;> simp
  | .box c => by simp [txt]
  | .ref m r c => by simp [txt, hdT]
theorem txt_head_yes : ∀ c : Ch, c.isRef = true → ∀ y : UInt8, (txt c)[0]? = some y → y.toNat = 38
  | .ref m r c, _, y, h => by simp [txt, hdT] at h; subst h; rfl
  | .leaf _ _, h, _, _ => by cases h
  | .box _, h, _, _ => by cases h
theorem txt_head_no : ∀ c : Ch, c.isRef = false → ∀ y : UInt8, (txt c)[0]? = some y → ¬ y.toNat = 38
  | .leaf k s, _, y, h => by
    unfold txt at h
    split at h
    · simp at h; subst h; decide
    split at h
    · simp at h; subst h; decide
    · simp at h; subst h; decide
  | .box c, _, y, h => by simp [txt] at h; subst h; decide
  | .ref _ _ _, h, _, _ => by cases h
theorem app_mut : (⟨#[38]⟩ : ByteArray) ++ (⟨#[109, 117, 116, 32]⟩ : ByteArray) = (⟨#[38, 109, 117, 116, 32]⟩ : ByteArray) := str_app [38] [109, 117, 116, 32]
set_option maxRecDepth 100000 in
set_option maxHeartbeats 4000000 in
theorem rt_n_true (r : Int) (g off cap : Nat) (f : Fv) (c : Ch) (w : World) (hc : C5 w g off f) (hl : (txt c).length ≤ 2000) (hr : ¬ 0 ≤ r) (IH0 : ∀ W, Below w.heap.size w W → Calls Tryd.prog 77 #[f.v] W fun e w' => e = .returned (.string (str (txt c))) ∧ Below W.heap.size W w') : Calls Tryd.prog 77 #[tyV 4 true r 0 (some ⟨g, off, none⟩) 1 cap] w fun e w' => e = .returned (.string (str (txt (.ref true r c)))) ∧ Below w.heap.size w w' := by
  have IH : Hid (∀ W, Below w.heap.size w W → Calls Tryd.prog 77 #[f.v] W fun e w' => e = .returned (.string (str (txt c))) ∧ Below W.heap.size W w') := IH0
  have A1 : At (w.alloc (tyO 4 true r 0 (some ⟨g, off, none⟩) 1 cap)) w.heap.size (Fv.o ⟨4, true, r, 0, some ⟨g, off, none⟩, 1, cap⟩) := At.new _ _
  have HC : Hid (C5 w g off f) := hc
  have hres : str (txt (.ref true r c)) = ((⟨#[38]⟩ : ByteArray) ++ (⟨#[109, 117, 116, 32]⟩ : ByteArray)) ++ str (txt c) := by
    rw [show txt (.ref true r c) = hdT true r c.isRef ++ txt c from rfl, ← str_app]
    rw [show str (hdT true r c.isRef) = ((⟨#[38]⟩ : ByteArray) ++ (⟨#[109, 117, 116, 32]⟩ : ByteArray)) by
      have e : hdT true r c.isRef = [38, 109, 117, 116, 32] := by
        unfold hdT
        rw [if_neg hr]
        have : r < 0 := by omega
        simp [this]
      rw [e, app_mut]
      rfl]
  rw [hres]
  obtain ⟨u, hu⟩ : ∃ u, u = str (txt c) := ⟨_, rfl⟩
  rw [← hu] at IH ⊢
  obtain ⟨zu, hzu⟩ : ∃ zu, u.size = zu := ⟨_, rfl⟩
  have zu20 : zu ≤ 2000 := by rw [← hzu, hu]; exact hl
  have nq : ¬ ((⟨#[38]⟩ : ByteArray) ++ (⟨#[109, 117, 116, 32]⟩ : ByteArray)).toList = [38] := by
    rw [app_mut, show (⟨#[38, 109, 117, 116, 32]⟩ : ByteArray) = str [38, 109, 117, 116, 32] from rfl, str_toList]
    decide
  have n30723 : ¬ 9223372036854775807 < 1 + 4 := by omega
  have n96061 : ¬ 9223372036854775807 < 1 + 4 + zu := by omega
  have n43994 : ¬ 9223372036854775807 < 5 + zu := by omega
  clear hres hu IH0 hl hc
  go_enter Tryd.func77, Tryd.ntmps77
  obtain ⟨hg, q0, q1, q2, q3, q4⟩ := HC.out
  go_wp2_with (go_at_call 77; refine (IH.out _ (belA (Below.refl _ _))).mono ?_; rintro e w1 ⟨rfl, hb1⟩)
  go_ret
  exact ⟨rfl, below1 hb1⟩
set_option maxRecDepth 100000 in
set_option maxHeartbeats 4000000 in
theorem rt_n_ref (r : Int) (g off cap : Nat) (f : Fv) (c : Ch) (w : World) (hc : C5 w g off f) (hl : (txt c).length ≤ 2000) (hr : ¬ 0 ≤ r) (hcr : c.isRef = true) (IH0 : ∀ W, Below w.heap.size w W → Calls Tryd.prog 77 #[f.v] W fun e w' => e = .returned (.string (str (txt c))) ∧ Below W.heap.size W w') : Calls Tryd.prog 77 #[tyV 4 false r 0 (some ⟨g, off, none⟩) 1 cap] w fun e w' => e = .returned (.string (str (txt (.ref false r c)))) ∧ Below w.heap.size w w' := by
  have IH : Hid (∀ W, Below w.heap.size w W → Calls Tryd.prog 77 #[f.v] W fun e w' => e = .returned (.string (str (txt c))) ∧ Below W.heap.size W w') := IH0
  have A1 : At (w.alloc (tyO 4 false r 0 (some ⟨g, off, none⟩) 1 cap)) w.heap.size (Fv.o ⟨4, false, r, 0, some ⟨g, off, none⟩, 1, cap⟩) := At.new _ _
  have HC : Hid (C5 w g off f) := hc
  have hres : str (txt (.ref false r c)) = (⟨#[38, 32]⟩ : ByteArray) ++ str (txt c) := by
    rw [show txt (.ref false r c) = hdT false r c.isRef ++ txt c from rfl, ← str_app]
    rw [show str (hdT false r c.isRef) = (⟨#[38, 32]⟩ : ByteArray) by
      have e : hdT false r c.isRef = [38, 32] := by
        unfold hdT
        rw [if_neg hr]
        have : r < 0 := by omega
        simp [this, hcr]
      rw [e]
      rfl]
  rw [hres]
  obtain ⟨u, hu⟩ : ∃ u, u = str (txt c) := ⟨_, rfl⟩
  obtain ⟨y, hy⟩ : ∃ y : UInt8, (txt c)[0]? = some y := by
    cases h9 : txt c with
    | nil => exact absurd h9 (txt_ne c)
    | cons y l => exact ⟨y, rfl⟩
  have hyv : y.toNat = 38 := txt_head_yes c hcr y hy
  have hul : 0 < u.size := by
    have h8 := (List.getElem?_eq_some_iff.1 hy).1
    rw [hu]
    exact h8
  have huy : u[0]'hul = y := by
    have h8 := (List.getElem?_eq_some_iff.1 hy).2
    subst hu
    exact h8
  have hyi : (y.toNat : Int) = 38 := by omega
  rw [← hu] at IH ⊢
  obtain ⟨zu, hzu⟩ : ∃ zu, u.size = zu := ⟨_, rfl⟩
  have zu20 : zu ≤ 2000 := by rw [← hzu, hu]; exact hl
  have zu1 : (0 : Int) < (zu : Int) := by have := hul; omega
  have zu2 : 0 < zu := by have := hul; omega
  have n65149 : ¬ 9223372036854775807 < 2 + zu := by omega
  clear hres hu IH0 hl hy hyv hc
  go_enter Tryd.func77, Tryd.ntmps77
  obtain ⟨hg, q0, q1, q2, q3, q4⟩ := HC.out
  go_wp2_with (go_at_call 77; refine (IH.out _ (belA (Below.refl _ _))).mono ?_; rintro e w1 ⟨rfl, hb1⟩)
  go_ret
  exact ⟨rfl, below1 hb1⟩
set_option maxRecDepth 100000 in
set_option maxHeartbeats 4000000 in
theorem rt_n_no (r : Int) (g off cap : Nat) (f : Fv) (c : Ch) (w : World) (hc : C5 w g off f) (hl : (txt c).length ≤ 2000) (hr : ¬ 0 ≤ r) (hcr : c.isRef = false) (IH0 : ∀ W, Below w.heap.size w W → Calls Tryd.prog 77 #[f.v] W fun e w' => e = .returned (.string (str (txt c))) ∧ Below W.heap.size W w') : Calls Tryd.prog 77 #[tyV 4 false r 0 (some ⟨g, off, none⟩) 1 cap] w fun e w' => e = .returned (.string (str (txt (.ref false r c)))) ∧ Below w.heap.size w w' := by
  have IH : Hid (∀ W, Below w.heap.size w W → Calls Tryd.prog 77 #[f.v] W fun e w' => e = .returned (.string (str (txt c))) ∧ Below W.heap.size W w') := IH0
  have A1 : At (w.alloc (tyO 4 false r 0 (some ⟨g, off, none⟩) 1 cap)) w.heap.size (Fv.o ⟨4, false, r, 0, some ⟨g, off, none⟩, 1, cap⟩) := At.new _ _
  have HC : Hid (C5 w g off f) := hc
  have hres : str (txt (.ref false r c)) = (⟨#[38]⟩ : ByteArray) ++ str (txt c) := by
    rw [show txt (.ref false r c) = hdT false r c.isRef ++ txt c from rfl, ← str_app]
    rw [show str (hdT false r c.isRef) = (⟨#[38]⟩ : ByteArray) by
      have e : hdT false r c.isRef = [38] := by
        unfold hdT
        rw [if_neg hr]
        have : r < 0 := by omega
        simp [this, hcr]
      rw [e]
      rfl]
  rw [hres]
  obtain ⟨u, hu⟩ : ∃ u, u = str (txt c) := ⟨_, rfl⟩
  obtain ⟨y, hy⟩ : ∃ y : UInt8, (txt c)[0]? = some y := by
    cases h9 : txt c with
    | nil => exact absurd h9 (txt_ne c)
    | cons y l => exact ⟨y, rfl⟩
  have hyv : ¬ y.toNat = 38 := txt_head_no c hcr y hy
  have hul : 0 < u.size := by
    have h8 := (List.getElem?_eq_some_iff.1 hy).1
    rw [hu]
    exact h8
  have huy : u[0]'hul = y := by
    have h8 := (List.getElem?_eq_some_iff.1 hy).2
    subst hu
    exact h8
  have hyi : ((y.toNat : Int) == 38) = false := by simpa using (by omega : ¬ (y.toNat : Int) = 38)
  rw [← hu] at IH ⊢
  obtain ⟨zu, hzu⟩ : ∃ zu, u.size = zu := ⟨_, rfl⟩
  have zu20 : zu ≤ 2000 := by rw [← hzu, hu]; exact hl
  have zu1 : (0 : Int) < (zu : Int) := by have := hul; omega
  have zu2 : 0 < zu := by have := hul; omega
  have n84872 : ¬ 9223372036854775807 < 1 + zu := by omega
  clear hres hu IH0 hl hy hyv hc
  go_enter Tryd.func77, Tryd.ntmps77
  obtain ⟨hg, q0, q1, q2, q3, q4⟩ := HC.out
  go_wp2_with (go_at_call 77; refine (IH.out _ (belA (Below.refl _ _))).mono ?_; rintro e w1 ⟨rfl, hb1⟩)
  go_ret
  exact ⟨rfl, below1 hb1⟩
theorem rtext_all (w0 : World) : ∀ (c : Ch), c.ok 32 → c.rg → (∀ n ∈ c.nums, ItC w0 n) → c.depth ≤ 48 → ∀ (f : Fv) (W : World), TyAt w0 f c.ty → Below w0.heap.size w0 W → Calls Tryd.prog 77 #[f.v] W fun e w' => e = .returned (.string (str (txt c))) ∧ Below W.heap.size W w' := by
  intro c
  induction c with
  | leaf k s =>
    intro hc hr hI hd f W h hW
    obtain ⟨a, cap, rfl, -⟩ := h.leaf
    have hk : (k = 1 ∨ k = 2) ∧ s = 0 ∨ k = 5 ∧ 0 ≤ s ∧ s < 32 := hc
    rcases hk with ⟨hk, -⟩ | ⟨rfl, -⟩
    · exact rt_leaf k s a cap W hk
    · exact rt_num s a cap W hr.2.1 hr.2.2 (fun V hV => hI s (by simp [Ch.nums]) V (below_aft hW hV))
  | box c ih =>
    intro hc hr hI hd f W h hW
    obtain ⟨g, off, cap, f', rfl, hx, ht⟩ := h.box
    have hd' : c.depth ≤ 48 := by simp [Ch.depth] at hd; omega
    exact rt_box g off cap f' c W (hx.below hW) (by have := txt_len c hr; omega) (fun V hV => ih hc hr hI hd' f' V ht (below_aft hW hV))
  | ref m r c ih =>
    intro hc hr hI hd f W h hW
    obtain ⟨g, off, cap, f', rfl, hx, ht, r0, r1⟩ := h.ref
    have hd' : c.depth ≤ 48 := by simp [Ch.depth] at hd; omega
    have hl : (txt c).length ≤ 2000 := by have := txt_len c hr.2; omega
    by_cases hp : 0 ≤ r
    · have hI' : ∀ n ∈ c.nums, ItC w0 n := fun n hn => hI n (by simp [Ch.nums, hp, hn])
      have hIr : ItC W r := fun V hV => hI r (by simp [Ch.nums, hp]) V (below_aft hW hV)
      have IH := fun V (hV : Below W.heap.size W V) => ih hc.2 hr.2 hI' hd' f' V ht (below_aft hW hV)
      cases m with
      | true => exact rt_r_true r g off cap f' c W (hx.below hW) hl hp r1 hIr IH
      | false => exact rt_r_false r g off cap f' c W (hx.below hW) hl hp r1 hIr IH
    · have hI' : ∀ n ∈ c.nums, ItC w0 n := fun n hn => hI n (by simp [Ch.nums, hp, hn])
      have IH := fun V (hV : Below W.heap.size W V) => ih hc.2 hr.2 hI' hd' f' V ht (below_aft hW hV)
      cases m with
      | true => exact rt_n_true r g off cap f' c W (hx.below hW) hl hp IH
      | false =>
        cases hcr : c.isRef with
        | true => exact rt_n_ref r g off cap f' c W (hx.below hW) hl hp hcr IH
        | false => exact rt_n_no r g off cap f' c W (hx.below hW) hl hp hcr IH
set_option maxRecDepth 100000 in
set_option maxHeartbeats 1000000 in
theorem rText_yes (c : Ch) (f : Fv) (w : World) (hc : Ok c) (hr : c.rg) (h : TyAt w f c.ty) (hI : ∀ n ∈ c.nums, ItC w n) :
    Calls Tryd.prog 41 #[f.v] w fun e w' => e = .returned (.tuple #[.string (str (txt c)), .int .i64 0]) ∧ Below w.heap.size w w' := by
  have CS : Hid (Calls Tryd.prog 27 #[f.v] (w.alloc f.o) fun e w' => e = .returned (.bool true) ∧ Below (w.alloc f.o).heap.size (w.alloc f.o) w') := by
    have := is_any c.ty f (w.alloc f.o) (h.bel (belA (Below.refl _ _)))
    rw [hc.is] at this
    exact this
  have CT : Hid (∀ W, Below w.heap.size w W → Calls Tryd.prog 77 #[f.v] W fun e w' => e = .returned (.string (str (txt c))) ∧ Below W.heap.size W w') := fun W hW => rtext_all w c hc.ok hr hI hc.deep f W h hW
  have A0 : At (w.alloc f.o) w.heap.size f.o := At.new _ _
  obtain ⟨t, ht⟩ : ∃ t, t = str (txt c) := ⟨_, rfl⟩
  rw [← ht] at CT ⊢
  obtain ⟨k, m, r, s, a, n, cap⟩ := f
  show Calls Tryd.prog 41 #[tyV k m r s a n cap] w _
  clear h hI ht
  go_enter Tryd.func41, Tryd.ntmps41
  go_wp2_with (first
    | (go_at_call 27; refine CS.out.mono ?_; rintro e w1 ⟨rfl, hb1⟩; obtain ⟨hl, p0, p1, p2, p3, p4⟩ := (A0.below hb1).ty)
    | (go_at_call 77; refine (CT.out w1 (below1 hb1)).mono ?_; rintro e w2 ⟨rfl, hb2⟩))
  go_ret2
  exact ⟨rfl, below_aft (below1 hb1) hb2⟩
set_option maxRecDepth 100000 in
theorem rText_no (t : Ty) (f : Fv) (w : World) (h : TyAt w f t) (hn : isT t = false) : Calls Tryd.prog 41 #[f.v] w fun e w' => e = .returned (.tuple #[.string (str []), .int .i64 2]) ∧ Below w.heap.size w w' := by
  have CS : Hid (Calls Tryd.prog 27 #[f.v] (w.alloc f.o) fun e w' => e = .returned (.bool false) ∧ Below (w.alloc f.o).heap.size (w.alloc f.o) w') := by
    have := is_any t f (w.alloc f.o) (h.bel (belA (Below.refl _ _)))
    rw [hn] at this
    exact this
  obtain ⟨k, m, r, s, a, n, cap⟩ := f
  show Calls Tryd.prog 41 #[tyV k m r s a n cap] w _
  clear h hn
  go_enter Tryd.func41, Tryd.ntmps41
  go_wp2_with (go_at_call 27; refine CS.out.mono ?_; rintro e w1 ⟨rfl, hb1⟩)
  go_ret2
  exact ⟨rfl, below1 hb1⟩
end Go.Proofs.YtjchbclkdbojpaaDoor
