import Derived.Test.YtjchbclkdbojpaaDoorZ
namespace Go.Proofs.YtjchbclkdbojpaaDoor
open Go.RowKit Go.Shelf
set_option linter.unusedVariables false
set_option linter.unusedSimpArgs false

abbrev fnV (n : Nat) : Value := .func (.func n) #[] #[]
set_option maxRecDepth 100000 in
set_option maxHeartbeats 2000000 in
theorem structs_nil (w : World) : Calls Tryd.prog 12 #[.slice none 0 0] w fun e w' => e = .returned (.tuple #[.int .i64 0, .int .i64 0]) ∧ Below w.heap.size w w' := by
  have A1 : At (w.alloc (.cells #[fnV 48, fnV 49, fnV 50] 86)) w.heap.size (.cells #[fnV 48, fnV 49, fnV 50] 86) := At.new _ _
  have HA : Hid (w.heap.size < (w.alloc (.cells #[fnV 48, fnV 49, fnV 50] 86)).heap.size) := A1.lt
  clear A1
  go_enter Tryd.func12, Tryd.ntmps12
  go_wp2_with fail
  go_loopw [12] (fun i W => ∃ k : Nat, k ≤ 3 ∧ i = .int .i64 k ∧ W = w.alloc (.cells #[fnV 48, fnV 49, fnV 50] 86)) (fun i _ => 3 - (intOf i).toNat)
  case atStart => exact ⟨0, by omega, rfl, rfl⟩
  case round =>
    obtain ⟨k, hk, rfl, hww⟩ := hrel
    subst hww
    have hk3 : k = 0 ∨ k = 1 ∨ k = 2 ∨ k = 3 := by omega
    rcases hk3 with rfl | rfl | rfl | rfl
    · go_wp2_with fail
      go_loopw [18] (fun i W => i = .int .i64 0 ∧ W = w.alloc (.cells #[fnV 48, fnV 49, fnV 50] 86)) (fun i _ => 0)
      case atStart => exact ⟨rfl, rfl⟩
      case round =>
        obtain ⟨rfl, hww⟩ := hrel
        subst hww
        go_wp2_with fail
        exact ⟨⟨1, by omega, by go_num, by first | rfl | trivial⟩, by simp [intOf]⟩
    · go_wp2_with fail
      go_loopw [18] (fun i W => i = .int .i64 0 ∧ W = w.alloc (.cells #[fnV 48, fnV 49, fnV 50] 86)) (fun i _ => 0)
      case atStart => exact ⟨rfl, rfl⟩
      case round =>
        obtain ⟨rfl, hww⟩ := hrel
        subst hww
        go_wp2_with fail
        exact ⟨⟨2, by omega, by go_num, by first | rfl | trivial⟩, by simp [intOf]⟩
    · go_wp2_with fail
      go_loopw [18] (fun i W => i = .int .i64 0 ∧ W = w.alloc (.cells #[fnV 48, fnV 49, fnV 50] 86)) (fun i _ => 0)
      case atStart => exact ⟨rfl, rfl⟩
      case round =>
        obtain ⟨rfl, hww⟩ := hrel
        subst hww
        go_wp2_with fail
        exact ⟨⟨3, by omega, by go_num, by first | rfl | trivial⟩, by simp [intOf]⟩
    · go_wp2_with fail
      go_ret2
      exact ⟨rfl, belA (Below.refl _ _)⟩
set_option maxRecDepth 100000 in
theorem may_nil (t : Ty) (f : Fv) (w : World) (h : TyAt w f t) : Calls Tryd.prog 14 #[.slice none 0 0, f.v] w fun e w' => e = .returned (.bool (mayB 0 48 t)) ∧ Below w.heap.size w w' := by
  have CS : Hid (∀ W, Calls Tryd.prog 12 #[.slice none 0 0] W fun e w' => e = .returned (.tuple #[.int .i64 0, .int .i64 0]) ∧ Below W.heap.size W w') := structs_nil
  have CM : Hid (∀ W, Below w.heap.size w W → Calls Tryd.prog 55 #[.int .i64 0, f.v] W fun e w' => e = .returned (.bool (mayB 0 48 t)) ∧ Below W.heap.size W w') := fun W hW => mayAmong_any 0 t f W (h.bel hW)
  obtain ⟨rr, hrr⟩ : ∃ rr, rr = mayB 0 48 t := ⟨_, rfl⟩
  rw [← hrr] at CM ⊢
  have A0 : At (w.alloc f.o) w.heap.size f.o := At.new _ _
  obtain ⟨k, m, r, s, a, n, cap⟩ := f
  show Calls Tryd.prog 14 #[.slice none 0 0, tyV k m r s a n cap] w _
  clear h hrr
  go_enter Tryd.func14, Tryd.ntmps14
  go_wp2_with (first
    | (go_at_call 12; refine (CS.out _).mono ?_; rintro e w1 ⟨rfl, hb1⟩; obtain ⟨hl, p0, p1, p2, p3, p4⟩ := (A0.below hb1).ty)
    | (go_at_call 55; refine (CM.out w1 (below1 hb1)).mono ?_; rintro e w2 ⟨rfl, hb2⟩))
  go_ret
  exact ⟨rfl, below_aft (below1 hb1) hb2⟩
set_option maxRecDepth 100000 in
theorem words_one (f : Fv) (w : World) (hk : ¬ f.k = 5) (sv kv : Value) : Calls Tryd.prog 57 #[sv, f.v, kv] w fun e w' => e = .returned (.int .i64 1) ∧ Below w.heap.size w w' := by
  obtain ⟨k, m, r, s, a, n, cap⟩ := f
  have k5 : ¬ (k : Int) = 5 := by simp only at hk; omega
  show Calls Tryd.prog 57 #[sv, tyV k m r s a n cap, kv] w _
  clear hk
  go_enter Tryd.func57, Tryd.ntmps57
  go_wp2_with fail
  go_ret
  exact ⟨rfl, belA (Below.refl _ _)⟩
set_option maxRecDepth 100000 in
set_option maxHeartbeats 1000000 in
theorem Words_nil (t : Ty) (f : Fv) (w : World) (h : TyAt w f t) (hm : mayB 0 48 t = true) (hk : ¬ f.k = 5) : Calls Tryd.prog 18 #[.slice none 0 0, f.v] w fun e w' => e = .returned (.tuple #[.int .i64 1, .int .i64 0]) ∧ Below w.heap.size w w' := by
  have CM : Hid (Calls Tryd.prog 14 #[.slice none 0 0, f.v] (w.alloc f.o) fun e w' => e = .returned (.bool true) ∧ Below (w.alloc f.o).heap.size (w.alloc f.o) w') := by
    have := may_nil t f (w.alloc f.o) (h.bel (belA (Below.refl _ _)))
    rw [hm] at this
    exact this
  have CW : Hid (∀ W kv, Calls Tryd.prog 57 #[.slice none 0 0, f.v, kv] W fun e w' => e = .returned (.int .i64 1) ∧ Below W.heap.size W w') := fun W kv => words_one f W hk _ _
  have A0 : At (w.alloc f.o) w.heap.size f.o := At.new _ _
  obtain ⟨k, m, r, s, a, n, cap⟩ := f
  show Calls Tryd.prog 18 #[.slice none 0 0, tyV k m r s a n cap] w _
  clear h hm hk
  go_enter Tryd.func18, Tryd.ntmps18
  go_wp2_with (first
    | (go_at_call 14; refine CM.out.mono ?_; rintro e w1 ⟨rfl, hb1⟩; obtain ⟨hl, p0, p1, p2, p3, p4⟩ := (A0.below hb1).ty)
    | (go_at_call 57; refine (CW.out _ _).mono ?_; rintro e w2 ⟨rfl, hb2⟩))
  go_ret2
  exact ⟨rfl, below_aft (below1 hb1) (below1 hb2)⟩
def copB (c : Ch) : Bool := match c with | .leaf k _ => decide (k = 1 ∨ k = 2) | .box _ => false | .ref m _ _ => !m
set_option maxRecDepth 100000 in
set_option maxHeartbeats 1000000 in
theorem Copies_yes (c : Ch) (f : Fv) (w : World) (hc : Ok c) (h : TyAt w f c.ty) : Calls Tryd.prog 16 #[f.v] w fun e w' => e = .returned (.bool (copB c)) ∧ Below w.heap.size w w' := by
  have CS : Hid (Calls Tryd.prog 56 #[f.v] (w.alloc f.o) fun e w' => e = .returned (.bool true) ∧ Below (w.alloc f.o).heap.size (w.alloc f.o) w') := by
    have := some_any c.ty f (w.alloc f.o) (h.bel (belA (Below.refl _ _)))
    rw [hc.is] at this
    exact this
  have A0 : At (w.alloc f.o) w.heap.size f.o := At.new _ _
  cases c with
  | leaf k s =>
    obtain ⟨a, cap, rfl, -⟩ := h.leaf
    show Calls Tryd.prog 16 #[tyV k false 0 s a 0 cap] w _
    have hk : (k = 1 ∨ k = 2) ∧ s = 0 ∨ k = 5 ∧ 0 ≤ s ∧ s < 32 := hc.ok
    clear h
    have hk2 : k = 1 ∨ k = 2 ∨ k = 5 := by omega
    clear hk
    rcases hk2 with rfl | rfl | rfl
    all_goals
      go_enter Tryd.func16, Tryd.ntmps16
      go_wp2_with (go_at_call 56; refine CS.out.mono ?_; rintro e w1 ⟨rfl, hb1⟩; obtain ⟨hl, p0, p1, p2, p3, p4⟩ := (A0.below hb1).ty)
      go_ret
      exact ⟨rfl, below1 hb1⟩
  | box c =>
    obtain ⟨g, off, cap, f', rfl, -⟩ := h.box
    show Calls Tryd.prog 16 #[tyV 3 false 0 0 (some ⟨g, off, none⟩) 1 cap] w _
    clear h
    go_enter Tryd.func16, Tryd.ntmps16
    go_wp2_with (go_at_call 56; refine CS.out.mono ?_; rintro e w1 ⟨rfl, hb1⟩; obtain ⟨hl, p0, p1, p2, p3, p4⟩ := (A0.below hb1).ty)
    go_ret
    exact ⟨rfl, below1 hb1⟩
  | ref m r c =>
    obtain ⟨g, off, cap, f', rfl, -⟩ := h.ref
    show Calls Tryd.prog 16 #[tyV 4 m r 0 (some ⟨g, off, none⟩) 1 cap] w _
    clear h
    go_enter Tryd.func16, Tryd.ntmps16
    go_wp2_with (go_at_call 56; refine CS.out.mono ?_; rintro e w1 ⟨rfl, hb1⟩; obtain ⟨hl, p0, p1, p2, p3, p4⟩ := (A0.below hb1).ty)
    go_ret
    exact ⟨by first | rfl | simp [copB], below1 hb1⟩
theorem Tryd.results46 : Tryd.f46.results = #[.cell 6 26] := rfl
theorem Tryd.results47 : Tryd.f47.results = #[.cell 0 26] := rfl
set_option maxRecDepth 100000 in
theorem results_ty1 {fn : Func} {j : Nat} (h : fn.results = #[.cell j 26]) {tmps : Array Value} {W : World} {b4 : Nat} {g : Fv} (ht : tmps.getD j undef = .pointer (some ⟨b4, 0, none⟩)) (hC : C5 W b4 0 g) : (results fn tmps).run Tryd.prog W = .ok g.v W := by
  obtain ⟨-, e0, e1, e2, e3, e4⟩ := hC
  simp only [Nat.zero_add] at e1 e2 e3 e4
  have ht2 : tmps[j]?.getD undef = .pointer (some ⟨b4, 0, none⟩) := by rw [← ht]; simp
  simp only [results, h]
  simp [go_sem, ht2, e0, e1, e2, e3, e4]
set_option maxRecDepth 100000 in
theorem i64_any (w : World) : Calls Tryd.prog 47 #[] w fun e w' => e = .returned (tyV 1 false 0 0 none 0 0) ∧ Below w.heap.size w w' := by
  go_enter Tryd.func47, Tryd.ntmps47
  go_wp2_with fail
  exact bodyPost_ret (results_ty1 (g := ⟨1, false, 0, 0, none, 0, 0⟩) Tryd.results47 rfl (At.new w (Fv.o ⟨1, false, 0, 0, none, 0, 0⟩)).ty) rfl ⟨rfl, belA (Below.refl _ _)⟩
set_option maxRecDepth 100000 in
theorem ref_any (m : Bool) (r : Int) (f : Fv) (w : World) : Calls Tryd.prog 46 #[.bool m, .int .i64 r, f.v] w fun e w' => ∃ g, e = .returned (tyV 4 m r 0 (some ⟨g, 0, none⟩) 1 1) ∧ w.heap.size ≤ g ∧ At w' g f.o ∧ Below w.heap.size w w' := by
  obtain ⟨k, m', r', s, a, n, cap⟩ := f
  show Calls Tryd.prog 46 #[.bool m, .int .i64 r, tyV k m' r' s a n cap] w _
  go_enter Tryd.func46, Tryd.ntmps46
  go_wp2_with fail
  have AG : At (((w.alloc (tyO k m' r' s a n cap)).alloc (tyO 4 m r 0 (some ⟨w.heap.size + 1 + 1, 0, none⟩) 1 1)).alloc (tyO k m' r' s a n cap)) (w.heap.size + 1) (Fv.o ⟨4, m, r, 0, some ⟨w.heap.size + 1 + 1, 0, none⟩, 1, 1⟩) := (at_snd w _ _).alloc _
  have AN : At (((w.alloc (tyO k m' r' s a n cap)).alloc (tyO 4 m r 0 (some ⟨w.heap.size + 1 + 1, 0, none⟩) 1 1)).alloc (tyO k m' r' s a n cap)) (w.heap.size + 1 + 1) (tyO k m' r' s a n cap) := by
    have := At.new ((w.alloc (tyO k m' r' s a n cap)).alloc (tyO 4 m r 0 (some ⟨w.heap.size + 1 + 1, 0, none⟩) 1 1)) (tyO k m' r' s a n cap)
    simp only [World.size_alloc] at this
    exact this
  exact bodyPost_ret (results_ty1 (g := ⟨4, m, r, 0, some ⟨w.heap.size + 1 + 1, 0, none⟩, 1, 1⟩) Tryd.results46 rfl AG.ty) rfl ⟨_, rfl, by omega, AN, belA (belA (belA (Below.refl _ _)))⟩
end Go.Proofs.YtjchbclkdbojpaaDoor
