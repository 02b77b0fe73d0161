import Derived.Test.YtkidcmglidnaoaaMF
namespace Go.Proofs.Ytkidcmglidnaoaa
open Go.RowKit Go.Shelf
set_option linter.unusedVariables false
set_option linter.unusedSimpArgs false
/-- The last of some trees: those ahead of it, its root, what is below it. -/
theorem fo_last (f : Fo) : ∀ o, f.size ≠ 0 → ∃ g y c, f = Fo.app g (.cons y c .nil) ∧ f.starts o = g.starts o ++ [((o + g.size : Nat) : Int)] := by
  induction f with
  | nil => intro o h; exact absurd rfl h
  | cons x c r ihc ihr =>
    intro o _
    cases hr : r.size with
    | zero =>
      cases r with
      | nil => exact ⟨.nil, x, c, rfl, rfl⟩
      | cons x' c' r' => simp [Fo.size] at hr
    | succ k =>
      obtain ⟨g, y, c', h1, h2⟩ := ihr (o + 1 + c.size) (by omega)
      refine ⟨.cons x c g, y, c', by rw [h1]; rfl, ?_⟩
      simp only [Fo.starts, h2, List.cons_append, Fo.size]
      congr 3
      omega
theorem seg_app {T : List Nd} {g h : Fo} {o : Nat} (hs : (T.drop o).take (Fo.app g h).size = (Fo.app g h).flat o) : (T.drop (o + g.size)).take h.size = h.flat (o + g.size) := by
  rw [Fo.size_app, Fo.flat_app] at hs
  have := congrArg (List.drop g.size) hs
  rw [List.drop_take, List.drop_drop, List.drop_append, Fo.len_flat] at this
  simpa [Nat.add_sub_cancel_left, List.drop_of_length_le, Fo.len_flat] using this
set_option maxRecDepth 100000 in
set_option maxHeartbeats 4000000 in
theorem rend_any (T : List Nd) (a : Option Addr) (cap : Nat) (hS : Sm T) : ∀ (N n : Nat) (x : Nx) (c : Fo) (w : World), c.size < N → TAt w a T → T[n]? = some ⟨x, c.starts (n + 1)⟩ → (T.drop (n + 1)).take c.size = c.flat (n + 1) → n + 1 + c.size ≤ T.length →
    Calls Try.prog 50 #[trV a T.length cap, .int .i64 (n : Int)] w fun e w' => e = .returned (.int .i64 ((n + 1 + c.size : Nat) : Int)) ∧ Below w.heap.size w w' := by
  intro N
  induction N with
  | zero => intro n x c w h; omega
  | succ N ih =>
    intro n x c w hcN hT hd hseg hle
    have hTn := hS.n
    have hn : n < T.length := by omega
    have A1 := At.new w (Tro a T.length cap)
    obtain ⟨c0, f0⟩ := A1.one
    have hB1 : Below w.heap.size w (w.alloc (Tro a T.length cap)) := belA (Below.refl _ _)
    have hdl := (hS.d _ (List.mem_of_getElem? hd)).l
    obtain ⟨l, hl⟩ : ∃ l, l = c.starts (n + 1) := ⟨_, rfl⟩
    rw [← hl] at hd hdl
    replace hdl : l.length ≤ 20000 := hdl
    have HD : Hid (T[n]? = some ⟨x, l⟩) := hidE hd
    have i0 : (0 : Int) ≤ (n : Int) := by omega
    have i1 : (n : Int) < (T.length : Int) := by omega
    have u3 : IntKind.i64.wrap ((n : Int) + 1) = (n : Int) + 1 := by rw [IntKind.wrap_i64]; omega
    obtain ⟨g, off, rfl, hn'⟩ := (hT.below hB1) (by rintro rfl; simp at hn)
    obtain ⟨n0, -, -, -, -, al, capl, n5, n6⟩ := hn' n ⟨x, l⟩ hd
    replace n5 : (w.alloc (Tro (some ⟨g, off, none⟩) T.length cap)).cell? ⟨g, off + n * 5 + 4, none⟩ = some (.slice al l.length capl) := n5
    replace n6 : IRow (w.alloc (Tro (some ⟨g, off, none⟩) T.length cap)) al l := n6
    have hwl : w.heap.size < (w.alloc (Tro (some ⟨g, off, none⟩) T.length cap)).heap.size := A1.lt
    clear hn' A1 hd
    by_cases hc0 : c.size = 0
    · have hc : c = .nil := by
        cases c with
        | nil => rfl
        | cons x' c' r' => simp [Fo.size] at hc0
      subst hc
      have hl0 : l = [] := hl
      subst hl0
      clear hl n6
      go_enter Try.func50, Try.ntmps50
      go_wp2_with fail
      go_ret
      exact ⟨by show Ending.returned (Value.int .i64 _) = _; congr 2, hB1⟩
    · obtain ⟨gf, y, c', hc, hst⟩ := fo_last c (n + 1) hc0
      rw [hc] at hseg hle hcN
      have hsz := Fo.size_app gf (.cons y c' .nil)
      have hs2 := seg_app hseg
      simp only [Fo.size, Fo.flat] at hs2 hsz
      obtain ⟨hx, hsc, -⟩ := seg_head (b := []) (nb := 0) (Fo.len_flat c' _) rfl hs2
      rw [← hl] at hst
      have hl1 : l.length = (gf.starts (n + 1)).length + 1 := by rw [hst]; simp
      have hlast : l[l.length - 1]? = some ((n + 1 + gf.size : Nat) : Int) := by
        rw [hl1, hst, Nat.add_sub_cancel, List.getElem?_append_right (Nat.le_refl _)]
        simp
      obtain ⟨gl, ol, rfl, hgl, hlr⟩ := n6 (by intro h; rw [h] at hl1; simp at hl1)
      have cc := hlr _ _ hlast
      obtain ⟨m, hm⟩ : ∃ m, m = n + 1 + gf.size := ⟨_, rfl⟩
      rw [← hm] at hx hsc cc
      have HC : Hid (∀ W, Below (w.alloc (Tro (some ⟨g, off, none⟩) T.length cap)).heap.size (w.alloc (Tro (some ⟨g, off, none⟩) T.length cap)) W → Calls Try.prog 50 #[trV (some ⟨g, off, none⟩) T.length cap, .int .i64 (m : Int)] W fun e w' => e = .returned (.int .i64 ((m + 1 + c'.size : Nat) : Int)) ∧ Below W.heap.size W w') := hidE fun W hW => ih m y c' W (by omega) (hT.below (below_aft hB1 hW)) hx hsc (by omega)
      have z1 : ((l.length : Int) == 0) = false := by simpa using (by omega : ¬ (l.length : Int) = 0)
      have z2 : (l.length == 0) = false := by simpa using (by omega : ¬ l.length = 0)
      have z3 : IntKind.i64.wrap ((l.length : Int) - 1) = (l.length : Int) - 1 := by rw [IntKind.wrap_i64]; omega
      have z7 : (1 : Int) ≤ (l.length : Int) := by omega
      have z4 : (0 : Int) ≤ (l.length : Int) - 1 := by omega
      have z5 : (l.length : Int) - 1 < (l.length : Int) := by omega
      have z6 : ((l.length : Int) - 1).toNat = l.length - 1 := by omega
      have HE : Hid (n + 1 + c.size = m + 1 + c'.size) := hidE (by rw [hc, hsz]; omega)
      clear hl hlr hlast hx hsc hs2 hseg hst hl1 hm hc hsz hc0 hcN hle ih
      go_enter Try.func50, Try.ntmps50
      go_wp2_with fail
      refine beginH (S := fun w' => Below (w.alloc (Tro (some ⟨g, off, none⟩) T.length cap)).heap.size (w.alloc (Tro (some ⟨g, off, none⟩) T.length cap)) w') (fun _ _ _ _ _ h => h) (by kernel_rfl) (Below.refl _ _).drew (fun hq hHeld => ?_)
      refine takeH (i := 0) (d := 17) _ hq rfl rfl (by kernel_rfl) (by kernel_rfl) (by kernel_rfl) (by rfl) (fun W hSw => by (have s1 := (hSw.cell (p := ⟨w.heap.size, 0, none⟩) hwl).trans c0; go_simp; try rfl)) hHeld ?_
      try simp only [Act.put, List.setIfInBounds_toArray, List.set_cons_zero, List.set_cons_succ]
      refine takeH (i := 1) (d := 18) _ hq rfl rfl (by kernel_rfl) (by kernel_rfl) (by kernel_rfl) (by rfl) (fun W hSw => by (go_simp; try rfl)) hHeld ?_
      try simp only [Act.put, List.setIfInBounds_toArray, List.set_cons_zero, List.set_cons_succ]
      refine takeH (i := 2) (d := 19) _ hq rfl rfl (by kernel_rfl) (by kernel_rfl) (by kernel_rfl) (by rfl) (fun W hSw => by (go_simp; try rfl)) hHeld ?_
      try simp only [Act.put, List.setIfInBounds_toArray, List.set_cons_zero, List.set_cons_succ]
      refine takeH (i := 3) (d := 20) _ hq rfl rfl (by kernel_rfl) (by kernel_rfl) (by kernel_rfl) (by rfl) (fun W hSw => by (go_simp; try rfl)) hHeld ?_
      try simp only [Act.put, List.setIfInBounds_toArray, List.set_cons_zero, List.set_cons_succ]
      refine takeH (i := 4) (d := 21) _ hq rfl rfl (by kernel_rfl) (by kernel_rfl) (by kernel_rfl) (by rfl) (fun W hSw => by (go_simp; try rfl)) hHeld ?_
      try simp only [Act.put, List.setIfInBounds_toArray, List.set_cons_zero, List.set_cons_succ]
      refine takeH (i := 5) (d := 22) _ hq rfl rfl (by kernel_rfl) (by kernel_rfl) (by kernel_rfl) (by rfl) (fun W hSw => by (go_simp; try rfl)) hHeld ?_
      try simp only [Act.put, List.setIfInBounds_toArray, List.set_cons_zero, List.set_cons_succ]
      refine takeH (i := 6) (d := 23) _ hq rfl rfl (by kernel_rfl) (by kernel_rfl) (by kernel_rfl) (by rfl) (fun W hSw => by (have s3 := (hSw.cell (p := ⟨gl, ol + (l.length - 1), none⟩) hgl).trans cc; go_simp; try rfl)) hHeld ?_
      try simp only [Act.put, List.setIfInBounds_toArray, List.set_cons_zero, List.set_cons_succ]
      refine wpAnyH_ready (rs := [7]) (by kernel_rfl) (by simp) ?_
      refine AllReadyH.cons rfl (fun K hK => ?_) AllReadyH.nil
      go_simp
      refine (HC.out _ hHeld).mono ?_; rintro e w1 ⟨rfl, hb1⟩; have hb2 : Below (w.alloc (Tro (some ⟨g, off, none⟩) T.length cap)).heap.size (w.alloc (Tro (some ⟨g, off, none⟩) T.length cap)) w1 := below_aft hHeld hb1
      go_wp2_with fail
      refine hK.out _ _ hb2 (fun hHeld => ?_)
      clear hK K
      try simp only [Act.put, List.setIfInBounds_toArray, List.set_cons_zero, List.set_cons_succ]
      refine takeH (i := 8) (d := 4) _ hq rfl rfl (by kernel_rfl) (by kernel_rfl) (by kernel_rfl) (by rfl) (fun W hSw => by (go_simp; try rfl)) hHeld ?_
      try simp only [Act.put, List.setIfInBounds_toArray, List.set_cons_zero, List.set_cons_succ]
      refine wpAnyH_done (by kernel_rfl) ?_ _
      go_wp2_with fail
      go_ret
      exact ⟨by rw [HE.out]; rfl, below_aft hB1 hb2⟩
end Go.Proofs.Ytkidcmglidnaoaa
