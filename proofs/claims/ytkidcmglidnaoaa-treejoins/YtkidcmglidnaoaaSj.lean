import Derived.Test.YtkidcmglidnaoaaSi
namespace Go.Proofs.Ytkidcmglidnaoaa
open Go.RowKit Go.Shelf
set_option linter.unusedVariables false
set_option linter.unusedSimpArgs false
set_option maxRecDepth 100000 in
set_option maxHeartbeats 4000000 in
theorem rdeep_any (T : List Nd) (a : Option Addr) (cap : Nat) (hS : Sm T) : ∀ (N n : Nat) (x : Nx) (c : Fo) (w : World), c.size < N → TAt w a T → T[n]? = some ⟨x, c.starts (n + 1)⟩ → (T.drop (n + 1)).take c.size = c.flat (n + 1) → n + 1 + c.size ≤ T.length →
    Calls Try.prog 41 #[trV a T.length cap, .int .i64 (n : Int)] w fun e w' => e = .returned (.int .i64 ((1 + c.deep : Nat) : Int)) ∧ Below w.heap.size w w' := by
  intro N
  induction N with
  | zero => intro n x c w h; omega
  | succ N ih =>
    intro n x c w hcN hT hd hseg hle
    have IH : Hid (∀ (n : Nat) (x : Nx) (c : Fo) (w : World), c.size < N → TAt w a T → T[n]? = some ⟨x, c.starts (n + 1)⟩ → (T.drop (n + 1)).take c.size = c.flat (n + 1) → n + 1 + c.size ≤ T.length →
      Calls Try.prog 41 #[trV a T.length cap, .int .i64 (n : Int)] w fun e w' => e = .returned (.int .i64 ((1 + c.deep : Nat) : Int)) ∧ Below w.heap.size w w') := hidE ih
    have hTn := hS.n
    have hn : n < T.length := by omega
    have hdl := (hS.d _ (List.mem_of_getElem? hd)).l
    have hdeep := deep_le c
    obtain ⟨l, hl⟩ : ∃ l, l = c.starts (n + 1) := ⟨_, rfl⟩
    rw [← hl] at hd hdl
    obtain ⟨D, hD⟩ : ∃ D, D = c.deep := ⟨_, rfl⟩
    rw [← hD] at hdeep ⊢
    replace hdl : l.length ≤ 20000 := hdl
    have A1 := At.new w (Tro a T.length cap)
    obtain ⟨c0, f0⟩ := A1.one
    have hB1 : Below w.heap.size w (w.alloc (Tro a T.length cap)) := belA (Below.refl _ _)
    have HT : Hid (TAt w a T) := hidE hT
    have HD : Hid (T[n]? = some ⟨x, l⟩) := hidE hd
    have HG0 : Hid ((l.drop 0 = c.starts (n + 1)) ∧ (T.drop (n + 1)).take c.size = c.flat (n + 1)) := hidE ⟨by rw [hl]; rfl, hseg⟩
    have hD0 : max 0 c.deep = D := by omega
    have hcs : c.size ≤ N := by omega
    clear hl hd hT hS ih hseg hD
    go_enter Try.func41, Try.ntmps41
    go_wp2_with fail
    go_loopw [5, 6] (fun v j W => ∃ (m best o : Nat) (gf : Fo), m ≤ l.length ∧ j = .int .i64 (m : Int) ∧ v = .int .i64 (best : Int) ∧ gf.size ≤ N ∧ o + gf.size ≤ T.length ∧ max best gf.deep = D ∧ Hid (l.drop m = gf.starts o ∧ (T.drop o).take gf.size = gf.flat o) ∧ At W w.heap.size (Tro a T.length cap) ∧ Below w.heap.size w W) (fun _ j _ => l.length - (intOf j).toNat)
    case atStart => exact ⟨0, 0, n + 1, c, Nat.zero_le _, rfl, rfl, hcs, hle, hD0, HG0, A1, hB1⟩
    case round =>
      obtain ⟨m, best, o, gf, hm, rfl, rfl, hgs, hgo, hmx, HG, hA, hB⟩ := hrel
      clear c0 f0 A1 hB1 HG0 hD0
      obtain ⟨c0, f0⟩ := hA.one
      have hwl : w.heap.size < wr.heap.size := hA.lt
      obtain ⟨g, off, rfl, hn'⟩ := (HT.out.below hB) (by rintro rfl; simp at hn)
      obtain ⟨n0, -, -, -, -, al, capl, n5, n6⟩ := hn' n ⟨x, l⟩ HD.out
      replace n5 : wr.cell? ⟨g, off + n * 5 + 4, none⟩ = some (.slice al l.length capl) := n5
      replace n6 : IRow wr al l := n6
      have HTW : Hid (TAt wr (some ⟨g, off, none⟩) T) := hidE (HT.out.below hB)
      have i0 : (0 : Int) ≤ (n : Int) := by omega
      have i1 : (n : Int) < (T.length : Int) := by omega
      have m3 : IntKind.i64.wrap ((m : Int) + 1) = (m : Int) + 1 := by rw [IntKind.wrap_i64]; omega
      clear hn'
      cases gf with
      | nil =>
        obtain rfl : m = l.length := by
          have h1 := congrArg List.length HG.out.1
          simp only [List.length_drop, Fo.starts, List.length_nil] at h1
          omega
        have lt : ¬ (l.length : Int) < (l.length : Int) := by omega
        have hbd : best = D := by simp only [Fo.deep] at hmx; omega
        have u3 : IntKind.i64.wrap ((best : Int) + 1) = (best : Int) + 1 := by rw [IntKind.wrap_i64]; omega
        clear HG n6
        go_wp2_with fail
        go_ret
        exact ⟨by show Ending.returned (Value.int .i64 _) = _; congr 2; omega, hB⟩
      | cons y c' r =>
        obtain ⟨HG1, HG2⟩ := HG.out
        simp only [Fo.size, Fo.flat] at HG2
        simp only [Fo.starts] at HG1
        simp only [Fo.size] at hgs hgo
        simp only [Fo.deep] at hmx
        obtain ⟨hx, hsc, hsr⟩ := seg_head (Fo.len_flat c' _) (Fo.len_flat r _) HG2
        have hlt : m < l.length := by
          have h1 := congrArg List.length HG1
          simp only [List.length_drop, List.length_cons] at h1
          omega
        obtain ⟨hlm, hdr⟩ := drop_cons HG1
        obtain ⟨gl, ol, rfl, hgl, hlr⟩ := n6 (by rintro rfl; simp at hlt)
        have cc := hlr m _ hlm
        have m0 : (0 : Int) ≤ (m : Int) := by omega
        have m1 : (m : Int) < (l.length : Int) := by omega
        have HC : Hid (∀ W, Below wr.heap.size wr W → Calls Try.prog 41 #[trV (some ⟨g, off, none⟩) T.length cap, .int .i64 (o : Int)] W fun e w' => e = .returned (.int .i64 ((1 + c'.deep : Nat) : Int)) ∧ Below W.heap.size W w') := hidE fun W hW => IH.out o y c' W (by omega) (HTW.out.below hW) hx hsc (by omega)
        have HG' : Hid (l.drop (m + 1) = r.starts (o + 1 + c'.size) ∧ (T.drop (o + 1 + c'.size)).take r.size = r.flat (o + 1 + c'.size)) := hidE ⟨hdr, hsr⟩
        obtain ⟨k, hk⟩ : ∃ k, k = 1 + c'.deep := ⟨_, rfl⟩
        rw [← hk] at HC hmx
        have hA' : Hid (At wr w.heap.size (Tro (some ⟨g, off, none⟩) T.length cap)) := hidE hA
        clear HG HG1 HG2 hx hsc hsr hlm hdr hlr n6 hA hk
        by_cases hb : best < k
        · have hbk : (best : Int) < (k : Int) := by omega
          have hbkd : decide ((best : Int) < (k : Int)) = true := decide_eq_true hbk
          go_wp2_with fail
          refine beginH (S := fun w' => Below wr.heap.size wr w') (fun _ _ _ _ _ h => h) (by kernel_rfl) (Below.refl _ _).drew (fun hq hHeld => ?_)
          refine takeH (i := 0) (d := 19) _ hq rfl rfl (by kernel_rfl) (by kernel_rfl) (by kernel_rfl) (by rfl) (fun W hSw => by (have s1 := (hSw.cell (p := ⟨w.heap.size, 0, none⟩) hwl).trans c0; go_simp; try rfl)) hHeld ?_
          try simp only [Act.put, List.setIfInBounds_toArray, List.set_cons_zero, List.set_cons_succ]
          refine takeH (i := 1) (d := 20) _ hq rfl rfl (by kernel_rfl) (by kernel_rfl) (by kernel_rfl) (by rfl) (fun W hSw => by (go_simp; try rfl)) hHeld ?_
          try simp only [Act.put, List.setIfInBounds_toArray, List.set_cons_zero, List.set_cons_succ]
          refine takeH (i := 2) (d := 21) _ hq rfl rfl (by kernel_rfl) (by kernel_rfl) (by kernel_rfl) (by rfl) (fun W hSw => by (have s1 := (hSw.cell (p := ⟨w.heap.size, 0, none⟩) hwl).trans c0; go_simp; try rfl)) hHeld ?_
          try simp only [Act.put, List.setIfInBounds_toArray, List.set_cons_zero, List.set_cons_succ]
          refine takeH (i := 3) (d := 22) _ hq rfl rfl (by kernel_rfl) (by kernel_rfl) (by kernel_rfl) (by rfl) (fun W hSw => by (go_simp; try rfl)) hHeld ?_
          try simp only [Act.put, List.setIfInBounds_toArray, List.set_cons_zero, List.set_cons_succ]
          refine takeH (i := 4) (d := 23) _ hq rfl rfl (by kernel_rfl) (by kernel_rfl) (by kernel_rfl) (by rfl) (fun W hSw => by (go_simp; try rfl)) hHeld ?_
          try simp only [Act.put, List.setIfInBounds_toArray, List.set_cons_zero, List.set_cons_succ]
          refine takeH (i := 5) (d := 24) _ hq rfl rfl (by kernel_rfl) (by kernel_rfl) (by kernel_rfl) (by rfl) (fun W hSw => by (go_simp; try rfl)) hHeld ?_
          try simp only [Act.put, List.setIfInBounds_toArray, List.set_cons_zero, List.set_cons_succ]
          refine takeH (i := 6) (d := 25) _ hq rfl rfl (by kernel_rfl) (by kernel_rfl) (by kernel_rfl) (by rfl) (fun W hSw => by (have s2 := (hSw.cell (p := ⟨g, off + n * 5 + 4, none⟩) n0).trans n5; go_simp; try rfl)) hHeld ?_
          try simp only [Act.put, List.setIfInBounds_toArray, List.set_cons_zero, List.set_cons_succ]
          refine takeH (i := 7) (d := 26) _ hq rfl rfl (by kernel_rfl) (by kernel_rfl) (by kernel_rfl) (by rfl) (fun W hSw => by (go_simp; try rfl)) hHeld ?_
          try simp only [Act.put, List.setIfInBounds_toArray, List.set_cons_zero, List.set_cons_succ]
          refine takeH (i := 8) (d := 27) _ hq rfl rfl (by kernel_rfl) (by kernel_rfl) (by kernel_rfl) (by rfl) (fun W hSw => by (go_simp; try rfl)) hHeld ?_
          try simp only [Act.put, List.setIfInBounds_toArray, List.set_cons_zero, List.set_cons_succ]
          refine takeH (i := 9) (d := 28) _ hq rfl rfl (by kernel_rfl) (by kernel_rfl) (by kernel_rfl) (by rfl) (fun W hSw => by (have s3 := (hSw.cell (p := ⟨gl, ol + m, none⟩) hgl).trans cc; go_simp; try rfl)) hHeld ?_
          try simp only [Act.put, List.setIfInBounds_toArray, List.set_cons_zero, List.set_cons_succ]
          refine wpAnyH_ready (rs := [10]) (by kernel_rfl) (by simp) ?_
          refine AllReadyH.cons rfl (fun K hK => ?_) AllReadyH.nil
          go_simp
          refine (HC.out _ hHeld).mono ?_; rintro e w1 ⟨rfl, hb1⟩; have hb2 : Below wr.heap.size wr w1 := below_aft hHeld hb1
          go_wp2_with fail
          refine hK.out _ _ hb2 (fun hHeld => ?_)
          clear hK K
          try simp only [Act.put, List.setIfInBounds_toArray, List.set_cons_zero, List.set_cons_succ]
          refine takeH (i := 11) (d := 7) _ hq rfl rfl (by kernel_rfl) (by kernel_rfl) (by kernel_rfl) (by rfl) (fun W hSw => by (go_simp; try rfl)) hHeld ?_
          try simp only [Act.put, List.setIfInBounds_toArray, List.set_cons_zero, List.set_cons_succ]
          refine wpAnyH_done (by kernel_rfl) ?_ _
          go_wp2_with fail
          exact ⟨⟨m + 1, k, o + 1 + c'.size, r, by omega, by go_num, rfl, by omega, by omega, by omega, HG', hA'.out.below hb2, below_aft hB hb2⟩, by simp [intOf]; omega⟩
        · have hbk : ¬ (best : Int) < (k : Int) := by omega
          have hbkd : decide ((best : Int) < (k : Int)) = false := decide_eq_false hbk
          go_wp2_with fail
          refine beginH (S := fun w' => Below wr.heap.size wr w') (fun _ _ _ _ _ h => h) (by kernel_rfl) (Below.refl _ _).drew (fun hq hHeld => ?_)
          refine takeH (i := 0) (d := 19) _ hq rfl rfl (by kernel_rfl) (by kernel_rfl) (by kernel_rfl) (by rfl) (fun W hSw => by (have s1 := (hSw.cell (p := ⟨w.heap.size, 0, none⟩) hwl).trans c0; go_simp; try rfl)) hHeld ?_
          try simp only [Act.put, List.setIfInBounds_toArray, List.set_cons_zero, List.set_cons_succ]
          refine takeH (i := 1) (d := 20) _ hq rfl rfl (by kernel_rfl) (by kernel_rfl) (by kernel_rfl) (by rfl) (fun W hSw => by (go_simp; try rfl)) hHeld ?_
          try simp only [Act.put, List.setIfInBounds_toArray, List.set_cons_zero, List.set_cons_succ]
          refine takeH (i := 2) (d := 21) _ hq rfl rfl (by kernel_rfl) (by kernel_rfl) (by kernel_rfl) (by rfl) (fun W hSw => by (have s1 := (hSw.cell (p := ⟨w.heap.size, 0, none⟩) hwl).trans c0; go_simp; try rfl)) hHeld ?_
          try simp only [Act.put, List.setIfInBounds_toArray, List.set_cons_zero, List.set_cons_succ]
          refine takeH (i := 3) (d := 22) _ hq rfl rfl (by kernel_rfl) (by kernel_rfl) (by kernel_rfl) (by rfl) (fun W hSw => by (go_simp; try rfl)) hHeld ?_
          try simp only [Act.put, List.setIfInBounds_toArray, List.set_cons_zero, List.set_cons_succ]
          refine takeH (i := 4) (d := 23) _ hq rfl rfl (by kernel_rfl) (by kernel_rfl) (by kernel_rfl) (by rfl) (fun W hSw => by (go_simp; try rfl)) hHeld ?_
          try simp only [Act.put, List.setIfInBounds_toArray, List.set_cons_zero, List.set_cons_succ]
          refine takeH (i := 5) (d := 24) _ hq rfl rfl (by kernel_rfl) (by kernel_rfl) (by kernel_rfl) (by rfl) (fun W hSw => by (go_simp; try rfl)) hHeld ?_
          try simp only [Act.put, List.setIfInBounds_toArray, List.set_cons_zero, List.set_cons_succ]
          refine takeH (i := 6) (d := 25) _ hq rfl rfl (by kernel_rfl) (by kernel_rfl) (by kernel_rfl) (by rfl) (fun W hSw => by (have s2 := (hSw.cell (p := ⟨g, off + n * 5 + 4, none⟩) n0).trans n5; go_simp; try rfl)) hHeld ?_
          try simp only [Act.put, List.setIfInBounds_toArray, List.set_cons_zero, List.set_cons_succ]
          refine takeH (i := 7) (d := 26) _ hq rfl rfl (by kernel_rfl) (by kernel_rfl) (by kernel_rfl) (by rfl) (fun W hSw => by (go_simp; try rfl)) hHeld ?_
          try simp only [Act.put, List.setIfInBounds_toArray, List.set_cons_zero, List.set_cons_succ]
          refine takeH (i := 8) (d := 27) _ hq rfl rfl (by kernel_rfl) (by kernel_rfl) (by kernel_rfl) (by rfl) (fun W hSw => by (go_simp; try rfl)) hHeld ?_
          try simp only [Act.put, List.setIfInBounds_toArray, List.set_cons_zero, List.set_cons_succ]
          refine takeH (i := 9) (d := 28) _ hq rfl rfl (by kernel_rfl) (by kernel_rfl) (by kernel_rfl) (by rfl) (fun W hSw => by (have s3 := (hSw.cell (p := ⟨gl, ol + m, none⟩) hgl).trans cc; go_simp; try rfl)) hHeld ?_
          try simp only [Act.put, List.setIfInBounds_toArray, List.set_cons_zero, List.set_cons_succ]
          refine wpAnyH_ready (rs := [10]) (by kernel_rfl) (by simp) ?_
          refine AllReadyH.cons rfl (fun K hK => ?_) AllReadyH.nil
          go_simp
          refine (HC.out _ hHeld).mono ?_; rintro e w1 ⟨rfl, hb1⟩; have hb2 : Below wr.heap.size wr w1 := below_aft hHeld hb1
          go_wp2_with fail
          refine hK.out _ _ hb2 (fun hHeld => ?_)
          clear hK K
          try simp only [Act.put, List.setIfInBounds_toArray, List.set_cons_zero, List.set_cons_succ]
          refine takeH (i := 11) (d := 7) _ hq rfl rfl (by kernel_rfl) (by kernel_rfl) (by kernel_rfl) (by rfl) (fun W hSw => by (go_simp; try rfl)) hHeld ?_
          try simp only [Act.put, List.setIfInBounds_toArray, List.set_cons_zero, List.set_cons_succ]
          refine wpAnyH_done (by kernel_rfl) ?_ _
          go_wp2_with fail
          exact ⟨⟨m + 1, best, o + 1 + c'.size, r, by omega, by go_num, rfl, by omega, by omega, by omega, HG', hA'.out.below hb2, below_aft hB hb2⟩, by simp [intOf]; omega⟩
end Go.Proofs.Ytkidcmglidnaoaa
