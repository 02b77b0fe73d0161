import Derived.Test.YtddjmhfcaeckgaaDoorZj
import Derived.StillTailTactics
import Derived.Deep.Cut
import Derived.Deep.CutRange
namespace Go.Proofs.YtddjmhfcaeckgaaDoor
open Go.RowKit
set_option linter.unusedVariables false
set_option linter.unusedSimpArgs false

theorem refJoin_no (x y : Int) (how : Int) (a1 a2 : Option Addr) (n1 n2 cap1 cap2 : Nat) (zs ys : List Int) (w : World) (hz1 : zs.length = n1) (hm1 : n1 ≤ maxLen) (hw1 : Words zs) (hc1 : Cells w a1 zs) (hz2 : ys.length = n2) (hm2 : n2 ≤ maxLen) (hw2 : Words ys) (hc2 : Cells w a2 ys) (hb : bothB x y zs ys = false) :
    Calls Tryd.prog 29 #[.agg #[.int .i64 x, .slice a1 n1 cap1], .agg #[.int .i64 y, .slice a2 n2 cap2], .int .i64 how] w fun e w' => e = .returned (.tuple #[.agg #[.int .i64 0, .slice none 0 0], .int .i64 2]) ∧ Below w.heap.size w w' := by
  have b3 := At.new ((w.alloc (Two (.int .i64 x) (.slice a1 n1 cap1))).alloc (Two (.int .i64 y) (.slice a2 n2 cap2))) (Two (.int .i64 0) (.slice none 0 0))
  simp only [World.size_alloc] at b3
  have hd1 := ((hc1.alloc (Two (.int .i64 x) (.slice a1 n1 cap1))).alloc (Two (.int .i64 y) (.slice a2 n2 cap2))).alloc (Two (.int .i64 0) (.slice none 0 0))
  have hd2 := ((hc2.alloc (Two (.int .i64 x) (.slice a1 n1 cap1))).alloc (Two (.int .i64 y) (.slice a2 n2 cap2))).alloc (Two (.int .i64 0) (.slice none 0 0))
  have H := both_any x y a1 a2 n1 n2 cap1 cap2 zs ys _ hz1 hm1 hw1 hd1 hz2 hm2 hw2 hd2
  rw [hb] at H
  go_enter Tryd.func29, Tryd.ntmps29
  go_wp2_with (go_at_call 32; refine H.mono ?_; rintro e w1 ⟨rfl, hb1⟩; have b31 := b3.below hb1; obtain ⟨c30, c31, f3⟩ := b31.all)
  refine bodyPost_ret (v := .tuple #[.agg #[.int .i64 0, .slice none 0 0], .int .i64 2]) (by simp [results, Tryd.results29, go_sem, c30, c31]) rfl ⟨rfl, ?_⟩
  exact below_setTwo (below3' hb1) (by omega) _ _

set_option maxRecDepth 20000 in
set_option maxHeartbeats 2000000 in
theorem refJoin0_yes (xn : Nat) (a1 a2 : Option Addr) (n cap1 cap2 : Nat) (zs ys : List Int) (w : World) (hz : zs.length = n) (hy : ys.length = n) (hwz : Words zs) (hwy : Words ys) (hc1 : Cells w a1 zs) (hc2 : Cells w a2 ys) (hm1 : mayB (xn : Int) zs = true) (hm2 : mayB (xn : Int) ys = true) :
    Calls Tryd.prog 29 #[.agg #[.int .i64 xn, .slice a1 n cap1], .agg #[.int .i64 xn, .slice a2 n cap2], .int .i64 0] w fun e w' => ∃ g, e = .returned (.tuple #[.agg #[.int .i64 xn, .slice (some ⟨g, 0, none⟩) n n], .int .i64 0]) ∧ w.heap.size ≤ g ∧ Blk w' g (build (fun k => cj 0 (gb zs k) (gb ys k)) n xn) ∧ Below w.heap.size w w' := by
  obtain ⟨q1, q2, q3⟩ := mayB_width hm1
  have hn17 : n ≤ 17 := by omega
  have hxn : xn ≤ 64 * n := by omega
  have hnn : (n : Int) = ((xn : Int) + 63) / 64 := by omega
  have b1 := ((At.new w (Two (.int .i64 xn) (.slice a1 n cap1))).alloc (Two (.int .i64 xn) (.slice a2 n cap2))).alloc (Two (.int .i64 0) (.slice none 0 0))
  have b2 := (At.new (w.alloc (Two (.int .i64 xn) (.slice a1 n cap1))) (Two (.int .i64 xn) (.slice a2 n cap2))).alloc (Two (.int .i64 0) (.slice none 0 0))
  have b3 := At.new ((w.alloc (Two (.int .i64 xn) (.slice a1 n cap1))).alloc (Two (.int .i64 xn) (.slice a2 n cap2))) (Two (.int .i64 0) (.slice none 0 0))
  simp only [World.size_alloc] at b2 b3
  have hd1 := ((hc1.alloc (Two (.int .i64 xn) (.slice a1 n cap1))).alloc (Two (.int .i64 xn) (.slice a2 n cap2))).alloc (Two (.int .i64 0) (.slice none 0 0))
  have hd2 := ((hc2.alloc (Two (.int .i64 xn) (.slice a1 n cap1))).alloc (Two (.int .i64 xn) (.slice a2 n cap2))).alloc (Two (.int .i64 0) (.slice none 0 0))
  have hb : bothB (xn : Int) (xn : Int) zs ys = true := by simp [bothB, hm1, hm2]
  have H := both_any xn xn a1 a2 n n cap1 cap2 zs ys _ hz (by unfold maxLen; omega) hwz hd1 hy (by unfold maxLen; omega) hwy hd2
  rw [hb] at H
  have HAB1 : Hid (∀ b off, a1 = some ⟨b, off, none⟩ → zs ≠ [] → b < w.heap.size) := hc1.lt
  have HAB2 : Hid (∀ b off, a2 = some ⟨b, off, none⟩ → ys ≠ [] → b < w.heap.size) := hc2.lt
  have HX : Hid (∀ k, k < xn → k / 64 < n) := fun k hk => by omega
  have HNN : Hid ((n : Int) = ((xn : Int) + 63) / 64) := hnn
  clear hb hm1 hm2 hc1 hc2 q3 hnn
  go_enter Tryd.func29, Tryd.ntmps29
  go_wp2_with (first
    | (go_at_call 32; refine H.mono ?_; clear H; rintro e w1 ⟨rfl, hb1⟩; have b11 := b1.below hb1; have b21 := b2.below hb1; have b31 := b3.below hb1; have hd11 := hd1.below hb1; have hd21 := hd2.below hb1; have hB1 := below3' hb1; obtain ⟨c10, c11, f1⟩ := b11.all; clear b1 b2 b3 hd1 hd2 hb1)
    | (go_at_call 41; refine (none_any _ n _ (by omega) (by omega) HNN.out).mono ?_; rintro e w2 ⟨g, rfl, hgw, hblk, hb2⟩))
  have bR := At.new w2 (Two (.int .i64 xn) (.slice (some ⟨g, 0, none⟩) n n))
  have hal := (Below.refl w2.heap.size w2).alloc (Nat.le_refl _) (Two (.int .i64 xn) (.slice (some ⟨g, 0, none⟩) n n))
  have b12 := (b11.below hb2).below hal
  have b22 := (b21.below hb2).below hal
  have b32 := (b31.below hb2).below hal
  have hd12 := (hd11.below hb2).below hal
  have hd22 := (hd21.below hb2).below hal
  have hg2 : Blk (w2.alloc (Two (.int .i64 xn) (.slice (some ⟨g, 0, none⟩) n n))) g (List.replicate n 0) := hblk.alloc _
  have hB2 : Below w.heap.size w (w2.alloc (Two (.int .i64 xn) (.slice (some ⟨g, 0, none⟩) n n))) := (hB1.trans (hb2.mono hB1.size)).alloc (Nat.le_trans hB1.size hb2.size) _
  have hgl := hblk.lt
  have hs3 := b31.lt
  have hs2 := hb2.size
  have hd1' : w.heap.size ≠ g := by omega
  have hd2' : w.heap.size + 1 ≠ g := by omega
  have hd3' : w.heap.size + 1 + 1 ≠ g := by omega
  have hd4' : w2.heap.size ≠ g := by omega
  have hd5' : w.heap.size ≤ g := by omega
  have hd6' : g ≠ w.heap.size + 1 + 1 := by omega
  clear b11 b21 b31 hd11 hd21 hB1 hb2 hal hblk c10 c11 f1
  go_loopw [9] (fun i wr => ∃ k : Nat, k ≤ xn ∧ i = .int .i64 k ∧ Below w.heap.size w wr ∧ At wr w.heap.size (Two (.int .i64 xn) (.slice a1 n cap1)) ∧ At wr (w.heap.size + 1) (Two (.int .i64 xn) (.slice a2 n cap2)) ∧ At wr (w.heap.size + 1 + 1) (Two (.int .i64 0) (.slice none 0 0)) ∧ At wr w2.heap.size (Two (.int .i64 xn) (.slice (some ⟨g, 0, none⟩) n n)) ∧ Cells wr a1 zs ∧ Cells wr a2 ys ∧ Blk wr g (build (fun k => cj 0 (gb zs k) (gb ys k)) n k)) (fun i _ => xn - (intOf i).toNat)
  case atStart => exact ⟨0, Nat.zero_le _, rfl, hB2, b12, b22, b32, bR, hd12, hd22, hg2⟩
  case round =>
    obtain ⟨k, hk, rfl, hbr, b1r, b2r, b3r, bRr, hc1r, hc2r, hgr⟩ := hrel
    clear b12 b22 b32 bR hd12 hd22 hg2 hB2
    obtain ⟨c10, c11, f1⟩ := b1r.all
    by_cases hlt : k < xn
    · obtain ⟨c20, c21, f2⟩ := b2r.all
      have hkx : (k : Int) < (xn : Int) := by omega
      have hk64 : k < 64 * n := by omega
      obtain ⟨p, hp⟩ : ∃ p, gb zs k = p := ⟨_, rfl⟩
      obtain ⟨q, hq⟩ : ∃ q, gb ys k = q := ⟨_, rfl⟩
      have H1 : Hid (∀ W, Below wr.heap.size wr W → Calls Tryd.prog 45 #[.agg #[.int .i64 xn, .slice a1 n cap1], .int .i64 k] W fun e w' => e = .returned (.bool p) ∧ Below W.heap.size W w') := fun W h => is_gb xn k p a1 n cap1 zs W hz hn17 hwz (hc1r.below h) hk64 hp
      have H2 : Hid (∀ W, Below wr.heap.size wr W → Calls Tryd.prog 45 #[.agg #[.int .i64 xn, .slice a2 n cap2], .int .i64 k] W fun e w' => e = .returned (.bool q) ∧ Below W.heap.size W w') := fun W h => is_gb xn k q a2 n cap2 ys W hy hn17 hwy (hc2r.below h) hk64 hq
      obtain ⟨zr, hzr⟩ : ∃ zr, zr = build (fun k => cj 0 (gb zs k) (gb ys k)) n k := ⟨_, rfl⟩
      have hzl : zr.length = n := by rw [hzr, build_len]
      have HT : Hid (build (fun k => cj 0 (gb zs k) (gb ys k)) n (k + 1) = putW (cj 0 p q) zr k) := by
        show putW (cj 0 (gb zs k) (gb ys k)) (build (fun k => cj 0 (gb zs k) (gb ys k)) n k) k = _
        rw [hp, hq, hzr]
      rw [← hzr] at hgr
      clear hp hq hzr
      go_wp2
      go_cut [10, 11] from 20 to 75 (fun u v wx => u = .bool p ∧ v = .bool q ∧ Below wr.heap.size wr wx)
      case first =>
        go_region_held3 (fun w' => w'.cell? ⟨w.heap.size, 0, none⟩ = some (.int .i64 xn) ∧ w'.cell? ⟨w.heap.size, 1, none⟩ = some (.slice a1 n cap1) ∧ w'.cell? ⟨w.heap.size + 1, 0, none⟩ = some (.int .i64 xn) ∧ w'.cell? ⟨w.heap.size + 1, 1, none⟩ = some (.slice a2 n cap2))
          (first | (exact ⟨(b1r.below hbB).all.1, (b1r.below hbB).all.2.1, (b2r.below hbB).all.1, (b2r.below hbB).all.2.1⟩) | (exact ⟨(b1r.below hbA).all.1, (b1r.below hbA).all.2.1, (b2r.below hbA).all.1, (b2r.below hbA).all.2.1⟩) | go_keep)
          (first
            | (go_at_call 45; (with_reducible show Calls _ _ #[.agg #[.int .i64 _, .slice a1 _ _], _] _ _); refine (H1.out _ hbA).mono ?_; rintro e wB ⟨rfl, hbb⟩; have hbB : Below wr.heap.size wr wB := hbA.trans (hbb.mono hbA.size))
            | (go_at_call 45; (with_reducible show Calls _ _ #[.agg #[.int .i64 _, .slice a2 _ _], _] _ _); refine (H2.out _ hbA).mono ?_; rintro e wB ⟨rfl, hbb⟩; have hbB : Below wr.heap.size wr wB := hbA.trans (hbb.mono hbA.size))
            | (go_at_call 45; (with_reducible show Calls _ _ #[.agg #[.int .i64 _, .slice a1 _ _], _] _ _); refine (H1.out _ (Below.refl _ _).drew).mono ?_; rintro e wA ⟨rfl, hba⟩; have hbA : Below wr.heap.size wr wA := (Below.refl _ _).drew.trans (hba.mono (Nat.le_refl _)))
            | (go_at_call 45; (with_reducible show Calls _ _ #[.agg #[.int .i64 _, .slice a2 _ _], _] _ _); refine (H2.out _ (Below.refl _ _).drew).mono ?_; rintro e wA ⟨rfl, hba⟩; have hbA : Below wr.heap.size wr wA := (Below.refl _ _).drew.trans (hba.mono (Nat.le_refl _))))
        all_goals go_wp2_with fail
        all_goals go_meet
        all_goals exact ⟨rfl, rfl, hbB⟩
      case rest =>
        obtain ⟨rfl, rfl, hbc⟩ := hcut
        clear H1 H2 c10 c11 f1 c20 c21 f2
        have b1c := b1r.below hbc
        have b2c := b2r.below hbc
        have b3c := b3r.below hbc
        have bRc := bRr.below hbc
        have hc1c := hc1r.below hbc
        have hc2c := hc2r.below hbc
        have hgc : Blk wc g zr := hgr.below hbc
        have hbrc := hbr.trans (hbc.mono hbr.size)
        clear b1r b2r b3r bRr hc1r hc2r hgr hbc hbr
        cases hcj : cj 0 p q
        · have HT' : Hid (build (fun k => cj 0 (gb zs k) (gb ys k)) n (k + 1) = zr) := by
            show build (fun k => cj 0 (gb zs k) (gb ys k)) n (k + 1) = zr
            rw [HT.out, hcj]; rfl
          clear HT
          rcases p with _ | _ <;> rcases q with _ | _
          all_goals first
            | (exact absurd hcj (by decide))
            | clear hcj
          all_goals
            go_wp2
            go_roundw
            case rel => exact ⟨k + 1, by omega, by go_num, hbrc, b1c, b2c, b3c, bRc, hc1c, hc2c, by rw [HT'.out]; exact hgc⟩
            case measure => simp [intOf]; omega
        · have HT' : Hid (build (fun k => cj 0 (gb zs k) (gb ys k)) n (k + 1) = turn1 (bits .or .u64) zr k) := by
            show build (fun k => cj 0 (gb zs k) (gb ys k)) n (k + 1) = _
            rw [HT.out, hcj]; rfl
          clear HT
          have hkn := HX.out k hlt
          obtain ⟨pq, hpp⟩ : ∃ p, p = k / 64 := ⟨_, rfl⟩
          have hp : (k : Int) / 64 = (pq : Int) := by omega
          have hpn : pq < n := by omega
          have hy3 : IntKind.i64.wrap (pq : Int) = (pq : Int) := IntWalk.i64_in _ ⟨by omega, by omega⟩
          have hy4 : (k : Int).tdiv 64 = (pq : Int) := (Int.tdiv_eq_ediv_of_nonneg (by omega)).trans hp
          have hy5 : (k : Int).tmod 64 = (k : Int) % 64 := Int.tmod_eq_emod_of_nonneg (by omega)
          have hy6 := wrap_wbit (k : Int)
          have hy7 : 0 ≤ (k : Int) % 64 := by omega
          have hy8 : (0 : Int) ≤ (pq : Int) := by omega
          have hy9 : (pq : Int) < (n : Int) := by omega
          have hpl : pq < zr.length := by omega
          have g1 := hgc.cell pq hpl
          have g2 := hgc.frozen
          obtain ⟨o0, o1, o2⟩ := bRc.all
          have HZ1 : Hid (∀ b off, a1 = some ⟨b, off, none⟩ → b ≠ g) := fun b off h1 => by
            have := HAB1.out b off h1 (fun h => by subst h; simp at hz; omega)
            omega
          have HZ2 : Hid (∀ b off, a2 = some ⟨b, off, none⟩ → b ≠ g) := fun b off h1 => by
            have := HAB2.out b off h1 (fun h => by subst h; simp at hy; omega)
            omega
          clear hpp hkn
          rcases p with _ | _ <;> rcases q with _ | _
          all_goals first
            | (exact absurd hcj (by decide))
            | clear hcj
          all_goals
            go_wp2
            refine wp_region_still_tail 15 (by kernel_rfl) (by kernel_rfl) ?_
            simp only [List.take_succ_cons, List.take_zero, List.drop_succ_cons, List.drop_zero]
            change wpStill _ _ (World.drew wc) (fun a' => wpList _ _ _ _ a' (World.drew wc)) _ _
            iterate 15 still_step
            refine wpStill_nil ?_
            go_wp2
            go_roundw
            case rel => exact ⟨k + 1, by omega, by go_num, (hbrc.setCell hd5' _).drew, (b1c.set hd1' _).drew, (b2c.set hd2' _).drew, (b3c.set hd3' _).drew, (bRc.set hd4' _).drew, (hc1c.set HZ1.out _).drew, (hc2c.set HZ2.out _).drew, blk_step HT' hp hpl hgc⟩
            case measure => simp [intOf]; omega
    · have hke : k = xn := by omega
      subst hke
      obtain ⟨c30, c31, f3⟩ := b3r.all
      obtain ⟨o0, o1, o2⟩ := bRr.all
      go_wp2
      refine bodyPost_ret (v := .tuple #[.agg #[.int .i64 k, .slice (some ⟨g, 0, none⟩) n n], .int .i64 0]) (by simp [results, Tryd.results29, go_sem, c30, c31]) rfl ⟨g, rfl, hd5', ?_, ?_⟩
      · exact (hgr.at.set hd6' _).set hd6' _
      · exact below_setTwo hbr (by omega) _ _
theorem refJoin0_any (x y : Int) (a1 a2 : Option Addr) (n1 n2 cap1 cap2 : Nat) (zs ys : List Int) (w : World) (hz1 : zs.length = n1) (hm1 : n1 ≤ maxLen) (hw1 : Words zs) (hc1 : Cells w a1 zs) (hz2 : ys.length = n2) (hm2 : n2 ≤ maxLen) (hw2 : Words ys) (hc2 : Cells w a2 ys) :
    Calls Tryd.prog 29 #[.agg #[.int .i64 x, .slice a1 n1 cap1], .agg #[.int .i64 y, .slice a2 n2 cap2], .int .i64 0] w fun e w' => ∃ aa cc, e = .returned (.tuple #[.agg #[.int .i64 (jx x y zs ys), .slice aa (jz 0 x y zs ys).length cc], .int .i64 (je x y zs ys)]) ∧ Mine w' w.heap.size aa (jz 0 x y zs ys).length cc (jz 0 x y zs ys) ∧ Below w.heap.size w w' := by
  cases hY : bothB x y zs ys
  · refine (refJoin_no x y 0 a1 a2 n1 n2 cap1 cap2 zs ys w hz1 hm1 hw1 hc1 hz2 hm2 hw2 hc2 hY).mono fun e w' h => ?_
    simp only [jx, jz, je, hY]
    exact ⟨none, 0, h.1, mine_none _ _, h.2⟩
  · obtain ⟨h1, h2, h3, h4⟩ := both_parts hY
    subst h3
    have hn : n2 = n1 := by omega
    subst hn
    have hw := mayB_width h1
    obtain ⟨xn, rfl⟩ := Int.eq_ofNat_of_zero_le hw.1
    refine (refJoin0_yes xn a1 a2 n2 cap1 cap2 zs ys w hz1 hz2 hw1 hw2 hc1 hc2 h1 h2).mono fun e w' h => ?_
    obtain ⟨g, k1, k2, k3, k4⟩ := h
    rw [← join_eq 0 hz1 hz2 hw1 hw2 h1 h2] at k3
    have hl' : (jn (opj 0) zs ys).length = n2 := jn_len _ _ _ hz1 hz2
    simp only [jx, jz, je, hY, if_true]
    rw [hl']
    refine ⟨some ⟨g, 0, none⟩, n2, k1, ?_, k4⟩
    have := k3.mine k2 (by unfold maxLen; omega)
    rw [hl'] at this
    exact this

set_option maxRecDepth 20000 in
set_option maxHeartbeats 2000000 in
theorem refJoin1_yes (xn : Nat) (a1 a2 : Option Addr) (n cap1 cap2 : Nat) (zs ys : List Int) (w : World) (hz : zs.length = n) (hy : ys.length = n) (hwz : Words zs) (hwy : Words ys) (hc1 : Cells w a1 zs) (hc2 : Cells w a2 ys) (hm1 : mayB (xn : Int) zs = true) (hm2 : mayB (xn : Int) ys = true) :
    Calls Tryd.prog 29 #[.agg #[.int .i64 xn, .slice a1 n cap1], .agg #[.int .i64 xn, .slice a2 n cap2], .int .i64 1] w fun e w' => ∃ g, e = .returned (.tuple #[.agg #[.int .i64 xn, .slice (some ⟨g, 0, none⟩) n n], .int .i64 0]) ∧ w.heap.size ≤ g ∧ Blk w' g (build (fun k => cj 1 (gb zs k) (gb ys k)) n xn) ∧ Below w.heap.size w w' := by
  obtain ⟨q1, q2, q3⟩ := mayB_width hm1
  have hn17 : n ≤ 17 := by omega
  have hxn : xn ≤ 64 * n := by omega
  have hnn : (n : Int) = ((xn : Int) + 63) / 64 := by omega
  have b1 := ((At.new w (Two (.int .i64 xn) (.slice a1 n cap1))).alloc (Two (.int .i64 xn) (.slice a2 n cap2))).alloc (Two (.int .i64 0) (.slice none 0 0))
  have b2 := (At.new (w.alloc (Two (.int .i64 xn) (.slice a1 n cap1))) (Two (.int .i64 xn) (.slice a2 n cap2))).alloc (Two (.int .i64 0) (.slice none 0 0))
  have b3 := At.new ((w.alloc (Two (.int .i64 xn) (.slice a1 n cap1))).alloc (Two (.int .i64 xn) (.slice a2 n cap2))) (Two (.int .i64 0) (.slice none 0 0))
  simp only [World.size_alloc] at b2 b3
  have hd1 := ((hc1.alloc (Two (.int .i64 xn) (.slice a1 n cap1))).alloc (Two (.int .i64 xn) (.slice a2 n cap2))).alloc (Two (.int .i64 0) (.slice none 0 0))
  have hd2 := ((hc2.alloc (Two (.int .i64 xn) (.slice a1 n cap1))).alloc (Two (.int .i64 xn) (.slice a2 n cap2))).alloc (Two (.int .i64 0) (.slice none 0 0))
  have hb : bothB (xn : Int) (xn : Int) zs ys = true := by simp [bothB, hm1, hm2]
  have H := both_any xn xn a1 a2 n n cap1 cap2 zs ys _ hz (by unfold maxLen; omega) hwz hd1 hy (by unfold maxLen; omega) hwy hd2
  rw [hb] at H
  have HAB1 : Hid (∀ b off, a1 = some ⟨b, off, none⟩ → zs ≠ [] → b < w.heap.size) := hc1.lt
  have HAB2 : Hid (∀ b off, a2 = some ⟨b, off, none⟩ → ys ≠ [] → b < w.heap.size) := hc2.lt
  have HX : Hid (∀ k, k < xn → k / 64 < n) := fun k hk => by omega
  have HNN : Hid ((n : Int) = ((xn : Int) + 63) / 64) := hnn
  clear hb hm1 hm2 hc1 hc2 q3 hnn
  go_enter Tryd.func29, Tryd.ntmps29
  go_wp2_with (first
    | (go_at_call 32; refine H.mono ?_; clear H; rintro e w1 ⟨rfl, hb1⟩; have b11 := b1.below hb1; have b21 := b2.below hb1; have b31 := b3.below hb1; have hd11 := hd1.below hb1; have hd21 := hd2.below hb1; have hB1 := below3' hb1; obtain ⟨c10, c11, f1⟩ := b11.all; clear b1 b2 b3 hd1 hd2 hb1)
    | (go_at_call 41; refine (none_any _ n _ (by omega) (by omega) HNN.out).mono ?_; rintro e w2 ⟨g, rfl, hgw, hblk, hb2⟩))
  have bR := At.new w2 (Two (.int .i64 xn) (.slice (some ⟨g, 0, none⟩) n n))
  have hal := (Below.refl w2.heap.size w2).alloc (Nat.le_refl _) (Two (.int .i64 xn) (.slice (some ⟨g, 0, none⟩) n n))
  have b12 := (b11.below hb2).below hal
  have b22 := (b21.below hb2).below hal
  have b32 := (b31.below hb2).below hal
  have hd12 := (hd11.below hb2).below hal
  have hd22 := (hd21.below hb2).below hal
  have hg2 : Blk (w2.alloc (Two (.int .i64 xn) (.slice (some ⟨g, 0, none⟩) n n))) g (List.replicate n 0) := hblk.alloc _
  have hB2 : Below w.heap.size w (w2.alloc (Two (.int .i64 xn) (.slice (some ⟨g, 0, none⟩) n n))) := (hB1.trans (hb2.mono hB1.size)).alloc (Nat.le_trans hB1.size hb2.size) _
  have hgl := hblk.lt
  have hs3 := b31.lt
  have hs2 := hb2.size
  have hd1' : w.heap.size ≠ g := by omega
  have hd2' : w.heap.size + 1 ≠ g := by omega
  have hd3' : w.heap.size + 1 + 1 ≠ g := by omega
  have hd4' : w2.heap.size ≠ g := by omega
  have hd5' : w.heap.size ≤ g := by omega
  have hd6' : g ≠ w.heap.size + 1 + 1 := by omega
  clear b11 b21 b31 hd11 hd21 hB1 hb2 hal hblk c10 c11 f1
  go_loopw [9] (fun i wr => ∃ k : Nat, k ≤ xn ∧ i = .int .i64 k ∧ Below w.heap.size w wr ∧ At wr w.heap.size (Two (.int .i64 xn) (.slice a1 n cap1)) ∧ At wr (w.heap.size + 1) (Two (.int .i64 xn) (.slice a2 n cap2)) ∧ At wr (w.heap.size + 1 + 1) (Two (.int .i64 0) (.slice none 0 0)) ∧ At wr w2.heap.size (Two (.int .i64 xn) (.slice (some ⟨g, 0, none⟩) n n)) ∧ Cells wr a1 zs ∧ Cells wr a2 ys ∧ Blk wr g (build (fun k => cj 1 (gb zs k) (gb ys k)) n k)) (fun i _ => xn - (intOf i).toNat)
  case atStart => exact ⟨0, Nat.zero_le _, rfl, hB2, b12, b22, b32, bR, hd12, hd22, hg2⟩
  case round =>
    obtain ⟨k, hk, rfl, hbr, b1r, b2r, b3r, bRr, hc1r, hc2r, hgr⟩ := hrel
    clear b12 b22 b32 bR hd12 hd22 hg2 hB2
    obtain ⟨c10, c11, f1⟩ := b1r.all
    by_cases hlt : k < xn
    · obtain ⟨c20, c21, f2⟩ := b2r.all
      have hkx : (k : Int) < (xn : Int) := by omega
      have hk64 : k < 64 * n := by omega
      obtain ⟨p, hp⟩ : ∃ p, gb zs k = p := ⟨_, rfl⟩
      obtain ⟨q, hq⟩ : ∃ q, gb ys k = q := ⟨_, rfl⟩
      have H1 : Hid (∀ W, Below wr.heap.size wr W → Calls Tryd.prog 45 #[.agg #[.int .i64 xn, .slice a1 n cap1], .int .i64 k] W fun e w' => e = .returned (.bool p) ∧ Below W.heap.size W w') := fun W h => is_gb xn k p a1 n cap1 zs W hz hn17 hwz (hc1r.below h) hk64 hp
      have H2 : Hid (∀ W, Below wr.heap.size wr W → Calls Tryd.prog 45 #[.agg #[.int .i64 xn, .slice a2 n cap2], .int .i64 k] W fun e w' => e = .returned (.bool q) ∧ Below W.heap.size W w') := fun W h => is_gb xn k q a2 n cap2 ys W hy hn17 hwy (hc2r.below h) hk64 hq
      obtain ⟨zr, hzr⟩ : ∃ zr, zr = build (fun k => cj 1 (gb zs k) (gb ys k)) n k := ⟨_, rfl⟩
      have hzl : zr.length = n := by rw [hzr, build_len]
      have HT : Hid (build (fun k => cj 1 (gb zs k) (gb ys k)) n (k + 1) = putW (cj 1 p q) zr k) := by
        show putW (cj 1 (gb zs k) (gb ys k)) (build (fun k => cj 1 (gb zs k) (gb ys k)) n k) k = _
        rw [hp, hq, hzr]
      rw [← hzr] at hgr
      clear hp hq hzr
      go_wp2
      go_cut [10, 11] from 20 to 75 (fun u v wx => u = .bool p ∧ v = .bool q ∧ Below wr.heap.size wr wx)
      case first =>
        go_region_held3 (fun w' => w'.cell? ⟨w.heap.size, 0, none⟩ = some (.int .i64 xn) ∧ w'.cell? ⟨w.heap.size, 1, none⟩ = some (.slice a1 n cap1) ∧ w'.cell? ⟨w.heap.size + 1, 0, none⟩ = some (.int .i64 xn) ∧ w'.cell? ⟨w.heap.size + 1, 1, none⟩ = some (.slice a2 n cap2))
          (first | (exact ⟨(b1r.below hbB).all.1, (b1r.below hbB).all.2.1, (b2r.below hbB).all.1, (b2r.below hbB).all.2.1⟩) | (exact ⟨(b1r.below hbA).all.1, (b1r.below hbA).all.2.1, (b2r.below hbA).all.1, (b2r.below hbA).all.2.1⟩) | go_keep)
          (first
            | (go_at_call 45; (with_reducible show Calls _ _ #[.agg #[.int .i64 _, .slice a1 _ _], _] _ _); refine (H1.out _ hbA).mono ?_; rintro e wB ⟨rfl, hbb⟩; have hbB : Below wr.heap.size wr wB := hbA.trans (hbb.mono hbA.size))
            | (go_at_call 45; (with_reducible show Calls _ _ #[.agg #[.int .i64 _, .slice a2 _ _], _] _ _); refine (H2.out _ hbA).mono ?_; rintro e wB ⟨rfl, hbb⟩; have hbB : Below wr.heap.size wr wB := hbA.trans (hbb.mono hbA.size))
            | (go_at_call 45; (with_reducible show Calls _ _ #[.agg #[.int .i64 _, .slice a1 _ _], _] _ _); refine (H1.out _ (Below.refl _ _).drew).mono ?_; rintro e wA ⟨rfl, hba⟩; have hbA : Below wr.heap.size wr wA := (Below.refl _ _).drew.trans (hba.mono (Nat.le_refl _)))
            | (go_at_call 45; (with_reducible show Calls _ _ #[.agg #[.int .i64 _, .slice a2 _ _], _] _ _); refine (H2.out _ (Below.refl _ _).drew).mono ?_; rintro e wA ⟨rfl, hba⟩; have hbA : Below wr.heap.size wr wA := (Below.refl _ _).drew.trans (hba.mono (Nat.le_refl _))))
        all_goals go_wp2_with fail
        all_goals go_meet
        all_goals exact ⟨rfl, rfl, hbB⟩
      case rest =>
        obtain ⟨rfl, rfl, hbc⟩ := hcut
        clear H1 H2 c10 c11 f1 c20 c21 f2
        have b1c := b1r.below hbc
        have b2c := b2r.below hbc
        have b3c := b3r.below hbc
        have bRc := bRr.below hbc
        have hc1c := hc1r.below hbc
        have hc2c := hc2r.below hbc
        have hgc : Blk wc g zr := hgr.below hbc
        have hbrc := hbr.trans (hbc.mono hbr.size)
        clear b1r b2r b3r bRr hc1r hc2r hgr hbc hbr
        cases hcj : cj 1 p q
        · have HT' : Hid (build (fun k => cj 1 (gb zs k) (gb ys k)) n (k + 1) = zr) := by
            show build (fun k => cj 1 (gb zs k) (gb ys k)) n (k + 1) = zr
            rw [HT.out, hcj]; rfl
          clear HT
          rcases p with _ | _ <;> rcases q with _ | _
          all_goals first
            | (exact absurd hcj (by decide))
            | clear hcj
          all_goals
            go_wp2
            go_roundw
            case rel => exact ⟨k + 1, by omega, by go_num, hbrc, b1c, b2c, b3c, bRc, hc1c, hc2c, by rw [HT'.out]; exact hgc⟩
            case measure => simp [intOf]; omega
        · have HT' : Hid (build (fun k => cj 1 (gb zs k) (gb ys k)) n (k + 1) = turn1 (bits .or .u64) zr k) := by
            show build (fun k => cj 1 (gb zs k) (gb ys k)) n (k + 1) = _
            rw [HT.out, hcj]; rfl
          clear HT
          have hkn := HX.out k hlt
          obtain ⟨pq, hpp⟩ : ∃ p, p = k / 64 := ⟨_, rfl⟩
          have hp : (k : Int) / 64 = (pq : Int) := by omega
          have hpn : pq < n := by omega
          have hy3 : IntKind.i64.wrap (pq : Int) = (pq : Int) := IntWalk.i64_in _ ⟨by omega, by omega⟩
          have hy4 : (k : Int).tdiv 64 = (pq : Int) := (Int.tdiv_eq_ediv_of_nonneg (by omega)).trans hp
          have hy5 : (k : Int).tmod 64 = (k : Int) % 64 := Int.tmod_eq_emod_of_nonneg (by omega)
          have hy6 := wrap_wbit (k : Int)
          have hy7 : 0 ≤ (k : Int) % 64 := by omega
          have hy8 : (0 : Int) ≤ (pq : Int) := by omega
          have hy9 : (pq : Int) < (n : Int) := by omega
          have hpl : pq < zr.length := by omega
          have g1 := hgc.cell pq hpl
          have g2 := hgc.frozen
          obtain ⟨o0, o1, o2⟩ := bRc.all
          have HZ1 : Hid (∀ b off, a1 = some ⟨b, off, none⟩ → b ≠ g) := fun b off h1 => by
            have := HAB1.out b off h1 (fun h => by subst h; simp at hz; omega)
            omega
          have HZ2 : Hid (∀ b off, a2 = some ⟨b, off, none⟩ → b ≠ g) := fun b off h1 => by
            have := HAB2.out b off h1 (fun h => by subst h; simp at hy; omega)
            omega
          clear hpp hkn
          rcases p with _ | _ <;> rcases q with _ | _
          all_goals first
            | (exact absurd hcj (by decide))
            | clear hcj
          all_goals
            go_wp2
            refine wp_region_still_tail 15 (by kernel_rfl) (by kernel_rfl) ?_
            simp only [List.take_succ_cons, List.take_zero, List.drop_succ_cons, List.drop_zero]
            change wpStill _ _ (World.drew wc) (fun a' => wpList _ _ _ _ a' (World.drew wc)) _ _
            iterate 15 still_step
            refine wpStill_nil ?_
            go_wp2
            go_roundw
            case rel => exact ⟨k + 1, by omega, by go_num, (hbrc.setCell hd5' _).drew, (b1c.set hd1' _).drew, (b2c.set hd2' _).drew, (b3c.set hd3' _).drew, (bRc.set hd4' _).drew, (hc1c.set HZ1.out _).drew, (hc2c.set HZ2.out _).drew, blk_step HT' hp hpl hgc⟩
            case measure => simp [intOf]; omega
    · have hke : k = xn := by omega
      subst hke
      obtain ⟨c30, c31, f3⟩ := b3r.all
      obtain ⟨o0, o1, o2⟩ := bRr.all
      go_wp2
      refine bodyPost_ret (v := .tuple #[.agg #[.int .i64 k, .slice (some ⟨g, 0, none⟩) n n], .int .i64 0]) (by simp [results, Tryd.results29, go_sem, c30, c31]) rfl ⟨g, rfl, hd5', ?_, ?_⟩
      · exact (hgr.at.set hd6' _).set hd6' _
      · exact below_setTwo hbr (by omega) _ _
theorem refJoin1_any (x y : Int) (a1 a2 : Option Addr) (n1 n2 cap1 cap2 : Nat) (zs ys : List Int) (w : World) (hz1 : zs.length = n1) (hm1 : n1 ≤ maxLen) (hw1 : Words zs) (hc1 : Cells w a1 zs) (hz2 : ys.length = n2) (hm2 : n2 ≤ maxLen) (hw2 : Words ys) (hc2 : Cells w a2 ys) :
    Calls Tryd.prog 29 #[.agg #[.int .i64 x, .slice a1 n1 cap1], .agg #[.int .i64 y, .slice a2 n2 cap2], .int .i64 1] w fun e w' => ∃ aa cc, e = .returned (.tuple #[.agg #[.int .i64 (jx x y zs ys), .slice aa (jz 1 x y zs ys).length cc], .int .i64 (je x y zs ys)]) ∧ Mine w' w.heap.size aa (jz 1 x y zs ys).length cc (jz 1 x y zs ys) ∧ Below w.heap.size w w' := by
  cases hY : bothB x y zs ys
  · refine (refJoin_no x y 1 a1 a2 n1 n2 cap1 cap2 zs ys w hz1 hm1 hw1 hc1 hz2 hm2 hw2 hc2 hY).mono fun e w' h => ?_
    simp only [jx, jz, je, hY]
    exact ⟨none, 0, h.1, mine_none _ _, h.2⟩
  · obtain ⟨h1, h2, h3, h4⟩ := both_parts hY
    subst h3
    have hn : n2 = n1 := by omega
    subst hn
    have hw := mayB_width h1
    obtain ⟨xn, rfl⟩ := Int.eq_ofNat_of_zero_le hw.1
    refine (refJoin1_yes xn a1 a2 n2 cap1 cap2 zs ys w hz1 hz2 hw1 hw2 hc1 hc2 h1 h2).mono fun e w' h => ?_
    obtain ⟨g, k1, k2, k3, k4⟩ := h
    rw [← join_eq 1 hz1 hz2 hw1 hw2 h1 h2] at k3
    have hl' : (jn (opj 1) zs ys).length = n2 := jn_len _ _ _ hz1 hz2
    simp only [jx, jz, je, hY, if_true]
    rw [hl']
    refine ⟨some ⟨g, 0, none⟩, n2, k1, ?_, k4⟩
    have := k3.mine k2 (by unfold maxLen; omega)
    rw [hl'] at this
    exact this

set_option maxRecDepth 20000 in
set_option maxHeartbeats 2000000 in
theorem refJoin2_yes (xn : Nat) (a1 a2 : Option Addr) (n cap1 cap2 : Nat) (zs ys : List Int) (w : World) (hz : zs.length = n) (hy : ys.length = n) (hwz : Words zs) (hwy : Words ys) (hc1 : Cells w a1 zs) (hc2 : Cells w a2 ys) (hm1 : mayB (xn : Int) zs = true) (hm2 : mayB (xn : Int) ys = true) :
    Calls Tryd.prog 29 #[.agg #[.int .i64 xn, .slice a1 n cap1], .agg #[.int .i64 xn, .slice a2 n cap2], .int .i64 2] w fun e w' => ∃ g, e = .returned (.tuple #[.agg #[.int .i64 xn, .slice (some ⟨g, 0, none⟩) n n], .int .i64 0]) ∧ w.heap.size ≤ g ∧ Blk w' g (build (fun k => cj 2 (gb zs k) (gb ys k)) n xn) ∧ Below w.heap.size w w' := by
  obtain ⟨q1, q2, q3⟩ := mayB_width hm1
  have hn17 : n ≤ 17 := by omega
  have hxn : xn ≤ 64 * n := by omega
  have hnn : (n : Int) = ((xn : Int) + 63) / 64 := by omega
  have b1 := ((At.new w (Two (.int .i64 xn) (.slice a1 n cap1))).alloc (Two (.int .i64 xn) (.slice a2 n cap2))).alloc (Two (.int .i64 0) (.slice none 0 0))
  have b2 := (At.new (w.alloc (Two (.int .i64 xn) (.slice a1 n cap1))) (Two (.int .i64 xn) (.slice a2 n cap2))).alloc (Two (.int .i64 0) (.slice none 0 0))
  have b3 := At.new ((w.alloc (Two (.int .i64 xn) (.slice a1 n cap1))).alloc (Two (.int .i64 xn) (.slice a2 n cap2))) (Two (.int .i64 0) (.slice none 0 0))
  simp only [World.size_alloc] at b2 b3
  have hd1 := ((hc1.alloc (Two (.int .i64 xn) (.slice a1 n cap1))).alloc (Two (.int .i64 xn) (.slice a2 n cap2))).alloc (Two (.int .i64 0) (.slice none 0 0))
  have hd2 := ((hc2.alloc (Two (.int .i64 xn) (.slice a1 n cap1))).alloc (Two (.int .i64 xn) (.slice a2 n cap2))).alloc (Two (.int .i64 0) (.slice none 0 0))
  have hb : bothB (xn : Int) (xn : Int) zs ys = true := by simp [bothB, hm1, hm2]
  have H := both_any xn xn a1 a2 n n cap1 cap2 zs ys _ hz (by unfold maxLen; omega) hwz hd1 hy (by unfold maxLen; omega) hwy hd2
  rw [hb] at H
  have HAB1 : Hid (∀ b off, a1 = some ⟨b, off, none⟩ → zs ≠ [] → b < w.heap.size) := hc1.lt
  have HAB2 : Hid (∀ b off, a2 = some ⟨b, off, none⟩ → ys ≠ [] → b < w.heap.size) := hc2.lt
  have HX : Hid (∀ k, k < xn → k / 64 < n) := fun k hk => by omega
  have HNN : Hid ((n : Int) = ((xn : Int) + 63) / 64) := hnn
  clear hb hm1 hm2 hc1 hc2 q3 hnn
  go_enter Tryd.func29, Tryd.ntmps29
  go_wp2_with (first
    | (go_at_call 32; refine H.mono ?_; clear H; rintro e w1 ⟨rfl, hb1⟩; have b11 := b1.below hb1; have b21 := b2.below hb1; have b31 := b3.below hb1; have hd11 := hd1.below hb1; have hd21 := hd2.below hb1; have hB1 := below3' hb1; obtain ⟨c10, c11, f1⟩ := b11.all; clear b1 b2 b3 hd1 hd2 hb1)
    | (go_at_call 41; refine (none_any _ n _ (by omega) (by omega) HNN.out).mono ?_; rintro e w2 ⟨g, rfl, hgw, hblk, hb2⟩))
  have bR := At.new w2 (Two (.int .i64 xn) (.slice (some ⟨g, 0, none⟩) n n))
  have hal := (Below.refl w2.heap.size w2).alloc (Nat.le_refl _) (Two (.int .i64 xn) (.slice (some ⟨g, 0, none⟩) n n))
  have b12 := (b11.below hb2).below hal
  have b22 := (b21.below hb2).below hal
  have b32 := (b31.below hb2).below hal
  have hd12 := (hd11.below hb2).below hal
  have hd22 := (hd21.below hb2).below hal
  have hg2 : Blk (w2.alloc (Two (.int .i64 xn) (.slice (some ⟨g, 0, none⟩) n n))) g (List.replicate n 0) := hblk.alloc _
  have hB2 : Below w.heap.size w (w2.alloc (Two (.int .i64 xn) (.slice (some ⟨g, 0, none⟩) n n))) := (hB1.trans (hb2.mono hB1.size)).alloc (Nat.le_trans hB1.size hb2.size) _
  have hgl := hblk.lt
  have hs3 := b31.lt
  have hs2 := hb2.size
  have hd1' : w.heap.size ≠ g := by omega
  have hd2' : w.heap.size + 1 ≠ g := by omega
  have hd3' : w.heap.size + 1 + 1 ≠ g := by omega
  have hd4' : w2.heap.size ≠ g := by omega
  have hd5' : w.heap.size ≤ g := by omega
  have hd6' : g ≠ w.heap.size + 1 + 1 := by omega
  clear b11 b21 b31 hd11 hd21 hB1 hb2 hal hblk c10 c11 f1
  go_loopw [9] (fun i wr => ∃ k : Nat, k ≤ xn ∧ i = .int .i64 k ∧ Below w.heap.size w wr ∧ At wr w.heap.size (Two (.int .i64 xn) (.slice a1 n cap1)) ∧ At wr (w.heap.size + 1) (Two (.int .i64 xn) (.slice a2 n cap2)) ∧ At wr (w.heap.size + 1 + 1) (Two (.int .i64 0) (.slice none 0 0)) ∧ At wr w2.heap.size (Two (.int .i64 xn) (.slice (some ⟨g, 0, none⟩) n n)) ∧ Cells wr a1 zs ∧ Cells wr a2 ys ∧ Blk wr g (build (fun k => cj 2 (gb zs k) (gb ys k)) n k)) (fun i _ => xn - (intOf i).toNat)
  case atStart => exact ⟨0, Nat.zero_le _, rfl, hB2, b12, b22, b32, bR, hd12, hd22, hg2⟩
  case round =>
    obtain ⟨k, hk, rfl, hbr, b1r, b2r, b3r, bRr, hc1r, hc2r, hgr⟩ := hrel
    clear b12 b22 b32 bR hd12 hd22 hg2 hB2
    obtain ⟨c10, c11, f1⟩ := b1r.all
    by_cases hlt : k < xn
    · obtain ⟨c20, c21, f2⟩ := b2r.all
      have hkx : (k : Int) < (xn : Int) := by omega
      have hk64 : k < 64 * n := by omega
      obtain ⟨p, hp⟩ : ∃ p, gb zs k = p := ⟨_, rfl⟩
      obtain ⟨q, hq⟩ : ∃ q, gb ys k = q := ⟨_, rfl⟩
      have H1 : Hid (∀ W, Below wr.heap.size wr W → Calls Tryd.prog 45 #[.agg #[.int .i64 xn, .slice a1 n cap1], .int .i64 k] W fun e w' => e = .returned (.bool p) ∧ Below W.heap.size W w') := fun W h => is_gb xn k p a1 n cap1 zs W hz hn17 hwz (hc1r.below h) hk64 hp
      have H2 : Hid (∀ W, Below wr.heap.size wr W → Calls Tryd.prog 45 #[.agg #[.int .i64 xn, .slice a2 n cap2], .int .i64 k] W fun e w' => e = .returned (.bool q) ∧ Below W.heap.size W w') := fun W h => is_gb xn k q a2 n cap2 ys W hy hn17 hwy (hc2r.below h) hk64 hq
      obtain ⟨zr, hzr⟩ : ∃ zr, zr = build (fun k => cj 2 (gb zs k) (gb ys k)) n k := ⟨_, rfl⟩
      have hzl : zr.length = n := by rw [hzr, build_len]
      have HT : Hid (build (fun k => cj 2 (gb zs k) (gb ys k)) n (k + 1) = putW (cj 2 p q) zr k) := by
        show putW (cj 2 (gb zs k) (gb ys k)) (build (fun k => cj 2 (gb zs k) (gb ys k)) n k) k = _
        rw [hp, hq, hzr]
      rw [← hzr] at hgr
      clear hp hq hzr
      go_wp2
      go_cut [10, 11] from 20 to 75 (fun u v wx => u = .bool p ∧ v = .bool q ∧ Below wr.heap.size wr wx)
      case first =>
        go_region_held3 (fun w' => w'.cell? ⟨w.heap.size, 0, none⟩ = some (.int .i64 xn) ∧ w'.cell? ⟨w.heap.size, 1, none⟩ = some (.slice a1 n cap1) ∧ w'.cell? ⟨w.heap.size + 1, 0, none⟩ = some (.int .i64 xn) ∧ w'.cell? ⟨w.heap.size + 1, 1, none⟩ = some (.slice a2 n cap2))
          (first | (exact ⟨(b1r.below hbB).all.1, (b1r.below hbB).all.2.1, (b2r.below hbB).all.1, (b2r.below hbB).all.2.1⟩) | (exact ⟨(b1r.below hbA).all.1, (b1r.below hbA).all.2.1, (b2r.below hbA).all.1, (b2r.below hbA).all.2.1⟩) | go_keep)
          (first
            | (go_at_call 45; (with_reducible show Calls _ _ #[.agg #[.int .i64 _, .slice a1 _ _], _] _ _); refine (H1.out _ hbA).mono ?_; rintro e wB ⟨rfl, hbb⟩; have hbB : Below wr.heap.size wr wB := hbA.trans (hbb.mono hbA.size))
            | (go_at_call 45; (with_reducible show Calls _ _ #[.agg #[.int .i64 _, .slice a2 _ _], _] _ _); refine (H2.out _ hbA).mono ?_; rintro e wB ⟨rfl, hbb⟩; have hbB : Below wr.heap.size wr wB := hbA.trans (hbb.mono hbA.size))
            | (go_at_call 45; (with_reducible show Calls _ _ #[.agg #[.int .i64 _, .slice a1 _ _], _] _ _); refine (H1.out _ (Below.refl _ _).drew).mono ?_; rintro e wA ⟨rfl, hba⟩; have hbA : Below wr.heap.size wr wA := (Below.refl _ _).drew.trans (hba.mono (Nat.le_refl _)))
            | (go_at_call 45; (with_reducible show Calls _ _ #[.agg #[.int .i64 _, .slice a2 _ _], _] _ _); refine (H2.out _ (Below.refl _ _).drew).mono ?_; rintro e wA ⟨rfl, hba⟩; have hbA : Below wr.heap.size wr wA := (Below.refl _ _).drew.trans (hba.mono (Nat.le_refl _))))
        all_goals go_wp2_with fail
        all_goals go_meet
        all_goals exact ⟨rfl, rfl, hbB⟩
      case rest =>
        obtain ⟨rfl, rfl, hbc⟩ := hcut
        clear H1 H2 c10 c11 f1 c20 c21 f2
        have b1c := b1r.below hbc
        have b2c := b2r.below hbc
        have b3c := b3r.below hbc
        have bRc := bRr.below hbc
        have hc1c := hc1r.below hbc
        have hc2c := hc2r.below hbc
        have hgc : Blk wc g zr := hgr.below hbc
        have hbrc := hbr.trans (hbc.mono hbr.size)
        clear b1r b2r b3r bRr hc1r hc2r hgr hbc hbr
        cases hcj : cj 2 p q
        · have HT' : Hid (build (fun k => cj 2 (gb zs k) (gb ys k)) n (k + 1) = zr) := by
            show build (fun k => cj 2 (gb zs k) (gb ys k)) n (k + 1) = zr
            rw [HT.out, hcj]; rfl
          clear HT
          rcases p with _ | _ <;> rcases q with _ | _
          all_goals first
            | (exact absurd hcj (by decide))
            | clear hcj
          all_goals
            go_wp2
            go_roundw
            case rel => exact ⟨k + 1, by omega, by go_num, hbrc, b1c, b2c, b3c, bRc, hc1c, hc2c, by rw [HT'.out]; exact hgc⟩
            case measure => simp [intOf]; omega
        · have HT' : Hid (build (fun k => cj 2 (gb zs k) (gb ys k)) n (k + 1) = turn1 (bits .or .u64) zr k) := by
            show build (fun k => cj 2 (gb zs k) (gb ys k)) n (k + 1) = _
            rw [HT.out, hcj]; rfl
          clear HT
          have hkn := HX.out k hlt
          obtain ⟨pq, hpp⟩ : ∃ p, p = k / 64 := ⟨_, rfl⟩
          have hp : (k : Int) / 64 = (pq : Int) := by omega
          have hpn : pq < n := by omega
          have hy3 : IntKind.i64.wrap (pq : Int) = (pq : Int) := IntWalk.i64_in _ ⟨by omega, by omega⟩
          have hy4 : (k : Int).tdiv 64 = (pq : Int) := (Int.tdiv_eq_ediv_of_nonneg (by omega)).trans hp
          have hy5 : (k : Int).tmod 64 = (k : Int) % 64 := Int.tmod_eq_emod_of_nonneg (by omega)
          have hy6 := wrap_wbit (k : Int)
          have hy7 : 0 ≤ (k : Int) % 64 := by omega
          have hy8 : (0 : Int) ≤ (pq : Int) := by omega
          have hy9 : (pq : Int) < (n : Int) := by omega
          have hpl : pq < zr.length := by omega
          have g1 := hgc.cell pq hpl
          have g2 := hgc.frozen
          obtain ⟨o0, o1, o2⟩ := bRc.all
          have HZ1 : Hid (∀ b off, a1 = some ⟨b, off, none⟩ → b ≠ g) := fun b off h1 => by
            have := HAB1.out b off h1 (fun h => by subst h; simp at hz; omega)
            omega
          have HZ2 : Hid (∀ b off, a2 = some ⟨b, off, none⟩ → b ≠ g) := fun b off h1 => by
            have := HAB2.out b off h1 (fun h => by subst h; simp at hy; omega)
            omega
          clear hpp hkn
          rcases p with _ | _ <;> rcases q with _ | _
          all_goals first
            | (exact absurd hcj (by decide))
            | clear hcj
          all_goals
            go_wp2
            refine wp_region_still_tail 15 (by kernel_rfl) (by kernel_rfl) ?_
            simp only [List.take_succ_cons, List.take_zero, List.drop_succ_cons, List.drop_zero]
            change wpStill _ _ (World.drew wc) (fun a' => wpList _ _ _ _ a' (World.drew wc)) _ _
            iterate 15 still_step
            refine wpStill_nil ?_
            go_wp2
            go_roundw
            case rel => exact ⟨k + 1, by omega, by go_num, (hbrc.setCell hd5' _).drew, (b1c.set hd1' _).drew, (b2c.set hd2' _).drew, (b3c.set hd3' _).drew, (bRc.set hd4' _).drew, (hc1c.set HZ1.out _).drew, (hc2c.set HZ2.out _).drew, blk_step HT' hp hpl hgc⟩
            case measure => simp [intOf]; omega
    · have hke : k = xn := by omega
      subst hke
      obtain ⟨c30, c31, f3⟩ := b3r.all
      obtain ⟨o0, o1, o2⟩ := bRr.all
      go_wp2
      refine bodyPost_ret (v := .tuple #[.agg #[.int .i64 k, .slice (some ⟨g, 0, none⟩) n n], .int .i64 0]) (by simp [results, Tryd.results29, go_sem, c30, c31]) rfl ⟨g, rfl, hd5', ?_, ?_⟩
      · exact (hgr.at.set hd6' _).set hd6' _
      · exact below_setTwo hbr (by omega) _ _
theorem refJoin2_any (x y : Int) (a1 a2 : Option Addr) (n1 n2 cap1 cap2 : Nat) (zs ys : List Int) (w : World) (hz1 : zs.length = n1) (hm1 : n1 ≤ maxLen) (hw1 : Words zs) (hc1 : Cells w a1 zs) (hz2 : ys.length = n2) (hm2 : n2 ≤ maxLen) (hw2 : Words ys) (hc2 : Cells w a2 ys) :
    Calls Tryd.prog 29 #[.agg #[.int .i64 x, .slice a1 n1 cap1], .agg #[.int .i64 y, .slice a2 n2 cap2], .int .i64 2] w fun e w' => ∃ aa cc, e = .returned (.tuple #[.agg #[.int .i64 (jx x y zs ys), .slice aa (jz 2 x y zs ys).length cc], .int .i64 (je x y zs ys)]) ∧ Mine w' w.heap.size aa (jz 2 x y zs ys).length cc (jz 2 x y zs ys) ∧ Below w.heap.size w w' := by
  cases hY : bothB x y zs ys
  · refine (refJoin_no x y 2 a1 a2 n1 n2 cap1 cap2 zs ys w hz1 hm1 hw1 hc1 hz2 hm2 hw2 hc2 hY).mono fun e w' h => ?_
    simp only [jx, jz, je, hY]
    exact ⟨none, 0, h.1, mine_none _ _, h.2⟩
  · obtain ⟨h1, h2, h3, h4⟩ := both_parts hY
    subst h3
    have hn : n2 = n1 := by omega
    subst hn
    have hw := mayB_width h1
    obtain ⟨xn, rfl⟩ := Int.eq_ofNat_of_zero_le hw.1
    refine (refJoin2_yes xn a1 a2 n2 cap1 cap2 zs ys w hz1 hz2 hw1 hw2 hc1 hc2 h1 h2).mono fun e w' h => ?_
    obtain ⟨g, k1, k2, k3, k4⟩ := h
    rw [← join_eq 2 hz1 hz2 hw1 hw2 h1 h2] at k3
    have hl' : (jn (opj 2) zs ys).length = n2 := jn_len _ _ _ hz1 hz2
    simp only [jx, jz, je, hY, if_true]
    rw [hl']
    refine ⟨some ⟨g, 0, none⟩, n2, k1, ?_, k4⟩
    have := k3.mine k2 (by unfold maxLen; omega)
    rw [hl'] at this
    exact this
end Go.Proofs.YtddjmhfcaeckgaaDoor
