import Derived.Test.YtddjmhfcaeckgaaDoorZg
import Derived.Test.YtddjmhfcaeckgaaDoorZh
import Derived.RangeFuncFrom
import Derived.RangeFuncBox
namespace Go.Proofs.YtddjmhfcaeckgaaDoor
open Go.RowKit Go.Shelf
attribute [local go_sem] Oper.semAt_some
set_option linter.unusedVariables false
set_option linter.unusedSimpArgs false

theorem each2_stops (nn Bx g n cap : Nat) (hnn : 1 ≤ nn) (x : Int) (zs : List Int) (hz : zs.length = n) (hn : n ≤ 17) (hwd : Words zs) (w : World) (hbx : At w Bx (Two (.int .i64 x) (.slice (some ⟨g, 0, none⟩) n cap))) (hg : Blk w g zs) (hT : Tab w) :
    SeqStopsK Fence.wide nn Tryd.prog 47 #[.pointer (some ⟨Bx, 0, none⟩)] (fun k : K => #[.int .i64 (k.1 : Int)]) (Two2 g) (fun xs => ks xs = rs (gb zs) 0 (64 * n)) (fun pre => ks pre <+: rs (gb zs) 0 (64 * n)) (rs (gb zs) 0 (64 * n)).length w :=
  fun l J Jx W hW hJ hJx hY h0 => each2_in nn l Bx g n cap hnn x zs hz hn hwd J Jx hY W (hbx.below hW) (hg.below hW) (hT.belowAll hW) h0

/-- A row may be if it has no bits behind its width. -/
theorem mayB_of {xn n : Nat} {zs : List Int} (h1 : xn ≤ 1032) (hl : zs.length = n) (hn : (n : Int) = ((xn : Int) + 63) / 64) (hw : Wd zs) (hf : ∀ k, xn ≤ k → k < 64 * n → gb zs k = false) : mayB (xn : Int) zs = true := by
  unfold mayB
  rw [hl, decide_eq_true hn, decide_eq_true (show (0 : Int) ≤ (xn : Int) by omega), decide_eq_true (show (xn : Int) ≤ 1032 by omega)]
  by_cases hx : (xn : Int) % 64 = 0
  · rw [decide_eq_true hx]; rfl
  · rw [decide_eq_false hx]
    have e : (((xn : Int)) % 64).toNat = xn % 64 := by omega
    rw [e]
    obtain ⟨m, hm⟩ := Int.eq_ofNat_of_zero_le (hw (n - 1)).1
    have hmlt : (m : Int) < 18446744073709551616 := by rw [← hm]; exact (hw (n - 1)).2
    rw [hm]
    have hlt : m < 2 ^ (xn % 64) := by
      apply Nat.lt_pow_two_of_testBit
      intro i hi
      by_cases h64 : i < 64
      · have := hf (64 * (n - 1) + i) (by omega) (by omega)
        unfold gb tb at this
        rw [show (64 * (n - 1) + i) / 64 = n - 1 by omega, show (64 * (n - 1) + i) % 64 = i by omega, hm, Int.toNat_natCast] at this
        exact this
      · apply Nat.testBit_lt_two_pow
        have : (2 : Nat) ^ 64 ≤ 2 ^ i := Nat.pow_le_pow_right (by decide) (by omega)
        omega
    have hd : m / 2 ^ (xn % 64) = 0 := Nat.div_eq_of_lt hlt
    rw [div_nat, hd]
    rfl
theorem jn_may {x : Int} {n : Nat} {zs ys : List Int} (how : Nat) (hz : zs.length = n) (hy : ys.length = n) (hwz : Words zs) (hwy : Words ys) (hmz : mayB x zs = true) (hmy : mayB x ys = true) : mayB x (jn (opj how) zs ys) = true := by
  obtain ⟨w1, w2, w3⟩ := mayB_width hmz
  obtain ⟨xn, rfl⟩ := Int.eq_ofNat_of_zero_le w1
  refine mayB_of (n := n) (by omega) (jn_len _ _ _ hz hy) (by omega) (jn_words _ _ _ hz hy) fun k h1 h2 => ?_
  rw [gb_jn how hz hy hwz hwy h2, mayB_high hmz hwz h1 (by omega), mayB_high hmy hwy h1 (by omega)]
  unfold cj
  split <;> rfl

theorem each_yes (x : Int) (a : Option Addr) (n cap : Nat) (zs : List Int) (w : World) (hz : zs.length = n) (hc : Cells w a zs) (hy : mayB x zs = true) :
    Calls Tryd.prog 20 #[.agg #[.int .i64 x, .slice a n cap]] w fun e w' => ∃ b g', e = .returned (.func (.func 47) #[] #[.pointer (some ⟨b, 0, none⟩)]) ∧ At w' b (Two (.int .i64 x) (.slice (some ⟨g', 0, none⟩) n n)) ∧ Blk w' g' zs ∧ w.heap.size ≤ b ∧ w.heap.size ≤ g' ∧ Below w.heap.size w w' := by
  have b1 := At.new w (Two (.int .i64 x) (.slice a n cap))
  have hd := hc.alloc (Two (.int .i64 x) (.slice a n cap))
  go_enter Tryd.func20, Tryd.ntmps20
  go_wp2_with (go_at_call 16; refine (own_yes _ _ _ _ zs _ hz hd hy).mono ?_; rintro e w1 ⟨g', rfl, hg', hblk, hb1⟩)
  go_ret
  have hB := below1 hb1
  exact ⟨_, g', rfl, At.new _ _, hblk.at.alloc _, hB.size, by simp at hg'; omega, hB.alloc hB.size _⟩
theorem each_no (x : Int) (a : Option Addr) (n cap : Nat) (zs : List Int) (w : World) (hz : zs.length = n) (hm : n ≤ maxLen) (hc : Cells w a zs) (hy : mayB x zs = false) :
    Calls Tryd.prog 20 #[.agg #[.int .i64 x, .slice a n cap]] w fun e w' => e = .returned (.func (.func 46) #[] #[]) ∧ Below w.heap.size w w' := by
  have hd := hc.alloc (Two (.int .i64 x) (.slice a n cap))
  go_enter Tryd.func20, Tryd.ntmps20
  go_wp2_with (go_at_call 16; refine (own_no _ _ _ _ zs _ hz hm hd hy).mono ?_; rintro e w1 ⟨rfl, hb1⟩)
  go_ret
  have hB := below1 hb1
  exact ⟨rfl, hB.alloc hB.size _⟩

theorem cell_setOther {W : World} {p b : Nat} (h : b ≠ p) (u : Value) : (W.setCell ⟨p, 0, none⟩ u).cell? ⟨b, 0, none⟩ = W.cell? ⟨b, 0, none⟩ := World.cell?_of_block (Below.heap_setCell W ⟨p, 0, none⟩ u b h)
theorem three_set {W : World} {p q r : Nat} (hpq : p ≠ q) (hpr : p ≠ r) (hqr : q ≠ r) {vp vq vr : Value} (up uq ur : Value) (hp : W.cell? ⟨p, 0, none⟩ = some vp) (hq : W.cell? ⟨q, 0, none⟩ = some vq) (hr : W.cell? ⟨r, 0, none⟩ = some vr) :
    (((W.setCell ⟨p, 0, none⟩ up).setCell ⟨q, 0, none⟩ uq).setCell ⟨r, 0, none⟩ ur).cell? ⟨p, 0, none⟩ = some up ∧ (((W.setCell ⟨p, 0, none⟩ up).setCell ⟨q, 0, none⟩ uq).setCell ⟨r, 0, none⟩ ur).cell? ⟨q, 0, none⟩ = some uq ∧ (((W.setCell ⟨p, 0, none⟩ up).setCell ⟨q, 0, none⟩ uq).setCell ⟨r, 0, none⟩ ur).cell? ⟨r, 0, none⟩ = some ur := by
  refine ⟨?_, ?_, ?_⟩
  · rw [cell_setOther hpr, cell_setOther hpq]
    exact World.cell?_setCell_same' _ _ _ (by rw [hp]; rfl)
  · rw [cell_setOther hqr]
    exact World.cell?_setCell_same' _ _ _ (by rw [cell_setOther hpq.symm, hq]; rfl)
  · exact World.cell?_setCell_same' _ _ _ (by rw [cell_setOther hqr.symm, cell_setOther hpr.symm, hr]; rfl)
theorem three_keeps (W : World) (p q r : Addr) (up uq ur : Value) : KeepsOthers W (((W.setCell p up).setCell q uq).setCell r ur) := ((KeepsOthers.setCell _ _ _).trans (KeepsOthers.setCell _ _ _)).trans (KeepsOthers.setCell _ _ _)
set_option maxRecDepth 100000 in
set_option maxHeartbeats 2000000 in
theorem first_yes (x : Int) (a1 a2 : Option Addr) (n cap1 cap2 : Nat) (zs ys : List Int) (w : World) (hz : zs.length = n) (hy : ys.length = n) (hwz : Words zs) (hwy : Words ys) (hc1 : Cells w a1 zs) (hc2 : Cells w a2 ys) (hm1 : mayB x zs = true) (hm2 : mayB x ys = true) (hT : Tab w) :
    Calls Tryd.prog 31 #[.agg #[.int .i64 x, .slice a1 n cap1], .agg #[.int .i64 x, .slice a2 n cap2]] w fun e w' => e = .returned (.tuple #[.int .i64 (((rs (gb (jn .andNot ys zs)) 0 (64 * n)).headD 0 : Nat) : Int), .bool (!(rs (gb (jn .andNot ys zs)) 0 (64 * n)).isEmpty), .int .i64 0]) ∧ Below w.heap.size w w' := by
  obtain ⟨hw1, hw2, hw3⟩ := mayB_width hm1
  have hn17 : n ≤ 17 := by omega
  have hlm : mayB x (jn .andNot ys zs) = true := jn_may 2 hy hz hwy hwz hm2 hm1
  have hll : (jn .andNot ys zs).length = n := jn_len _ _ _ hy hz
  have hlw : Words (jn .andNot ys zs) := jn_words _ _ _ hy hz
  obtain ⟨W5, hW5⟩ : ∃ W5, W5 = ((((w.alloc (Two (.int .i64 x) (.slice a1 n cap1))).alloc (Two (.int .i64 x) (.slice a2 n cap2))).alloc (One (.int .i64 0) 3)).alloc (One (.bool false) 4)).alloc (One (.int .i64 0) 28) := ⟨_, rfl⟩
  have hB5 : Below w.heap.size w W5 := by rw [hW5]; exact (((((Below.refl _ _).alloc (Nat.le_refl _) _).alloc (by simp) _).alloc (by simp; omega) _).alloc (by simp; omega) _).alloc (by simp; omega) _
  have bk : At W5 (w.heap.size + 1 + 1) (One (.int .i64 0) 3) := by
    rw [hW5]
    have := ((At.new ((w.alloc (Two (.int .i64 x) (.slice a1 n cap1))).alloc (Two (.int .i64 x) (.slice a2 n cap2))) (One (.int .i64 0) 3)).alloc (One (.bool false) 4)).alloc (One (.int .i64 0) 28)
    simpa only [World.size_alloc] using this
  have bo : At W5 (w.heap.size + 1 + 1 + 1) (One (.bool false) 4) := by
    rw [hW5]
    have := (At.new (((w.alloc (Two (.int .i64 x) (.slice a1 n cap1))).alloc (Two (.int .i64 x) (.slice a2 n cap2))).alloc (One (.int .i64 0) 3)) (One (.bool false) 4)).alloc (One (.int .i64 0) 28)
    simpa only [World.size_alloc] using this
  have be : At W5 (w.heap.size + 1 + 1 + 1 + 1) (One (.int .i64 0) 28) := by
    rw [hW5]
    have := At.new ((((w.alloc (Two (.int .i64 x) (.slice a1 n cap1))).alloc (Two (.int .i64 x) (.slice a2 n cap2))).alloc (One (.int .i64 0) 3)).alloc (One (.bool false) 4)) (One (.int .i64 0) 28)
    simpa only [World.size_alloc] using this
  have hd1 := hc1.below hB5
  have hd2 := hc2.below hB5
  have HW5 : Hid (((((w.alloc (.cells #[.int .i64 x, .slice a1 n cap1] 24)).alloc (.cells #[.int .i64 x, .slice a2 n cap2] 24)).alloc (.cells #[.int .i64 0] 3)).alloc (.cells #[.bool false] 4)).alloc (.cells #[.int .i64 0] 28) = W5) := hW5.symm
  clear hW5
  have HLess : Hid (Calls Tryd.prog 28 #[.agg #[.int .i64 x, .slice a2 n cap2], .agg #[.int .i64 x, .slice a1 n cap1]] W5 fun e w' => ∃ g, e = .returned (.tuple #[.agg #[.int .i64 x, .slice (some ⟨g, 0, none⟩) n n], .int .i64 0]) ∧ W5.heap.size ≤ g ∧ Blk w' g (jn .andNot ys zs) ∧ Below W5.heap.size W5 w') := less_yes x a2 a1 n cap2 cap1 ys zs W5 hy hz hd2 hd1 hm2 hm1
  refine (callsIn_wide (n := 3)).1 ?_
  refine callsIn_of_wp_marks Tryd.func31 rfl trivial ?_ rfl
  simp only [Tryd.ntmps31, List.size_toArray, List.length_cons, List.length_nil, Nat.reduceAdd, Nat.reduceSub, Array.replicate_succ, Array.replicate_zero, List.push_toArray, List.append_toArray, List.nil_append, List.cons_append]
  gi_wp2_with (first
    | (refine ⟨trivial, ?_⟩; gi_at_call 28; rw [HW5.out]; refine (callsIn_wide.2 HLess.out).mono ?_; rintro e w1 ⟨g1, rfl, hg1, hblk1, hb1⟩; have be1 := (be.below hb1).alloc (Two (.int .i64 x) (.slice (some ⟨g1, 0, none⟩) n n)); obtain ⟨e0, e1⟩ := be1.one; have hs1 := hblk1.lt; have hle0 := be.lt; have hle1 := (be.below hb1).lt; have hne1 : w1.heap.size ≠ w.heap.size + 1 + 1 + 1 + 1 := (by omega); have be2 := ((be.below hb1).setOne (.int .i64 0)).alloc (Two (.int .i64 x) (.slice (some ⟨g1, 0, none⟩) n n)); obtain ⟨e2, e3⟩ := be2.one; have hblk7 : Blk ((w1.setCell ⟨w.heap.size + 1 + 1 + 1 + 1, 0, none⟩ (.int .i64 0)).alloc (Two (.int .i64 x) (.slice (some ⟨g1, 0, none⟩) n n))) g1 (jn .andNot ys zs) := ((hblk1.at.set (by simp; omega) _).alloc _))
    | (refine ⟨trivial, ?_⟩; gi_at_call 20; refine (callsIn_wide.2 (each_yes x (some ⟨g1, 0, none⟩) n n (jn .andNot ys zs) _ hll hblk7.cells hlm)).mono ?_; rintro e w2 ⟨bx, g2, rfl, hbx, hblk2, hbxl, hg2l, hb2⟩))
  have bE := be2.below hb2
  have bK := (((bk.below hb1).set (by simp) (.int .i64 0)).alloc (Two (.int .i64 x) (.slice (some ⟨g1, 0, none⟩) n n))).below hb2
  have bO := (((bo.below hb1).set (by simp) (.int .i64 0)).alloc (Two (.int .i64 x) (.slice (some ⟨g1, 0, none⟩) n n))).below hb2
  have hBW : Below w.heap.size w w2 := by
    have h1 := hB5.trans (hb1.mono hB5.size)
    have h2 := (h1.setCell (p := ⟨w.heap.size + 1 + 1 + 1 + 1, 0, none⟩) (by simp; omega) (.int .i64 0))
    have h3 := h2.alloc h2.size (Two (.int .i64 x) (.slice (some ⟨g1, 0, none⟩) n n))
    exact h3.trans (hb2.mono h3.size)
  have hT2 : Tab w2 := hT.below hBW hT.1
  have hsz := hBW.size
  have hg2 := hblk2.lt
  clear e0 e1 e2 e3 be1 be2 hblk7 hblk1 hb1 hb2 HW5 bk bo be hd1 hd2 hB5 hc1 hc2
  obtain ⟨k0, kf⟩ := bK.one
  obtain ⟨o0, of⟩ := bO.one
  obtain ⟨e0, ef⟩ := bE.one
  refine wpIn_rangeFunc_ownF rfl (by omega) (gf := 47) (lb := #[.pointer (some ⟨bx, 0, none⟩)]) rfl trivial (enters_of Tryd.func47 (by kernel_rfl) rfl)
    (each2_stops 2 bx g2 n n (by omega) x (jn .andNot ys zs) hll hn17 hlw w2 hbx hblk2 hT2) two_t (two_b hg2 hT2.1) (Below.refl _ _) (fun _ => rfl)
    (fun pre W => (pre = [] ∧ W.cell? ⟨w.heap.size + 1 + 1, 0, none⟩ = some (.int .i64 0) ∧ W.frozen? ⟨w.heap.size + 1 + 1, 0, none⟩ = false ∧ W.cell? ⟨w.heap.size + 1 + 1 + 1, 0, none⟩ = some (.bool false) ∧ W.frozen? ⟨w.heap.size + 1 + 1 + 1, 0, none⟩ = false ∧ W.cell? ⟨w.heap.size + 1 + 1 + 1 + 1, 0, none⟩ = some (.int .i64 0) ∧ W.frozen? ⟨w.heap.size + 1 + 1 + 1 + 1, 0, none⟩ = false) ∧ Below w.heap.size w W)
    (fun c pre W => (c = .ret ∧ ∃ k : K, pre = [k] ∧ W.cell? ⟨w.heap.size + 1 + 1, 0, none⟩ = some (.int .i64 (k.1 : Int)) ∧ W.cell? ⟨w.heap.size + 1 + 1 + 1, 0, none⟩ = some (.bool true) ∧ W.cell? ⟨w.heap.size + 1 + 1 + 1 + 1, 0, none⟩ = some (.int .i64 0)) ∧ Below w.heap.size w W)
    (OwnFrom.and (Own.from (fun s A B row hs hg hr => ⟨hs.1, cell_kept hs.2.1 hg hr, (frozen_kept hs.2.1 hg hr).trans hs.2.2.1, cell_kept hs.2.2.2.1 hg hr, (frozen_kept hs.2.2.2.1 hg hr).trans hs.2.2.2.2.1, cell_kept hs.2.2.2.2.2.1 hg hr, (frozen_kept hs.2.2.2.2.2.1 hg hr).trans hs.2.2.2.2.2.2⟩) _) (ownFrom_below (Nat.le_refl _) hsz))
    (fun c => OwnFrom.and (Own.from (fun s A B row hs hg hr => by
      obtain ⟨h1, k, h2, h3, h4, h5⟩ := hs
      exact ⟨h1, k, h2, cell_kept h3 hg hr, cell_kept h4 hg hr, cell_kept h5 hg hr⟩) _) (ownFrom_below (Nat.le_refl _) hsz))
    ⟨⟨rfl, k0, kf, o0, of, e0, ef⟩, hBW⟩
    (fun k => { tmps := #[.agg #[.int .i64 x, .slice a1 n cap1], .agg #[.int .i64 x, .slice a2 n cap2], .pointer (some ⟨w.heap.size, 0, none⟩), .pointer (some ⟨w.heap.size + 1, 0, none⟩), .pointer (some ⟨w.heap.size + 1 + 1, 0, none⟩), .pointer (some ⟨w.heap.size + 1 + 1 + 1, 0, none⟩), .pointer (some ⟨w.heap.size + 1 + 1 + 1 + 1, 0, none⟩), .pointer (some ⟨w1.heap.size, 0, none⟩), .int .i64 (k.1 : Int), .tuple #[.agg #[.int .i64 x, .slice (some ⟨g1, 0, none⟩) n n], .int .i64 0], .agg #[.int .i64 x, .slice a2 n cap2], .agg #[.int .i64 x, .slice a1 n cap1], .tuple #[.agg #[.int .i64 x, .slice (some ⟨g1, 0, none⟩) n n], .int .i64 0], .agg #[.int .i64 x, .slice (some ⟨g1, 0, none⟩) n n], .int .i64 0, .int .i64 0, .bool false, undef, .agg #[.int .i64 x, .slice (some ⟨g1, 0, none⟩) n n], .func (.func 47) #[] #[.pointer (some ⟨bx, 0, none⟩)], .int .i64 (k.1 : Int), undef], defers := [] }) ?assign ?body ?done ?stop
  case assign =>
    intro l x W K hK
    gi_wp2
    exact hK
  case body =>
    rintro l pre k W ⟨⟨rfl, k0, kf, o0, of, e0, ef⟩, hB⟩ _
    gi_wp2
    obtain ⟨h1, h2, h3⟩ := three_set (p := w.heap.size + 1 + 1) (q := w.heap.size + 1 + 1 + 1) (r := w.heap.size + 1 + 1 + 1 + 1) (by omega) (by omega) (by omega) (.int .i64 (k.1 : Int)) (.bool true) (.int .i64 0) k0 o0 e0
    exact ⟨three_keeps _ _ _ _ _ _ _, ⟨rfl, k, rfl, h1, h2, h3⟩, ((hB.setCell (by simp; omega) _).setCell (by simp; omega) _).setCell (by simp; omega) _⟩
  case done =>
    rintro D ys' W hD hS ⟨⟨rfl, k0, kf, o0, of, e0, ef⟩, hB⟩ hK
    gi_wp2
    have hS' : rs (gb (jn .andNot ys zs)) 0 (64 * n) = [] := hS.symm
    rw [hS']
    obtain ⟨h1, h2, h3⟩ := three_set (p := w.heap.size + 1 + 1) (q := w.heap.size + 1 + 1 + 1) (r := w.heap.size + 1 + 1 + 1 + 1) (by omega) (by omega) (by omega) (.int .i64 0) (.bool false) (.int .i64 0) k0 o0 e0
    have hK' := (three_keeps W ⟨w.heap.size + 1 + 1, 0, none⟩ ⟨w.heap.size + 1 + 1 + 1, 0, none⟩ ⟨w.heap.size + 1 + 1 + 1 + 1, 0, none⟩ (.int .i64 0) (.bool false) (.int .i64 0)).same D _ hK rfl
    have hB' : Below w.heap.size w (((W.setCell ⟨w.heap.size + 1 + 1, 0, none⟩ (.int .i64 0)).setCell ⟨w.heap.size + 1 + 1 + 1, 0, none⟩ (.bool false)).setCell ⟨w.heap.size + 1 + 1 + 1 + 1, 0, none⟩ (.int .i64 0)) := ((hB.setCell (by simp; omega) _).setCell (by simp; omega) _).setCell (by simp; omega) _
    refine ⟨by simp, .inl ⟨_, _, rfl, run_takeDeferred hK', ?_⟩⟩
    have hg := grownBy_putObj' (((W.setCell ⟨w.heap.size + 1 + 1, 0, none⟩ (.int .i64 0)).setCell ⟨w.heap.size + 1 + 1 + 1, 0, none⟩ (.bool false)).setCell ⟨w.heap.size + 1 + 1 + 1 + 1, 0, none⟩ (.int .i64 0)) D (.deferred none)
    have c1 := cell_kept h1 hg (fun r e => by cases e; exact ⟨_, hK', rfl⟩)
    have c2 := cell_kept h2 hg (fun r e => by cases e; exact ⟨_, hK', rfl⟩)
    have c3 := cell_kept h3 hg (fun r e => by cases e; exact ⟨_, hK', rfl⟩)
    refine ⟨.tuple #[.int .i64 0, .bool false, .int .i64 0], ?_, rfl, hB'.trans (belowK_b (w := w) (Nat.le_refl _) _ D _ _ (by omega) hK' rfl rfl)⟩
    simp [results, Tryd.results31, go_sem, c1, c2, c3]
  case stop =>
    rintro D c pre W hD hpre ⟨⟨rfl, k, rfl, k0, o0, e0⟩, hB⟩ hK
    gi_wp2
    obtain ⟨r, hr⟩ := hpre
    have hS' : rs (gb (jn .andNot ys zs)) 0 (64 * n) = k.1 :: r := hr.symm
    rw [hS']
    refine ⟨by simp, .inl ⟨_, _, rfl, run_takeDeferred hK, ?_⟩⟩
    have hg := grownBy_putObj' W D (.deferred none)
    have c1 := cell_kept k0 hg (fun r e => by cases e; exact ⟨_, hK, rfl⟩)
    have c2 := cell_kept o0 hg (fun r e => by cases e; exact ⟨_, hK, rfl⟩)
    have c3 := cell_kept e0 hg (fun r e => by cases e; exact ⟨_, hK, rfl⟩)
    refine ⟨.tuple #[.int .i64 (k.1 : Int), .bool true, .int .i64 0], ?_, rfl, hB.trans (belowK_b (w := w) (Nat.le_refl _) _ D _ _ (by omega) hK rfl rfl)⟩
    simp [results, Tryd.results31, go_sem, c1, c2, c3]
end Go.Proofs.YtddjmhfcaeckgaaDoor
