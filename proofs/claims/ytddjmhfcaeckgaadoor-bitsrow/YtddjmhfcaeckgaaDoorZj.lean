import Derived.Test.YtddjmhfcaeckgaaDoorZi
import Derived.Test.YtddjmhfcaeckgaaDoorZa
namespace Go.Proofs.YtddjmhfcaeckgaaDoor
open Go.RowKit Go.Shelf
attribute [local go_sem] Oper.semAt_some
set_option linter.unusedVariables false
set_option linter.unusedSimpArgs false

theorem both_comm (x y : Int) (zs ys : List Int) : bothB x y zs ys = bothB y x ys zs := by
  unfold bothB
  rw [Bool.and_comm (mayB x zs)]
  congr 1
  by_cases h : x = y
  · subst h; rfl
  · have h' : ¬ y = x := fun e => h e.symm
    simp [h, h']
set_option maxRecDepth 100000 in
set_option maxHeartbeats 2000000 in
theorem first_no (x y : Int) (a1 a2 : Option Addr) (n1 n2 cap1 cap2 : Nat) (zs ys : List Int) (w : World) (hz1 : zs.length = n1) (hm1 : n1 ≤ maxLen) (hc1 : Cells w a1 zs) (hz2 : ys.length = n2) (hm2 : n2 ≤ maxLen) (hc2 : Cells w a2 ys) (hb : bothB x y zs ys = false) :
    Calls Tryd.prog 31 #[.agg #[.int .i64 x, .slice a1 n1 cap1], .agg #[.int .i64 y, .slice a2 n2 cap2]] w fun e w' => e = .returned (.tuple #[.int .i64 0, .bool false, .int .i64 2]) ∧ Below w.heap.size w w' := by
  obtain ⟨W5, hW5⟩ : ∃ W5, W5 = ((((w.alloc (Two (.int .i64 x) (.slice a1 n1 cap1))).alloc (Two (.int .i64 y) (.slice a2 n2 cap2))).alloc (One (.int .i64 0) 3)).alloc (One (.bool false) 4)).alloc (One (.int .i64 0) 28) := ⟨_, rfl⟩
  have hB5 : Below w.heap.size w W5 := by rw [hW5]; exact (((((Below.refl _ _).alloc (Nat.le_refl _) _).alloc (by simp) _).alloc (by simp; omega) _).alloc (by simp; omega) _).alloc (by simp; omega) _
  have bk : At W5 (w.heap.size + 1 + 1) (One (.int .i64 0) 3) := by
    rw [hW5]
    have := ((At.new ((w.alloc (Two (.int .i64 x) (.slice a1 n1 cap1))).alloc (Two (.int .i64 y) (.slice a2 n2 cap2))) (One (.int .i64 0) 3)).alloc (One (.bool false) 4)).alloc (One (.int .i64 0) 28)
    simpa only [World.size_alloc] using this
  have bo : At W5 (w.heap.size + 1 + 1 + 1) (One (.bool false) 4) := by
    rw [hW5]
    have := (At.new (((w.alloc (Two (.int .i64 x) (.slice a1 n1 cap1))).alloc (Two (.int .i64 y) (.slice a2 n2 cap2))).alloc (One (.int .i64 0) 3)) (One (.bool false) 4)).alloc (One (.int .i64 0) 28)
    simpa only [World.size_alloc] using this
  have be : At W5 (w.heap.size + 1 + 1 + 1 + 1) (One (.int .i64 0) 28) := by
    rw [hW5]
    have := At.new ((((w.alloc (Two (.int .i64 x) (.slice a1 n1 cap1))).alloc (Two (.int .i64 y) (.slice a2 n2 cap2))).alloc (One (.int .i64 0) 3)).alloc (One (.bool false) 4)) (One (.int .i64 0) 28)
    simpa only [World.size_alloc] using this
  have hd1 := hc1.below hB5
  have hd2 := hc2.below hB5
  have HW5 : Hid (((((w.alloc (.cells #[.int .i64 x, .slice a1 n1 cap1] 24)).alloc (.cells #[.int .i64 y, .slice a2 n2 cap2] 24)).alloc (.cells #[.int .i64 0] 3)).alloc (.cells #[.bool false] 4)).alloc (.cells #[.int .i64 0] 28) = W5) := hW5.symm
  clear hW5
  have HLess : Hid (Calls Tryd.prog 28 #[.agg #[.int .i64 y, .slice a2 n2 cap2], .agg #[.int .i64 x, .slice a1 n1 cap1]] W5 fun e w' => e = .returned (.tuple #[.agg #[.int .i64 0, .slice none 0 0], .int .i64 2]) ∧ Below W5.heap.size W5 w') := less_no y x a2 a1 n2 n1 cap2 cap1 ys zs W5 hz2 hm2 hd2 hz1 hm1 hd1 (by rw [← both_comm]; exact hb)
  refine (callsIn_wide (n := 3)).1 ?_
  refine callsIn_of_wp_marks Tryd.func31 rfl trivial ?_ rfl
  simp only [Tryd.ntmps31, List.size_toArray, List.length_cons, List.length_nil, Nat.reduceAdd, Nat.reduceSub, Array.replicate_succ, Array.replicate_zero, List.push_toArray, List.append_toArray, List.nil_append, List.cons_append]
  gi_wp2_with (first
    | (refine ⟨trivial, ?_⟩; gi_at_call 28; rw [HW5.out]; refine (callsIn_wide.2 HLess.out).mono ?_; rintro e w1 ⟨rfl, hb1⟩; have be1 := (be.below hb1).alloc (Two (.int .i64 0) (.slice none 0 0)); obtain ⟨e0, e1⟩ := be1.one; have hle0 := be.lt; have hle1 := (be.below hb1).lt; have hne1 : w1.heap.size ≠ w.heap.size + 1 + 1 + 1 + 1 := (by omega); have be2 := ((be.below hb1).setOne (.int .i64 2)).alloc (Two (.int .i64 0) (.slice none 0 0)); obtain ⟨e2, e3⟩ := be2.one; obtain ⟨k0, k1⟩ := ((((bk.below hb1).set (a := ⟨w.heap.size + 1 + 1 + 1 + 1, 0, none⟩) (by simp) (.int .i64 2)).alloc (Two (.int .i64 0) (.slice none 0 0)))).one; obtain ⟨o0, o1⟩ := ((((bo.below hb1).set (a := ⟨w.heap.size + 1 + 1 + 1 + 1, 0, none⟩) (by simp) (.int .i64 2)).alloc (Two (.int .i64 0) (.slice none 0 0)))).one))
  gi_region
  all_goals gi_wp2
  obtain ⟨c1, c2, c3⟩ := three_set (p := w.heap.size + 1 + 1) (q := w.heap.size + 1 + 1 + 1) (r := w.heap.size + 1 + 1 + 1 + 1) (by omega) (by omega) (by omega) (.int .i64 0) (.bool false) (.int .i64 2) k0 o0 e2
  have h1 := hB5.trans (hb1.mono hB5.size)
  have h2 := (h1.setCell (p := ⟨w.heap.size + 1 + 1 + 1 + 1, 0, none⟩) (by simp; omega) (.int .i64 2))
  have h3 := h2.alloc h2.size (Two (.int .i64 0) (.slice none 0 0))
  have h4 := (((h3.setCell (p := ⟨w.heap.size + 1 + 1, 0, none⟩) (by simp; omega) (.int .i64 0)).setCell (p := ⟨w.heap.size + 1 + 1 + 1, 0, none⟩) (by simp; omega) (.bool false)).setCell (p := ⟨w.heap.size + 1 + 1 + 1 + 1, 0, none⟩) (by simp; omega) (.int .i64 2)).drew
  refine ⟨.tuple #[.int .i64 0, .bool false, .int .i64 2], ?_, rfl, h4⟩
  simp only [World.cell?_drew] at *
  simp [results, Tryd.results31, go_sem, c1, c2, c3]

theorem is_gb (x : Int) (k : Nat) (v : Bool) (a : Option Addr) (n cap : Nat) (zs : List Int) (w : World) (hz : zs.length = n) (hn : n ≤ 17) (hw : Words zs) (hc : Cells w a zs) (hk : k < 64 * n) (hv : gb zs k = v) :
    Calls Tryd.prog 45 #[.agg #[.int .i64 x, .slice a n cap], .int .i64 k] w fun e w' => e = .returned (.bool v) ∧ Below w.heap.size w w' := by
  rw [← hv, ← getB_gb zs k hw]
  exact is_yes x k a n cap zs w hz hn hw hc (by omega) (by omega)

theorem both_any (x y : Int) (a1 a2 : Option Addr) (n1 n2 cap1 cap2 : Nat) (zs ys : List Int) (w : World) (hz1 : zs.length = n1) (hm1 : n1 ≤ maxLen) (hw1 : Words zs) (hc1 : Cells w a1 zs) (hz2 : ys.length = n2) (hm2 : n2 ≤ maxLen) (hw2 : Words ys) (hc2 : Cells w a2 ys) :
    Calls Tryd.prog 32 #[.agg #[.int .i64 x, .slice a1 n1 cap1], .agg #[.int .i64 y, .slice a2 n2 cap2]] w fun e w' => e = .returned (.bool (bothB x y zs ys)) ∧ Below w.heap.size w w' := by
  have b1 := (At.new w (Two (.int .i64 x) (.slice a1 n1 cap1))).alloc (Two (.int .i64 y) (.slice a2 n2 cap2))
  have b2 := At.new (w.alloc (Two (.int .i64 x) (.slice a1 n1 cap1))) (Two (.int .i64 y) (.slice a2 n2 cap2))
  simp only [World.size_alloc] at b2
  have hd1 := (hc1.alloc (Two (.int .i64 x) (.slice a1 n1 cap1))).alloc (Two (.int .i64 y) (.slice a2 n2 cap2))
  have hd2 := (hc2.alloc (Two (.int .i64 x) (.slice a1 n1 cap1))).alloc (Two (.int .i64 y) (.slice a2 n2 cap2))
  cases hx : mayB x zs
  · have e : bothB x y zs ys = false := by simp [bothB, hx]
    rw [e]
    go_enter Tryd.func32, Tryd.ntmps32
    go_wp2_with (go_at_call 15; refine (refMay_no _ _ _ _ zs _ hz1 hm1 hw1 hd1 hx).mono ?_; rintro e w1 ⟨rfl, hb1⟩)
    go_ret
    exact ⟨rfl, below2 hb1⟩
  have H1 : Hid (Calls Tryd.prog 15 #[.agg #[.int .i64 x, .slice a1 n1 cap1]] ((w.alloc (Two (.int .i64 x) (.slice a1 n1 cap1))).alloc (Two (.int .i64 y) (.slice a2 n2 cap2))) fun e w' => e = .returned (.bool true) ∧ Below ((w.alloc (Two (.int .i64 x) (.slice a1 n1 cap1))).alloc (Two (.int .i64 y) (.slice a2 n2 cap2))).heap.size ((w.alloc (Two (.int .i64 x) (.slice a1 n1 cap1))).alloc (Two (.int .i64 y) (.slice a2 n2 cap2))) w') := refMay_yes _ _ _ _ zs _ hz1 hw1 hd1 hx
  cases hy : mayB y ys
  · have e : bothB x y zs ys = false := by simp [bothB, hy]
    rw [e]
    go_enter Tryd.func32, Tryd.ntmps32
    go_wp2_with (first
      | (go_at_call 15; refine H1.out.mono ?_; clear H1; rintro e w1 ⟨rfl, hb1⟩; have hd21 := hd2.below hb1; have b21 := b2.below hb1; obtain ⟨c20, c21, f2⟩ := b21.all)
      | (go_at_call 15; refine (refMay_no _ _ _ _ ys _ hz2 hm2 hw2 hd21 hy).mono ?_; rintro e w2 ⟨rfl, hb2⟩))
    go_ret
    have hB := below2 hb1
    exact ⟨rfl, hB.trans (hb2.mono hB.size)⟩
  · have e : bothB x y zs ys = decide (x = y) := by simp [bothB, hx, hy]
    rw [e]
    go_enter Tryd.func32, Tryd.ntmps32
    go_wp2_with (first
      | (go_at_call 15; refine H1.out.mono ?_; clear H1; rintro e w1 ⟨rfl, hb1⟩; have hd21 := hd2.below hb1; have b21 := b2.below hb1; have b11 := b1.below hb1; obtain ⟨c20, c21, f2⟩ := b21.all)
      | (go_at_call 15; refine (refMay_yes _ _ _ _ ys _ hz2 hw2 hd21 hy).mono ?_; rintro e w2 ⟨rfl, hb2⟩; clear c20 c21 f2; have b22 := b21.below hb2; have b12 := b11.below hb2; obtain ⟨c20, c21, f2⟩ := b22.all; obtain ⟨c10, c11, f1⟩ := b12.all))
    go_ret
    have hB := below2 hb1
    exact ⟨by by_cases h : x = y <;> simp [h], hB.trans (hb2.mono hB.size)⟩

theorem has_yes (x : Int) (a1 a2 : Option Addr) (n cap1 cap2 : Nat) (zs ys : List Int) (w : World) (hz : zs.length = n) (hy : ys.length = n) (hwz : Words zs) (hwy : Words ys) (hc1 : Cells w a1 zs) (hc2 : Cells w a2 ys) (hm1 : mayB x zs = true) (hm2 : mayB x ys = true) (hT : Tab w) :
    Calls Tryd.prog 30 #[.agg #[.int .i64 x, .slice a1 n cap1], .agg #[.int .i64 x, .slice a2 n cap2]] w fun e w' => e = .returned (.tuple #[.bool (rs (gb (jn .andNot ys zs)) 0 (64 * n)).isEmpty, .int .i64 0]) ∧ Below w.heap.size w w' := by
  have hd1 := (hc1.alloc (Two (.int .i64 x) (.slice a1 n cap1))).alloc (Two (.int .i64 x) (.slice a2 n cap2))
  have hd2 := (hc2.alloc (Two (.int .i64 x) (.slice a1 n cap1))).alloc (Two (.int .i64 x) (.slice a2 n cap2))
  have hT2 : Tab ((w.alloc (Two (.int .i64 x) (.slice a1 n cap1))).alloc (Two (.int .i64 x) (.slice a2 n cap2))) := hT.below (((Below.refl w.heap.size w).alloc (Nat.le_refl _) _).alloc (by simp) _) hT.1
  have H1 := first_yes x a1 a2 n cap1 cap2 zs ys _ hz hy hwz hwy hd1 hd2 hm1 hm2 hT2
  obtain ⟨L, hL⟩ : ∃ L, L = rs (gb (jn .andNot ys zs)) 0 (64 * n) := ⟨_, rfl⟩
  rw [← hL] at H1 ⊢
  clear hL
  go_enter Tryd.func30, Tryd.ntmps30
  go_wp2_with (go_at_call 31; refine H1.mono ?_; rintro e w1 ⟨rfl, hb1⟩)
  go_ret2
  exact ⟨by simp, below2 hb1⟩
theorem has_no (x y : Int) (a1 a2 : Option Addr) (n1 n2 cap1 cap2 : Nat) (zs ys : List Int) (w : World) (hz1 : zs.length = n1) (hm1 : n1 ≤ maxLen) (hc1 : Cells w a1 zs) (hz2 : ys.length = n2) (hm2 : n2 ≤ maxLen) (hc2 : Cells w a2 ys) (hb : bothB x y zs ys = false) :
    Calls Tryd.prog 30 #[.agg #[.int .i64 x, .slice a1 n1 cap1], .agg #[.int .i64 y, .slice a2 n2 cap2]] w fun e w' => e = .returned (.tuple #[.bool false, .int .i64 2]) ∧ Below w.heap.size w w' := by
  have hd1 := (hc1.alloc (Two (.int .i64 x) (.slice a1 n1 cap1))).alloc (Two (.int .i64 y) (.slice a2 n2 cap2))
  have hd2 := (hc2.alloc (Two (.int .i64 x) (.slice a1 n1 cap1))).alloc (Two (.int .i64 y) (.slice a2 n2 cap2))
  have H1 := first_no x y a1 a2 n1 n2 cap1 cap2 zs ys _ hz1 hm1 hd1 hz2 hm2 hd2 hb
  go_enter Tryd.func30, Tryd.ntmps30
  go_wp2_with (go_at_call 31; refine H1.mono ?_; rintro e w1 ⟨rfl, hb1⟩)
  go_ret2
  exact ⟨by simp, below2 hb1⟩

theorem refFirst_yes (xn : Nat) (a1 a2 : Option Addr) (n cap1 cap2 : Nat) (zs ys : List Int) (w : World) (hz : zs.length = n) (hy : ys.length = n) (hwz : Words zs) (hwy : Words ys) (hc1 : Cells w a1 zs) (hc2 : Cells w a2 ys) (hm1 : mayB (xn : Int) zs = true) (hm2 : mayB (xn : Int) ys = true) :
    Calls Tryd.prog 33 #[.agg #[.int .i64 xn, .slice a1 n cap1], .agg #[.int .i64 xn, .slice a2 n cap2]] w fun e w' => e = .returned (.tuple #[.int .i64 (((rs (gb (jn .andNot ys zs)) 0 (64 * n)).headD 0 : Nat) : Int), .bool (!(rs (gb (jn .andNot ys zs)) 0 (64 * n)).isEmpty)]) ∧ Below w.heap.size w w' := by
  obtain ⟨q1, q2, q3⟩ := mayB_width hm1
  have hn17 : n ≤ 17 := by omega
  have hxn : xn ≤ 64 * n := by omega
  have b1 := (At.new w (Two (.int .i64 xn) (.slice a1 n cap1))).alloc (Two (.int .i64 xn) (.slice a2 n cap2))
  have b2 := At.new (w.alloc (Two (.int .i64 xn) (.slice a1 n cap1))) (Two (.int .i64 xn) (.slice a2 n cap2))
  simp only [World.size_alloc] at b2
  have hd1 := (hc1.alloc (Two (.int .i64 xn) (.slice a1 n cap1))).alloc (Two (.int .i64 xn) (.slice a2 n cap2))
  have hd2 := (hc2.alloc (Two (.int .i64 xn) (.slice a1 n cap1))).alloc (Two (.int .i64 xn) (.slice a2 n cap2))
  have hB0 : Below w.heap.size w ((w.alloc (Two (.int .i64 xn) (.slice a1 n cap1))).alloc (Two (.int .i64 xn) (.slice a2 n cap2))) := ((Below.refl _ _).alloc (Nat.le_refl _) _).alloc (by simp) _
  obtain ⟨c, hcd⟩ : ∃ c, c = gb (jn .andNot ys zs) := ⟨_, rfl⟩
  have HC : Hid (∀ k, k < 64 * n → c k = (gb ys k && !gb zs k)) := fun k hk => by rw [hcd]; exact gb_less hy hz hwy hwz hk
  have HN : Hid (rs c xn (64 * n) = []) := rs_nil fun k h1 h2 => by rw [HC.out k h2, mayB_high hm2 hwy h1 (by omega)]; rfl
  rw [← hcd]
  clear hcd hc1 hc2 hm1 hm2 q1 q2 q3
  go_enter Tryd.func33, Tryd.ntmps33
  go_wp2
  go_loopw [6] (fun i wr => ∃ k : Nat, k ≤ xn ∧ i = .int .i64 k ∧ Below w.heap.size w wr ∧ At wr w.heap.size (Two (.int .i64 xn) (.slice a1 n cap1)) ∧ At wr (w.heap.size + 1) (Two (.int .i64 xn) (.slice a2 n cap2)) ∧ Cells wr a1 zs ∧ Cells wr a2 ys ∧ Hid (rs c 0 (64 * n) = rs c k (64 * n))) (fun i _ => xn - (intOf i).toNat)
  case atStart => exact ⟨0, Nat.zero_le _, rfl, hB0, b1, b2, hd1, hd2, rfl⟩
  case round =>
    obtain ⟨k, hk, rfl, hbr, b1r, b2r, hc1r, hc2r, hrs⟩ := hrel
    clear b1 b2 hd1 hd2 hB0
    obtain ⟨c10, c11, f1⟩ := b1r.all
    obtain ⟨c20, c21, f2⟩ := b2r.all
    by_cases hlt : k < xn
    · have hkx : (k : Int) < (xn : Int) := by omega
      have hk64 : k < 64 * n := by omega
      have HCk : Hid (c k = (gb ys k && !gb zs k)) := HC.out k hk64
      have HR := rs_one c k (64 * n) hk64
      rw [HCk.out] at HR
      cases hp : gb ys k
      · have HR' : Hid (rs c 0 (64 * n) = rs c (k + 1) (64 * n)) := by
          show rs c 0 (64 * n) = _
          rw [hrs.out, HR, hp]; rfl
        have H2 := is_gb xn k false a2 n cap2 ys wr hy hn17 hwy hc2r hk64 hp
        clear HR HCk hp
        go_wp2_with (go_at_call 45; refine H2.mono ?_; rintro e w1 ⟨rfl, hb1⟩)
        go_roundw
        case rel => exact ⟨k + 1, by omega, by go_num, hbr.trans (hb1.mono hbr.size), b1r.below hb1, b2r.below hb1, hc1r.below hb1, hc2r.below hb1, HR'⟩
        case measure => simp [intOf]; omega
      · have H2 : Hid (Calls Tryd.prog 45 #[.agg #[.int .i64 xn, .slice a2 n cap2], .int .i64 k] wr fun e w' => e = .returned (.bool true) ∧ Below wr.heap.size wr w') := is_gb xn k true a2 n cap2 ys wr hy hn17 hwy hc2r hk64 hp
        cases hq : gb zs k
        · have HR' : Hid (rs c 0 (64 * n) = k :: rs c (k + 1) (64 * n)) := by
            show rs c 0 (64 * n) = _
            rw [hrs.out, HR, hp, hq]; rfl
          have H1 : Hid (∀ W, Below wr.heap.size wr W → Calls Tryd.prog 45 #[.agg #[.int .i64 xn, .slice a1 n cap1], .int .i64 k] W fun e w' => e = .returned (.bool false) ∧ Below W.heap.size W w') := fun W h => is_gb xn k false a1 n cap1 zs W hz hn17 hwz (hc1r.below h) hk64 hq
          clear HR HCk hp hq HC HN
          go_wp2_with (first
            | (go_at_call 45; refine H2.out.mono ?_; clear H2; rintro e w1 ⟨rfl, hb1⟩; clear c10 c11 f1 c20 c21 f2; obtain ⟨c10, c11, f1⟩ := (b1r.below hb1).all)
            | (go_at_call 45; refine (H1.out w1 hb1).mono ?_; rintro e w2 ⟨rfl, hb2⟩))
          go_ret2
          exact ⟨by rw [HR'.out]; simp, (hbr.trans (hb1.mono hbr.size)).trans (hb2.mono (Nat.le_trans hbr.size hb1.size))⟩
        · have HR' : Hid (rs c 0 (64 * n) = rs c (k + 1) (64 * n)) := by
            show rs c 0 (64 * n) = _
            rw [hrs.out, HR, hp, hq]; rfl
          have H1 : Hid (∀ W, Below wr.heap.size wr W → Calls Tryd.prog 45 #[.agg #[.int .i64 xn, .slice a1 n cap1], .int .i64 k] W fun e w' => e = .returned (.bool true) ∧ Below W.heap.size W w') := fun W h => is_gb xn k true a1 n cap1 zs W hz hn17 hwz (hc1r.below h) hk64 hq
          clear HR HCk hp hq
          go_wp2_with (first
            | (go_at_call 45; refine H2.out.mono ?_; clear H2; rintro e w1 ⟨rfl, hb1⟩; clear c10 c11 f1 c20 c21 f2; obtain ⟨c10, c11, f1⟩ := (b1r.below hb1).all)
            | (go_at_call 45; refine (H1.out w1 hb1).mono ?_; rintro e w2 ⟨rfl, hb2⟩))
          go_roundw
          case rel => exact ⟨k + 1, by omega, by go_num, (hbr.trans (hb1.mono hbr.size)).trans (hb2.mono (Nat.le_trans hbr.size hb1.size)), (b1r.below hb1).below hb2, (b2r.below hb1).below hb2, (hc1r.below hb1).below hb2, (hc2r.below hb1).below hb2, HR'⟩
          case measure => simp [intOf]; omega
    · have hke : k = xn := by omega
      subst hke
      go_wp2
      go_ret2
      exact ⟨by rw [hrs.out, HN.out]; simp, hbr⟩
end Go.Proofs.YtddjmhfcaeckgaaDoor
