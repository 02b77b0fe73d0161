import Derived.Test.YtddjmhfcaeckgaaDoorZk
import Derived.Test.YtddjmhfcaeckgaaDoorT
import Derived.Deep.RegionHeld3
import Derived.BigRegion
namespace Go.Proofs.YtddjmhfcaeckgaaDoor
open Go.RowKit
set_option linter.unusedVariables false
set_option linter.unusedSimpArgs false

set_option maxRecDepth 20000 in
theorem bitsJoin_long (x y : Int) (a1 a2 : Option Addr) (n1 n2 cap1 cap2 : Nat) (w : World) (hn : n1 ≤ maxLen) (hm : n2 ≤ maxLen) (h : 4096 < n1 ∨ 4096 < n2) :
    Calls Tryd.prog 5 #[.agg #[.int .i64 x, .slice a1 n1 cap1], .agg #[.int .i64 y, .slice a2 n2 cap2]] w fun e w' => e = .returned (.bool true) ∧ Below w.heap.size w w' := by
  unfold maxLen at hn hm
  by_cases h1 : 4096 < n1
  · have h1' : (4096 : Int) < (n1 : Int) := by omega
    clear h
    go_enter Tryd.func5, Tryd.ntmps5
    go_wp2_with (go_at_call 10; refine (awake_true _).mono ?_; rintro e w1 ⟨rfl, hb1⟩)
    go_ret
    exact ⟨rfl, below2 hb1⟩
  · have h1' : ¬ (4096 : Int) < (n1 : Int) := by omega
    have h2' : (4096 : Int) < (n2 : Int) := by omega
    clear h h1
    go_enter Tryd.func5, Tryd.ntmps5
    go_wp2_with (go_at_call 10; refine (awake_true _).mono ?_; rintro e w1 ⟨rfl, hb1⟩)
    go_ret
    exact ⟨rfl, below2 hb1⟩

theorem below_after {wb W W' : World} (h : Below wb.heap.size wb W) (h' : Below W.heap.size W W') : Below wb.heap.size wb W' := h.trans (h'.mono h.size)
theorem belA {wb W : World} (h : Below wb.heap.size wb W) {o : Obj} : Below wb.heap.size wb (W.alloc o) := h.alloc h.size o
theorem belD {wb W : World} (h : Below wb.heap.size wb W) : Below wb.heap.size wb W.drew := h.drew
theorem belS {wb W : World} (h : Below wb.heap.size wb W) {b o : Nat} {u : Value} (hb : wb.heap.size ≤ b) : Below wb.heap.size wb (W.setCell ⟨b, o, none⟩ u) := h.setCell hb u
theorem At.setFst {w : World} {b : Nat} {p q : Value} (h : At w b (Two p q)) (p' : Value) : At (w.setCell ⟨b, 0, none⟩ p') b (Two p' q) := by
  unfold At Two at *
  simpa using heap_setCell_same w b 0 #[p, q] 24 p' h
abbrev Zt : Obj := Two (.int .i64 0) (.slice none 0 0)
/-- Both rows are lent out, and stand in two structs of their own. -/
theorem lent_both {wB Wf : World} {bp bq g0 g1 n1 n2 c0 c1 : Nat} {x y : Int} {zs ys : List Int} (hP : At Wf bp Zt) (hQ : At Wf bq Zt) (hne : bp ≠ bq) (hbp : wB.heap.size ≤ bp) (hbq : wB.heap.size ≤ bq) (hB : Below wB.heap.size wB Wf)
    (m0 : Mine Wf wB.heap.size (some ⟨g0, 0, none⟩) (n1 + 1) c0 (zs ++ [77])) (m1 : Mine Wf wB.heap.size (some ⟨g1, 0, none⟩) (n2 + 1) c1 (ys ++ [77])) {wx : World}
    (hx : wx = ((((Wf.setCell ⟨bp, 0, none⟩ (.int .i64 x)).setCell ⟨bp, 1, none⟩ (.slice (some ⟨g0, 0, none⟩) n1 c0)).setCell ⟨bq, 0, none⟩ (.int .i64 y)).setCell ⟨bq, 1, none⟩ (.slice (some ⟨g1, 0, none⟩) n2 c1))) :
    Below wB.heap.size wB wx ∧ At wx bp (Two (.int .i64 x) (.slice (some ⟨g0, 0, none⟩) n1 c0)) ∧ At wx bq (Two (.int .i64 y) (.slice (some ⟨g1, 0, none⟩) n2 c1)) ∧ Mine wx wB.heap.size (some ⟨g0, 0, none⟩) (n1 + 1) c0 (zs ++ [77]) ∧ Mine wx wB.heap.size (some ⟨g1, 0, none⟩) (n2 + 1) c1 (ys ++ [77]) := by
  have e0 := mine_ne m0 hP
  have e1 := mine_ne m0 hQ
  have e2 := mine_ne m1 hP
  have e3 := mine_ne m1 hQ
  simp [blk] at e0 e1 e2 e3
  subst hx
  refine ⟨below_setTwo (below_setTwo hB hbp _ _) hbq _ _, ?_, ?_, ?_, ?_⟩
  · exact ((hP.setTwo _ _).set hne _).set hne _
  · exact ((hQ.set hne.symm _).set hne.symm _).setTwo _ _
  · exact (((m0.setOther (fun g hg => by simp at hg; simp; omega) _).setOther (fun g hg => by simp at hg; simp; omega) _).setOther (fun g hg => by simp at hg; simp; omega) _).setOther (fun g hg => by simp at hg; simp; omega) _
  · exact (((m1.setOther (fun g hg => by simp at hg; simp; omega) _).setOther (fun g hg => by simp at hg; simp; omega) _).setOther (fun g hg => by simp at hg; simp; omega) _).setOther (fun g hg => by simp at hg; simp; omega) _

theorem mine_from {wb W w' : World} {n cap : Nat} {a : Option Addr} {zs : List Int} (h : Below wb.heap.size wb W) (m : Mine w' W.heap.size a n cap zs) : Mine w' wb.heap.size a n cap zs := m.mono h.size
theorem lent_a {wB Wf : World} {g0 g1 n1 n2 c0 c1 : Nat} {x y : Int} {zs ys : List Int} (hB : Below wB.heap.size wB Wf)
    (m0 : Mine Wf wB.heap.size (some ⟨g0, 0, none⟩) (n1 + 1) c0 (zs ++ [77])) (m1 : Mine Wf wB.heap.size (some ⟨g1, 0, none⟩) (n2 + 1) c1 (ys ++ [77])) (o1 o2 : Obj)
    (bp bq : Nat) (hP : At ((Wf.alloc o1).alloc o2) bp (Two (.int .i64 x) (.slice (some ⟨g0, 0, none⟩) n1 c0))) (hQ : At ((Wf.alloc o1).alloc o2) bq (Two (.int .i64 y) (.slice (some ⟨g1, 0, none⟩) n2 c1))) :
    Below wB.heap.size wB ((Wf.alloc o1).alloc o2) ∧ At ((Wf.alloc o1).alloc o2) bp (Two (.int .i64 x) (.slice (some ⟨g0, 0, none⟩) n1 c0)) ∧ At ((Wf.alloc o1).alloc o2) bq (Two (.int .i64 y) (.slice (some ⟨g1, 0, none⟩) n2 c1)) ∧ Mine ((Wf.alloc o1).alloc o2) wB.heap.size (some ⟨g0, 0, none⟩) (n1 + 1) c0 (zs ++ [77]) ∧ Mine ((Wf.alloc o1).alloc o2) wB.heap.size (some ⟨g1, 0, none⟩) (n2 + 1) c1 (ys ++ [77]) := by
  have h := ((Below.refl Wf.heap.size Wf).alloc (Nat.le_refl _) o1).alloc (by simp) o2
  exact ⟨belA (belA hB), hP, hQ, m0.belowAll h, m1.belowAll h⟩
theorem at_second (W : World) (o1 o2 : Obj) : At ((W.alloc o1).alloc o2) (W.heap.size + 1) o2 := by
  have := At.new (W.alloc o1) o2
  simpa only [World.size_alloc] using this
theorem lent_d {wB Wf : World} {bq g0 g1 n1 n2 c0 c1 : Nat} {x y : Int} {zs ys : List Int} (hQ : At Wf bq Zt) (hbq : wB.heap.size ≤ bq) (hB : Below wB.heap.size wB Wf)
    (m0 : Mine Wf wB.heap.size (some ⟨g0, 0, none⟩) (n1 + 1) c0 (zs ++ [77])) (m1 : Mine Wf wB.heap.size (some ⟨g1, 0, none⟩) (n2 + 1) c1 (ys ++ [77])) {wx : World}
    (hx : wx = ((Wf.alloc (Two (.int .i64 x) (.slice (some ⟨g0, 0, none⟩) n1 c0))).setCell ⟨bq, 0, none⟩ (.int .i64 y)).setCell ⟨bq, 1, none⟩ (.slice (some ⟨g1, 0, none⟩) n2 c1)) :
    Below wB.heap.size wB wx ∧ At wx Wf.heap.size (Two (.int .i64 x) (.slice (some ⟨g0, 0, none⟩) n1 c0)) ∧ At wx bq (Two (.int .i64 y) (.slice (some ⟨g1, 0, none⟩) n2 c1)) ∧ Mine wx wB.heap.size (some ⟨g0, 0, none⟩) (n1 + 1) c0 (zs ++ [77]) ∧ Mine wx wB.heap.size (some ⟨g1, 0, none⟩) (n2 + 1) c1 (ys ++ [77]) := by
  have e1 := mine_ne m0 hQ
  have e3 := mine_ne m1 hQ
  simp [blk] at e1 e3
  have hl := hQ.lt
  have hne : Wf.heap.size ≠ bq := by omega
  have h := (Below.refl Wf.heap.size Wf).alloc (Nat.le_refl _) (Two (.int .i64 x) (.slice (some ⟨g0, 0, none⟩) n1 c0))
  subst hx
  refine ⟨below_setTwo (belA hB) hbq _ _, ((At.new _ _).set hne _).set hne _, (hQ.alloc _).setTwo _ _, ?_, ?_⟩
  · exact ((m0.belowAll h).setOther (fun g hg => by simp at hg; simp; omega) _).setOther (fun g hg => by simp at hg; simp; omega) _
  · exact ((m1.belowAll h).setOther (fun g hg => by simp at hg; simp; omega) _).setOther (fun g hg => by simp at hg; simp; omega) _

/-- The bits of b that a has not, rising. -/
def fl (x y : Int) (zs ys : List Int) : List Nat := if bothB x y zs ys then rs (gb (jn .andNot ys zs)) 0 (64 * zs.length) else []
theorem first_any (x y : Int) (a1 a2 : Option Addr) (n1 n2 cap1 cap2 : Nat) (zs ys : List Int) (w : World) (hz1 : zs.length = n1) (hm1 : n1 ≤ maxLen) (hw1 : Words zs) (hc1 : Cells w a1 zs) (hz2 : ys.length = n2) (hm2 : n2 ≤ maxLen) (hw2 : Words ys) (hc2 : Cells w a2 ys) (hT : Tab w) :
    Calls Tryd.prog 31 #[.agg #[.int .i64 x, .slice a1 n1 cap1], .agg #[.int .i64 y, .slice a2 n2 cap2]] w fun e w' => e = .returned (.tuple #[.int .i64 (((fl x y zs ys).headD 0 : Nat) : Int), .bool (!(fl x y zs ys).isEmpty), .int .i64 (je x y zs ys)]) ∧ Below w.heap.size w w' := by
  cases hY : bothB x y zs ys
  · refine (first_no x y a1 a2 n1 n2 cap1 cap2 zs ys w hz1 hm1 hc1 hz2 hm2 hc2 hY).mono fun e w' h => ?_
    simp only [fl, je, hY]
    exact h
  · obtain ⟨h1, h2, h3, h4⟩ := both_parts hY
    subst h3
    have hn : n2 = n1 := by omega
    subst hn
    refine (first_yes x a1 a2 n2 cap1 cap2 zs ys w hz1 hz2 hw1 hw2 hc1 hc2 h1 h2 hT).mono fun e w' h => ?_
    simp only [fl, je, hY, if_true]
    rw [hz1]
    exact h
theorem has_any (x y : Int) (a1 a2 : Option Addr) (n1 n2 cap1 cap2 : Nat) (zs ys : List Int) (w : World) (hz1 : zs.length = n1) (hm1 : n1 ≤ maxLen) (hw1 : Words zs) (hc1 : Cells w a1 zs) (hz2 : ys.length = n2) (hm2 : n2 ≤ maxLen) (hw2 : Words ys) (hc2 : Cells w a2 ys) (hT : Tab w) :
    Calls Tryd.prog 30 #[.agg #[.int .i64 x, .slice a1 n1 cap1], .agg #[.int .i64 y, .slice a2 n2 cap2]] w fun e w' => e = .returned (.tuple #[.bool (bothB x y zs ys && (fl x y zs ys).isEmpty), .int .i64 (je x y zs ys)]) ∧ Below w.heap.size w w' := by
  cases hY : bothB x y zs ys
  · refine (has_no x y a1 a2 n1 n2 cap1 cap2 zs ys w hz1 hm1 hc1 hz2 hm2 hc2 hY).mono fun e w' h => ?_
    simp only [fl, je, hY]
    exact h
  · obtain ⟨h1, h2, h3, h4⟩ := both_parts hY
    subst h3
    have hn : n2 = n1 := by omega
    subst hn
    refine (has_yes x a1 a2 n2 cap1 cap2 zs ys w hz1 hz2 hw1 hw2 hc1 hc2 h1 h2 hT).mono fun e w' h => ?_
    simp only [fl, je, hY, if_true, Bool.true_and]
    rw [hz1]
    exact h
theorem refFirst_any (x y : Int) (a1 a2 : Option Addr) (n1 n2 cap1 cap2 : Nat) (zs ys : List Int) (w : World) (hz1 : zs.length = n1) (hw1 : Words zs) (hc1 : Cells w a1 zs) (hz2 : ys.length = n2) (hw2 : Words ys) (hc2 : Cells w a2 ys) (hY : bothB x y zs ys = true) :
    Calls Tryd.prog 33 #[.agg #[.int .i64 x, .slice a1 n1 cap1], .agg #[.int .i64 y, .slice a2 n2 cap2]] w fun e w' => e = .returned (.tuple #[.int .i64 (((fl x y zs ys).headD 0 : Nat) : Int), .bool (!(fl x y zs ys).isEmpty)]) ∧ Below w.heap.size w w' := by
  obtain ⟨h1, h2, h3, h4⟩ := both_parts hY
  subst h3
  have hn : n2 = n1 := by omega
  subst hn
  have hw := mayB_width h1
  obtain ⟨xn, rfl⟩ := Int.eq_ofNat_of_zero_le hw.1
  refine (refFirst_yes xn a1 a2 n2 cap1 cap2 zs ys w hz1 hz2 hw1 hw2 hc1 hc2 h1 h2).mono fun e w' h => ?_
  simp only [fl, hY, if_true]
  rw [hz1]
  exact h
theorem fl_lt {x y : Int} {zs ys : List Int} : (fl x y zs ys).headD 0 < 2000 := by
  unfold fl
  split
  · rename_i h
    obtain ⟨h1, h2, h3, h4⟩ := both_parts h
    have hw := mayB_width h1
    cases hL : rs (gb (jn .andNot ys zs)) 0 (64 * zs.length) with
    | nil => simp
    | cons k l =>
      have hk : k ∈ rs (gb (jn .andNot ys zs)) 0 (64 * zs.length) := by rw [hL]; simp
      have := rs_lt hk
      simp
      omega
  · simp

set_option maxRecDepth 20000 in
set_option maxHeartbeats 4000000 in
theorem bitsJoin_short (x y : Int) (a1 a2 : Option Addr) (n1 n2 cap1 cap2 : Nat) (zs ys : List Int) (w : World) (hz1 : zs.length = n1) (hn1 : n1 ≤ 4096) (hwz : Words zs) (hnil1 : a1 = none → cap1 = 0) (hc1 : Cells w a1 zs) (hz2 : ys.length = n2) (hn2 : n2 ≤ 4096) (hwy : Words ys) (hnil2 : a2 = none → cap2 = 0) (hc2 : Cells w a2 ys) (hT : Tab w) :
    Calls Tryd.prog 5 #[.agg #[.int .i64 x, .slice a1 n1 cap1], .agg #[.int .i64 y, .slice a2 n2 cap2]] w fun e w' => e = .returned (.bool true) ∧ Below w.heap.size w w' := by
  have h1' : ¬ (4096 : Int) < (n1 : Int) := by omega
  have h2' : ¬ (4096 : Int) < (n2 : Int) := by omega
  obtain ⟨wb, hwb⟩ : ∃ wb, wb = (w.alloc (Two (.int .i64 x) (.slice a1 n1 cap1))).alloc (Two (.int .i64 y) (.slice a2 n2 cap2)) := ⟨_, rfl⟩
  have b1 : At wb w.heap.size (Two (.int .i64 x) (.slice a1 n1 cap1)) := by rw [hwb]; exact (At.new w _).alloc _
  have b2 : At wb (w.heap.size + 1) (Two (.int .i64 y) (.slice a2 n2 cap2)) := by
    rw [hwb]
    have := At.new (w.alloc (Two (.int .i64 x) (.slice a1 n1 cap1))) (Two (.int .i64 y) (.slice a2 n2 cap2))
    simpa only [World.size_alloc] using this
  have hBb : Below w.heap.size w wb := by rw [hwb]; exact ((Below.refl _ _).alloc (Nat.le_refl _) _).alloc (by simp) _
  have hsb : wb.heap.size = w.heap.size + 2 := by rw [hwb]; simp
  have HWB : Hid ((w.alloc (.cells #[.int .i64 x, .slice a1 n1 cap1] 24)).alloc (.cells #[.int .i64 y, .slice a2 n2 cap2] 24) = wb) := hwb.symm
  have hd1 := hc1.below hBb
  have hd2 := hc2.below hBb
  have HL1 : Hid (∀ W, Below wb.heap.size wb W → Calls Tryd.prog 11 #[.agg #[.int .i64 x, .slice a1 n1 cap1]] W fun e w' => ∃ g cap', e = .returned (.agg #[.int .i64 x, .slice (some ⟨g, 0, none⟩) n1 cap']) ∧ Mine w' W.heap.size (some ⟨g, 0, none⟩) (n1 + 1) cap' (zs ++ [77]) ∧ Below W.heap.size W w') := fun W h => lent_any x a1 n1 cap1 zs W hz1 (by omega) hnil1 (hd1.below h)
  have HL2 : Hid (∀ W, Below wb.heap.size wb W → Calls Tryd.prog 11 #[.agg #[.int .i64 y, .slice a2 n2 cap2]] W fun e w' => ∃ g cap', e = .returned (.agg #[.int .i64 y, .slice (some ⟨g, 0, none⟩) n2 cap']) ∧ Mine w' W.heap.size (some ⟨g, 0, none⟩) (n2 + 1) cap' (ys ++ [77]) ∧ Below W.heap.size W w') := fun W h => lent_any y a2 n2 cap2 ys W hz2 (by omega) hnil2 (hd2.below h)
  have HS : Hid (∀ W, Below wb.heap.size wb W → (W.cell? ⟨w.heap.size, 0, none⟩ = some (.int .i64 x) ∧ W.cell? ⟨w.heap.size, 1, none⟩ = some (.slice a1 n1 cap1) ∧ W.cell? ⟨w.heap.size + 1, 0, none⟩ = some (.int .i64 y) ∧ W.cell? ⟨w.heap.size + 1, 1, none⟩ = some (.slice a2 n2 cap2))) := fun W h => ⟨(b1.below h).all.1, (b1.below h).all.2.1, (b2.below h).all.1, (b2.below h).all.2.1⟩
  have hTb : Tab wb := hT.belowAll hBb
  have HSB : Hid (wb.heap.size = w.heap.size + 2) := hsb
  clear hwb hsb
  go_enter Tryd.func5, Tryd.ntmps5
  go_upto_region 3 with fail
  rw [HWB.out]
  go_cut [5, 6] from 21 to 191 (fun u v wx => ∃ bp bq g0 g1 c0 c1, u = .pointer (some ⟨bp, 0, none⟩) ∧ v = .pointer (some ⟨bq, 0, none⟩) ∧ Below wb.heap.size wb wx ∧ At wx bp (Two (.int .i64 x) (.slice (some ⟨g0, 0, none⟩) n1 c0)) ∧ At wx bq (Two (.int .i64 y) (.slice (some ⟨g1, 0, none⟩) n2 c1)) ∧ Mine wx wb.heap.size (some ⟨g0, 0, none⟩) (n1 + 1) c0 (zs ++ [77]) ∧ Mine wx wb.heap.size (some ⟨g1, 0, none⟩) (n2 + 1) c1 (ys ++ [77]))
  case first =>
    obtain ⟨r0, r1, r2⟩ := b1.all
    obtain ⟨s0, s1, s2⟩ := b2.all
    go_region_held3 (fun w' => w'.cell? ⟨w.heap.size, 0, none⟩ = some (.int .i64 x) ∧ w'.cell? ⟨w.heap.size, 1, none⟩ = some (.slice a1 n1 cap1) ∧ w'.cell? ⟨w.heap.size + 1, 0, none⟩ = some (.int .i64 y) ∧ w'.cell? ⟨w.heap.size + 1, 1, none⟩ = some (.slice a2 n2 cap2))
      (first | (refine HS.out _ ?_; repeat (first | (with_reducible exact hbB) | (with_reducible exact hbA) | (with_reducible exact Below.refl _ _) | (with_reducible refine belA ?_) | (with_reducible refine belD ?_) | (refine belS ?_ (by omega)))) | go_keep)
      (first
        | (go_at_call 11; refine (HL2.out wA (below_after hbA (Below.refl _ _))).mono ?_; rintro e wBB ⟨g1, c1, rfl, hM1, hbb⟩; have hbB : Below wb.heap.size wb wBB := below_after (below_after hbA (Below.refl _ _)) hbb; have hsB := hbB.size; have hM0B := hM0.belowAll (below_after (Below.refl _ _) hbb); have hM1B := mine_from (below_after hbA (Below.refl _ _)) hM1; (try have hz1B := hz1.below hbb); (try obtain ⟨z10, z11, z12⟩ := hz1B.all); (try have hz2B := hz2.below hbb); (try obtain ⟨z20, z21, z22⟩ := hz2B.all); (try have hn1 : wb.heap.size ≠ wBB.heap.size := Nat.ne_of_lt hz1B.lt); (try have hn2 : wb.heap.size + 1 ≠ wBB.heap.size := Nat.ne_of_lt hz2B.lt); (try have hn3 : wA.heap.size ≠ wBB.heap.size := Nat.ne_of_lt hy1.lt); (try have hn4 : wA.heap.size + 1 ≠ wBB.heap.size := Nat.ne_of_lt hy2.lt); (try obtain ⟨q10, r10, s10⟩ := (hz1B.alloc Zt).all); (try obtain ⟨q11, r11, s11⟩ := ((hz1B.setFst (.int .i64 x)).alloc Zt).all); (try obtain ⟨q12, r12, s12⟩ := (hz1B.alloc (Two (.int .i64 x) (.slice (some ⟨g0, 0, none⟩) n1 c0))).all); (try obtain ⟨q13, r13, s13⟩ := ((hz1B.setFst (.int .i64 y)).alloc (Two (.int .i64 x) (.slice (some ⟨g0, 0, none⟩) n1 c0))).all); (try obtain ⟨q14, r14, s14⟩ := (hz2B.alloc Zt).all); (try obtain ⟨q15, r15, s15⟩ := ((hz2B.setFst (.int .i64 x)).alloc Zt).all); (try obtain ⟨q16, r16, s16⟩ := (hz2B.alloc (Two (.int .i64 x) (.slice (some ⟨g0, 0, none⟩) n1 c0))).all); (try obtain ⟨q17, r17, s17⟩ := ((hz2B.setFst (.int .i64 y)).alloc (Two (.int .i64 x) (.slice (some ⟨g0, 0, none⟩) n1 c0))).all); (try obtain ⟨q18, r18, s18⟩ := (hy1.alloc Zt).all); (try obtain ⟨q19, r19, s19⟩ := ((hy1.setFst (.int .i64 x)).alloc Zt).all); (try obtain ⟨q20, r20, s20⟩ := (hy1.alloc (Two (.int .i64 x) (.slice (some ⟨g0, 0, none⟩) n1 c0))).all); (try obtain ⟨q21, r21, s21⟩ := ((hy1.setFst (.int .i64 y)).alloc (Two (.int .i64 x) (.slice (some ⟨g0, 0, none⟩) n1 c0))).all); (try obtain ⟨q22, r22, s22⟩ := (hy2.alloc Zt).all); (try obtain ⟨q23, r23, s23⟩ := ((hy2.setFst (.int .i64 x)).alloc Zt).all); (try obtain ⟨q24, r24, s24⟩ := (hy2.alloc (Two (.int .i64 x) (.slice (some ⟨g0, 0, none⟩) n1 c0))).all); (try obtain ⟨q25, r25, s25⟩ := ((hy2.setFst (.int .i64 y)).alloc (Two (.int .i64 x) (.slice (some ⟨g0, 0, none⟩) n1 c0))).all))
        | (go_at_call 11; refine (HL2.out (wA.alloc Zt) (below_after hbA ((Below.refl _ _).alloc (Nat.le_refl _) Zt))).mono ?_; rintro e wBB ⟨g1, c1, rfl, hM1, hbb⟩; have hbB : Below wb.heap.size wb wBB := below_after (below_after hbA ((Below.refl _ _).alloc (Nat.le_refl _) Zt)) hbb; have hsB := hbB.size; have hM0B := hM0.belowAll (below_after ((Below.refl _ _).alloc (Nat.le_refl _) Zt) hbb); have hM1B := mine_from (below_after hbA ((Below.refl _ _).alloc (Nat.le_refl _) Zt)) hM1; have hy1 := (At.new wA Zt).below hbb; obtain ⟨y10, y11, y12⟩ := hy1.all; (try have hz1B := (hz1.alloc Zt).below hbb); (try obtain ⟨z10, z11, z12⟩ := hz1B.all); (try have hz2B := (hz2.alloc Zt).below hbb); (try obtain ⟨z20, z21, z22⟩ := hz2B.all); (try have hn1 : wb.heap.size ≠ wBB.heap.size := Nat.ne_of_lt hz1B.lt); (try have hn2 : wb.heap.size + 1 ≠ wBB.heap.size := Nat.ne_of_lt hz2B.lt); (try have hn3 : wA.heap.size ≠ wBB.heap.size := Nat.ne_of_lt hy1.lt); (try have hn4 : wA.heap.size + 1 ≠ wBB.heap.size := Nat.ne_of_lt hy2.lt); (try obtain ⟨q10, r10, s10⟩ := (hz1B.alloc Zt).all); (try obtain ⟨q11, r11, s11⟩ := ((hz1B.setFst (.int .i64 x)).alloc Zt).all); (try obtain ⟨q12, r12, s12⟩ := (hz1B.alloc (Two (.int .i64 x) (.slice (some ⟨g0, 0, none⟩) n1 c0))).all); (try obtain ⟨q13, r13, s13⟩ := ((hz1B.setFst (.int .i64 y)).alloc (Two (.int .i64 x) (.slice (some ⟨g0, 0, none⟩) n1 c0))).all); (try obtain ⟨q14, r14, s14⟩ := (hz2B.alloc Zt).all); (try obtain ⟨q15, r15, s15⟩ := ((hz2B.setFst (.int .i64 x)).alloc Zt).all); (try obtain ⟨q16, r16, s16⟩ := (hz2B.alloc (Two (.int .i64 x) (.slice (some ⟨g0, 0, none⟩) n1 c0))).all); (try obtain ⟨q17, r17, s17⟩ := ((hz2B.setFst (.int .i64 y)).alloc (Two (.int .i64 x) (.slice (some ⟨g0, 0, none⟩) n1 c0))).all); (try obtain ⟨q18, r18, s18⟩ := (hy1.alloc Zt).all); (try obtain ⟨q19, r19, s19⟩ := ((hy1.setFst (.int .i64 x)).alloc Zt).all); (try obtain ⟨q20, r20, s20⟩ := (hy1.alloc (Two (.int .i64 x) (.slice (some ⟨g0, 0, none⟩) n1 c0))).all); (try obtain ⟨q21, r21, s21⟩ := ((hy1.setFst (.int .i64 y)).alloc (Two (.int .i64 x) (.slice (some ⟨g0, 0, none⟩) n1 c0))).all); (try obtain ⟨q22, r22, s22⟩ := (hy2.alloc Zt).all); (try obtain ⟨q23, r23, s23⟩ := ((hy2.setFst (.int .i64 x)).alloc Zt).all); (try obtain ⟨q24, r24, s24⟩ := (hy2.alloc (Two (.int .i64 x) (.slice (some ⟨g0, 0, none⟩) n1 c0))).all); (try obtain ⟨q25, r25, s25⟩ := ((hy2.setFst (.int .i64 y)).alloc (Two (.int .i64 x) (.slice (some ⟨g0, 0, none⟩) n1 c0))).all))
        | (go_at_call 11; refine (HL2.out ((wA.alloc Zt).alloc Zt) (below_after hbA (((Below.refl _ _).alloc (Nat.le_refl _) Zt).alloc (by simp) Zt))).mono ?_; rintro e wBB ⟨g1, c1, rfl, hM1, hbb⟩; have hbB : Below wb.heap.size wb wBB := below_after (below_after hbA (((Below.refl _ _).alloc (Nat.le_refl _) Zt).alloc (by simp) Zt)) hbb; have hsB := hbB.size; have hM0B := hM0.belowAll (below_after (((Below.refl _ _).alloc (Nat.le_refl _) Zt).alloc (by simp) Zt) hbb); have hM1B := mine_from (below_after hbA (((Below.refl _ _).alloc (Nat.le_refl _) Zt).alloc (by simp) Zt)) hM1; have hy1 := ((At.new wA Zt).alloc Zt).below hbb; obtain ⟨y10, y11, y12⟩ := hy1.all; have hy2 := (At.new (wA.alloc Zt) Zt).below hbb; simp only [World.size_alloc] at hy2; obtain ⟨y20, y21, y22⟩ := hy2.all; (try have hz1B := ((hz1.alloc Zt).alloc Zt).below hbb); (try obtain ⟨z10, z11, z12⟩ := hz1B.all); (try have hz2B := ((hz2.alloc Zt).alloc Zt).below hbb); (try obtain ⟨z20, z21, z22⟩ := hz2B.all); (try have hn1 : wb.heap.size ≠ wBB.heap.size := Nat.ne_of_lt hz1B.lt); (try have hn2 : wb.heap.size + 1 ≠ wBB.heap.size := Nat.ne_of_lt hz2B.lt); (try have hn3 : wA.heap.size ≠ wBB.heap.size := Nat.ne_of_lt hy1.lt); (try have hn4 : wA.heap.size + 1 ≠ wBB.heap.size := Nat.ne_of_lt hy2.lt); (try obtain ⟨q10, r10, s10⟩ := (hz1B.alloc Zt).all); (try obtain ⟨q11, r11, s11⟩ := ((hz1B.setFst (.int .i64 x)).alloc Zt).all); (try obtain ⟨q12, r12, s12⟩ := (hz1B.alloc (Two (.int .i64 x) (.slice (some ⟨g0, 0, none⟩) n1 c0))).all); (try obtain ⟨q13, r13, s13⟩ := ((hz1B.setFst (.int .i64 y)).alloc (Two (.int .i64 x) (.slice (some ⟨g0, 0, none⟩) n1 c0))).all); (try obtain ⟨q14, r14, s14⟩ := (hz2B.alloc Zt).all); (try obtain ⟨q15, r15, s15⟩ := ((hz2B.setFst (.int .i64 x)).alloc Zt).all); (try obtain ⟨q16, r16, s16⟩ := (hz2B.alloc (Two (.int .i64 x) (.slice (some ⟨g0, 0, none⟩) n1 c0))).all); (try obtain ⟨q17, r17, s17⟩ := ((hz2B.setFst (.int .i64 y)).alloc (Two (.int .i64 x) (.slice (some ⟨g0, 0, none⟩) n1 c0))).all); (try obtain ⟨q18, r18, s18⟩ := (hy1.alloc Zt).all); (try obtain ⟨q19, r19, s19⟩ := ((hy1.setFst (.int .i64 x)).alloc Zt).all); (try obtain ⟨q20, r20, s20⟩ := (hy1.alloc (Two (.int .i64 x) (.slice (some ⟨g0, 0, none⟩) n1 c0))).all); (try obtain ⟨q21, r21, s21⟩ := ((hy1.setFst (.int .i64 y)).alloc (Two (.int .i64 x) (.slice (some ⟨g0, 0, none⟩) n1 c0))).all); (try obtain ⟨q22, r22, s22⟩ := (hy2.alloc Zt).all); (try obtain ⟨q23, r23, s23⟩ := ((hy2.setFst (.int .i64 x)).alloc Zt).all); (try obtain ⟨q24, r24, s24⟩ := (hy2.alloc (Two (.int .i64 x) (.slice (some ⟨g0, 0, none⟩) n1 c0))).all); (try obtain ⟨q25, r25, s25⟩ := ((hy2.setFst (.int .i64 y)).alloc (Two (.int .i64 x) (.slice (some ⟨g0, 0, none⟩) n1 c0))).all))
        | (go_at_call 11; refine (HL1.out wb.drew (Below.refl _ _).drew).mono ?_; rintro e wA ⟨g0, c0, rfl, hM0', hba⟩; have hM0 := mine_from (Below.refl _ _).drew hM0'; have hbA : Below wb.heap.size wb wA := below_after (Below.refl _ _).drew hba; have hsA := hbA.size)
        | (go_at_call 11; refine (HL1.out (wb.alloc Zt).drew ((Below.refl _ _).alloc (Nat.le_refl _) Zt).drew).mono ?_; rintro e wA ⟨g0, c0, rfl, hM0', hba⟩; have hM0 := mine_from ((Below.refl _ _).alloc (Nat.le_refl _) Zt).drew hM0'; have hbA : Below wb.heap.size wb wA := below_after ((Below.refl _ _).alloc (Nat.le_refl _) Zt).drew hba; have hsA := hbA.size; have hz1 := (At.new wb Zt).drew.below hba; have hn5 : wb.heap.size ≠ wA.heap.size := Nat.ne_of_lt hz1.lt; have hn6 : wA.heap.size ≠ wb.heap.size := Nat.ne_of_gt hz1.lt)
        | (go_at_call 11; refine (HL1.out ((wb.alloc Zt).alloc Zt).drew (((Below.refl _ _).alloc (Nat.le_refl _) Zt).alloc (by simp) Zt).drew).mono ?_; rintro e wA ⟨g0, c0, rfl, hM0', hba⟩; have hM0 := mine_from (((Below.refl _ _).alloc (Nat.le_refl _) Zt).alloc (by simp) Zt).drew hM0'; have hbA : Below wb.heap.size wb wA := below_after (((Below.refl _ _).alloc (Nat.le_refl _) Zt).alloc (by simp) Zt).drew hba; have hsA := hbA.size; have hz1 := ((At.new wb Zt).alloc Zt).drew.below hba; have hz2 := (At.new (wb.alloc Zt) Zt).drew.below hba; simp only [World.size_alloc] at hz2))
    all_goals go_wp2_with fail
    all_goals go_meet
    all_goals first
      | (exact ⟨_, _, g0, g1, c0, c1, rfl, rfl, lent_both hz1B hz2B (by omega) (by omega) (by omega) hbB hM0B hM1B rfl⟩)
      | (exact ⟨_, _, g0, g1, c0, c1, rfl, rfl, lent_both hz1B hy1 (by omega) (by omega) (by omega) hbB hM0B hM1B rfl⟩)
      | (exact ⟨_, _, g0, g1, c0, c1, rfl, rfl, lent_both hz1B hy2 (by omega) (by omega) (by omega) hbB hM0B hM1B rfl⟩)
      | (exact ⟨_, _, g0, g1, c0, c1, rfl, rfl, lent_both hz2B hz1B (by omega) (by omega) (by omega) hbB hM0B hM1B rfl⟩)
      | (exact ⟨_, _, g0, g1, c0, c1, rfl, rfl, lent_both hz2B hy1 (by omega) (by omega) (by omega) hbB hM0B hM1B rfl⟩)
      | (exact ⟨_, _, g0, g1, c0, c1, rfl, rfl, lent_both hz2B hy2 (by omega) (by omega) (by omega) hbB hM0B hM1B rfl⟩)
      | (exact ⟨_, _, g0, g1, c0, c1, rfl, rfl, lent_both hy1 hz1B (by omega) (by omega) (by omega) hbB hM0B hM1B rfl⟩)
      | (exact ⟨_, _, g0, g1, c0, c1, rfl, rfl, lent_both hy1 hz2B (by omega) (by omega) (by omega) hbB hM0B hM1B rfl⟩)
      | (exact ⟨_, _, g0, g1, c0, c1, rfl, rfl, lent_both hy1 hy2 (by omega) (by omega) (by omega) hbB hM0B hM1B rfl⟩)
      | (exact ⟨_, _, g0, g1, c0, c1, rfl, rfl, lent_both hy2 hz1B (by omega) (by omega) (by omega) hbB hM0B hM1B rfl⟩)
      | (exact ⟨_, _, g0, g1, c0, c1, rfl, rfl, lent_both hy2 hz2B (by omega) (by omega) (by omega) hbB hM0B hM1B rfl⟩)
      | (exact ⟨_, _, g0, g1, c0, c1, rfl, rfl, lent_both hy2 hy1 (by omega) (by omega) (by omega) hbB hM0B hM1B rfl⟩)
      | (exact ⟨_, _, g0, g1, c0, c1, rfl, rfl, lent_both (hz1B.alloc Zt) (At.new wBB Zt) (by omega) (by omega) (by omega) (belA hbB) (hM0B.belowAll (belA (Below.refl _ _))) (hM1B.belowAll (belA (Below.refl _ _))) rfl⟩)
      | (exact ⟨_, _, g0, g1, c0, c1, rfl, rfl, lent_d hz1B (by omega) hbB hM0B hM1B rfl⟩)
      | (exact ⟨_, _, g0, g1, c0, c1, rfl, rfl, lent_both (hz2B.alloc Zt) (At.new wBB Zt) (by omega) (by omega) (by omega) (belA hbB) (hM0B.belowAll (belA (Below.refl _ _))) (hM1B.belowAll (belA (Below.refl _ _))) rfl⟩)
      | (exact ⟨_, _, g0, g1, c0, c1, rfl, rfl, lent_d hz2B (by omega) hbB hM0B hM1B rfl⟩)
      | (exact ⟨_, _, g0, g1, c0, c1, rfl, rfl, lent_both (hy1.alloc Zt) (At.new wBB Zt) (by omega) (by omega) (by omega) (belA hbB) (hM0B.belowAll (belA (Below.refl _ _))) (hM1B.belowAll (belA (Below.refl _ _))) rfl⟩)
      | (exact ⟨_, _, g0, g1, c0, c1, rfl, rfl, lent_d hy1 (by omega) hbB hM0B hM1B rfl⟩)
      | (exact ⟨_, _, g0, g1, c0, c1, rfl, rfl, lent_both (hy2.alloc Zt) (At.new wBB Zt) (by omega) (by omega) (by omega) (belA hbB) (hM0B.belowAll (belA (Below.refl _ _))) (hM1B.belowAll (belA (Below.refl _ _))) rfl⟩)
      | (exact ⟨_, _, g0, g1, c0, c1, rfl, rfl, lent_d hy2 (by omega) hbB hM0B hM1B rfl⟩)
      | (exact ⟨_, _, g0, g1, c0, c1, rfl, rfl, lent_a hbB hM0B hM1B _ _ _ _ ((At.new _ _).alloc _) (at_second _ _ _)⟩)
      | (exact ⟨_, _, g0, g1, c0, c1, rfl, rfl, lent_a hbB hM0B hM1B _ _ _ _ (at_second _ _ _) ((At.new _ _).alloc _)⟩)
  case rest =>
    obtain ⟨bp, bq, g0, g1, c0, c1, rfl, rfl, hBd', bP, bQ, mP, mQ⟩ := hcut
    generalize wc = wd at *
    have hBd : Below w.heap.size w wd := hBb.trans (hBd'.mono hBb.size)
    obtain ⟨xr, hxr⟩ : ∃ xr, xr = jx x y zs ys := ⟨_, rfl⟩
    obtain ⟨er, her⟩ : ∃ er, er = je x y zs ys := ⟨_, rfl⟩
    obtain ⟨z0, hz0⟩ : ∃ z, z = jz 0 x y zs ys := ⟨_, rfl⟩
    obtain ⟨z1, hz1'⟩ : ∃ z, z = jz 1 x y zs ys := ⟨_, rfl⟩
    obtain ⟨z2, hz2'⟩ : ∃ z, z = jz 2 x y zs ys := ⟨_, rfl⟩
    have hl0 : z0.length ≤ 17 := by rw [hz0]; exact jz_len _ _ _ _ _
    have hl1 : z1.length ≤ 17 := by rw [hz1']; exact jz_len _ _ _ _ _
    have hl2 : z2.length ≤ 17 := by rw [hz2']; exact jz_len _ _ _ _ _
    have hm1 : n1 ≤ maxLen := by unfold maxLen; omega
    have hm2 : n2 ≤ maxLen := by unfold maxLen; omega
    have HCP : ∀ W, Below wd.heap.size wd W → Cells W (some ⟨g0, 0, none⟩) zs := fun W h => (mP.belowAll h).take.cells
    have HCQ : ∀ W, Below wd.heap.size wd W → Cells W (some ⟨g1, 0, none⟩) ys := fun W h => (mQ.belowAll h).take.cells
    have HC1 : ∀ W, Below wd.heap.size wd W → Cells W a1 zs := fun W h => hc1.below (hBd.trans (h.mono hBd.size))
    have HC2 : ∀ W, Below wd.heap.size wd W → Cells W a2 ys := fun W h => hc2.below (hBd.trans (h.mono hBd.size))
    have HTd : ∀ W, Below wd.heap.size wd W → Tab W := fun W h => hT.below (hBd.trans (h.mono hBd.size)) hT.1
    have HOr : Hid (∀ W, Below wd.heap.size wd W → Calls Tryd.prog 26 #[.agg #[.int .i64 x, .slice (some ⟨g0, 0, none⟩) n1 c0], .agg #[.int .i64 y, .slice (some ⟨g1, 0, none⟩) n2 c1]] W fun e w' => ∃ aa cc, e = .returned (.tuple #[.agg #[.int .i64 xr, .slice aa z0.length cc], .int .i64 er]) ∧ Mine w' W.heap.size aa z0.length cc z0 ∧ Below W.heap.size W w') := fun W h => by
      rw [hxr, her, hz0]; exact or_any x y _ _ n1 n2 c0 c1 zs ys W hz1 hm1 (HCP W h) hz2 hm2 (HCQ W h)
    have HJ0 : Hid (∀ W, Below wd.heap.size wd W → Calls Tryd.prog 29 #[.agg #[.int .i64 x, .slice a1 n1 cap1], .agg #[.int .i64 y, .slice a2 n2 cap2], .int .i64 0] W fun e w' => ∃ aa cc, e = .returned (.tuple #[.agg #[.int .i64 xr, .slice aa z0.length cc], .int .i64 er]) ∧ Mine w' W.heap.size aa z0.length cc z0 ∧ Below W.heap.size W w') := fun W h => by
      rw [hxr, her, hz0]; exact refJoin0_any x y a1 a2 n1 n2 cap1 cap2 zs ys W hz1 hm1 hwz (HC1 W h) hz2 hm2 hwy (HC2 W h)
    have HAnd : Hid (∀ W, Below wd.heap.size wd W → Calls Tryd.prog 27 #[.agg #[.int .i64 x, .slice (some ⟨g0, 0, none⟩) n1 c0], .agg #[.int .i64 y, .slice (some ⟨g1, 0, none⟩) n2 c1]] W fun e w' => ∃ aa cc, e = .returned (.tuple #[.agg #[.int .i64 xr, .slice aa z1.length cc], .int .i64 er]) ∧ Mine w' W.heap.size aa z1.length cc z1 ∧ Below W.heap.size W w') := fun W h => by
      rw [hxr, her, hz1']; exact and_any x y _ _ n1 n2 c0 c1 zs ys W hz1 hm1 (HCP W h) hz2 hm2 (HCQ W h)
    have HJ1 : Hid (∀ W, Below wd.heap.size wd W → Calls Tryd.prog 29 #[.agg #[.int .i64 x, .slice a1 n1 cap1], .agg #[.int .i64 y, .slice a2 n2 cap2], .int .i64 1] W fun e w' => ∃ aa cc, e = .returned (.tuple #[.agg #[.int .i64 xr, .slice aa z1.length cc], .int .i64 er]) ∧ Mine w' W.heap.size aa z1.length cc z1 ∧ Below W.heap.size W w') := fun W h => by
      rw [hxr, her, hz1']; exact refJoin1_any x y a1 a2 n1 n2 cap1 cap2 zs ys W hz1 hm1 hwz (HC1 W h) hz2 hm2 hwy (HC2 W h)
    have HLes : Hid (∀ W, Below wd.heap.size wd W → Calls Tryd.prog 28 #[.agg #[.int .i64 x, .slice (some ⟨g0, 0, none⟩) n1 c0], .agg #[.int .i64 y, .slice (some ⟨g1, 0, none⟩) n2 c1]] W fun e w' => ∃ aa cc, e = .returned (.tuple #[.agg #[.int .i64 xr, .slice aa z2.length cc], .int .i64 er]) ∧ Mine w' W.heap.size aa z2.length cc z2 ∧ Below W.heap.size W w') := fun W h => by
      rw [hxr, her, hz2']; exact less_any x y _ _ n1 n2 c0 c1 zs ys W hz1 hm1 (HCP W h) hz2 hm2 (HCQ W h)
    have HJ2 : Hid (∀ W, Below wd.heap.size wd W → Calls Tryd.prog 29 #[.agg #[.int .i64 x, .slice a1 n1 cap1], .agg #[.int .i64 y, .slice a2 n2 cap2], .int .i64 2] W fun e w' => ∃ aa cc, e = .returned (.tuple #[.agg #[.int .i64 xr, .slice aa z2.length cc], .int .i64 er]) ∧ Mine w' W.heap.size aa z2.length cc z2 ∧ Below W.heap.size W w') := fun W h => by
      rw [hxr, her, hz2']; exact refJoin2_any x y a1 a2 n1 n2 cap1 cap2 zs ys W hz1 hm1 hwz (HC1 W h) hz2 hm2 hwy (HC2 W h)
    have HHas : Hid (∀ W, Below wd.heap.size wd W → Calls Tryd.prog 30 #[.agg #[.int .i64 x, .slice (some ⟨g0, 0, none⟩) n1 c0], .agg #[.int .i64 y, .slice (some ⟨g1, 0, none⟩) n2 c1]] W fun e w' => e = .returned (.tuple #[.bool (bothB x y zs ys && (fl x y zs ys).isEmpty), .int .i64 er]) ∧ Below W.heap.size W w') := fun W h => by
      rw [her]; exact has_any x y _ _ n1 n2 c0 c1 zs ys W hz1 hm1 hwz (HCP W h) hz2 hm2 hwy (HCQ W h) (HTd W h)
    have HFst : Hid (∀ W, Below wd.heap.size wd W → Calls Tryd.prog 31 #[.agg #[.int .i64 x, .slice (some ⟨g0, 0, none⟩) n1 c0], .agg #[.int .i64 y, .slice (some ⟨g1, 0, none⟩) n2 c1]] W fun e w' => e = .returned (.tuple #[.int .i64 (((fl x y zs ys).headD 0 : Nat) : Int), .bool (!(fl x y zs ys).isEmpty), .int .i64 er]) ∧ Below W.heap.size W w') := fun W h => by
      rw [her]; exact first_any x y _ _ n1 n2 c0 c1 zs ys W hz1 hm1 hwz (HCP W h) hz2 hm2 hwy (HCQ W h) (HTd W h)
    have HBo : Hid (∀ W, Below wd.heap.size wd W → Calls Tryd.prog 32 #[.agg #[.int .i64 x, .slice a1 n1 cap1], .agg #[.int .i64 y, .slice a2 n2 cap2]] W fun e w' => e = .returned (.bool (bothB x y zs ys)) ∧ Below W.heap.size W w') := fun W h => both_any x y a1 a2 n1 n2 cap1 cap2 zs ys W hz1 hm1 hwz (HC1 W h) hz2 hm2 hwy (HC2 W h)
    have HRF : Hid (bothB x y zs ys = true → ∀ W, Below wd.heap.size wd W → Calls Tryd.prog 33 #[.agg #[.int .i64 x, .slice a1 n1 cap1], .agg #[.int .i64 y, .slice a2 n2 cap2]] W fun e w' => e = .returned (.tuple #[.int .i64 (((fl x y zs ys).headD 0 : Nat) : Int), .bool (!(fl x y zs ys).isEmpty)]) ∧ Below W.heap.size W w') := fun hb W h => refFirst_any x y a1 a2 n1 n2 cap1 cap2 zs ys W hz1 hwz (HC1 W h) hz2 hwy (HC2 W h) hb
    have HK1 : Hid (∀ W, Below wd.heap.size wd W → Calls Tryd.prog 22 #[.agg #[.int .i64 x, .slice (some ⟨g0, 0, none⟩) n1 c0], .agg #[.int .i64 x, .slice a1 n1 cap1]] W fun e w' => e = .returned (.bool true) ∧ Below W.heap.size W w') := fun W h => kept_true x g0 n1 c0 _ a1 cap1 zs W (by omega) (mP.belowAll h) (HC1 W h)
    have HK2 : Hid (∀ W, Below wd.heap.size wd W → Calls Tryd.prog 22 #[.agg #[.int .i64 y, .slice (some ⟨g1, 0, none⟩) n2 c1], .agg #[.int .i64 y, .slice a2 n2 cap2]] W fun e w' => e = .returned (.bool true) ∧ Below W.heap.size W w') := fun W h => kept_true y g1 n2 c1 _ a2 cap2 ys W (by omega) (mQ.belowAll h) (HC2 W h)
    have b1d := b1.below hBd'
    have b2d := b2.below hBd'
    have HBd : Hid (Below w.heap.size w wd) := hBd
    have hpl := bP.lt
    have hql := bQ.lt
    have h1l := b1d.lt
    have h2l := b2d.lt
    have her2 : er = 0 ∨ er = 2 := by rw [her]; unfold je; split <;> simp
    have HB0 : Hid (bothB x y zs ys = true → er = 0) := fun h => by rw [her]; unfold je; rw [if_pos h]
    have HB2 : Hid (bothB x y zs ys = false → er = 2) := fun h => by rw [her]; unfold je; rw [h]; rfl
    obtain ⟨L, hL⟩ : ∃ L, L = fl x y zs ys := ⟨_, rfl⟩
    have HLn : Hid (bothB x y zs ys = false → L = []) := fun h => by rw [hL]; unfold fl; rw [h]; rfl
    have hLt : L.headD 0 < 2000 := by rw [hL]; exact fl_lt
    obtain ⟨bb, hbbb⟩ : ∃ bb, bb = bothB x y zs ys := ⟨_, rfl⟩
    rw [← hL] at HHas HFst HRF
    rw [← hbbb] at HHas HRF HBo HB0 HB2 HLn
    clear hL hbbb HCP HCQ HC1 HC2 HTd mP mQ hBd hBd' hxr her hz0 hz1' hz2' hwz hwy hnil1 hnil2 hc1 hc2 hT hTb HL1 HL2 HS hd1 hd2 HWB b1 b2 hBb hm1 hm2 HSB
    go_wp2_with fail
    go_loopw [7] (fun i wr => ∃ k : Nat, k ≤ 3 ∧ i = .int .i64 k ∧ Below wd.heap.size wd wr) (fun i _ => 3 - (intOf i).toNat)
    case atStart => exact ⟨0, by omega, rfl, Below.refl _ _⟩
    case round =>
      obtain ⟨k, hk3, rfl, hbr⟩ := hrel
      have hsr := hbr.size
      by_cases hlt : k < 3
      · have hd1 : bp ≠ wr.heap.size := by omega
        have hd2 : bq ≠ wr.heap.size := by omega
        have hd3 : bp ≠ wr.heap.size + 1 := by omega
        have hd4 : bq ≠ wr.heap.size + 1 := by omega
        have hd5 : w.heap.size ≠ wr.heap.size := by omega
        have hd6 : w.heap.size + 1 ≠ wr.heap.size := by omega
        have hd7 : w.heap.size ≠ wr.heap.size + 1 := by omega
        have hd8 : w.heap.size + 1 ≠ wr.heap.size + 1 := by omega
        have hb2 : Below wd.heap.size wd ((wr.alloc Zt).alloc Zt) := belA (belA hbr)
        have e5 := bP.below hb2
        have e6 := bQ.below hb2
        obtain ⟨p0, p1, p2⟩ := e5.all
        obtain ⟨q0, q1, q2⟩ := e6.all
        obtain rfl | rfl | rfl : k = 0 ∨ k = 1 ∨ k = 2 := by omega
        · go_wp2_with (first
            | (go_at_call 26; refine (HOr.out _ hb4).mono ?_; rintro e w5 ⟨ab, cb, rfl, mB, hb5⟩; clear p0 p1 p2 q0 q1 q2 o0 o1 o2; have z95 := z94.below hb5; have z85 := z84.below hb5; obtain ⟨o0, o1, o2⟩ := z95.all; have hbx5 := below_after hb4 hb5; have hb6 : Below wd.heap.size wd ((w5.setCell ⟨wr.heap.size + 1, 0, none⟩ (.int .i64 xr)).setCell ⟨wr.heap.size + 1, 1, none⟩ (.slice ab z0.length cb)) := belS (belS hbx5 (by omega)) (by omega); have z86 := (z85.set (a := ⟨wr.heap.size + 1, 0, none⟩) (by simp) (.int .i64 xr)).set (a := ⟨wr.heap.size + 1, 1, none⟩) (by simp) (.slice ab z0.length cb); have z96 := z95.setTwo (.int .i64 xr) (.slice ab z0.length cb); obtain ⟨p0, p1, p2⟩ := (b1d.below hb6).all; obtain ⟨q0, q1, q2⟩ := (b2d.below hb6).all; have mB6 := mine_set2' (p := .int .i64 xr) (q := .slice ab z0.length cb) mB hs4; have mA6 := mine_set2' (p := .int .i64 xr) (q := .slice ab z0.length cb) (mA4.belowAll hb5) hs5)
            | (go_at_call 26; refine (HOr.out _ hb2).mono ?_; rintro e w3 ⟨aa, ca, rfl, mA, hb3⟩; clear p0 p1 p2 q0 q1 q2; have z83 := ((At.new wr Zt).alloc Zt).below hb3; have z93 := (at_second wr Zt Zt).below hb3; obtain ⟨o0, o1, o2⟩ := z83.all; have hbx3 := below_after hb2 hb3; have hb4 : Below wd.heap.size wd ((w3.setCell ⟨wr.heap.size, 0, none⟩ (.int .i64 xr)).setCell ⟨wr.heap.size, 1, none⟩ (.slice aa z0.length ca)) := belS (belS hbx3 (by omega)) (by omega); have z84 := z83.setTwo (.int .i64 xr) (.slice aa z0.length ca); have z94 := (z93.set (a := ⟨wr.heap.size, 0, none⟩) (by simp) (.int .i64 xr)).set (a := ⟨wr.heap.size, 1, none⟩) (by simp) (.slice aa z0.length ca); obtain ⟨p0, p1, p2⟩ := (bP.below hb4).all; obtain ⟨q0, q1, q2⟩ := (bQ.below hb4).all; have hs4 : wr.heap.size + 1 < ((w3.setCell ⟨wr.heap.size, 0, none⟩ (.int .i64 xr)).setCell ⟨wr.heap.size, 1, none⟩ (.slice aa z0.length ca)).heap.size := z94.lt; have hs5 : wr.heap.size + 1 < ((wr.alloc Zt).alloc Zt).heap.size := (at_second wr Zt Zt).lt; have mA4 := mine_set2' (p := .int .i64 xr) (q := .slice aa z0.length ca) mA (by omega : wr.heap.size < ((wr.alloc Zt).alloc Zt).heap.size))
            | (go_at_call 29; refine (HJ0.out _ hb6).mono ?_; rintro e w7 ⟨aw, cw, rfl, mW, hb7⟩; clear p0 p1 p2 q0 q1 q2 o0 o1 o2; have hb78 := hb7.alloc hb7.size (Two (.int .i64 xr) (.slice aw z0.length cw)); have bA8 := z86.below hb78; have bB8 := z96.below hb78; have bW8 := At.new w7 (Two (.int .i64 xr) (.slice aw z0.length cw)); have mA8 := mA6.belowAll hb78; have mB8 := mB6.belowAll hb78; have mW8 := mW.belowAll ((Below.refl _ _).alloc (Nat.le_refl _) (Two (.int .i64 xr) (.slice aw z0.length cw))); have HS2 : Hid (∀ g, aa = some ⟨g, 0, none⟩ → ∀ b off, ab = some ⟨b, off, none⟩ → b ≠ g) := mine_sep mA mB (by simp); have HS3 : Hid (∀ g, aa = some ⟨g, 0, none⟩ → ∀ b off, aw = some ⟨b, off, none⟩ → b ≠ g) := mine_sep mA6 mW (Nat.le_refl _); obtain ⟨p0, p1, p2⟩ := bA8.all; obtain ⟨q0, q1, q2⟩ := bB8.all; obtain ⟨t0, t1, t2⟩ := bW8.all; have hb8 := below_after hb6 hb78)
            | (go_at_call 14; refine (held_true xr aa ab aw z0.length ca cb cw _ z0 _ (by omega) mA8 mB8.cells mW8.cells HS2.out HS3.out).mono ?_; rintro e w9 ⟨rfl, hg9⟩; clear p0 p1 p2 q0 q1 q2 t0 t1 t2))
          have hb9 : Below wd.heap.size wd w9 := hb8.grown hg9 hb8.size (fun k hk => Nat.le_trans hb2.size (mine_blk mA8 k hk))
          go_roundw
          case rel => exact ⟨0 + 1, by omega, by go_num, hb9⟩
          case measure => simp [intOf]
        · go_wp2_with (first
            | (go_at_call 27; refine (HAnd.out _ hb4).mono ?_; rintro e w5 ⟨ab, cb, rfl, mB, hb5⟩; clear p0 p1 p2 q0 q1 q2 o0 o1 o2; have z95 := z94.below hb5; have z85 := z84.below hb5; obtain ⟨o0, o1, o2⟩ := z95.all; have hbx5 := below_after hb4 hb5; have hb6 : Below wd.heap.size wd ((w5.setCell ⟨wr.heap.size + 1, 0, none⟩ (.int .i64 xr)).setCell ⟨wr.heap.size + 1, 1, none⟩ (.slice ab z1.length cb)) := belS (belS hbx5 (by omega)) (by omega); have z86 := (z85.set (a := ⟨wr.heap.size + 1, 0, none⟩) (by simp) (.int .i64 xr)).set (a := ⟨wr.heap.size + 1, 1, none⟩) (by simp) (.slice ab z1.length cb); have z96 := z95.setTwo (.int .i64 xr) (.slice ab z1.length cb); obtain ⟨p0, p1, p2⟩ := (b1d.below hb6).all; obtain ⟨q0, q1, q2⟩ := (b2d.below hb6).all; have mB6 := mine_set2' (p := .int .i64 xr) (q := .slice ab z1.length cb) mB hs4; have mA6 := mine_set2' (p := .int .i64 xr) (q := .slice ab z1.length cb) (mA4.belowAll hb5) hs5)
            | (go_at_call 27; refine (HAnd.out _ hb2).mono ?_; rintro e w3 ⟨aa, ca, rfl, mA, hb3⟩; clear p0 p1 p2 q0 q1 q2; have z83 := ((At.new wr Zt).alloc Zt).below hb3; have z93 := (at_second wr Zt Zt).below hb3; obtain ⟨o0, o1, o2⟩ := z83.all; have hbx3 := below_after hb2 hb3; have hb4 : Below wd.heap.size wd ((w3.setCell ⟨wr.heap.size, 0, none⟩ (.int .i64 xr)).setCell ⟨wr.heap.size, 1, none⟩ (.slice aa z1.length ca)) := belS (belS hbx3 (by omega)) (by omega); have z84 := z83.setTwo (.int .i64 xr) (.slice aa z1.length ca); have z94 := (z93.set (a := ⟨wr.heap.size, 0, none⟩) (by simp) (.int .i64 xr)).set (a := ⟨wr.heap.size, 1, none⟩) (by simp) (.slice aa z1.length ca); obtain ⟨p0, p1, p2⟩ := (bP.below hb4).all; obtain ⟨q0, q1, q2⟩ := (bQ.below hb4).all; have hs4 : wr.heap.size + 1 < ((w3.setCell ⟨wr.heap.size, 0, none⟩ (.int .i64 xr)).setCell ⟨wr.heap.size, 1, none⟩ (.slice aa z1.length ca)).heap.size := z94.lt; have hs5 : wr.heap.size + 1 < ((wr.alloc Zt).alloc Zt).heap.size := (at_second wr Zt Zt).lt; have mA4 := mine_set2' (p := .int .i64 xr) (q := .slice aa z1.length ca) mA (by omega : wr.heap.size < ((wr.alloc Zt).alloc Zt).heap.size))
            | (go_at_call 29; refine (HJ1.out _ hb6).mono ?_; rintro e w7 ⟨aw, cw, rfl, mW, hb7⟩; clear p0 p1 p2 q0 q1 q2 o0 o1 o2; have hb78 := hb7.alloc hb7.size (Two (.int .i64 xr) (.slice aw z1.length cw)); have bA8 := z86.below hb78; have bB8 := z96.below hb78; have bW8 := At.new w7 (Two (.int .i64 xr) (.slice aw z1.length cw)); have mA8 := mA6.belowAll hb78; have mB8 := mB6.belowAll hb78; have mW8 := mW.belowAll ((Below.refl _ _).alloc (Nat.le_refl _) (Two (.int .i64 xr) (.slice aw z1.length cw))); have HS2 : Hid (∀ g, aa = some ⟨g, 0, none⟩ → ∀ b off, ab = some ⟨b, off, none⟩ → b ≠ g) := mine_sep mA mB (by simp); have HS3 : Hid (∀ g, aa = some ⟨g, 0, none⟩ → ∀ b off, aw = some ⟨b, off, none⟩ → b ≠ g) := mine_sep mA6 mW (Nat.le_refl _); obtain ⟨p0, p1, p2⟩ := bA8.all; obtain ⟨q0, q1, q2⟩ := bB8.all; obtain ⟨t0, t1, t2⟩ := bW8.all; have hb8 := below_after hb6 hb78)
            | (go_at_call 14; refine (held_true xr aa ab aw z1.length ca cb cw _ z1 _ (by omega) mA8 mB8.cells mW8.cells HS2.out HS3.out).mono ?_; rintro e w9 ⟨rfl, hg9⟩; clear p0 p1 p2 q0 q1 q2 t0 t1 t2))
          have hb9 : Below wd.heap.size wd w9 := hb8.grown hg9 hb8.size (fun k hk => Nat.le_trans hb2.size (mine_blk mA8 k hk))
          go_roundw
          case rel => exact ⟨1 + 1, by omega, by go_num, hb9⟩
          case measure => simp [intOf]
        · go_wp2_with (first
            | (go_at_call 28; refine (HLes.out _ hb4).mono ?_; rintro e w5 ⟨ab, cb, rfl, mB, hb5⟩; clear p0 p1 p2 q0 q1 q2 o0 o1 o2; have z95 := z94.below hb5; have z85 := z84.below hb5; obtain ⟨o0, o1, o2⟩ := z95.all; have hbx5 := below_after hb4 hb5; have hb6 : Below wd.heap.size wd ((w5.setCell ⟨wr.heap.size + 1, 0, none⟩ (.int .i64 xr)).setCell ⟨wr.heap.size + 1, 1, none⟩ (.slice ab z2.length cb)) := belS (belS hbx5 (by omega)) (by omega); have z86 := (z85.set (a := ⟨wr.heap.size + 1, 0, none⟩) (by simp) (.int .i64 xr)).set (a := ⟨wr.heap.size + 1, 1, none⟩) (by simp) (.slice ab z2.length cb); have z96 := z95.setTwo (.int .i64 xr) (.slice ab z2.length cb); obtain ⟨p0, p1, p2⟩ := (b1d.below hb6).all; obtain ⟨q0, q1, q2⟩ := (b2d.below hb6).all; have mB6 := mine_set2' (p := .int .i64 xr) (q := .slice ab z2.length cb) mB hs4; have mA6 := mine_set2' (p := .int .i64 xr) (q := .slice ab z2.length cb) (mA4.belowAll hb5) hs5)
            | (go_at_call 28; refine (HLes.out _ hb2).mono ?_; rintro e w3 ⟨aa, ca, rfl, mA, hb3⟩; clear p0 p1 p2 q0 q1 q2; have z83 := ((At.new wr Zt).alloc Zt).below hb3; have z93 := (at_second wr Zt Zt).below hb3; obtain ⟨o0, o1, o2⟩ := z83.all; have hbx3 := below_after hb2 hb3; have hb4 : Below wd.heap.size wd ((w3.setCell ⟨wr.heap.size, 0, none⟩ (.int .i64 xr)).setCell ⟨wr.heap.size, 1, none⟩ (.slice aa z2.length ca)) := belS (belS hbx3 (by omega)) (by omega); have z84 := z83.setTwo (.int .i64 xr) (.slice aa z2.length ca); have z94 := (z93.set (a := ⟨wr.heap.size, 0, none⟩) (by simp) (.int .i64 xr)).set (a := ⟨wr.heap.size, 1, none⟩) (by simp) (.slice aa z2.length ca); obtain ⟨p0, p1, p2⟩ := (bP.below hb4).all; obtain ⟨q0, q1, q2⟩ := (bQ.below hb4).all; have hs4 : wr.heap.size + 1 < ((w3.setCell ⟨wr.heap.size, 0, none⟩ (.int .i64 xr)).setCell ⟨wr.heap.size, 1, none⟩ (.slice aa z2.length ca)).heap.size := z94.lt; have hs5 : wr.heap.size + 1 < ((wr.alloc Zt).alloc Zt).heap.size := (at_second wr Zt Zt).lt; have mA4 := mine_set2' (p := .int .i64 xr) (q := .slice aa z2.length ca) mA (by omega : wr.heap.size < ((wr.alloc Zt).alloc Zt).heap.size))
            | (go_at_call 29; refine (HJ2.out _ hb6).mono ?_; rintro e w7 ⟨aw, cw, rfl, mW, hb7⟩; clear p0 p1 p2 q0 q1 q2 o0 o1 o2; have hb78 := hb7.alloc hb7.size (Two (.int .i64 xr) (.slice aw z2.length cw)); have bA8 := z86.below hb78; have bB8 := z96.below hb78; have bW8 := At.new w7 (Two (.int .i64 xr) (.slice aw z2.length cw)); have mA8 := mA6.belowAll hb78; have mB8 := mB6.belowAll hb78; have mW8 := mW.belowAll ((Below.refl _ _).alloc (Nat.le_refl _) (Two (.int .i64 xr) (.slice aw z2.length cw))); have HS2 : Hid (∀ g, aa = some ⟨g, 0, none⟩ → ∀ b off, ab = some ⟨b, off, none⟩ → b ≠ g) := mine_sep mA mB (by simp); have HS3 : Hid (∀ g, aa = some ⟨g, 0, none⟩ → ∀ b off, aw = some ⟨b, off, none⟩ → b ≠ g) := mine_sep mA6 mW (Nat.le_refl _); obtain ⟨p0, p1, p2⟩ := bA8.all; obtain ⟨q0, q1, q2⟩ := bB8.all; obtain ⟨t0, t1, t2⟩ := bW8.all; have hb8 := below_after hb6 hb78)
            | (go_at_call 14; refine (held_true xr aa ab aw z2.length ca cb cw _ z2 _ (by omega) mA8 mB8.cells mW8.cells HS2.out HS3.out).mono ?_; rintro e w9 ⟨rfl, hg9⟩; clear p0 p1 p2 q0 q1 q2 t0 t1 t2))
          have hb9 : Below wd.heap.size wd w9 := hb8.grown hg9 hb8.size (fun k hk => Nat.le_trans hb2.size (mine_blk mA8 k hk))
          go_roundw
          case rel => exact ⟨2 + 1, by omega, by go_num, hb9⟩
          case measure => simp [intOf]
      · have hk : k = 3 := by omega
        subst hk
        obtain ⟨p0, p1, p2⟩ := (bP.below hbr).all
        obtain ⟨q0, q1, q2⟩ := (bQ.below hbr).all
        cases bb
        · have hE := HB2.out rfl
          have hLn := HLn.out rfl
          subst hE
          subst hLn
          clear HRF HOr HAnd HLes HJ0 HJ1 HJ2
          go_wp2_with (first
            | (go_at_call 30; refine (HHas.out _ hbr).mono ?_; clear HHas; rintro e v1 ⟨rfl, hv1⟩; have h1 := below_after hbr hv1; clear p0 p1 p2 q0 q1 q2; obtain ⟨p0, p1, p2⟩ := (bP.below h1).all; obtain ⟨q0, q1, q2⟩ := (bQ.below h1).all)
            | (go_at_call 31; refine (HFst.out _ h1).mono ?_; clear HFst; rintro e v2 ⟨rfl, hv2⟩; have h2 := below_after h1 hv2; clear p0 p1 p2 q0 q1 q2; obtain ⟨p0, p1, p2⟩ := (b1d.below h2).all; obtain ⟨q0, q1, q2⟩ := (b2d.below h2).all)
            | (go_at_call 32; refine (HBo.out _ h2).mono ?_; clear HBo; rintro e v3 ⟨rfl, hv3⟩; have h3 := below_after h2 hv3; clear p0 p1 p2 q0 q1 q2; obtain ⟨p0, p1, p2⟩ := (b1d.below h3).all; obtain ⟨q0, q1, q2⟩ := (bP.below h3).all)
            | (go_at_call 22; refine (HK2.out _ h4).mono ?_; rintro e v5 ⟨rfl, hv5⟩; have h5 := below_after h4 hv5)
            | (go_at_call 22; refine (HK1.out _ h3).mono ?_; rintro e v4 ⟨rfl, hv4⟩; have h4 := below_after h3 hv4; clear p0 p1 p2 q0 q1 q2; obtain ⟨p0, p1, p2⟩ := (b2d.below h4).all; obtain ⟨q0, q1, q2⟩ := (bQ.below h4).all)
            | (go_at_call 10; refine (awake_true _).mono ?_; rintro e v6 ⟨rfl, hv6⟩; have h6 := below_after h5 hv6))
          go_ret
          exact ⟨by simp, HBd.out.trans (h6.mono HBd.out.size)⟩
        · have hE := HB0.out rfl
          subst hE
          have HRF' : Hid (∀ W, Below wd.heap.size wd W → Calls Tryd.prog 33 #[.agg #[.int .i64 x, .slice a1 n1 cap1], .agg #[.int .i64 y, .slice a2 n2 cap2]] W fun e w' => e = .returned (.tuple #[.int .i64 ((L.headD 0 : Nat) : Int), .bool (!L.isEmpty)]) ∧ Below W.heap.size W w') := HRF.out rfl
          clear HRF HOr HAnd HLes HJ0 HJ1 HJ2
          obtain ⟨le, hle⟩ : ∃ b, b = L.isEmpty := ⟨_, rfl⟩
          obtain ⟨hd, hhd⟩ : ∃ h, h = L.headD 0 := ⟨_, rfl⟩
          rw [← hle] at HHas HFst HRF'
          rw [← hhd] at HFst HRF' hLt
          clear hle hhd
          cases le
          all_goals
            go_wp2_with (first
              | (go_at_call 30; refine (HHas.out _ hbr).mono ?_; clear HHas; rintro e v1 ⟨rfl, hv1⟩; have h1 := below_after hbr hv1; clear p0 p1 p2 q0 q1 q2; obtain ⟨p0, p1, p2⟩ := (bP.below h1).all; obtain ⟨q0, q1, q2⟩ := (bQ.below h1).all)
              | (go_at_call 31; refine (HFst.out _ h1).mono ?_; clear HFst; rintro e v2 ⟨rfl, hv2⟩; have h2 := below_after h1 hv2; clear p0 p1 p2 q0 q1 q2; obtain ⟨p0, p1, p2⟩ := (b1d.below h2).all; obtain ⟨q0, q1, q2⟩ := (b2d.below h2).all)
              | (go_at_call 32; refine (HBo.out _ h2).mono ?_; clear HBo; rintro e v3' ⟨rfl, hv3'⟩; have h3' := below_after h2 hv3'; clear p0 p1 p2 q0 q1 q2; obtain ⟨p0, p1, p2⟩ := (b1d.below h3').all; obtain ⟨q0, q1, q2⟩ := (b2d.below h3').all)
              | (go_at_call 33; refine (HRF'.out _ h3').mono ?_; clear HRF'; rintro e v3 ⟨rfl, hv3⟩; have h3 := below_after h3' hv3; clear p0 p1 p2 q0 q1 q2; obtain ⟨p0, p1, p2⟩ := (b1d.below h3).all; obtain ⟨q0, q1, q2⟩ := (bP.below h3).all)
              | (go_at_call 22; refine (HK2.out _ h4).mono ?_; rintro e v5 ⟨rfl, hv5⟩; have h5 := below_after h4 hv5)
              | (go_at_call 22; refine (HK1.out _ h3).mono ?_; rintro e v4 ⟨rfl, hv4⟩; have h4 := below_after h3 hv4; clear p0 p1 p2 q0 q1 q2; obtain ⟨p0, p1, p2⟩ := (b2d.below h4).all; obtain ⟨q0, q1, q2⟩ := (bQ.below h4).all)
              | (go_at_call 10; refine (awake_true _).mono ?_; rintro e v6 ⟨rfl, hv6⟩; have h6 := below_after h5 hv6))
            go_ret
            exact ⟨by simp, HBd.out.trans (h6.mono HBd.out.size)⟩
end Go.Proofs.YtddjmhfcaeckgaaDoor
