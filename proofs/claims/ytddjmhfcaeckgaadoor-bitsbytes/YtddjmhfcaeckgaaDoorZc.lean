import Derived.Test.YtddjmhfcaeckgaaDoorZb
import Derived.Test.YtddjmhfcaeckgaaDoorT
namespace Go.Proofs.YtddjmhfcaeckgaaDoor
open Go.RowKit
set_option linter.unusedVariables false
set_option linter.unusedSimpArgs false

theorem bitsBytes_long (x y : Int) (a : Option Addr) (n cap : Nat) (s : ByteArray) (w : World) (hn : n ≤ maxLen) (hs : s.size ≤ maxLen) (h : 4096 < n ∨ 4096 < s.size) :
    Calls Tryd.prog 6 #[.agg #[.int .i64 x, .slice a n cap], .int .i64 y, .string s] w fun e w' => e = .returned (.bool true) ∧ Below w.heap.size w w' := by
  unfold maxLen at hn hs
  by_cases h1 : 4096 < n
  · have h1' : (4096 : Int) < (n : Int) := by omega
    clear h
    go_enter Tryd.func6, Tryd.ntmps6
    go_wp2_with (go_at_call 10; refine (awake_true _).mono ?_; rintro e w1 ⟨rfl, hb1⟩)
    go_ret
    exact ⟨rfl, below1 hb1⟩
  · have h1' : ¬ (4096 : Int) < (n : Int) := by omega
    have h2' : (4096 : Int) < (s.size : Int) := by omega
    clear h h1
    go_enter Tryd.func6, Tryd.ntmps6
    go_wp2_with (go_at_call 10; refine (awake_true _).mono ?_; rintro e w1 ⟨rfl, hb1⟩)
    go_ret
    exact ⟨rfl, below1 hb1⟩

set_option maxRecDepth 20000 in
set_option maxHeartbeats 4000000 in
theorem bitsBytes_yes (x y : Int) (a : Option Addr) (n cap : Nat) (zs : List Int) (s : ByteArray) (w : World) (hz : zs.length = n) (hn : n ≤ 4096) (hs : s.size ≤ 4096) (hw : Words zs) (hnil : a = none → cap = 0) (hc : Cells w a zs) (hy : mayB x zs = true) :
    Calls Tryd.prog 6 #[.agg #[.int .i64 x, .slice a n cap], .int .i64 y, .string s] w fun e w' => e = .returned (.bool true) ∧ Below w.heap.size w w' := by
  obtain ⟨rx, rz, rat, re, hrl, hR, hF⟩ := both_read y s hs
  have HR : Hid (Reads 36 y s rx rz rat re) := hR
  have HF : Hid (Reads 37 y s rx rz rat re) := hF
  clear hR hF
  have h1' : ¬ (4096 : Int) < (n : Int) := by omega
  have h2' : ¬ (4096 : Int) < (s.size : Int) := by omega
  have b1 := At.new w (Two (.int .i64 x) (.slice a n cap))
  have hc1 := hc.alloc (Two (.int .i64 x) (.slice a n cap))
  obtain ⟨m, hm⟩ : ∃ m : Nat, (m : Int) = (x + 7) / 8 := ⟨((x + 7) / 8).toNat, by have := (mayB_width hy).1; omega⟩
  have HM : Hid ((m : Int) = (x + 7) / 8) := hm
  clear hm
  go_enter Tryd.func6, Tryd.ntmps6
  go_upto_region 4 with (first
    | (go_at_call 11; refine (lent_any _ _ _ _ zs _ hz (by omega) hnil hc1).mono ?_; rintro e w0 ⟨g0, cap0, rfl, hM0, hb0⟩))
  obtain ⟨w1, hw1⟩ : ∃ w1, w1 = w0.alloc (Two (.int .i64 x) (.slice (some ⟨g0, 0, none⟩) n cap0)) := ⟨_, rfl⟩
  have hbr : At w1 w.heap.size (Two (.int .i64 x) (.slice a n cap)) := by rw [hw1]; exact (b1.below hb0).alloc _
  have hbo : At w1 w0.heap.size (Two (.int .i64 x) (.slice (some ⟨g0, 0, none⟩) n cap0)) := by rw [hw1]; exact At.new _ _
  have hM1 : Mine w1 (w.heap.size + 1) (some ⟨g0, 0, none⟩) (n + 1) cap0 (zs ++ [77]) := by
    rw [hw1]
    have h := hM0.belowAll ((Below.refl _ _).alloc (Nat.le_refl _) (Two (.int .i64 x) (.slice (some ⟨g0, 0, none⟩) n cap0)))
    rw [World.size_alloc] at h
    exact h
  have hb1 : Below w.heap.size w w1 := by rw [hw1]; exact (below1 hb0).alloc (below1 hb0).size _
  have hw1' : w0.alloc (.cells #[.int .i64 x, .slice (some ⟨g0, 0, none⟩) n cap0] 24) = w1 := hw1.symm
  rw [hw1']
  generalize hbo' : w0.heap.size = bo at *
  have hC1 : Cells w1 a zs := hc.below hb1
  clear hw1 hw1' b1 hc1 hM0 hb0 hbo' hc
  have hCo : Cells w1 (some ⟨g0, 0, none⟩) zs := hM1.take.cells
  have hma : n ≤ maxLen := by unfold maxLen; omega
  obtain ⟨o0, o1, o2⟩ := hbo.all
  go_upto_region 10 with (first
    | (go_at_call 34; refine (bytes_yes x _ n _ m zs _ hz hCo hy HM.out).mono ?_; rintro e w2 ⟨rfl, hb2⟩; clear o0 o1 o2; obtain ⟨r0, r1, r2⟩ := (hbr.below hb2).all)
    | (go_at_call 15; refine (refMay_yes x _ n _ zs _ hz hw (hC1.below hb2) hy).mono ?_; rintro e w3 ⟨rfl, hb3⟩; have hb13 := hb2.trans (hb3.mono hb2.size); clear r0 r1 r2; obtain ⟨r0, r1, r2⟩ := (hbr.below hb13).all)
    | (go_at_call 35; refine (refBytes_yes x _ n _ m zs _ hz hw (hC1.below hb13) hy HM.out).mono ?_; rintro e wl ⟨rfl, hb4⟩; have hbl := hb13.trans (hb4.mono hb13.size)))
  clear r0 r1 r2
  have hbr3 := hbr.below hbl
  have hbo3 := hbo.below hbl
  have hM3 := hM1.belowAll hbl
  have hC3 := hC1.below hbl
  have hb3 : Below w.heap.size w wl := hb1.trans (hbl.mono hb1.size)
  clear hbr hbo hM1 hC1 hb1 hbl hCo
  go_wp2_with (first
    | (go_at_call 36; refine (HR.out wl).mono ?_; rintro e w5 ⟨aa, ca, rfl, mA, hb5⟩)
    | (go_at_call 36; refine (HR.out (w5.alloc (Two (.int .i64 rx) (.slice aa rz.length ca)))).mono ?_; rintro e w6 ⟨ab, cb, rfl, mB, hb6⟩)
    | (go_at_call 37; refine (HF.out (w6.alloc (Two (.int .i64 rx) (.slice ab rz.length cb)))).mono ?_; rintro e w7 ⟨aw, cw, rfl, mW, hb7⟩; have hb5' := hb5.alloc hb5.size (Two (.int .i64 rx) (.slice aa rz.length ca)); have hb6' := hb6.alloc hb6.size (Two (.int .i64 rx) (.slice ab rz.length cb)); have hb7' := hb7.alloc hb7.size (Two (.int .i64 rx) (.slice aw rz.length cw)); have bA8 := ((At.new w5 (Two (.int .i64 rx) (.slice aa rz.length ca))).below hb6').below hb7'; have bB8 := (At.new w6 (Two (.int .i64 rx) (.slice ab rz.length cb))).below hb7'; have bW8 := At.new w7 (Two (.int .i64 rx) (.slice aw rz.length cw)); have mA6 := mA.belowAll ((Below.refl _ _).alloc (Nat.le_refl _) (Two (.int .i64 rx) (.slice aa rz.length ca))); have mB7 := mB.belowAll ((Below.refl _ _).alloc (Nat.le_refl _) (Two (.int .i64 rx) (.slice ab rz.length cb))); have mA7 := mA6.belowAll hb6'; have mA8 := mA7.belowAll hb7'; have mB8 := mB7.belowAll hb7'; have mW8 := mW.belowAll ((Below.refl _ _).alloc (Nat.le_refl _) (Two (.int .i64 rx) (.slice aw rz.length cw))); have HS2 : Hid (∀ g, aa = some ⟨g, 0, none⟩ → ∀ b off, ab = some ⟨b, off, none⟩ → b ≠ g) := mine_sep mA6 mB7 (Nat.le_refl _); have HS3 : Hid (∀ g, aa = some ⟨g, 0, none⟩ → ∀ b off, aw = some ⟨b, off, none⟩ → b ≠ g) := mine_sep mA7 mW8 (Nat.le_refl _); obtain ⟨a0, a1, a2⟩ := bA8.all; obtain ⟨q0, q1, q2⟩ := bB8.all; obtain ⟨t0, t1, t2⟩ := bW8.all)
    | (go_at_call 14; refine (held_true rx aa ab aw rz.length ca cb cw wl.heap.size rz _ (by omega) mA8 mB8.cells mW8.cells HS2.out HS3.out).mono ?_; rintro e w8 ⟨rfl, hg8⟩; clear a0 a1 a2 q0 q1 q2 t0 t1 t2; have hb67 : Below wl.heap.size wl _ := (hb5'.trans (hb6'.mono hb5'.size)).trans (hb7'.mono (Nat.le_trans hb5'.size hb6'.size)); have hb8 : Below wl.heap.size wl w8 := hb67.grown hg8 hb67.size (mine_blk mA8); obtain ⟨r0, r1, r2⟩ := (hbr3.below hb8).all; obtain ⟨o0, o1, o2⟩ := (hbo3.below hb8).all)
    | (go_at_call 22; refine (kept_true x g0 n cap0 _ a cap zs _ (by omega) (hM3.belowAll hb8) (hC3.below hb8)).mono ?_; rintro e w9 ⟨rfl, hb9⟩)
    | (go_at_call 10; refine (awake_true _).mono ?_; rintro e w10 ⟨rfl, hb10⟩))
  go_ret
  have h8 : Below w.heap.size w w8 := hb3.trans (hb8.mono hb3.size)
  have h9 : Below w.heap.size w w9 := h8.trans (hb9.mono h8.size)
  exact ⟨rfl, h9.trans (hb10.mono h9.size)⟩

set_option maxRecDepth 20000 in
set_option maxHeartbeats 4000000 in
theorem bitsBytes_no (x y : Int) (a : Option Addr) (n cap : Nat) (zs : List Int) (s : ByteArray) (w : World) (hz : zs.length = n) (hn : n ≤ 4096) (hs : s.size ≤ 4096) (hw : Words zs) (hnil : a = none → cap = 0) (hc : Cells w a zs) (hy : mayB x zs = false) :
    Calls Tryd.prog 6 #[.agg #[.int .i64 x, .slice a n cap], .int .i64 y, .string s] w fun e w' => e = .returned (.bool true) ∧ Below w.heap.size w w' := by
  obtain ⟨rx, rz, rat, re, hrl, hR, hF⟩ := both_read y s hs
  have HR : Hid (Reads 36 y s rx rz rat re) := hR
  have HF : Hid (Reads 37 y s rx rz rat re) := hF
  clear hR hF
  have h1' : ¬ (4096 : Int) < (n : Int) := by omega
  have h2' : ¬ (4096 : Int) < (s.size : Int) := by omega
  have b1 := At.new w (Two (.int .i64 x) (.slice a n cap))
  have hc1 := hc.alloc (Two (.int .i64 x) (.slice a n cap))
  go_enter Tryd.func6, Tryd.ntmps6
  go_upto_region 4 with (first
    | (go_at_call 11; refine (lent_any _ _ _ _ zs _ hz (by omega) hnil hc1).mono ?_; rintro e w0 ⟨g0, cap0, rfl, hM0, hb0⟩))
  obtain ⟨w1, hw1⟩ : ∃ w1, w1 = w0.alloc (Two (.int .i64 x) (.slice (some ⟨g0, 0, none⟩) n cap0)) := ⟨_, rfl⟩
  have hbr : At w1 w.heap.size (Two (.int .i64 x) (.slice a n cap)) := by rw [hw1]; exact (b1.below hb0).alloc _
  have hbo : At w1 w0.heap.size (Two (.int .i64 x) (.slice (some ⟨g0, 0, none⟩) n cap0)) := by rw [hw1]; exact At.new _ _
  have hM1 : Mine w1 (w.heap.size + 1) (some ⟨g0, 0, none⟩) (n + 1) cap0 (zs ++ [77]) := by
    rw [hw1]
    have h := hM0.belowAll ((Below.refl _ _).alloc (Nat.le_refl _) (Two (.int .i64 x) (.slice (some ⟨g0, 0, none⟩) n cap0)))
    rw [World.size_alloc] at h
    exact h
  have hb1 : Below w.heap.size w w1 := by rw [hw1]; exact (below1 hb0).alloc (below1 hb0).size _
  have hw1' : w0.alloc (.cells #[.int .i64 x, .slice (some ⟨g0, 0, none⟩) n cap0] 24) = w1 := hw1.symm
  rw [hw1']
  generalize hbo' : w0.heap.size = bo at *
  have hC1 : Cells w1 a zs := hc.below hb1
  clear hw1 hw1' b1 hc1 hM0 hb0 hbo' hc
  have hCo : Cells w1 (some ⟨g0, 0, none⟩) zs := hM1.take.cells
  have hma : n ≤ maxLen := by unfold maxLen; omega
  obtain ⟨o0, o1, o2⟩ := hbo.all
  go_upto_region 10 with (first
    | (go_at_call 34; refine (bytes_no x _ n _ zs _ hz hma hCo hy).mono ?_; rintro e w2 ⟨rfl, hb2⟩; clear o0 o1 o2; obtain ⟨r0, r1, r2⟩ := (hbr.below hb2).all)
    | (go_at_call 15; refine (refMay_no x _ n _ zs _ hz hma hw (hC1.below hb2) hy).mono ?_; rintro e wl ⟨rfl, hb3⟩; have hbl := hb2.trans (hb3.mono hb2.size)))
  clear r0 r1 r2
  have hbr3 := hbr.below hbl
  have hbo3 := hbo.below hbl
  have hM3 := hM1.belowAll hbl
  have hC3 := hC1.below hbl
  have hb3 : Below w.heap.size w wl := hb1.trans (hbl.mono hb1.size)
  clear hbr hbo hM1 hC1 hb1 hbl hCo
  go_wp2_with (first
    | (go_at_call 36; refine (HR.out wl).mono ?_; rintro e w5 ⟨aa, ca, rfl, mA, hb5⟩)
    | (go_at_call 36; refine (HR.out (w5.alloc (Two (.int .i64 rx) (.slice aa rz.length ca)))).mono ?_; rintro e w6 ⟨ab, cb, rfl, mB, hb6⟩)
    | (go_at_call 37; refine (HF.out (w6.alloc (Two (.int .i64 rx) (.slice ab rz.length cb)))).mono ?_; rintro e w7 ⟨aw, cw, rfl, mW, hb7⟩; have hb5' := hb5.alloc hb5.size (Two (.int .i64 rx) (.slice aa rz.length ca)); have hb6' := hb6.alloc hb6.size (Two (.int .i64 rx) (.slice ab rz.length cb)); have hb7' := hb7.alloc hb7.size (Two (.int .i64 rx) (.slice aw rz.length cw)); have bA8 := ((At.new w5 (Two (.int .i64 rx) (.slice aa rz.length ca))).below hb6').below hb7'; have bB8 := (At.new w6 (Two (.int .i64 rx) (.slice ab rz.length cb))).below hb7'; have bW8 := At.new w7 (Two (.int .i64 rx) (.slice aw rz.length cw)); have mA6 := mA.belowAll ((Below.refl _ _).alloc (Nat.le_refl _) (Two (.int .i64 rx) (.slice aa rz.length ca))); have mB7 := mB.belowAll ((Below.refl _ _).alloc (Nat.le_refl _) (Two (.int .i64 rx) (.slice ab rz.length cb))); have mA7 := mA6.belowAll hb6'; have mA8 := mA7.belowAll hb7'; have mB8 := mB7.belowAll hb7'; have mW8 := mW.belowAll ((Below.refl _ _).alloc (Nat.le_refl _) (Two (.int .i64 rx) (.slice aw rz.length cw))); have HS2 : Hid (∀ g, aa = some ⟨g, 0, none⟩ → ∀ b off, ab = some ⟨b, off, none⟩ → b ≠ g) := mine_sep mA6 mB7 (Nat.le_refl _); have HS3 : Hid (∀ g, aa = some ⟨g, 0, none⟩ → ∀ b off, aw = some ⟨b, off, none⟩ → b ≠ g) := mine_sep mA7 mW8 (Nat.le_refl _); obtain ⟨a0, a1, a2⟩ := bA8.all; obtain ⟨q0, q1, q2⟩ := bB8.all; obtain ⟨t0, t1, t2⟩ := bW8.all)
    | (go_at_call 14; refine (held_true rx aa ab aw rz.length ca cb cw wl.heap.size rz _ (by omega) mA8 mB8.cells mW8.cells HS2.out HS3.out).mono ?_; rintro e w8 ⟨rfl, hg8⟩; clear a0 a1 a2 q0 q1 q2 t0 t1 t2; have hb67 : Below wl.heap.size wl _ := (hb5'.trans (hb6'.mono hb5'.size)).trans (hb7'.mono (Nat.le_trans hb5'.size hb6'.size)); have hb8 : Below wl.heap.size wl w8 := hb67.grown hg8 hb67.size (mine_blk mA8); obtain ⟨r0, r1, r2⟩ := (hbr3.below hb8).all; obtain ⟨o0, o1, o2⟩ := (hbo3.below hb8).all)
    | (go_at_call 22; refine (kept_true x g0 n cap0 _ a cap zs _ (by omega) (hM3.belowAll hb8) (hC3.below hb8)).mono ?_; rintro e w9 ⟨rfl, hb9⟩)
    | (go_at_call 10; refine (awake_true _).mono ?_; rintro e w10 ⟨rfl, hb10⟩))
  go_ret
  have h8 : Below w.heap.size w w8 := hb3.trans (hb8.mono hb3.size)
  have h9 : Below w.heap.size w w9 := h8.trans (hb9.mono h8.size)
  exact ⟨rfl, h9.trans (hb10.mono h9.size)⟩

theorem bitsBytes_walk (x y : Int) (a : Option Addr) (n cap : Nat) (zs : List Int) (s : ByteArray) (w : World) (hz : zs.length = n) (hn : n ≤ maxLen) (hs : s.size ≤ maxLen) (hw : Words zs) (hnil : a = none → cap = 0) (hc : Cells w a zs) :
    Calls Tryd.prog 6 #[.agg #[.int .i64 x, .slice a n cap], .int .i64 y, .string s] w fun e w' => e = .returned (.bool true) ∧ Below w.heap.size w w' := by
  by_cases h : 4096 < n ∨ 4096 < s.size
  · exact bitsBytes_long x y a n cap s w hn hs h
  · cases hy : mayB x zs
    · exact bitsBytes_no x y a n cap zs s w hz (by omega) (by omega) hw hnil hc hy
    · exact bitsBytes_yes x y a n cap zs s w hz (by omega) (by omega) hw hnil hc hy
end Go.Proofs.YtddjmhfcaeckgaaDoor
