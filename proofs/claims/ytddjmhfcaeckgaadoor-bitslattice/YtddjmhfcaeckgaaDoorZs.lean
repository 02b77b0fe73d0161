import Derived.Test.YtddjmhfcaeckgaaDoorR
import Derived.Test.YtddjmhfcaeckgaaDoorZh
namespace Go.Proofs.YtddjmhfcaeckgaaDoor
open Go.RowKit
set_option linter.unusedVariables false
set_option linter.unusedSimpArgs false

/-- What is asked first: all three may be, and are of one width. -/
def allB (x y z : Int) (a b c : List Int) : Bool := mayB x a && mayB y b && mayB z c && decide (x = y) && decide (x = z)

set_option maxRecDepth 20000 in
set_option maxHeartbeats 2000000 in
theorem lattice_no (x y z : Int) (a1 a2 a3 : Option Addr) (n1 n2 n3 cap1 cap2 cap3 : Nat) (a b c : List Int) (w : World) (la : a.length = n1) (lb : b.length = n2) (lc : c.length = n3) (hm1 : n1 ≤ maxLen) (hm2 : n2 ≤ maxLen) (hm3 : n3 ≤ maxLen) (hc1 : Cells w a1 a) (hc2 : Cells w a2 b) (hc3 : Cells w a3 c) (hall : allB x y z a b c = false) :
    Calls Tryd.prog 7 #[.agg #[.int .i64 x, .slice a1 n1 cap1], .agg #[.int .i64 y, .slice a2 n2 cap2], .agg #[.int .i64 z, .slice a3 n3 cap3]] w fun e w' => e = .returned (.bool true) ∧ Below w.heap.size w w' := by
  have hB0 : Below w.heap.size w (((w.alloc (Two (.int .i64 x) (.slice a1 n1 cap1))).alloc (Two (.int .i64 y) (.slice a2 n2 cap2))).alloc (Two (.int .i64 z) (.slice a3 n3 cap3))) := (((Below.refl _ _).alloc (Nat.le_refl _) _).alloc (by simp) _).alloc (by simp; omega) _
  have b1 := ((At.new w (Two (.int .i64 x) (.slice a1 n1 cap1))).alloc (Two (.int .i64 y) (.slice a2 n2 cap2))).alloc (Two (.int .i64 z) (.slice a3 n3 cap3))
  have b2 := (At.new (w.alloc (Two (.int .i64 x) (.slice a1 n1 cap1))) (Two (.int .i64 y) (.slice a2 n2 cap2))).alloc (Two (.int .i64 z) (.slice a3 n3 cap3))
  have b3 := At.new ((w.alloc (Two (.int .i64 x) (.slice a1 n1 cap1))).alloc (Two (.int .i64 y) (.slice a2 n2 cap2))) (Two (.int .i64 z) (.slice a3 n3 cap3))
  simp only [World.size_alloc] at b2 b3
  have d1 := hc1.below hB0
  have d2 := hc2.below hB0
  have d3 := hc3.below hB0
  have HMa : Hid (∀ W v, Cells W a1 a → mayB x a = v → Calls Tryd.prog 9 #[.agg #[.int .i64 x, .slice a1 n1 cap1]] W fun e w' => e = .returned (.bool v) ∧ Below W.heap.size W w') := fun W v h e => by subst e; exact may_any x a1 n1 cap1 a W la hm1 h
  have HMb : Hid (∀ W v, Cells W a2 b → mayB y b = v → Calls Tryd.prog 9 #[.agg #[.int .i64 y, .slice a2 n2 cap2]] W fun e w' => e = .returned (.bool v) ∧ Below W.heap.size W w') := fun W v h e => by subst e; exact may_any y a2 n2 cap2 b W lb hm2 h
  have HMc : Hid (∀ W v, Cells W a3 c → mayB z c = v → Calls Tryd.prog 9 #[.agg #[.int .i64 z, .slice a3 n3 cap3]] W fun e w' => e = .returned (.bool v) ∧ Below W.heap.size W w') := fun W v h e => by subst e; exact may_any z a3 n3 cap3 c W lc hm3 h
  clear hc1 hc2 hc3 la lb lc hm1 hm2 hm3
  cases ha : mayB x a
  · have H1 : Hid (∀ W, Cells W a1 a → Calls Tryd.prog 9 #[.agg #[.int .i64 x, .slice a1 n1 cap1]] W fun e w' => e = .returned (.bool false) ∧ Below W.heap.size W w') := fun W h => HMa.out W false h ha
    clear hall ha HMa HMb HMc
    go_enter Tryd.func7, Tryd.ntmps7
    go_wp2_with (first
      | (go_at_call 10; refine (awake_true _).mono ?_; rintro e w5 ⟨rfl, h5⟩)
      | (go_at_call 9; refine (H1.out _ d1).mono ?_; rintro e w1 ⟨rfl, h1⟩))
    go_ret
    have k1 := hB0.trans (h1.mono hB0.size)
    exact ⟨rfl, k1.trans (h5.mono k1.size)⟩
  cases hb : mayB y b
  · have H1 : Hid (∀ W, Cells W a1 a → Calls Tryd.prog 9 #[.agg #[.int .i64 x, .slice a1 n1 cap1]] W fun e w' => e = .returned (.bool true) ∧ Below W.heap.size W w') := fun W h => HMa.out W true h ha
    have H2 : Hid (∀ W, Cells W a2 b → Calls Tryd.prog 9 #[.agg #[.int .i64 y, .slice a2 n2 cap2]] W fun e w' => e = .returned (.bool false) ∧ Below W.heap.size W w') := fun W h => HMb.out W false h hb
    clear hall ha hb HMa HMb HMc
    go_enter Tryd.func7, Tryd.ntmps7
    go_wp2_with (first
      | (go_at_call 10; refine (awake_true _).mono ?_; rintro e w5 ⟨rfl, h5⟩)
      | (go_at_call 9; refine (H2.out _ e2).mono ?_; rintro e w2 ⟨rfl, h2⟩)
      | (go_at_call 9; refine (H1.out _ d1).mono ?_; rintro e w1 ⟨rfl, h1⟩; have e2 := d2.below h1; obtain ⟨u0, u1, u2⟩ := (b2.below h1).all))
    go_ret
    have k1 := hB0.trans (h1.mono hB0.size)
    have k2 := k1.trans (h2.mono k1.size)
    exact ⟨rfl, k2.trans (h5.mono k2.size)⟩
  have H1 : Hid (∀ W, Cells W a1 a → Calls Tryd.prog 9 #[.agg #[.int .i64 x, .slice a1 n1 cap1]] W fun e w' => e = .returned (.bool true) ∧ Below W.heap.size W w') := fun W h => HMa.out W true h ha
  have H2 : Hid (∀ W, Cells W a2 b → Calls Tryd.prog 9 #[.agg #[.int .i64 y, .slice a2 n2 cap2]] W fun e w' => e = .returned (.bool true) ∧ Below W.heap.size W w') := fun W h => HMb.out W true h hb
  cases hcc : mayB z c
  · have H3 : Hid (∀ W, Cells W a3 c → Calls Tryd.prog 9 #[.agg #[.int .i64 z, .slice a3 n3 cap3]] W fun e w' => e = .returned (.bool false) ∧ Below W.heap.size W w') := fun W h => HMc.out W false h hcc
    clear hall ha hb hcc HMa HMb HMc
    go_enter Tryd.func7, Tryd.ntmps7
    go_wp2_with (first
      | (go_at_call 10; refine (awake_true _).mono ?_; rintro e w5 ⟨rfl, h5⟩)
      | (go_at_call 9; refine (H3.out _ f3).mono ?_; rintro e w3 ⟨rfl, h3⟩)
      | (go_at_call 9; refine (H2.out _ e2).mono ?_; rintro e w2 ⟨rfl, h2⟩; have f3 := e3.below h2; clear u0 u1 u2; obtain ⟨u0, u1, u2⟩ := ((b3.below h1).below h2).all)
      | (go_at_call 9; refine (H1.out _ d1).mono ?_; rintro e w1 ⟨rfl, h1⟩; have e2 := d2.below h1; have e3 := d3.below h1; obtain ⟨u0, u1, u2⟩ := (b2.below h1).all))
    go_ret
    have k1 := hB0.trans (h1.mono hB0.size)
    have k2 := k1.trans (h2.mono k1.size)
    have k3 := k2.trans (h3.mono k2.size)
    exact ⟨rfl, k3.trans (h5.mono k3.size)⟩
  have H3 : Hid (∀ W, Cells W a3 c → Calls Tryd.prog 9 #[.agg #[.int .i64 z, .slice a3 n3 cap3]] W fun e w' => e = .returned (.bool true) ∧ Below W.heap.size W w') := fun W h => HMc.out W true h hcc
  by_cases hxy : x = y
  · subst hxy
    have hxz : x ≠ z := by
      intro e
      rw [e] at ha hb hall
      simp [allB, ha, hb, hcc] at hall
    have hne : (x != z) = true := by simpa using hxz
    clear hall ha hb hcc HMa HMb HMc hxz
    go_enter Tryd.func7, Tryd.ntmps7
    go_wp2_with (first
      | (go_at_call 10; refine (awake_true _).mono ?_; rintro e w5 ⟨rfl, h5⟩)
      | (go_at_call 9; refine (H3.out _ f3).mono ?_; rintro e w3 ⟨rfl, h3⟩; clear u0 u1 u2; obtain ⟨u0, u1, u2⟩ := (((b3.below h1).below h2).below h3).all; obtain ⟨v0, v1, v2⟩ := (((b2.below h1).below h2).below h3).all; obtain ⟨t0, t1, t2⟩ := (((b1.below h1).below h2).below h3).all)
      | (go_at_call 9; refine (H2.out _ e2).mono ?_; rintro e w2 ⟨rfl, h2⟩; have f3 := e3.below h2; clear u0 u1 u2; obtain ⟨u0, u1, u2⟩ := ((b3.below h1).below h2).all)
      | (go_at_call 9; refine (H1.out _ d1).mono ?_; rintro e w1 ⟨rfl, h1⟩; have e2 := d2.below h1; have e3 := d3.below h1; obtain ⟨u0, u1, u2⟩ := (b2.below h1).all))
    go_ret
    have k1 := hB0.trans (h1.mono hB0.size)
    have k2 := k1.trans (h2.mono k1.size)
    have k3 := k2.trans (h3.mono k2.size)
    exact ⟨rfl, k3.trans (h5.mono k3.size)⟩
  · have hne : (x != y) = true := by simpa using hxy
    clear hall ha hb hcc HMa HMb HMc hxy
    go_enter Tryd.func7, Tryd.ntmps7
    go_wp2_with (first
      | (go_at_call 10; refine (awake_true _).mono ?_; rintro e w5 ⟨rfl, h5⟩)
      | (go_at_call 9; refine (H3.out _ f3).mono ?_; rintro e w3 ⟨rfl, h3⟩; clear u0 u1 u2; obtain ⟨u0, u1, u2⟩ := (((b3.below h1).below h2).below h3).all; obtain ⟨v0, v1, v2⟩ := (((b2.below h1).below h2).below h3).all; obtain ⟨t0, t1, t2⟩ := (((b1.below h1).below h2).below h3).all)
      | (go_at_call 9; refine (H2.out _ e2).mono ?_; rintro e w2 ⟨rfl, h2⟩; have f3 := e3.below h2; clear u0 u1 u2; obtain ⟨u0, u1, u2⟩ := ((b3.below h1).below h2).all)
      | (go_at_call 9; refine (H1.out _ d1).mono ?_; rintro e w1 ⟨rfl, h1⟩; have e2 := d2.below h1; have e3 := d3.below h1; obtain ⟨u0, u1, u2⟩ := (b2.below h1).all))
    go_ret
    have k1 := hB0.trans (h1.mono hB0.size)
    have k2 := k1.trans (h2.mono k1.size)
    have k3 := k2.trans (h3.mono k2.size)
    exact ⟨rfl, k3.trans (h5.mono k3.size)⟩
end Go.Proofs.YtddjmhfcaeckgaaDoor
