import Derived.Test.YtddjmhfcaeckgaaDoorZy
namespace Go.Proofs.YtddjmhfcaeckgaaDoor
open Go.RowKit Go.Shelf
attribute [local go_sem] Oper.semAt_some
set_option linter.unusedVariables false
set_option linter.unusedSimpArgs false

set_option maxRecDepth 100000 in
set_option maxHeartbeats 2000000 in
theorem back_long (x y : Int) (a : Option Addr) (n cap : Nat) (s : ByteArray) (w : World) (hs : s.size ≤ maxLen) (hl : 4096 < s.size) :
    Calls Tryd.prog 8 #[.agg #[.int .i64 x, .slice a n cap], .int .i64 y, .string s] w fun e w' => e = .returned (.bool true) ∧ Below w.heap.size w w' := by
  unfold maxLen at hs
  have hs' : (4096 : Int) < (s.size : Int) := by omega
  have A6 := at_snd w (Two (.int .i64 x) (.slice a n cap)) (One (.bool false) 4)
  refine (callsIn_wide (n := 4)).1 ?_
  refine callsIn_of_wp_marks Tryd.func8 rfl trivial ?_ rfl
  simp only [Tryd.ntmps8, List.size_toArray, List.length_cons, List.length_nil, Nat.reduceAdd, Nat.reduceSub, Array.replicate_succ, Array.replicate_zero, List.push_toArray, List.append_toArray, List.nil_append, List.cons_append]
  gi_wp2_with (refine ⟨trivial, ?_⟩; gi_at_call 10; refine (callsIn_wide.2 (awake_true _)).mono ?_; rintro e y2 ⟨rfl, hy2⟩; have A6z := A6.below hy2; obtain ⟨c6, f6⟩ := A6z.one)
  have hB := (below2 hy2).setCell (p := ⟨w.heap.size + 1, 0, none⟩) (by simp) (.bool true)
  have hc5 := World.cell?_setCell_same' y2 ⟨w.heap.size + 1, 0, none⟩ (.bool true) (by rw [c6]; rfl)
  refine ⟨.bool true, ?_, rfl, hB⟩
  simp [results, Tryd.results8, go_sem, hc5]

set_option maxRecDepth 100000 in
set_option maxHeartbeats 2000000 in
theorem back_no (x y : Int) (a : Option Addr) (n cap : Nat) (zs : List Int) (s : ByteArray) (w : World) (hz : zs.length = n) (hm : n ≤ maxLen) (hc : Cells w a zs) (hy : mayB x zs = false) (hs : s.size ≤ 4096) :
    Calls Tryd.prog 8 #[.agg #[.int .i64 x, .slice a n cap], .int .i64 y, .string s] w fun e w' => e = .returned (.bool true) ∧ Below w.heap.size w w' := by
  have hs' : ¬ (4096 : Int) < (s.size : Int) := by omega
  obtain ⟨W0, hW0⟩ : ∃ W0, W0 = (w.alloc (Two (.int .i64 x) (.slice a n cap))).alloc (One (.bool false) 4) := ⟨_, rfl⟩
  have A3 : At W0 w.heap.size (Two (.int .i64 x) (.slice a n cap)) := by rw [hW0]; exact (At.new w _).alloc _
  have A6 : At W0 (w.heap.size + 1) (One (.bool false) 4) := by rw [hW0]; exact at_snd w _ _
  have BW : Below w.heap.size w W0 := by rw [hW0]; exact ((Below.refl _ _).alloc (Nat.le_refl _) _).alloc (by simp) _
  have HC : Hid (∀ W, Below w.heap.size w W → Cells W a zs) := fun W h => hc.below h
  have HW0 : Hid ((w.alloc (.cells #[.int .i64 x, .slice a n cap] 24)).alloc (.cells #[.bool false] 4) = W0) := hW0.symm
  have HBy : Hid (∀ W, Cells W a zs → Calls Tryd.prog 34 #[.agg #[.int .i64 x, .slice a n cap]] W fun e w' => e = .returned (.tuple #[.string ⟨#[]⟩, .int .i64 2]) ∧ Below W.heap.size W w') := fun W h => bytes_no x a n cap zs W hz hm h hy
  have HMy : Hid (∀ W, Cells W a zs → Calls Tryd.prog 9 #[.agg #[.int .i64 x, .slice a n cap]] W fun e w' => e = .returned (.bool false) ∧ Below W.heap.size W w') := fun W h => may_no x a n cap zs W hz hm h hy
  clear hW0 hc
  rcases read_tells y s hs with ⟨xm, m2, n2, rfl, hxm, hm2, hn2, hg2, hRd⟩ | ⟨kk, re, hre, hkk, hRd⟩
  · obtain ⟨hmay, hbyt⟩ := back_bytes hxm hm2 hn2 hg2
    have hlw := wst_len s n2 xm
    have HB2 : Hid (∀ W' aa cc, Cells W' aa (wst s n2 xm) → Calls Tryd.prog 34 #[.agg #[.int .i64 xm, .slice aa n2 cc]] W' fun e w' => e = .returned (.tuple #[.string s, .int .i64 0]) ∧ Below W'.heap.size W' w') := fun W' aa cc h => by
      have := bytes_yes xm aa n2 cc m2 (wst s n2 xm) W' hlw h hmay hm2.symm
      rw [Int.toNat_natCast, hbyt] at this
      exact this
    have HR2 : Hid (∀ W', Calls Tryd.prog 36 #[.int .i64 xm, .string s] W' fun e w' => ∃ aa cc, e = .returned (.tuple #[.agg #[.int .i64 xm, .slice aa n2 cc], .int .i64 0, .int .i64 0]) ∧ Mine w' W'.heap.size aa n2 cc (wst s n2 xm) ∧ Below W'.heap.size W' w') := fun W' => by
      have := hRd W'
      rw [hlw] at this
      exact this
    clear hRd hbyt hmay hlw
    refine (callsIn_wide (n := 4)).1 ?_
    refine callsIn_of_wp_marks Tryd.func8 rfl trivial ?_ rfl
    simp only [Tryd.ntmps8, List.size_toArray, List.length_cons, List.length_nil, Nat.reduceAdd, Nat.reduceSub, Array.replicate_succ, Array.replicate_zero, List.push_toArray, List.append_toArray, List.nil_append, List.cons_append]
    gi_wp2_with (first
      | (refine ⟨trivial, ?_⟩; gi_at_call 34; rw [HW0.out]; refine (callsIn_wide.2 (HBy.out _ (HC.out _ BW))).mono ?_; clear HW0; rintro e v1 ⟨rfl, hb1⟩; have A3 := A3.below hb1; have A6 := A6.below hb1; have BW := BW.trans (hb1.mono BW.size); obtain ⟨u0, u1, u2⟩ := A3.all)
      | (refine ⟨trivial, ?_⟩; gi_at_call 9; refine (callsIn_wide.2 (HMy.out _ (HC.out _ BW))).mono ?_; rintro e v2 ⟨rfl, hb2⟩; have A6 := A6.below hb2; have BW := BW.trans (hb2.mono BW.size); clear u0 u1 u2)
      | (refine ⟨trivial, ?_⟩; gi_at_call 36; refine (callsIn_wide.2 (HR2.out _)).mono ?_; rintro e y1 ⟨aa', cc', rfl, mA', hy1⟩; have hy1' := belA2 (o := Two (.int .i64 xm) (.slice aa' n2 cc')) hy1; have A6y := A6.below hy1'; have C17 := mA'.cells.alloc (Two (.int .i64 xm) (.slice aa' n2 cc')))
      | (refine ⟨trivial, ?_⟩; gi_at_call 34; refine (callsIn_wide.2 (HB2.out _ _ _ C17)).mono ?_; rintro e y3 ⟨rfl, hy3⟩; have A6w := A6y.below hy3)
      | (refine ⟨trivial, ?_⟩; gi_at_call 10; refine (callsIn_wide.2 (awake_true _)).mono ?_; rintro e y2 ⟨rfl, hy2⟩; have A6z := A6w.below hy2; obtain ⟨c6, f6⟩ := A6z.one))
    have M1 := below_aft (below_aft hy1' hy3) hy2
    have M3 := (BW.trans (M1.mono BW.size)).setCell (p := ⟨w.heap.size + 1, 0, none⟩) (by simp) (.bool true)
    have hc5 := World.cell?_setCell_same' y2 ⟨w.heap.size + 1, 0, none⟩ (.bool true) (by rw [c6]; rfl)
    refine ⟨.bool true, ?_, rfl, M3⟩
    simp [results, Tryd.results8, go_sem, hc5]
  · have hkk1 : (0 : Int) ≤ (kk : Int) := by omega
    have hkk2 : (kk : Int) ≤ (s.size : Int) := by omega
    have hre' : (re != 0) = true := by rcases hre with rfl | rfl <;> rfl
    refine (callsIn_wide (n := 4)).1 ?_
    refine callsIn_of_wp_marks Tryd.func8 rfl trivial ?_ rfl
    simp only [Tryd.ntmps8, List.size_toArray, List.length_cons, List.length_nil, Nat.reduceAdd, Nat.reduceSub, Array.replicate_succ, Array.replicate_zero, List.push_toArray, List.append_toArray, List.nil_append, List.cons_append]
    gi_wp2_with (first
      | (refine ⟨trivial, ?_⟩; gi_at_call 34; rw [HW0.out]; refine (callsIn_wide.2 (HBy.out _ (HC.out _ BW))).mono ?_; clear HW0; rintro e v1 ⟨rfl, hb1⟩; have A3 := A3.below hb1; have A6 := A6.below hb1; have BW := BW.trans (hb1.mono BW.size); obtain ⟨u0, u1, u2⟩ := A3.all)
      | (refine ⟨trivial, ?_⟩; gi_at_call 9; refine (callsIn_wide.2 (HMy.out _ (HC.out _ BW))).mono ?_; rintro e v2 ⟨rfl, hb2⟩; have A6 := A6.below hb2; have BW := BW.trans (hb2.mono BW.size); clear u0 u1 u2)
      | (refine ⟨trivial, ?_⟩; gi_at_call 36; refine (callsIn_wide.2 (hRd _)).mono ?_; rintro e y1 ⟨aa', cc', rfl, mA', hy1⟩; have hy1' := belA2 (o := Two (.int .i64 0) (.slice aa' 0 cc')) hy1; have A6y := A6.below hy1')
      | (refine ⟨trivial, ?_⟩; gi_at_call 10; refine (callsIn_wide.2 (awake_true _)).mono ?_; rintro e y2 ⟨rfl, hy2⟩; have A6z := A6y.below hy2; obtain ⟨c6, f6⟩ := A6z.one))
    have M1 := below_aft hy1' hy2
    have M3 := (BW.trans (M1.mono BW.size)).setCell (p := ⟨w.heap.size + 1, 0, none⟩) (by simp) (.bool true)
    have hc5 := World.cell?_setCell_same' y2 ⟨w.heap.size + 1, 0, none⟩ (.bool true) (by rw [c6]; rfl)
    refine ⟨.bool true, ?_, rfl, M3⟩
    simp [results, Tryd.results8, go_sem, hc5]
end Go.Proofs.YtddjmhfcaeckgaaDoor
