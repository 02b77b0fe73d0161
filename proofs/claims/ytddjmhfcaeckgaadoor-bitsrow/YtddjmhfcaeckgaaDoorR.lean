import Derived.Test.YtddjmhfcaeckgaaDoorE
import Derived.Test.YtddjmhfcaeckgaaDoorL
import Derived.Test.YtddjmhfcaeckgaaDoorQ
namespace Go.Proofs.YtddjmhfcaeckgaaDoor
open Go.RowKit
set_option linter.unusedVariables false
set_option linter.unusedSimpArgs false

theorem turns_12 : turns (bits .or .u64) [0, 0] [0, 69] = [1, 32] := by kernel_rfl
theorem str_12 : strOf (bst [1, 32] 9 (70 : Int).toNat) = ⟨#[128, 0, 0, 0, 0, 0, 0, 0, 4]⟩ := by kernel_rfl
theorem mayB_00 : mayB 70 [0, 0] = true := by decide
theorem allIn_12 : allIn 70 [0, 69] = true := by decide
theorem icells_new (w : World) (i j : Int) : ICells (w.alloc (.cells #[.int .i64 i, .int .i64 j] 3)) (some ⟨w.heap.size, 0, none⟩) [i, j] := by
  refine .inr ⟨w.heap.size, 0, rfl, by simp, fun k hk => ?_⟩
  match k, hk with
  | 0, _ => simp
  | 1, _ => simp

theorem icells_new' {w : World} {k : Nat} (hk : w.heap.size = k) (i j : Int) : ICells (w.alloc (.cells #[.int .i64 i, .int .i64 j] 3)) (some ⟨k, 0, none⟩) [i, j] := by
  subst hk; exact icells_new w i j

theorem neq_func (b : Nat) (w : World) : (binOp .neq 39 (.func (.func 47) #[] #[.pointer (some ⟨b, 0, none⟩)]) .nilFunc).run Tryd.prog w = .ok (.bool true) w := by
  kernel_rfl

set_option maxHeartbeats 1000000 in
theorem awake_true (w : World) : Calls Tryd.prog 10 #[] w fun e w' => e = .returned (.bool true) ∧ Below w.heap.size w w' := by
  go_enter Tryd.func10, Tryd.ntmps10
  go_wp2_with (first
    | (go_at_call 12; refine (new_yes 70 2 w (by omega) (by omega) (by omega)).mono ?_; rintro e w1 ⟨g1, rfl, hg1, hblk1, hb1⟩; have hI := icells_new' (w := w1.alloc (Two (.int .i64 70) (.slice (some ⟨g1, 0, none⟩) 2 2))) (k := w1.heap.size + 1) (by simp) 0 69; have hC := ((Blk.alloc hblk1 (Two (.int .i64 70) (.slice (some ⟨g1, 0, none⟩) 2 2))).alloc (.cells #[.int .i64 0, .int .i64 69] 3)).cells; have hR := (At.new w1 (Two (.int .i64 70) (.slice (some ⟨g1, 0, none⟩) 2 2))).alloc (.cells #[.int .i64 0, .int .i64 69] 3))
    | (go_at_call 23; refine (set_yes 70 (some ⟨g1, 0, none⟩) 2 2 [0, 0] (some ⟨w1.heap.size + 1, 0, none⟩) 2 2 [0, 69] ((w1.alloc (Two (.int .i64 70) (.slice (some ⟨g1, 0, none⟩) 2 2))).alloc (.cells #[.int .i64 0, .int .i64 69] 3)) rfl hC rfl (by omega) hI allIn_12 mayB_00).mono ?_; rintro e w2 ⟨g2, rfl, hg2, hblk2, hb2⟩; rw [turns_12] at hblk2; have hR2 := (hR.below hb2).alloc (Two (.int .i64 70) (.slice (some ⟨g2, 0, none⟩) 2 2)); have hS2 := At.new w2 (Two (.int .i64 70) (.slice (some ⟨g2, 0, none⟩) 2 2)); have hB2 := Blk.alloc hblk2 (Two (.int .i64 70) (.slice (some ⟨g2, 0, none⟩) 2 2)); clear hI hC hR)
    | (go_at_call 34; refine (bytes_yes 70 (some ⟨g2, 0, none⟩) 2 2 9 [1, 32] _ rfl hB2.cells mayB_12 (by omega)).mono ?_; rintro e w3 ⟨rfl, hb3⟩; rw [str_12]; have hR3 := hR2.below hb3; have hS3 := hS2.below hb3; have hB3 := hB2.below hb3; clear hR2 hS2 hB2)
    | (go_at_call 36; refine (read_no _).mono ?_; rintro e w4 ⟨rfl, hb4⟩; have hR4 := (hR3.below hb4).alloc (Two (.int .i64 0) (.slice none 0 0)); have hS4 := (hS3.below hb4).alloc (Two (.int .i64 0) (.slice none 0 0)); have hB4 := (hB3.below hb4).alloc (Two (.int .i64 0) (.slice none 0 0)); clear hR3 hS3 hB3; obtain ⟨r0, r1, r2⟩ := hR4.all; obtain ⟨s0, s1, s2⟩ := hS4.all)
    | (go_at_call 21; refine (count_yes 70 (some ⟨g2, 0, none⟩) 2 2 [1, 32] _ rfl hB4.cells mayB_12).mono ?_; rintro e w5 ⟨rfl, hb5⟩; rw [csum_12]; have hS5 := hS4.below hb5; have hB5 := hB4.below hb5; clear r0 r1 r2 s0 s1 s2 hS4 hB4 hR4; obtain ⟨s0, s1, s2⟩ := hS5.all)
    | (go_at_call 9; refine (may_yes 70 (some ⟨g2, 0, none⟩) 2 2 [1, 32] _ rfl hB5.cells mayB_12).mono ?_; rintro e w6 ⟨rfl, hb6⟩; have hS6 := hS5.below hb6; have hB6 := hB5.below hb6; clear s0 s1 s2 hS5 hB5; obtain ⟨s0, s1, s2⟩ := hS6.all)
    | (go_at_call 20; refine (each_12 g2 _ hB6).mono ?_; rintro e w7 ⟨b7, g7, rfl, h7, h7', hb7⟩; have hnf := neq_func b7 w7))
  go_ret
  have hB1 := hb1
  have hB2 : Below w.heap.size w w2 := hB1.trans ((below2 hb2).mono hB1.size)
  have hB3 : Below w.heap.size w w3 := hB2.trans ((below1 hb3).mono hB2.size)
  have hB4 : Below w.heap.size w w4 := hB3.trans (hb4.mono hB3.size)
  have hB5 : Below w.heap.size w w5 := hB4.trans ((below1 hb5).mono hB4.size)
  have hB6 : Below w.heap.size w w6 := hB5.trans (hb6.mono hB5.size)
  exact ⟨rfl, hB6.trans (hb7.mono hB6.size)⟩
end Go.Proofs.YtddjmhfcaeckgaaDoor
