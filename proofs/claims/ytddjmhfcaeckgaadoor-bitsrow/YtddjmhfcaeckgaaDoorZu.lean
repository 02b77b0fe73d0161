import Derived.Test.YtddjmhfcaeckgaaDoorZj
import Derived.Test.YtddjmhfcaeckgaaDoorT
import Derived.Test.YtddjmhfcaeckgaaDoorO
import Derived.Laws.AppendOwnNone
namespace Go.Proofs.YtddjmhfcaeckgaaDoor
open Go.RowKit
set_option linter.unusedVariables false
set_option linter.unusedSimpArgs false

theorem refNew_no (x : Int) (w : World) (h : ¬ (0 ≤ x ∧ x ≤ 1032)) :
    Calls Tryd.prog 13 #[.int .i64 x] w fun e w' => e = .returned (.tuple #[.agg #[.int .i64 0, .slice none 0 0], .int .i64 2]) ∧ Below w.heap.size w w' := by
  have b1 := At.new w (Two (.int .i64 0) (.slice none 0 0))
  obtain ⟨c0, c1, f0⟩ := b1.all
  by_cases h0 : x < 0
  · clear h
    go_enter Tryd.func13, Tryd.ntmps13
    go_wp2
    refine bodyPost_ret (v := .tuple #[.agg #[.int .i64 0, .slice none 0 0], .int .i64 2]) (by simp [results, Tryd.results13, go_sem, c0, c1]) rfl ⟨rfl, ?_⟩
    exact (Below.refl _ _).alloc (Nat.le_refl _) _
  · have h1 : 1032 < x := by omega
    clear h
    go_enter Tryd.func13, Tryd.ntmps13
    go_wp2
    refine bodyPost_ret (v := .tuple #[.agg #[.int .i64 0, .slice none 0 0], .int .i64 2]) (by simp [results, Tryd.results13, go_sem, c0, c1]) rfl ⟨rfl, ?_⟩
    exact (Below.refl _ _).alloc (Nat.le_refl _) _
theorem refNew_yes (x : Int) (n : Nat) (w : World) (h0 : 0 ≤ x) (h1 : x ≤ 1032) (hn : (n : Int) = (x + 63) / 64) :
    Calls Tryd.prog 13 #[.int .i64 x] w fun e w' => ∃ g, e = .returned (.tuple #[.agg #[.int .i64 x, .slice (some ⟨g, 0, none⟩) n n], .int .i64 0]) ∧ w.heap.size ≤ g ∧ Blk w' g (List.replicate n 0) ∧ Below w.heap.size w w' := by
  have h0' : ¬ x < 0 := by omega
  have h1' : ¬ 1032 < x := by omega
  have HN : Hid ((n : Int) = (x + 63) / 64) := hn
  clear hn
  have b1 := At.new w (Two (.int .i64 0) (.slice none 0 0))
  go_enter Tryd.func13, Tryd.ntmps13
  go_wp2_with (go_at_call 41; refine (none_any _ n _ h0 h1 HN.out).mono ?_; rintro e w2 ⟨g, rfl, hgw, hblk, hb2⟩; have b12 := b1.below hb2; obtain ⟨d10, d11, g1⟩ := b12.all)
  have hgl := b1.lt
  refine bodyPost_ret (v := .tuple #[.agg #[.int .i64 x, .slice (some ⟨g, 0, none⟩) n n], .int .i64 0]) (by simp [results, Tryd.results13, go_sem, d10, d11]) rfl ⟨g, rfl, by simp at hgw; omega, ?_, ?_⟩
  · exact (hblk.at.set (by simp at hgw; simp; omega) _).set (by simp at hgw; simp; omega) _
  · exact below_setTwo (below1 hb2) (Nat.le_refl _) _ _

/-- What Get tells of a row and a number. -/
def gt (x k : Int) (zs : List Int) : Bool := mayB x zs && isB x k && getB zs k
theorem refGet_any (x k : Int) (a : Option Addr) (n cap : Nat) (zs : List Int) (w : World) (hz : zs.length = n) (hm : n ≤ maxLen) (hw : Words zs) (hc : Cells w a zs) :
    Calls Tryd.prog 18 #[.agg #[.int .i64 x, .slice a n cap], .int .i64 k] w fun e w' => e = .returned (.bool (gt x k zs)) ∧ Below w.heap.size w w' := by
  have b1 := At.new w (Two (.int .i64 x) (.slice a n cap))
  have hc1 := hc.alloc (Two (.int .i64 x) (.slice a n cap))
  cases hy : mayB x zs
  · have e : gt x k zs = false := by simp [gt, hy]
    rw [e]
    go_enter Tryd.func18, Tryd.ntmps18
    go_wp2_with (go_at_call 15; refine (refMay_no _ _ _ _ zs _ hz hm hw hc1 hy).mono ?_; rintro e w1 ⟨rfl, hb1⟩)
    go_ret
    exact ⟨rfl, below1 hb1⟩
  · have hwd := mayB_width hy
    have H1 := refMay_yes x a n cap zs _ hz hw hc1 hy
    by_cases h0 : 0 ≤ k
    · by_cases h1 : k < x
      · have e : gt x k zs = getB zs k := by simp [gt, hy, isB, h0, h1]
        rw [e]
        go_enter Tryd.func18, Tryd.ntmps18
        go_wp2_with (first
          | (go_at_call 15; refine H1.mono ?_; clear H1; rintro e w1 ⟨rfl, hb1⟩; have hc2 := hc1.below hb1; obtain ⟨c0, c1, f1⟩ := (b1.below hb1).all)
          | (go_at_call 45; refine (is_yes x k a n cap zs w1 hz (by omega) hw hc2 h0 (by omega)).mono ?_; rintro e w2 ⟨rfl, hb2⟩))
        go_ret
        have hB := below1 hb1
        exact ⟨by simp, hB.trans (hb2.mono hB.size)⟩
      · have e : gt x k zs = false := by simp [gt, hy, isB, h0, h1]
        rw [e]
        go_enter Tryd.func18, Tryd.ntmps18
        go_wp2_with (go_at_call 15; refine H1.mono ?_; clear H1; rintro e w1 ⟨rfl, hb1⟩; obtain ⟨c0, c1, f1⟩ := (b1.below hb1).all)
        go_ret
        exact ⟨by simp, below1 hb1⟩
    · have e : gt x k zs = false := by simp [gt, hy, isB, h0]
      have h0' : k < 0 := by omega
      rw [e]
      go_enter Tryd.func18, Tryd.ntmps18
      go_wp2_with (go_at_call 15; refine H1.mono ?_; clear H1; rintro e w1 ⟨rfl, hb1⟩; obtain ⟨c0, c1, f1⟩ := (b1.below hb1).all)
      go_ret
      exact ⟨by simp, below1 hb1⟩
end Go.Proofs.YtddjmhfcaeckgaaDoor
