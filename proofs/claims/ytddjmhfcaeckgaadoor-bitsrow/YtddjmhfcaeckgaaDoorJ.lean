import Derived.Test.YtddjmhfcaeckgaaDoorG
import Derived.Deep.RegionHeld3
import Derived.BigRegion
namespace Go.Proofs.YtddjmhfcaeckgaaDoor
open Go.RowKit
set_option linter.unusedVariables false
set_option linter.unusedSimpArgs false

theorem mine_some {w : World} {base n cap : Nat} {a : Option Addr} {zs : List Int} (h : Mine w base a n cap zs) (hn : 0 < n) : ∃ g, a = some ⟨g, 0, none⟩ ∧ base ≤ g ∧ g < w.heap.size := by
  rcases h.form with ⟨_, h, _⟩ | h
  · omega
  · exact h
theorem Mine.cap {w : World} {base n cap g : Nat} {zs : List Int} (h : Mine w base (some ⟨g, 0, none⟩) n cap zs) : n ≤ cap := by
  rcases h.2 with ⟨h', _⟩ | ⟨g', cap', cur, h', _, _, h2, _⟩
  · simp at h'
  · simp at h'; omega
theorem u_snoc (zs : List Int) (z : Int) : (zs ++ [z]).map U = zs.map U ++ [.int .u64 z] := by simp [U]

theorem one_cell (w : World) (z : Int) : ∀ j u, [Value.int .u64 z][j]? = some u → (w.alloc (.cells #[.int .u64 z] 66)).cell? ((⟨w.heap.size, 0, none⟩ : Addr).add j) = some u := by
  intro j u hj
  match j, hj with
  | 0, hj => simp at hj; subst hj; simp [Addr.add]

theorem one_cell' {w : World} {k : Nat} (hk : w.heap.size = k) (z : Int) : ∀ j u, [Value.int .u64 z][j]? = some u → (w.alloc (.cells #[.int .u64 z] 66)).cell? ((⟨k, 0, none⟩ : Addr).add j) = some u := by
  subst hk; exact one_cell w z

theorem lent_any (x : Int) (a : Option Addr) (n cap : Nat) (zs : List Int) (w : World) (hz : zs.length = n) (hm : n ≤ 5000) (hnil : a = none → cap = 0) (hc : Cells w a zs) :
    Calls Tryd.prog 11 #[.agg #[.int .i64 x, .slice a n cap]] w fun e w' => ∃ g cap', e = .returned (.agg #[.int .i64 x, .slice (some ⟨g, 0, none⟩) n cap']) ∧ Mine w' w.heap.size (some ⟨g, 0, none⟩) (n + 1) cap' (zs ++ [77]) ∧ Below w.heap.size w w' := by
  obtain ⟨i0, hi, hz0, hz1, hz2⟩ := info_parts Tryd.info66
  have b1 := (At.new w (Two (.int .i64 x) (.slice a n cap))).alloc (Two (.int .i64 0) (.slice none 0 0))
  have b2 := At.new (w.alloc (Two (.int .i64 x) (.slice a n cap))) (Two (.int .i64 0) (.slice none 0 0))
  simp only [World.size_alloc] at b2
  have hc2 := (hc.alloc (Two (.int .i64 x) (.slice a n cap))).alloc (Two (.int .i64 0) (.slice none 0 0))
  have hown := World.ownsRow_nil ((w.alloc (Two (.int .i64 x) (.slice a n cap))).alloc (Two (.int .i64 0) (.slice none 0 0))) (w.heap.size + 2) 66 1
  cases a with
  | none =>
    obtain rfl := hnil rfl
    have hzn : zs = [] := by rcases hc with h | ⟨b, off, h, _⟩; exact h; cases h
    subst hzn
    simp at hz
    subst hz
    obtain ⟨c10, c11, f1⟩ := b1.all
    go_enter Tryd.func11, Tryd.ntmps11
    go_wp2_with (first
      | (at_builtin; refine wpList_append_own_none rfl (.tmp 4) (.tmp 6) 22 rfl (w.heap.size + 2) 66 i0 1 Tryd.underlying22 hi _ _ _ rfl hown rfl ?_)
      | (at_builtin; refine wpList_append_own _ rfl (.tmp 8) (.tmp 9) 22 rfl (w.heap.size + 2) 66 i0 (.int .u64 0) 1 8 Tryd.underlying22 hi hz0 hz1 hz2 rfl (by decide) _ _ _ rfl (hown.alloc _) ⟨w.heap.size + 2, 0, none⟩ 1 1 [.int .u64 77] rfl rfl (one_cell' (by simp) 77) (by intro u hu; simp at hu; subst hu; rfl) (by unfold maxLen; omega) (by omega) (by simp) ?_; intro v2 w2 hown2 hgrow2 _; obtain ⟨a2, cap2, rfl⟩ := own_shape hown2; have hM2 : Mine w2 (w.heap.size + 2) a2 1 cap2 [77] := hown2; have hb2 := below_of_grown hgrow2; clear hown2 hgrow2 c10 c11 f1; have b12 := (b1.alloc (.cells #[.int .u64 77] 66)).below hb2; have b22 := (b2.alloc (.cells #[.int .u64 77] 66)).below hb2; obtain ⟨c10, c11, f1⟩ := b12.all; obtain ⟨c20, c21, f2⟩ := b22.all; obtain ⟨g, rfl, hg1, hg2⟩ := mine_some hM2 (by omega); have hcp := hM2.cap))
    have hi2 : (0 : Int) ≤ (cap2 : Int) := by omega
    go_region_held3 (fun w' => w'.cell? ⟨w.heap.size, 0, none⟩ = some (.int .i64 x) ∧ w'.cell? ⟨w.heap.size, 1, none⟩ = some (.slice none 0 0)) (go_keep) (fail)
    go_wp2
    refine bodyPost_ret (v := .agg #[.int .i64 x, .slice (some ⟨g, 0, none⟩) 0 cap2]) (by simp [results, Tryd.results11, go_sem, c20, c21]) rfl ⟨g, cap2, rfl, ?_, ?_⟩
    · exact ((hM2.mono (by omega)).setOther (fun g' hg' => by simp at hg'; simp; omega) _).setOther (fun g' hg' => by simp at hg'; simp; omega) _
    · exact (below_setTwo (below3 hb2) (by omega) _ _).drew
  | some ad =>
    go_enter Tryd.func11, Tryd.ntmps11
    go_wp2_with (first
      | (at_builtin; refine wpList_append_own _ rfl (.tmp 4) (.tmp 6) 22 rfl (w.heap.size + 2) 66 i0 (.int .u64 0) 1 8 Tryd.underlying22 hi hz0 hz1 hz2 rfl (by decide) _ _ _ rfl hown ad n cap (zs.map U) rfl (by simp [hz]) (news_cells hc2) (u_one zs) (by unfold maxLen; omega) (by omega) (by simp) ?_; intro v' w1 hown' hgrow _; simp only [Nat.zero_add, List.nil_append] at hown'; obtain ⟨a', cap', rfl⟩ := own_shape hown'; have hb1 := below_of_grown hgrow; clear hgrow hown; have b11 := b1.below hb1; have b21 := b2.below hb1; obtain ⟨c10, c11, f1⟩ := b11.all; obtain ⟨c20, c21, f2⟩ := b21.all; have hs1 := b21.lt)
      | (at_builtin; refine wpList_append_own _ rfl (.tmp 8) (.tmp 9) 22 rfl (w.heap.size + 2) 66 i0 (.int .u64 0) 1 8 Tryd.underlying22 hi hz0 hz1 hz2 rfl (by decide) _ _ _ rfl (hown'.alloc _) ⟨w1.heap.size, 0, none⟩ 1 1 [.int .u64 77] rfl rfl (one_cell w1 77) (by intro u hu; simp at hu; subst hu; rfl) (by unfold maxLen; omega) (by omega) (by rw [World.size_alloc]; omega) ?_; intro v2 w2 hown2 hgrow2 _; obtain ⟨a2, cap2, rfl⟩ := own_shape hown2; have hM2 : Mine w2 (w.heap.size + 2) a2 (n + 1) cap2 (zs ++ [77]) := (by unfold Mine; rw [u_snoc]; exact hown2); have hb2 : Below (w.heap.size + 2) (w1.alloc (.cells #[.int .u64 77] 66)) w2 := (Below.refl _ _).grown hgrow2 (by rw [World.size_alloc]; omega) (fun k hk => (hown'.lt k hk).1); clear hown2 hgrow2 c10 c11 f1 c20 c21 f2; have b12 := (b11.alloc (.cells #[.int .u64 77] 66)).belowB hb2 (by omega); have b22 := (b21.alloc (.cells #[.int .u64 77] 66)).belowB hb2 (by omega); clear hown' b11 b21; obtain ⟨c10, c11, f1⟩ := b12.all; obtain ⟨c20, c21, f2⟩ := b22.all; obtain ⟨g, rfl, hg1, hg2⟩ := mine_some hM2 (by omega); have hcp := hM2.cap))
    have hi1 : (0 : Int) ≤ (n : Int) := by omega
    have hi2 : (n : Int) ≤ (cap2 : Int) := by omega
    go_region_held3 (fun w' => w'.cell? ⟨w.heap.size, 0, none⟩ = some (.int .i64 x) ∧ w'.cell? ⟨w.heap.size, 1, none⟩ = some (.slice (some ad) n cap)) (go_keep) (fail)
    go_wp2
    refine bodyPost_ret (v := .agg #[.int .i64 x, .slice (some ⟨g, 0, none⟩) n cap2]) (by simp [results, Tryd.results11, go_sem, c20, c21]) rfl ⟨g, cap2, rfl, ?_, ?_⟩
    · exact ((hM2.mono (by omega)).setOther (fun g' hg' => by simp at hg'; simp; omega) _).setOther (fun g' hg' => by simp at hg'; simp; omega) _
    · exact (below_setTwo (((below2 hb1).alloc (by omega) _).trans (hb2.mono (by omega))) (by omega) _ _).drew
end Go.Proofs.YtddjmhfcaeckgaaDoor
