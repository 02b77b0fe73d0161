import Derived.Test.YtddjmhfcaeckgaaDoorA
namespace Go.Proofs.YtddjmhfcaeckgaaDoor
open Go.RowKit
set_option linter.unusedVariables false
set_option linter.unusedSimpArgs false

theorem bcell {W w1 : World} (hb : Below W.heap.size W w1) : (∀ b o, b < W.heap.size → w1.cell? ⟨b, o, none⟩ = W.cell? ⟨b, o, none⟩) ∧ (∀ b o, b < W.heap.size → w1.frozen? ⟨b, o, none⟩ = W.frozen? ⟨b, o, none⟩) :=
  ⟨fun b o h => hb.cell (p := ⟨b, o, none⟩) h, fun b o h => hb.frozen (p := ⟨b, o, none⟩) h⟩
theorem Tryd.info66 : (Tryd.prog.info? 66).map (fun i => (i.zero, i.size, i.bytes)) = some (some (.int .u64 0), 1, 8) := by kernel_rfl
theorem Tryd.size66 : (Tryd.prog.info? 66).map (·.size) = some 1 := by kernel_rfl
theorem below_of_grown {w w' : World} (h : w.grownBy w' none) : Below w.heap.size w w' := (Below.refl _ _).grown h (Nat.le_refl _) (by simp)
/-- A row that was made in full, of n zeros. -/
theorem blk_made {w : World} {base g n : Nat} (h : w.ownsRow base 66 1 (.slice (some ⟨g, 0, none⟩) n n) n (madeCells (Value.int .u64 0).cells (n * 1)).toList) : Blk w g (List.replicate n 0) := by
  rcases h.2 with ⟨h', _⟩ | ⟨g', cap', cur, h', _, hg, _, _, hs, htake⟩
  · simp at h'
  · simp only [Value.slice.injEq, Option.some.injEq, Addr.mk.injEq, and_true, true_and] at h'
    obtain ⟨rfl, rfl⟩ := h'
    have hc : (Value.int IntKind.u64 0).cells = #[Value.int IntKind.u64 0] := rfl
    rw [hc, toList_madeCells_one, List.take_of_length_le (by simp; omega)] at htake
    unfold Blk
    rw [hg, List.map_replicate]
    congr 2
    apply Array.toList_inj.1
    rw [htake]; simp [U]
theorem splice_all {α : Type} (L cs : List α) (h : cs.length = L.length) : splice L 0 cs = cs := by simp [splice, h]
theorem u_one (zs : List Int) : ∀ u ∈ zs.map U, u.oneCell' = true := ints_oneCell .u64 zs

/-- What stands at a block. -/
def At (w : World) (b : Nat) (o : Obj) : Prop := w.heap[b]? = some o
theorem At.lt {w : World} {b : Nat} {o : Obj} (h : At w b o) : b < w.heap.size := lt_of_block h
theorem At.below {w w' : World} {b : Nat} {o : Obj} (h : At w b o) (hb : Below w.heap.size w w') : At w' b o := (hb.block b h.lt).trans h
theorem At.belowB {B : Nat} {w w' : World} {b : Nat} {o : Obj} (h : At w b o) (hb : Below B w w') (hB : b < B) : At w' b o := (hb.block b hB).trans h
theorem At.new (w : World) (o : Obj) : At (w.alloc o) w.heap.size o := heap_alloc_new w o
theorem At.alloc {w : World} {b : Nat} {o : Obj} (h : At w b o) (o' : Obj) : At (w.alloc o') b o := (Below.heap_alloc w o' b h.lt).trans h
theorem At.drewN {w : World} {b : Nat} {o : Obj} (h : At w b o) (n : Nat) : At (w.drewN n) b o := h
theorem At.drew {w : World} {b : Nat} {o : Obj} (h : At w b o) : At w.drew b o := h
theorem At.set {w : World} {b : Nat} {o : Obj} (h : At w b o) {a : Addr} (ha : b ≠ a.block) (u : Value) : At (w.setCell a u) b o := (Below.heap_setCell w a u b ha).trans h
/-- A struct of two cells in a block of its own. -/
abbrev Two (p q : Value) : Obj := .cells #[p, q] 24 (0, 0)
theorem At.all {w : World} {b : Nat} {p q : Value} (h : At w b (Two p q)) : w.cell? ⟨b, 0, none⟩ = some p ∧ w.cell? ⟨b, 1, none⟩ = some q ∧ (∀ o, w.frozen? ⟨b, o, none⟩ = false) := by
  unfold At Two at h
  exact ⟨by simp [World.cell?, h], by simp [World.cell?, h], fun o => frozen_of_row w b o _ 24 h⟩
theorem At.setTwo {w : World} {b : Nat} {p q : Value} (h : At w b (Two p q)) (p' q' : Value) : At ((w.setCell ⟨b, 0, none⟩ p').setCell ⟨b, 1, none⟩ q') b (Two p' q') := by
  unfold At Two at *
  have h1 := heap_setCell_same w b 0 #[p, q] 24 p' h
  have h2 := heap_setCell_same _ b 1 _ 24 q' h1
  simpa using h2
theorem below_setTwo {B : Nat} {w0 w : World} (h : Below B w0 w) {b : Nat} (hb : B ≤ b) (p q : Value) : Below B w0 ((w.setCell ⟨b, 0, none⟩ p).setCell ⟨b, 1, none⟩ q) := (h.setCell hb _).setCell hb _
theorem Blk.at {w : World} {g : Nat} {zs : List Int} (h : Blk w g zs) : At w g (.cells (zs.map U).toArray 66 (0, 0)) := h
theorem below2 {w w1 : World} {o1 o2 : Obj} (hb : Below ((w.alloc o1).alloc o2).heap.size ((w.alloc o1).alloc o2) w1) : Below w.heap.size w w1 :=
  (((Below.refl _ _).alloc (Nat.le_refl _) o1).alloc (by simp) o2).trans (hb.mono (by simp; omega))
theorem below1 {w w1 : World} {o1 : Obj} (hb : Below (w.alloc o1).heap.size (w.alloc o1) w1) : Below w.heap.size w w1 :=
  ((Below.refl _ _).alloc (Nat.le_refl _) o1).trans (hb.mono (by simp))

theorem len_min {zs : List Int} {n : Nat} (hz : zs.length = n) : (zs.map U).length = Nat.min n n := by rw [List.length_map, hz]; exact (Nat.min_self n).symm
theorem copy_pos {w : World} {a : Option Addr} {zs : List Int} {g : Nat} (h : Cells w a zs) : 0 < (zs.map U).length → some (⟨g, 0, none⟩ : Addr) = some ⟨g, 0, none⟩ ∧ ∃ ad, a = some ad ∧ ∀ j v, (zs.map U)[j]? = some v → w.cell? (ad.add j) = some v := by
  intro hp
  rcases h with h | ⟨b, off, rfl, _, hc⟩
  · subst h; simp at hp
  · refine ⟨rfl, _, rfl, fun j v hj => ?_⟩
    obtain ⟨hl, he⟩ := List.getElem?_eq_some_iff.1 hj
    simp at hl he
    rw [Addr.add_lit, hc j hl, ← he]
    simp [U, hl]

theorem own_no (x : Int) (a : Option Addr) (n cap : Nat) (zs : List Int) (w : World) (hz : zs.length = n) (hm : n ≤ maxLen) (hc : Cells w a zs) (hy : mayB x zs = false) :
    Calls Tryd.prog 16 #[.agg #[.int .i64 x, .slice a n cap]] w fun e w' => e = .returned (.tuple #[.agg #[.int .i64 0, .slice none 0 0], .int .i64 2]) ∧ Below w.heap.size w w' := by
  have hc1 := (hc.alloc (.cells #[.int .i64 x, .slice a n cap] 24)).alloc (.cells #[.int .i64 0, .slice none 0 0] 24)
  have b2 := At.new (w.alloc (Two (.int .i64 x) (.slice a n cap))) (Two (.int .i64 0) (.slice none 0 0))
  simp only [World.size_alloc] at b2
  go_enter Tryd.func16, Tryd.ntmps16
  go_wp2_with (go_at_call 9; refine (may_no _ _ _ _ zs _ hz hm hc1 hy).mono ?_; rintro e w1 ⟨rfl, hb1⟩; have b21 := b2.below hb1; obtain ⟨c20, c21, f2⟩ := b21.all)
  refine bodyPost_ret (v := .tuple #[.agg #[.int .i64 0, .slice none 0 0], .int .i64 2]) (by simp [results, Tryd.results16, go_sem, c20, c21]) rfl ⟨rfl, ?_⟩
  exact below_setTwo (below2 hb1) (by omega) _ _

theorem own_yes (x : Int) (a : Option Addr) (n cap : Nat) (zs : List Int) (w : World) (hz : zs.length = n) (hc : Cells w a zs) (hy : mayB x zs = true) :
    Calls Tryd.prog 16 #[.agg #[.int .i64 x, .slice a n cap]] w fun e w' => ∃ g, e = .returned (.tuple #[.agg #[.int .i64 x, .slice (some ⟨g, 0, none⟩) n n], .int .i64 0]) ∧ w.heap.size ≤ g ∧ Blk w' g zs ∧ Below w.heap.size w w' := by
  have hc1 := (hc.alloc (.cells #[.int .i64 x, .slice a n cap] 24)).alloc (.cells #[.int .i64 0, .slice none 0 0] 24)
  have b1 := (At.new w (Two (.int .i64 x) (.slice a n cap))).alloc (Two (.int .i64 0) (.slice none 0 0))
  have b2 := At.new (w.alloc (Two (.int .i64 x) (.slice a n cap))) (Two (.int .i64 0) (.slice none 0 0))
  simp only [World.size_alloc] at b2
  have hw := mayB_width hy
  have hm : n ≤ 100 := by omega
  obtain ⟨i0, hi, hz0, hz1, hz2⟩ := info_parts Tryd.info66
  go_enter Tryd.func16, Tryd.ntmps16
  go_wp2_with (first
    | (go_at_call 9; refine (may_yes _ _ _ _ zs _ hz hc1 hy).mono ?_; rintro e w1 ⟨rfl, hb1⟩; have b11 := b1.below hb1; have b21 := b2.below hb1; have HC1 := hc1.below hb1; have hs1 := b21.lt; obtain ⟨c10, c11, f1⟩ := b11.all)
    | (at_make; refine wpList_make_full _ rfl _ _ 22 rfl w1.heap.size 66 i0 (.int .u64 0) 1 Tryd.underlying22 hi hz0 hz1 .i64 .i64 _ _ n rfl rfl rfl rfl (by rw [hz2]; omega) (by unfold maxLen; omega) (Nat.le_refl _) ?_; intro w2 hown2 hgrow2; have HM : Blk w2 w1.heap.size (List.replicate n 0) := blk_made hown2; have hb2 := below_of_grown hgrow2; clear hown2 hgrow2; have b12 := b11.below hb2; have b22 := b21.below hb2; have HC2 := HC1.below hb2; obtain ⟨d10, d11, g1⟩ := b12.all; clear c10 c11 f1 b11)
    | (have _hm := HM; clear _hm; refine wpList_copy_splice rfl _ _ 22 22 rfl 66 Tryd.underlying22 Tryd.size66 _ _ n n n cap rfl rfl w1.heap.size 0 ((List.replicate n 0).map U) 66 HM (zs.map U) (len_min hz) (copy_pos HC2) (by simp [hz]) (u_one zs) w1.heap.size w1 hb2 (Nat.le_refl _) ?_; clear HM d10 d11 g1 b12 b22; intro w3 HG3 hb3; have b13 := b1.below (hb1.trans (hb3.mono (by simp; omega))); have b23 := b2.below (hb1.trans (hb3.mono (by simp; omega))); have HN := HG3.out; rw [splice_all _ _ (by simp [hz])] at HN; have HN : Blk w3 w1.heap.size zs := HN; clear HG3; obtain ⟨e10, e11, k1⟩ := b13.all; obtain ⟨e20, e21, k2⟩ := b23.all))
  refine bodyPost_ret (v := .tuple #[.agg #[.int .i64 x, .slice (some ⟨w1.heap.size, 0, none⟩) n n], .int .i64 0]) (by simp [results, Tryd.results16, go_sem, e20, e21]) rfl ⟨w1.heap.size, rfl, by omega, ?_, ?_⟩
  · exact (HN.at.set (by simp; omega) _).set (by simp; omega) _
  · exact below_setTwo ((below2 hb1).trans (hb3.mono (by omega))) (by omega) _ _

theorem new_no (x : Int) (w : World) (h : ¬ (0 ≤ x ∧ x ≤ 1032)) :
    Calls Tryd.prog 12 #[.int .i64 x] w fun e w' => e = .returned (.tuple #[.agg #[.int .i64 0, .slice none 0 0], .int .i64 2]) ∧ Below w.heap.size w w' := by
  go_enter Tryd.func12, Tryd.ntmps12
  go_wp2_with (go_at_call 39; refine (mayWidth_no _ _ h).mono ?_; rintro e w1 ⟨rfl, rfl⟩)
  refine bodyPost_ret (v := .tuple #[.agg #[.int .i64 0, .slice none 0 0], .int .i64 2]) (by simp [results, Tryd.results12, go_sem]) rfl ⟨rfl, ?_⟩
  exact (Below.refl _ _).alloc (Nat.le_refl _) _

theorem new_yes (x : Int) (n : Nat) (w : World) (h0 : 0 ≤ x) (h1 : x ≤ 1032) (hn : (n : Int) = (x + 63) / 64) :
    Calls Tryd.prog 12 #[.int .i64 x] w fun e w' => ∃ g, e = .returned (.tuple #[.agg #[.int .i64 x, .slice (some ⟨g, 0, none⟩) n n], .int .i64 0]) ∧ w.heap.size ≤ g ∧ Blk w' g (List.replicate n 0) ∧ Below w.heap.size w w' := by
  obtain ⟨i0, hi, hz0, hz1, hz2⟩ := info_parts Tryd.info66
  have hm : n ≤ 100 := by omega
  have HN : Hid ((n : Int) = (x + 63) / 64) := hn
  clear hn
  have b1 := At.new w (Two (.int .i64 0) (.slice none 0 0))
  go_enter Tryd.func12, Tryd.ntmps12
  go_wp2_with (first
    | (go_at_call 39; refine (mayWidth_yes _ _ h0 h1).mono ?_; rintro e w1 ⟨rfl, rfl⟩)
    | (go_at_call 40; refine (wordCount_any _ _ h0 h1).mono ?_; rintro e w1 ⟨rfl, rfl⟩)
    | (at_make; refine wpList_make_full _ rfl _ _ 22 rfl (w.heap.size + 1) 66 i0 (.int .u64 0) 1 Tryd.underlying22 hi hz0 hz1 .i64 .i64 _ _ n rfl rfl HN.out.symm HN.out.symm (by rw [hz2]; omega) (by unfold maxLen; omega) (by simp) ?_; intro w2 hown2 hgrow2; have HM := blk_made hown2; have hb2 := below_of_grown hgrow2; clear hown2 hgrow2; have b12 := b1.below hb2; obtain ⟨d10, d11, g1⟩ := b12.all))
  simp only [World.size_alloc] at HM
  refine bodyPost_ret (v := .tuple #[.agg #[.int .i64 x, .slice (some ⟨w.heap.size + 1, 0, none⟩) n n], .int .i64 0]) (by simp [results, Tryd.results12, go_sem, d10, d11]) rfl ⟨w.heap.size + 1, rfl, by omega, ?_, ?_⟩
  · exact (HM.at.set (by simp) _).set (by simp) _
  · exact below_setTwo (below1 hb2) (by omega) _ _
end Go.Proofs.YtddjmhfcaeckgaaDoor
