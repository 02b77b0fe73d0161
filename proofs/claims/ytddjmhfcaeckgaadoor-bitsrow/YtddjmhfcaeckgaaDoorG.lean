import Derived.Test.YtddjmhfcaeckgaaDoorF
import Derived.Laws.AppendOwnNone
namespace Go.Proofs.YtddjmhfcaeckgaaDoor
open Go.RowKit
set_option linter.unusedVariables false
set_option linter.unusedSimpArgs false

/-- A slice of words that the call owns. -/
def Mine (w : World) (base : Nat) (a : Option Addr) (n cap : Nat) (zs : List Int) : Prop := w.ownsRow base 66 1 (.slice a n cap) n (zs.map U)
theorem Mine.len {w : World} {base n cap : Nat} {a : Option Addr} {zs : List Int} (h : Mine w base a n cap zs) : zs.length = n := by
  have := h.1; simpa using this
theorem Mine.form {w : World} {base n cap : Nat} {a : Option Addr} {zs : List Int} (h : Mine w base a n cap zs) : (a = none ∧ n = 0 ∧ cap = 0) ∨ ∃ g, a = some ⟨g, 0, none⟩ ∧ base ≤ g ∧ g < w.heap.size := by
  rcases h.2 with ⟨h', h0⟩ | ⟨g, cap', cur, h', hb, hg, _⟩
  · simp at h'; exact .inl ⟨h'.1, h0, h'.2.2⟩
  · simp at h'; exact .inr ⟨g, h'.1, hb, lt_of_block hg⟩
theorem Mine.cells {w : World} {base n cap : Nat} {a : Option Addr} {zs : List Int} (h : Mine w base a n cap zs) : Cells w a zs := by
  rcases h.form with ⟨h1, h2, h3⟩ | ⟨g, rfl, h1, h2⟩
  · left; have := h.len; rw [h2] at this; exact List.eq_nil_of_length_eq_zero this
  · refine .inr ⟨g, 0, rfl, h2, fun i hi => ?_⟩
    have := World.ownsRow.cellAt h i (by have := h.len; omega)
    rw [Nat.zero_add, this]
    simp [U, hi]
theorem Mine.at {w : World} {base n cap g : Nat} {zs : List Int} (h : Mine w base (some ⟨g, 0, none⟩) n cap zs) (q : Nat) (hq : q < zs.length) : w.cell? ⟨g, q, none⟩ = some (.int .u64 (zs.getD q 0)) := by
  rcases h.cells with h' | ⟨b', off', h1, _, h2⟩
  · subst h'; simp at hq
  · simp at h1; obtain ⟨rfl, rfl⟩ := h1; simpa using h2 q hq
theorem Mine.below {B : Nat} {w w' : World} {base n cap : Nat} {a : Option Addr} {zs : List Int} (h : Mine w base a n cap zs) (hb : Below B w w') (hB : ∀ g, a = some ⟨g, 0, none⟩ → g < B) : Mine w' base a n cap zs := by
  refine ⟨h.1, ?_⟩
  rcases h.2 with h' | ⟨g, cap', cur, h', hb', hg, r⟩
  · exact .inl h'
  · refine .inr ⟨g, cap', cur, h', hb', (hb.block g (hB g ?_)).trans hg, r⟩
    simp at h'; exact h'.1
theorem Mine.belowAll {w w' : World} {base n cap : Nat} {a : Option Addr} {zs : List Int} (h : Mine w base a n cap zs) (hb : Below w.heap.size w w') : Mine w' base a n cap zs :=
  h.below hb fun g hg => by rcases h.form with ⟨h1, _⟩ | ⟨g', h1, _, h2⟩ <;> rw [h1] at hg <;> simp at hg; omega
theorem Mine.mono {w : World} {base base' n cap : Nat} {a : Option Addr} {zs : List Int} (h : Mine w base a n cap zs) (hb : base' ≤ base) : Mine w base' a n cap zs := by
  refine ⟨h.1, ?_⟩
  rcases h.2 with h' | ⟨g, cap', cur, h', hb', r⟩
  · exact .inl h'
  · exact .inr ⟨g, cap', cur, h', Nat.le_trans hb hb', r⟩
theorem Mine.frozen {w : World} {base n cap g : Nat} {zs : List Int} (h : Mine w base (some ⟨g, 0, none⟩) n cap zs) (j : Nat) : w.frozen? ⟨g, j, none⟩ = false := World.ownsRow.frozenAt h j
theorem Mine.set {w : World} {base n cap g : Nat} {zs : List Int} (h : Mine w base (some ⟨g, 0, none⟩) n cap zs) (j : Nat) (z : Int) : Mine (w.setCell ⟨g, j, none⟩ (.int .u64 z)) base (some ⟨g, 0, none⟩) n cap (zs.set j z) := by
  have := (World.ownsRow.stored h j (U z)).1
  unfold Mine
  rw [List.map_set]
  exact this
theorem Mine.setOther {w : World} {base n cap : Nat} {a : Option Addr} {zs : List Int} (h : Mine w base a n cap zs) {p : Addr} (hp : ∀ g, a = some ⟨g, 0, none⟩ → g ≠ p.block) (u : Value) : Mine (w.setCell p u) base a n cap zs := by
  refine ⟨h.1, ?_⟩
  rcases h.2 with h' | ⟨g, cap', cur, h', hb', hg, r⟩
  · exact .inl h'
  · refine .inr ⟨g, cap', cur, h', hb', (Below.heap_setCell w p u g (hp g ?_)).trans hg, r⟩
    simp at h'; exact h'.1
theorem Blk.mine {w : World} {g base : Nat} {zs : List Int} (h : Blk w g zs) (hb : base ≤ g) (hm : zs.length ≤ maxLen) : Mine w base (some ⟨g, 0, none⟩) zs.length zs.length zs :=
  ⟨by simp, .inr ⟨g, zs.length, _, rfl, hb, h, Nat.le_refl _, hm, by simp, by rw [Nat.mul_one]; exact List.take_of_length_le (by simp)⟩⟩

theorem same_true (x : Int) (a1 a2 : Option Addr) (n cap1 cap2 : Nat) (zs : List Int) (w : World) (hz : zs.length = n) (hm : n ≤ 5000) (h1 : Cells w a1 zs) (h2 : Cells w a2 zs) :
    Calls Tryd.prog 42 #[.agg #[.int .i64 x, .slice a1 n cap1], .agg #[.int .i64 x, .slice a2 n cap2]] w fun e w' => e = .returned (.bool true) ∧ Below w.heap.size w w' := by
  have hc1 := (h1.alloc (Two (.int .i64 x) (.slice a1 n cap1))).alloc (Two (.int .i64 x) (.slice a2 n cap2))
  have hc2 := (h2.alloc (Two (.int .i64 x) (.slice a1 n cap1))).alloc (Two (.int .i64 x) (.slice a2 n cap2))
  clear h1 h2
  go_enter Tryd.func42, Tryd.ntmps42
  go_wp2
  go_loopw [5] (fun i wr => ∃ k d : Nat, k ≤ n ∧ i = .int .i64 k ∧ wr = ((w.alloc (Two (.int .i64 x) (.slice a1 n cap1))).alloc (Two (.int .i64 x) (.slice a2 n cap2))).drewN d) (fun i _ => n - (intOf i).toNat)
  case atStart => exact ⟨0, 0, Nat.zero_le _, rfl, rfl⟩
  case round =>
    obtain ⟨k, d, hk1, rfl, rfl⟩ := hrel
    by_cases hlt : k < n
    · rcases hc1 with h | ⟨b, off, rfl, hb, hcl⟩
      · subst h; simp at hz; omega
      rcases hc2 with h | ⟨b', off', rfl, hb', hcl'⟩
      · subst h; simp at hz; omega
      have hck := hcl k (by omega)
      have hck' := hcl' k (by omega)
      have hi1 : (0 : Int) ≤ (k : Int) := by omega
      have hi2 : (k : Int) < (n : Int) := by omega
      clear hcl hcl'
      go_wp2
      go_quiet (fail)
      go_wp2
      go_roundw
      case rel => exact ⟨k + 1, _, by omega, by go_num, rfl⟩
      case measure => simp [intOf]; omega
    · go_wp2
      go_ret
      exact ⟨rfl, below_drewN (((Below.refl _ _).alloc (Nat.le_refl _) _).alloc (by simp) _) _⟩
theorem own_shape {w : World} {base n : Nat} {v : Value} {xs : List Value} (h : w.ownsRow base 66 1 v n xs) : ∃ a' cap', v = .slice a' n cap' := by
  rcases h.2 with ⟨h', h0⟩ | ⟨g, cap', cur, h', _⟩
  · exact ⟨none, 0, by rw [h', h0]⟩
  · exact ⟨_, _, h'⟩
theorem news_cells {w : World} {ad : Addr} {zs : List Int} (h : Cells w (some ad) zs) : ∀ j u, (zs.map U)[j]? = some u → w.cell? (ad.add j) = some u := by
  intro j u hj
  obtain ⟨hl, he⟩ := List.getElem?_eq_some_iff.1 hj
  simp at hl he
  rcases h with h | ⟨b, off, h1, _, h2⟩
  · subst h; simp at hl
  · simp at h1
    subst h1
    rw [Addr.add_lit, h2 j hl, ← he]
    simp [U, hl]
theorem At.setSnd {w : World} {b : Nat} {p q : Value} (h : At w b (Two p q)) (q' : Value) : At (w.setCell ⟨b, 1, none⟩ q') b (Two p q') := by
  unfold At Two at *
  have h1 := heap_setCell_same w b 1 #[p, q] 24 q' h
  simpa using h1
theorem below3 {w w1 : World} {o1 o2 o3 : Obj} (hb : Below (((w.alloc o1).alloc o2).alloc o3).heap.size (((w.alloc o1).alloc o2).alloc o3) w1) : Below w.heap.size w w1 :=
  below2 (below1 hb)

theorem refOwn_any (x : Int) (a : Option Addr) (n cap : Nat) (zs : List Int) (w : World) (hz : zs.length = n) (hm : n ≤ 5000) (hnil : a = none → cap = 0) (hc : Cells w a zs) :
    Calls Tryd.prog 51 #[.agg #[.int .i64 x, .slice a n cap]] w fun e w' => ∃ a' cap', e = .returned (.agg #[.int .i64 x, .slice a' n cap']) ∧ Mine w' w.heap.size a' n cap' zs ∧ Below w.heap.size w w' := by
  obtain ⟨i0, hi, hz0, hz1, hz2⟩ := info_parts Tryd.info66
  have hown := World.ownsRow_nil (((w.alloc (Two (.int .i64 x) (.slice a n cap))).alloc (Two (.int .i64 0) (.slice none 0 0))).alloc (Two (.int .i64 x) (.slice none 0 0))) w.heap.size 66 1
  cases a with
  | none =>
    obtain rfl := hnil rfl
    have hzn : zs = [] := by rcases hc with h | ⟨b, off, h, _⟩; exact h; cases h
    subst hzn
    simp at hz
    subst hz
    go_enter Tryd.func51, Tryd.ntmps51
    go_wp2_with (at_builtin; refine wpList_append_own_none rfl _ _ 22 rfl w.heap.size 66 i0 1 Tryd.underlying22 hi _ _ _ rfl hown rfl ?_)
    refine bodyPost_ret (v := .agg #[.int .i64 x, .slice none 0 0]) (by simp [results, Tryd.results51, go_sem]) rfl ⟨none, 0, rfl, World.ownsRow_nil _ _ _ _, ?_⟩
    exact ((Below.refl _ _).alloc (Nat.le_refl _) _).alloc (by simp) _ |>.alloc (by simp; omega) _
  | some ad =>
    have b1 := ((At.new w (Two (.int .i64 x) (.slice (some ad) n cap))).alloc (Two (.int .i64 0) (.slice none 0 0))).alloc (Two (.int .i64 x) (.slice none 0 0))
    have b2 := (At.new (w.alloc (Two (.int .i64 x) (.slice (some ad) n cap))) (Two (.int .i64 0) (.slice none 0 0))).alloc (Two (.int .i64 x) (.slice none 0 0))
    have b3 := At.new ((w.alloc (Two (.int .i64 x) (.slice (some ad) n cap))).alloc (Two (.int .i64 0) (.slice none 0 0))) (Two (.int .i64 x) (.slice none 0 0))
    simp only [World.size_alloc] at b2 b3
    have hc3 := ((hc.alloc (Two (.int .i64 x) (.slice (some ad) n cap))).alloc (Two (.int .i64 0) (.slice none 0 0))).alloc (Two (.int .i64 x) (.slice none 0 0))
    have hown := World.ownsRow_nil (((w.alloc (Two (.int .i64 x) (.slice (some ad) n cap))).alloc (Two (.int .i64 0) (.slice none 0 0))).alloc (Two (.int .i64 x) (.slice none 0 0))) (w.heap.size + 3) 66 1
    go_enter Tryd.func51, Tryd.ntmps51
    go_wp2_with (at_builtin; refine wpList_append_own _ rfl _ _ 22 rfl (w.heap.size + 3) 66 i0 (.int .u64 0) 1 8 Tryd.underlying22 hi hz0 hz1 hz2 rfl (by decide) _ _ _ rfl hown ad n cap (zs.map U) rfl (by simp [hz]) (news_cells hc3) (u_one zs) (by unfold maxLen; omega) (by omega) (by simp) ?_; intro v' w1 hown' hgrow _; simp only [Nat.zero_add, List.nil_append] at hown'; obtain ⟨a', cap', rfl⟩ := own_shape hown'; have hM : Mine w1 (w.heap.size + 3) a' n cap' zs := hown'; have hb1 := below_of_grown hgrow; clear hown' hgrow hown; have b11 := b1.below hb1; have b21 := b2.below hb1; have b31 := b3.below hb1; obtain ⟨c10, c11, f1⟩ := b11.all; obtain ⟨c20, c21, f2⟩ := b21.all; obtain ⟨c30, c31, f3⟩ := b31.all)
    have hlt := b31.lt
    have hne : ∀ g, a' = some ⟨g, 0, none⟩ → w.heap.size + 3 ≤ g := fun g hg => by rcases hM.form with ⟨h, _⟩ | ⟨g', h, h', _⟩ <;> rw [h] at hg <;> simp at hg; omega
    refine bodyPost_ret (v := .agg #[.int .i64 x, .slice a' n cap']) (by simp [results, Tryd.results51, go_sem, c20, c21]) rfl ⟨a', cap', rfl, ?_, ?_⟩
    · exact (((hM.mono (by omega)).setOther (fun g hg => by have := hne g hg; simp; omega) _).setOther (fun g hg => by have := hne g hg; simp; omega) _).setOther (fun g hg => by have := hne g hg; simp; omega) _
    · exact below_setTwo ((below3 hb1).setCell (by simp; omega) _) (by omega) _ _
end Go.Proofs.YtddjmhfcaeckgaaDoor
