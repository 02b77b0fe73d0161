import Derived.Test.YtddjmhfcaeckgaaDoorJ
namespace Go.Proofs.YtddjmhfcaeckgaaDoor
open Go.RowKit
set_option linter.unusedVariables false
set_option linter.unusedSimpArgs false

theorem Mine.take {w : World} {base n cap g : Nat} {zs : List Int} {z : Int} (h : Mine w base (some ⟨g, 0, none⟩) (n + 1) cap (zs ++ [z])) : Mine w base (some ⟨g, 0, none⟩) n cap zs := by
  have hl := h.len
  simp at hl
  unfold Mine at h
  rw [u_snoc] at h
  exact ownsRow_pop (by simp [hl]) h
theorem Mine.last {w : World} {base n cap g : Nat} {zs : List Int} {z : Int} (h : Mine w base (some ⟨g, 0, none⟩) (n + 1) cap (zs ++ [z])) : w.cell? ⟨g, n, none⟩ = some (.int .u64 z) := by
  have hl := h.len
  simp at hl
  rcases h.cells with h' | ⟨b', off', h1, _, h2⟩
  · simp at h'
  · simp at h1
    obtain ⟨rfl, rfl⟩ := h1
    have := h2 n (by simp [hl])
    subst hl
    simpa using this

theorem Cells.drew {w : World} {a : Option Addr} {zs : List Int} (h : Cells w a zs) : Cells w.drew a zs := h

theorem kept_true (x : Int) (g n cap base : Nat) (a2 : Option Addr) (cap2 : Nat) (zs : List Int) (w : World) (hm : n ≤ 5000) (h1 : Mine w base (some ⟨g, 0, none⟩) (n + 1) cap (zs ++ [77])) (h2 : Cells w a2 zs) :
    Calls Tryd.prog 22 #[.agg #[.int .i64 x, .slice (some ⟨g, 0, none⟩) n cap], .agg #[.int .i64 x, .slice a2 n cap2]] w fun e w' => e = .returned (.bool true) ∧ Below w.heap.size w w' := by
  have hz : zs.length = n := h1.take.len
  have hc1 := (h1.take.cells.alloc (Two (.int .i64 x) (.slice (some ⟨g, 0, none⟩) n cap))).alloc (Two (.int .i64 x) (.slice a2 n cap2))
  have hc2 := (h2.alloc (Two (.int .i64 x) (.slice (some ⟨g, 0, none⟩) n cap))).alloc (Two (.int .i64 x) (.slice a2 n cap2))
  have hcp := h1.cap
  obtain ⟨hgl1, hgl2⟩ : base ≤ g ∧ g < w.heap.size := by
    obtain ⟨g', e, r⟩ := mine_some h1 (by omega)
    simp at e; subst e; exact r
  have hla : ((w.alloc (Two (.int .i64 x) (.slice (some ⟨g, 0, none⟩) n cap))).alloc (Two (.int .i64 x) (.slice a2 n cap2))).cell? ⟨g, n, none⟩ = some (.int .u64 77) := by
    rw [← h1.last]
    exact (((Below.refl w.heap.size w).alloc (Nat.le_refl _) _).alloc (by simp) _).cell (p := ⟨g, n, none⟩) hgl2
  have b1 := (At.new w (Two (.int .i64 x) (.slice (some ⟨g, 0, none⟩) n cap))).alloc (Two (.int .i64 x) (.slice a2 n cap2))
  have b2 := At.new (w.alloc (Two (.int .i64 x) (.slice (some ⟨g, 0, none⟩) n cap))) (Two (.int .i64 x) (.slice a2 n cap2))
  simp only [World.size_alloc] at b2
  have hi1 : (0 : Int) ≤ (n : Int) := by omega
  have hi2 : (n : Int) + 1 ≤ (cap : Int) := by omega
  have hi3 : IntKind.i64.wrap ((n : Int) + 1) = (n : Int) + 1 := IntWalk.i64_in _ ⟨by omega, by omega⟩
  have hi4 : (0 : Int) ≤ (n : Int) + 1 := by omega
  have hi5 : (n : Int) < (n : Int) + 1 := by omega
  go_enter Tryd.func22, Tryd.ntmps22
  go_wp2
  go_region_held3 (fun w' => w'.cell? ⟨w.heap.size, 0, none⟩ = some (.int .i64 x) ∧ w'.cell? ⟨w.heap.size, 1, none⟩ = some (.slice (some ⟨g, 0, none⟩) n cap) ∧ w'.cell? ⟨w.heap.size + 1, 0, none⟩ = some (.int .i64 x) ∧ w'.cell? ⟨w.heap.size + 1, 1, none⟩ = some (.slice a2 n cap2) ∧ w'.cell? ⟨g, n, none⟩ = some (.int .u64 77)) (first | go_keep | (exact ⟨(b1.drew.below hb1).all.1, (b1.drew.below hb1).all.2.1, (b2.drew.below hb1).all.1, (b2.drew.below hb1).all.2.1, (hb1.cell (p := ⟨g, n, none⟩) (by simp; omega)).trans hla⟩))
    (first | (go_at_call 42; refine (same_true _ _ _ _ _ _ zs _ hz hm hc1.drew hc2.drew).mono ?_; rintro e w1 ⟨rfl, hb1⟩))
  go_wp2
  go_ret
  exact ⟨rfl, (((Below.refl w.heap.size w).alloc (Nat.le_refl _) _).alloc (by simp) _).drew.trans (hb1.mono (by simp [World.drew]; omega))⟩

theorem Cells.set {w : World} {a : Option Addr} {zs : List Int} (h : Cells w a zs) {p : Addr} (hp : ∀ b off, a = some ⟨b, off, none⟩ → b ≠ p.block) (u : Value) : Cells (w.setCell p u) a zs := by
  rcases h with h | ⟨b', off', h1, h2, h3⟩
  · exact .inl h
  · exact .inr ⟨b', off', h1, by simpa using h2, fun i hi => (World.cell?_of_block (w := w) (a := ⟨b', off' + i, none⟩) (Below.heap_setCell w p u b' (hp _ _ h1))).trans (h3 i hi)⟩
/-- The block of a slice's head. -/
def blk (a : Option Addr) : Option Nat := a.map (·.block)
theorem grown_below {w w1 w2 : World} {r : Option Nat} (h : w.grownBy w1 r) (hb : Below w1.heap.size w1 w2) : w.grownBy w2 r :=
  ⟨hb.os.trans h.os, hb.tape.trans h.tape, hb.output.trans h.output, Nat.le_trans h.size hb.size, fun k hk hr => (hb.block k (Nat.lt_of_lt_of_le hk h.size)).trans (h.block k hk hr)⟩
theorem grown_set {w w1 : World} {g : Nat} (h : w.grownBy w1 (some g)) (q : Nat) (u : Value) : w.grownBy (w1.setCell ⟨g, q, none⟩ u) (some g) :=
  ⟨h.os, h.tape, h.output, by simpa using h.size, fun k hk hr => (Below.heap_setCell w1 ⟨g, q, none⟩ u k (by simpa using hr)).trans (h.block k hk hr)⟩
theorem grown_of_below {w w1 : World} {r : Option Nat} (hb : Below w.heap.size w w1) : w.grownBy w1 r := ⟨hb.os, hb.tape, hb.output, hb.size, fun k hk _ => hb.block k hk⟩

theorem grown_drew {w w1 : World} {r : Option Nat} (h : w.grownBy w1 r) : w.grownBy w1.drew r := ⟨h.os, h.tape, h.output, h.size, h.block⟩
theorem mine_drew {w : World} {base n cap : Nat} {a : Option Addr} {zs : List Int} (h : Mine w base a n cap zs) : Mine w.drew base a n cap zs := h

theorem held_true (x : Int) (a1 a2 a3 : Option Addr) (n cap1 cap2 cap3 base : Nat) (zs : List Int) (w : World) (hm : n ≤ 5000) (h1 : Mine w base a1 n cap1 zs) (h2 : Cells w a2 zs) (h3 : Cells w a3 zs)
    (hs2 : ∀ g, a1 = some ⟨g, 0, none⟩ → ∀ b off, a2 = some ⟨b, off, none⟩ → b ≠ g) (hs3 : ∀ g, a1 = some ⟨g, 0, none⟩ → ∀ b off, a3 = some ⟨b, off, none⟩ → b ≠ g) :
    Calls Tryd.prog 14 #[.agg #[.int .i64 x, .slice a1 n cap1], .agg #[.int .i64 x, .slice a2 n cap2], .agg #[.int .i64 x, .slice a3 n cap3]] w fun e w' => e = .returned (.bool true) ∧ w.grownBy w' (blk a1) := by
  have hz : zs.length = n := h1.len
  have hform := h1.form
  have hB0 : Below w.heap.size w (((w.alloc (Two (.int .i64 x) (.slice a1 n cap1))).alloc (Two (.int .i64 x) (.slice a2 n cap2))).alloc (Two (.int .i64 x) (.slice a3 n cap3))) := (((Below.refl w.heap.size w).alloc (Nat.le_refl _) _).alloc (by simp) _).alloc (by simp; omega) _
  have m1 := h1.belowAll hB0
  have hc2 := h2.below hB0
  have hc3 := h3.below hB0
  have b1 := ((At.new w (Two (.int .i64 x) (.slice a1 n cap1))).alloc (Two (.int .i64 x) (.slice a2 n cap2))).alloc (Two (.int .i64 x) (.slice a3 n cap3))
  have b2 := (At.new (w.alloc (Two (.int .i64 x) (.slice a1 n cap1))) (Two (.int .i64 x) (.slice a2 n cap2))).alloc (Two (.int .i64 x) (.slice a3 n cap3))
  have b3 := At.new ((w.alloc (Two (.int .i64 x) (.slice a1 n cap1))).alloc (Two (.int .i64 x) (.slice a2 n cap2))) (Two (.int .i64 x) (.slice a3 n cap3))
  simp only [World.size_alloc] at b2 b3
  clear h1 h2 h3
  go_enter Tryd.func14, Tryd.ntmps14
  go_wp2_with (go_at_call 42; refine (same_true _ _ _ _ _ _ zs _ hz hm m1.cells hc3).mono ?_; rintro e w1 ⟨rfl, hb1⟩)
  have B1 := b1.below hb1
  have B2 := b2.below hb1
  have B3 := b3.below hb1
  have M1 := m1.belowAll hb1
  have C2 := hc2.below hb1
  have C3 := hc3.below hb1
  have G1 : w.grownBy w1 (blk a1) := grown_of_below (hB0.trans (hb1.mono hB0.size))
  clear b1 b2 b3 m1 hc2 hc3 hb1 hB0
  go_loopw [7] (fun i wr => ∃ (k : Nat) (ys : List Int), k ≤ n ∧ i = .int .i64 k ∧ w.grownBy wr (blk a1) ∧ At wr w.heap.size (Two (.int .i64 x) (.slice a1 n cap1)) ∧ At wr (w.heap.size + 1) (Two (.int .i64 x) (.slice a2 n cap2)) ∧ At wr (w.heap.size + 1 + 1) (Two (.int .i64 x) (.slice a3 n cap3)) ∧ Mine wr base a1 n cap1 ys ∧ Cells wr a2 zs ∧ Cells wr a3 zs) (fun i _ => n - (intOf i).toNat)
  case atStart => exact ⟨0, zs, Nat.zero_le _, rfl, G1, B1, B2, B3, M1, C2, C3⟩
  case round =>
    obtain ⟨k, ys, hk, rfl, G, b1r, b2r, b3r, mr, c2r, c3r⟩ := hrel
    clear G1 B1 B2 B3 M1 C2 C3
    obtain ⟨c10, c11, f1⟩ := b1r.all
    obtain ⟨c20, c21, f2⟩ := b2r.all
    obtain ⟨c30, c31, f3⟩ := b3r.all
    by_cases hlt : k < n
    · rcases hform with ⟨_, h, _⟩ | ⟨g, rfl, hg1, hg2⟩
      · omega
      have hyl := mr.len
      have hck := mr.at k (by omega)
      have hcf := mr.frozen
      have hi1 : (0 : Int) ≤ (k : Int) := by omega
      have hi2 : (k : Int) < (n : Int) := by omega
      have hne1 : w.heap.size ≠ g := by omega
      have hne2 : w.heap.size + 1 ≠ g := by omega
      have hne3 : w.heap.size + 1 + 1 ≠ g := by omega
      have hx2 := hs2 g rfl
      have hx3 := hs3 g rfl
      clear hs2 hs3
      obtain ⟨z, hzz⟩ : ∃ z, z = ys.getD k 0 := ⟨_, rfl⟩
      rw [← hzz] at hck
      clear hzz
      have HX2 : Hid (∀ b off, a2 = some ⟨b, off, none⟩ → b ≠ g) := hx2
      have HX3 : Hid (∀ b off, a3 = some ⟨b, off, none⟩ → b ≠ g) := hx3
      clear hx2 hx3
      go_wp2
      go_region
      go_wp2
      go_roundw
      case rel => exact ⟨k + 1, _, by omega, by go_num, grown_drew (grown_set G k _), (b1r.set hne1 _).drew, (b2r.set hne2 _).drew, (b3r.set hne3 _).drew, mine_drew (mr.set k _), (c2r.set HX2.out _).drew, (c3r.set HX3.out _).drew⟩
      case measure => simp [intOf]; omega
    · go_wp2_with (go_at_call 42; refine (same_true _ _ _ _ _ _ zs _ hz hm c2r c3r).mono ?_; rintro e w2 ⟨rfl, hb2⟩)
      go_ret
      exact ⟨rfl, grown_below G hb2⟩
end Go.Proofs.YtddjmhfcaeckgaaDoor
