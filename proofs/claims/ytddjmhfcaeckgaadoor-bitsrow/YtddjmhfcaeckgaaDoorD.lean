import Derived.Test.YtddjmhfcaeckgaaDoorC
namespace Go.Proofs.YtddjmhfcaeckgaaDoor
open Go.RowKit
set_option linter.unusedVariables false
set_option linter.unusedSimpArgs false

/-- One bit turned by f. -/
def turn1 (f : Int → Int → Int) (zs : List Int) (k : Int) : List Int := zs.set (k / 64).toNat (f (zs.getD (k / 64).toNat 0) (wbit k))
/-- Bits turned by f, one behind the other. -/
def turns (f : Int → Int → Int) (zs : List Int) (ks : List Int) : List Int := ks.foldl (turn1 f) zs
theorem turns_len (f : Int → Int → Int) (ks : List Int) : ∀ zs, (turns f zs ks).length = zs.length := by
  unfold turns
  induction ks with
  | nil => intro zs; rfl
  | cons k ks ih => intro zs; rw [List.foldl_cons, ih]; simp [turn1]
theorem turns_snoc (f : Int → Int → Int) (zs ks : List Int) (k : Nat) (h : k < ks.length) : turns f zs (ks.take (k + 1)) = turn1 f (turns f zs (ks.take k)) (ks.getD k 0) := by
  unfold turns
  rw [List.take_succ_eq_append_getElem h, List.foldl_append]
  simp [h]
/-- A word is written over in a block of words. -/
theorem Blk.set {w : World} {g : Nat} {zs : List Int} (h : Blk w g zs) (i : Nat) (z : Int) : Blk (w.setCell ⟨g, i, none⟩ (.int .u64 z)) g (zs.set i z) := by
  have := heap_setCell_same w g i _ 66 (.int .u64 z) h
  unfold Blk
  rw [this, List.map_set]
  simp [U]
theorem Blk.alloc {w : World} {g : Nat} {zs : List Int} (h : Blk w g zs) (o : Obj) : Blk (w.alloc o) g zs := h.at.alloc o

theorem quo64 {z : Int} (h : 0 ≤ z) (h' : z ≤ 2000) : IntKind.i64.wrap (z.tdiv 64) = z / 64 := by
  rw [Int.tdiv_eq_ediv_of_nonneg h]
  exact IntWalk.i64_in _ ⟨by omega, by omega⟩

/-- The slice of ints of a caller lies below: a store into another block leaves it. -/
theorem ICells.set {w : World} {b off : Nat} {ks : List Int} (h : ICells w (some ⟨b, off, none⟩) ks) {p : Addr} (hp : b ≠ p.block) (u : Value) : ICells (w.setCell p u) (some ⟨b, off, none⟩) ks := by
  rcases h with h | ⟨b', off', h1, h2, h3⟩
  · exact .inl h
  · simp at h1
    obtain ⟨rfl, rfl⟩ := h1
    exact .inr ⟨b, off, rfl, by simpa using h2, fun i hi => (World.cell?_of_block (w := w) (a := ⟨b, off + i, none⟩) (Below.heap_setCell w p u b hp)).trans (h3 i hi)⟩
theorem ICells.drew {w : World} {a : Option Addr} {ks : List Int} (h : ICells w a ks) : ICells w.drew a ks := h
theorem turn_step {f : Int → Int → Int} {L ys : List Int} {z : Int} {q g : Nat} {w : World} (HT : Hid (L = turn1 f ys z)) (hq : z / 64 = (q : Int)) (hqn : q < ys.length)
    (h : Blk (w.setCell ⟨g, q, none⟩ (.int .u64 (f ys[q] (wbit z)))) g (ys.set q (f ys[q] (wbit z)))) : Blk (w.setCell ⟨g, q, none⟩ (.int .u64 (f ys[q] (wbit z)))).drew g L := by
  rw [HT.out]
  have e : turn1 f ys z = ys.set q (f ys[q] (wbit z)) := by
    unfold turn1
    rw [hq]
    simp [hqn]
  rw [e]
  exact h

theorem set_yes (x : Int) (a : Option Addr) (n cap : Nat) (zs : List Int) (al : Option Addr) (m capl : Nat) (ks : List Int) (w : World) (hz : zs.length = n) (hc : Cells w a zs)
    (hk : ks.length = m) (hkm : m ≤ 5000) (hl : ICells w al ks) (hy : allIn x ks = true) (hmy : mayB x zs = true) :
    Calls Tryd.prog 23 #[.agg #[.int .i64 x, .slice a n cap], .slice al m capl] w fun e w' => ∃ g, e = .returned (.tuple #[.agg #[.int .i64 x, .slice (some ⟨g, 0, none⟩) n n], .int .i64 0]) ∧ w.heap.size ≤ g ∧ Blk w' g (turns (bits .or .u64) zs ks) ∧ Below w.heap.size w w' := by
  obtain ⟨hw1, hw2, hw3⟩ := mayB_width hmy
  have b1 := (At.new w (Two (.int .i64 x) (.slice a n cap))).alloc (Two (.int .i64 0) (.slice none 0 0))
  have b2 := At.new (w.alloc (Two (.int .i64 x) (.slice a n cap))) (Two (.int .i64 0) (.slice none 0 0))
  simp only [World.size_alloc] at b2
  have hc1 := (hc.alloc (Two (.int .i64 x) (.slice a n cap))).alloc (Two (.int .i64 0) (.slice none 0 0))
  have hl1 := (hl.alloc (Two (.int .i64 x) (.slice a n cap))).alloc (Two (.int .i64 0) (.slice none 0 0))
  go_enter Tryd.func23, Tryd.ntmps23
  go_wp2_with (go_at_call 50; refine (ownWith_yes _ _ _ _ zs _ _ _ ks _ hz hc1 hk hkm hl1 hy hmy).mono ?_; rintro e w1 ⟨g, rfl, hgw, hblk, hb1⟩; have b21 := b2.below hb1; have hl2 := hl1.below hb1; have hgl := hblk.lt)
  simp only [World.size_alloc] at hgw
  have hlt1 := b21.lt
  have b31 := At.new w1 (Two (.int .i64 x) (.slice (some ⟨g, 0, none⟩) n n))
  have hbA : Below w.heap.size w (w1.alloc (Two (.int .i64 x) (.slice (some ⟨g, 0, none⟩) n n))) := (below2 hb1).alloc (by omega) _
  have hlA : ICells (w1.alloc (Two (.int .i64 x) (.slice (some ⟨g, 0, none⟩) n n))) al ks := hl2.alloc _
  have hgA : Blk (w1.alloc (Two (.int .i64 x) (.slice (some ⟨g, 0, none⟩) n n))) g zs := hblk.alloc _
  have b2A : At (w1.alloc (Two (.int .i64 x) (.slice (some ⟨g, 0, none⟩) n n))) (w.heap.size + 1) (Two (.int .i64 0) (.slice none 0 0)) := b21.alloc _
  have hlA' : ∀ b off, al = some ⟨b, off, none⟩ → 0 < m → b < w.heap.size := by
    intro b off h1 h2
    rcases hl with h | ⟨b', off', h', hb', _⟩
    · subst h; simp at hk; omega
    · rw [h1] at h'; simp at h'; omega
  clear b1 b2 hc1 hl1 hl2 hblk b21 hb1 hc hmy
  go_loopw [22] (fun i wr => ∃ k : Nat, k ≤ m ∧ i = .int .i64 k ∧ Below w.heap.size w wr ∧ At wr (w.heap.size + 1) (Two (.int .i64 0) (.slice none 0 0)) ∧ At wr w1.heap.size (Two (.int .i64 x) (.slice (some ⟨g, 0, none⟩) n n)) ∧ ICells wr al ks ∧ Blk wr g (turns (bits .or .u64) zs (ks.take k))) (fun i _ => m - (intOf i).toNat)
  case atStart => exact ⟨0, Nat.zero_le _, rfl, hbA, b2A, b31, hlA, hgA⟩
  case round =>
    obtain ⟨k, hkk, rfl, hbr, b2r, b3r, hlr, hgr⟩ := hrel
    clear b31 hbA hlA hgA b2A hl
    obtain ⟨c30, c31, f3⟩ := b3r.all
    obtain ⟨c20, c21, f2⟩ := b2r.all
    by_cases hlt : k < m
    · rcases hlr with hlr | ⟨b, off, rfl, hb, hcl⟩
      · subst hlr; simp at hk; omega
      · have hck := hcl k (by omega)
        have hbb := hlA' b off rfl (by omega)
        have HL : ICells wr (some ⟨b, off, none⟩) ks := .inr ⟨b, off, rfl, hb, hcl⟩
        clear hcl hlA'
        obtain ⟨z, hzz⟩ : ∃ z, z = ks.getD k 0 := ⟨_, rfl⟩
        obtain ⟨ys, hys⟩ : ∃ ys, ys = turns (bits .or .u64) zs (ks.take k) := ⟨_, rfl⟩
        have hin := allIn_at (x := x) (ks := ks) (k := k) (by omega) hy
        have hts := turns_snoc (bits .or .u64) zs ks k (by omega)
        have hyl : ys.length = n := by rw [hys, turns_len, hz]
        rw [← hys] at hgr hts
        rw [← hzz] at hck hin hts
        have HT : Hid (turns (bits .or .u64) zs (ks.take (k + 1)) = turn1 (bits .or .u64) ys z) := hts
        obtain ⟨hin1, hin2⟩ := hin
        obtain ⟨q, hq⟩ : ∃ q : Nat, z / 64 = (q : Int) := ⟨(z / 64).toNat, by omega⟩
        have hqn : q < ys.length := by omega
        have hqn' : q < n := by omega
        have hgc := hgr.cell _ hqn
        have hgf := hgr.frozen
        have hx1 : (0 : Int) ≤ (q : Int) := by omega
        have hne1 : w1.heap.size ≠ g := by omega
        have hne2 : g ≠ w1.heap.size := by omega
        have hx2 : (q : Int) < (n : Int) := by omega
        have hx3 : IntKind.i64.wrap (q : Int) = (q : Int) := IntWalk.i64_in _ ⟨by omega, by omega⟩
        have hx4 : z.tdiv 64 = (q : Int) := (Int.tdiv_eq_ediv_of_nonneg hin1).trans hq
        clear hzz hy hts hys
        go_wp2
        go_region_with (first | (go_at_call 44; refine (wordBit_any _ _ (by omega) (by omega)).mono ?_; rintro e w' ⟨rfl, rfl⟩))
        all_goals
          go_wp2
          go_roundw
          case rel => exact ⟨k + 1, by omega, by go_num, (hbr.setCell (by simp; omega) _).drew, (b2r.set (by simp; omega) _).drew, (b3r.set (by simp; omega) _).drew, (HL.set (by simp; omega) _).drew, turn_step HT hq hqn (hgr.set q _)⟩
          case measure => simp [intOf]; omega
    · have hkm' : k = m := by omega
      subst hkm'
      rw [List.take_of_length_le (by omega)] at hgr
      clear hy
      go_wp2
      refine bodyPost_ret (v := .tuple #[.agg #[.int .i64 x, .slice (some ⟨g, 0, none⟩) n n], .int .i64 0]) (by simp [results, Tryd.results23, go_sem, c20, c21]) rfl ⟨g, rfl, by omega, ?_, ?_⟩
      · exact (hgr.at.set (by simp; omega) _).set (by simp; omega) _
      · exact below_setTwo hbr (by omega) _ _
end Go.Proofs.YtddjmhfcaeckgaaDoor
