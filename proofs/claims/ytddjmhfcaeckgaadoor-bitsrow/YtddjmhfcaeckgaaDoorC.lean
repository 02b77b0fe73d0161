import Derived.Test.YtddjmhfcaeckgaaDoorB
import Derived.Deep.RegionHeld3
import Derived.BigRegion
namespace Go.Proofs.YtddjmhfcaeckgaaDoor
open Go.RowKit
set_option linter.unusedVariables false
set_option linter.unusedSimpArgs false

/-- The numbers of a slice of ints lie in memory. -/
def ICells (w : World) (a : Option Addr) (ks : List Int) : Prop :=
  ks = [] ∨ ∃ b off, a = some ⟨b, off, none⟩ ∧ b < w.heap.size ∧ ∀ i, i < ks.length → w.cell? ⟨b, off + i, none⟩ = some (.int .i64 (ks.getD i 0))
theorem ICells.below {w w' : World} {a : Option Addr} {zs : List Int} (h : ICells w a zs) (hb : Below w.heap.size w w') : ICells w' a zs := by
  rcases h with h | ⟨b, off, h1, h2, h3⟩
  · exact .inl h
  · exact .inr ⟨b, off, h1, Nat.lt_of_lt_of_le h2 hb.size, fun i hi => (hb.cell (p := ⟨b, off + i, none⟩) h2).trans (h3 i hi)⟩
theorem ICells.alloc {w : World} {a : Option Addr} {zs : List Int} (h : ICells w a zs) (o : Obj) : ICells (w.alloc o) a zs := h.below ((Below.refl _ _).alloc (Nat.le_refl _) _)

def isB (x k : Int) : Bool := decide (0 ≤ k) && decide (k < x)
theorem isBit_any (x k : Int) (a : Option Addr) (n cap : Nat) (w : World) :
    Calls Tryd.prog 43 #[.agg #[.int .i64 x, .slice a n cap], .int .i64 k] w fun e w' => e = .returned (.bool (isB x k)) ∧ Below w.heap.size w w' := by
  by_cases h : 0 ≤ k
  · go_enter Tryd.func43, Tryd.ntmps43
    go_wp2
    go_ret
    exact ⟨by simp [h, isB], (Below.refl _ _).alloc (Nat.le_refl _) _⟩
  · go_enter Tryd.func43, Tryd.ntmps43
    go_wp2
    go_ret
    exact ⟨by simp [isB]; omega, (Below.refl _ _).alloc (Nat.le_refl _) _⟩
theorem isBit_is (x k : Int) (a : Option Addr) (n cap : Nat) (w : World) {v : Bool} (h : isB x k = v) :
    Calls Tryd.prog 43 #[.agg #[.int .i64 x, .slice a n cap], .int .i64 k] w fun e w' => e = .returned (.bool v) ∧ Below w.heap.size w w' := by
  subst h; exact isBit_any x k a n cap w

/-- Are all of these bits of a row of that width? -/
def allIn (x : Int) (ks : List Int) : Bool := ks.all (isB x)

theorem allIn_snoc {x : Int} {ks : List Int} {k : Nat} (h : k < ks.length) : allIn x (ks.take (k + 1)) = (allIn x (ks.take k) && isB x (ks.getD k 0)) := by
  unfold allIn
  rw [List.take_succ_eq_append_getElem h, List.all_append]
  simp [h]
theorem allIn_at {x : Int} {ks : List Int} {k : Nat} (h : k < ks.length) (ha : allIn x ks = true) : 0 ≤ ks.getD k 0 ∧ ks.getD k 0 < x := by
  unfold allIn at ha
  have := List.all_eq_true.1 ha ks[k] (List.getElem_mem h)
  simp [isB] at this
  simpa [h] using this

theorem ownWith_no (x : Int) (a : Option Addr) (n cap : Nat) (zs : List Int) (al : Option Addr) (m capl : Nat) (ks : List Int) (w : World) (hz : zs.length = n) (hm : n ≤ maxLen) (hc : Cells w a zs)
    (hk : ks.length = m) (hkm : m ≤ 5000) (hl : ICells w al ks) (hy : (allIn x ks && mayB x zs) = false) :
    Calls Tryd.prog 50 #[.agg #[.int .i64 x, .slice a n cap], .slice al m capl] w fun e w' => e = .returned (.tuple #[.agg #[.int .i64 0, .slice none 0 0], .int .i64 2]) ∧ Below w.heap.size w w' := by
  have b1 := (At.new w (Two (.int .i64 x) (.slice a n cap))).alloc (Two (.int .i64 0) (.slice none 0 0))
  have b2 := At.new (w.alloc (Two (.int .i64 x) (.slice a n cap))) (Two (.int .i64 0) (.slice none 0 0))
  simp only [World.size_alloc] at b2
  have hc1 := (hc.alloc (Two (.int .i64 x) (.slice a n cap))).alloc (Two (.int .i64 0) (.slice none 0 0))
  have hl1 := (hl.alloc (Two (.int .i64 x) (.slice a n cap))).alloc (Two (.int .i64 0) (.slice none 0 0))
  have hb0 : Below w.heap.size w ((w.alloc (Two (.int .i64 x) (.slice a n cap))).alloc (Two (.int .i64 0) (.slice none 0 0))) := ((Below.refl _ _).alloc (Nat.le_refl _) _).alloc (by simp) _
  clear hc hl
  go_enter Tryd.func50, Tryd.ntmps50
  go_wp2
  go_loopw [10] (fun i wr => ∃ k : Nat, k ≤ m ∧ i = .int .i64 k ∧ Below w.heap.size w wr ∧ At wr w.heap.size (Two (.int .i64 x) (.slice a n cap)) ∧ At wr (w.heap.size + 1) (Two (.int .i64 0) (.slice none 0 0)) ∧ Cells wr a zs ∧ ICells wr al ks ∧ allIn x (ks.take k) = true) (fun i _ => m - (intOf i).toNat)
  case atStart => exact ⟨0, Nat.zero_le _, rfl, hb0, b1, b2, hc1, hl1, rfl⟩
  case round =>
    obtain ⟨k, hkk, rfl, hbr, b1r, b2r, hcr, hlr, har⟩ := hrel
    clear b1 b2 hc1 hl1 hb0
    obtain ⟨c10, c11, f1⟩ := b1r.all
    obtain ⟨c20, c21, f2⟩ := b2r.all
    by_cases hlt : k < m
    · rcases hlr with hlr | ⟨b, off, rfl, hb, hcl⟩
      · subst hlr; simp at hk; omega
      · have hck := hcl k (by omega)
        have HL : ICells wr (some ⟨b, off, none⟩) ks := .inr ⟨b, off, rfl, hb, hcl⟩
        clear hcl
        obtain ⟨z, hzz⟩ : ∃ z, z = ks.getD k 0 := ⟨_, rfl⟩
        have hsn := allIn_snoc (x := x) (ks := ks) (k := k) (by omega)
        rw [← hzz] at hck hsn
        rw [har] at hsn
        have HS : Hid (allIn x (ks.take (k + 1)) = (true && isB x z)) := hsn
        clear hzz hsn har hy
        cases hbit : isB x z
        · go_wp2_with (go_at_call 43; refine (isBit_is _ _ _ _ _ _ hbit).mono ?_; rintro e w1 ⟨rfl, hb1⟩; have b21 := b2r.below hb1; obtain ⟨d20, d21, g2⟩ := b21.all)
          refine bodyPost_ret (v := .tuple #[.agg #[.int .i64 0, .slice none 0 0], .int .i64 2]) (by simp [results, Tryd.results50, go_sem, d20, d21]) rfl ⟨rfl, ?_⟩
          exact below_setTwo (hbr.trans (hb1.mono hbr.size)) (by omega) _ _
        · go_wp2_with (go_at_call 43; refine (isBit_is _ _ _ _ _ _ hbit).mono ?_; rintro e w1 ⟨rfl, hb1⟩)
          go_roundw
          case rel => exact ⟨k + 1, by omega, by go_num, hbr.trans (hb1.mono hbr.size), b1r.below hb1, b2r.below hb1, hcr.below hb1, HL.below hb1, by rw [HS.out, hbit]; rfl⟩
          case measure => simp [intOf]; omega
    · have hkm : k = m := by omega
      subst hkm
      have hal : allIn x ks = true := by rw [← har, List.take_of_length_le (by omega)]
      have hmy : mayB x zs = false := by rw [hal] at hy; simpa using hy
      clear hy hal har
      go_wp2_with (go_at_call 16; refine (own_no _ _ _ _ zs _ hz hm hcr hmy).mono ?_; rintro e w1 ⟨rfl, hb1⟩; have b21 := b2r.below hb1; obtain ⟨d20, d21, g2⟩ := b21.all)
      refine bodyPost_ret (v := .tuple #[.agg #[.int .i64 0, .slice none 0 0], .int .i64 2]) (by simp [results, Tryd.results50, go_sem, d20, d21]) rfl ⟨rfl, ?_⟩
      exact below_setTwo (hbr.trans (hb1.mono hbr.size)) (by omega) _ _

theorem ownWith_yes (x : Int) (a : Option Addr) (n cap : Nat) (zs : List Int) (al : Option Addr) (m capl : Nat) (ks : List Int) (w : World) (hz : zs.length = n) (hc : Cells w a zs)
    (hk : ks.length = m) (hkm : m ≤ 5000) (hl : ICells w al ks) (hy : allIn x ks = true) (hmy : mayB x zs = true) :
    Calls Tryd.prog 50 #[.agg #[.int .i64 x, .slice a n cap], .slice al m capl] w fun e w' => ∃ g, e = .returned (.tuple #[.agg #[.int .i64 x, .slice (some ⟨g, 0, none⟩) n n], .int .i64 0]) ∧ w.heap.size ≤ g ∧ Blk w' g zs ∧ Below w.heap.size w w' := by
  have b1 := (At.new w (Two (.int .i64 x) (.slice a n cap))).alloc (Two (.int .i64 0) (.slice none 0 0))
  have b2 := At.new (w.alloc (Two (.int .i64 x) (.slice a n cap))) (Two (.int .i64 0) (.slice none 0 0))
  simp only [World.size_alloc] at b2
  have hc1 := (hc.alloc (Two (.int .i64 x) (.slice a n cap))).alloc (Two (.int .i64 0) (.slice none 0 0))
  have hl1 := (hl.alloc (Two (.int .i64 x) (.slice a n cap))).alloc (Two (.int .i64 0) (.slice none 0 0))
  have hb0 : Below w.heap.size w ((w.alloc (Two (.int .i64 x) (.slice a n cap))).alloc (Two (.int .i64 0) (.slice none 0 0))) := ((Below.refl _ _).alloc (Nat.le_refl _) _).alloc (by simp) _
  clear hc hl
  go_enter Tryd.func50, Tryd.ntmps50
  go_wp2
  go_loopw [10] (fun i wr => ∃ k : Nat, k ≤ m ∧ i = .int .i64 k ∧ Below w.heap.size w wr ∧ At wr w.heap.size (Two (.int .i64 x) (.slice a n cap)) ∧ At wr (w.heap.size + 1) (Two (.int .i64 0) (.slice none 0 0)) ∧ Cells wr a zs ∧ ICells wr al ks) (fun i _ => m - (intOf i).toNat)
  case atStart => exact ⟨0, Nat.zero_le _, rfl, hb0, b1, b2, hc1, hl1⟩
  case round =>
    obtain ⟨k, hkk, rfl, hbr, b1r, b2r, hcr, hlr⟩ := hrel
    clear b1 b2 hc1 hl1 hb0
    obtain ⟨c10, c11, f1⟩ := b1r.all
    by_cases hlt : k < m
    · rcases hlr with hlr | ⟨b, off, rfl, hb, hcl⟩
      · subst hlr; simp at hk; omega
      · have hck := hcl k (by omega)
        have HL : ICells wr (some ⟨b, off, none⟩) ks := .inr ⟨b, off, rfl, hb, hcl⟩
        clear hcl
        obtain ⟨z, hzz⟩ : ∃ z, z = ks.getD k 0 := ⟨_, rfl⟩
        have hin := allIn_at (x := x) (ks := ks) (k := k) (by omega) hy
        rw [← hzz] at hck hin
        have hbit : isB x z = true := by simp [isB, hin.1, hin.2]
        clear hzz hy hin
        go_wp2_with (go_at_call 43; refine (isBit_is _ _ _ _ _ _ hbit).mono ?_; rintro e w1 ⟨rfl, hb1⟩)
        go_roundw
        case rel => exact ⟨k + 1, by omega, by go_num, hbr.trans (hb1.mono hbr.size), b1r.below hb1, b2r.below hb1, hcr.below hb1, HL.below hb1⟩
        case measure => simp [intOf]; omega
    · clear hy
      go_wp2_with (go_at_call 16; refine (own_yes _ _ _ _ zs _ hz hcr hmy).mono ?_; rintro e w1 ⟨g, rfl, hgw, hblk, hb1⟩; have b21 := b2r.below hb1; obtain ⟨d20, d21, g2⟩ := b21.all)
      have hlt2 := b2r.lt
      refine bodyPost_ret (v := .tuple #[.agg #[.int .i64 x, .slice (some ⟨g, 0, none⟩) n n], .int .i64 0]) (by simp [results, Tryd.results50, go_sem, d20, d21]) rfl ⟨g, rfl, by omega, ?_, ?_⟩
      · exact (hblk.at.set (by simp; omega) _).set (by simp; omega) _
      · exact below_setTwo (hbr.trans (hb1.mono hbr.size)) (by omega) _ _
end Go.Proofs.YtddjmhfcaeckgaaDoor
