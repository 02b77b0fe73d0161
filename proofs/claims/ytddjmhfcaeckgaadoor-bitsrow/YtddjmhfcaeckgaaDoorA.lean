import Derived.Test.YtddjmhfcaeckgaaDoorRows
import Derived.WalkKit
import Derived.WalkSpells
import Derived.WalkSmall
import Derived.Deep.QuietTactic
import Derived.BigQuiet
import Derived.Laws.CopyOwn
namespace Go.Proofs.YtddjmhfcaeckgaaDoor
open Go.RowKit
set_option linter.unusedVariables false
set_option linter.unusedSimpArgs false

/-- A word as a value. -/
def U (z : Int) : Value := .int .u64 z
/-- The words of a slice lie in memory: it is empty, or it has an address at which they stand. -/
def Cells (w : World) (a : Option Addr) (zs : List Int) : Prop :=
  zs = [] ∨ ∃ b off, a = some ⟨b, off, none⟩ ∧ b < w.heap.size ∧ ∀ i, i < zs.length → w.cell? ⟨b, off + i, none⟩ = some (.int .u64 (zs.getD i 0))
/-- A block of words of its own. -/
def Blk (w : World) (g : Nat) (zs : List Int) : Prop := w.heap[g]? = some (.cells (zs.map U).toArray 66 (0, 0))

theorem Cells.below {w w' : World} {a : Option Addr} {zs : List Int} (h : Cells w a zs) (hb : Below w.heap.size w w') : Cells w' a zs := by
  rcases h with h | ⟨b, off, h1, h2, h3⟩
  · exact .inl h
  · exact .inr ⟨b, off, h1, Nat.lt_of_lt_of_le h2 hb.size, fun i hi => (hb.cell (p := ⟨b, off + i, none⟩) h2).trans (h3 i hi)⟩
theorem Cells.alloc {w : World} {a : Option Addr} {zs : List Int} (h : Cells w a zs) (o : Obj) : Cells (w.alloc o) a zs := h.below ((Below.refl _ _).alloc (Nat.le_refl _) _)
theorem Cells.drewN {w : World} {a : Option Addr} {zs : List Int} (h : Cells w a zs) (n : Nat) : Cells (w.drewN n) a zs := h.below (below_drewN (Below.refl _ _) n)
theorem Blk.lt {w : World} {g : Nat} {zs : List Int} (h : Blk w g zs) : g < w.heap.size := lt_of_block h
theorem Blk.below {w w' : World} {g : Nat} {zs : List Int} (h : Blk w g zs) (hb : Below w.heap.size w w') : Blk w' g zs := (hb.block g h.lt).trans h
theorem Blk.cell {w : World} {g : Nat} {zs : List Int} (h : Blk w g zs) (i : Nat) (hi : i < zs.length) : w.cell? ⟨g, i, none⟩ = some (.int .u64 (zs.getD i 0)) := by
  unfold Blk at h
  simp [World.cell?, h, hi, U]
theorem Blk.frozen {w : World} {g : Nat} {zs : List Int} (h : Blk w g zs) (i : Nat) : w.frozen? ⟨g, i, none⟩ = false := frozen_of_row w g i _ 66 h
theorem Blk.cells {w : World} {g : Nat} {zs : List Int} (h : Blk w g zs) : Cells w (some ⟨g, 0, none⟩) zs :=
  .inr ⟨g, 0, rfl, h.lt, fun i hi => by simpa using h.cell i hi⟩

theorem ret_int {k : IntKind} {a b : Int} (h : a = b) : Ending.returned (.int k a) = .returned (.int k b) := by rw [h]

theorem mayWidth_yes (x : Int) (w : World) (h0 : 0 ≤ x) (h1 : x ≤ 1032) : Calls Tryd.prog 39 #[.int .i64 x] w fun e w' => e = .returned (.bool true) ∧ w' = w := by
  go_enter Tryd.func39, Tryd.ntmps39
  go_wp2
  go_ret; exact ⟨by simp, rfl⟩
theorem mayWidth_no (x : Int) (w : World) (h : ¬ (0 ≤ x ∧ x ≤ 1032)) : Calls Tryd.prog 39 #[.int .i64 x] w fun e w' => e = .returned (.bool false) ∧ w' = w := by
  by_cases h0 : 0 ≤ x
  · have h1 : 1032 < x := by omega
    clear h
    go_enter Tryd.func39, Tryd.ntmps39
    go_wp2
    go_ret; exact ⟨by simp [h1], rfl⟩
  · have h1 : x < 0 := by omega
    clear h h0
    go_enter Tryd.func39, Tryd.ntmps39
    go_wp2
    go_ret; exact ⟨by simp, rfl⟩

theorem wordCount_any (x : Int) (w : World) (h0 : 0 ≤ x) (h1 : x ≤ 1032) : Calls Tryd.prog 40 #[.int .i64 x] w fun e w' => e = .returned (.int .i64 ((x + 63) / 64)) ∧ w' = w := by
  go_enter Tryd.func40, Tryd.ntmps40
  go_wp2
  go_ret
  exact ⟨ret_int (by omega), rfl⟩

/-- The word with the one bit k % 64. -/
def wbit (x : Int) : Int := 2 ^ (x % 64).toNat
theorem wbit_lt (x : Int) : 0 ≤ wbit x ∧ wbit x < 18446744073709551616 := by
  have h : (x % 64).toNat < 64 := by omega
  unfold wbit
  have : 2 ^ (x % 64).toNat < 2 ^ 64 := Nat.pow_lt_pow_right (by omega) h
  have e : ((2 ^ (x % 64).toNat : Nat) : Int) = (2 : Int) ^ (x % 64).toNat := by simp
  exact ⟨Int.le_of_lt (Int.pow_pos (by decide)), by rw [← e]; exact Int.lt_of_lt_of_le (Int.ofNat_lt.2 this) (by decide)⟩
theorem wrap_wbit (x : Int) : IntKind.u64.wrap (2 ^ (x % 64).toNat) = wbit x := by
  rw [IntKind.wrap_u64]
  have := wbit_lt x
  unfold wbit at *
  omega
theorem wordBit_any (x : Int) (w : World) (h0 : 0 ≤ x) (h1 : x ≤ 1032) : Calls Tryd.prog 44 #[.int .i64 x] w fun e w' => e = .returned (.int .u64 (wbit x)) ∧ w' = w := by
  go_enter Tryd.func44, Tryd.ntmps44
  go_wp2
  go_ret
  exact ⟨ret_int (wrap_wbit x), rfl⟩

theorem byteBit_any (x : Int) (w : World) (h0 : 0 ≤ x) (h1 : x ≤ 1032) : Calls Tryd.prog 55 #[.int .i64 x] w fun e w' => e = .returned (.int .u8 (128 / 2 ^ (x % 8).toNat)) ∧ w' = w := by
  go_enter Tryd.func55, Tryd.ntmps55
  go_wp2
  go_ret
  exact ⟨rfl, rfl⟩

theorem may_no1 (x : Int) (a : Option Addr) (n cap : Nat) (w : World) (h : ¬ (0 ≤ x ∧ x ≤ 1032)) :
    Calls Tryd.prog 9 #[.agg #[.int .i64 x, .slice a n cap]] w fun e w' => e = .returned (.bool false) ∧ Below w.heap.size w w' := by
  go_enter Tryd.func9, Tryd.ntmps9
  go_wp2
  go_quiet ((go_at_call 39; exact Calls.quiet_of_same (mayWidth_no _ _ h)))
  go_wp2
  go_ret
  exact ⟨rfl, below_drewN ((Below.refl _ _).alloc (Nat.le_refl _) _) _⟩
theorem may_no2 (x : Int) (a : Option Addr) (n cap : Nat) (w : World) (h0 : 0 ≤ x) (h1 : x ≤ 1032) (hn : (n : Int) ≠ (x + 63) / 64) (hm : n ≤ maxLen) :
    Calls Tryd.prog 9 #[.agg #[.int .i64 x, .slice a n cap]] w fun e w' => e = .returned (.bool false) ∧ Below w.heap.size w w' := by
  have hn' : ((n : Int) == (x + 63) / 64) = false := by simpa using hn
  unfold maxLen at hm
  go_enter Tryd.func9, Tryd.ntmps9
  go_wp2
  go_quiet ((first | (go_at_call 39; exact Calls.quiet_of_same (mayWidth_yes _ _ h0 h1)) | (go_at_call 40; exact Calls.quiet_of_same (wordCount_any _ _ h0 h1))))
  go_wp2
  go_ret
  exact ⟨rfl, below_drewN ((Below.refl _ _).alloc (Nat.le_refl _) _) _⟩
theorem may_yes1 (x : Int) (a : Option Addr) (n cap : Nat) (w : World) (h0 : 0 ≤ x) (h1 : x ≤ 1032) (hn : (n : Int) = (x + 63) / 64) (hx : x % 64 = 0) :
    Calls Tryd.prog 9 #[.agg #[.int .i64 x, .slice a n cap]] w fun e w' => e = .returned (.bool true) ∧ Below w.heap.size w w' := by
  have hn' : ((n : Int) == (x + 63) / 64) = true := by simpa using hn
  have hm : n ≤ 100 := by omega
  have HN : Hid ((n : Int) = (x + 63) / 64) := hn
  clear hn
  go_enter Tryd.func9, Tryd.ntmps9
  go_wp2
  go_quiet ((first | (go_at_call 39; exact Calls.quiet_of_same (mayWidth_yes _ _ h0 h1)) | (go_at_call 40; exact Calls.quiet_of_same (wordCount_any _ _ h0 h1))))
  go_wp2
  go_ret
  exact ⟨rfl, below_drewN ((Below.refl _ _).alloc (Nat.le_refl _) _) _⟩
theorem may_yes2 (x : Int) (a : Option Addr) (n cap : Nat) (zs : List Int) (w : World) (h0 : 0 ≤ x) (h1 : x ≤ 1032) (hn : (n : Int) = (x + 63) / 64) (hx : ¬ x % 64 = 0) (hz : zs.length = n) (hc : Cells w a zs) :
    Calls Tryd.prog 9 #[.agg #[.int .i64 x, .slice a n cap]] w fun e w' => e = .returned (.bool (zs.getD (n - 1) 0 / 2 ^ (x % 64).toNat == 0)) ∧ Below w.heap.size w w' := by
  have hn' : ((n : Int) == (x + 63) / 64) = true := by simpa using hn
  have hm : n ≤ 100 := by omega
  have hm1 : 1 ≤ n := by omega
  have HN : Hid ((n : Int) = (x + 63) / 64) := hn
  rcases hc with hc | ⟨b, off, rfl, hb, hc⟩
  · subst hc; simp at hz; omega
  have hc' := hc (n - 1) (by omega)
  have hne : b ≠ w.heap.size := by omega
  have hto : ((n : Int) - 1).toNat = n - 1 := by omega
  clear hn hc
  go_enter Tryd.func9, Tryd.ntmps9
  go_wp2
  go_quiet ((first | (go_at_call 39; exact Calls.quiet_of_same (mayWidth_yes _ _ h0 h1)) | (go_at_call 40; exact Calls.quiet_of_same (wordCount_any _ _ h0 h1))))
  go_wp2
  go_ret
  exact ⟨by simp [hx], below_drewN ((Below.refl _ _).alloc (Nat.le_refl _) _) _⟩

/-- May a row be, of that width and these words? -/
def mayB (x : Int) (zs : List Int) : Bool :=
  decide (0 ≤ x) && decide (x ≤ 1032) && decide ((zs.length : Int) = (x + 63) / 64) && (decide (x % 64 = 0) || zs.getD (zs.length - 1) 0 / 2 ^ (x % 64).toNat == 0)
theorem mayB_width {x : Int} {zs : List Int} (h : mayB x zs = true) : 0 ≤ x ∧ x ≤ 1032 ∧ (zs.length : Int) = (x + 63) / 64 := by
  simp [mayB] at h
  exact ⟨h.1.1.1, h.1.1.2, h.1.2⟩

theorem may_any (x : Int) (a : Option Addr) (n cap : Nat) (zs : List Int) (w : World) (hz : zs.length = n) (hm : n ≤ maxLen) (hc : Cells w a zs) :
    Calls Tryd.prog 9 #[.agg #[.int .i64 x, .slice a n cap]] w fun e w' => e = .returned (.bool (mayB x zs)) ∧ Below w.heap.size w w' := by
  by_cases h : 0 ≤ x ∧ x ≤ 1032
  · obtain ⟨h0, h1⟩ := h
    by_cases hn : (n : Int) = (x + 63) / 64
    · by_cases hx : x % 64 = 0
      · refine (may_yes1 x a n cap w h0 h1 hn hx).mono fun e w' h => ⟨?_, h.2⟩
        rw [h.1]; simp [mayB, h0, h1, hz, hn, hx]
      · refine (may_yes2 x a n cap zs w h0 h1 hn hx hz hc).mono fun e w' h => ⟨?_, h.2⟩
        rw [h.1]; simp [mayB, h0, h1, hz, hn, hx]
    · refine (may_no2 x a n cap w h0 h1 hn hm).mono fun e w' h => ⟨?_, h.2⟩
      rw [h.1]; simp [mayB, hz, hn]
  · refine (may_no1 x a n cap w h).mono fun e w' h' => ⟨?_, h'.2⟩
    rw [h'.1]
    have : (decide (0 ≤ x) && decide (x ≤ 1032)) = false := by
      simp only [Bool.and_eq_false_iff, decide_eq_false_iff_not]; omega
    simp only [mayB, this, Bool.false_and]
theorem may_yes (x : Int) (a : Option Addr) (n cap : Nat) (zs : List Int) (w : World) (hz : zs.length = n) (hc : Cells w a zs) (hy : mayB x zs = true) :
    Calls Tryd.prog 9 #[.agg #[.int .i64 x, .slice a n cap]] w fun e w' => e = .returned (.bool true) ∧ Below w.heap.size w w' := by
  have := mayB_width hy
  refine (may_any x a n cap zs w hz (by unfold maxLen; omega) hc).mono fun e w' h => ⟨?_, h.2⟩
  rw [h.1, hy]
theorem may_no (x : Int) (a : Option Addr) (n cap : Nat) (zs : List Int) (w : World) (hz : zs.length = n) (hm : n ≤ maxLen) (hc : Cells w a zs) (hy : mayB x zs = false) :
    Calls Tryd.prog 9 #[.agg #[.int .i64 x, .slice a n cap]] w fun e w' => e = .returned (.bool false) ∧ Below w.heap.size w w' := by
  refine (may_any x a n cap zs w hz hm hc).mono fun e w' h => ⟨?_, h.2⟩
  rw [h.1, hy]
end Go.Proofs.YtddjmhfcaeckgaaDoor
