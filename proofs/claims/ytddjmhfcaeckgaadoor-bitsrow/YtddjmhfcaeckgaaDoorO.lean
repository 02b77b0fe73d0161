import Derived.Test.YtddjmhfcaeckgaaDoorK
import Derived.Test.YtddjmhfcaeckgaaDoorC
import Derived.Laws.BytesString
namespace Go.Proofs.YtddjmhfcaeckgaaDoor
open Go.RowKit
set_option linter.unusedVariables false
set_option linter.unusedSimpArgs false

/-- Is the bit k set in these words? -/
def getB (zs : List Int) (k : Int) : Bool := bits .and .u64 (zs.getD (k / 64).toNat 0) (wbit k) != 0
theorem Cells.at {w : World} {a : Option Addr} {zs : List Int} (h : Cells w a zs) (hn : 0 < zs.length) : ∃ b off, a = some ⟨b, off, none⟩ ∧ b < w.heap.size ∧ ∀ i, i < zs.length → w.cell? ⟨b, off + i, none⟩ = some (.int .u64 (zs.getD i 0)) := by
  rcases h with h | h
  · subst h; simp at hn
  · exact h

theorem get_yes (x k : Int) (a : Option Addr) (n cap : Nat) (zs : List Int) (w : World) (hz : zs.length = n) (hc : Cells w a zs) (hy : mayB x zs = true) (hk1 : 0 ≤ k) (hk2 : k < x) :
    Calls Tryd.prog 17 #[.agg #[.int .i64 x, .slice a n cap], .int .i64 k] w fun e w' => e = .returned (.bool (getB zs k)) ∧ Below w.heap.size w w' := by
  obtain ⟨hw1, hw2, hw3⟩ := mayB_width hy
  have hnm : n ≤ 17 := by omega
  have hbit : isB x k = true := by simp [isB, hk1, hk2]
  obtain ⟨b, off, rfl, hb, hcl⟩ := hc.at (by omega)
  obtain ⟨q, hq⟩ : ∃ q : Nat, k / 64 = (q : Int) := ⟨(k / 64).toNat, by omega⟩
  have hqn : q < n := by omega
  have hck := hcl q (by omega)
  obtain ⟨z, hzz⟩ : ∃ z, z = zs.getD q 0 := ⟨_, rfl⟩
  rw [← hzz] at hck
  have b1 := At.new w (Two (.int .i64 x) (.slice (some ⟨b, off, none⟩) n cap))
  have hc1 := hc.alloc (Two (.int .i64 x) (.slice (some ⟨b, off, none⟩) n cap))
  have hckA : (w.alloc (Two (.int .i64 x) (.slice (some ⟨b, off, none⟩) n cap))).cell? ⟨b, off + q, none⟩ = some (.int .u64 z) := by
    rw [← hck]; exact ((Below.refl w.heap.size w).alloc (Nat.le_refl _) _).cell (p := ⟨b, off + q, none⟩) hb
  have hx1 : (0 : Int) ≤ (q : Int) := by omega
  have hx2 : (q : Int) < (n : Int) := by omega
  have hx3 : IntKind.i64.wrap (q : Int) = (q : Int) := IntWalk.i64_in _ ⟨by omega, by omega⟩
  have hx4 : k.tdiv 64 = (q : Int) := (Int.tdiv_eq_ediv_of_nonneg hk1).trans hq
  have HB : Hid (getB zs k = (bits .and .u64 z (wbit k) != 0)) := by
    show getB zs k = _
    unfold getB
    rw [hq, hzz]
    simp
  clear hcl hzz hw3 hck
  have hbA : Below w.heap.size w (w.alloc (Two (.int .i64 x) (.slice (some ⟨b, off, none⟩) n cap))) := (Below.refl _ _).alloc (Nat.le_refl _) _
  go_enter Tryd.func17, Tryd.ntmps17
  go_wp2
  go_region_held3 (fun w' => Below (w.heap.size + 1) (w.alloc (Two (.int .i64 x) (.slice (some ⟨b, off, none⟩) n cap))) w' ∧ w'.cell? ⟨w.heap.size, 0, none⟩ = some (.int .i64 x) ∧ w'.cell? ⟨w.heap.size, 1, none⟩ = some (.slice (some ⟨b, off, none⟩) n cap) ∧ w'.cell? ⟨b, off + q, none⟩ = some (.int .u64 z))
    (first | (exact ⟨(Below.refl _ _).drew, b1.all.1, b1.all.2.1, hckA⟩) | assumption | (exact ⟨hbb, (b1.belowB hbb (by omega)).all.1, (b1.belowB hbb (by omega)).all.2.1, (hbb.cell (p := ⟨b, off + q, none⟩) (by show b < _; omega)).trans hckA⟩))
    (first
      | (go_at_call 9; refine (may_yes _ _ _ _ zs _ hz (hc1.drew) hy).mono ?_; rintro e w1 ⟨rfl, hb1⟩; have hbb : Below (w.heap.size + 1) (w.alloc (Two (.int .i64 x) (.slice (some ⟨b, off, none⟩) n cap))) w1 := (Below.refl _ _).drew.trans (hb1.mono (by simp [World.drew])))
      | (go_at_call 43; refine (isBit_is _ _ _ _ _ _ hbit).mono ?_; rintro e w2 ⟨rfl, hb2⟩; have hbb := hbb.trans (hb2.mono (by have h := hbb.size; rw [World.size_alloc] at h; exact h)))
      | (go_at_call 44; refine (wordBit_any _ _ hk1 (by omega)).mono ?_; rintro e w' ⟨rfl, rfl⟩))
  go_wp2
  go_ret
  exact ⟨by rw [HB.out]; rfl, hbA.trans (hbb.mono (by omega))⟩
end Go.Proofs.YtddjmhfcaeckgaaDoor
