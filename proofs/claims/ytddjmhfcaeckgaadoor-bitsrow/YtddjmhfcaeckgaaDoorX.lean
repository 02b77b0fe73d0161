import Derived.Test.YtddjmhfcaeckgaaDoorW
import Derived.Test.YtddjmhfcaeckgaaDoorD
namespace Go.Proofs.YtddjmhfcaeckgaaDoor
open Go.RowKit
set_option linter.unusedVariables false
set_option linter.unusedSimpArgs false

theorem goesWell_zero (s : ByteArray) (w : World) (hs : s.size ≤ 5000) :
    Calls Tryd.prog 56 #[.int .i64 0, .string s] w fun e w' => e = .returned (.int .i64 0) ∧ w' = w := by
  by_cases h : s.size = 0
  · have h2 : (s.size : Int) = 0 := by omega
    go_enter Tryd.func56, Tryd.ntmps56
    go_wp2_with (go_at_call 53; refine (byteCount_any 0 _ (by omega) (by omega)).mono ?_; rintro e w' ⟨rfl, rfl⟩)
    go_ret
    exact ⟨ret_int (by omega), rfl⟩
  · have h2 : (0 : Int) < (s.size : Int) := by omega
    clear h
    go_enter Tryd.func56, Tryd.ntmps56
    go_wp2_with (go_at_call 53; refine (byteCount_any 0 _ (by omega) (by omega)).mono ?_; rintro e w' ⟨rfl, rfl⟩)
    go_ret
    exact ⟨ret_int (by omega), rfl⟩

/-- A byte of a text. -/
def sb (s : ByteArray) (i : Nat) : Int := if h : i < s.size then ((s[i]).toNat : Int) else 0
/-- Is the bit k set in these bytes? -/
def sbit (s : ByteArray) (k : Nat) : Bool := bits .and .u8 (sb s (k / 8)) (bbit k) != 0
/-- A word's bit is put behind the others. -/
def putW (b : Bool) (zs : List Int) (k : Nat) : List Int := if b then turn1 (bits .or .u64) zs k else zs
/-- The words behind k bits. -/
def wst (s : ByteArray) (n : Nat) : Nat → List Int
  | 0 => List.replicate n 0
  | k + 1 => putW (sbit s k) (wst s n k) k
theorem wst_len (s : ByteArray) (n : Nat) : ∀ k, (wst s n k).length = n := by
  intro k
  induction k with
  | zero => simp [wst]
  | succ k ih => unfold wst putW; split <;> simp [turn1, ih]

theorem putw_false (br bk g n k : Nat) (x : Int) (zs : List Int) (w : World) (ho : At w br (Two (.int .i64 x) (.slice (some ⟨g, 0, none⟩) n n))) (hk : At w bk (One (.int .i64 k) 3)) (hg : Blk w g zs) (hkm : k ≤ 1032) (h1 : br ≠ bk) (h2 : g ≠ bk) :
    Calls Tryd.prog 57 #[.bool false, .pointer (some ⟨br, 0, none⟩), .pointer (some ⟨bk, 0, none⟩)] w fun e w' => e = .returned (.tuple #[]) ∧ At w' br (Two (.int .i64 x) (.slice (some ⟨g, 0, none⟩) n n)) ∧ At w' bk (One (.int .i64 (k + 1 : Nat)) 3) ∧ Blk w' g (putW false zs k) ∧ ∀ B, B ≤ bk → B ≤ g → Below B w w' := by
  obtain ⟨c1, f1⟩ := hk.one
  go_enter Tryd.func57, Tryd.ntmps57
  go_wp2
  go_end0
  exact ⟨rfl, ho.set h1 _, hk.setOne _, hg.at.set h2 _, fun B hB _ => (Below.refl _ _).setCell hB _⟩

theorem putw_true (br bk g n k : Nat) (x : Int) (zs : List Int) (w : World) (ho : At w br (Two (.int .i64 x) (.slice (some ⟨g, 0, none⟩) n n))) (hk : At w bk (One (.int .i64 k) 3)) (hg : Blk w g zs) (hm : zs.length = n) (hkm : k ≤ 1032) (hkk : k / 64 < n) (h1 : br ≠ bk) (h2 : g ≠ bk) (h3 : br ≠ g) :
    Calls Tryd.prog 57 #[.bool true, .pointer (some ⟨br, 0, none⟩), .pointer (some ⟨bk, 0, none⟩)] w fun e w' => e = .returned (.tuple #[]) ∧ At w' br (Two (.int .i64 x) (.slice (some ⟨g, 0, none⟩) n n)) ∧ At w' bk (One (.int .i64 (k + 1 : Nat)) 3) ∧ Blk w' g (putW true zs k) ∧ ∀ B, B ≤ bk → B ≤ g → Below B w w' := by
  obtain ⟨c1, f1⟩ := hk.one
  obtain ⟨c20, c2, f2⟩ := ho.all
  obtain ⟨q, hqq⟩ : ∃ q, q = k / 64 := ⟨_, rfl⟩
  have hq : ((k : Int)) / 64 = (q : Int) := by omega
  have hqm : q < n := by omega
  have c3 := hg.cell q (by omega)
  have f3 := hg.frozen
  have h1' : bk ≠ br := h1.symm
  have h2' : bk ≠ g := h2.symm
  have h3' : g ≠ br := h3.symm
  have hx1 : (0 : Int) ≤ (q : Int) := by omega
  have hx2 : (q : Int) < (n : Int) := by omega
  have hx3 : IntKind.i64.wrap (q : Int) = (q : Int) := IntWalk.i64_in _ ⟨by omega, by omega⟩
  have hx4 : (k : Int).tdiv 64 = (q : Int) := (Int.tdiv_eq_ediv_of_nonneg (by omega)).trans hq
  have HF : Hid (putW true zs k = zs.set q (bits .or .u64 (zs.getD q 0) (wbit k))) := by
    show turn1 (bits .or .u64) zs k = _
    unfold turn1
    rw [hq]; simp
  have hlen : q < zs.length := by omega
  clear hqq hkk
  go_enter Tryd.func57, Tryd.ntmps57
  go_wp2
  refine wp_region_still_tail 10 (by kernel_rfl) (by kernel_rfl) ?_
  simp only [List.take_succ_cons, List.take_zero, List.drop_succ_cons, List.drop_zero]
  change wpStill _ _ (World.drew w) (fun a' => wpList _ _ _ _ a' (World.drew w)) _ _
  iterate 7 still_step
  still_call (wordBit_any (k : Int) w.drew (by omega) (by omega))
  iterate 2 still_step
  refine wpStill_nil ?_
  go_wp2
  go_end0
  have e : zs.getD q 0 = zs[q] := by simp [hlen]
  refine ⟨rfl, ((ho.set h3 _).set h1 _).drew, ((hk.set h2' _).setOne _).drew, ?_, fun B hB hB' => (((Below.refl _ _).setCell hB' _).setCell hB _).drew⟩
  rw [HF.out, e]
  exact ((hg.set q _).at.set h2 _).drew
theorem putw_any (b : Bool) (br bk g n k : Nat) (x : Int) (zs : List Int) (w : World) (ho : At w br (Two (.int .i64 x) (.slice (some ⟨g, 0, none⟩) n n))) (hk : At w bk (One (.int .i64 k) 3)) (hg : Blk w g zs) (hm : zs.length = n) (hkm : k ≤ 1032) (hkk : k / 64 < n) (h1 : br ≠ bk) (h2 : g ≠ bk) (h3 : br ≠ g) :
    Calls Tryd.prog 57 #[.bool b, .pointer (some ⟨br, 0, none⟩), .pointer (some ⟨bk, 0, none⟩)] w fun e w' => e = .returned (.tuple #[]) ∧ At w' br (Two (.int .i64 x) (.slice (some ⟨g, 0, none⟩) n n)) ∧ At w' bk (One (.int .i64 (k + 1 : Nat)) 3) ∧ Blk w' g (putW b zs k) ∧ ∀ B, B ≤ bk → B ≤ g → Below B w w' := by
  cases b
  · exact putw_false br bk g n k x zs w ho hk hg hkm h1 h2
  · exact putw_true br bk g n k x zs w ho hk hg hm hkm hkk h1 h2 h3
end Go.Proofs.YtddjmhfcaeckgaaDoor
