import Derived.Test.YtddjmhfcaeckgaaDoorC
namespace Go.Proofs.YtddjmhfcaeckgaaDoor
open Go.RowKit
set_option linter.unusedVariables false
set_option linter.unusedSimpArgs false

def o1 (z : Int) : Int := IntKind.u64.wrap (bits .and .u64 (z / 2) 6148914691236517205 + bits .and .u64 z 6148914691236517205)
def o2 (z : Int) : Int := IntKind.u64.wrap (bits .and .u64 (z / 4) 3689348814741910323 + bits .and .u64 z 3689348814741910323)
def o3 (z : Int) : Int := bits .and .u64 (IntKind.u64.wrap (z / 16 + z)) 1085102592571150095
def o4 (z : Int) : Int := IntKind.u64.wrap (z + z / 256)
def o5 (z : Int) : Int := IntKind.u64.wrap (z + z / 65536)
def o6 (z : Int) : Int := IntKind.u64.wrap (z + z / 4294967296)
/-- What bits.OnesCount64 reckons. -/
def onesF (z : Int) : Int := bits .and .i64 (wrap64 (o6 (o5 (o4 (o3 (o2 (o1 z))))))) 127
theorem ones_any (z : Int) (w : World) : Calls Tryd.prog 49 #[.int .u64 z] w fun e w' => e = .returned (.int .i64 (onesF z)) ∧ w' = w := by
  go_enter Tryd.func49, Tryd.ntmps49
  go_wp2
  go_ret
  exact ⟨by unfold onesF o6 o5 o4 o3 o2 o1; exact ret_int rfl, rfl⟩
theorem onesF_bd (z : Int) : 0 ≤ onesF z ∧ onesF z ≤ 127 := by
  unfold onesF
  generalize wrap64 _ = v
  have h : (BitVec.ofInt 64 v &&& BitVec.ofInt 64 127).toNat ≤ 127 := by
    rw [BitVec.toNat_and]
    exact Nat.le_trans Nat.and_le_right (by decide)
  have e : bits .and .i64 v 127 = IntKind.i64.wrap ((BitVec.ofInt 64 v &&& BitVec.ofInt 64 127).toNat : Int) := rfl
  rw [e, IntWalk.i64_in _ ⟨by omega, by omega⟩]
  omega
/-- The first k values of f, added up. -/
def fsum (f : Int → Int) (zs : List Int) : Nat → Int
  | 0 => 0
  | k + 1 => fsum f zs k + f (zs.getD k 0)
/-- The bits of the first k words, as Count adds them up. -/
def csum (zs : List Int) (k : Nat) : Int := fsum onesF zs k
theorem csum_succ (zs : List Int) (k : Nat) : csum zs (k + 1) = csum zs k + onesF (zs.getD k 0) := rfl
theorem csum_bd (zs : List Int) : ∀ k, k ≤ zs.length → 0 ≤ csum zs k ∧ csum zs k ≤ 127 * k := by
  intro k
  induction k with
  | zero => intro _; exact ⟨Int.le_refl _, Int.le_refl _⟩
  | succ k ih =>
    intro hk
    rw [csum_succ zs k]
    have := ih (by omega)
    have := onesF_bd (zs.getD k 0)
    omega

theorem goesWell_no (w : World) : Calls Tryd.prog 56 #[.int .i64 10, .string ⟨#[128, 65]⟩] w fun e w' => e = .returned (.int .i64 1) ∧ w' = w := by
  go_enter Tryd.func56, Tryd.ntmps56
  go_wp2
  go_ret
  exact ⟨by kernel_rfl, rfl⟩
theorem mayB_12 : mayB 70 [1, 32] = true := by decide

theorem read_no (w : World) : Calls Tryd.prog 36 #[.int .i64 10, .string ⟨#[128, 65]⟩] w fun e w' => e = .returned (.tuple #[.agg #[.int .i64 0, .slice none 0 0], .int .i64 1, .int .i64 10]) ∧ Below w.heap.size w w' := by
  have b1 := At.new w (Two (.int .i64 0) (.slice none 0 0))
  go_enter Tryd.func36, Tryd.ntmps36
  go_wp2_with (first
    | (go_at_call 12; refine (new_yes 10 1 _ (by omega) (by omega) (by omega)).mono ?_; rintro e w1 ⟨g, rfl, hg, hblk, hb1⟩; have b11 := b1.below hb1; obtain ⟨c10, c11, f1⟩ := b11.all)
    | (go_at_call 56; refine (goesWell_no _).mono ?_; rintro e w2 ⟨rfl, rfl⟩))
  have bf := (b11.setTwo (.int .i64 10) (.slice (some ⟨g, 0, none⟩) 1 1)).setTwo (.int .i64 0) (.slice none 0 0)
  have hbf := below_setTwo (below_setTwo (below1 hb1) (Nat.le_refl _) (.int .i64 10) (.slice (some ⟨g, 0, none⟩) 1 1)) (Nat.le_refl _) (.int .i64 0) (.slice none 0 0)
  clear b1 b11 c10 c11 f1 hb1 hblk hg
  generalize (((w1.setCell ⟨w.heap.size, 0, none⟩ (.int .i64 10)).setCell ⟨w.heap.size, 1, none⟩ (.slice (some ⟨g, 0, none⟩) 1 1)).setCell ⟨w.heap.size, 0, none⟩ (.int .i64 0)).setCell ⟨w.heap.size, 1, none⟩ (.slice none 0 0) = wf at *
  obtain ⟨e0, e1, _⟩ := bf.all
  exact bodyPost_ret (v := .tuple #[.agg #[.int .i64 0, .slice none 0 0], .int .i64 1, .int .i64 10]) (by simp [results, Tryd.results36, go_sem, e0, e1]) rfl ⟨rfl, hbf⟩

theorem count_yes (x : Int) (a : Option Addr) (n cap : Nat) (zs : List Int) (w : World) (hz : zs.length = n) (hc : Cells w a zs) (hy : mayB x zs = true) :
    Calls Tryd.prog 21 #[.agg #[.int .i64 x, .slice a n cap]] w fun e w' => e = .returned (.int .i64 (csum zs n)) ∧ Below w.heap.size w w' := by
  obtain ⟨hw1, hw2, hw3⟩ := mayB_width hy
  have hnm : n ≤ 17 := by omega
  have b1 := At.new w (Two (.int .i64 x) (.slice a n cap))
  have hc1 := hc.alloc (Two (.int .i64 x) (.slice a n cap))
  go_enter Tryd.func21, Tryd.ntmps21
  go_wp2_with (go_at_call 9; refine (may_yes _ _ _ _ zs _ hz hc1 hy).mono ?_; rintro e w1 ⟨rfl, hb1⟩; have b11 := b1.below hb1; obtain ⟨c10, c11, f1⟩ := b11.all)
  have hc2 := hc1.below hb1
  clear b1 hc hc1 hw3 hy
  go_loop [3, 12] (fun s i => ∃ k : Nat, k ≤ n ∧ i = .int .i64 k ∧ s = .int .i64 (csum zs k)) (fun _ i => n - (intOf i).toNat)
  case atStart => exact ⟨0, Nat.zero_le _, rfl, rfl⟩
  case round =>
    obtain ⟨k, hk, rfl, rfl⟩ := hrel
    have hbd := csum_bd zs k (by omega)
    by_cases hlt : k < n
    · rcases hc2 with h | ⟨b, off, rfl, hb, hcl⟩
      · subst h; simp at hz; omega
      have hck := hcl k (by omega)
      have hs := csum_succ zs k
      have ho := onesF_bd (zs.getD k 0)
      obtain ⟨z, hzz⟩ : ∃ z, z = zs.getD k 0 := ⟨_, rfl⟩
      rw [← hzz] at hck hs ho
      have HS : Hid (csum zs (k + 1) = csum zs k + onesF z) := hs
      obtain ⟨s, hss⟩ : ∃ s, s = csum zs k := ⟨_, rfl⟩
      rw [← hss] at HS hbd ⊢
      clear hzz hcl hs hss
      go_wp2_with (go_at_call 49; refine (ones_any _ _).mono ?_; rintro e w2 ⟨rfl, rfl⟩)
      go_round
      case rel => exact ⟨k + 1, by omega, by go_num, by rw [HS.out]⟩
      case measure => simp [intOf]; omega
    · go_wp2
      go_ret
      have : k = n := by omega
      subst this
      exact ⟨rfl, below1 hb1⟩
theorem ones1 : onesF 1 = 1 := by kernel_rfl
theorem ones32 : onesF 32 = 1 := by kernel_rfl
theorem csum_12 : csum [1, 32] 2 = 2 := by
  have e : csum [1, 32] 2 = 0 + onesF 1 + onesF 32 := rfl
  rw [e, ones1, ones32]; rfl

theorem each_12 (g : Nat) (w : World) (h : Blk w g [1, 32]) :
    Calls Tryd.prog 20 #[.agg #[.int .i64 70, .slice (some ⟨g, 0, none⟩) 2 2]] w fun e w' => ∃ b g', e = .returned (.func (.func 47) #[] #[.pointer (some ⟨b, 0, none⟩)]) ∧ At w' b (Two (.int .i64 70) (.slice (some ⟨g', 0, none⟩) 2 2)) ∧ Blk w' g' [1, 32] ∧ Below w.heap.size w w' := by
  have b1 := At.new w (Two (.int .i64 70) (.slice (some ⟨g, 0, none⟩) 2 2))
  have hc := (Blk.cells h).alloc (Two (.int .i64 70) (.slice (some ⟨g, 0, none⟩) 2 2))
  go_enter Tryd.func20, Tryd.ntmps20
  go_wp2_with (go_at_call 16; refine (own_yes _ _ _ _ [1, 32] _ rfl hc mayB_12).mono ?_; rintro e w1 ⟨g', rfl, hg', hblk, hb1⟩)
  go_ret
  exact ⟨_, g', rfl, At.new _ _, hblk.at.alloc _, (below1 hb1).alloc (below1 hb1).size _⟩
end Go.Proofs.YtddjmhfcaeckgaaDoor
