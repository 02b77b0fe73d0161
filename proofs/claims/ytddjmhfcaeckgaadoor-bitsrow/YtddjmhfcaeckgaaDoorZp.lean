import Derived.Test.YtddjmhfcaeckgaaDoorZo
import Derived.Test.YtddjmhfcaeckgaaDoorZf
import Derived.Test.YtddjmhfcaeckgaaDoorL
namespace Go.Proofs.YtddjmhfcaeckgaaDoor
open Go.RowKit
set_option linter.unusedVariables false
set_option linter.unusedSimpArgs false

theorem mask1 : mask 1 32 = 6148914691236517205 := by decide
theorem mask2 : mask 2 16 = 3689348814741910323 := by decide
theorem mask4 : mask 4 8 = 1085102592571150095 := by decide
theorem o1_is (x : Nat) (hx : x < 18446744073709551616) : o1 (x : Int) = ((step 1 32 x : Nat) : Int) := by
  have hl : step 1 32 x < 18446744073709551616 := step_lt 1 (by decide) 32 x
  have e : step 1 32 x = (x / 2 &&& 6148914691236517205) + (x &&& 6148914691236517205) := by
    unfold step
    rw [← and_mask, ← and_mask, mask1]
  unfold o1
  rw [show ((x : Int) / 2) = ((x / 2 : Nat) : Int) by omega, show (6148914691236517205 : Int) = ((6148914691236517205 : Nat) : Int) by rfl, bits_and_u64_nat (x / 2) _ (by omega) (by decide), bits_and_u64_nat x _ hx (by decide), IntKind.wrap_u64]
  omega
theorem o2_is (x : Nat) (hx : x < 18446744073709551616) : o2 (x : Int) = ((step 2 16 x : Nat) : Int) := by
  have hl : step 2 16 x < 18446744073709551616 := step_lt 2 (by decide) 16 x
  have e : step 2 16 x = (x / 4 &&& 3689348814741910323) + (x &&& 3689348814741910323) := by
    unfold step
    rw [← and_mask, ← and_mask, mask2]
  unfold o2
  rw [show ((x : Int) / 4) = ((x / 4 : Nat) : Int) by omega, show (3689348814741910323 : Int) = ((3689348814741910323 : Nat) : Int) by rfl, bits_and_u64_nat (x / 4) _ (by omega) (by decide), bits_and_u64_nat x _ hx (by decide), IntKind.wrap_u64]
  omega
theorem o3_is (x : Nat) (hx : x < 18446744073709551616) (hf : flds 4 4 16 x) : o3 (x : Int) = ((step 4 8 x : Nat) : Int) := by
  have h1 : flds 4 7 (8 + 8 + 1) x := flds_mono 4 4 7 (by decide) _ _ (flds_ext 4 4 16 x (by simp only [Nat.reduceMul, Nat.reducePow]; exact hx) hf)
  have h2 := nib_step 8 x h1
  rw [mask4] at h2
  unfold o3
  have e : IntKind.u64.wrap ((x : Int) / 16 + (x : Int)) = (((x / 16 + x) % 18446744073709551616 : Nat) : Int) := by
    rw [IntKind.wrap_u64]; omega
  rw [e, show (1085102592571150095 : Int) = ((1085102592571150095 : Nat) : Int) by rfl, bits_and_u64_nat _ _ (Nat.mod_lt _ (by decide)) (by decide), and_wrap _ _ (by decide), h2]
theorem and_127 (x : Nat) (hx : 2 * x < 18446744073709551616) : bits .and .i64 (wrap64 (x : Int)) 127 = ((x % 128 : Nat) : Int) := by
  have hw : wrap64 (x : Int) = (x : Int) := by unfold wrap64; omega
  rw [hw]
  have h1 : (BitVec.ofInt 64 (x : Int)).toNat = x := by
    rw [BitVec.ofInt_natCast, BitVec.toNat_ofNat]; exact Nat.mod_eq_of_lt (by omega)
  have h2 : (BitVec.ofInt 64 (127 : Int)).toNat = 127 := by decide
  have e : bits .and .i64 (x : Int) 127 = IntKind.i64.wrap ((BitVec.ofInt 64 (x : Int) &&& BitVec.ofInt 64 127).toNat : Int) := rfl
  have h3 : x &&& 127 = x % 128 := Nat.and_two_pow_sub_one_eq_mod x 7
  rw [e, BitVec.toNat_and, h1, h2, h3, IntWalk.i64_in _ ⟨by omega, by omega⟩]
/-- OnesCount64 tells how many bits are set. -/
theorem ones_pop (x : Nat) (hx : x < 18446744073709551616) : onesF (x : Int) = ((dsum 1 64 x : Nat) : Int) := by
  have l1 : step 1 32 x < 18446744073709551616 := step_lt 1 (by decide) 32 x
  have l2 : step 2 16 (step 1 32 x) < 18446744073709551616 := step_lt 2 (by decide) 16 _
  have l3 : step 4 8 (step 2 16 (step 1 32 x)) < 18446744073709551616 := step_lt 4 (by decide) 8 _
  have f1 : flds 2 2 32 (step 1 32 x) := step_flds 1 1 (by decide) 32 x (flds_one _ _)
  have f2 : flds 4 4 16 (step 2 16 (step 1 32 x)) := step_flds 2 2 (by decide) 16 _ f1
  have f3 : flds 8 8 8 (step 4 8 (step 2 16 (step 1 32 x))) := step_flds 4 4 (by decide) 8 _ f2
  have s1 : dsum 2 32 (step 1 32 x) = dsum 1 64 x := step_sum 1 (by decide) 32 x
  have s2 : dsum 4 16 (step 2 16 (step 1 32 x)) = dsum 2 32 (step 1 32 x) := step_sum 2 (by decide) 16 _
  have s3 : dsum 8 8 (step 4 8 (step 2 16 (step 1 32 x))) = dsum 4 16 (step 2 16 (step 1 32 x)) := step_sum 4 (by decide) 8 _
  unfold onesF
  rw [o1_is x hx, o2_is _ l1, o3_is _ l2 f2]
  generalize step 4 8 (step 2 16 (step 1 32 x)) = y at *
  obtain ⟨k4, k5, k6, k7⟩ := byte_fold y f3 l3 _ _ _ rfl rfl rfl
  have e4 : o4 (y : Int) = ((y + y / 256 : Nat) : Int) := by
    unfold o4; rw [IntKind.wrap_u64]; omega
  rw [e4]
  generalize y + y / 256 = y4 at *
  have e5 : o5 (y4 : Int) = ((y4 + y4 / 65536 : Nat) : Int) := by
    unfold o5; rw [IntKind.wrap_u64]; omega
  rw [e5]
  generalize y4 + y4 / 65536 = y5 at *
  have e6 : o6 (y5 : Int) = ((y5 + y5 / 4294967296 : Nat) : Int) := by
    unfold o6; rw [IntKind.wrap_u64]; omega
  rw [e6]
  generalize y5 + y5 / 4294967296 = y6 at *
  rw [and_127 _ k6, k7, s3, s2, s1]
theorem cnt_word {zs : List Int} (hw : Words zs) (i : Nat) : ((cnt (gb zs) (64 * i) 64 : Nat) : Int) = onesF (zs.getD i 0) := by
  obtain ⟨x, hx⟩ := Int.eq_ofNat_of_zero_le (hw i).1
  have hlt := (hw i).2
  rw [hx] at hlt ⊢
  rw [ones_pop x (by omega), cnt_bits (gb zs) 64 (64 * i) x fun j hj => by
    unfold gb tb
    rw [show (64 * i + j) / 64 = i by omega, show (64 * i + j) % 64 = j by omega, hx, Int.toNat_natCast]]
/-- Count tells how many bits there are. -/
theorem csum_cnt {zs : List Int} (hw : Words zs) : ∀ n, csum zs n = ((cnt (gb zs) 0 (64 * n) : Nat) : Int) := by
  intro n
  induction n with
  | zero => rfl
  | succ n ih =>
    rw [csum_succ, ih, ← cnt_word hw n, show 64 * (n + 1) = 64 * n + 64 by omega, cnt_add, Nat.zero_add]
    omega
theorem rs_len (c : Nat → Bool) (N : Nat) : ∀ d s, s + d = N → (rs c s N).length = cnt c s d := by
  intro d
  induction d with
  | zero => intro s h; rw [Nat.add_zero] at h; subst h; rw [rs_end]; rfl
  | succ d ih =>
    intro s h
    rw [rs_one c s N (by omega)]
    have := ih (s + 1) (by omega)
    show _ = (if c s then 1 else 0) + cnt c (s + 1) d
    by_cases hcs : c s = true
    · rw [if_pos hcs, if_pos hcs, List.length_cons, this]; omega
    · rw [if_neg hcs, if_neg hcs, this]; omega
theorem count_len {zs : List Int} {n : Nat} (hw : Words zs) : csum zs n = (((rs (gb zs) 0 (64 * n)).length : Nat) : Int) := by
  rw [csum_cnt hw, rs_len (gb zs) (64 * n) (64 * n) 0 (by omega)]
end Go.Proofs.YtddjmhfcaeckgaaDoor
