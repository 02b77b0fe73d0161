import Derived.Test.YtddjmhfcaeckgaaDoorQ
namespace Go.Proofs.YtddjmhfcaeckgaaDoor
open Go.RowKit
set_option linter.unusedVariables false
set_option linter.unusedSimpArgs false

theorem nat_and_pow (k j : Nat) : ((k &&& 2 ^ j) ≠ 0) ↔ k / 2 ^ j % 2 = 1 := by
  have ht : k.testBit j = decide (k / 2 ^ j % 2 = 1) := Nat.testBit_eq_decide_div_mod_eq
  constructor
  · intro h
    rcases hb : k.testBit j with _ | _
    · refine absurd ?_ h
      apply Nat.eq_of_testBit_eq
      intro i
      rw [Nat.testBit_and, Nat.testBit_two_pow, Nat.zero_testBit]
      by_cases e : j = i
      · subst e; simp [hb]
      · simp [e]
    · rw [hb] at ht
      simpa using ht.symm
  · intro h e
    have h2 : (k &&& 2 ^ j).testBit j = true := by
      rw [Nat.testBit_and, Nat.testBit_two_pow, ht]
      simp [h]
    rw [e, Nat.zero_testBit] at h2
    cases h2
theorem and_pow (z : Int) (j : Nat) (h0 : 0 ≤ z) (h1 : z < 18446744073709551616) (hj : j < 64) : (bits .and .u64 z (2 ^ j) != 0) = (bitOf z j == 1) := by
  obtain ⟨k, rfl⟩ := Int.eq_ofNat_of_zero_le h0
  have hp : 2 ^ j < 18446744073709551616 := Nat.lt_of_lt_of_le (Nat.pow_lt_pow_right (by omega) hj) (by decide)
  have e : ((2 : Int) ^ j) = ((2 ^ j : Nat) : Int) := by simp
  rw [e, bits_and_u64_nat k (2 ^ j) (by omega) hp, bitOf_nat]
  have hk := nat_and_pow k j
  generalize k &&& 2 ^ j = v at hk
  by_cases h : k / 2 ^ j % 2 = 1
  · have hv := hk.2 h
    rw [h]
    simp [hv]
  · have h' : k / 2 ^ j % 2 = 0 := by omega
    have hv : v = 0 := by
      by_cases e : v = 0
      · exact e
      · exact absurd (hk.1 e) h
    rw [h', hv]
    rfl
theorem byt_step {bs L : List Int} {q g k : Nat} {w : World} (HT : Hid (L = bs.set q (bits .or .u8 (bs.getD q 0) (bbit k)))) (hql : q < bs.length) (h : Byt w g bs) : Byt (w.setCell ⟨g, q, none⟩ (.int .u8 (bits .or .u8 bs[q] (128 / 2 ^ (k % 8))))).drew g L := by
  have e : bs.getD q 0 = bs[q] := by simp [hql]
  have e2 : bbit k = 128 / 2 ^ (k % 8) := by
    unfold bbit
    have : ((k : Int) % 8).toNat = k % 8 := by omega
    rw [this]
  rw [HT.out, e, e2]
  exact h.set q _
theorem getB_is (zs : List Int) (k : Int) (hw : Words zs) : getB zs k = (bitOf (zs.getD (k / 64).toNat 0) (k % 64).toNat == 1) := by
  unfold getB wbit
  exact and_pow _ _ (hw _).1 (hw _).2 (by omega)

theorem is_yes (x k : Int) (a : Option Addr) (n cap : Nat) (zs : List Int) (w : World) (hz : zs.length = n) (hn : n ≤ 17) (hw : Words zs) (hc : Cells w a zs) (hk1 : 0 ≤ k) (hk2 : k < 64 * n) :
    Calls Tryd.prog 45 #[.agg #[.int .i64 x, .slice a n cap], .int .i64 k] w fun e w' => e = .returned (.bool (getB zs k)) ∧ Below w.heap.size w w' := by
  obtain ⟨b, off, rfl, hb, hcl⟩ := hc.at (by omega)
  obtain ⟨q, hq⟩ : ∃ q : Nat, k / 64 = (q : Int) := ⟨(k / 64).toNat, by omega⟩
  have hqn : q < n := by omega
  have hck := hcl q (by omega)
  obtain ⟨z, hzz⟩ : ∃ z, z = zs.getD q 0 := ⟨_, rfl⟩
  have hwz := hw q
  rw [← hzz] at hck hwz
  have HB : Hid (getB zs k = (bitOf z (k % 64).toNat == 1)) := by
    show getB zs k = _
    rw [getB_is zs k hw, hq, hzz]
    simp
  have hsa := shr_and z (k % 64).toNat hwz.1 hwz.2
  have hne : b ≠ w.heap.size := by omega
  have hx2 : (q : Int) < (n : Int) := by omega
  have hx7 : 0 ≤ k % 64 := by omega
  clear hcl hzz hw hc hwz
  go_enter Tryd.func45, Tryd.ntmps45
  go_wp2
  go_ret
  exact ⟨by rw [HB.out]; simp [hsa], (Below.refl _ _).alloc (Nat.le_refl _) _⟩

theorem bytes_no (x : Int) (a : Option Addr) (n cap : Nat) (zs : List Int) (w : World) (hz : zs.length = n) (hm : n ≤ maxLen) (hc : Cells w a zs) (hy : mayB x zs = false) :
    Calls Tryd.prog 34 #[.agg #[.int .i64 x, .slice a n cap]] w fun e w' => e = .returned (.tuple #[.string ⟨#[]⟩, .int .i64 2]) ∧ Below w.heap.size w w' := by
  have hc1 := hc.alloc (Two (.int .i64 x) (.slice a n cap))
  go_enter Tryd.func34, Tryd.ntmps34
  go_wp2_with (go_at_call 9; refine (may_no _ _ _ _ zs _ hz hm hc1 hy).mono ?_; rintro e w1 ⟨rfl, hb1⟩)
  go_ret2
  exact ⟨rfl, below1 hb1⟩

theorem refBytes_yes (x : Int) (a : Option Addr) (n cap m : Nat) (zs : List Int) (w : World) (hz : zs.length = n) (hw : Words zs) (hc : Cells w a zs) (hy : mayB x zs = true) (hm : (m : Int) = (x + 7) / 8) :
    Calls Tryd.prog 35 #[.agg #[.int .i64 x, .slice a n cap]] w fun e w' => e = .returned (.string (strOf (bst zs m x.toNat))) ∧ Below w.heap.size w w' := by
  obtain ⟨hw1, hw2, hw3⟩ := mayB_width hy
  obtain ⟨xn, rfl⟩ := Int.eq_ofNat_of_zero_le hw1
  have hn17 : n ≤ 17 := by omega
  have hxn : (xn : Int) ≤ 64 * n := by omega
  have hab := hc.lt
  have b1 := At.new w (Two (.int .i64 xn) (.slice a n cap))
  have hc1 := hc.alloc (Two (.int .i64 xn) (.slice a n cap))
  obtain ⟨i0, hi, hz0, hz1, hz2⟩ := info_parts Tryd.info5
  have HM : Hid ((m : Int) = ((xn : Int) + 7) / 8) := hm
  have hmx : m ≤ 130 := by omega
  have hmk : ∀ k, k < xn → k / 8 < m := fun k hk => by omega
  have HK : Hid (∀ k, k < xn → k / 8 < m) := hmk
  have HAB : Hid (∀ b off, a = some ⟨b, off, none⟩ → zs ≠ [] → b < w.heap.size) := hab
  clear hab
  clear hm hw3 hc hmk
  go_enter Tryd.func35, Tryd.ntmps35
  go_wp2_with (at_make; refine wpList_make_full _ rfl _ _ 71 rfl (w.heap.size + 1) 5 i0 (.int .u8 0) 1 Tryd.underlying71 hi hz0 hz1 .i64 .i64 _ _ m rfl rfl HM.out.symm HM.out.symm (by rw [hz2]; omega) (by unfold maxLen; omega) (by simp) ?_; intro w2 hown2 hgrow2; have HG := byt_made hown2; have hb2 := below_of_grown hgrow2; clear hown2 hgrow2)
  simp only [World.size_alloc] at HG
  have b12 := b1.below hb2
  have hc2 := hc1.below hb2
  have hbW := below1 hb2
  have hg2 := HG.at.lt
  clear b1 hc1 hb2 hi hz0 hz1 hz2
  go_loopw [4] (fun i wr => ∃ k : Nat, k ≤ xn ∧ i = .int .i64 k ∧ Below w.heap.size w wr ∧ At wr w.heap.size (Two (.int .i64 xn) (.slice a n cap)) ∧ Cells wr a zs ∧ Byt wr (w.heap.size + 1) (bst zs m k)) (fun i _ => xn - (intOf i).toNat)
  case atStart => exact ⟨0, Nat.zero_le _, rfl, hbW, b12, hc2, HG⟩
  case round =>
    obtain ⟨k, hk, rfl, hbr, b1r, hcr, hGr⟩ := hrel
    clear hbW b12 hc2 HG
    obtain ⟨c10, c11, f1⟩ := b1r.all
    by_cases hlt : k < xn
    · obtain ⟨q, hqq⟩ : ∃ q, q = k / 8 := ⟨_, rfl⟩
      have hqm : q < m := by rw [hqq]; exact HK.out k hlt
      have hq : (k : Int) / 8 = (q : Int) := by omega
      have hkz1 : (0 : Int) ≤ (k : Int) := by omega
      have hkz2 : (k : Int) < 64 * (n : Int) := by omega
      obtain ⟨bs, hbs⟩ : ∃ bs, bs = bst zs m k := ⟨_, rfl⟩
      have hbl : bs.length = m := by rw [hbs, bst_len]
      cases hgb : getB zs k
      · have hst : bst zs m (k + 1) = bst zs m k := by
          show putF (getB zs k) (bst zs m k) k = _
          rw [hgb]; rfl
        have HT : Hid (bst zs m (k + 1) = bst zs m k) := hst
        clear hst hbs hqq
        go_wp2_with (go_at_call 45; refine (is_yes _ _ _ _ _ zs _ hz hn17 hw hcr hkz1 hkz2).mono ?_; rintro e w3 ⟨rfl, hb3⟩; rw [hgb])
        go_roundw
        case rel => exact ⟨k + 1, by omega, by go_num, hbr.trans (hb3.mono hbr.size), b1r.below hb3, hcr.below hb3, by rw [HT.out]; exact hGr.at.below hb3⟩
        case measure => simp [intOf]; omega
      · have hst : bst zs m (k + 1) = bs.set q (bits .or .u8 (bs.getD q 0) (bbit k)) := by
          show putF (getB zs k) (bst zs m k) k = _
          rw [hgb, ← hbs, hqq]; rfl
        have HT : Hid (bst zs m (k + 1) = bs.set q (bits .or .u8 (bs.getD q 0) (bbit k))) := hst
        rw [← hbs] at hGr
        have hx1 : (0 : Int) ≤ (q : Int) := by omega
        have hx2 : (q : Int) < (m : Int) := by omega
        have hx3 : IntKind.i64.wrap (q : Int) = (q : Int) := IntWalk.i64_in _ ⟨by omega, by omega⟩
        have hx4 : (k : Int).tdiv 8 = (q : Int) := (Int.tdiv_eq_ediv_of_nonneg (by omega)).trans hq
        have hx5 : (k : Int).tmod 8 = (k : Int) % 8 := Int.tmod_eq_emod_of_nonneg (by omega)
        have hx7 : 0 ≤ (k : Int) % 8 := by omega
        have hql : q < bs.length := by omega
        have HZ : Hid (zs ≠ []) := fun h => by subst h; simp at hz; omega
        clear hst hbs hqq
        go_wp2_with (go_at_call 45; refine (is_yes _ _ _ _ _ zs _ hz hn17 hw hcr hkz1 hkz2).mono ?_; rintro e w3 ⟨rfl, hb3⟩; rw [hgb])
        have hG3 : Byt w3 (w.heap.size + 1) bs := hGr.at.below hb3
        have b13 := b1r.below hb3
        have hc3 := hcr.below hb3
        have g1 := hG3.cell q hql
        have g2 := hG3.frozen
        clear c10 c11 f1
        refine wp_region_still_tail 13 (by kernel_rfl) (by kernel_rfl) ?_
        simp only [List.take_succ_cons, List.take_zero, List.drop_succ_cons, List.drop_zero]
        change wpStill _ _ (World.drew w3) (fun a' => wpList _ _ _ _ a' (World.drew w3)) _ _
        iterate 13 still_step
        refine wpStill_nil ?_
        go_wp2
        go_roundw
        case rel => exact ⟨k + 1, by omega, by go_num, ((hbr.trans (hb3.mono hbr.size)).setCell (by simp) _).drew, (b13.set (by simp) _).drew, (hc3.set (fun b off h1 => by have := HAB.out b off h1 HZ.out; simp; omega) _).drew, byt_step HT hql hG3⟩
        case measure => simp [intOf]; omega
    · have hkx : k = xn := by omega
      subst hkx
      have hconv := conv_bytes hGr (bst_len zs m k)
      go_wp2
      go_ret
      exact ⟨rfl, hbr⟩
end Go.Proofs.YtddjmhfcaeckgaaDoor
