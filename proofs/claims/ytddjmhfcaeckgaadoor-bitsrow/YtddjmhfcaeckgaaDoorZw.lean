import Derived.Test.YtddjmhfcaeckgaaDoorZb
import Derived.Test.YtddjmhfcaeckgaaDoorZi
namespace Go.Proofs.YtddjmhfcaeckgaaDoor
open Go.RowKit
set_option linter.unusedVariables false
set_option linter.unusedSimpArgs false

/-- Is the bit j of a byte set, the first being the highest? -/
def fb (b : Int) (j : Nat) : Bool := bits .and .u8 b (128 / 2 ^ j) != 0
/-- A byte by its bits. -/
def byteOf (f : Nat → Bool) : Int := (if f 0 then 128 else 0) + (if f 1 then 64 else 0) + (if f 2 then 32 else 0) + (if f 3 then 16 else 0) + (if f 4 then 8 else 0) + (if f 5 then 4 else 0) + (if f 6 then 2 else 0) + (if f 7 then 1 else 0)
theorem byte_of : ∀ b : Fin 256, byteOf (fb (b.val : Int)) = (b.val : Int) := by decide +kernel
theorem fb_or : ∀ b : Fin 256, ∀ i j : Fin 8, fb (bits .or .u8 (b.val : Int) (128 / 2 ^ i.val)) j.val = (decide (i = j) || fb (b.val : Int) j.val) := by decide +kernel
theorem or_byte : ∀ b : Fin 256, ∀ i : Fin 8, 0 ≤ bits .or .u8 (b.val : Int) (128 / 2 ^ i.val) ∧ bits .or .u8 (b.val : Int) (128 / 2 ^ i.val) < 256 := by decide +kernel
/-- All of these are bytes. -/
def Bd (bs : List Int) : Prop := ∀ i, 0 ≤ bs.getD i 0 ∧ bs.getD i 0 < 256
theorem byte_ext {b c : Int} (hb : 0 ≤ b ∧ b < 256) (hc : 0 ≤ c ∧ c < 256) (h : ∀ j, j < 8 → fb b j = fb c j) : b = c := by
  obtain ⟨x, rfl⟩ := Int.eq_ofNat_of_zero_le hb.1
  obtain ⟨y, rfl⟩ := Int.eq_ofNat_of_zero_le hc.1
  have h1 := byte_of ⟨x, by omega⟩
  have h2 := byte_of ⟨y, by omega⟩
  rw [← h1, ← h2]
  unfold byteOf
  simp only [h 0 (by omega), h 1 (by omega), h 2 (by omega), h 3 (by omega), h 4 (by omega), h 5 (by omega), h 6 (by omega), h 7 (by omega)]
/-- Is the bit k of these bytes set? -/
def hb (bs : List Int) (k : Nat) : Bool := fb (bs.getD (k / 8) 0) (k % 8)
theorem hb_zero (m k : Nat) : hb (List.replicate m 0) k = false := by
  unfold hb
  have : (List.replicate m (0 : Int)).getD (k / 8) 0 = 0 := by
    rw [List.getD_eq_getElem?_getD, List.getElem?_replicate]
    split <;> rfl
  rw [this]
  have h := (show ∀ j : Fin 8, fb 0 j.val = false by decide) ⟨k % 8, by omega⟩
  exact h
theorem bd_zero (m : Nat) : Bd (List.replicate m 0) := by
  intro i
  have : (List.replicate m (0 : Int)).getD i 0 = 0 := by
    rw [List.getD_eq_getElem?_getD, List.getElem?_replicate]
    split <;> rfl
  rw [this]; decide
theorem bbit_nat (k : Nat) : bbit (k : Int) = 128 / 2 ^ (k % 8) := by
  unfold bbit
  rw [show ((k : Int) % 8).toNat = k % 8 by omega]
theorem bd_put {bs : List Int} (h : Bd bs) (b : Bool) (k : Nat) : Bd (putF b bs k) := by
  unfold putF
  split
  · intro i
    rw [List.getD_eq_getElem?_getD, List.getElem?_set]
    have h1 := h i
    have h2 := h (k / 8)
    rw [List.getD_eq_getElem?_getD] at h1
    split
    · split
      · obtain ⟨x, hx⟩ := Int.eq_ofNat_of_zero_le h2.1
        rw [hx] at h2 ⊢
        rw [bbit_nat]
        exact or_byte ⟨x, by omega⟩ ⟨k % 8, by omega⟩
      · exact ⟨by simp, by simp⟩
    · exact h1
  · exact h
theorem hb_put {bs : List Int} {m i k : Nat} (hl : bs.length = m) (hbd : Bd bs) (hi : i < 8 * m) (hk : k < 8 * m) (b : Bool) : hb (putF b bs i) k = ((decide (k = i) && b) || hb bs k) := by
  unfold putF
  cases b
  · simp
  · simp only [if_true, Bool.and_true]
    unfold hb
    rw [List.getD_eq_getElem?_getD, List.getElem?_set]
    by_cases h : i / 8 = k / 8
    · rw [if_pos h, if_pos (by omega)]
      obtain ⟨x, hx⟩ := Int.eq_ofNat_of_zero_le (hbd (i / 8)).1
      have hlt := (hbd (i / 8)).2
      rw [← h, hx, bbit_nat]
      rw [hx] at hlt
      have := fb_or ⟨x, by omega⟩ ⟨i % 8, by omega⟩ ⟨k % 8, by omega⟩
      simp only [Option.getD_some]
      rw [this]
      congr 1
      by_cases e : k = i
      · subst e; simp
      · have : ¬ i % 8 = k % 8 := by omega
        simp [e, this]
    · rw [if_neg h]
      have e : ¬ k = i := fun e => h (by rw [e])
      simp [e]
theorem bst_bd (zs : List Int) (m : Nat) : ∀ k, Bd (bst zs m k) := by
  intro k
  induction k with
  | zero => exact bd_zero m
  | succ k ih => exact bd_put ih _ _
theorem hb_bst {zs : List Int} (hw : Words zs) {m k : Nat} (hk : k < 8 * m) : ∀ x, x ≤ 8 * m → hb (bst zs m x) k = (decide (k < x) && gb zs k) := by
  intro x
  induction x with
  | zero => intro _; show hb (List.replicate m 0) k = _; rw [hb_zero]; simp
  | succ x ih =>
    intro hx
    show hb (putF (getB zs x) (bst zs m x) x) k = _
    rw [hb_put (bst_len zs m x) (bst_bd zs m x) (by omega) hk, ih (by omega), getB_gb zs x hw]
    by_cases e : k = x
    · subst e; simp
    · by_cases h : k < x
      · have h' : k < x + 1 := by omega
        simp [e, h, h']
      · have h' : ¬ k < x + 1 := by omega
        simp [e, h, h']
/-- The bytes of a text that was made of them. -/
theorem strOf_data (bs : List Int) : strOf bs = ⟨(bs.map fun n => UInt8.ofNat n.toNat).toArray⟩ := by
  have key : ∀ (l : List Int) (r : ByteArray), (l.foldl (fun r n => r.push (UInt8.ofNat n.toNat)) r).data = r.data ++ (l.map fun n => UInt8.ofNat n.toNat).toArray := by
    intro l
    induction l with
    | nil => intro r; simp
    | cons n l ih =>
      intro r
      rw [List.foldl_cons, ih]
      simp [ByteArray.push]
  have h := key bs ByteArray.empty
  unfold strOf
  apply ByteArray.ext
  rw [h]
  have e : ByteArray.empty.data = #[] := rfl
  rw [e]
  simp
theorem strOf_size (bs : List Int) : (strOf bs).size = bs.length := by
  rw [strOf_data]; simp [ByteArray.size]
theorem sb_strOf {bs : List Int} (h : Bd bs) (i : Nat) : sb (strOf bs) i = bs.getD i 0 := by
  unfold sb
  by_cases hi : i < bs.length
  · have hi' : i < (strOf bs).size := by rw [strOf_size]; exact hi
    rw [dif_pos hi']
    have hb := h i
    have e : bs.getD i 0 = bs[i] := by simp [hi]
    rw [e] at hb ⊢
    have : (strOf bs)[i] = UInt8.ofNat bs[i].toNat := by
      simp only [strOf_data]
      simp [ByteArray.getElem_eq_getElem_data]
    rw [this]
    rw [UInt8.toNat_ofNat']
    omega
  · have hi' : ¬ i < (strOf bs).size := by rw [strOf_size]; exact hi
    rw [dif_neg hi', List.getD_eq_getElem?_getD, List.getElem?_eq_none (by omega)]; rfl
theorem str_ext {s t : ByteArray} {m : Nat} (hs : s.size = m) (ht : t.size = m) (h : ∀ i, i < m → sb s i = sb t i) : s = t := by
  apply ByteArray.ext
  apply Array.ext
  · exact hs.trans ht.symm
  · intro i h1 h2
    have h1' : i < s.size := h1
    have h2' : i < t.size := h2
    have := h i (by omega)
    unfold sb at this
    rw [dif_pos h1', dif_pos h2'] at this
    have e : (s[i]).toNat = (t[i]).toNat := by omega
    exact UInt8.toNat_inj.1 e
theorem sbit_fb (s : ByteArray) (k : Nat) : sbit s k = fb (sb s (k / 8)) (k % 8) := by
  unfold sbit fb
  rw [bbit_nat]
theorem wst_build (s : ByteArray) (n : Nat) : ∀ k, wst s n k = build (sbit s) n k := by
  intro k
  induction k with
  | zero => rfl
  | succ k ih => show putW (sbit s k) (wst s n k) k = putW (sbit s k) (build (sbit s) n k) k; rw [ih]

/-- No bit behind the width is set. -/
def Good (xn m : Nat) (s : ByteArray) : Prop := s.size = m ∧ ∀ i j, i < m → j < 8 → ¬ badAt xn s i (8 * i + j)
/-- A row's bytes are good, and read back as its words. -/
theorem back_words {xn n m : Nat} {zs : List Int} (hz : zs.length = n) (hw : Words zs) (hy : mayB (xn : Int) zs = true) (hm : ((xn : Int) + 7) / 8 = (m : Int)) : Good xn m (strOf (bst zs m xn)) ∧ wst (strOf (bst zs m xn)) n xn = zs := by
  obtain ⟨q1, q2, q3⟩ := mayB_width hy
  have hxm : xn ≤ 8 * m := by omega
  have hxn : xn ≤ 64 * n := by omega
  have hbit : ∀ k, k < 8 * m → sbit (strOf (bst zs m xn)) k = (decide (k < xn) && gb zs k) := fun k hk => by
    rw [sbit_fb, sb_strOf (bst_bd zs m xn)]
    exact hb_bst hw hk xn hxm
  refine ⟨⟨by rw [strOf_size, bst_len], fun i j hi hj hbad => ?_⟩, ?_⟩
  · have h1 := hbit (8 * i + j) (by omega)
    have h2 : ¬ 8 * i + j < xn := by have := hbad.1; omega
    rw [decide_eq_false h2, Bool.false_and, sbit_fb, show (8 * i + j) / 8 = i by omega] at h1
    have h3 := hbad.2
    unfold fb at h1
    rw [h1] at h3
    cases h3
  · rw [wst_build]
    refine words_ext (n := n) (build_words _ _ _) hw (build_len _ _ _) hz fun k hk => ?_
    rw [gb_build _ hk xn hxn]
    by_cases h : k < xn
    · rw [hbit k (by omega)]; simp [h]
    · rw [mayB_high hy hw (by omega) (by omega)]; simp [h]
/-- What is read of good bytes may be, and has just these bytes. -/
theorem back_bytes {xn n m : Nat} {s : ByteArray} (h1 : xn ≤ 1032) (hm : ((xn : Int) + 7) / 8 = (m : Int)) (hn : (n : Int) = ((xn : Int) + 63) / 64) (hg : Good xn m s) : mayB (xn : Int) (wst s n xn) = true ∧ strOf (bst (wst s n xn) m xn) = s := by
  have hxm : xn ≤ 8 * m := by omega
  have hxn : xn ≤ 64 * n := by omega
  have hw : Words (wst s n xn) := by rw [wst_build]; exact build_words _ _ _
  have hgb : ∀ k, k < 64 * n → gb (wst s n xn) k = (decide (k < xn) && sbit s k) := fun k hk => by rw [wst_build]; exact gb_build _ hk xn hxn
  refine ⟨mayB_of (n := n) h1 (wst_len _ _ _) hn hw fun k k1 k2 => ?_, ?_⟩
  · rw [hgb k k2]
    have : ¬ k < xn := by omega
    simp [this]
  · refine str_ext (m := m) (by rw [strOf_size, bst_len]) hg.1 fun i hi => ?_
    rw [sb_strOf (bst_bd _ _ _)]
    obtain ⟨b, hb'⟩ := sb_lt s i
    refine byte_ext (bst_bd _ _ _ i) (by rw [hb']; have := b.isLt; omega) fun j hj => ?_
    have e1 := hb_bst hw (m := m) (k := 8 * i + j) (by omega) xn hxm
    unfold hb at e1
    rw [show (8 * i + j) / 8 = i by omega, show (8 * i + j) % 8 = j by omega] at e1
    rw [e1]
    by_cases h : 8 * i + j < xn
    · rw [hgb _ (by omega), sbit_fb, show (8 * i + j) / 8 = i by omega, show (8 * i + j) % 8 = j by omega]
      simp [h]
    · have := hg.2 i j hi hj
      cases hf : fb (sb s i) j
      · simp [h]
      · refine absurd ⟨by omega, ?_⟩ this
        rw [show (8 * i + j) % 8 = j by omega]
        exact hf
end Go.Proofs.YtddjmhfcaeckgaaDoor
