import Derived.Test.YtddjmhfcaeckgaaDoorP
import Derived.Laws.IdiomStrings
namespace Go.Proofs.YtddjmhfcaeckgaaDoor
open Go.RowKit
set_option linter.unusedVariables false
set_option linter.unusedSimpArgs false

theorem Cells.belowB {B : Nat} {w w' : World} {a : Option Addr} {zs : List Int} (h : Cells w a zs) (hb : Below B w w') (ha : ∀ b off, a = some ⟨b, off, none⟩ → zs ≠ [] → b < B) : Cells w' a zs := by
  by_cases hz : zs = []
  · exact .inl hz
  rcases h with h | ⟨b, off, h1, h2, h3⟩
  · exact .inl h
  · exact .inr ⟨b, off, h1, Nat.lt_of_lt_of_le h2 hb.size, fun i hi => (hb.cell (p := ⟨b, off + i, none⟩) (ha b off h1 hz)).trans (h3 i hi)⟩
theorem Cells.lt {w : World} {a : Option Addr} {zs : List Int} (h : Cells w a zs) : ∀ b off, a = some ⟨b, off, none⟩ → zs ≠ [] → b < w.heap.size := by
  intro b off h1 h2
  rcases h with h | ⟨b', off', h', hb', _⟩
  · exact absurd h h2
  · rw [h1] at h'; simp at h'; omega
/-- Bytes as a string. -/
def strOf (bs : List Int) : ByteArray := bs.foldl (fun r n => r.push (UInt8.ofNat n.toNat)) ByteArray.empty
theorem conv_bytes {w : World} {g m : Nat} {bs : List Int} (h : Byt w g bs) (hm : bs.length = m) : (convert 71 9 (.slice (some ⟨g, 0, none⟩) m m)).run Tryd.prog w = .ok (.string (strOf bs)) w := by
  rw [run_convert_bytes_string w 71 9 5 _ _ _ (by kernel_rfl) (by kernel_rfl) (by kernel_rfl)]
  have hl := run_loadCells_list (P := Tryd.prog) w ⟨g, 0, none⟩ (bs.map (Value.int .u8)) (fun j v hj => by
    obtain ⟨hl, he⟩ := List.getElem?_eq_some_iff.1 hj
    simp at hl he
    rw [Addr.add_lit, Nat.zero_add, h.cell j hl, ← he]
    simp [hl])
  rw [List.length_map, hm] at hl
  exact run_bytesToString w ⟨g, 0, none⟩ m m bs hl

theorem bytes_yes (x : Int) (a : Option Addr) (n cap m : Nat) (zs : List Int) (w : World) (hz : zs.length = n) (hc : Cells w a zs) (hy : mayB x zs = true) (hm : (m : Int) = (x + 7) / 8) :
    Calls Tryd.prog 34 #[.agg #[.int .i64 x, .slice a n cap]] w fun e w' => e = .returned (.tuple #[.string (strOf (bst zs m x.toNat)), .int .i64 0]) ∧ Below w.heap.size w w' := by
  obtain ⟨hw1, hw2, hw3⟩ := mayB_width hy
  obtain ⟨xn, rfl⟩ := Int.eq_ofNat_of_zero_le hw1
  have hab := hc.lt
  have b1 := At.new w (Two (.int .i64 xn) (.slice a n cap))
  have hc1 := hc.alloc (Two (.int .i64 xn) (.slice a n cap))
  obtain ⟨i0, hi, hz0, hz1, hz2⟩ := info_parts Tryd.info5
  have HM : Hid ((m : Int) = ((xn : Int) + 7) / 8) := hm
  have hmx : m ≤ 130 := by omega
  have hmk : ∀ k, k < xn → k / 8 < m := fun k hk => by omega
  have HK : Hid (∀ k, k < xn → k / 8 < m) := hmk
  clear hm hw3 hc hmk
  go_enter Tryd.func34, Tryd.ntmps34
  go_wp2_with (first
    | (go_at_call 9; refine (may_yes _ _ _ _ zs _ hz hc1 hy).mono ?_; rintro e w1 ⟨rfl, hb1⟩; have b11 := b1.below hb1; have hc2 := hc1.below hb1; obtain ⟨c10, c11, f1⟩ := b11.all; have hs1 := b11.lt)
    | (go_at_call 53; refine (byteCount_any _ _ hw1 hw2).mono ?_; rintro e w' ⟨rfl, hww⟩; have hww' := hww.symm; clear hww; subst hww')
    | (at_make; refine wpList_make_full _ rfl _ _ 71 rfl w1.heap.size 5 i0 (.int .u8 0) 1 (by kernel_rfl) hi hz0 hz1 .i64 .i64 _ _ m rfl rfl HM.out.symm HM.out.symm (by rw [hz2]; omega) (by unfold maxLen; omega) (Nat.le_refl _) ?_; intro w2 hown2 hgrow2; have HG := byt_made hown2; have hb2 := below_of_grown hgrow2; clear hown2 hgrow2 c10 c11 f1; have b12 := b11.below hb2; have hc3 := hc2.below hb2; obtain ⟨c10, c11, f1⟩ := b12.all; have hg2 := HG.at.lt; have hl2 := b12.lt; have hl3 : w.heap.size ≠ w2.heap.size := (by omega); have hl4 : w.heap.size ≠ w2.heap.size + 1 := (by omega)))
  have hbo : At ((w2.alloc (One (.slice (some ⟨w1.heap.size, 0, none⟩) m m) 71)).alloc (One (.int .i64 0) 3)) w2.heap.size (One (.slice (some ⟨w1.heap.size, 0, none⟩) m m) 71) := (At.new w2 _).alloc _
  have hbk : At ((w2.alloc (One (.slice (some ⟨w1.heap.size, 0, none⟩) m m) 71)).alloc (One (.int .i64 0) 3)) (w2.heap.size + 1) (One (.int .i64 0) 3) := by
    have h := At.new (w2.alloc (One (.slice (some ⟨w1.heap.size, 0, none⟩) m m) 71)) (One (.int .i64 0) 3)
    rw [World.size_alloc] at h
    exact h
  have hGW : Byt ((w2.alloc (One (.slice (some ⟨w1.heap.size, 0, none⟩) m m) 71)).alloc (One (.int .i64 0) 3)) w1.heap.size (List.replicate m 0) := (HG.at.alloc _).alloc _
  have b1W := (b12.alloc (One (.slice (some ⟨w1.heap.size, 0, none⟩) m m) 71)).alloc (One (.int .i64 0) 3)
  have hcW := (hc3.alloc (One (.slice (some ⟨w1.heap.size, 0, none⟩) m m) 71)).alloc (One (.int .i64 0) 3)
  have hbW : Below w.heap.size w ((w2.alloc (One (.slice (some ⟨w1.heap.size, 0, none⟩) m m) 71)).alloc (One (.int .i64 0) 3)) := (((below1 hb1).trans (hb2.mono (by omega))).alloc (by omega) _).alloc (by simp; omega) _
  clear b1 hc1 b11 hc2 b12 hc3 HG hb1 c10 c11 f1
  have hd1 : w2.heap.size ≠ w2.heap.size + 1 := by omega
  have hd2 : w1.heap.size ≠ w2.heap.size + 1 := by omega
  have hd3 : w2.heap.size ≠ w1.heap.size := by omega
  go_loopw [18] (fun i wr => ∃ k : Nat, k ≤ xn ∧ i = .int .i64 k ∧ Below w.heap.size w wr ∧ At wr w.heap.size (Two (.int .i64 xn) (.slice a n cap)) ∧ Cells wr a zs ∧ At wr w2.heap.size (One (.slice (some ⟨w1.heap.size, 0, none⟩) m m) 71) ∧ At wr (w2.heap.size + 1) (One (.int .i64 k) 3) ∧ Byt wr w1.heap.size (bst zs m k)) (fun i _ => xn - (intOf i).toNat)
  case atStart => exact ⟨0, Nat.zero_le _, rfl, hbW, b1W, hcW, hbo, hbk, hGW⟩
  case round =>
    obtain ⟨k, hk, rfl, hbr, b1r, hcr, bor, bkr, hGr⟩ := hrel
    clear hbW b1W hcW hbo hbk hGW
    obtain ⟨c10, c11, f1⟩ := b1r.all
    obtain ⟨o1, o2⟩ := bor.one
    by_cases hlt : k < xn
    · have hk8 := HK.out k hlt
      have hkz1 : (0 : Int) ≤ (k : Int) := by omega
      have hkz2 : (k : Int) < (xn : Int) := by omega
      have HK8 : Hid (k / 8 < m) := hk8
      clear hk8
      go_wp2_with (first
        | (go_at_call 17; refine (get_yes _ _ _ _ _ zs _ hz hcr hy hkz1 hkz2).mono ?_; rintro e w3 ⟨rfl, hb3⟩; have bor3 := bor.below hb3; have bkr3 := bkr.below hb3; have hGr3 : Byt w3 w1.heap.size (bst zs m k) := hGr.at.below hb3; have hcr3 := hcr.below hb3; have b1r3 := b1r.below hb3)
        | (go_at_call 54; refine (put_any _ _ _ _ _ k (bst zs m k) _ bor3 bkr3 hGr3 (bst_len zs m k) (by omega) HK8.out hd1 hd2 hd3).mono ?_; rintro e w4 ⟨rfl, bor4, bkr4, hGr4, hb4⟩))
      have hb4' := hb4 (w.heap.size + 1) (by omega) (by omega)
      go_roundw
      case rel => exact ⟨k + 1, by omega, by go_num, (hbr.trans (hb3.mono hbr.size)).trans (hb4'.mono (by omega)), b1r3.belowB hb4' (by omega), hcr3.belowB hb4' (fun b off h1 h2 => by have := hab b off h1 h2; omega), bor4, bkr4, hGr4⟩
      case measure => simp [intOf]; omega
    · have hkx : k = xn := by omega
      subst hkx
      have hconv := conv_bytes hGr (bst_len zs m k)
      clear c10 c11 f1
      go_wp2
      go_ret2
      exact ⟨rfl, hbr⟩
end Go.Proofs.YtddjmhfcaeckgaaDoor
