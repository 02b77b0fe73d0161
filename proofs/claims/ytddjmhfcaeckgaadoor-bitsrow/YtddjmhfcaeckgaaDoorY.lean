import Derived.Test.YtddjmhfcaeckgaaDoorX
namespace Go.Proofs.YtddjmhfcaeckgaaDoor
open Go.RowKit
set_option linter.unusedVariables false
set_option linter.unusedSimpArgs false

theorem read_arg (x : Int) (s : ByteArray) (w : World) (h : ¬ (0 ≤ x ∧ x ≤ 1032)) :
    Calls Tryd.prog 36 #[.int .i64 x, .string s] w fun e w' => e = .returned (.tuple #[.agg #[.int .i64 0, .slice none 0 0], .int .i64 0, .int .i64 2]) ∧ Below w.heap.size w w' := by
  have b1 := At.new w (Two (.int .i64 0) (.slice none 0 0))
  go_enter Tryd.func36, Tryd.ntmps36
  go_wp2_with (go_at_call 12; refine (new_no x _ h).mono ?_; rintro e w1 ⟨rfl, hb1⟩; have b11 := b1.below hb1; obtain ⟨c10, c11, f1⟩ := b11.all)
  have bf := (b11.setTwo (.int .i64 0) (.slice none 0 0)).setTwo (.int .i64 0) (.slice none 0 0)
  have hbf := below_setTwo (below_setTwo (below1 hb1) (Nat.le_refl _) (.int .i64 0) (.slice none 0 0)) (Nat.le_refl _) (.int .i64 0) (.slice none 0 0)
  clear b1 b11 c10 c11 f1 hb1
  generalize (((w1.setCell ⟨w.heap.size, 0, none⟩ (.int .i64 0)).setCell ⟨w.heap.size, 1, none⟩ (.slice none 0 0)).setCell ⟨w.heap.size, 0, none⟩ (.int .i64 0)).setCell ⟨w.heap.size, 1, none⟩ (.slice none 0 0) = wf at *
  obtain ⟨e0, e1, _⟩ := bf.all
  exact bodyPost_ret (v := .tuple #[.agg #[.int .i64 0, .slice none 0 0], .int .i64 0, .int .i64 2]) (by simp [results, Tryd.results36, go_sem, e0, e1]) rfl ⟨rfl, hbf⟩

theorem read_err (x : Int) (s : ByteArray) (m n k : Nat) (w : World) (h0 : 0 ≤ x) (h1 : x ≤ 1032) (hm : (x + 7) / 8 = (m : Int)) (hn : (n : Int) = (x + 63) / 64) (hs : s.size ≤ 5000) (hG : ∀ w, Calls Tryd.prog 56 #[.int .i64 x, .string s] w fun e w' => e = .returned (.int .i64 k) ∧ w' = w) (hne : k ≠ s.size ∨ k ≠ m) :
    Calls Tryd.prog 36 #[.int .i64 x, .string s] w fun e w' => e = .returned (.tuple #[.agg #[.int .i64 0, .slice none 0 0], .int .i64 k, .int .i64 10]) ∧ Below w.heap.size w w' := by
  have b1 := At.new w (Two (.int .i64 0) (.slice none 0 0))
  have fin : ∀ (w1 : World) (g : Nat), At w1 w.heap.size (Two (.int .i64 0) (.slice none 0 0)) → Below w.heap.size w w1 → ∃ wf, ((((w1.setCell ⟨w.heap.size, 0, none⟩ (.int .i64 x)).setCell ⟨w.heap.size, 1, none⟩ (.slice (some ⟨g, 0, none⟩) n n)).setCell ⟨w.heap.size, 0, none⟩ (.int .i64 0)).setCell ⟨w.heap.size, 1, none⟩ (.slice none 0 0)) = wf ∧ At wf w.heap.size (Two (.int .i64 0) (.slice none 0 0)) ∧ Below w.heap.size w wf := fun w1 g h hb =>
    ⟨_, rfl, (h.setTwo _ _).setTwo _ _, below_setTwo (below_setTwo hb (Nat.le_refl _) _ _) (Nat.le_refl _) _ _⟩
  have HG : Hid (∀ w, Calls Tryd.prog 56 #[.int .i64 x, .string s] w fun e w' => e = .returned (.int .i64 k) ∧ w' = w) := hG
  have HF : Hid (∀ (w1 : World) (g : Nat), At w1 w.heap.size (Two (.int .i64 0) (.slice none 0 0)) → Below w.heap.size w w1 → ∃ wf, ((((w1.setCell ⟨w.heap.size, 0, none⟩ (.int .i64 x)).setCell ⟨w.heap.size, 1, none⟩ (.slice (some ⟨g, 0, none⟩) n n)).setCell ⟨w.heap.size, 0, none⟩ (.int .i64 0)).setCell ⟨w.heap.size, 1, none⟩ (.slice none 0 0)) = wf ∧ At wf w.heap.size (Two (.int .i64 0) (.slice none 0 0)) ∧ Below w.heap.size w wf) := fin
  clear hG fin
  by_cases hk1 : k = s.size
  · have hd1 : ((k : Int) != (s.size : Int)) = false := by simp; omega
    have hd2 : ((k : Int) != (m : Int)) = true := by simp; omega
    have HK : Hid (k = s.size) := hk1
    clear hne hk1
    go_enter Tryd.func36, Tryd.ntmps36
    go_wp2_with (first
      | (go_at_call 12; refine (new_yes x n _ h0 h1 hn).mono ?_; rintro e w1 ⟨g, rfl, hg, hblk, hb1⟩; have b11 := b1.below hb1; obtain ⟨c10, c11, f1⟩ := b11.all)
      | (go_at_call 56; refine (HG.out _).mono ?_; rintro e w2 ⟨rfl, rfl⟩)
      | (go_at_call 53; refine (byteCount_any _ _ h0 h1).mono ?_; rintro e w2 ⟨rfl, rfl⟩))
    obtain ⟨wf, hwf, bf, hbf⟩ := HF.out w1 g b11 (below1 hb1)
    clear b1 b11 c10 c11 f1 hb1 hblk hg
    rw [hwf]
    obtain ⟨e0, e1, _⟩ := bf.all
    exact bodyPost_ret (v := .tuple #[.agg #[.int .i64 0, .slice none 0 0], .int .i64 k, .int .i64 10]) (by simp [results, Tryd.results36, go_sem, e0, e1]) rfl ⟨rfl, hbf⟩
  · have hd1 : ((k : Int) != (s.size : Int)) = true := by simp; omega
    clear hne hk1
    go_enter Tryd.func36, Tryd.ntmps36
    go_wp2_with (first
      | (go_at_call 12; refine (new_yes x n _ h0 h1 hn).mono ?_; rintro e w1 ⟨g, rfl, hg, hblk, hb1⟩; have b11 := b1.below hb1; obtain ⟨c10, c11, f1⟩ := b11.all)
      | (go_at_call 56; refine (HG.out _).mono ?_; rintro e w2 ⟨rfl, rfl⟩))
    obtain ⟨wf, hwf, bf, hbf⟩ := HF.out w1 g b11 (below1 hb1)
    clear b1 b11 c10 c11 f1 hb1 hblk hg
    rw [hwf]
    obtain ⟨e0, e1, _⟩ := bf.all
    exact bodyPost_ret (v := .tuple #[.agg #[.int .i64 0, .slice none 0 0], .int .i64 k, .int .i64 10]) (by simp [results, Tryd.results36, go_sem, e0, e1]) rfl ⟨rfl, hbf⟩

theorem read_ok (xn : Nat) (s : ByteArray) (m n : Nat) (w : World) (h1 : (xn : Int) ≤ 1032) (hm : ((xn : Int) + 7) / 8 = (m : Int)) (hn : (n : Int) = ((xn : Int) + 63) / 64) (hs : s.size = m) (hG : ∀ w, Calls Tryd.prog 56 #[.int .i64 xn, .string s] w fun e w' => e = .returned (.int .i64 m) ∧ w' = w) :
    Calls Tryd.prog 36 #[.int .i64 xn, .string s] w fun e w' => ∃ g, e = .returned (.tuple #[.agg #[.int .i64 xn, .slice (some ⟨g, 0, none⟩) n n], .int .i64 0, .int .i64 0]) ∧ w.heap.size ≤ g ∧ Blk w' g (wst s n xn) ∧ Below w.heap.size w w' := by
  have h0 : (0 : Int) ≤ (xn : Int) := by omega
  have b1 := At.new w (Two (.int .i64 0) (.slice none 0 0))
  have HG : Hid (∀ w, Calls Tryd.prog 56 #[.int .i64 xn, .string s] w fun e w' => e = .returned (.int .i64 m) ∧ w' = w) := hG
  have hd1 : ((m : Int) != (s.size : Int)) = false := by simp; omega
  have HM : Hid (∀ k, k < xn → k / 8 < s.size ∧ k / 64 < n) := fun k hk => ⟨by omega, by omega⟩
  have hnm : n ≤ 17 := by omega
  have hxm : xn ≤ 1032 := by omega
  have HS : Hid (s.size = m) := hs
  have HN : Hid ((n : Int) = ((xn : Int) + 63) / 64) := hn
  clear hG hs hn
  go_enter Tryd.func36, Tryd.ntmps36
  go_wp2_with (first
    | (go_at_call 12; refine (new_yes xn n _ h0 h1 HN.out).mono ?_; rintro e w1 ⟨g, rfl, hg, hblk, hb1⟩; have b11 := b1.below hb1; obtain ⟨c10, c11, f1⟩ := b11.all)
    | (go_at_call 56; refine (HG.out _).mono ?_; rintro e w2 ⟨rfl, rfl⟩)
    | (go_at_call 53; refine (byteCount_any _ _ h0 h1).mono ?_; rintro e w2 ⟨rfl, rfl⟩))
  have hs1 := b11.lt
  simp only [World.size_alloc] at hg
  have hgl := hblk.lt
  obtain ⟨wk, hwk⟩ : ∃ wk, wk = ((w1.setCell ⟨w.heap.size, 0, none⟩ (.int .i64 xn)).setCell ⟨w.heap.size, 1, none⟩ (.slice (some ⟨g, 0, none⟩) n n)).alloc (One (.int .i64 0) 3) := ⟨_, rfl⟩
  have brk : At wk w.heap.size (Two (.int .i64 xn) (.slice (some ⟨g, 0, none⟩) n n)) := by rw [hwk]; exact (b11.setTwo _ _).alloc _
  have bkk : At wk w1.heap.size (One (.int .i64 0) 3) := by
    rw [hwk]
    have h := At.new ((w1.setCell ⟨w.heap.size, 0, none⟩ (.int .i64 xn)).setCell ⟨w.heap.size, 1, none⟩ (.slice (some ⟨g, 0, none⟩) n n)) (One (.int .i64 0) 3)
    simpa using h
  have hgk : Blk wk g (List.replicate n 0) := by rw [hwk]; exact ((hblk.at.set (by simp; omega) _).set (by simp; omega) _).alloc _
  have hbk : Below w.heap.size w wk := by rw [hwk]; exact (below_setTwo (below1 hb1) (Nat.le_refl _) _ _).alloc (by have := (below1 hb1).size; simp; omega) _
  clear b1 b11 c10 c11 f1 hb1 hblk
  have hwk' : ((w1.setCell ⟨w.heap.size, 0, none⟩ (.int .i64 xn)).setCell ⟨w.heap.size, 1, none⟩ (.slice (some ⟨g, 0, none⟩) n n)).alloc (.cells #[.int .i64 0] 3) = wk := hwk.symm
  rw [hwk']
  clear hwk hwk'
  generalize hw1 : w1.heap.size = bk at *
  clear hw1
  have hd3 : w.heap.size ≠ bk := by omega
  have hd4 : g ≠ bk := by omega
  have hd5 : w.heap.size ≠ g := by omega
  go_loopw [37] (fun i wr => ∃ k : Nat, k ≤ xn ∧ i = .int .i64 k ∧ Below w.heap.size w wr ∧ At wr w.heap.size (Two (.int .i64 xn) (.slice (some ⟨g, 0, none⟩) n n)) ∧ At wr bk (One (.int .i64 k) 3) ∧ Blk wr g (wst s n k)) (fun i _ => xn - (intOf i).toNat)
  case atStart => exact ⟨0, Nat.zero_le _, rfl, hbk, brk, bkk, hgk⟩
  case round =>
    obtain ⟨k, hk, rfl, hbr, b1r, bkr, hGr⟩ := hrel
    clear hbk brk bkk hgk
    obtain ⟨c10, c11, f1⟩ := b1r.all
    by_cases hlt : k < xn
    · obtain ⟨hk8, hk64⟩ := HM.out k hlt
      obtain ⟨q, hqq⟩ : ∃ q, q = k / 8 := ⟨_, rfl⟩
      have hq : (k : Int) / 8 = (q : Int) := by omega
      rw [← hqq] at hk8
      obtain ⟨b, hb⟩ : ∃ b, ((s[q]).toNat : Int) = b := ⟨_, rfl⟩
      have hidx := idx_str hk8 hb
      have HBt : Hid (sbit s k = (bits .and .u8 b (bbit k) != 0)) := by
        show sbit s k = _
        unfold sbit sb
        rw [← hqq, dif_pos hk8, hb]
      have HK64 : Hid (k / 64 < n) := hk64
      have hx3 : IntKind.i64.wrap (q : Int) = (q : Int) := IntWalk.i64_in _ ⟨by omega, by omega⟩
      have hx4 : (k : Int).tdiv 8 = (q : Int) := (Int.tdiv_eq_ediv_of_nonneg (by omega)).trans hq
      clear hqq hb hk64 hk8
      go_wp2
      refine wp_region_still_tail 9 (by kernel_rfl) (by kernel_rfl) ?_
      simp only [List.take_succ_cons, List.take_zero, List.drop_succ_cons, List.drop_zero]
      change wpStill _ _ (World.drew wr) (fun a' => wpList _ _ _ _ a' (World.drew wr)) _ _
      iterate 6 still_step
      still_call (byteBit_b (k : Int) wr.drew (by omega) (by omega))
      iterate 2 still_step
      refine wpStill_nil ?_
      go_wp2_with (go_at_call 57; refine (putw_any _ _ _ _ _ k _ (wst s n k) _ b1r.drew bkr.drew (hGr.at.drew) (wst_len s n k) (by omega) HK64.out hd3 hd4 hd5).mono ?_; rintro e w4 ⟨rfl, b1r4, bkr4, hGr4, hb4⟩)
      have hb4' := hb4 w.heap.size (by omega) (by omega)
      go_roundw
      case rel => exact ⟨k + 1, by omega, by go_num, hbr.drew.trans hb4', b1r4, bkr4, by show Blk w4 g (putW (sbit s k) (wst s n k) k); rw [HBt.out]; exact hGr4⟩
      case measure => simp [intOf]; omega
    · have hkx : k = xn := by omega
      subst hkx
      go_wp2
      have bf := b1r.setTwo (.int .i64 (k : Int)) (.slice (some ⟨g, 0, none⟩) n n)
      have hbf := below_setTwo hbr (Nat.le_refl _) (.int .i64 (k : Int)) (.slice (some ⟨g, 0, none⟩) n n)
      have hGf : Blk ((wr.setCell ⟨w.heap.size, 0, none⟩ (.int .i64 (k : Int))).setCell ⟨w.heap.size, 1, none⟩ (.slice (some ⟨g, 0, none⟩) n n)) g (wst s n k) := (hGr.at.set hd5.symm _).set hd5.symm _
      clear b1r hbr hGr bkr c10 c11 f1
      generalize (wr.setCell ⟨w.heap.size, 0, none⟩ (.int .i64 (k : Int))).setCell ⟨w.heap.size, 1, none⟩ (.slice (some ⟨g, 0, none⟩) n n) = wf at *
      obtain ⟨e0, e1, _⟩ := bf.all
      exact bodyPost_ret (v := .tuple #[.agg #[.int .i64 (k : Int), .slice (some ⟨g, 0, none⟩) n n], .int .i64 0, .int .i64 0]) (by simp [results, Tryd.results36, go_sem, e0, e1]) rfl ⟨g, rfl, by omega, hGf, hbf⟩
end Go.Proofs.YtddjmhfcaeckgaaDoor
