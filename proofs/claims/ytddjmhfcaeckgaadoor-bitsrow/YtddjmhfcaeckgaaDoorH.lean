import Derived.Test.YtddjmhfcaeckgaaDoorE
import Derived.Test.YtddjmhfcaeckgaaDoorG
namespace Go.Proofs.YtddjmhfcaeckgaaDoor
open Go.RowKit
set_option linter.unusedVariables false
set_option linter.unusedSimpArgs false

theorem ICells.drewN {w : World} {a : Option Addr} {ks : List Int} (h : ICells w a ks) (d : Nat) : ICells (w.drewN d) a ks := h
theorem Mine.drewN {w : World} {base n cap : Nat} {a : Option Addr} {zs : List Int} (h : Mine w base a n cap zs) (d : Nat) : Mine (w.drewN d) base a n cap zs := h
theorem mine_step {f : Int → Int → Int} {L ys : List Int} {z : Int} {q g base n cap : Nat} {w : World} (HT : Hid (L = turn1 f ys z)) (hq : z / 64 = (q : Int)) (hqn : q < ys.length)
    (h : Mine w base (some ⟨g, 0, none⟩) n cap ys) : Mine (w.setCell ⟨g, q, none⟩ (.int .u64 (f ys[q] (wbit z)))) base (some ⟨g, 0, none⟩) n cap L := by
  rw [HT.out]
  have e : turn1 f ys z = ys.set q (f ys[q] (wbit z)) := by
    unfold turn1
    rw [hq]
    simp [hqn]
  rw [e]
  exact h.set q _

theorem turnSet_yes (x : Int) (a : Option Addr) (n cap : Nat) (zs : List Int) (al : Option Addr) (m capl : Nat) (ks : List Int) (w : World) (hz : zs.length = n) (hw : Words zs) (hnil : a = none → cap = 0) (hc : Cells w a zs)
    (hk : ks.length = m) (hkm : m ≤ 5000) (hl : ICells w al ks) (hy : allIn x ks = true) (hmy : mayB x zs = true) :
    Calls Tryd.prog 24 #[.agg #[.int .i64 x, .slice a n cap], .slice al m capl, .bool true] w fun e w' => ∃ a' cap', e = .returned (.tuple #[.agg #[.int .i64 x, .slice a' n cap'], .int .i64 0]) ∧ Mine w' w.heap.size a' n cap' (turns (bits .or .u64) zs ks) ∧ Below w.heap.size w w' := by
  obtain ⟨hw1, hw2, hw3⟩ := mayB_width hmy
  have hnm : n ≤ 17 := by omega
  have b1 := (At.new w (Two (.int .i64 x) (.slice a n cap))).alloc (Two (.int .i64 0) (.slice none 0 0))
  have b2 := At.new (w.alloc (Two (.int .i64 x) (.slice a n cap))) (Two (.int .i64 0) (.slice none 0 0))
  simp only [World.size_alloc] at b2
  have hc1 := (hc.alloc (Two (.int .i64 x) (.slice a n cap))).alloc (Two (.int .i64 0) (.slice none 0 0))
  have hl1 := (hl.alloc (Two (.int .i64 x) (.slice a n cap))).alloc (Two (.int .i64 0) (.slice none 0 0))
  have hlA' : ∀ b off, al = some ⟨b, off, none⟩ → 0 < m → b < w.heap.size := by
    intro b off h1 h2
    rcases hl with h | ⟨b', off', h', hb', _⟩
    · subst h; simp at hk; omega
    · rw [h1] at h'; simp at h'; omega
  clear hc hl
  go_enter Tryd.func24, Tryd.ntmps24
  go_wp2_with (first
    | (go_at_call 15; refine (refMay_yes _ _ _ _ zs _ hz hw hc1 hmy).mono ?_; rintro e w1 ⟨rfl, hb1⟩; have b11 := b1.below hb1; have b21 := b2.below hb1; have hc2 := hc1.below hb1; have hl2 := hl1.below hb1; obtain ⟨c10, c11, f1⟩ := b11.all)
    | (go_at_call 51; refine (refOwn_any _ _ _ _ zs _ hz (by omega) hnil hc2).mono ?_; rintro e w2 ⟨a', cap', rfl, hM, hb2⟩; have b12 := b11.below hb2; have b22 := b21.below hb2; have hl3 := hl2.below hb2))
  have hlt1 := b21.lt
  have hlt2 := b22.lt
  have hne : ∀ g, a' = some ⟨g, 0, none⟩ → w1.heap.size ≤ g ∧ g < w2.heap.size := fun g hg => by rcases hM.form with ⟨h, _⟩ | ⟨g', h, h', h''⟩ <;> rw [h] at hg <;> simp at hg; omega
  have hbW : Below w.heap.size w (w2.alloc (Two (.int .i64 x) (.slice a' n cap'))) := ((below2 hb1).trans (hb2.mono (by omega))).alloc (by omega) _
  have b1W := b12.alloc (Two (.int .i64 x) (.slice a' n cap'))
  have b2W := b22.alloc (Two (.int .i64 x) (.slice a' n cap'))
  have b3W := At.new w2 (Two (.int .i64 x) (.slice a' n cap'))
  have hMW := hM.belowAll ((Below.refl _ _).alloc (Nat.le_refl _) (Two (.int .i64 x) (.slice a' n cap')))
  have hlW := hl3.alloc (Two (.int .i64 x) (.slice a' n cap'))
  clear b1 b2 hc1 hl1 b11 b21 b12 b22 hc2 hl2 hl3 hM hb1 hb2 c10 c11 f1 hmy
  go_loopw [9] (fun i wr => ∃ k : Nat, k ≤ m ∧ i = .int .i64 k ∧ Below w.heap.size w wr ∧ At wr w.heap.size (Two (.int .i64 x) (.slice a n cap)) ∧ At wr (w.heap.size + 1) (Two (.int .i64 0) (.slice none 0 0)) ∧ At wr w2.heap.size (Two (.int .i64 x) (.slice a' n cap')) ∧ ICells wr al ks ∧ Mine wr w1.heap.size a' n cap' (turns (bits .or .u64) zs (ks.take k))) (fun i _ => m - (intOf i).toNat)
  case atStart => exact ⟨0, Nat.zero_le _, rfl, hbW, b1W, b2W, b3W, hlW, hMW⟩
  case round =>
    obtain ⟨k, hkk, rfl, hbr, b1r, b2r, b3r, hlr, hMr⟩ := hrel
    clear hbW b1W b2W b3W hlW hMW
    obtain ⟨c10, c11, f1⟩ := b1r.all
    obtain ⟨c20, c21, f2⟩ := b2r.all
    obtain ⟨c30, c31, f3⟩ := b3r.all
    by_cases hlt : k < m
    · rcases hlr with hlr | ⟨b, off, rfl, hb, hcl⟩
      · subst hlr; simp at hk; omega
      · have hck := hcl k (by omega)
        have hbb := hlA' b off rfl (by omega)
        have HL : ICells wr (some ⟨b, off, none⟩) ks := .inr ⟨b, off, rfl, hb, hcl⟩
        obtain ⟨z, hzz⟩ : ∃ z, z = ks.getD k 0 := ⟨_, rfl⟩
        obtain ⟨ys, hys⟩ : ∃ ys, ys = turns (bits .or .u64) zs (ks.take k) := ⟨_, rfl⟩
        have hin := allIn_at (x := x) (ks := ks) (k := k) (by omega) hy
        have hts := turns_snoc (bits .or .u64) zs ks k (by omega)
        have hyl : ys.length = n := by rw [hys, turns_len, hz]
        rw [← hys] at hMr hts
        rw [← hzz] at hck hin hts
        have HT : Hid (turns (bits .or .u64) zs (ks.take (k + 1)) = turn1 (bits .or .u64) ys z) := hts
        obtain ⟨hin1, hin2⟩ := hin
        obtain ⟨q, hq⟩ : ∃ q : Nat, z / 64 = (q : Int) := ⟨(z / 64).toNat, by omega⟩
        have hqn : q < ys.length := by omega
        have hqn' : q < n := by omega
        rcases hMr.form with ⟨h, h', _⟩ | ⟨g, rfl, hg1, hg2⟩
        · omega
        have hgg := hne g rfl
        have hgc : wr.cell? ⟨g, q, none⟩ = some (.int .u64 (ys.getD q 0)) := by
          rcases hMr.cells with h | ⟨b', off', h1, _, h2⟩
          · rw [h] at hqn; simp at hqn
          · simp at h1; obtain ⟨rfl, rfl⟩ := h1; simpa using h2 q hqn
        have hgf := hMr.frozen
        have hx1 : (0 : Int) ≤ (q : Int) := by omega
        have hne1 : w2.heap.size ≠ g := by omega
        have hne2 : g ≠ w2.heap.size := by omega
        have hx2 : (q : Int) < (n : Int) := by omega
        have hx3 : IntKind.i64.wrap (q : Int) = (q : Int) := IntWalk.i64_in _ ⟨by omega, by omega⟩
        have hx4 : z.tdiv 64 = (q : Int) := (Int.tdiv_eq_ediv_of_nonneg hin1).trans hq
        have hx5 : z.tmod 64 = z % 64 := Int.tmod_eq_emod_of_nonneg hin1
        have hx6 := wrap_wbit z
        have hx7 : 0 ≤ z % 64 := by omega
        have hx8 : (0 : Int) ≤ (k : Int) := by omega
        have hx9 : (k : Int) < (m : Int) := by omega
        have hd1 : decide (z < 0) = false := by simp; omega
        have hd2 : decide (x ≤ z) = false := by simp; omega
        clear hcl hlA' hzz hy hts hys hne
        go_wp2
        go_quiet (fail)
        go_wp2
        go_region
        go_wp2
        go_roundw
        case rel => exact ⟨k + 1, by omega, by go_num, (below_drewN hbr _).setCell (by simp; omega) _, (b1r.drewN _).set (by simp; omega) _, (b2r.drewN _).set (by simp; omega) _, (b3r.drewN _).set (by simp; omega) _, (HL.drewN _).set (by simp; omega) _, mine_step HT hq hqn (hMr.drewN _)⟩
        case measure => simp [intOf]; omega
    · have hkm' : k = m := by omega
      subst hkm'
      rw [List.take_of_length_le (by omega)] at hMr
      clear hy
      go_wp2
      refine bodyPost_ret (v := .tuple #[.agg #[.int .i64 x, .slice a' n cap'], .int .i64 0]) (by simp [results, Tryd.results24, go_sem, c20, c21]) rfl ⟨a', cap', rfl, ?_, ?_⟩
      · exact ((hMr.mono (by omega)).setOther (fun g hg => by have := hne g hg; simp; omega) _).setOther (fun g hg => by have := hne g hg; simp; omega) _
      · exact below_setTwo hbr (by omega) _ _
end Go.Proofs.YtddjmhfcaeckgaaDoor
