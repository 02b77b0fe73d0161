import Derived.Test.YtddjmhfcaeckgaaDoorZu
namespace Go.Proofs.YtddjmhfcaeckgaaDoor
open Go.RowKit
set_option linter.unusedVariables false
set_option linter.unusedSimpArgs false

/-- The bits below k, rising. -/
def ls (zs : List Int) : Nat → List Int
  | 0 => []
  | k + 1 => if gb zs k then ls zs k ++ [(k : Int)] else ls zs k
theorem ls_len (zs : List Int) : ∀ k, (ls zs k).length ≤ k := by
  intro k
  induction k with
  | zero => simp [ls]
  | succ k ih =>
    unfold ls
    split
    · rw [List.length_append]; simp; omega
    · omega
theorem rs_snoc (c : Nat → Bool) (N : Nat) : rs c 0 (N + 1) = if c N then rs c 0 N ++ [N] else rs c 0 N := by
  unfold rs
  have e : List.range' 0 (N + 1) = List.range' 0 N ++ [N] := by simp [List.range'_concat]
  rw [Nat.sub_zero, Nat.sub_zero, e, List.filter_append]
  by_cases h : c N = true
  · rw [if_pos h]; simp [h]
  · rw [if_neg h]; simp [h]
theorem ls_rs (zs : List Int) : ∀ k, ls zs k = (rs (gb zs) 0 k).map (fun (j : Nat) => (j : Int)) := by
  intro k
  induction k with
  | zero => rfl
  | succ k ih =>
    rw [rs_snoc]
    unfold ls
    rw [ih]
    split <;> simp
theorem rs_cut (c : Nat → Bool) (M : Nat) : ∀ d, (∀ k, M ≤ k → k < M + d → c k = false) → rs c 0 (M + d) = rs c 0 M := by
  intro d
  induction d with
  | zero => intro _; rfl
  | succ d ih =>
    intro h
    rw [show M + (d + 1) = (M + d) + 1 by omega, rs_snoc, h (M + d) (by omega) (by omega), ih fun k h1 h2 => h k h1 (by omega)]
    rfl
theorem ls_all {xn n : Nat} {zs : List Int} (hl : zs.length = n) (hy : mayB (xn : Int) zs = true) (hw : Words zs) : ls zs xn = (rs (gb zs) 0 (64 * n)).map (fun (j : Nat) => (j : Int)) := by
  have hx := mayB_width hy
  have := rs_cut (gb zs) xn (64 * n - xn) fun k h1 h2 => mayB_high hy hw h1 (by omega)
  rw [show xn + (64 * n - xn) = 64 * n by omega] at this
  rw [this, ls_rs]
theorem IMine.low {w : World} {base base' n cap : Nat} {a : Option Addr} {ks : List Int} (h : IMine w base a n cap ks) (hb : base' ≤ base) : IMine w base' a n cap ks := by
  refine ⟨h.1, ?_⟩
  rcases h.2 with h' | ⟨g, cap', cur, h', hb', r⟩
  · exact .inl h'
  · exact .inr ⟨g, cap', cur, h', Nat.le_trans hb hb', r⟩
theorem IMine.below {w w' : World} {base n cap : Nat} {a : Option Addr} {ks : List Int} (h : IMine w base a n cap ks) (hb : Below w.heap.size w w') : IMine w' base a n cap ks := by
  refine ⟨h.1, ?_⟩
  rcases h.2 with h' | ⟨g, cap', cur, h', hb', hg, r⟩
  · exact .inl h'
  · exact .inr ⟨g, cap', cur, h', hb', (hb.block g (lt_of_block hg)).trans hg, r⟩

set_option maxHeartbeats 1000000 in
theorem refList_yes (xn : Nat) (a : Option Addr) (n cap : Nat) (zs : List Int) (w : World) (hz : zs.length = n) (hw : Words zs) (hc : Cells w a zs) (hy : mayB (xn : Int) zs = true) :
    Calls Tryd.prog 19 #[.agg #[.int .i64 xn, .slice a n cap]] w fun e w' => ∃ aa cc, e = .returned (.slice aa (ls zs xn).length cc) ∧ IMine w' w.heap.size aa (ls zs xn).length cc (ls zs xn) ∧ Below w.heap.size w w' := by
  obtain ⟨i0, hi, hz0, hz1, hz2⟩ := info_parts Tryd.info3
  obtain ⟨q1, q2, q3⟩ := mayB_width hy
  have hn17 : n ≤ 17 := by omega
  have hxn : xn ≤ 64 * n := by omega
  have b1 := At.new w (Two (.int .i64 xn) (.slice a n cap))
  have hB0 : Below w.heap.size w (w.alloc (Two (.int .i64 xn) (.slice a n cap))) := (Below.refl _ _).alloc (Nat.le_refl _) _
  have HC : Hid (∀ W, Below w.heap.size w W → Cells W a zs) := fun W h => hc.below h
  have hx2 : xn ≤ 1032 := by omega
  clear hy q1 q2 q3 hc
  go_enter Tryd.func19, Tryd.ntmps19
  go_wp2
  go_loopw [3, 4] (fun v i wr => ∃ (k m : Nat) (aa : Option Addr) (cc : Nat), k ≤ xn ∧ i = .int .i64 k ∧ v = .slice aa m cc ∧ m = (ls zs k).length ∧ Below w.heap.size w wr ∧ At wr w.heap.size (Two (.int .i64 xn) (.slice a n cap)) ∧ IMine wr (w.heap.size + 1) aa m cc (ls zs k)) (fun _ i _ => xn - (intOf i).toNat)
  case atStart => exact ⟨0, 0, none, 0, Nat.zero_le _, rfl, rfl, rfl, hB0, b1, World.ownsRow_nil _ _ _ _⟩
  case round =>
    obtain ⟨k, m, aa, cc, hk, rfl, rfl, hml, hbr, b1r, hI⟩ := hrel
    have HML : Hid (m = (ls zs k).length) := hml
    have hmk : m ≤ 1032 := by have := ls_len zs k; omega
    clear hml
    clear b1 hB0
    obtain ⟨c10, c11, f1⟩ := b1r.all
    by_cases hlt : k < xn
    · have hkx : (k : Int) < (xn : Int) := by omega
      have hk64 : k < 64 * n := by omega
      cases hg : gb zs k
      · have HL : Hid (ls zs (k + 1) = ls zs k) := by
          show (if gb zs k then ls zs k ++ [(k : Int)] else ls zs k) = _
          rw [hg]; rfl
        have H := is_gb xn k false a n cap zs wr hz hn17 hw (HC.out wr hbr) hk64 hg
        clear hg
        go_wp2_with (go_at_call 45; refine H.mono ?_; rintro e w1 ⟨rfl, hb1⟩)
        go_roundw
        case rel => exact ⟨k + 1, m, aa, cc, by omega, by go_num, rfl, by rw [HL.out]; exact HML.out, hbr.trans (hb1.mono hbr.size), b1r.below hb1, by rw [HL.out]; exact hI.below hb1⟩
        case measure => simp [intOf]; omega
      · have HL : Hid (ls zs (k + 1) = ls zs k ++ [(k : Int)]) := by
          show (if gb zs k then ls zs k ++ [(k : Int)] else ls zs k) = _
          rw [hg]; rfl
        have H := is_gb xn k true a n cap zs wr hz hn17 hw (HC.out wr hbr) hk64 hg
        clear hg
        go_wp2_with (first
          | (go_at_call 45; refine H.mono ?_; rintro e w1 ⟨rfl, hb1⟩; have hI1 := hI.below hb1; have hs1 := (b1r.below hb1).lt)
          | (at_builtin; refine wpList_append_own _ rfl (.tmp 14) (.tmp 16) 36 rfl (w.heap.size + 1) 3 i0 (.int .i64 0) 1 8 Tryd.underlying36 hi hz0 hz1 hz2 rfl (by decide) _ _ _ rfl (World.ownsRow.alloc hI1 _) ⟨w1.heap.size, 0, none⟩ 1 1 [.int .i64 (k : Int)] rfl rfl (ione_cell' rfl (k : Int)) (by intro u hu; simp at hu; subst hu; rfl) (by unfold maxLen; omega) (by omega) (by rw [World.size_alloc]; omega) ?_; intro v2 w2 hown2 hgrow2 _; obtain ⟨a2, cap2, rfl⟩ := ishape hown2; have hI2 : IMine w2 (w.heap.size + 1) a2 (m + 1) cap2 (ls zs k ++ [(k : Int)]) := (by unfold IMine; rw [i_snoc]; exact hown2); have hb2 : Below (w.heap.size + 1) (w1.alloc (.cells #[.int .i64 (k : Int)] 3)) w2 := (Below.refl _ _).grown hgrow2 (by rw [World.size_alloc]; omega) (fun j hj => (World.ownsRow.lt hI1 j hj).1); clear hown2 hgrow2))
        go_roundw
        case rel => exact ⟨k + 1, m + 1, a2, cap2, by omega, by go_num, rfl, by rw [HL.out, List.length_append, HML.out]; rfl, ((hbr.trans (hb1.mono hbr.size)).alloc (Nat.le_trans hbr.size hb1.size) _).trans (hb2.mono (by omega)), ((b1r.below hb1).alloc _).belowB hb2 (by omega), by rw [HL.out]; exact hI2⟩
        case measure => simp [intOf]; omega
    · have hke : k = xn := by omega
      subst hke
      go_wp2
      go_ret
      have hm := HML.out
      subst hm
      exact ⟨aa, cc, rfl, hI.low (by omega), hbr⟩
end Go.Proofs.YtddjmhfcaeckgaaDoor
