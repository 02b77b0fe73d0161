import Derived.Test.YtddjmhfcaeckgaaDoorZx
import Derived.Test.YtddjmhfcaeckgaaDoorZr
import Derived.Test.YtddjmhfcaeckgaaDoorQ
import Derived.RangeFuncFrom
import Derived.RangeFuncBox
import Derived.Sort.CutIn
namespace Go.Proofs.YtddjmhfcaeckgaaDoor
open Go.RowKit Go.Shelf
attribute [local go_sem] Oper.semAt_some
set_option linter.unusedVariables false
set_option linter.unusedSimpArgs false

theorem obj_kept {A B : World} {row : Option Nat} {b : Nat} {o : Obj} (h : At A b o) (ho : o.isCells = true) (hg : A.grownBy B row) (hr : ∀ r, row = some r → ∃ o : Obj, A.heap[r]? = some o ∧ o.isCells = false) : At B b o := (grownBy_keeps_cells hg hr h ho).trans h
theorem keeps_below {W W' : World} (h : Below W.heap.size W W') : KeepsOthers W W' := KeepsOthers.of_grownBy (grown_of_below (r := none) h) (fun j o e => by cases e)
theorem blk_ne_one {W : World} {g b t : Nat} {zs : List Int} {v : Value} (h : Blk W g zs) (hA : At W b (One v t)) (ht : t ≠ 66) : g ≠ b := by
  rintro rfl
  unfold Blk at h
  unfold At at hA
  rw [h] at hA
  simp at hA
  exact ht hA.2.symm
theorem blk_ne_two {W : World} {g b : Nat} {zs : List Int} {p q : Value} (h : Blk W g zs) (hA : At W b (Two p q)) : g ≠ b := by
  rintro rfl
  unfold Blk at h
  unfold At at hA
  rw [h] at hA
  simp at hA
theorem icell1 {W : World} {j : Nat} (hj : W.heap.size = j) (z : Int) : ICells (W.alloc (.cells #[.int .i64 z] 3)) (some ⟨j, 0, none⟩) [z] := by
  subst hj
  refine .inr ⟨W.heap.size, 0, rfl, by simp, fun k hk => ?_⟩
  match k, hk with
  | 0, _ => simp
/-- The last of them, -1 if there is none. -/
def lastI (l : List Nat) : Int := l.foldl (fun (_ : Int) (k : Nat) => (k : Int)) (-1)
theorem lastI_snoc (l : List Nat) (k : Nat) : lastI (l ++ [k]) = (k : Int) := by unfold lastI; rw [List.foldl_append]; rfl
theorem lastI_lt {l : List Nat} {N : Nat} (h : ∀ k ∈ l, k < N) : -1 ≤ lastI l ∧ lastI l ≤ N := by
  rcases List.eq_nil_or_concat l with rfl | ⟨l', y, rfl⟩
  · have e : lastI [] = -1 := rfl
    rw [e]; omega
  · rw [List.concat_eq_append] at h ⊢
    rw [lastI_snoc]
    have := h y (by simp)
    omega
theorem rs_sorted (c : Nat → Bool) (N : Nat) : (rs c 0 N).Pairwise (· < ·) := by
  unfold rs
  exact List.Pairwise.filter _ (List.pairwise_lt_range' ..)
theorem not_pre1 {c : Nat → Bool} {N x : Nat} {l : List Nat} (h : (x : Int) ≤ lastI l) : ¬ (l ++ [x] <+: rs c 0 N) := by
  rintro ⟨r, e⟩
  have hp := rs_sorted c N
  rw [← e] at hp
  rcases List.eq_nil_or_concat l with rfl | ⟨l', y, rfl⟩
  · have : lastI [] = -1 := rfl
    rw [this] at h
    omega
  · rw [List.concat_eq_append] at h hp
    rw [lastI_snoc] at h
    have h1 := (List.pairwise_append.1 (List.pairwise_append.1 hp).1).2.2 y (by simp) x (by simp)
    omega
theorem not_pre2 {c : Nat → Bool} {N x : Nat} {l : List Nat} (h : c x = false ∨ N ≤ x) : ¬ (l ++ [x] <+: rs c 0 N) := by
  rintro ⟨r, e⟩
  have hm : x ∈ rs c 0 N := by rw [← e]; simp
  have := rs_lt hm
  rcases h with h | h
  · rw [h] at this; exact absurd this.2.2 (by simp)
  · omega
theorem setAll_may2 {xn n : Nat} (hx : xn ≤ 1032) (hn : (n : Int) = ((xn : Int) + 63) / 64) {l : List Nat} (h : ∀ k ∈ l, k < xn) : mayB (xn : Int) (setAll n l) = true ∧ (setAll n l).length = n := by
  obtain ⟨h1, h2, h3⟩ := setAll_is n l fun k hk => by have := h k hk; omega
  refine ⟨mayB_of (n := n) hx h1 hn h2 fun k k1 k2 => ?_, h1⟩
  rw [h3 k k2]
  exact decide_eq_false fun hm => by have := h k hm; omega
theorem rs_le (c : Nat → Bool) (N : Nat) : (rs c 0 N).length ≤ N := by
  unfold rs
  exact Nat.le_trans (List.length_filter_le _ _) (by simp)
theorem two_set {gE b o : Nat} (W : World) (u : Value) (h1 : gE ≠ b) (h0 : 0 ≠ b) : Two2 gE W (W.setCell ⟨b, o, none⟩ u) := ⟨Below.heap_setCell W ⟨b, o, none⟩ u gE h1, Below.heap_setCell W ⟨b, o, none⟩ u 0 h0⟩
theorem two_alloc {gE : Nat} (W : World) (o : Obj) (h1 : gE < W.heap.size) (h0 : 0 < W.heap.size) : Two2 gE W (W.alloc o) := ⟨Below.heap_alloc W o gE h1, Below.heap_alloc W o 0 h0⟩
theorem belA2 {wb W : World} (h : Below wb.heap.size wb W) {o : Obj} : Below wb.heap.size wb (W.alloc o) := h.alloc h.size o

set_option maxRecDepth 100000 in
set_option maxHeartbeats 4000000 in
theorem back_yes (xn : Nat) (y : Int) (a : Option Addr) (n cap m : Nat) (zs : List Int) (s : ByteArray) (w : World) (hz : zs.length = n) (hw : Words zs) (hc : Cells w a zs) (hy : mayB (xn : Int) zs = true) (hm : ((xn : Int) + 7) / 8 = (m : Int)) (hs : s.size ≤ 4096) (hT : Tab w) :
    Calls Tryd.prog 8 #[.agg #[.int .i64 xn, .slice a n cap], .int .i64 y, .string s] w fun e w' => e = .returned (.bool true) ∧ Below w.heap.size w w' := by
  obtain ⟨q1, q2, q3⟩ := mayB_width hy
  have hn17 : n ≤ 17 := by omega
  have hxn : xn ≤ 1032 := by omega
  have hs' : ¬ (4096 : Int) < (s.size : Int) := by omega
  obtain ⟨hgood, hback⟩ := back_words hz hw hy hm
  obtain ⟨t, ht⟩ : ∃ t, t = strOf (bst zs m xn) := ⟨_, rfl⟩
  have HBy : Hid (∀ W, Cells W a zs → Calls Tryd.prog 34 #[.agg #[.int .i64 xn, .slice a n cap]] W fun e w' => e = .returned (.tuple #[.string t, .int .i64 0]) ∧ Below W.heap.size W w') := fun W h => by
    rw [ht]; exact bytes_yes xn a n cap m zs W hz h hy hm.symm
  have HMy : Hid (∀ W, Cells W a zs → Calls Tryd.prog 9 #[.agg #[.int .i64 xn, .slice a n cap]] W fun e w' => e = .returned (.bool true) ∧ Below W.heap.size W w') := fun W h => may_yes xn a n cap zs W hz h hy
  have HRd : Hid (∀ W, Calls Tryd.prog 36 #[.int .i64 xn, .string t] W fun e w' => ∃ aa cc, e = .returned (.tuple #[.agg #[.int .i64 xn, .slice aa n cc], .int .i64 0, .int .i64 0]) ∧ Mine w' W.heap.size aa n cc zs ∧ Below W.heap.size W w') := fun W => by
    have := read_good xn m n t hxn hm (by omega) (by rw [ht]; exact hgood) W
    rw [ht, hback, hz] at this
    rw [ht]; exact this
  have HSa : Hid (∀ W aa cc, Cells W aa zs → Cells W a zs → Calls Tryd.prog 38 #[.agg #[.int .i64 xn, .slice aa n cc], .agg #[.int .i64 xn, .slice a n cap], .int .i64 0, .int .i64 0] W fun e w' => e = .returned (.bool true) ∧ Below W.heap.size W w') := fun W aa cc h1 h2 => same2_true xn aa a n cc cap zs zs W hz hz (by omega) h1 h2 rfl
  have HNw : Hid (∀ W, Calls Tryd.prog 12 #[.int .i64 xn] W fun e w' => ∃ g, e = .returned (.tuple #[.agg #[.int .i64 xn, .slice (some ⟨g, 0, none⟩) n n], .int .i64 0]) ∧ W.heap.size ≤ g ∧ Blk w' g (List.replicate n 0) ∧ Below W.heap.size W w') := fun W => new_yes xn n W (by omega) (by omega) (by omega)
  have HEa : Hid (∀ W, Cells W a zs → Calls Tryd.prog 20 #[.agg #[.int .i64 xn, .slice a n cap]] W fun e w' => ∃ b g', e = .returned (.func (.func 47) #[] #[.pointer (some ⟨b, 0, none⟩)]) ∧ At w' b (Two (.int .i64 xn) (.slice (some ⟨g', 0, none⟩) n n)) ∧ Blk w' g' zs ∧ W.heap.size ≤ b ∧ W.heap.size ≤ g' ∧ Below W.heap.size W w') := fun W h => each_yes xn a n cap zs W hz h hy
  obtain ⟨W0, hW0⟩ : ∃ W0, W0 = (w.alloc (Two (.int .i64 xn) (.slice a n cap))).alloc (One (.bool false) 4) := ⟨_, rfl⟩
  have A3 : At W0 w.heap.size (Two (.int .i64 xn) (.slice a n cap)) := by rw [hW0]; exact (At.new w _).alloc _
  have A6 : At W0 (w.heap.size + 1) (One (.bool false) 4) := by rw [hW0]; exact at_snd w _ _
  have BW : Below w.heap.size w W0 := by rw [hW0]; exact ((Below.refl _ _).alloc (Nat.le_refl _) _).alloc (by simp) _
  have HC : Hid (∀ W, Below w.heap.size w W → Cells W a zs) := fun W h => hc.below h
  have HW0 : Hid ((w.alloc (.cells #[.int .i64 xn, .slice a n cap] 24)).alloc (.cells #[.bool false] 4) = W0) := hW0.symm
  clear hW0 hback ht hc
  refine (callsIn_wide (n := 4)).1 ?_
  refine callsIn_of_wp_marks Tryd.func8 rfl trivial ?_ rfl
  simp only [Tryd.ntmps8, List.size_toArray, List.length_cons, List.length_nil, Nat.reduceAdd, Nat.reduceSub, Array.replicate_succ, Array.replicate_zero, List.push_toArray, List.append_toArray, List.nil_append, List.cons_append]
  gi_wp2_with (first
    | (refine ⟨trivial, ?_⟩; gi_at_call 34; rw [HW0.out]; refine (callsIn_wide.2 (HBy.out _ (HC.out _ BW))).mono ?_; rintro e v1 ⟨rfl, hb1⟩; have A3 := A3.below hb1; have A6 := A6.below hb1; have BW := BW.trans (hb1.mono BW.size); obtain ⟨u0, u1, u2⟩ := A3.all)
    | (refine ⟨trivial, ?_⟩; gi_at_call 9; refine (callsIn_wide.2 (HMy.out _ (HC.out _ BW))).mono ?_; rintro e v2 ⟨rfl, hb2⟩; have A3 := A3.below hb2; have A6 := A6.below hb2; have BW := BW.trans (hb2.mono BW.size); clear u0 u1 u2; obtain ⟨u0, u1, u2⟩ := A3.all)
    | (refine ⟨trivial, ?_⟩; gi_at_call 36; refine (callsIn_wide.2 (HRd.out _)).mono ?_; rintro e v3 ⟨aa, cc, rfl, mA, hb3⟩; have hb3' := belA2 (o := One (.int .i64 0) 28) (belA2 (o := Two (.int .i64 xn) (.slice aa n cc)) hb3); have o3 := (A6.below hb3).lt; have A3 := A3.below hb3'; have A6 := A6.below hb3'; have BW := BW.trans (hb3'.mono BW.size); have A11 := at_snd v3 (Two (.int .i64 xn) (.slice aa n cc)) (One (.int .i64 0) 28); have C9 := (mA.cells.alloc (Two (.int .i64 xn) (.slice aa n cc))).alloc (One (.int .i64 0) 28); clear u0 u1 u2; obtain ⟨u0, u1, u2⟩ := A3.all)
    | (refine ⟨trivial, ?_⟩; gi_at_call 38; refine (callsIn_wide.2 (HSa.out _ aa cc C9 (HC.out _ BW))).mono ?_; rintro e v4 ⟨rfl, hb4⟩; have hb4' := belA2 (o := One (.int .i64 (-1)) 3) (belA2 (o := One (.int .i64 0) 3) hb4); have o4 := (A11.below hb4).lt; have A3 := A3.below hb4'; have A6 := A6.below hb4'; have A11 := A11.below hb4'; have BW := BW.trans (hb4'.mono BW.size); have A12 := (At.new v4 (One (.int .i64 0) 3)).alloc (One (.int .i64 (-1)) 3); have A13 := at_snd v4 (One (.int .i64 0) 3) (One (.int .i64 (-1)) 3); clear u0 u1 u2; obtain ⟨u0, u1, u2⟩ := A3.all)
    | (refine ⟨trivial, ?_⟩; gi_at_call 12; refine (callsIn_wide.2 (HNw.out _)).mono ?_; rintro e v5 ⟨g5, rfl, hg5, hd5, hb5⟩; have hb5' := hb5.alloc hb5.size (Two (.int .i64 xn) (.slice (some ⟨g5, 0, none⟩) n n)); have A3 := A3.below hb5'; have A6 := A6.below hb5'; have A11 := A11.below hb5'; have A12 := A12.below hb5'; have o5 := (A13.below hb5).lt; have A13 := A13.below hb5'; have BW := BW.trans (hb5'.mono BW.size); have A14 := At.new v5 (Two (.int .i64 xn) (.slice (some ⟨g5, 0, none⟩) n n)); have D14 := hd5.alloc (Two (.int .i64 xn) (.slice (some ⟨g5, 0, none⟩) n n)); have o5' := hd5.lt; clear u0 u1 u2; obtain ⟨u0, u1, u2⟩ := A3.all)
    | (refine ⟨trivial, ?_⟩; gi_at_call 20; refine (callsIn_wide.2 (HEa.out _ (HC.out _ BW))).mono ?_; rintro e v6 ⟨bx, gE, rfl, AE, DE, hbx, hgE, hb6⟩; have A3 := A3.below hb6; have A6 := A6.below hb6; have A11 := A11.below hb6; have A12 := A12.below hb6; have A13 := A13.below hb6; have A14 := A14.below hb6; have D14 := D14.below hb6; have BW := BW.trans (hb6.mono BW.size); clear u0 u1 u2))
  have o6 := DE.lt
  simp only [World.size_alloc] at hgE
  have hT6 : Tab v6 := hT.below BW hT.1
  refine wpIn_rangeFunc_ownF rfl (by omega) (gf := 47) (lb := #[.pointer (some ⟨bx, 0, none⟩)]) rfl trivial (enters_of Tryd.func47 (by kernel_rfl) rfl)
    (each2_stops 3 bx gE n n (by omega) xn zs hz hn17 hw v6 AE DE hT6) two_t (two_b o6 hT6.1) (Below.refl _ _) (fun _ => rfl)
    (fun pre W => ((∃ g, At W v4.heap.size (One (.int .i64 (pre.length : Int)) 3) ∧ At W (v4.heap.size + 1) (One (.int .i64 (lastI (ks pre))) 3) ∧ At W v5.heap.size (Two (.int .i64 xn) (.slice (some ⟨g, 0, none⟩) n n)) ∧ Blk W g (setAll n (ks pre))) ∧ At W (v3.heap.size + 1) (One (.int .i64 0) 28) ∧ At W w.heap.size (Two (.int .i64 xn) (.slice a n cap)) ∧ At W (w.heap.size + 1) (One (.bool false) 4) ∧ (∀ k ∈ ks pre, k < xn) ∧ v6.heap.size ≤ W.heap.size) ∧ Below w.heap.size w W)
    (fun c pre W => (c = .ret ∧ ¬ (ks pre <+: rs (gb zs) 0 (64 * n))) ∧ Below w.heap.size w W)
    (OwnFrom.and (Own.from (fun s A B row hs hg hr => by
      obtain ⟨⟨g, k1, k2, k3, k4⟩, k5, k6, k7, k8, k9⟩ := hs
      exact ⟨⟨g, obj_kept k1 rfl hg hr, obj_kept k2 rfl hg hr, obj_kept k3 rfl hg hr, obj_kept k4.at rfl hg hr⟩, obj_kept k5 rfl hg hr, obj_kept k6 rfl hg hr, obj_kept k7 rfl hg hr, k8, Nat.le_trans k9 hg.size⟩) _) (ownFrom_below (Nat.le_refl _) BW.size))
    (fun c => OwnFrom.and (Own.from (fun s A B row hs hg hr => hs) _) (ownFrom_below (Nat.le_refl _) BW.size))
    ⟨⟨⟨g5, A12, A13, A14, D14⟩, A11, A3, A6, by simp [ks], Nat.le_refl _⟩, BW⟩
    (fun k => { tmps := #[Value.agg #[Value.int IntKind.i64 (xn : Int), Value.slice a n cap], Value.int IntKind.i64 y, Value.string s, Value.pointer (some { block := w.heap.size, off := 0 }), undef, undef, Value.pointer (some { block := w.heap.size + 1, off := 0 }), Value.string t, Value.int IntKind.i64 0, Value.pointer (some { block := v3.heap.size, off := 0 }), Value.int IntKind.i64 0, Value.pointer (some { block := v3.heap.size + 1, off := 0 }), Value.pointer (some { block := v4.heap.size, off := 0 }), Value.pointer (some { block := v4.heap.size + 1, off := 0 }), Value.pointer (some { block := v5.heap.size, off := 0 }), Value.int IntKind.i64 0, Value.int IntKind.i64 (k.1 : Int), undef, undef, Value.string s, Value.int IntKind.i64 (s.size : Int), Value.bool false, undef, Value.tuple #[Value.string t, Value.int IntKind.i64 0], Value.agg #[Value.int IntKind.i64 (xn : Int), Value.slice a n cap], Value.tuple #[Value.string t, Value.int IntKind.i64 0], Value.string t, Value.int IntKind.i64 0, Value.agg #[Value.int IntKind.i64 (xn : Int), Value.slice a n cap], Value.bool true, Value.tuple #[Value.agg #[Value.int IntKind.i64 (xn : Int), Value.slice aa n cc], Value.int IntKind.i64 0, Value.int IntKind.i64 0], Value.pointer (some { block := w.heap.size, off := 0 }), Value.int IntKind.i64 (xn : Int), Value.string t, Value.tuple #[Value.agg #[Value.int IntKind.i64 (xn : Int), Value.slice aa n cc], Value.int IntKind.i64 0, Value.int IntKind.i64 0], Value.agg #[Value.int IntKind.i64 (xn : Int), Value.slice aa n cc], Value.int IntKind.i64 0, Value.int IntKind.i64 0, Value.int IntKind.i64 0, Value.bool false, Value.bool false, Value.agg #[Value.int IntKind.i64 (xn : Int), Value.slice aa n cc], Value.agg #[Value.int IntKind.i64 (xn : Int), Value.slice a n cap], Value.int IntKind.i64 0, Value.int IntKind.i64 0, Value.bool true, Value.bool false, Value.bool false, Value.tuple #[Value.agg #[Value.int IntKind.i64 (xn : Int), Value.slice (some { block := g5, off := 0 }) n n], Value.int IntKind.i64 0], Value.pointer (some { block := w.heap.size, off := 0 }), Value.int IntKind.i64 (xn : Int), Value.tuple #[Value.agg #[Value.int IntKind.i64 (xn : Int), Value.slice (some { block := g5, off := 0 }) n n], Value.int IntKind.i64 0], Value.agg #[Value.int IntKind.i64 (xn : Int), Value.slice (some { block := g5, off := 0 }) n n], Value.int IntKind.i64 0, Value.agg #[Value.int IntKind.i64 (xn : Int), Value.slice a n cap], Value.func (Fn.func 47) #[] #[Value.pointer (some { block := bx, off := 0 })], Value.int IntKind.i64 (k.1 : Int), undef, undef, undef, undef, undef, undef, undef, undef, undef, undef, undef, undef, undef, undef, undef, undef, undef, undef, undef, undef, undef, undef, undef, undef, undef, undef, undef, undef, undef, undef, undef, undef, undef, undef, undef, undef, undef, undef, undef, undef, undef, undef, undef, undef, undef, undef, undef, undef, undef, undef, undef, undef, undef, undef, undef, undef, undef, undef, undef, undef, undef, undef, undef, undef, undef, undef, undef, undef, undef, undef, undef, undef, undef, undef, undef], defers := [] }) ?assign ?body ?done ?stop
  case assign =>
    intro l x W K hK
    gi_wp2
    exact hK
  case body =>
    rintro l pre k W ⟨⟨⟨g, A12, A13, A14, D14⟩, A11, A3, A6, hall, hsz⟩, hB⟩ hlen
    obtain ⟨c13, f13⟩ := A13.one
    obtain ⟨c12, f12⟩ := A12.one
    obtain ⟨u0, u1, u2⟩ := A3.all
    obtain ⟨c6, f6⟩ := A6.one
    by_cases hc1 : (k.1 : Int) ≤ lastI (ks pre)
    · have hnp : ¬ (ks (pre ++ [k]) <+: rs (gb zs) 0 (64 * n)) := by rw [ks_snoc]; exact not_pre1 hc1
      gi_wp2
      refine ⟨trivial, ?_⟩
      gi_wp2
      exact ⟨KeepsOthers.setCell _ _ _, ⟨rfl, hnp⟩, hB.setCell (by simp) _⟩
    · have hc1' : lastI (ks pre) < (k.1 : Int) := by omega
      by_cases hc2 : (xn : Int) ≤ (k.1 : Int)
      · have hnp : ¬ (ks (pre ++ [k]) <+: rs (gb zs) 0 (64 * n)) := by
          rw [ks_snoc]
          by_cases h64 : k.1 < 64 * n
          · exact not_pre2 (.inl (mayB_high hy hw (by omega) (by omega)))
          · exact not_pre2 (.inr (by omega))
        gi_wp2
        refine ⟨trivial, ?_⟩
        gi_wp2
        exact ⟨KeepsOthers.setCell _ _ _, ⟨rfl, hnp⟩, hB.setCell (by simp) _⟩
      · have hkx : k.1 < xn := by omega
        have hk64 : k.1 < 64 * n := by have := hz; omega
        have hCr := HC.out W hB
        cases hg : getB zs (k.1 : Int)
        · have hnp : ¬ (ks (pre ++ [k]) <+: rs (gb zs) 0 (64 * n)) := by
            rw [ks_snoc]
            rw [getB_gb zs k.1 hw] at hg
            exact not_pre2 (.inl hg)
          have H := get_yes xn k.1 a n cap zs W hz hCr hy (by omega) (by omega)
          rw [hg] at H
          gi_wp2_with (refine ⟨trivial, ?_⟩; gi_at_call 17; refine (CallsIn.inRound l (callsIn_wide.2 H)).mono ?_; rintro e w1 ⟨rfl, hb1⟩; have A6' := A6.below hb1; clear c6 f6; obtain ⟨c6, f6⟩ := A6'.one)
          exact ⟨(keeps_below hb1).trans (KeepsOthers.setCell _ _ _), ⟨rfl, hnp⟩, (hB.trans (hb1.mono hB.size)).setCell (by simp) _⟩
        · have H := get_yes xn k.1 a n cap zs W hz hCr hy (by omega) (by omega)
          rw [hg] at H
          clear c6 f6
          obtain ⟨hmS, hlS⟩ := setAll_may2 (n := n) hxn (by omega) hall
          have hpl := rs_le (gb zs) (64 * n)
          have hpl' : (pre.length : Int) < 2000 := by omega
          have hin : allIn (xn : Int) [(k.1 : Int)] = true := by simp [allIn, isB]; omega
          have HSet : Hid (∀ W' al, Cells W' (some ⟨g, 0, none⟩) (setAll n (ks pre)) → ICells W' al [(k.1 : Int)] → Calls Tryd.prog 23 #[.agg #[.int .i64 xn, .slice (some ⟨g, 0, none⟩) n n], .slice al 1 1] W' fun e w' => ∃ g', e = .returned (.tuple #[.agg #[.int .i64 xn, .slice (some ⟨g', 0, none⟩) n n], .int .i64 0]) ∧ W'.heap.size ≤ g' ∧ Blk w' g' (setAll n (ks (pre ++ [k]))) ∧ Below W'.heap.size W' w') := fun W' al h1 h2 => by
            rw [ks_snoc, setAll_snoc]
            exact set_yes xn (some ⟨g, 0, none⟩) n n (setAll n (ks pre)) al 1 1 [(k.1 : Int)] W' hlS h1 rfl (by omega) h2 hin hmS
          have n1 : v4.heap.size ≠ v4.heap.size + 1 := by omega
          have n2 : v5.heap.size ≠ v4.heap.size := by omega
          have n3 : v5.heap.size ≠ v4.heap.size + 1 := by omega
          have n4 : v3.heap.size + 1 ≠ v4.heap.size := by omega
          have n5 : v3.heap.size + 1 ≠ v4.heap.size + 1 := by omega
          have n6 : v3.heap.size + 1 ≠ v5.heap.size := by omega
          have n7 : w.heap.size ≠ v4.heap.size := by omega
          have n8 : w.heap.size ≠ v4.heap.size + 1 := by omega
          have n9 : w.heap.size ≠ v5.heap.size := by omega
          have n10 : w.heap.size ≠ v3.heap.size + 1 := by omega
          have n11 : w.heap.size + 1 ≠ v4.heap.size := by omega
          have n12 : w.heap.size + 1 ≠ v4.heap.size + 1 := by omega
          have n13 : w.heap.size + 1 ≠ v5.heap.size := by omega
          have n14 : w.heap.size + 1 ≠ v3.heap.size + 1 := by omega
          have gn1 := blk_ne_one D14 A13 (by decide)
          have gn2 := blk_ne_one D14 A12 (by decide)
          obtain ⟨la, hla⟩ : ∃ z, z = lastI (ks pre) := ⟨_, rfl⟩
          rw [← hla] at c13 hc1 hc1'
          clear hla
          gi_wp2_with (first
            | (refine ⟨trivial, ?_⟩; gi_at_call 17; refine (CallsIn.inRound l (callsIn_wide.2 H)).mono ?_; rintro e w1 ⟨rfl, hb1⟩; have B13 := A13.below hb1; have B12 := A12.below hb1; have B14 := A14.below hb1; have E14 := D14.below hb1; have B11 := A11.below hb1; have B3 := A3.below hb1; have B6 := A6.below hb1; clear c13 f13 c12 f12 u0 u1 u2; obtain ⟨c13, f13⟩ := B13.one; obtain ⟨c12, f12⟩ := B12.one; obtain ⟨u0, u1, u2⟩ := B14.all; have P12 := (B12.set (a := ⟨v4.heap.size + 1, 0, none⟩) n1 (.int .i64 (k.1 : Int))).setOne (.int .i64 ((pre.length : Int) + 1)); have P13 := (B13.setOne (.int .i64 (k.1 : Int))).set (a := ⟨v4.heap.size, 0, none⟩) n1.symm (.int .i64 ((pre.length : Int) + 1)); have P14 := (B14.set (a := ⟨v4.heap.size + 1, 0, none⟩) n3 (.int .i64 (k.1 : Int))).set (a := ⟨v4.heap.size, 0, none⟩) n2 (.int .i64 ((pre.length : Int) + 1)); have Q14 : Blk ((w1.setCell ⟨v4.heap.size + 1, 0, none⟩ (.int .i64 (k.1 : Int))).setCell ⟨v4.heap.size, 0, none⟩ (.int .i64 ((pre.length : Int) + 1))) g (setAll n (ks pre)) := (E14.at.set gn1 _).set gn2 _; have P11 := (B11.set (a := ⟨v4.heap.size + 1, 0, none⟩) n5 (.int .i64 (k.1 : Int))).set (a := ⟨v4.heap.size, 0, none⟩) n4 (.int .i64 ((pre.length : Int) + 1)); have P3 := (B3.set (a := ⟨v4.heap.size + 1, 0, none⟩) n8 (.int .i64 (k.1 : Int))).set (a := ⟨v4.heap.size, 0, none⟩) n7 (.int .i64 ((pre.length : Int) + 1)); have P6 := (B6.set (a := ⟨v4.heap.size + 1, 0, none⟩) n12 (.int .i64 (k.1 : Int))).set (a := ⟨v4.heap.size, 0, none⟩) n11 (.int .i64 ((pre.length : Int) + 1)))
            | (refine ⟨trivial, ?_⟩; gi_at_call 23; refine (CallsIn.inRound l (callsIn_wide.2 (HSet.out (((w1.setCell ⟨v4.heap.size + 1, 0, none⟩ (.int .i64 (k.1 : Int))).setCell ⟨v4.heap.size, 0, none⟩ (.int .i64 ((pre.length : Int) + 1))).alloc (.cells #[.int .i64 (k.1 : Int)] 3)) _ (Q14.alloc _).cells (icell1 (by simp) _)))).mono ?_; rintro e w2 ⟨g', rfl, hg', hd', hb2⟩; have R12 := (P12.alloc (.cells #[.int .i64 (k.1 : Int)] 3)).below hb2; have R13 := (P13.alloc (.cells #[.int .i64 (k.1 : Int)] 3)).below hb2; have R14 := (P14.alloc (.cells #[.int .i64 (k.1 : Int)] 3)).below hb2; have R11 := (P11.alloc (.cells #[.int .i64 (k.1 : Int)] 3)).below hb2; have R3 := (P3.alloc (.cells #[.int .i64 (k.1 : Int)] 3)).below hb2; have R6 := (P6.alloc (.cells #[.int .i64 (k.1 : Int)] 3)).below hb2; clear c13 f13 c12 f12 u0 u1 u2; obtain ⟨u0, u1, u2⟩ := R14.all; obtain ⟨c13, f13⟩ := R11.one))
          have z1 := hb1.size
          have z2 := hb2.size
          simp only [World.size_alloc, World.size_setCell] at z2
          have z0 := hT.1
          have e1 : (((pre ++ [k]).length : Nat) : Int) = (pre.length : Int) + 1 := by simp
          have e2 : lastI (ks (pre ++ [k])) = (k.1 : Int) := by rw [ks_snoc, lastI_snoc]
          have gd1 := blk_ne_two hd' R14
          have gd2 := blk_ne_one hd' R11 (by decide)
          have K1 : KeepsOthers W w2 := ((((keeps_below hb1).trans (KeepsOthers.setCell _ _ _)).trans (KeepsOthers.setCell _ _ _)).trans (KeepsOthers.alloc _ _)).trans (keeps_below hb2)
          have T1 : Two2 gE W w1 := two_below hb1 (by omega) (by omega)
          have T2 := two_t T1 (two_set (gE := gE) (b := v4.heap.size + 1) (o := 0) w1 (.int .i64 (k.1 : Int)) (by omega) (by omega))
          have T3 := two_t T2 (two_set (gE := gE) (b := v4.heap.size) (o := 0) _ (.int .i64 ((pre.length : Int) + 1)) (by omega) (by omega))
          have T4 := two_t T3 (two_alloc (gE := gE) _ (.cells #[.int .i64 (k.1 : Int)] 3) (by simp; omega) (by simp; omega))
          have T5 := two_t T4 (two_below hb2 (by simp; omega) (by simp))
          have T6 := two_t T5 (two_set (gE := gE) (b := v5.heap.size) (o := 0) _ (.int .i64 xn) (by omega) (by omega))
          have T7 := two_t T6 (two_set (gE := gE) (b := v5.heap.size) (o := 1) _ (.slice (some ⟨g', 0, none⟩) n n) (by omega) (by omega))
          have T8 := two_t T7 (two_set (gE := gE) (b := v3.heap.size + 1) (o := 0) _ (.int .i64 0) (by omega) (by omega))
          have L1 := hB.trans (hb1.mono hB.size)
          have L2 := ((L1.setCell (p := ⟨v4.heap.size + 1, 0, none⟩) (by simp; omega) (.int .i64 (k.1 : Int))).setCell (p := ⟨v4.heap.size, 0, none⟩) (by simp; omega) (.int .i64 ((pre.length : Int) + 1)))
          have L3 := L2.alloc L2.size (.cells #[.int .i64 (k.1 : Int)] 3)
          have L4 := L3.trans (hb2.mono L3.size)
          have L5 := ((L4.setCell (p := ⟨v5.heap.size, 0, none⟩) (by simp; omega) (.int .i64 xn)).setCell (p := ⟨v5.heap.size, 1, none⟩) (by simp; omega) (.slice (some ⟨g', 0, none⟩) n n)).setCell (p := ⟨v3.heap.size + 1, 0, none⟩) (by simp; omega) (.int .i64 0)
          refine ⟨K1.trans (three_keeps _ _ _ _ _ _ _), T8, ⟨⟨g', ?_, ?_, ?_, ?_⟩, ?_, ?_, ?_, ?_, ?_⟩, L5⟩
          · rw [e1]; exact ((R12.set n2.symm _).set n2.symm _).set n4.symm _
          · rw [e2]; exact ((R13.set n3.symm _).set n3.symm _).set n5.symm _
          · exact (R14.setTwo _ _).set n6.symm _
          · exact ((hd'.at.set gd1 _).set gd1 _).set gd2 _
          · exact ((R11.set n6 _).set n6 _).setOne _
          · exact ((R3.set n9 _).set n9 _).set n10 _
          · exact ((R6.set n13 _).set n13 _).set n14 _
          · intro j hj
            rw [ks_snoc] at hj
            rcases List.mem_append.1 hj with h | h
            · exact hall j h
            · simp at h; omega
          · simp only [World.size_setCell]; omega
  case done =>
    rintro D xs W hD hS ⟨⟨⟨g, A12, A13, A14, D14⟩, A11, A3, A6, hall, hsz⟩, hB⟩ hK
    have hCr := HC.out W hB
    have hlx : (xs.length : Int) = csum zs n := by
      rw [count_len hw, ← hS]; simp [ks]
    rw [hS, setAll_all hz hw] at D14
    rw [hlx] at A12
    obtain ⟨cs, hcs⟩ : ∃ z, z = csum zs n := ⟨_, rfl⟩
    rw [← hcs] at A12
    have HCt : Hid (∀ W', Cells W' a zs → Calls Tryd.prog 21 #[.agg #[.int .i64 xn, .slice a n cap]] W' fun e w' => e = .returned (.int .i64 cs) ∧ Below W'.heap.size W' w') := fun W' h => by rw [hcs]; exact count_yes xn a n cap zs W' hz h hy
    have HS2 : Hid (∀ W' aa cc, Cells W' aa zs → Cells W' a zs → Calls Tryd.prog 38 #[.agg #[.int .i64 xn, .slice aa n cc], .agg #[.int .i64 xn, .slice a n cap], .int .i64 0, .int .i64 0] W' fun e w' => e = .returned (.bool true) ∧ Below W'.heap.size W' w') := fun W' aa cc h1 h2 => same2_true xn aa a n cc cap zs zs W' hz hz (by omega) h1 h2 rfl
    obtain ⟨c12, f12⟩ := A12.one
    obtain ⟨u0, u1, u2⟩ := A3.all
    obtain ⟨t0, t1, t2⟩ := A14.all
    clear hcs hlx hS
    gi_wp2
    gi_cut [94] from 19 (fun v wx => v = .bool false ∧ Below W.heap.size W wx)
    case first =>
      have HS : Hid (∀ W', Below W.heap.size W W' → (W'.cell? ⟨v4.heap.size, 0, none⟩ = some (.int .i64 cs) ∧ W'.cell? ⟨w.heap.size, 0, none⟩ = some (.int .i64 xn) ∧ W'.cell? ⟨w.heap.size, 1, none⟩ = some (.slice a n cap) ∧ W'.cell? ⟨v5.heap.size, 0, none⟩ = some (.int .i64 xn) ∧ W'.cell? ⟨v5.heap.size, 1, none⟩ = some (.slice (some ⟨g, 0, none⟩) n n))) := fun W' h => ⟨(A12.below h).one.1, (A3.below h).all.1, (A3.below h).all.2.1, (A14.below h).all.1, (A14.below h).all.2.1⟩
      refine wpIn_wide.2 ?_
      go_region_held3 (fun W' => W'.cell? ⟨v4.heap.size, 0, none⟩ = some (.int .i64 cs) ∧ W'.cell? ⟨w.heap.size, 0, none⟩ = some (.int .i64 xn) ∧ W'.cell? ⟨w.heap.size, 1, none⟩ = some (.slice a n cap) ∧ W'.cell? ⟨v5.heap.size, 0, none⟩ = some (.int .i64 xn) ∧ W'.cell? ⟨v5.heap.size, 1, none⟩ = some (.slice (some ⟨g, 0, none⟩) n n))
        (first | (refine HS.out _ ?_; repeat (first | (with_reducible exact hbd) | (with_reducible exact hbb) | (with_reducible exact Below.refl _ _) | (with_reducible refine belD2 ?_))) | go_keep)
        (first
          | (go_at_call 38; refine (HS2.out w1 _ _ (D14.below hbb).cells (hCr.below hbb)).mono ?_; rintro e w2 ⟨rfl, hb2⟩; have hbd : Below W.heap.size W w2 := below_aft hbb hb2)
          | (go_at_call 21; refine (HCt.out W.drew hCr.drew).mono ?_; rintro e w1 ⟨rfl, hb1⟩; have hbb : Below W.heap.size W w1 := below_aft (Below.refl _ _).drew hb1))
      all_goals go_wp2_with fail
      all_goals gi_meet
      all_goals exact ⟨by simp, hbd⟩
    case rest =>
    obtain ⟨rfl, hbc⟩ := hcut
    generalize wc = wx at *
    have A3x := A3.below hbc
    have A6x := A6.below hbc
    have hBx := hB.trans (hbc.mono hB.size)
    have hKx : wx.heap[D]? = some (.deferred (some [])) := (keeps_below hbc).same D _ hK rfl
    have hDx : w.heap.size ≤ D := Nat.le_trans BW.size hD
    clear c12 f12 u0 u1 u2 t0 t1 t2 A12 A13 A14 D14 A11 hCr HCt HS2
    rcases read_tells y s hs with ⟨xm, m2, n2, rfl, hxm, hm2, hn2, hg2, hRd⟩ | ⟨kk, re, hre, hkk, hRd⟩
    · obtain ⟨hmay, hbyt⟩ := back_bytes hxm hm2 hn2 hg2
      have hlw := wst_len s n2 xm
      have HB2 : Hid (∀ W' aa cc, Cells W' aa (wst s n2 xm) → Calls Tryd.prog 34 #[.agg #[.int .i64 xm, .slice aa n2 cc]] W' fun e w' => e = .returned (.tuple #[.string s, .int .i64 0]) ∧ Below W'.heap.size W' w') := fun W' aa cc h => by
        have := bytes_yes xm aa n2 cc m2 (wst s n2 xm) W' hlw h hmay hm2.symm
        rw [Int.toNat_natCast, hbyt] at this
        exact this
      have HR2 : Hid (∀ W', Calls Tryd.prog 36 #[.int .i64 xm, .string s] W' fun e w' => ∃ aa cc, e = .returned (.tuple #[.agg #[.int .i64 xm, .slice aa n2 cc], .int .i64 0, .int .i64 0]) ∧ Mine w' W'.heap.size aa n2 cc (wst s n2 xm) ∧ Below W'.heap.size W' w') := fun W' => by
        have := hRd W'
        rw [hlw] at this
        exact this
      clear hRd hbyt hmay hlw
      gi_wp2_with (first
        | (refine ⟨trivial, ?_⟩; gi_at_call 36; refine (callsIn_wide.2 (HR2.out wx)).mono ?_; rintro e y1 ⟨aa', cc', rfl, mA', hy1⟩; have hy1' := belA2 (o := Two (.int .i64 xm) (.slice aa' n2 cc')) hy1; have A6y := A6x.below hy1'; have C17 := mA'.cells.alloc (Two (.int .i64 xm) (.slice aa' n2 cc')))
        | (refine ⟨trivial, ?_⟩; gi_at_call 34; refine (callsIn_wide.2 (HB2.out _ _ _ C17)).mono ?_; rintro e y3 ⟨rfl, hy3⟩; have A6w := A6y.below hy3)
        | (refine ⟨trivial, ?_⟩; gi_at_call 10; refine (callsIn_wide.2 (awake_true _)).mono ?_; rintro e y2 ⟨rfl, hy2⟩; have A6z := A6w.below hy2; obtain ⟨c6, f6⟩ := A6z.one))
      have M1 := below_aft (below_aft hy1' hy3) hy2
      have M2 := (keeps_below M1).trans (KeepsOthers.setCell y2 ⟨w.heap.size + 1, 0, none⟩ (.bool true))
      have hK' := M2.same D _ hKx rfl
      have M3 := (hBx.trans (M1.mono hBx.size)).setCell (p := ⟨w.heap.size + 1, 0, none⟩) (by simp) (.bool true)
      refine ⟨by simp, .inl ⟨_, _, rfl, run_takeDeferred hK', ?_⟩⟩
      have hc5 := cell_kept (World.cell?_setCell_same' y2 ⟨w.heap.size + 1, 0, none⟩ (.bool true) (by rw [c6]; rfl)) (grownBy_putObj' _ D (.deferred none)) (fun r e => by cases e; exact ⟨_, hK', rfl⟩)
      refine ⟨.bool true, ?_, rfl, M3.trans (belowK_b (w := w) (Nat.le_refl _) _ D _ _ hDx hK' rfl rfl)⟩
      simp [results, Tryd.results8, go_sem, hc5]
    · have hkk1 : (0 : Int) ≤ (kk : Int) := by omega
      have hkk2 : (kk : Int) ≤ (s.size : Int) := by omega
      have hre' : (re != 0) = true := by rcases hre with rfl | rfl <;> rfl
      gi_wp2_with (first
        | (refine ⟨trivial, ?_⟩; gi_at_call 36; refine (callsIn_wide.2 (hRd wx)).mono ?_; rintro e y1 ⟨aa', cc', rfl, mA', hy1⟩; have hy1' := belA2 (o := Two (.int .i64 0) (.slice aa' 0 cc')) hy1; have A6y := A6x.below hy1')
        | (refine ⟨trivial, ?_⟩; gi_at_call 10; refine (callsIn_wide.2 (awake_true _)).mono ?_; rintro e y2 ⟨rfl, hy2⟩; have A6z := A6y.below hy2; obtain ⟨c6, f6⟩ := A6z.one))
      have M1 := below_aft hy1' hy2
      have M2 := (keeps_below M1).trans (KeepsOthers.setCell y2 ⟨w.heap.size + 1, 0, none⟩ (.bool true))
      have hK' := M2.same D _ hKx rfl
      have M3 := (hBx.trans (M1.mono hBx.size)).setCell (p := ⟨w.heap.size + 1, 0, none⟩) (by simp) (.bool true)
      refine ⟨by simp, .inl ⟨_, _, rfl, run_takeDeferred hK', ?_⟩⟩
      have hc5 := cell_kept (World.cell?_setCell_same' y2 ⟨w.heap.size + 1, 0, none⟩ (.bool true) (by rw [c6]; rfl)) (grownBy_putObj' _ D (.deferred none)) (fun r e => by cases e; exact ⟨_, hK', rfl⟩)
      refine ⟨.bool true, ?_, rfl, M3.trans (belowK_b (w := w) (Nat.le_refl _) _ D _ _ hDx hK' rfl rfl)⟩
      simp [results, Tryd.results8, go_sem, hc5]
  case stop =>
    rintro D c pre W hD hpre ⟨⟨rfl, hnp⟩, hB⟩ hK
    exact absurd hpre hnp
end Go.Proofs.YtddjmhfcaeckgaaDoor
