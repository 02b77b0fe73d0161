import Derived.Test.YtddjmhfcaeckgaaDoorYa
import Derived.Test.YtddjmhfcaeckgaaDoorZy
namespace Go.Proofs.YtddjmhfcaeckgaaDoor
open Go.RowKit Go.Shelf
attribute [local go_sem] Oper.semAt_some
set_option linter.unusedVariables false
set_option linter.unusedSimpArgs false

theorem get_any (x k : Int) (a : Option Addr) (n cap : Nat) (zs : List Int) (w : World) (hz : zs.length = n) (hm : n ≤ maxLen) (hc : Cells w a zs) :
    Calls Tryd.prog 17 #[.agg #[.int .i64 x, .slice a n cap], .int .i64 k] w fun e w' => e = .returned (.bool (gt x k zs)) ∧ Below w.heap.size w w' := by
  cases hy : mayB x zs
  · have e : gt x k zs = false := by simp [gt, hy]
    rw [e]; exact get_no1 x k a n cap zs w hz hm hc hy
  · cases hb : isB x k
    · have e : gt x k zs = false := by simp [gt, hy, hb]
      rw [e]; exact get_no2 x k a n cap zs w hz hc hy hb
    · have e : gt x k zs = getB zs k := by simp [gt, hy, hb]
      have hk : 0 ≤ k ∧ k < x := by simpa [isB] using hb
      rw [e]; exact get_yes x k a n cap zs w hz hc hy hk.1 hk.2
theorem mine_nil (w : World) (base : Nat) : Mine w base none 0 0 [] := World.ownsRow_nil _ _ _ _
theorem mine_rep {w : World} {g base n : Nat} (h : Blk w g (List.replicate n 0)) (hb : base ≤ g) (hm : n ≤ maxLen) : Mine w base (some ⟨g, 0, none⟩) n n (List.replicate n 0) := by
  have := h.mine hb (by rw [List.length_replicate]; exact hm)
  rwa [List.length_replicate] at this
theorem mine_of {w : World} {g base n : Nat} {zs : List Int} (h : Blk w g zs) (hl : zs.length = n) (hb : base ≤ g) (hm : n ≤ maxLen) : Mine w base (some ⟨g, 0, none⟩) n n zs := by
  have := h.mine hb (by rw [hl]; exact hm)
  rwa [hl] at this
theorem new_any (y : Int) : ∃ (vv : Int) (nn : Nat) (er : Int), nn ≤ 17 ∧
    (∀ W, Calls Tryd.prog 12 #[.int .i64 y] W fun e w' => ∃ aa cc, e = .returned (.tuple #[.agg #[.int .i64 vv, .slice aa nn cc], .int .i64 er]) ∧ Mine w' W.heap.size aa nn cc (List.replicate nn 0) ∧ Below W.heap.size W w') ∧
    (∀ W, Calls Tryd.prog 13 #[.int .i64 y] W fun e w' => ∃ aa cc, e = .returned (.tuple #[.agg #[.int .i64 vv, .slice aa nn cc], .int .i64 er]) ∧ Mine w' W.heap.size aa nn cc (List.replicate nn 0) ∧ Below W.heap.size W w') := by
  by_cases h : 0 ≤ y ∧ y ≤ 1032
  · obtain ⟨n, hn⟩ : ∃ n : Nat, (n : Int) = (y + 63) / 64 := ⟨((y + 63) / 64).toNat, by omega⟩
    refine ⟨y, n, 0, by omega, fun W => ?_, fun W => ?_⟩
    · refine (new_yes y n W h.1 h.2 hn).mono ?_
      rintro e w' ⟨g, rfl, hg, hB, hb⟩
      exact ⟨_, _, rfl, mine_rep hB hg (by unfold maxLen; omega), hb⟩
    · refine (refNew_yes y n W h.1 h.2 hn).mono ?_
      rintro e w' ⟨g, rfl, hg, hB, hb⟩
      exact ⟨_, _, rfl, mine_rep hB hg (by unfold maxLen; omega), hb⟩
  · refine ⟨0, 0, 2, by omega, fun W => ?_, fun W => ?_⟩
    · refine (new_no y W h).mono ?_
      rintro e w' ⟨rfl, hb⟩
      exact ⟨_, _, rfl, mine_nil _ _, hb⟩
    · refine (refNew_no y W h).mono ?_
      rintro e w' ⟨rfl, hb⟩
      exact ⟨_, _, rfl, mine_nil _ _, hb⟩
theorem own_any (x : Int) (n : Nat) (zs : List Int) (hz : zs.length = n) (hm : n ≤ maxLen) : ∃ (vx : Int) (nx : Nat) (zx : List Int) (e2 : Int), nx ≤ 17 ∧ nx ≤ n ∧
    (mayB x zs = true → vx = x ∧ nx = n ∧ zx = zs ∧ e2 = 0) ∧ (mayB x zs = false → vx = 0 ∧ nx = 0 ∧ zx = [] ∧ e2 = 2) ∧
    (∀ W a cap, Cells W a zs → Calls Tryd.prog 16 #[.agg #[.int .i64 x, .slice a n cap]] W fun e w' => ∃ aa cc, e = .returned (.tuple #[.agg #[.int .i64 vx, .slice aa nx cc], .int .i64 e2]) ∧ Mine w' W.heap.size aa nx cc zx ∧ Below W.heap.size W w') := by
  cases hy : mayB x zs
  · refine ⟨0, 0, [], 2, by omega, by omega, by simp, by simp, fun W a cap hc => ?_⟩
    refine (own_no x a n cap zs W hz hm hc hy).mono ?_
    rintro e w' ⟨rfl, hb⟩
    exact ⟨_, _, rfl, mine_nil _ _, hb⟩
  · obtain ⟨q1, q2, q3⟩ := mayB_width hy
    refine ⟨x, n, zs, 0, by omega, by omega, by simp, by simp, fun W a cap hc => ?_⟩
    refine (own_yes x a n cap zs W hz hc hy).mono ?_
    rintro e w' ⟨g, rfl, hg, hB, hb⟩
    exact ⟨_, _, rfl, mine_of hB hz hg hm, hb⟩
theorem mayb_any (x : Int) (a : Option Addr) (n cap : Nat) (zs : List Int) (w : World) (hz : zs.length = n) (hm : n ≤ maxLen) (hc : Cells w a zs) :
    Calls Tryd.prog 9 #[.agg #[.int .i64 x, .slice a n cap]] w fun e w' => e = .returned (.bool (mayB x zs)) ∧ Below w.heap.size w w' := by
  cases hy : mayB x zs
  · exact may_no x a n cap zs w hz hm hc hy
  · exact may_yes x a n cap zs w hz hc hy
theorem refMay_any (x : Int) (a : Option Addr) (n cap : Nat) (zs : List Int) (w : World) (hz : zs.length = n) (hm : n ≤ maxLen) (hw : Words zs) (hc : Cells w a zs) :
    Calls Tryd.prog 15 #[.agg #[.int .i64 x, .slice a n cap]] w fun e w' => e = .returned (.bool (mayB x zs)) ∧ Below w.heap.size w w' := by
  cases hy : mayB x zs
  · exact refMay_no x a n cap zs w hz hm hw hc hy
  · exact refMay_yes x a n cap zs w hz hw hc hy
/-- The bits that are told of a row: those that are set, if it may be; else none. -/
def told (x : Int) (n : Nat) (zs : List Int) : List Nat := if mayB x zs then rs (gb zs) 0 (64 * n) else []
theorem told_len (x : Int) (n : Nat) (zs : List Int) (hz : zs.length = n) : (told x n zs).length ≤ 1088 := by
  unfold told
  split
  · rename_i h
    obtain ⟨q1, q2, q3⟩ := mayB_width h
    have := rs_le (gb zs) (64 * n)
    omega
  · simp
theorem count_any (x : Int) (a : Option Addr) (n cap : Nat) (zs : List Int) (w : World) (hz : zs.length = n) (hm : n ≤ maxLen) (hw : Words zs) (hc : Cells w a zs) :
    Calls Tryd.prog 21 #[.agg #[.int .i64 x, .slice a n cap]] w fun e w' => e = .returned (.int .i64 (((told x n zs).length : Nat) : Int)) ∧ Below w.heap.size w w' := by
  cases hy : mayB x zs
  · have e : told x n zs = [] := by simp [told, hy]
    rw [e]
    have hc1 := hc.alloc (Two (.int .i64 x) (.slice a n cap))
    go_enter Tryd.func21, Tryd.ntmps21
    go_wp2_with (go_at_call 9; refine (may_no _ _ _ _ zs _ hz hm hc1 hy).mono ?_; rintro e w1 ⟨rfl, hb1⟩)
    go_ret
    exact ⟨rfl, below1 hb1⟩
  · have e : told x n zs = rs (gb zs) 0 (64 * n) := by simp [told, hy]
    rw [e, ← count_len hw]
    exact count_yes x a n cap zs w hz hc hy
/-- A function that tells these bits, whoever asks it, from this world on. -/
def Tells (W : World) (gf : Nat) (lb : Array Value) (L : List Nat) : Prop :=
  (∀ args w, (callFunc gf args).run Tryd.prog w = .ok (.enter gf args) w) ∧ ∃ gE, gE < W.heap.size ∧
    ∀ w1, Below W.heap.size W w1 → SeqStopsK Fence.wide 3 Tryd.prog gf lb (fun k : K => #[.int .i64 (k.1 : Int)]) (Two2 gE) (fun xs => ks xs = L) (fun pre => ks pre <+: L) L.length w1
theorem each46_stops (g : Nat) (w : World) : SeqStopsK Fence.wide 3 Tryd.prog 46 #[] (fun k : K => #[.int .i64 (k.1 : Int)]) (Two2 g) (fun xs => ks xs = []) (fun pre => ks pre <+: []) 0 w := by
  intro l J Jx W hW hJ hJx hY h0
  refine callsIn_of_wp Tryd.func46 rfl trivial ?_ rfl
  simp only [Tryd.ntmps46, List.size_toArray, List.length_cons, List.length_nil, Nat.reduceAdd, Nat.reduceSub, Array.replicate_succ, Array.replicate_zero, List.push_toArray, List.append_toArray, List.nil_append, List.cons_append]
  gi_wp2
  refine bodyPost_end (results_none rfl _ _ _) rfl ?_
  exact ⟨⟨_, rfl⟩, .inl ⟨[], rfl, h0⟩⟩
theorem each_any (x : Int) (a : Option Addr) (n cap : Nat) (zs : List Int) (w : World) (hz : zs.length = n) (hm : n ≤ maxLen) (hw : Words zs) (hc : Cells w a zs) (hT : Tab w) :
    Calls Tryd.prog 20 #[.agg #[.int .i64 x, .slice a n cap]] w fun e w' => ∃ gf lb, e = .returned (.func (.func gf) #[] lb) ∧ Tells w' gf lb (told x n zs) ∧ Below w.heap.size w w' := by
  cases hy : mayB x zs
  · have e : told x n zs = [] := by simp [told, hy]
    rw [e]
    refine (each_no x a n cap zs w hz hm hc hy).mono ?_
    rintro e w' ⟨rfl, hb⟩
    exact ⟨46, #[], rfl, ⟨enters_of Tryd.func46 (by kernel_rfl) rfl, 0, Nat.lt_of_lt_of_le hT.1 hb.size, fun w1 _ => each46_stops 0 w1⟩, hb⟩
  · have e : told x n zs = rs (gb zs) 0 (64 * n) := by simp [told, hy]
    rw [e]
    obtain ⟨q1, q2, q3⟩ := mayB_width hy
    refine (each_yes x a n cap zs w hz hc hy).mono ?_
    rintro e w' ⟨b, g', rfl, hA, hB, h1, h2, hb⟩
    refine ⟨47, _, rfl, ⟨enters_of Tryd.func47 (by kernel_rfl) rfl, g', hB.lt, fun w1 h => ?_⟩, hb⟩
    exact each2_stops 3 b g' n n (by omega) x zs hz (by omega) hw w1 (hA.below h) (hB.below h) ((hT.below hb hT.1).belowAll h)
theorem held_nil (x : Int) (a1 a2 a3 : Option Addr) (cap1 cap2 cap3 : Nat) (w : World) :
    Calls Tryd.prog 14 #[.agg #[.int .i64 x, .slice a1 0 cap1], .agg #[.int .i64 x, .slice a2 0 cap2], .agg #[.int .i64 x, .slice a3 0 cap3]] w fun e w' => e = .returned (.bool true) ∧ Below w.heap.size w w' := by
  have hB0 : Below w.heap.size w (((w.alloc (Two (.int .i64 x) (.slice a1 0 cap1))).alloc (Two (.int .i64 x) (.slice a2 0 cap2))).alloc (Two (.int .i64 x) (.slice a3 0 cap3))) := (((Below.refl w.heap.size w).alloc (Nat.le_refl _) _).alloc (by simp) _).alloc (by simp; omega) _
  have b1 := ((At.new w (Two (.int .i64 x) (.slice a1 0 cap1))).alloc (Two (.int .i64 x) (.slice a2 0 cap2))).alloc (Two (.int .i64 x) (.slice a3 0 cap3))
  have b2 := (At.new (w.alloc (Two (.int .i64 x) (.slice a1 0 cap1))) (Two (.int .i64 x) (.slice a2 0 cap2))).alloc (Two (.int .i64 x) (.slice a3 0 cap3))
  have b3 := At.new ((w.alloc (Two (.int .i64 x) (.slice a1 0 cap1))).alloc (Two (.int .i64 x) (.slice a2 0 cap2))) (Two (.int .i64 x) (.slice a3 0 cap3))
  simp only [World.size_alloc] at b2 b3
  go_enter Tryd.func14, Tryd.ntmps14
  go_wp2_with (go_at_call 42; refine (same_true _ _ _ 0 _ _ [] _ rfl (by omega) (.inl rfl) (.inl rfl)).mono ?_; rintro e w1 ⟨rfl, hb1⟩)
  have B1 := b1.below hb1
  have B2 := b2.below hb1
  have B3 := b3.below hb1
  obtain ⟨c10, c11, f1⟩ := B1.all
  obtain ⟨c20, c21, f2⟩ := B2.all
  obtain ⟨c30, c31, f3⟩ := B3.all
  clear b1 b2 b3
  refine wp_loop_rounds 1 ?_
  rw [rounds_succ]
  go_wp2_with (go_at_call 42; refine (same_true _ _ _ 0 _ _ [] _ rfl (by omega) (.inl rfl) (.inl rfl)).mono ?_; rintro e w2 ⟨rfl, hb2⟩)
  go_ret
  have h1 := hB0.trans (hb1.mono hB0.size)
  exact ⟨rfl, h1.trans (hb2.mono h1.size)⟩
theorem held_any (x : Int) (a1 a2 a3 : Option Addr) (n cap1 cap2 cap3 base : Nat) (zs : List Int) (w : World) (hm : n ≤ 5000) (h1 : Mine w base a1 n cap1 zs) (h2 : Cells w a2 zs) (h3 : Cells w a3 zs)
    (hs2 : 0 < n → ∀ g, a1 = some ⟨g, 0, none⟩ → ∀ b off, a2 = some ⟨b, off, none⟩ → b ≠ g) (hs3 : 0 < n → ∀ g, a1 = some ⟨g, 0, none⟩ → ∀ b off, a3 = some ⟨b, off, none⟩ → b ≠ g) :
    Calls Tryd.prog 14 #[.agg #[.int .i64 x, .slice a1 n cap1], .agg #[.int .i64 x, .slice a2 n cap2], .agg #[.int .i64 x, .slice a3 n cap3]] w fun e w' => e = .returned (.bool true) ∧ w.grownBy w' (blk a1) := by
  by_cases h0 : 0 < n
  · exact held_true x a1 a2 a3 n cap1 cap2 cap3 base zs w hm h1 h2 h3 (hs2 h0) (hs3 h0)
  · have : n = 0 := by omega
    subst this
    refine (held_nil x a1 a2 a3 cap1 cap2 cap3 w).mono ?_
    rintro e w' ⟨rfl, hb⟩
    exact ⟨rfl, grown_of_below hb⟩
end Go.Proofs.YtddjmhfcaeckgaaDoor
