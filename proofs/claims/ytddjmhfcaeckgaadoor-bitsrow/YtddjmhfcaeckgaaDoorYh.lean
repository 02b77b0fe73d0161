/-
  BitsRow returns true for every row, width, bit and number and leaves them as they were: the row of 'loanwordlaw01.BitsRow', and its card, tied to the program's text. No condition beyond the statement's own (the library's table laid).
-/
import Derived.Test.YtddjmhfcaeckgaaDoorUg
import Derived.Test.YtddjmhfcaeckgaaDoorZm
import Derived.Test.YtddjmhfcaeckgaaDoorYd
namespace Go.Proofs.YtddjmhfcaeckgaaDoor
open Go.ChangeShapes Go.WideShapes Go.ChangeAt Go.RowKit Go.Joins Go.Shelf
attribute [local go_sem] Oper.semAt_some
set_option linter.unusedVariables false
set_option linter.unusedSimpArgs false

set_option maxRecDepth 100000 in
set_option maxHeartbeats 2000000 in
theorem row_long (x y k few : Int) (a : Option Addr) (n cap : Nat) (zs : List Int) (w : World) (hz : zs.length = n) (hm : n ≤ maxLen) (hl : 4096 < n) (hc : Cells w a zs) :
    Calls Tryd.prog 3 #[.agg #[.int .i64 x, .slice a n cap], .int .i64 y, .int .i64 k, .int .i64 few] w fun e w' => e = .returned (.bool true) ∧ Below w.heap.size w w' := by
  have hlong : (4096 : Int) < (n : Int) := by omega
  have hno : mayB x zs = false := by
    cases h : mayB x zs
    · rfl
    · obtain ⟨q1, q2, q3⟩ := mayB_width h
      omega
  obtain ⟨W0, hW0⟩ : ∃ W0, W0 = ((w.alloc (Two (.int .i64 x) (.slice a n cap))).alloc (One (.int .i64 few) 3)).alloc (One (.bool false) 4) := ⟨_, rfl⟩
  have BW : Below w.heap.size w W0 := by rw [hW0]; exact (((Below.refl _ _).alloc (Nat.le_refl _) _).alloc (by simp) _).alloc (by simp; omega) _
  have A8 : At W0 (w.heap.size + 1 + 1) (One (.bool false) 4) := by
    rw [hW0]
    have := at_snd (w.alloc (Two (.int .i64 x) (.slice a n cap))) (One (.int .i64 few) 3) (One (.bool false) 4)
    rwa [World.size_alloc] at this
  have hc0 := hc.below BW
  have HW0 : Hid (((w.alloc (.cells #[.int .i64 x, .slice a n cap] 24)).alloc (.cells #[.int .i64 few] 3)).alloc (.cells #[.bool false] 4) = W0) := hW0.symm
  clear hW0 hc
  have hm' := hm
  unfold maxLen at hm'
  refine (callsIn_wide (n := 4)).1 ?_
  refine callsIn_of_wp_marks Tryd.func3 rfl trivial ?_ rfl
  simp only [Tryd.ntmps3, List.size_toArray, List.length_cons, List.length_nil, Nat.reduceAdd, Nat.reduceSub, Array.replicate_succ, Array.replicate_zero, List.push_toArray, List.append_toArray, List.nil_append, List.cons_append]
  gi_wp2_with (first
    | (refine ⟨trivial, ?_⟩; gi_at_call 9; rw [HW0.out]; refine (callsIn_wide.2 (may_no x a n cap zs W0 hz hm hc0 hno)).mono ?_; rintro e y1 ⟨rfl, hy1⟩)
    | (refine ⟨trivial, ?_⟩; gi_at_call 10; refine (callsIn_wide.2 (awake_true _)).mono ?_; rintro e y2 ⟨rfl, hy2⟩; have A8z := (A8.below hy1).below hy2; obtain ⟨c8, f8⟩ := A8z.one))
  have M1 := below_aft hy1 hy2
  have M3 := (BW.trans (M1.mono BW.size)).setCell (p := ⟨w.heap.size + 1 + 1, 0, none⟩) (by simp; omega) (.bool true)
  have hcr := World.cell?_setCell_same' y2 ⟨w.heap.size + 1 + 1, 0, none⟩ (.bool true) (by rw [c8]; rfl)
  refine ⟨.bool true, ?_, rfl, M3⟩
  simp [results, Tryd.results3, go_sem, hcr]

theorem row_walk (x y k few : Int) (a : Option Addr) (n cap : Nat) (zs : List Int) (w : World) (hz : zs.length = n) (hm : n ≤ maxLen) (hw : Words zs) (hnil : a = none → cap = 0) (hc : Cells w a zs) (hT : Tab w) :
    Calls Tryd.prog 3 #[.agg #[.int .i64 x, .slice a n cap], .int .i64 y, .int .i64 k, .int .i64 few] w fun e w' => e = .returned (.bool true) ∧ Below w.heap.size w w' := by
  by_cases hl : 4096 < n
  · exact row_long x y k few a n cap zs w hz hm hl hc
  · exact row_short x y k few a n cap zs w hz (by omega) hw hnil hc hT

set_option maxRecDepth 100000 in
theorem bitsRow_lifted (os : Os) (started : os.Started) (H : Type) (enc : TypeId × Value → H) :
    ReturnsInHanded {} Tryd.checked os 3 .any (fun w args => (Rows.bitsRowSpec.pre enc Tryd.prog Tryd.f3 [] false w args ∧ laidMetH Tryd.prog laid1 w) ∧ sizedMet enc Tryd.prog Tryd.f3 (OpenSpec.ofChange Rows.bitsRowSpec) false w args)
      (Rows.bitsRowSpec.post enc Tryd.prog Tryd.f3 false true false false) := by
  refine returnsInHanded_of_change_and (C := Tryd.checked) (X := fun w _ => laidMetH Tryd.prog laid1 w) (fun _ _ _ hh h => h.of_heap hh) own started (by kernel_rfl) Tryd.func3
    (ChangeSpec.witness_shaped (enc := enc) (C := Tryd.checked) (os := os) (X := fun w _ => laidMetH Tryd.prog laid1 w) false (World.doorLaid Tryd.prog 400 os) #[.agg #[.int .i64 0, .slice none 0 0], .int .i64 0, .int .i64 0, .int .i64 0] 8 rfl (World.shaped_of_RefB (by kernel_rfl) (by kernel_rfl)) (by kernel_rfl) (by kernel_rfl) (by kernel_rfl) (door_met os _)) ?_
  intro W base args ds gs before hval0 hW _ _ hL _
  have hval : ∀ (j : Nat) t v, Tryd.f3.params[j]? = some t → args[j]? = some v → Value.okWide Tryd.prog W .any base t v := hval0
  have hW' := hW
  obtain ⟨p, q, hA0, hV, rfl, hfz, hnd⟩ := hW
  have hA : DataW.TrodAll enc Tryd.prog W 0 (fun _ => true) true Tryd.f3.params.toList args.toList ds p := hA0
  rw [Tryd.params3] at hA hval
  obtain ⟨v0, vs0, d0, ds0, p0, q0, hargs, rfl, rfl, h0, r0⟩ := trodAll_cons hA
  obtain ⟨v1, vs1, d1, ds1, p1, q1, rfl, rfl, rfl, h1, r1⟩ := trodAll_cons r0
  obtain ⟨v2, vs2, d2, ds2, p2, q2, rfl, rfl, rfl, h2, r2⟩ := trodAll_cons r1
  obtain ⟨v3, vs3, d3, ds3, p3, q3, rfl, rfl, rfl, h3, r3⟩ := trodAll_cons r2
  obtain ⟨rfl, rfl, rfl⟩ := trodAll_nil r3
  obtain rfl : args = #[v0, v1, v2, v3] := by cases args; simp_all
  obtain ⟨rfl, rfl⟩ := trodVars_none hV
  have k0 := h0
  have lt0 : ∀ x ∈ p0, x.block < W.heap.size := by obtain ⟨m, hm⟩ := k0; exact DataW.trod_lt m _ _ _ hm
  obtain ⟨x, a, n, cap, zs, rfl, hz, hn, hnil, hw, hc⟩ := open_row (hval 0 24 v0 rfl rfl) h0
  obtain ⟨y, rfl, rfl, rfl, wy⟩ := open_int Tryd.underlying3 (hval 1 3 v1 rfl rfl) h1
  obtain ⟨k, rfl, rfl, rfl, wk⟩ := open_int Tryd.underlying3 (hval 2 3 v2 rfl rfl) h2
  obtain ⟨few, rfl, rfl, rfl, wf⟩ := open_int Tryd.underlying3 (hval 3 3 v3 rfl rfl) h3
  clear hA0 hval0
  refine (row_walk x y k few a n cap zs W hz hn hw hnil hc (tab_of_laid hL)).mono fun e W' ⟨he, bel⟩ => ?_
  subst he
  exact ⟨_, rfl, _, _, _, [], _, [], hW', trodAll_mk1 (shut_bool Tryd.underlying4 _), (trodAll_cons_mk (Below.trod laidOut (by kernel_rfl) (of_decide_eq_true (by kernel_rfl)) k0 bel lt0) (trodAll_cons_mk (shut_int Tryd.underlying3 wy) (trodAll_cons_mk (shut_int Tryd.underlying3 wk) (trodAll_cons_mk (shut_int Tryd.underlying3 wf) trodAll_mk0)))), rfl, bel.frame _, fun h => by cases h⟩

theorem bitsRow_row : Rows.BitsRowSaid :=
  OpenClaim.holds_of_wide 3 Tryd.f3 rfl rfl rfl rfl rfl rfl rfl ⟨rfl, rfl, rfl, rfl, rfl⟩ rfl rfl rfl rfl rfl (by kernel_rfl) Tryd.func3 (by kernel_rfl)
    (of_decide_eq_true (by kernel_rfl)) (by unfold Func.isWrapper; first | (rw [if_pos (by decide +kernel)]; kernel_rfl) | (rw [if_neg (by decide +kernel)]; exact ⟨rfl, rfl⟩))
    (fun os started H enc _ => bitsRow_lifted os started H enc)

theorem bitsRow_holds : Rows.BitsRowCardSaid :=
  Claim7.holds_tied_plain_at .later [] [.data] true (true, "f4bd6360ec719076ea0f1581d6ddc68ca2329c5db1e66cedaf07ef3bd4e35a15") false
    bitsRow_row (fun _ h => by cases h) (by kernel_rfl) (fun _ h => by cases h) bitsRow_row_tie rfl ⟨rfl, rfl⟩ (by kernel_rfl) rfl
    (fun f fn hf hfn => by
      obtain rfl : f = 3 := Option.some.inj ((show Tryd.prog.funcNamed "loanword/loanwordlaw01.BitsRow" = some 3 by kernel_rfl).symm.trans hf) |>.symm
      obtain rfl : fn = Tryd.f3 := (Option.some.inj (Tryd.func3.symm.trans hfn)).symm
      exact ⟨by kernel_rfl, fun j t ht => by
        rw [Tryd.params3] at ht
        have hm : t ∈ [24, 3, 3, 3] := by simpa using Array.mem_of_getElem? ht
        have hall : ([24, 3, 3, 3].all fun u => !Tryd.prog.wantsStandIn u) = true := by kernel_rfl
        exact (show Tryd.prog.wantsStandIn t = false by simpa using List.all_eq_true.1 hall t hm)⟩)
    (by kernel_rfl)
#print axioms bitsRow_holds
end Go.Proofs.YtddjmhfcaeckgaaDoor
