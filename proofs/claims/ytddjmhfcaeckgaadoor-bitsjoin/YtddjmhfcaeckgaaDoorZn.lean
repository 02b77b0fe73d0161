/-
  BitsJoin returns true for every two rows and leaves them as they were: the row of 'loanwordlaw01.BitsJoin', and its card, tied to the program's text. No condition beyond the statement's own (the library's table laid).
-/
import Derived.Test.YtddjmhfcaeckgaaDoorUg
import Derived.Test.YtddjmhfcaeckgaaDoorZm
import Derived.Test.YtddjmhfcaeckgaaDoorZl
namespace Go.Proofs.YtddjmhfcaeckgaaDoor
open Go.ChangeShapes Go.WideShapes Go.ChangeAt Go.RowKit Go.Joins
set_option linter.unusedVariables false
set_option linter.unusedSimpArgs false

theorem bitsJoin_walk (x y : Int) (a1 a2 : Option Addr) (n1 n2 cap1 cap2 : Nat) (zs ys : List Int) (w : World) (hz1 : zs.length = n1) (hn1 : n1 ≤ maxLen) (hwz : Words zs) (hnil1 : a1 = none → cap1 = 0) (hc1 : Cells w a1 zs) (hz2 : ys.length = n2) (hn2 : n2 ≤ maxLen) (hwy : Words ys) (hnil2 : a2 = none → cap2 = 0) (hc2 : Cells w a2 ys) (hT : Tab w) :
    Calls Tryd.prog 5 #[.agg #[.int .i64 x, .slice a1 n1 cap1], .agg #[.int .i64 y, .slice a2 n2 cap2]] w fun e w' => e = .returned (.bool true) ∧ Below w.heap.size w w' := by
  by_cases h : 4096 < n1 ∨ 4096 < n2
  · exact bitsJoin_long x y a1 a2 n1 n2 cap1 cap2 w hn1 hn2 h
  · exact bitsJoin_short x y a1 a2 n1 n2 cap1 cap2 zs ys w hz1 (by omega) hwz hnil1 hc1 hz2 (by omega) hwy hnil2 hc2 hT

set_option maxRecDepth 100000 in
theorem bitsJoin_lifted (os : Os) (started : os.Started) (H : Type) (enc : TypeId × Value → H) :
    ReturnsInHanded {} Tryd.checked os 5 .any (fun w args => (Rows.bitsJoinSpec.pre enc Tryd.prog Tryd.f5 [] false w args ∧ laidMetH Tryd.prog laid1 w) ∧ sizedMet enc Tryd.prog Tryd.f5 (OpenSpec.ofChange Rows.bitsJoinSpec) false w args)
      (Rows.bitsJoinSpec.post enc Tryd.prog Tryd.f5 false true false false) := by
  refine returnsInHanded_of_change_and (C := Tryd.checked) (X := fun w _ => laidMetH Tryd.prog laid1 w) (fun _ _ _ hh h => h.of_heap hh) own started (by kernel_rfl) Tryd.func5
    (ChangeSpec.witness_shaped (enc := enc) (C := Tryd.checked) (os := os) (X := fun w _ => laidMetH Tryd.prog laid1 w) false (World.doorLaid Tryd.prog 400 os) #[.agg #[.int .i64 0, .slice none 0 0], .agg #[.int .i64 0, .slice none 0 0]] 8 rfl (World.shaped_of_RefB (by kernel_rfl) (by kernel_rfl)) (by kernel_rfl) (by kernel_rfl) (by kernel_rfl) (door_met os _)) ?_
  intro W base args ds gs before hval0 hW _ _ hL _
  have hval : ∀ (j : Nat) t v, Tryd.f5.params[j]? = some t → args[j]? = some v → Value.okWide Tryd.prog W .any base t v := hval0
  have hW' := hW
  obtain ⟨p, q, hA0, hV, rfl, hfz, hnd⟩ := hW
  have hA : DataW.TrodAll enc Tryd.prog W 0 (fun _ => true) true Tryd.f5.params.toList args.toList ds p := hA0
  rw [Tryd.params5] at hA hval
  obtain ⟨v0, vs0, d0, ds0, p0, q0, hargs, rfl, rfl, h0, r0⟩ := trodAll_cons hA
  obtain ⟨v1, vs1, d1, ds1, p1, q1, rfl, rfl, rfl, h1, r1⟩ := trodAll_cons r0
  obtain ⟨rfl, rfl, rfl⟩ := trodAll_nil r1
  obtain rfl : args = #[v0, v1] := by cases args; simp_all
  obtain ⟨rfl, rfl⟩ := trodVars_none hV
  have k0 := h0
  have k1 := h1
  have lt0 : ∀ x ∈ p0, x.block < W.heap.size := by obtain ⟨m, hm⟩ := k0; exact DataW.trod_lt m _ _ _ hm
  have lt1 : ∀ x ∈ p1, x.block < W.heap.size := by obtain ⟨m, hm⟩ := k1; exact DataW.trod_lt m _ _ _ hm
  obtain ⟨x, a, n, cap, zs, rfl, hz, hn, hnil, hw, hc⟩ := open_row (hval 0 24 v0 rfl rfl) h0
  obtain ⟨y, a', n', cap', ys, rfl, hz', hn', hnil', hw', hc'⟩ := open_row (hval 1 24 v1 rfl rfl) h1
  clear hA0 hval0
  refine (bitsJoin_walk x y a a' n n' cap cap' zs ys W hz hn hw hnil hc hz' hn' hw' hnil' hc' (tab_of_laid hL)).mono fun e W' ⟨he, bel⟩ => ?_
  subst he
  exact ⟨_, rfl, _, _, _, [], _, [], hW', trodAll_mk1 (shut_bool Tryd.underlying4 _), (trodAll_cons_mk (Below.trod laidOut (by kernel_rfl) (of_decide_eq_true (by kernel_rfl)) k0 bel lt0) (trodAll_cons_mk (Below.trod laidOut (by kernel_rfl) (of_decide_eq_true (by kernel_rfl)) k1 bel lt1) trodAll_mk0)), rfl, bel.frame _, fun h => by cases h⟩

theorem bitsJoin_row : Rows.BitsJoinSaid :=
  OpenClaim.holds_of_wide 5 Tryd.f5 rfl rfl rfl rfl rfl rfl rfl ⟨rfl, rfl, rfl, rfl, rfl⟩ rfl rfl rfl rfl rfl (by kernel_rfl) Tryd.func5 (by kernel_rfl)
    (of_decide_eq_true (by kernel_rfl)) (by unfold Func.isWrapper; first | (rw [if_pos (by decide +kernel)]; kernel_rfl) | (rw [if_neg (by decide +kernel)]; exact ⟨rfl, rfl⟩))
    (fun os started H enc _ => bitsJoin_lifted os started H enc)

theorem bitsJoin_holds : Rows.BitsJoinCardSaid :=
  Claim7.holds_tied_plain_at .later [] [.data] true (true, "f4bd6360ec719076ea0f1581d6ddc68ca2329c5db1e66cedaf07ef3bd4e35a15") false
    bitsJoin_row (fun _ h => by cases h) (by kernel_rfl) (fun _ h => by cases h) bitsJoin_row_tie rfl ⟨rfl, rfl⟩ (by kernel_rfl) rfl
    (fun f fn hf hfn => by
      obtain rfl : f = 5 := Option.some.inj ((show Tryd.prog.funcNamed "loanword/loanwordlaw01.BitsJoin" = some 5 by kernel_rfl).symm.trans hf) |>.symm
      obtain rfl : fn = Tryd.f5 := (Option.some.inj (Tryd.func5.symm.trans hfn)).symm
      exact ⟨by kernel_rfl, fun j t ht => by
        rw [Tryd.params5] at ht
        have hm : t ∈ [24, 24] := by simpa using Array.mem_of_getElem? ht
        have hall : ([24, 24].all fun u => !Tryd.prog.wantsStandIn u) = true := by kernel_rfl
        exact (show Tryd.prog.wantsStandIn t = false by simpa using List.all_eq_true.1 hall t hm)⟩)
    (by kernel_rfl)
#print axioms bitsJoin_holds
end Go.Proofs.YtddjmhfcaeckgaaDoor
