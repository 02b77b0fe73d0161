/-
  BitsLattice returns true for every three rows and leaves them as they were: the row of 'loanwordlaw01.BitsLattice', and its card, tied to the program's text. No condition beyond the statement's own (the library's table laid).
-/
import Derived.Test.YtddjmhfcaeckgaaDoorUg
import Derived.Test.YtddjmhfcaeckgaaDoorZm
import Derived.Test.YtddjmhfcaeckgaaDoorZr
import Derived.Test.YtddjmhfcaeckgaaDoorZs
namespace Go.Proofs.YtddjmhfcaeckgaaDoor
open Go.ChangeShapes Go.WideShapes Go.ChangeAt Go.RowKit Go.Joins
set_option linter.unusedVariables false
set_option linter.unusedSimpArgs false

theorem lattice_walk (x y z : Int) (a1 a2 a3 : Option Addr) (n1 n2 n3 cap1 cap2 cap3 : Nat) (a b c : List Int) (w : World) (la : a.length = n1) (lb : b.length = n2) (lc : c.length = n3) (hm1 : n1 ≤ maxLen) (hm2 : n2 ≤ maxLen) (hm3 : n3 ≤ maxLen) (wa : Words a) (wb : Words b) (wc : Words c) (hc1 : Cells w a1 a) (hc2 : Cells w a2 b) (hc3 : Cells w a3 c) (hT : Tab w) :
    Calls Tryd.prog 7 #[.agg #[.int .i64 x, .slice a1 n1 cap1], .agg #[.int .i64 y, .slice a2 n2 cap2], .agg #[.int .i64 z, .slice a3 n3 cap3]] w fun e w' => e = .returned (.bool true) ∧ Below w.heap.size w w' := by
  cases hall : allB x y z a b c
  · exact lattice_no x y z a1 a2 a3 n1 n2 n3 cap1 cap2 cap3 a b c w la lb lc hm1 hm2 hm3 hc1 hc2 hc3 hall
  · unfold allB at hall
    rw [Bool.and_eq_true, Bool.and_eq_true, Bool.and_eq_true, Bool.and_eq_true, decide_eq_true_iff, decide_eq_true_iff] at hall
    obtain ⟨⟨⟨⟨ha, hb⟩, hc⟩, hxy⟩, hxz⟩ := hall
    subst hxy
    subst hxz
    have w1 := mayB_width ha
    have w2 := mayB_width hb
    have w3 := mayB_width hc
    have e2 : n2 = n1 := by omega
    have e3 : n3 = n1 := by omega
    subst e2
    subst e3
    exact lattice_yes x a1 a2 a3 n3 cap1 cap2 cap3 a b c w la lb lc wa wb wc hc1 hc2 hc3 ha hb hc hT

set_option maxRecDepth 100000 in
theorem bitsLattice_lifted (os : Os) (started : os.Started) (H : Type) (enc : TypeId × Value → H) :
    ReturnsInHanded {} Tryd.checked os 7 .any (fun w args => (Rows.bitsLatticeSpec.pre enc Tryd.prog Tryd.f7 [] false w args ∧ laidMetH Tryd.prog laid1 w) ∧ sizedMet enc Tryd.prog Tryd.f7 (OpenSpec.ofChange Rows.bitsLatticeSpec) false w args)
      (Rows.bitsLatticeSpec.post enc Tryd.prog Tryd.f7 false true false false) := by
  refine returnsInHanded_of_change_and (C := Tryd.checked) (X := fun w _ => laidMetH Tryd.prog laid1 w) (fun _ _ _ hh h => h.of_heap hh) own started (by kernel_rfl) Tryd.func7
    (ChangeSpec.witness_shaped (enc := enc) (C := Tryd.checked) (os := os) (X := fun w _ => laidMetH Tryd.prog laid1 w) false (World.doorLaid Tryd.prog 400 os) #[.agg #[.int .i64 0, .slice none 0 0], .agg #[.int .i64 0, .slice none 0 0], .agg #[.int .i64 0, .slice none 0 0]] 8 rfl (World.shaped_of_RefB (by kernel_rfl) (by kernel_rfl)) (by kernel_rfl) (by kernel_rfl) (by kernel_rfl) (door_met os _)) ?_
  intro W base args ds gs before hval0 hW _ _ hL _
  have hval : ∀ (j : Nat) t v, Tryd.f7.params[j]? = some t → args[j]? = some v → Value.okWide Tryd.prog W .any base t v := hval0
  have hW' := hW
  obtain ⟨p, q, hA0, hV, rfl, hfz, hnd⟩ := hW
  have hA : DataW.TrodAll enc Tryd.prog W 0 (fun _ => true) true Tryd.f7.params.toList args.toList ds p := hA0
  rw [Tryd.params7] at hA hval
  obtain ⟨v0, vs0, d0, ds0, p0, q0, hargs, rfl, rfl, h0, r0⟩ := trodAll_cons hA
  obtain ⟨v1, vs1, d1, ds1, p1, q1, rfl, rfl, rfl, h1, r1⟩ := trodAll_cons r0
  obtain ⟨v2, vs2, d2, ds2, p2, q2, rfl, rfl, rfl, h2, r2⟩ := trodAll_cons r1
  obtain ⟨rfl, rfl, rfl⟩ := trodAll_nil r2
  obtain rfl : args = #[v0, v1, v2] := by cases args; simp_all
  obtain ⟨rfl, rfl⟩ := trodVars_none hV
  have k0 := h0
  have k1 := h1
  have k2 := h2
  have lt0 : ∀ x ∈ p0, x.block < W.heap.size := by obtain ⟨m, hm⟩ := k0; exact DataW.trod_lt m _ _ _ hm
  have lt1 : ∀ x ∈ p1, x.block < W.heap.size := by obtain ⟨m, hm⟩ := k1; exact DataW.trod_lt m _ _ _ hm
  have lt2 : ∀ x ∈ p2, x.block < W.heap.size := by obtain ⟨m, hm⟩ := k2; exact DataW.trod_lt m _ _ _ hm
  obtain ⟨x, a1, n1, cap1, a, rfl, la, hm1, _, wa, hc1⟩ := open_row (hval 0 24 v0 rfl rfl) h0
  obtain ⟨y, a2, n2, cap2, b, rfl, lb, hm2, _, wb, hc2⟩ := open_row (hval 1 24 v1 rfl rfl) h1
  obtain ⟨z, a3, n3, cap3, c, rfl, lc, hm3, _, wc, hc3⟩ := open_row (hval 2 24 v2 rfl rfl) h2
  clear hA0 hval0
  refine (lattice_walk x y z a1 a2 a3 n1 n2 n3 cap1 cap2 cap3 a b c W la lb lc hm1 hm2 hm3 wa wb wc hc1 hc2 hc3 (tab_of_laid hL)).mono fun e W' ⟨he, bel⟩ => ?_
  subst he
  exact ⟨_, rfl, _, _, _, [], _, [], hW', trodAll_mk1 (shut_bool Tryd.underlying4 _), (trodAll_cons_mk (Below.trod laidOut (by kernel_rfl) (of_decide_eq_true (by kernel_rfl)) k0 bel lt0) (trodAll_cons_mk (Below.trod laidOut (by kernel_rfl) (of_decide_eq_true (by kernel_rfl)) k1 bel lt1) (trodAll_cons_mk (Below.trod laidOut (by kernel_rfl) (of_decide_eq_true (by kernel_rfl)) k2 bel lt2) trodAll_mk0))), rfl, bel.frame _, fun h => by cases h⟩

theorem bitsLattice_row : Rows.BitsLatticeSaid :=
  OpenClaim.holds_of_wide 7 Tryd.f7 rfl rfl rfl rfl rfl rfl rfl ⟨rfl, rfl, rfl, rfl, rfl⟩ rfl rfl rfl rfl rfl (by kernel_rfl) Tryd.func7 (by kernel_rfl)
    (of_decide_eq_true (by kernel_rfl)) (by unfold Func.isWrapper; first | (rw [if_pos (by decide +kernel)]; kernel_rfl) | (rw [if_neg (by decide +kernel)]; exact ⟨rfl, rfl⟩))
    (fun os started H enc _ => bitsLattice_lifted os started H enc)

theorem bitsLattice_holds : Rows.BitsLatticeCardSaid :=
  Claim7.holds_tied_plain_at .later [] [.data] true (true, "f4bd6360ec719076ea0f1581d6ddc68ca2329c5db1e66cedaf07ef3bd4e35a15") false
    bitsLattice_row (fun _ h => by cases h) (by kernel_rfl) (fun _ h => by cases h) bitsLattice_row_tie rfl ⟨rfl, rfl⟩ (by kernel_rfl) rfl
    (fun f fn hf hfn => by
      obtain rfl : f = 7 := Option.some.inj ((show Tryd.prog.funcNamed "loanword/loanwordlaw01.BitsLattice" = some 7 by kernel_rfl).symm.trans hf) |>.symm
      obtain rfl : fn = Tryd.f7 := (Option.some.inj (Tryd.func7.symm.trans hfn)).symm
      exact ⟨by kernel_rfl, fun j t ht => by
        rw [Tryd.params7] at ht
        have hm : t ∈ [24, 24, 24] := by simpa using Array.mem_of_getElem? ht
        have hall : ([24, 24, 24].all fun u => !Tryd.prog.wantsStandIn u) = true := by kernel_rfl
        exact (show Tryd.prog.wantsStandIn t = false by simpa using List.all_eq_true.1 hall t hm)⟩)
    (by kernel_rfl)
#print axioms bitsLattice_holds
end Go.Proofs.YtddjmhfcaeckgaaDoor
