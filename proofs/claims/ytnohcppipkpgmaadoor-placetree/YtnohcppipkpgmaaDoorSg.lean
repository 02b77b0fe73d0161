/-
  PlaceTree returns true for all three places, and leaves them as they were: the row of 'loanwordlaw09.PlaceTree', and its card, tied to the program's text. No condition beyond the statement's own (the library's tables laid).
-/
import Derived.Test.YtnohcppipkpgmaaDoorSf
import Derived.Test.YtnohcppipkpgmaaDoorSc
import Derived.Test.YtnohcppipkpgmaaDoorTie
import Derived.Test.YtnohcppipkpgmaaDoorCards
namespace Go.Proofs.YtnohcppipkpgmaaDoor
section
open Go.RowKit Go.Shelf
set_option linter.unusedVariables false
set_option linter.unusedSimpArgs false

set_option maxRecDepth 100000 in
set_option maxHeartbeats 8000000 in
/-- PlaceTree. -/
theorem tree_walk {w : World} {x y z : Pt} {p q r : List Int} (hP : PAt w x p) (hQ : PAt w y q) (hR : PAt w z r) :
    Calls Tryd.prog 6 #[x.v, y.v, z.v] w fun e w' => e = .returned (.bool true) ∧ Below w.heap.size w w' := by
  by_cases hf : p.length ≤ 60 ∧ q.length ≤ 60 ∧ r.length ≤ 60
  · exact tree_in hP hQ hR hf.1 hf.2.1 hf.2.2
  · have AW : Hid (∀ W, Calls Tryd.prog 10 #[] W fun e w' => e = .returned (.bool true) ∧ Below W.heap.size W w') := awake_true
    obtain ⟨l, pa, m, pcap⟩ := x
    obtain ⟨l2, qa, m2, qcap⟩ := y
    obtain ⟨l3, ra, m3, rcap⟩ := z
    have CF : Hid (Calls Tryd.prog 9 #[.slice none 0 0, .slice none 0 0, .slice (some ⟨w.heap.size + 1 + 1 + 1, 0, none⟩) 3 3] ((((w.alloc (plO l pa m pcap)).alloc (plO l2 qa m2 qcap)).alloc (plO l3 ra m3 rcap)).alloc (triO ⟨l, pa, m, pcap⟩ ⟨l2, qa, m2, qcap⟩ ⟨l3, ra, m3, rcap⟩)) fun e w' => e = .returned (.bool false) ∧ w' = ((((w.alloc (plO l pa m pcap)).alloc (plO l2 qa m2 qcap)).alloc (plO l3 ra m3 rcap)).alloc (triO ⟨l, pa, m, pcap⟩ ⟨l2, qa, m2, qcap⟩ ⟨l3, ra, m3, rcap⟩))) :=
      fits_nil (ps_tri hP hQ hR) (by simp) false ⟨(fun h => by cases h), fun h => absurd ⟨h _ p (List.Mem.head _), h _ q (List.Mem.tail _ (List.Mem.head _)), h _ r (List.Mem.tail _ (List.Mem.tail _ (List.Mem.head _)))⟩ hf⟩
    have HB0 : Hid (Below w.heap.size w ((((w.alloc (plO l pa m pcap)).alloc (plO l2 qa m2 qcap)).alloc (plO l3 ra m3 rcap)).alloc (triO ⟨l, pa, m, pcap⟩ ⟨l2, qa, m2, qcap⟩ ⟨l3, ra, m3, rcap⟩))) := bel4
    show Calls Tryd.prog 6 #[plV l pa m pcap, plV l2 qa m2 qcap, plV l3 ra m3 rcap] w _
    clear hP hQ hR hf
    go_enter Tryd.func6, Tryd.ntmps6
    go_wp2_with (first
      | (go_at_call 9; refine CF.out.mono ?_; rintro e w1 ⟨rfl, hw⟩; have HB1 : Hid (Below w.heap.size w w1) := (by rw [hw]; exact HB0.out); clear hw)
      | (go_at_call 10; refine (AW.out _).mono ?_; rintro e w8 ⟨rfl, hb8⟩; have HB8 := hidD (below_aft HB1.out hb8); clear hb8))
    go_ret
    exact ⟨rfl, HB8.out⟩
end
open Go.ChangeShapes Go.WideShapes Go.ChangeAt Go.RowKit Go.Joins Go.Shelf Go.WideElems Go.Maps
set_option linter.unusedVariables false
set_option linter.unusedSimpArgs false

set_option maxRecDepth 100000 in
theorem placeTree_lifted (os : Os) (started : os.Started) (H : Type) (enc : TypeId × Value → H) :
    ReturnsInHanded {} Tryd.checked os 6 .any (fun w args => (Rows.placeTreeSpec.pre enc Tryd.prog Tryd.f6 [] false w args ∧ laidMetH Tryd.prog laidT w) ∧ sizedMet enc Tryd.prog Tryd.f6 (OpenSpec.ofChange Rows.placeTreeSpec) false w args)
      (Rows.placeTreeSpec.post enc Tryd.prog Tryd.f6 false true false false) := by
  refine lift_shaped (C := Tryd.checked) (X := fun w _ => laidMetH Tryd.prog laidT w) (fun _ _ _ hh h => h.of_heap hh) own started (by kernel_rfl) Tryd.func6
    (ChangeSpec.witness_shaped (enc := enc) (C := Tryd.checked) (os := os) (X := fun w _ => laidMetH Tryd.prog laidT w) false (World.laidAll Tryd.prog os laidT) #[.agg #[.int .i64 0, .slice none 0 0], .agg #[.int .i64 0, .slice none 0 0], .agg #[.int .i64 0, .slice none 0 0]] 8 (World.laidAll_os _ _ _) (World.shaped_of_ZipB (by kernel_rfl) (by kernel_rfl)) (by kernel_rfl) (by kernel_rfl) (by kernel_rfl) (door_metT os _)) ?_
  intro W base args ds gs before hval0 hW hL hsh
  have hval : ∀ (j : Nat) t v, Tryd.f6.params[j]? = some t → args[j]? = some v → Value.okWide Tryd.prog W .any base t v := hval0
  have hW' := hW
  obtain ⟨p, q, hA0, hV, rfl, hfz, hnd⟩ := hW
  have hA : DataW.TrodAll enc Tryd.prog W 0 (fun _ => true) true Tryd.f6.params.toList args.toList ds p := hA0
  rw [Tryd.params6] at hA hval
  obtain ⟨v0, vs0, d0, ds0, p0, q0, hargs, rfl, rfl, h0, r0⟩ := trodAll_cons hA
  obtain ⟨v1, vs1, d1, ds1, p1, q1, rfl, rfl, rfl, h1, r1⟩ := trodAll_cons r0
  obtain ⟨v2, vs2, d2, ds2, p2, q2, rfl, rfl, rfl, h2, r2⟩ := trodAll_cons r1
  obtain ⟨rfl, rfl, rfl⟩ := trodAll_nil r2
  obtain rfl : args = #[v0, v1, v2] := by cases args; simp_all
  obtain ⟨rfl, rfl⟩ := trodVars_none hV
  have k0 := h0
  have k1 := h1
  have k2 := h2
  have lt0 : ∀ x ∈ p0, x.block < W.heap.size := by obtain ⟨m, hm⟩ := k0; exact DataW.trod_lt m _ _ _ hm
  have lt1 : ∀ x ∈ p1, x.block < W.heap.size := by obtain ⟨m, hm⟩ := k1; exact DataW.trod_lt m _ _ _ hm
  have lt2 : ∀ x ∈ p2, x.block < W.heap.size := by obtain ⟨m, hm⟩ := k2; exact DataW.trod_lt m _ _ _ hm
  obtain ⟨x, X, rfl, hP⟩ := open_place (hval 0 26 v0 rfl rfl) h0
  obtain ⟨y, Y, rfl, hQ⟩ := open_place (hval 1 26 v1 rfl rfl) h1
  obtain ⟨z, Z, rfl, hR⟩ := open_place (hval 2 26 v2 rfl rfl) h2
  clear hA0 hval0
  refine (tree_walk hP hQ hR).mono fun e W' ⟨he, bel⟩ => ?_
  subst he
  exact ⟨_, rfl, _, _, _, [], _, [], hW', trodAll_mk1 (shut_bool Tryd.underlying4 _), (trodAll_cons_mk (Below.trod laidOut (by kernel_rfl) (of_decide_eq_true (by kernel_rfl)) k0 bel lt0) (trodAll_cons_mk (Below.trod laidOut (by kernel_rfl) (of_decide_eq_true (by kernel_rfl)) k1 bel lt1) (trodAll_cons_mk (Below.trod laidOut (by kernel_rfl) (of_decide_eq_true (by kernel_rfl)) k2 bel lt2) trodAll_mk0))), rfl, bel.frame _, fun h => by cases h⟩
theorem placeTree_row : Rows.PlaceTreeSaid :=
  OpenClaim.holds_of_wide 6 Tryd.f6 rfl rfl rfl rfl rfl rfl rfl ⟨rfl, rfl, rfl, rfl, rfl⟩ rfl rfl rfl rfl rfl (by kernel_rfl) Tryd.func6 (by kernel_rfl)
    (of_decide_eq_true (by kernel_rfl)) (by unfold Func.isWrapper; first | (rw [if_pos (by decide +kernel)]; kernel_rfl) | (rw [if_neg (by decide +kernel)]; exact ⟨rfl, rfl⟩))
    (fun os started H enc _ => placeTree_lifted os started H enc)
theorem placeTree_holds : Rows.PlaceTreeCardSaid :=
  Claim7.holds_tied_plain_at .later [] [.data, .data, .data] true (true, "ee7dc7c804ac4f745a5ba83d8aed6ecd8a7da634523cecb06dd4055cc8e0ae99") false
    placeTree_row (fun _ h => by cases h) (by kernel_rfl) (fun _ h => by cases h) placeTree_row_tie rfl ⟨rfl, rfl⟩ (by kernel_rfl) rfl
    (fun f fn hf hfn => by
      obtain rfl : f = 6 := Option.some.inj ((show Tryd.prog.funcNamed "loanword/loanwordlaw09.PlaceTree" = some 6 by kernel_rfl).symm.trans hf) |>.symm
      obtain rfl : fn = Tryd.f6 := (Option.some.inj (Tryd.func6.symm.trans hfn)).symm
      exact ⟨by kernel_rfl, fun j t ht => by
        rw [Tryd.params6] at ht
        have hm : t ∈ [26] := by simpa using Array.mem_of_getElem? ht
        have hall : ([26].all fun u => !Tryd.prog.wantsStandIn u) = true := by kernel_rfl
        exact (show Tryd.prog.wantsStandIn t = false by simpa using List.all_eq_true.1 hall t hm)⟩)
    (by kernel_rfl)
#print axioms placeTree_holds
end Go.Proofs.YtnohcppipkpgmaaDoor
