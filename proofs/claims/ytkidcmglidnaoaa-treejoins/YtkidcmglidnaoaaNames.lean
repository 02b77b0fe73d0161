import Derived.Test.YtkidcmglidnaoaaMH
import Derived.ProofKit
import Derived.OpenShut
import Derived.ShutString
import Derived.ChangeOld
import Derived.ChangeMaps5
import Derived.Below
import Derived.Lib.SmallJoins
import Derived.Stop.Joined
import Derived.HandedShaped
import Derived.Lay
import Derived.MakeChecks
/-
  TreeNames returns true for every text and leaves it as it was: the row of 'loanwordlaw03.TreeNames'. No condition beyond the statement's own.
-/
namespace Go.Proofs.Ytkidcmglidnaoaa
open Go.ChangeShapes Go.WideShapes Go.ChangeAt Go.RowKit Go.Joins
open Go.ChangeMaps (open_string shut_string)
set_option linter.unusedVariables false
set_option linter.unusedSimpArgs false

set_option maxRecDepth 100000 in
set_option maxHeartbeats 4000000 in
theorem names_walk (S : List UInt8) (w : World) (hS : S.length ≤ maxLen) :
    Calls Try.prog 6 #[.string (str S)] w fun e w' => e = .returned (.bool true) ∧ Below w.heap.size w w' := by
  have H1 : Hid (∀ W, Calls Try.prog 30 #[.string (str S)] W fun e w' => e = .returned (.bool (nmB S && !isK (str S))) ∧ Below W.heap.size W w') := fun W => name_any S W hS
  have H2 : Hid (∀ W, Calls Try.prog 31 #[.string (str S)] W fun e w' => e = .returned (.bool (nmB S && !isK (str S))) ∧ w' = W) := fun W => rname_any S W hS
  have H3 : Hid (∀ W, Calls Try.prog 32 #[.string (str S)] W fun e w' => e = .returned (.bool (tnB S && !isBx (str S))) ∧ Below W.heap.size W w') := fun W => typeName_any S W hS
  have H4 : Hid (∀ W, Calls Try.prog 33 #[.string (str S)] W fun e w' => e = .returned (.bool (tnB S && !isBx (str S))) ∧ w' = W) := fun W => rtypeName_any S W hS
  generalize (nmB S && !isK (str S)) = x at *
  generalize (tnB S && !isBx (str S)) = y at *
  go_enter Try.func6, Try.ntmps6
  go_wp2_with (first
    | (go_at_call 30; refine (H1.out _).mono ?_; rintro e w1 ⟨rfl, hb1⟩)
    | (go_at_call 31; refine (H2.out _).mono ?_; rintro e w2 ⟨rfl, hw2⟩; replace hw2 := hw2.symm; subst hw2)
    | (go_at_call 32; refine (H3.out _).mono ?_; rintro e w3 ⟨rfl, hb3⟩)
    | (go_at_call 33; refine (H4.out _).mono ?_; rintro e w4 ⟨rfl, hw4⟩; replace hw4 := hw4.symm; subst hw4)
    | (go_at_call 10; refine (awake_true _).mono ?_; rintro e w5 ⟨rfl, hb5⟩))
  go_ret
  exact ⟨by first | rfl | simp, below_aft (below_aft hb1 hb3) hb5⟩
theorem own : ownKnob Try.prog.godebug = none := by kernel_rfl
theorem laidOut : laidOutB Try.prog = true := by kernel_rfl
set_option maxRecDepth 100000 in
theorem treeNames_lifted (os : Os) (started : os.Started) (H : Type) (enc : TypeId × Value → H) :
    ReturnsInHanded {} Try.checked os 6 .any (Rows.treeNamesSpec.pre6 enc Try.prog Try.f6 Rows.treeNamesRow.domain false) (Rows.treeNamesSpec.post enc Try.prog Try.f6 false true false false) := by
  refine returnsInHanded_of_change (C := Try.checked) own started (by kernel_rfl) Try.func6
    (ChangeSpec.witness6 (enc := enc) (C := Try.checked) false ⟨#[], #[.string ⟨#[]⟩], []⟩ 8 (by kernel_rfl) (by kernel_rfl) (by kernel_rfl) (by kernel_rfl)) ?_
  intro W base args ds gs before hval0 hW hcnd0 _
  have hval : ∀ (j : Nat) t v, Try.f6.params[j]? = some t → args[j]? = some v → Value.okWide Try.prog W .any base t v := hval0
  have hW' := hW
  obtain ⟨p, q, hA0, hV, rfl, hfz, hnd⟩ := hW
  have hA : DataW.TrodAll enc Try.prog W 0 (fun _ => true) true Try.f6.params.toList args.toList ds p := hA0
  rw [Try.params6] at hA hval
  obtain ⟨v0, vs0, d0, ds0, p0, q0, hargs, rfl, rfl, h0, r0⟩ := trodAll_cons hA
  obtain ⟨rfl, rfl, rfl⟩ := trodAll_nil r0
  obtain rfl : args = #[v0] := by cases args; simp_all
  obtain ⟨rfl, rfl⟩ := trodVars_none hV
  obtain ⟨s, rfl, rfl, rfl, ws⟩ := open_string Try.underlying9 (hval 0 9 v0 rfl rfl) h0
  clear hA0 hval0
  have hs0 : str s.data.toList = s := rfl
  have hw := names_walk s.data.toList W ws
  rw [hs0] at hw
  refine hw.mono fun e W' ⟨he, bel⟩ => ?_
  subst he
  exact ⟨_, rfl, _, _, _, [], _, [], hW', trodAll_mk1 (shut_bool Try.underlying4 _), (trodAll_cons_mk (shut_string Try.underlying9 ws) trodAll_mk0), rfl, bel.frame _, fun h => by cases h⟩
theorem treeNames_holds : Rows.TreeNamesSaid :=
  OpenClaim.holds_of_wide 6 Try.f6 rfl rfl rfl rfl rfl rfl rfl ⟨rfl, rfl, rfl, rfl, rfl⟩ rfl rfl rfl rfl rfl (by kernel_rfl) Try.func6 (by kernel_rfl)
    (of_decide_eq_true (by kernel_rfl)) (by unfold Func.isWrapper; first | (rw [if_pos (by decide +kernel)]; kernel_rfl) | (rw [if_neg (by decide +kernel)]; exact ⟨rfl, rfl⟩))
    (fun os started H enc _ => treeNames_lifted os started H enc)
#print axioms treeNames_holds
end Go.Proofs.Ytkidcmglidnaoaa
