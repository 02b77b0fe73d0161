/-
  TreeWalks returns true for every tree and leaves it as it was: the row of 'loanwordlaw03.TreeWalks'. No condition beyond the statement's own.
-/
import Derived.Test.YtkidcmglidnaoaaZq
import Derived.Test.YtkidcmglidnaoaaZo
import Derived.Test.YtkidcmglidnaoaaNames
namespace Go.Proofs.Ytkidcmglidnaoaa
open Go.ChangeShapes Go.WideShapes Go.ChangeAt Go.RowKit Go.Joins
open Go.ChangeMaps (open_string shut_string)
set_option linter.unusedVariables false
set_option linter.unusedSimpArgs false

theorem walks_walk (T : List Nd) (a : Option Addr) (cap : Nat) (w : World) (hT : TAt w a T) (hL : Lg T) (hcap : T.length ≤ cap) :
    Calls Try.prog 8 #[trV a T.length cap] w fun e w' => e = .returned (.bool true) ∧ Below w.heap.size w w' := by
  by_cases hF : Fit T
  · by_cases hM : Mayb okP T
    · obtain ⟨x, c, k1, k2, k3, k4⟩ := hM
      have TW : Tw T T.length x c := ⟨k1, rfl, by rw [k1, Fo.len_flat]; simp [Fo.size], k4, k2, k3, hL.sm hF.1 hF.l⟩
      exact walks_yes T T.length x c TW hF hL a cap w hT hcap
    · exact walks_none T _ rfl a cap w hT hL hF hM
  · exact walks_big T _ rfl a cap w hT hL hF
set_option maxRecDepth 100000 in
theorem treeWalks_lifted (os : Os) (started : os.Started) (H : Type) (enc : TypeId × Value → H) :
    ReturnsInHanded {} Try.checked os 8 .any (Rows.treeWalksSpec.pre6 enc Try.prog Try.f8 Rows.treeWalksRow.domain false) (Rows.treeWalksSpec.post enc Try.prog Try.f8 false true false false) := by
  refine returnsInHanded_of_change (C := Try.checked) own started (by kernel_rfl) Try.func8
    (ChangeSpec.witness6 (enc := enc) (C := Try.checked) false ⟨#[], #[.agg #[.slice none 0 0]], []⟩ 8 (by kernel_rfl) (by kernel_rfl) (by kernel_rfl) (by kernel_rfl)) ?_
  intro W base args ds gs before hval0 hW hcnd0 _
  have hval : ∀ (j : Nat) t v, Try.f8.params[j]? = some t → args[j]? = some v → Value.okWide Try.prog W .any base t v := hval0
  have hW' := hW
  obtain ⟨p, q, hA0, hV, rfl, hfz, hnd⟩ := hW
  have hA : DataW.TrodAll enc Try.prog W 0 (fun _ => true) true Try.f8.params.toList args.toList ds p := hA0
  rw [Try.params8] at hA hval
  obtain ⟨v0, vs0, d0, ds0, p0, q0, hargs, rfl, rfl, h0, r0⟩ := trodAll_cons hA
  obtain ⟨rfl, rfl, rfl⟩ := trodAll_nil r0
  obtain rfl : args = #[v0] := by cases args; simp_all
  obtain ⟨rfl, rfl⟩ := trodVars_none hV
  have k0 := h0
  have lt0 : ∀ x ∈ p0, x.block < W.heap.size := by obtain ⟨m, hm⟩ := k0; exact DataW.trod_lt m _ _ _ hm
  obtain ⟨a, cap, T, rfl, hT, hL, hcap⟩ := open_tree (hval 0 24 v0 rfl rfl) h0
  clear hA0 hval0
  refine (walks_walk T a cap W hT hL hcap).mono fun e W' ⟨he, bel⟩ => ?_
  subst he
  exact ⟨_, rfl, _, _, _, [], _, [], hW', trodAll_mk1 (shut_bool Try.underlying4 _), trodAll_cons_mk (Below.trod laidOut (by kernel_rfl) (of_decide_eq_true (by kernel_rfl)) k0 bel lt0) trodAll_mk0, rfl, bel.frame _, fun h => by cases h⟩
theorem treeWalks_holds : Rows.TreeWalksSaid :=
  OpenClaim.holds_of_wide 8 Try.f8 rfl rfl rfl rfl rfl rfl rfl ⟨rfl, rfl, rfl, rfl, rfl⟩ rfl rfl rfl rfl rfl (by kernel_rfl) Try.func8 (by kernel_rfl)
    (of_decide_eq_true (by kernel_rfl)) (by unfold Func.isWrapper; first | (rw [if_pos (by decide +kernel)]; kernel_rfl) | (rw [if_neg (by decide +kernel)]; exact ⟨rfl, rfl⟩))
    (fun os started H enc _ => treeWalks_lifted os started H enc)
#print axioms treeWalks_holds
end Go.Proofs.Ytkidcmglidnaoaa
