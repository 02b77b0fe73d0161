import Derived.Test.YtnohcppipkpgmaaDoorC
namespace Go.Proofs.YtnohcppipkpgmaaDoor
open Go.RowKit
set_option linter.unusedVariables false
set_option linter.unusedSimpArgs false

set_option maxRecDepth 100000 in
theorem mayAmong_any (n : Int) (t : Ty) (f : Fv) (w : World) (h : TyAt w f t) : Calls Tryd.prog 71 #[.int .i64 n, f.v] w fun e w' => e = .returned (.bool (mayB n 48 t)) ∧ Below w.heap.size w w' := by
  have C : Hid (∀ w', Below w.heap.size w w' → Calls Tryd.prog 84 #[.int .i64 1, .int .i64 n, f.v] w' fun e w1 => e = .returned (.bool (mayB n 48 t)) ∧ Below w'.heap.size w' w1) := fun w' hb => may_all n 48 (by omega) (by omega) t f w' 1 (by omega) (h.bel hb)
  obtain ⟨rr, hrr⟩ : ∃ rr, rr = mayB n 48 t := ⟨_, rfl⟩
  rw [← hrr] at C ⊢
  clear hrr h
  go_enter Tryd.func71, Tryd.ntmps71
  go_wp2_with (go_at_call 84; refine (C.out _ (belA (Below.refl _ _))).mono ?_; rintro e w1 ⟨rfl, hb1⟩)
  go_ret
  exact ⟨rfl, below1 hb1⟩
abbrev isT (t : Ty) : Bool := mayB 32 48 t
set_option maxRecDepth 100000 in
theorem some_any (t : Ty) (f : Fv) (w : World) (h : TyAt w f t) : Calls Tryd.prog 58 #[f.v] w fun e w' => e = .returned (.bool (isT t)) ∧ Below w.heap.size w w' := by
  have C : Hid (∀ w', Below w.heap.size w w' → Calls Tryd.prog 71 #[.int .i64 32, f.v] w' fun e w1 => e = .returned (.bool (isT t)) ∧ Below w'.heap.size w' w1) := fun w' hb => mayAmong_any 32 t f w' (h.bel hb)
  obtain ⟨rr, hrr⟩ : ∃ rr, rr = isT t := ⟨_, rfl⟩
  rw [← hrr] at C ⊢
  clear hrr h
  go_enter Tryd.func58, Tryd.ntmps58
  go_wp2_with (go_at_call 71; refine (C.out _ (belA (Below.refl _ _))).mono ?_; rintro e w1 ⟨rfl, hb1⟩)
  go_ret
  exact ⟨rfl, below1 hb1⟩
end Go.Proofs.YtnohcppipkpgmaaDoor
