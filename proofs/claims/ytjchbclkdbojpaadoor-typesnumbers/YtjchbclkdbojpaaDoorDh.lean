import Derived.Test.YtjchbclkdbojpaaDoorDg
namespace Go.Proofs.YtjchbclkdbojpaaDoor
open Go.RowKit
set_option linter.unusedVariables false
set_option linter.unusedSimpArgs false

theorem arr_false : arr (bV fun _ => false) = #[.bool false, .bool false, .bool false, .bool false, .bool false, .bool false, .bool false, .bool false, .bool false, .bool false, .bool false, .bool false, .bool false, .bool false, .bool false, .bool false, .bool false, .bool false, .bool false, .bool false, .bool false, .bool false, .bool false, .bool false, .bool false, .bool false, .bool false, .bool false, .bool false, .bool false, .bool false, .bool false] := rfl
set_option maxRecDepth 100000 in
set_option maxHeartbeats 4000000 in
/-- isEndless (49): does a struct stand in itself? -/
theorem endless_any (a : Option Addr) (n cap : Nat) (ss : List (List Ty)) (w : World) (h : StAt w a n cap ss) (hn : n ≤ 32) (hF : Fine ss) (i : Nat) (hi : i < n) (b : Bool) (hb : b = true ↔ Stn ss i i) :
    Calls Tryd.prog 49 #[.slice a n cap, .int .i64 (i : Int)] w fun e w' => e = .returned (.bool b) ∧ Below w.heap.size w w' := by
  have HB := hidD hb
  have CM : Hid (∀ W, Below w.heap.size w W → Arr W w.heap.size 121 (bV fun _ => false) → Calls Tryd.prog 81 #[.slice a n cap, .int .i64 (i : Int), .pointer (some ⟨w.heap.size, 0, none⟩)] W fun e w' => e = .returned (.tuple #[]) ∧ ∃ M', Arr w' w.heap.size 121 (bV M') ∧ But w.heap.size W w' ∧ MP ss i (fun _ => false) M') := hidD (fun W hW hA => mark_any w a n cap ss h hn hF w.heap.size (Nat.le_refl _) _ i _ W (Nat.lt_succ_self _) hi hW hA)
  have j0 : (0 : Int) ≤ (i : Int) := by omega
  have j1 : (i : Int) < 32 := by omega
  have HI := hidD (Nat.lt_of_lt_of_le hi hn)
  have HA1 : Hid (∀ o, o = Obj.cells (arr (bV fun _ => false)) 121 → Arr (w.alloc o) w.heap.size 121 (bV fun _ => false)) := hidD (fun o e => by subst e; exact At.new _ _)
  clear h hF hb hi hn
  go_enter Tryd.func49, Tryd.ntmps49
  go_wp2_with (go_at_call 81; refine (CM.out _ (belA (Below.refl _ _)) (HA1.out _ (by rw [arr_false]))).mono ?_; rintro e w1 ⟨rfl, M', hA', hB', hMP⟩; have hc0 := At.arrc hA' HI.out; have hbl := At.lt hA'; have HMP := hidD hMP; have HB' := hidD hB'; clear hMP hB' hA')
  go_ret
  refine ⟨?_, belBut (belA (Below.refl _ _)) HB'.out (Nat.le_refl _) (by simp)⟩
  have e : M' i = b := by
    have h1 := HMP.out.iff i
    have h2 := HB.out
    rw [Bool.eq_iff_iff, h1, h2]
  rw [← e]
  rfl
end Go.Proofs.YtjchbclkdbojpaaDoor
