import Derived.Test.YtahdnfogdnondaaGreatDoorV
import Derived.Test.YtahdnfogdnondaaGreatDoorQ
namespace Go.Proofs.YtahdnfogdnondaaGreatDoor
open Go.RowKit
set_option linter.unusedVariables false
set_option linter.unusedSimpArgs false

set_option maxRecDepth 100000 in
set_option maxHeartbeats 2000000 in
theorem max_any (l : List Int) (g cap : Nat) (w : World) (h0 : 0 < l.length) (hn : l.length ≤ 20000) (hR : Rw w g 3 (iCells l)) :
    Calls Tryz.prog 72 #[.slice (some ⟨g, 0, none⟩) l.length cap] w fun e w' => (∃ m, e = .returned (.int .i64 m) ∧ m ∈ l ∧ ∀ v ∈ l, v ≤ m) ∧ w' = w := by
  have hc : ∀ i v, l[i]? = some v → w.cell? ⟨g, i, none⟩ = some (.int .i64 v) := fun i v h => hR.cell (by rw [iCells, List.getElem?_map, h]; rfl)
  obtain ⟨v0, hv0⟩ : ∃ v0, l[0]? = some v0 := ⟨_, List.getElem?_eq_getElem h0⟩
  have c0 := hc 0 v0 hv0
  have HC : Hid (∀ i v, l[i]? = some v → w.cell? ⟨g, i, none⟩ = some (.int .i64 v)) := hc
  have HV0 : Hid (l[0]? = some v0) := hv0
  clear hc hR hv0
  have z1 : ¬ (l.length : Int) < 1 := by omega
  have z2 : (0 : Int) < (l.length : Int) := by omega
  go_enter Tryz.func72, Tryz.ntmps72
  go_wp2
  go_loopw [3, 4] (fun r i W => ∃ (k : Nat) (m : Int), 1 ≤ k ∧ k ≤ l.length ∧ i = .int .i64 k ∧ r = .int .i64 m ∧ m ∈ l ∧ (∀ j v, j < k → l[j]? = some v → v ≤ m) ∧ W = w) (fun _ i _ => l.length - (intOf i).toNat)
  case atStart =>
    refine ⟨1, v0, by omega, h0, rfl, rfl, List.mem_of_getElem? HV0.out, fun j v hj h => ?_, rfl⟩
    obtain rfl : j = 0 := by omega
    rw [HV0.out] at h
    cases h
    exact Int.le_refl _
  case round =>
    obtain ⟨k, m, hk1, hk, rfl, rfl, hm, hall, hww⟩ := hrel
    replace hww := hww.symm
    subst hww
    have HALL : Hid (m ∈ l ∧ ∀ j v, j < k → l[j]? = some v → v ≤ m) := ⟨hm, hall⟩
    clear hm hall
    by_cases hlt : k < l.length
    · obtain ⟨v, hv⟩ : ∃ v, l[k]? = some v := ⟨_, List.getElem?_eq_getElem hlt⟩
      have c1 := HC.out k v hv
      have HV : Hid (l[k]? = some v) := hv
      clear hv
      have k0 : (0 : Int) ≤ (k : Int) := by omega
      have k1 : (k : Int) < (l.length : Int) := by omega
      have w3 : IntKind.i64.wrap ((k : Int) + 1) = (k : Int) + 1 := by rw [IntKind.wrap_i64]; omega
      go_wp2
      refine ⟨⟨k + 1, if m < v then v else m, by omega, by omega, by go_num, rfl, ?_, fun j u hj hu => ?_, by first | rfl | trivial⟩, by simp [intOf]; omega⟩
      · split
        · exact List.mem_of_getElem? HV.out
        · exact HALL.out.1
      · rcases Nat.lt_or_ge j k with h | h
        · have := HALL.out.2 j u h hu
          split <;> omega
        · obtain rfl : j = k := by omega
          rw [HV.out] at hu
          cases hu
          split <;> omega
    · obtain rfl : k = l.length := by omega
      go_wp2
      go_ret
      refine ⟨⟨m, rfl, HALL.out.1, fun v hv => ?_⟩, rfl⟩
      obtain ⟨j, hj, rfl⟩ := List.getElem_of_mem hv
      exact HALL.out.2 j _ hj (List.getElem?_eq_getElem hj)
end Go.Proofs.YtahdnfogdnondaaGreatDoor
