import Derived.Test.YtahdnfogdnondaaGreatDoorZb
import Derived.Test.YtahdnfogdnondaaGreatDoorZc
import Derived.Test.YtahdnfogdnondaaGreatDoorPf
namespace Go.Proofs.YtahdnfogdnondaaGreatDoor
open Go.RowKit
set_option linter.unusedVariables false
set_option linter.unusedSimpArgs false

theorem ret_int {k : IntKind} {a b : Int} (h : a = b) : Ending.returned (.int k a) = .returned (.int k b) := by rw [h]
/-- A name, a sign is short. -/
theorem tx_len {k : Nat} {s : List UInt8} (h : txB k s = true) : s.length ≤ 32 := by
  have hn : nmS s = true → s.length ≤ 32 := fun h => by
    unfold nmS nmB at h
    simp only [Bool.and_eq_true, decide_eq_true_eq] at h
    exact h.1.1.1.2
  have ht : tnS s = true → s.length ≤ 32 := fun h => by
    unfold tnS tnB at h
    simp only [Bool.and_eq_true, decide_eq_true_eq] at h
    exact h.1.1.1.2
  have he : emS s = true → s.length ≤ 32 := fun h => by
    unfold emS at h
    rw [str_toList] at h
    cases s with
    | nil => simp
    | cons => simp at h
  have hs : isS (str s) = true → s.length ≤ 32 := fun h => by
    unfold isS at h
    rw [List.any_eq_true] at h
    obtain ⟨y, hy, h⟩ := h
    rw [str_toList] at h
    have : s = y := by simpa using h
    subst this
    have hall : (sgs.all fun y => decide (y.length ≤ 32)) = true := by decide
    exact of_decide_eq_true (List.all_eq_true.1 hall s hy)
  unfold txB at h
  split at h
  · exact hn h
  · split at h
    · exact ht h
    · split at h
      · rw [Bool.or_eq_true] at h
        exact h.elim he hn
      · split at h
        · exact hs h
        · exact he h
theorem ok_txt (f : Fo) : f.all okP = true → ∀ o, ∀ d ∈ f.flat o, d.x.s.length ≤ 32 ∧ d.x.k ≤ 37 := by
  induction f with
  | nil => intro _ o d h; simp [Fo.flat] at h
  | cons x c r ihc ihr =>
    intro ha o d h
    simp only [Fo.all, Bool.and_eq_true] at ha
    simp only [Fo.flat, List.mem_cons, List.mem_append] at h
    rcases h with rfl | h | h
    · have hok := ha.1.1
      unfold okP at hok
      simp only [Bool.and_eq_true] at hok
      refine ⟨tx_len hok.1.1.2, ?_⟩
      apply Classical.byContradiction
      intro hk
      have := cf_other (k := x.k) (by have : ¬ x.k ≤ 37 := hk; omega) x.n c.kinds
      rw [hok.2] at this
      cases this
    · exact ihc ha.1.2 _ d h
    · exact ihr ha.2 _ d h
theorem NRow.seg {w : World} {g off : Nat} {T : List Nd} (h : NRow w g off T) (n m : Nat) : NRow w g (off + n * 5) ((T.drop n).take m) := fun i d hd => by
  rw [List.getElem?_take] at hd
  split at hd
  · rw [List.getElem?_drop] at hd
    have := h (n + i) d hd
    rw [show off + (n + i) * 5 = off + n * 5 + i * 5 by omega] at this
    exact this
  · cases hd
set_option maxRecDepth 100000 in
set_option maxHeartbeats 4000000 in
theorem behind_any (x : Nx) (c : Fo) (T : List Nd) (hTe : T = (Fo.cons x c .nil).flat 0) (n sz d : Nat) (a : Option Addr) (cap : Nat) (w : World) (hT : TAt w a T) (hS : Sm T) (hn : n + 1 + sz ≤ T.length)
    (h1 : (lvI x c)[n]? = some (d : Int)) (h2 : ∀ j, j < sz → ∃ v : Int, (lvI x c)[n + 1 + j]? = some v ∧ (d : Int) < v) (h3 : n + 1 + sz < T.length → ∃ v : Int, (lvI x c)[n + 1 + sz]? = some v ∧ v ≤ (d : Int)) :
    Calls Tryz.prog 50 #[trV a T.length cap, .int .i64 n] w fun e w' => e = .returned (.int .i64 ((n + 1 + sz : Nat) : Int)) ∧ Below w.heap.size w w' := by
  have hTn := hS.n
  have A1 := At.new w (Tro a T.length cap)
  obtain ⟨c0, f0⟩ := A1.one
  have hB1 : Below w.heap.size w (w.alloc (Tro a T.length cap)) := belA (Below.refl _ _)
  have hlen : T.length = 1 + c.size := by rw [hTe, Fo.len_flat]; simp [Fo.size]
  have HLV : Hid (∀ W, Below w.heap.size w W → Calls Tryz.prog 73 #[trV a T.length cap] W fun e w' => ∃ g, e = .returned (.slice (some ⟨g, 0, none⟩) T.length T.length) ∧ Rw w' g 3 (iCells (lvI x c)) ∧ W.heap.size ≤ g ∧ Below W.heap.size W w') := fun W hW => levels_n x c T.length hlen a cap W (by rw [← hTe]; exact hT.below hW) (by rw [← hTe]; exact hS)
  obtain ⟨L, hL⟩ : ∃ L, L = lvI x c := ⟨_, rfl⟩
  rw [← hL] at h1 h2 h3 HLV
  have H1 : Hid (L[n]? = some (d : Int)) := h1
  have H2 : Hid (∀ j, j < sz → ∃ v : Int, L[n + 1 + j]? = some v ∧ (d : Int) < v) := h2
  have H3 : Hid (n + 1 + sz < T.length → ∃ v : Int, L[n + 1 + sz]? = some v ∧ v ≤ (d : Int)) := h3
  clear hT hS hTe hL h1 h2 h3 hlen
  have e1 : IntKind.i64.wrap ((n : Int) + 1) = (n : Int) + 1 := by rw [IntKind.wrap_i64]; omega
  go_enter Tryz.func50, Tryz.ntmps50
  go_wp2_with (go_at_call 73; refine (HLV.out _ hB1).mono ?_; rintro e w1 ⟨g, rfl, hR, hg, hb1⟩)
  have hB2 := below_aft hB1 hb1
  clear hb1 hB1 c0 f0 A1
  go_loopw [6] (fun i W => ∃ k : Nat, k ≤ sz ∧ i = .int .i64 ((n + 1 + k : Nat) : Int) ∧ Rw W g 3 (iCells L) ∧ Below w.heap.size w W) (fun i _ => n + 1 + sz - (intOf i).toNat)
  case atStart => exact ⟨0, Nat.zero_le _, by simp, hR, hB2⟩
  case round =>
    obtain ⟨k, hk, rfl, hR', hB⟩ := hrel
    clear hR hB2
    have c1 : wr.cell? ⟨g, n, none⟩ = some (.int .i64 (d : Int)) := hR'.cell (by rw [iCells, List.getElem?_map, H1.out]; rfl)
    obtain ⟨m, hm⟩ : ∃ m, m = n + 1 + k := ⟨_, rfl⟩
    rw [← hm]
    have z0 : (0 : Int) ≤ (n : Int) := by omega
    have z1 : (n : Int) < (T.length : Int) := by omega
    have z2 : (0 : Int) ≤ (m : Int) := by omega
    have w3 : IntKind.i64.wrap ((m : Int) + 1) = (m : Int) + 1 := by rw [IntKind.wrap_i64]; omega
    have HM : Hid (m = n + 1 + k) := hm
    by_cases hlt : k < sz
    · obtain ⟨v, hv1, hv2⟩ := H2.out k hlt
      rw [← hm] at hv1
      have c2 : wr.cell? ⟨g, m, none⟩ = some (.int .i64 v) := hR'.cell (by rw [iCells, List.getElem?_map, hv1]; rfl)
      have z3 : (m : Int) < (T.length : Int) := by omega
      have z4 : decide ((m : Int) < (T.length : Int)) = true := decide_eq_true z3
      have z5 : decide ((d : Int) < v) = true := decide_eq_true hv2
      clear hm hv1
      go_wp2
      go_quiet (fail)
      go_wp2
      have := HM.out
      exact ⟨⟨k + 1, by omega, by go_num, hR', below_drewN hB _⟩, by simp [intOf]; omega⟩
    · obtain rfl : k = sz := by omega
      by_cases hend : m < T.length
      · obtain ⟨v, hv1, hv2⟩ := H3.out (by omega)
        rw [← hm] at hv1
        have c2 : wr.cell? ⟨g, m, none⟩ = some (.int .i64 v) := hR'.cell (by rw [iCells, List.getElem?_map, hv1]; rfl)
        have z3 : (m : Int) < (T.length : Int) := by omega
        have z4 : decide ((m : Int) < (T.length : Int)) = true := decide_eq_true z3
        have z6 : ¬ (d : Int) < v := by omega
        have z5 : decide ((d : Int) < v) = false := decide_eq_false z6
        clear hm hv1
        go_wp2
        go_quiet (fail)
        go_wp2
        go_ret
        exact ⟨ret_int (by rw [HM.out]), below_drewN hB _⟩
      · have z3 : ¬ (m : Int) < (T.length : Int) := by omega
        have z4 : decide ((m : Int) < (T.length : Int)) = false := decide_eq_false z3
        clear hm
        go_wp2
        go_quiet (fail)
        go_wp2
        go_ret
        exact ⟨ret_int (by rw [HM.out]), below_drewN hB _⟩
end Go.Proofs.YtahdnfogdnondaaGreatDoor
