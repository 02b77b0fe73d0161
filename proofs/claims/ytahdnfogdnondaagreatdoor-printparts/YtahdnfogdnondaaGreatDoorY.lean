import Derived.Test.YtahdnfogdnondaaGreatDoorX
import Derived.Test.YtahdnfogdnondaaGreatDoorPe
namespace Go.Proofs.YtahdnfogdnondaaGreatDoor
open Go.RowKit
set_option linter.unusedVariables false
set_option linter.unusedSimpArgs false

theorem max_deep {x : Nx} {c : Fo} {m : Int} (h1 : m ∈ lvI x c) (h2 : ∀ v ∈ lvI x c, v ≤ m) : m + 1 = ((Fo.cons x c .nil).deep : Int) := by
  obtain ⟨v, hv, rfl⟩ := List.mem_map.1 h1
  have e1 := Fo.lv_bound _ _ v hv
  have hd : 0 < (Fo.cons x c .nil).deep := Fo.deep_pos (by simp [Fo.size]; omega)
  have e2 := h2 _ (List.mem_map.2 ⟨_, Fo.lv_max _ 0 hd, rfl⟩)
  omega
theorem lt_of_cell0 {w : World} {b off : Nat} {v : Value} (h : w.cell? ⟨b, off, none⟩ = some v) : b < w.heap.size := by
  rcases Nat.lt_or_ge b w.heap.size with h1 | h1
  · exact h1
  · rw [World.cell?] at h
    simp [Array.getElem?_eq_none h1] at h
set_option maxRecDepth 100000 in
set_option maxHeartbeats 4000000 in
theorem check_mid (T : List Nd) (a : Option Addr) (cap : Nat) (w : World) (hT : TAt w a T) (hS : Sm T) (hT0 : T ≠ []) (hl : T.length ≤ 16384) :
    Calls Tryz.prog 48 #[trV a T.length cap] w fun e w' => (∃ n v : Int, e = .returned (.tuple #[.int .i64 n, .int .i64 v]) ∧ Ck okP T v) ∧ Below w.heap.size w w' := by
  have hTp : 0 < T.length := List.length_pos_iff.2 hT0
  have A1 := At.new w (Tro a T.length cap)
  obtain ⟨c0, f0⟩ := A1.one
  have hB1 : Below w.heap.size w (w.alloc (Tro a T.length cap)) := belA (Below.refl _ _)
  have HU : Hid (∀ W, Below w.heap.size w W → Calls Tryz.prog 70 #[trV a T.length cap] W fun e w' => (∃ n : Nat, e = .returned (.int .i64 n) ∧ n ≤ T.length ∧ (n = T.length ↔ ∀ d ∈ T, askB okP T d = true)) ∧ Below W.heap.size W w') := fun W hW => firstUnlike_any T a cap W (hT.below hW) hS
  have HV : Hid (∀ W, Below w.heap.size w W → Calls Tryz.prog 71 #[trV a T.length cap] W fun e w' => (∃ n : Nat, e = .returned (.int .i64 n) ∧ n ≤ T.length ∧ (n = T.length ↔ ∃ x c, T = (Fo.cons x c .nil).flat 0)) ∧ Below W.heap.size W w') := fun W hW => firstStray_any T a cap W (hT.below hW) hS hT0
  have z1 : ((T.length : Int) == 0) = false := by simpa using (by omega : ¬ (T.length : Int) = 0)
  have z2 : ¬ (16384 : Int) < (T.length : Int) := by omega
  have z3 : (T.length == 0) = false := by simpa using (by omega : ¬ T.length = 0)
  go_enter Tryz.func48, Tryz.ntmps48
  go_wp2
  refine beginH (S := fun w' => Below w.heap.size w w' ∧ w'.cell? ⟨w.heap.size, 0, none⟩ = some (.slice a T.length cap)) (fun _ _ _ _ _ h => h) (by kernel_rfl) ⟨hB1.drew, c0⟩ (fun hq hHeld => ?_)
  refine takeH (i := 0) (d := 12) _ hq rfl rfl (by kernel_rfl) (by kernel_rfl) (by kernel_rfl) (by rfl) (fun W hSw => by (have s1 := hSw.2; go_simp; try rfl)) hHeld ?_
  try simp only [Act.put, List.setIfInBounds_toArray, List.set_cons_zero, List.set_cons_succ]
  refine takeH (i := 2) (d := 14) _ hq rfl rfl (by kernel_rfl) (by kernel_rfl) (by kernel_rfl) (by rfl) (fun W hSw => by (have s1 := hSw.2; go_simp; try rfl)) hHeld ?_
  try simp only [Act.put, List.setIfInBounds_toArray, List.set_cons_zero, List.set_cons_succ]
  refine wpAnyH_ready (rs := [1]) (by kernel_rfl) (by simp) ?_
  refine AllReadyH.cons rfl (fun K hK => ?_) AllReadyH.nil
  go_simp
  refine (HU.out _ hHeld.1).mono ?_; rintro e wa ⟨⟨u, rfl, hu1, hu2⟩, hba⟩; have BB1 : Below w.heap.size w wa := below_aft hHeld.1 hba; have CC1 : wa.cell? ⟨w.heap.size, 0, none⟩ = some (.slice a T.length cap) := (hba.cell (p := ⟨w.heap.size, 0, none⟩) (by simp [World.drew])).trans hHeld.2; have HU1 : Hid (u ≤ T.length ∧ (u = T.length ↔ ∀ d ∈ T, askB okP T d = true)) := ⟨hu1, hu2⟩; clear hu1 hu2
  go_wp2_with fail
  refine hK.out _ _ ⟨BB1, CC1⟩ (fun hHeld => ?_)
  clear hK K
  try simp only [Act.put, List.setIfInBounds_toArray, List.set_cons_zero, List.set_cons_succ]
  refine wpAnyH_ready (rs := [3]) (by kernel_rfl) (by simp) ?_
  refine AllReadyH.cons rfl (fun K hK => ?_) AllReadyH.nil
  go_simp
  refine (HV.out _ hHeld.1).mono ?_; rintro e wb ⟨⟨s, rfl, hs1, hs2⟩, hbb⟩; have BB2 : Below w.heap.size w wb := below_aft hHeld.1 hbb; have CC2 : wb.cell? ⟨w.heap.size, 0, none⟩ = some (.slice a T.length cap) := (hbb.cell (p := ⟨w.heap.size, 0, none⟩) (lt_of_cell0 hHeld.2)).trans hHeld.2; have HV1 : Hid (s ≤ T.length ∧ (s = T.length ↔ ∃ x c, T = (Fo.cons x c .nil).flat 0)) := ⟨hs1, hs2⟩; clear hs1 hs2
  go_wp2_with fail
  refine hK.out _ _ ⟨BB2, CC2⟩ (fun hHeld => ?_)
  clear hK K
  try simp only [Act.put, List.setIfInBounds_toArray, List.set_cons_zero, List.set_cons_succ]
  refine takeH (i := 4) (d := 16) _ hq rfl rfl (by kernel_rfl) (by kernel_rfl) (by kernel_rfl) (by rfl) (fun W hSw => by (go_simp; try rfl)) hHeld ?_
  try simp only [Act.put, List.setIfInBounds_toArray, List.set_cons_zero, List.set_cons_succ]
  refine takeH (i := 5) (d := 2) _ hq rfl rfl (by kernel_rfl) (by kernel_rfl) (by kernel_rfl) (by rfl) (fun W hSw => by (go_simp; try rfl)) hHeld ?_
  try simp only [Act.put, List.setIfInBounds_toArray, List.set_cons_zero, List.set_cons_succ]
  refine wpAnyH_done (by kernel_rfl) ?_ _
  have BB := hHeld.1
  have CC := hHeld.2
  have hmin : (if s < u then (s : Int) else (u : Int)) = ((min s u : Nat) : Int) := by split <;> omega
  rw [hmin]
  obtain ⟨q, hq⟩ : ∃ q, q = min s u := ⟨_, rfl⟩
  rw [← hq]
  have hqT : q ≤ T.length := by have := HU1.out.1; omega
  have HQ : Hid (q = T.length ↔ (∀ d ∈ T, askB okP T d = true) ∧ ∃ x c, T = (Fo.cons x c .nil).flat 0) := by
    show q = T.length ↔ _
    have h1 := HU1.out
    have h2 := HV1.out
    rw [← h1.2, ← h2.2]
    omega
  clear hmin hq hHeld BB1 CC1 BB2 CC2 hba hbb
  by_cases hlt : q < T.length
  · have k1 : (q : Int) < (T.length : Int) := by omega
    have k2 : decide ((q : Int) < (T.length : Int)) = true := decide_eq_true k1
    go_wp2
    go_ret2
    refine ⟨⟨_, 30, rfl, .inr (.inr ⟨hT0, hl, .inl ⟨?_, rfl⟩⟩)⟩, BB⟩
    rintro ⟨x, c, h1, h2⟩
    have : q = T.length := HQ.out.2 ⟨by rw [h1]; exact (ask_whole okP x c).2 h2, x, c, h1⟩
    omega
  · have k1 : ¬ (q : Int) < (T.length : Int) := by omega
    have k2 : decide ((q : Int) < (T.length : Int)) = false := decide_eq_false k1
    obtain ⟨hask, x, c, hTe⟩ := HQ.out.1 (by omega)
    have hall : (Fo.cons x c .nil).all okP = true := by
      rw [hTe] at hask
      exact (ask_whole okP x c).1 hask
    have hlen : T.length = 1 + c.size := by rw [hTe, Fo.len_flat]; simp [Fo.size]
    have HLV : Hid (∀ W, Below w.heap.size w W → Calls Tryz.prog 73 #[trV a T.length cap] W fun e w' => ∃ g, e = .returned (.slice (some ⟨g, 0, none⟩) T.length T.length) ∧ Rw w' g 3 (iCells (lvI x c)) ∧ W.heap.size ≤ g ∧ Below W.heap.size W w') := fun W hW => levels_n x c T.length hlen a cap W (by rw [← hTe]; exact hT.below hW) (by rw [← hTe]; exact hS)
    have HMX : Hid (∀ W g, Rw W g 3 (iCells (lvI x c)) → Calls Tryz.prog 72 #[.slice (some ⟨g, 0, none⟩) T.length T.length] W fun e w' => (∃ m, e = .returned (.int .i64 m) ∧ m ∈ lvI x c ∧ ∀ v ∈ lvI x c, v ≤ m) ∧ w' = W) := fun W g hR => by
      have := max_any (lvI x c) g T.length W (by rw [lvI_len]; omega) (by rw [lvI_len]; omega) hR
      rw [lvI_len, ← hlen] at this
      exact this
    have HF : Hid (T = (Fo.cons x c .nil).flat 0 ∧ (Fo.cons x c .nil).all okP = true) := ⟨hTe, hall⟩
    clear hask hTe hall hlen HQ
    by_cases hd : 48 < (Fo.cons x c .nil).deep
    · go_wp2_with (first
        | (go_at_call 73; refine (HLV.out _ BB).mono ?_; rintro e w3 ⟨g, rfl, hR, hg, hb3⟩)
        | (go_at_call 72; refine (HMX.out _ g hR).mono ?_; rintro e w4 ⟨⟨m, rfl, hm1, hm2⟩, rfl⟩; have hm3 := max_deep hm1 hm2; have hm4 : (48 : Int) ≤ m := (by omega); have hm5 : decide ((48 : Int) ≤ m) = true := decide_eq_true hm4; clear hm1 hm2 hm3))
      go_ret2
      exact ⟨⟨_, 4, rfl, .inr (.inr ⟨hT0, hl, .inr ⟨x, c, HF.out.1, HF.out.2, by rw [if_pos hd]⟩⟩)⟩, below_aft BB hb3⟩
    · go_wp2_with (first
        | (go_at_call 73; refine (HLV.out _ BB).mono ?_; rintro e w3 ⟨g, rfl, hR, hg, hb3⟩)
        | (go_at_call 72; refine (HMX.out _ g hR).mono ?_; rintro e w4 ⟨⟨m, rfl, hm1, hm2⟩, rfl⟩; have hm3 := max_deep hm1 hm2; have hm4 : ¬ (48 : Int) ≤ m := (by omega); have hm5 : decide ((48 : Int) ≤ m) = false := decide_eq_false hm4; clear hm1 hm2 hm3))
      go_ret2
      exact ⟨⟨_, 0, rfl, .inr (.inr ⟨hT0, hl, .inr ⟨x, c, HF.out.1, HF.out.2, by rw [if_neg hd]⟩⟩)⟩, below_aft BB hb3⟩
set_option maxRecDepth 100000 in
set_option maxHeartbeats 4000000 in
theorem check_any (T : List Nd) (a : Option Addr) (cap : Nat) (w : World) (hT : TAt w a T) (hS : Sm T) :
    Calls Tryz.prog 48 #[trV a T.length cap] w fun e w' => (∃ n v : Int, e = .returned (.tuple #[.int .i64 n, .int .i64 v]) ∧ Ck okP T v) ∧ Below w.heap.size w w' := by
  by_cases h0 : T = []
  · subst h0
    have A1 := At.new w (Tro a 0 cap)
    obtain ⟨c0, f0⟩ := A1.one
    have hB1 : Below w.heap.size w (w.alloc (Tro a 0 cap)) := belA (Below.refl _ _)
    show Calls Tryz.prog 48 #[trV a 0 cap] w _
    go_enter Tryz.func48, Tryz.ntmps48
    go_wp2
    go_ret2
    exact ⟨⟨_, 30, rfl, .inl ⟨rfl, rfl⟩⟩, hB1⟩
  · by_cases hl : 16384 < T.length
    · have A1 := At.new w (Tro a T.length cap)
      obtain ⟨c0, f0⟩ := A1.one
      have hB1 : Below w.heap.size w (w.alloc (Tro a T.length cap)) := belA (Below.refl _ _)
      have z1 : ((T.length : Int) == 0) = false := by simpa using (by omega : ¬ (T.length : Int) = 0)
      have z2 : (16384 : Int) < (T.length : Int) := by omega
      have z3 : (T.length == 0) = false := by simpa using (by omega : ¬ T.length = 0)
      go_enter Tryz.func48, Tryz.ntmps48
      go_wp2
      go_ret2
      exact ⟨⟨_, 3, rfl, .inr (.inl ⟨hl, rfl⟩)⟩, hB1⟩
    · exact check_mid T a cap w hT hS h0 (by omega)
set_option maxRecDepth 100000 in
set_option maxHeartbeats 4000000 in
theorem may_any (T : List Nd) (a : Option Addr) (cap : Nat) (w : World) (hT : TAt w a T) (hS : Sm T) :
    Calls Tryz.prog 24 #[trV a T.length cap] w fun e w' => (∃ b : Bool, e = .returned (.bool b) ∧ (b = true ↔ Mayb okP T)) ∧ Below w.heap.size w w' := by
  have A1 := At.new w (Tro a T.length cap)
  obtain ⟨c0, f0⟩ := A1.one
  have hB1 : Below w.heap.size w (w.alloc (Tro a T.length cap)) := belA (Below.refl _ _)
  have HC : Hid (∀ W, Below w.heap.size w W → Calls Tryz.prog 48 #[trV a T.length cap] W fun e w' => (∃ n v : Int, e = .returned (.tuple #[.int .i64 n, .int .i64 v]) ∧ Ck okP T v) ∧ Below W.heap.size W w') := fun W hW => check_any T a cap W (hT.below hW) hS
  go_enter Tryz.func24, Tryz.ntmps24
  go_wp2_with (go_at_call 48; refine (HC.out _ hB1).mono ?_; rintro e w1 ⟨⟨n, v, rfl, hck⟩, hb1⟩; have HCK : Hid (Ck okP T v) := hck; clear hck)
  go_ret
  refine ⟨⟨v == 0, rfl, ?_⟩, below_aft hB1 hb1⟩
  rw [← HCK.out.may]
  simp
end Go.Proofs.YtahdnfogdnondaaGreatDoor
