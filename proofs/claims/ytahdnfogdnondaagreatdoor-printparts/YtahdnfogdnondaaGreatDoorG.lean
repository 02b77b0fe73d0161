import Derived.Test.YtahdnfogdnondaaGreatDoorE
namespace Go.Proofs.YtahdnfogdnondaaGreatDoor
open Go.RowKit
set_option linter.unusedVariables false
set_option linter.unusedSimpArgs false

set_option maxRecDepth 100000 in
set_option maxHeartbeats 2000000 in
theorem oneOf_three (c b : Nat) (w : World) (h0 : w.cell? ⟨b, 0, none⟩ = some (fnV 147)) (h1 : w.cell? ⟨b, 1, none⟩ = some (fnV 150)) (h2 : w.cell? ⟨b, 2, none⟩ = some (fnV 148)) :
    Calls Tryz.prog 155 #[.int .u8 (c : Int), .slice (some ⟨b, 0, none⟩) 3 3] w fun e w' => e = .returned (.bool (isL c || (isG c || isO c))) ∧ w' = w := by
  have HS : Hid (∀ w, Calls Tryz.prog 147 #[.int .u8 (c : Int)] w fun e w' => e = .returned (.bool (isL c)) ∧ w' = w) := small_any c
  have HG : Hid (∀ w, Calls Tryz.prog 150 #[.int .u8 (c : Int)] w fun e w' => e = .returned (.bool (isG c)) ∧ w' = w) := great_any c
  have HO : Hid (∀ w, Calls Tryz.prog 148 #[.int .u8 (c : Int)] w fun e w' => e = .returned (.bool (isO c)) ∧ w' = w) := rest_any c
  generalize isL c = x at *
  generalize isG c = z at *
  generalize isO c = y at *
  go_enter Tryz.func155, Tryz.ntmps155
  go_wp2
  go_loopw [9] (fun i W => ∃ k : Nat, k ≤ 3 ∧ i = .int .i64 k ∧ (0 < k → x = false) ∧ (1 < k → z = false) ∧ (2 < k → y = false) ∧ W = w) (fun i _ => 3 - (intOf i).toNat)
  case atStart => exact ⟨0, by omega, rfl, fun h => absurd h (by omega), fun h => absurd h (by omega), fun h => absurd h (by omega), rfl⟩
  case round =>
    obtain ⟨k, hk, rfl, hx, hz, hy, rfl⟩ := hrel
    have hk' : k = 0 ∨ k = 1 ∨ k = 2 ∨ k = 3 := by omega
    rcases hk' with rfl | rfl | rfl | rfl
    · clear hx hy hz
      cases x with
      | true =>
        go_wp2_with (go_at_call 147; refine (HS.out _).mono ?_; rintro e w1 ⟨rfl, rfl⟩)
        go_ret
        exact ⟨rfl, rfl⟩
      | false =>
        go_wp2_with (go_at_call 147; refine (HS.out _).mono ?_; rintro e w1 ⟨rfl, rfl⟩)
        exact ⟨⟨1, by omega, by go_num, (fun _ => by first | rfl | trivial), (fun h => absurd h (by omega)), (fun h => absurd h (by omega)), by first | rfl | trivial⟩, by simp [intOf]⟩
    · obtain rfl := hx (by omega)
      clear hx hy hz
      cases z with
      | true =>
        go_wp2_with (go_at_call 150; refine (HG.out _).mono ?_; rintro e w1 ⟨rfl, rfl⟩)
        go_ret
        exact ⟨rfl, rfl⟩
      | false =>
        go_wp2_with (go_at_call 150; refine (HG.out _).mono ?_; rintro e w1 ⟨rfl, rfl⟩)
        exact ⟨⟨2, by omega, by go_num, (fun _ => by first | rfl | trivial), (fun _ => by first | rfl | trivial), (fun h => absurd h (by omega)), by first | rfl | trivial⟩, by simp [intOf]⟩
    · obtain rfl := hx (by omega)
      obtain rfl := hz (by omega)
      clear hx hy hz
      cases y with
      | true =>
        go_wp2_with (go_at_call 148; refine (HO.out _).mono ?_; rintro e w1 ⟨rfl, rfl⟩)
        go_ret
        exact ⟨rfl, rfl⟩
      | false =>
        go_wp2_with (go_at_call 148; refine (HO.out _).mono ?_; rintro e w1 ⟨rfl, rfl⟩)
        exact ⟨⟨3, by omega, by go_num, (fun _ => by first | rfl | trivial), (fun _ => by first | rfl | trivial), (fun _ => by first | rfl | trivial), by first | rfl | trivial⟩, by simp [intOf]⟩
    · obtain rfl := hx (by omega)
      obtain rfl := hz (by omega)
      obtain rfl := hy (by omega)
      go_wp2
      go_ret
      exact ⟨rfl, rfl⟩
/-- A text spelt as a type's name. -/
def tnB (l : List UInt8) : Bool := decide (1 ≤ l.length ∧ l.length ≤ 32) && l.head?.any (fun c => isG c.toNat) && l.all (fun c => isL c.toNat || (isG c.toNat || isO c.toNat))
theorem tnB_no {l : List UInt8} (h : ¬ (1 ≤ l.length ∧ l.length ≤ 32)) : tnB l = false := by unfold tnB; rw [decide_eq_false h]; rfl
def isBx (s : ByteArray) : Bool := s.toList == [66, 111, 120]
set_option maxRecDepth 100000 in
set_option maxHeartbeats 2000000 in
theorem spelt_type (S : List UInt8) (b : Nat) (w : World) (hS : S.length ≤ maxLen) (h0 : w.cell? ⟨b, 0, none⟩ = some (fnV 147)) (h1 : w.cell? ⟨b, 1, none⟩ = some (fnV 150)) (h2 : w.cell? ⟨b, 2, none⟩ = some (fnV 148)) :
    Calls Tryz.prog 146 #[.string (str S), fnV 150, .slice (some ⟨b, 0, none⟩) 3 3] w fun e w' => e = .returned (.bool (tnB S)) ∧ w' = w := by
  unfold maxLen at hS
  have hsz := str_size S
  have HO : Hid (∀ c : Nat, Calls Tryz.prog 155 #[.int .u8 (c : Int), .slice (some ⟨b, 0, none⟩) 3 3] w fun e w' => e = .returned (.bool (isL c || (isG c || isO c))) ∧ w' = w) := fun c => oneOf_three c b w h0 h1 h2
  clear h0 h1 h2
  by_cases hl1 : S.length < 1
  · have g1 : (S.length : Int) < 1 := by omega
    have g2 : decide ((S.length : Int) < 1) = true := decide_eq_true g1
    rw [tnB_no (by omega)]
    go_enter Tryz.func146, Tryz.ntmps146
    go_wp2
    go_ret
    exact ⟨rfl, rfl⟩
  have g1 : ¬ (S.length : Int) < 1 := by omega
  have g2 : decide ((S.length : Int) < 1) = false := decide_eq_false g1
  by_cases hl2 : 32 < S.length
  · have g3 : (32 : Int) < (S.length : Int) := by omega
    have g4 : decide ((32 : Int) < (S.length : Int)) = true := decide_eq_true g3
    rw [tnB_no (by omega)]
    go_enter Tryz.func146, Tryz.ntmps146
    go_wp2
    go_ret
    exact ⟨rfl, rfl⟩
  have g3 : ¬ (32 : Int) < (S.length : Int) := by omega
  have g4 : decide ((32 : Int) < (S.length : Int)) = false := decide_eq_false g3
  have hpos : 0 < S.length := by omega
  obtain ⟨c, hcl⟩ : ∃ c, c = S[0] := ⟨_, rfl⟩
  have HS : Hid (∀ w, Calls Tryz.prog 150 #[.int .u8 (c.toNat : Int)] w fun e w' => e = .returned (.bool (isG c.toNat)) ∧ w' = w) := great_any c.toNat
  have hc0 : (str S)[0]'(by rw [str_size]; exact hpos) = c := by rw [hcl]; rfl
  have hn : tnB S = (isG c.toNat && S.all (fun c => isL c.toNat || (isG c.toNat || isO c.toNat))) := by
    unfold tnB
    rw [decide_eq_true (by omega), hcl]
    cases S with
    | nil => simp at hpos
    | cons a r => simp
  clear hcl
  rw [hn]
  clear hn
  obtain ⟨n, hnl⟩ : ∃ n, S.length = n := ⟨_, rfl⟩
  have hszn : (str S).size = n := hsz.trans hnl
  clear hsz
  rw [hnl] at g1 g2 g3 g4 hl1 hl2 hS hpos
  have z0 : (0 : Int) < (n : Int) := by omega
  cases hf : isG c.toNat with
  | false =>
    rw [hf] at HS
    go_enter Tryz.func146, Tryz.ntmps146
    go_wp2_with (go_at_call 150; refine (HS.out _).mono ?_; rintro e w1 ⟨rfl, hw1⟩; replace hw1 := hw1.symm; subst hw1)
    go_ret
    exact ⟨rfl, rfl⟩
  | true =>
    rw [hf] at HS
    clear hf
    obtain ⟨al, hal⟩ : ∃ al, al = S.all (fun c => isL c.toNat || (isG c.toNat || isO c.toNat)) := ⟨_, rfl⟩
    rw [← hal, Bool.true_and]
    have HAL : Hid (al = S.all (fun c => isL c.toNat || (isG c.toNat || isO c.toNat))) := hal
    clear hal
    have HN : Hid (S.length = n) := hnl
    clear hnl
    go_enter Tryz.func146, Tryz.ntmps146
    go_wp2_with (go_at_call 150; refine (HS.out _).mono ?_; rintro e w1 ⟨rfl, hw1⟩; replace hw1 := hw1.symm; subst hw1)
    go_loopw [25] (fun i W => ∃ k : Nat, k ≤ n ∧ i = .int .i64 k ∧ (∀ j (h : j < S.length), j < k → (isL S[j].toNat || (isG S[j].toNat || isO S[j].toNat)) = true) ∧ W = w) (fun i _ => n - (intOf i).toNat)
    case atStart => exact ⟨0, by omega, rfl, fun j _ h => absurd h (Nat.not_lt_zero j), rfl⟩
    case round =>
      obtain ⟨k, hk, rfl, hall, hww⟩ := hrel
      replace hww := hww.symm
      subst hww
      have HALL : Hid (∀ j (h : j < S.length), j < k → (isL S[j].toNat || (isG S[j].toNat || isO S[j].toNat)) = true) := hall
      clear hall
      by_cases hlt : k < n
      · have hlt' : k < S.length := by rw [HN.out]; exact hlt
        obtain ⟨d, hd⟩ : ∃ d, d = S[k] := ⟨_, rfl⟩
        have hc : (str S)[k]'(by rw [hszn]; exact hlt) = d := by rw [hd]; rfl
        have k0 : (0 : Int) ≤ (k : Int) := by omega
        have k1 : (k : Int) < (n : Int) := by omega
        have HOd : Hid (Calls Tryz.prog 155 #[.int .u8 (d.toNat : Int), .slice (some ⟨b, 0, none⟩) 3 3] w fun e w' => e = .returned (.bool (isL d.toNat || (isG d.toNat || isO d.toNat))) ∧ w' = w) := HO.out d.toNat
        have HD : Hid (d = S[k]) := hd
        clear hd
        cases hv : (isL d.toNat || (isG d.toNat || isO d.toNat)) with
        | true =>
          rw [hv] at HOd
          have HV : Hid ((isL d.toNat || (isG d.toNat || isO d.toNat)) = true) := hv
          clear hv
          go_wp2_with (go_at_call 155; refine HOd.out.mono ?_; rintro e w1 ⟨rfl, hw1⟩; replace hw1 := hw1.symm; subst hw1)
          go_roundw
          case rel =>
            refine ⟨k + 1, by omega, by go_num, fun j hj hjk => ?_, by first | rfl | trivial⟩
            rcases Nat.lt_or_ge j k with h | h
            · exact HALL.out j hj h
            · obtain rfl : j = k := by omega
              rw [← HD.out]; exact HV.out
          case measure => simp [intOf]; omega
        | false =>
          rw [hv] at HOd
          have hno : al = false := by
            rw [HAL.out]
            apply Classical.byContradiction
            intro hh
            have ht : S.all (fun c => isL c.toNat || (isG c.toNat || isO c.toNat)) = true := by simpa only [Bool.not_eq_false] using hh
            have h2 := List.all_eq_true.1 ht S[k] (List.getElem_mem hlt')
            rw [← HD.out, hv] at h2
            cases h2
          subst hno
          clear hv
          go_wp2_with (go_at_call 155; refine HOd.out.mono ?_; rintro e w1 ⟨rfl, hw1⟩; replace hw1 := hw1.symm; subst hw1)
          go_ret
          exact ⟨rfl, rfl⟩
      · obtain rfl : k = n := by omega
        have hyes : al = true := by
          rw [HAL.out, List.all_eq_true]
          intro x hx
          obtain ⟨j, hj, rfl⟩ := List.getElem_of_mem hx
          exact HALL.out j hj (by rw [HN.out] at hj; exact hj)
        subst hyes
        go_wp2
        go_ret
        exact ⟨rfl, rfl⟩
theorem cells_three {W : World} {b t : Nat} {u v x : Value} (h : W.heap[b]? = some (.cells #[u, v, x] t)) : W.cell? ⟨b, 0, none⟩ = some u ∧ W.cell? ⟨b, 1, none⟩ = some v ∧ W.cell? ⟨b, 2, none⟩ = some x := ⟨by simp [World.cell?, h], by simp [World.cell?, h], by simp [World.cell?, h]⟩
theorem three_cells (w : World) (u v x : Value) (t : Nat) : (w.alloc (.cells #[u, v, x] t)).cell? ⟨w.heap.size, 0, none⟩ = some u ∧ (w.alloc (.cells #[u, v, x] t)).cell? ⟨w.heap.size, 1, none⟩ = some v ∧ (w.alloc (.cells #[u, v, x] t)).cell? ⟨w.heap.size, 2, none⟩ = some x := cells_three (heap_alloc_new w (.cells #[u, v, x] t))
set_option maxRecDepth 100000 in
set_option maxHeartbeats 2000000 in
theorem typeName_any (S : List UInt8) (w : World) (hS : S.length ≤ maxLen) :
    Calls Tryz.prog 129 #[.string (str S)] w fun e w' => e = .returned (.bool (tnB S && !isBx (str S))) ∧ Below w.heap.size w w' := by
  have HS : Hid (∀ b W, W.cell? ⟨b, 0, none⟩ = some (fnV 147) → W.cell? ⟨b, 1, none⟩ = some (fnV 150) → W.cell? ⟨b, 2, none⟩ = some (fnV 148) → Calls Tryz.prog 146 #[.string (str S), fnV 150, .slice (some ⟨b, 0, none⟩) 3 3] W fun e w' => e = .returned (.bool (tnB S)) ∧ w' = W) := fun b W h0 h1 h2 => spelt_type S b W hS h0 h1 h2
  generalize tnB S = x at *
  have hB : ∀ o, Below w.heap.size w (w.alloc o) := fun o => (Below.refl _ _).alloc (Nat.le_refl _) o
  cases x with
  | false =>
    go_enter Tryz.func129, Tryz.ntmps129
    go_wp2_with (go_at_call 146; refine (HS.out _ _ (three_cells w _ _ _ _).1 (three_cells w _ _ _ _).2.1 (three_cells w _ _ _ _).2.2).mono ?_; rintro e w1 ⟨rfl, hw1⟩; replace hw1 := hw1.symm; subst hw1)
    go_ret
    exact ⟨rfl, hB _⟩
  | true =>
    go_enter Tryz.func129, Tryz.ntmps129
    go_wp2_with (first
      | (go_at_call 146; refine (HS.out _ _ (three_cells w _ _ _ _).1 (three_cells w _ _ _ _).2.1 (three_cells w _ _ _ _).2.2).mono ?_; rintro e w1 ⟨rfl, hw1⟩; replace hw1 := hw1.symm; subst hw1))
    go_ret
    exact ⟨ret_bool (by simp [isBx]), hB _⟩
theorem tnB_first {S : List UInt8} (h : 0 < S.length) (hf : isG S[0].toNat = false) : tnB S = false := by
  cases S with
  | nil => simp at h
  | cons a r => simp at hf; unfold tnB; simp [hf]
theorem tnB_byte {S : List UInt8} {k : Nat} (h : k < S.length) (h0 : isG S[k].toNat = false) (h1 : isL S[k].toNat = false) (h2 : isO S[k].toNat = false) : tnB S = false := by
  have : S.all (fun c => isL c.toNat || (isG c.toNat || isO c.toNat)) = false := by
    rw [List.all_eq_false]
    exact ⟨S[k], List.getElem_mem h, by simp [h0, h1, h2]⟩
  unfold tnB
  rw [this, Bool.and_false]
theorem tnB_yes {S : List UInt8} (h1 : 0 < S.length) (h2 : S.length ≤ 32) (h : ∀ j (hj : j < S.length), (isG S[j].toNat || (decide (j ≠ 0) && (isL S[j].toNat || isO S[j].toNat))) = true) : tnB S = true := by
  have h0 := h 0 h1
  have ha : S.all (fun c => isL c.toNat || (isG c.toNat || isO c.toNat)) = true := by
    rw [List.all_eq_true]
    intro x hx
    obtain ⟨j, hj, rfl⟩ := List.getElem_of_mem hx
    have := h j hj
    simp only [Bool.or_eq_true, Bool.and_eq_true] at this ⊢
    rcases this with h | ⟨_, h | h⟩
    · exact .inr (.inl h)
    · exact .inl h
    · exact .inr (.inr h)
  unfold tnB
  rw [ha, decide_eq_true (by omega)]
  cases S with
  | nil => simp at h1
  | cons a r => simpa using h0
set_option maxRecDepth 100000 in
set_option maxHeartbeats 4000000 in
theorem rtypeName_any (S : List UInt8) (w : World) (hS : S.length ≤ maxLen) :
    Calls Tryz.prog 105 #[.string (str S)] w fun e w' => e = .returned (.bool (tnB S && !isBx (str S))) ∧ w' = w := by
  unfold maxLen at hS
  have hsz := str_size S
  obtain ⟨x, hx⟩ : ∃ x, x = tnB S := ⟨_, rfl⟩
  rw [← hx]
  have HX : Hid (x = tnB S) := hx
  clear hx
  go_enter Tryz.func105, Tryz.ntmps105
  go_wp2
  go_loopw [3] (fun i W => ∃ k : Nat, k ≤ S.length ∧ i = .int .i64 k ∧ (∀ j (hj : j < S.length), j < k → (isG S[j].toNat || (decide (j ≠ 0) && (isL S[j].toNat || isO S[j].toNat))) = true) ∧ W = w) (fun i _ => S.length - (intOf i).toNat)
  case atStart => exact ⟨0, by omega, rfl, fun j _ h => absurd h (Nat.not_lt_zero j), rfl⟩
  case round =>
    obtain ⟨k, hk, rfl, hall, hww⟩ := hrel
    replace hww := hww.symm
    subst hww
    have HALL : Hid (∀ j (hj : j < S.length), j < k → (isG S[j].toNat || (decide (j ≠ 0) && (isL S[j].toNat || isO S[j].toNat))) = true) := hall
    clear hall
    by_cases hlt : k < S.length
    · obtain ⟨d, hd⟩ : ∃ d, d = S[k] := ⟨_, rfl⟩
      have hc : (str S)[k]'(by rw [hsz]; exact hlt) = d := by rw [hd]; rfl
      have k0 : (0 : Int) ≤ (k : Int) := by omega
      have k1 : (k : Int) < (S.length : Int) := by omega
      have w3 : IntKind.i64.wrap ((k : Int) + 1) = (k : Int) + 1 := by rw [IntKind.wrap_i64]; omega
      have HD : Hid (d = S[k]) := hd
      clear hd
      have HGa : Hid (∀ w, Calls Tryz.prog 124 #[.int .u8 (d.toNat : Int)] w fun e w' => e = .returned (.bool (isG d.toNat)) ∧ w' = w) := fun w => rgreat_any d.toNat w
      have HSa : Hid (∀ w, Calls Tryz.prog 125 #[.int .u8 (d.toNat : Int)] w fun e w' => e = .returned (.bool (isL d.toNat)) ∧ w' = w) := fun w => rsmall_any d.toNat w
      have HOa : Hid (∀ w, Calls Tryz.prog 126 #[.int .u8 (d.toNat : Int)] w fun e w' => e = .returned (.bool (isO d.toNat)) ∧ w' = w) := fun w => other_any d.toNat w
      cases hl : isG d.toNat with
      | true =>
        rw [hl] at HGa
        have HL : Hid (isG d.toNat = true) := hl
        clear hl
        go_wp2_with (go_at_call 124; refine (HGa.out _).mono ?_; rintro e w1 ⟨rfl, hw1⟩; replace hw1 := hw1.symm; subst hw1)
        refine ⟨⟨k + 1, by omega, by go_num, fun j hj hjk => ?_, by first | rfl | trivial⟩, by simp [intOf]; omega⟩
        rcases Nat.lt_or_ge j k with h | h
        · exact HALL.out j hj h
        · obtain rfl : j = k := by omega
          rw [← HD.out, HL.out]; rfl
      | false =>
        rw [hl] at HGa
        by_cases hz : k = 0
        · have hxx : x = false := by
            subst hz
            rw [HX.out]; exact tnB_first hlt (by rw [← HD.out]; exact hl)
          subst hxx
          have z1 : ((k : Int) == 0) = true := by simp [hz]
          subst hz
          clear hl HALL
          go_wp2_with (go_at_call 124; refine (HGa.out _).mono ?_; rintro e w1 ⟨rfl, hw1⟩; replace hw1 := hw1.symm; subst hw1)
          go_ret
          exact ⟨rfl, rfl⟩
        · have z1 : ((k : Int) == 0) = false := by simpa using hz
          have z2 : (k == 0) = false := by simpa using hz
          have HZ : Hid (¬ k = 0) := hz
          cases hsm : isL d.toNat with
          | true =>
            rw [hsm] at HSa
            have HL : Hid (isL d.toNat = true) := hsm
            clear hl hsm
            go_wp2_with (first
              | (go_at_call 124; refine (HGa.out _).mono ?_; rintro e w1 ⟨rfl, hw1⟩; replace hw1 := hw1.symm; subst hw1)
              | (go_at_call 125; refine (HSa.out _).mono ?_; rintro e w1 ⟨rfl, hw1⟩; replace hw1 := hw1.symm; subst hw1))
            refine ⟨⟨k + 1, by omega, by go_num, fun j hj hjk => ?_, by first | rfl | trivial⟩, by simp [intOf]; omega⟩
            rcases Nat.lt_or_ge j k with h | h
            · exact HALL.out j hj h
            · obtain rfl : j = k := by omega
              rw [← HD.out, HL.out, decide_eq_true HZ.out]; simp
          | false =>
            rw [hsm] at HSa
            cases ho : isO d.toNat with
            | true =>
              rw [ho] at HOa
              have HL : Hid (isO d.toNat = true) := ho
              clear hl hsm ho
              go_wp2_with (first
                | (go_at_call 124; refine (HGa.out _).mono ?_; rintro e w1 ⟨rfl, hw1⟩; replace hw1 := hw1.symm; subst hw1)
                | (go_at_call 125; refine (HSa.out _).mono ?_; rintro e w1 ⟨rfl, hw1⟩; replace hw1 := hw1.symm; subst hw1)
                | (go_at_call 126; refine (HOa.out _).mono ?_; rintro e w1 ⟨rfl, hw1⟩; replace hw1 := hw1.symm; subst hw1))
              refine ⟨⟨k + 1, by omega, by go_num, fun j hj hjk => ?_, by first | rfl | trivial⟩, by simp [intOf]; omega⟩
              rcases Nat.lt_or_ge j k with h | h
              · exact HALL.out j hj h
              · obtain rfl : j = k := by omega
                rw [← HD.out, HL.out, decide_eq_true HZ.out]; simp
            | false =>
              rw [ho] at HOa
              have hxx : x = false := by rw [HX.out]; exact tnB_byte hlt (by rw [← HD.out]; exact hl) (by rw [← HD.out]; exact hsm) (by rw [← HD.out]; exact ho)
              subst hxx
              clear hl ho hsm
              go_wp2_with (first
                | (go_at_call 124; refine (HGa.out _).mono ?_; rintro e w1 ⟨rfl, hw1⟩; replace hw1 := hw1.symm; subst hw1)
                | (go_at_call 125; refine (HSa.out _).mono ?_; rintro e w1 ⟨rfl, hw1⟩; replace hw1 := hw1.symm; subst hw1)
                | (go_at_call 126; refine (HOa.out _).mono ?_; rintro e w1 ⟨rfl, hw1⟩; replace hw1 := hw1.symm; subst hw1))
              go_ret
              exact ⟨rfl, rfl⟩
    · obtain rfl : k = S.length := by omega
      by_cases hl1 : S.length < 1
      · have g1 : ¬ (1 : Int) ≤ (S.length : Int) := by omega
        have g2 : decide ((1 : Int) ≤ (S.length : Int)) = false := decide_eq_false g1
        have hxx : x = false := by rw [HX.out]; exact tnB_no (by omega)
        subst hxx
        go_wp2
        go_ret
        exact ⟨rfl, rfl⟩
      · have g1 : (1 : Int) ≤ (S.length : Int) := by omega
        have g2 : decide ((1 : Int) ≤ (S.length : Int)) = true := decide_eq_true g1
        by_cases hl2 : 32 < S.length
        · have g3 : ¬ (S.length : Int) ≤ 32 := by omega
          have g4 : decide ((S.length : Int) ≤ 32) = false := decide_eq_false g3
          have hxx : x = false := by rw [HX.out]; exact tnB_no (by omega)
          subst hxx
          go_wp2
          go_ret
          exact ⟨rfl, rfl⟩
        · have g3 : (S.length : Int) ≤ 32 := by omega
          have g4 : decide ((S.length : Int) ≤ 32) = true := decide_eq_true g3
          have hxx : x = true := by rw [HX.out]; exact tnB_yes (by omega) (by omega) (fun j hj => HALL.out j hj hj)
          subst hxx
          go_wp2
          go_ret
          exact ⟨ret_bool (by simp [isBx]), rfl⟩
end Go.Proofs.YtahdnfogdnondaaGreatDoor
