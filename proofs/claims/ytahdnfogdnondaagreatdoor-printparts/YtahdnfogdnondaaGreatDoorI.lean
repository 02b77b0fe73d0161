import Derived.Test.YtahdnfogdnondaaGreatDoorH
namespace Go.Proofs.YtahdnfogdnondaaGreatDoor
open Go.RowKit
set_option linter.unusedVariables false
set_option linter.unusedSimpArgs false

theorem all_no {α : Type} {l : List α} {P : α → Bool} {k : Nat} (h : k < l.length) (hp : P l[k] = false) : l.all P = false := by
  rw [List.all_eq_false]
  exact ⟨l[k], List.getElem_mem h, by simp [hp]⟩
theorem all_yes {α : Type} {l : List α} {P : α → Bool} (h : ∀ j (hj : j < l.length), P l[j] = true) : l.all P = true := by
  rw [List.all_eq_true]
  intro x hx
  obtain ⟨j, hj, rfl⟩ := List.getElem_of_mem hx
  exact h j hj
set_option maxRecDepth 100000 in
set_option maxHeartbeats 4000000 in
theorem allAre_any (ks : List Nat) (a : Option Addr) (cap : Nat) (v : Value) (P : Nat → Bool) (w : World) (hK : KRow w a ks) (hn : ks.length ≤ 20000) (hcl : Cl w v P) :
    Calls Tryz.prog 131 #[.slice a ks.length cap, v] w fun e w' => e = .returned (.bool (ks.all P)) ∧ w' = w := by
  have HK : Hid (KRow w a ks) := hK
  clear hK
  obtain ⟨al, hal⟩ : ∃ al, al = ks.all P := ⟨_, rfl⟩
  rw [← hal]
  have HAL : Hid (al = ks.all P) := hal
  clear hal
  have HCL : Hid (Cl w v P) := hcl
  clear hcl
  go_enter Tryz.func131, Tryz.ntmps131
  go_wp2
  go_loopw [9] (fun i W => ∃ k : Nat, k ≤ ks.length ∧ i = .int .i64 k ∧ (∀ j (hj : j < ks.length), j < k → P ks[j] = true) ∧ W = w) (fun i _ => ks.length - (intOf i).toNat)
  case atStart => exact ⟨0, by omega, rfl, fun j _ h => absurd h (Nat.not_lt_zero j), rfl⟩
  case round =>
    obtain ⟨k, hk, rfl, hall, hww⟩ := hrel
    replace hww := hww.symm
    subst hww
    have HALL : Hid (∀ j (hj : j < ks.length), j < k → P ks[j] = true) := hall
    clear hall
    by_cases hlt : k < ks.length
    · obtain ⟨g, off, rfl, hg, hrow⟩ := HK.out (by rintro rfl; simp at hlt)
      have c0 := hrow k ks[k] (List.getElem?_eq_getElem hlt)
      have k0 : (0 : Int) ≤ (k : Int) := by omega
      have k1 : (k : Int) < (ks.length : Int) := by omega
      have w3 : IntKind.i64.wrap ((k : Int) + 1) = (k : Int) + 1 := by rw [IntKind.wrap_i64]; omega
      obtain ⟨d, hd⟩ : ∃ d, d = ks[k] := ⟨_, rfl⟩
      rw [← hd] at c0
      have HD : Hid (d = ks[k]) := hd
      clear hd hrow
      have fin : P d = true → ∀ j (hj : j < ks.length), j < k + 1 → P ks[j] = true := fun hp j hj hjk => by
        rcases Nat.lt_or_ge j k with h | h
        · exact HALL.out j hj h
        · obtain rfl : j = k := by omega
          rw [← HD.out]; exact hp
      have fin' : P d = false → al = false := fun hp => by rw [HAL.out]; exact all_no hlt (by rw [← HD.out]; exact hp)
      have FIN : Hid (P d = true → ∀ j (hj : j < ks.length), j < k + 1 → P ks[j] = true) := fin
      have FIN' : Hid (P d = false → al = false) := fin'
      clear fin fin'
      cases hp : P d with
      | true =>
        have hf := FIN.out hp
        have HF : Hid (∀ j (hj : j < ks.length), j < k + 1 → P ks[j] = true) := hf
        clear hf
        have hcl := HCL.out
        clear HK HCL HALL HAL FIN FIN'
        cases hcl
        case' one b j hb => have HB : Hid (At w b (One (.int .u8 (j : Int)) 41)) := hb; clear hb
        all_goals
          go_wp2_with (first
          | (go_at_call 132; refine (isItem_any _ _).mono ?_; rintro e w1 ⟨rfl, hw1⟩; replace hw1 := hw1.symm; subst hw1)
          | (go_at_call 136; refine (isType_any _ _).mono ?_; rintro e w1 ⟨rfl, hw1⟩; replace hw1 := hw1.symm; subst hw1)
          | (go_at_call 137; refine (isStmt_any _ _).mono ?_; rintro e w1 ⟨rfl, hw1⟩; replace hw1 := hw1.symm; subst hw1)
          | (go_at_call 140; refine (isExpr_any _ _).mono ?_; rintro e w1 ⟨rfl, hw1⟩; replace hw1 := hw1.symm; subst hw1)
          | (go_at_call 152; refine (isElse_any _ _).mono ?_; rintro e w1 ⟨rfl, hw1⟩; replace hw1 := hw1.symm; subst hw1)
          | (go_at_call 151; refine (is1_any _ _ _ _ HB.out).mono ?_; rintro e w1 ⟨rfl, hw1⟩; replace hw1 := hw1.symm; subst hw1))
          refine ⟨⟨k + 1, by omega, by go_num, HF.out, by first | rfl | trivial⟩, by simp [intOf]; omega⟩
      | false =>
        have hf := FIN'.out hp
        subst hf
        have hcl := HCL.out
        clear HK HCL HALL HAL FIN FIN'
        cases hcl
        case' one b j hb => have HB : Hid (At w b (One (.int .u8 (j : Int)) 41)) := hb; clear hb
        all_goals
          go_wp2_with (first
          | (go_at_call 132; refine (isItem_any _ _).mono ?_; rintro e w1 ⟨rfl, hw1⟩; replace hw1 := hw1.symm; subst hw1)
          | (go_at_call 136; refine (isType_any _ _).mono ?_; rintro e w1 ⟨rfl, hw1⟩; replace hw1 := hw1.symm; subst hw1)
          | (go_at_call 137; refine (isStmt_any _ _).mono ?_; rintro e w1 ⟨rfl, hw1⟩; replace hw1 := hw1.symm; subst hw1)
          | (go_at_call 140; refine (isExpr_any _ _).mono ?_; rintro e w1 ⟨rfl, hw1⟩; replace hw1 := hw1.symm; subst hw1)
          | (go_at_call 152; refine (isElse_any _ _).mono ?_; rintro e w1 ⟨rfl, hw1⟩; replace hw1 := hw1.symm; subst hw1)
          | (go_at_call 151; refine (is1_any _ _ _ _ HB.out).mono ?_; rintro e w1 ⟨rfl, hw1⟩; replace hw1 := hw1.symm; subst hw1))
          go_ret
          exact ⟨rfl, rfl⟩
    · obtain rfl : k = ks.length := by omega
      have hyes : al = true := by
        rw [HAL.out]
        exact all_yes fun j hj => HALL.out j hj hj
      subst hyes
      go_wp2
      go_ret
      exact ⟨rfl, rfl⟩
/-- As many kinds as are asked for, each as it is asked. -/
def turn : List Nat → List (Nat → Bool) → Bool
  | [], [] => true
  | k :: ks, P :: Ps => P k && turn ks Ps
  | _, _ => false
theorem turn_len : ∀ (ks : List Nat) (Ps : List (Nat → Bool)), ks.length ≠ Ps.length → turn ks Ps = false
  | [], [], h => absurd rfl h
  | [], _ :: _, _ => rfl
  | _ :: _, [], _ => rfl
  | k :: ks, P :: Ps, h => by simp only [turn]; rw [turn_len ks Ps (by simpa using h), Bool.and_false]
theorem turn_no : ∀ (ks : List Nat) (Ps : List (Nat → Bool)) (j k : Nat) (P : Nat → Bool), ks[j]? = some k → Ps[j]? = some P → P k = false → turn ks Ps = false
  | [], _, j, k, P, h, _, _ => by simp at h
  | _ :: _, [], j, k, P, _, h, _ => by simp at h
  | x :: ks, Q :: Ps, 0, k, P, h1, h2, h3 => by
    simp at h1 h2
    subst h1 h2
    simp [turn, h3]
  | x :: ks, Q :: Ps, j + 1, k, P, h1, h2, h3 => by
    simp only [turn]
    rw [turn_no ks Ps j k P (by simpa using h1) (by simpa using h2) h3, Bool.and_false]
theorem turn_yes : ∀ (ks : List Nat) (Ps : List (Nat → Bool)), ks.length = Ps.length → (∀ (j k : Nat) (P : Nat → Bool), ks[j]? = some k → Ps[j]? = some P → P k = true) → turn ks Ps = true
  | [], [], _, _ => rfl
  | [], _ :: _, h, _ => by simp at h
  | _ :: _, [], h, _ => by simp at h
  | x :: ks, Q :: Ps, h, hp => by
    simp only [turn]
    rw [hp 0 x Q rfl rfl, turn_yes ks Ps (by simpa using h) (fun j k P h1 h2 => hp (j + 1) k P (by simpa using h1) (by simpa using h2))]
    rfl
set_option maxRecDepth 100000 in
set_option maxHeartbeats 8000000 in
theorem inTurn_any (ks : List Nat) (a : Option Addr) (cap : Nat) (b : Nat) (Ps : List (Nat → Bool)) (w : World) (hK : KRow w a ks) (hn : ks.length ≤ 20000) (hm : Ps.length ≤ 5) (hb : b < w.heap.size) (hcl : ∀ i P, Ps[i]? = some P → ∃ v, w.cell? ⟨b, i, none⟩ = some v ∧ Cl w v P) :
    Calls Tryz.prog 135 #[.slice a ks.length cap, .slice (some ⟨b, 0, none⟩) Ps.length Ps.length] w fun e w' => e = .returned (.bool (turn ks Ps)) ∧ w' = w := by
  by_cases hl : ks.length = Ps.length
  · obtain ⟨al, hal⟩ : ∃ al, al = turn ks Ps := ⟨_, rfl⟩
    rw [← hal]
    have HAL : Hid (al = turn ks Ps) := hal
    clear hal
    have HK : Hid (KRow w a ks) := hK
    have HCL : Hid (∀ i P, Ps[i]? = some P → ∃ v, w.cell? ⟨b, i, none⟩ = some v ∧ Cl w v P) := hcl
    clear hK hcl
    have HL : Hid (ks.length = Ps.length) := hl
    obtain ⟨n, hn'⟩ : ∃ n, n = ks.length := ⟨_, rfl⟩
    rw [← hl, ← hn']
    have HN : Hid (n = ks.length) := hn'
    have hn5 : n ≤ 5 := by omega
    clear hl hn' hn hm
    go_enter Tryz.func135, Tryz.ntmps135
    go_wp2
    go_loopw [14] (fun i W => ∃ k : Nat, k ≤ n ∧ i = .int .i64 k ∧ (∀ (j x : Nat) (P : Nat → Bool), j < k → ks[j]? = some x → Ps[j]? = some P → P x = true) ∧ W = w) (fun i _ => n - (intOf i).toNat)
    case atStart => exact ⟨0, by omega, rfl, fun j _ _ h => absurd h (Nat.not_lt_zero j), rfl⟩
    case round =>
      obtain ⟨k, hk, rfl, hall, hww⟩ := hrel
      replace hww := hww.symm
      subst hww
      have HALL : Hid (∀ (j x : Nat) (P : Nat → Bool), j < k → ks[j]? = some x → Ps[j]? = some P → P x = true) := hall
      clear hall
      by_cases hlt : k < n
      · have hlt1 : k < ks.length := by rw [← HN.out]; exact hlt
        have hlt2 : k < Ps.length := by rw [← HL.out]; exact hlt1
        obtain ⟨g, off, rfl, hg, hrow⟩ := HK.out (by rintro rfl; simp at hlt1)
        obtain ⟨d, hd⟩ : ∃ d, ks[k]? = some d := ⟨_, List.getElem?_eq_getElem hlt1⟩
        obtain ⟨P, hP⟩ : ∃ P, Ps[k]? = some P := ⟨_, List.getElem?_eq_getElem hlt2⟩
        have c0 := hrow k d hd
        obtain ⟨v, c1, hcl⟩ := HCL.out k P hP
        have k0 : (0 : Int) ≤ (k : Int) := by omega
        have k1 : (k : Int) < (n : Int) := by omega
        have w3 : IntKind.i64.wrap ((k : Int) + 1) = (k : Int) + 1 := by rw [IntKind.wrap_i64]; omega
        have FIN : Hid (P d = true → ∀ (j x : Nat) (P : Nat → Bool), j < k + 1 → ks[j]? = some x → Ps[j]? = some P → P x = true) := fun hp j x P' hjk h1 h2 => by
          rcases Nat.lt_or_ge j k with h | h
          · exact HALL.out j x P' h h1 h2
          · obtain rfl : j = k := by omega
            rw [hd] at h1
            rw [hP] at h2
            cases h1; cases h2
            exact hp
        have FIN' : Hid (P d = false → al = false) := fun hp => by rw [HAL.out]; exact turn_no ks Ps k d P hd hP hp
        clear hrow HK HCL HALL HAL hd hP hlt1 hlt2
        cases hp : P d with
        | true =>
          have hf := FIN.out hp
          have HF : Hid (∀ (j x : Nat) (P : Nat → Bool), j < k + 1 → ks[j]? = some x → Ps[j]? = some P → P x = true) := hf
          clear hf
          clear FIN FIN'
          cases hcl
          case' one b j hb => have HB : Hid (At w b (One (.int .u8 (j : Int)) 41)) := hb; clear hb
          all_goals
            go_wp2_with (first
          | (go_at_call 132; refine (isItem_any _ _).mono ?_; rintro e w1 ⟨rfl, hw1⟩; replace hw1 := hw1.symm; subst hw1)
          | (go_at_call 136; refine (isType_any _ _).mono ?_; rintro e w1 ⟨rfl, hw1⟩; replace hw1 := hw1.symm; subst hw1)
          | (go_at_call 137; refine (isStmt_any _ _).mono ?_; rintro e w1 ⟨rfl, hw1⟩; replace hw1 := hw1.symm; subst hw1)
          | (go_at_call 140; refine (isExpr_any _ _).mono ?_; rintro e w1 ⟨rfl, hw1⟩; replace hw1 := hw1.symm; subst hw1)
          | (go_at_call 152; refine (isElse_any _ _).mono ?_; rintro e w1 ⟨rfl, hw1⟩; replace hw1 := hw1.symm; subst hw1)
          | (go_at_call 151; refine (is1_any _ _ _ _ HB.out).mono ?_; rintro e w1 ⟨rfl, hw1⟩; replace hw1 := hw1.symm; subst hw1))
            refine ⟨⟨k + 1, by omega, by go_num, HF.out, by first | rfl | trivial⟩, by simp [intOf]; omega⟩
        | false =>
          have hf := FIN'.out hp
          subst hf
          clear FIN FIN'
          cases hcl
          case' one b j hb => have HB : Hid (At w b (One (.int .u8 (j : Int)) 41)) := hb; clear hb
          all_goals
            go_wp2_with (first
          | (go_at_call 132; refine (isItem_any _ _).mono ?_; rintro e w1 ⟨rfl, hw1⟩; replace hw1 := hw1.symm; subst hw1)
          | (go_at_call 136; refine (isType_any _ _).mono ?_; rintro e w1 ⟨rfl, hw1⟩; replace hw1 := hw1.symm; subst hw1)
          | (go_at_call 137; refine (isStmt_any _ _).mono ?_; rintro e w1 ⟨rfl, hw1⟩; replace hw1 := hw1.symm; subst hw1)
          | (go_at_call 140; refine (isExpr_any _ _).mono ?_; rintro e w1 ⟨rfl, hw1⟩; replace hw1 := hw1.symm; subst hw1)
          | (go_at_call 152; refine (isElse_any _ _).mono ?_; rintro e w1 ⟨rfl, hw1⟩; replace hw1 := hw1.symm; subst hw1)
          | (go_at_call 151; refine (is1_any _ _ _ _ HB.out).mono ?_; rintro e w1 ⟨rfl, hw1⟩; replace hw1 := hw1.symm; subst hw1))
            go_ret
            exact ⟨rfl, rfl⟩
      · obtain rfl : k = n := by omega
        have hyes : al = true := by
          rw [HAL.out]
          exact turn_yes ks Ps HL.out fun j x P h1 h2 => HALL.out j x P (by rw [HN.out]; exact (List.getElem?_eq_some_iff.1 h1).1) h1 h2
        subst hyes
        go_wp2
        go_ret
        exact ⟨rfl, rfl⟩
  · rw [turn_len ks Ps hl]
    have h1 : ((ks.length : Int) == (Ps.length : Int)) = false := by simpa using (by omega : ¬ (ks.length : Int) = (Ps.length : Int))
    have h2 : (ks.length == Ps.length) = false := by simpa using hl
    go_enter Tryz.func135, Tryz.ntmps135
    go_wp2
    go_ret
    exact ⟨rfl, rfl⟩
end Go.Proofs.YtahdnfogdnondaaGreatDoor
