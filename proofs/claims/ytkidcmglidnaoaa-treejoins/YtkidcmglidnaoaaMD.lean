import Derived.Test.YtkidcmglidnaoaaJ
namespace Go.Proofs.Ytkidcmglidnaoaa
open Go.RowKit
set_option linter.unusedVariables false
set_option linter.unusedSimpArgs false

/-- The reference's classes: 1 a type, 2 an expression, 3 a statement, above 100 a kind. -/
inductive Cs : Int → (Nat → Bool) → Prop
  | ty : Cs 1 kType
  | ex : Cs 2 kExprR
  | st : Cs 3 kStmt
  | is (j : Nat) (h : j ≤ 37) : Cs (100 + (j : Int)) (kIs j)
/-- The kinds from one place on to another. -/
def cut (ks : List Nat) (f t : Nat) : List Nat := (ks.take t).drop f
theorem cut_no {ks : List Nat} {f t k : Nat} {P : Nat → Bool} (h1 : f ≤ k) (h2 : k < t) (h3 : k < ks.length) (hp : P ks[k] = false) : (cut ks f t).all P = false := by
  rw [List.all_eq_false]
  refine ⟨ks[k], ?_, by simp [hp]⟩
  unfold cut
  refine List.mem_of_getElem? (i := k - f) ?_
  rw [List.getElem?_drop, show f + (k - f) = k by omega, List.getElem?_take, if_pos h2, List.getElem?_eq_getElem h3]
theorem cut_yes {ks : List Nat} {f t : Nat} {P : Nat → Bool} (h : ∀ j (hj : j < ks.length), f ≤ j → j < t → P ks[j] = true) : (cut ks f t).all P = true := by
  rw [List.all_eq_true]
  intro x hx
  obtain ⟨j, hj, rfl⟩ := List.getElem_of_mem hx
  unfold cut at hj ⊢
  rw [List.getElem_drop, List.getElem_take]
  simp at hj
  exact h (f + j) _ (by omega) (by omega)
theorem cut_all (ks : List Nat) : cut ks 0 ks.length = ks := by simp [cut]
theorem cut_one (ks : List Nat) (k d : Nat) (h : ks[k]? = some d) : cut ks k (k + 1) = [d] := by
  have hk : k < ks.length := (List.getElem?_eq_some_iff.1 h).1
  refine List.ext_getElem? fun i => ?_
  unfold cut
  rw [List.getElem?_drop, List.getElem?_take]
  cases i with
  | zero => simp [h]
  | succ i => rw [if_neg (by omega)]; simp
set_option maxRecDepth 100000 in
set_option maxHeartbeats 4000000 in
theorem all_any (ks : List Nat) (a : Option Addr) (cap : Nat) (f t : Nat) (c : Int) (P : Nat → Bool) (w : World) (hK : KRow w a ks) (hn : ks.length ≤ 20000) (hk : ∀ i d : Nat, ks[i]? = some d → d ≤ 255) (hft : f ≤ t) (ht : t ≤ ks.length) (hcl : Cs c P) :
    Calls Try.prog 75 #[.slice a ks.length cap, .int .i64 f, .int .i64 t, .int .i64 c] w fun e w' => e = .returned (.bool ((cut ks f t).all P)) ∧ w' = w := by
  have HK : Hid (KRow w a ks) := hK
  clear hK
  obtain ⟨al, hal⟩ : ∃ al, al = (cut ks f t).all P := ⟨_, rfl⟩
  rw [← hal]
  have HAL : Hid (al = (cut ks f t).all P) := hal
  clear hal
  have HCL : Hid (Cs c P) := hcl
  clear hcl
  have HD : Hid (∀ i d : Nat, ks[i]? = some d → d ≤ 255) := hk
  clear hk
  go_enter Try.func75, Try.ntmps75
  go_wp2
  go_loopw [9] (fun i W => ∃ k : Nat, f ≤ k ∧ k ≤ t ∧ i = .int .i64 k ∧ (∀ j (hj : j < ks.length), f ≤ j → j < k → P ks[j] = true) ∧ W = w) (fun i _ => t - (intOf i).toNat)
  case atStart => exact ⟨f, by omega, by omega, rfl, fun j _ h h' => absurd h' (by omega), rfl⟩
  case round =>
    obtain ⟨k, hfk, hk, rfl, hall, hww⟩ := hrel
    replace hww := hww.symm
    subst hww
    have HALL : Hid (∀ j (hj : j < ks.length), f ≤ j → j < k → P ks[j] = true) := hall
    clear hall
    by_cases hlt : k < t
    · have hlt' : k < ks.length := by omega
      obtain ⟨g, off, rfl, hg, hrow⟩ := HK.out (by rintro rfl; simp at hlt')
      have c0 := hrow k ks[k] (List.getElem?_eq_getElem hlt')
      have hd255 := HD.out k ks[k] (List.getElem?_eq_getElem hlt')
      have k0 : (0 : Int) ≤ (k : Int) := by omega
      have k1 : (k : Int) < (ks.length : Int) := by omega
      have k2 : (k : Int) < (t : Int) := by omega
      have w3 : IntKind.i64.wrap ((k : Int) + 1) = (k : Int) + 1 := by rw [IntKind.wrap_i64]; omega
      obtain ⟨d, hd⟩ : ∃ d, d = ks[k] := ⟨_, rfl⟩
      rw [← hd] at c0 hd255
      have HD' : Hid (d = ks[k]) := hd
      clear hd hrow
      have wd : IntKind.i64.wrap (d : Int) = (d : Int) := by rw [IntKind.wrap_i64]; omega
      have FIN : Hid (P d = true → ∀ j (hj : j < ks.length), f ≤ j → j < k + 1 → P ks[j] = true) := fun hp j hj hf hjk => by
        rcases Nat.lt_or_ge j k with h | h
        · exact HALL.out j hj hf h
        · obtain rfl : j = k := by omega
          rw [← HD'.out]; exact hp
      have FIN' : Hid (P d = false → al = false) := fun hp => by rw [HAL.out]; exact cut_no hfk hlt hlt' (by rw [← HD'.out]; exact hp)
      cases hp : P d with
      | true =>
        have HF : Hid (∀ j (hj : j < ks.length), f ≤ j → j < k + 1 → P ks[j] = true) := FIN.out hp
        have hcl := HCL.out
        clear HK HCL HALL HAL FIN FIN' HD HD'
        cases hcl with
        | ty =>
          go_wp2_with (go_at_call 91; refine (risType_any _ _).mono ?_; rintro e w1 ⟨rfl, hw1⟩; replace hw1 := hw1.symm; subst hw1)
          refine ⟨⟨k + 1, by omega, by omega, by go_num, HF.out, by first | rfl | trivial⟩, by simp [intOf]; omega⟩
        | ex =>
          go_wp2_with (go_at_call 92; refine (risExpr_any _ _).mono ?_; rintro e w1 ⟨rfl, hw1⟩; replace hw1 := hw1.symm; subst hw1)
          refine ⟨⟨k + 1, by omega, by omega, by go_num, HF.out, by first | rfl | trivial⟩, by simp [intOf]; omega⟩
        | st =>
          go_wp2_with (go_at_call 93; refine (risStmt_any _ _).mono ?_; rintro e w1 ⟨rfl, hw1⟩; replace hw1 := hw1.symm; subst hw1)
          refine ⟨⟨k + 1, by omega, by omega, by go_num, HF.out, by first | rfl | trivial⟩, by simp [intOf]; omega⟩
        | is j h =>
          have e1 : (100 + (j : Int) == 1) = false := by simpa using (by omega : ¬ 100 + (j : Int) = 1)
          have e2 : (100 + (j : Int) == 2) = false := by simpa using (by omega : ¬ 100 + (j : Int) = 2)
          have e3 : (100 + (j : Int) == 3) = false := by simpa using (by omega : ¬ 100 + (j : Int) = 3)
          have e4 : IntKind.i64.wrap (100 + (j : Int) - 100) = (j : Int) := by rw [IntKind.wrap_i64]; omega
          have hdj : d = j := of_decide_eq_true hp
          have e5 : ((d : Int) == (j : Int)) = true := by simpa using (by omega : (d : Int) = (j : Int))
          have e6 : (d == j) = true := by simpa using hdj
          go_wp2
          refine ⟨⟨k + 1, by omega, by omega, by go_num, HF.out, by first | rfl | trivial⟩, by simp [intOf]; omega⟩
      | false =>
        have hf := FIN'.out hp
        subst hf
        have hcl := HCL.out
        clear HK HCL HALL HAL FIN FIN' HD HD'
        cases hcl with
        | ty =>
          go_wp2_with (go_at_call 91; refine (risType_any _ _).mono ?_; rintro e w1 ⟨rfl, hw1⟩; replace hw1 := hw1.symm; subst hw1)
          go_ret
          exact ⟨rfl, rfl⟩
        | ex =>
          go_wp2_with (go_at_call 92; refine (risExpr_any _ _).mono ?_; rintro e w1 ⟨rfl, hw1⟩; replace hw1 := hw1.symm; subst hw1)
          go_ret
          exact ⟨rfl, rfl⟩
        | st =>
          go_wp2_with (go_at_call 93; refine (risStmt_any _ _).mono ?_; rintro e w1 ⟨rfl, hw1⟩; replace hw1 := hw1.symm; subst hw1)
          go_ret
          exact ⟨rfl, rfl⟩
        | is j h =>
          have e1 : (100 + (j : Int) == 1) = false := by simpa using (by omega : ¬ 100 + (j : Int) = 1)
          have e2 : (100 + (j : Int) == 2) = false := by simpa using (by omega : ¬ 100 + (j : Int) = 2)
          have e3 : (100 + (j : Int) == 3) = false := by simpa using (by omega : ¬ 100 + (j : Int) = 3)
          have e4 : IntKind.i64.wrap (100 + (j : Int) - 100) = (j : Int) := by rw [IntKind.wrap_i64]; omega
          have hdj : ¬ d = j := of_decide_eq_false hp
          have e5 : ((d : Int) == (j : Int)) = false := by simpa using (by omega : ¬ (d : Int) = (j : Int))
          have e6 : (d == j) = false := by simpa using hdj
          go_wp2
          go_ret
          exact ⟨rfl, rfl⟩
    · obtain rfl : k = t := by omega
      have hyes : al = true := by
        rw [HAL.out]
        exact cut_yes fun j hj h1 h2 => HALL.out j hj h1 h2
      subst hyes
      go_wp2
      go_ret
      exact ⟨rfl, rfl⟩
end Go.Proofs.Ytkidcmglidnaoaa
namespace Go.Proofs.Ytkidcmglidnaoaa
open Go.RowKit
set_option linter.unusedVariables false
set_option linter.unusedSimpArgs false

set_option maxRecDepth 100000 in
theorem rkind_any (j : Nat) (hj : j ≤ 37) (w : World) : Calls Try.prog 76 #[.int .u8 (j : Int)] w fun e w' => e = .returned (.int .i64 (100 + (j : Int))) ∧ w' = w := by
  have w1 : IntKind.i64.wrap (j : Int) = (j : Int) := by rw [IntKind.wrap_i64]; omega
  have w2 : IntKind.i64.wrap (100 + (j : Int)) = 100 + (j : Int) := by rw [IntKind.wrap_i64]; omega
  go_enter Try.func76, Try.ntmps76
  go_wp2
  go_ret
  exact ⟨rfl, rfl⟩
set_option maxRecDepth 100000 in
set_option maxHeartbeats 8000000 in
theorem just_any (ks : List Nat) (a : Option Addr) (cap : Nat) (b : Nat) (Ps : List (Nat → Bool)) (w : World) (hK : KRow w a ks) (hn : ks.length ≤ 20000) (hk : ∀ i d : Nat, ks[i]? = some d → d ≤ 255) (hm : Ps.length ≤ 5) (hb : b < w.heap.size) (hcl : ∀ i P, Ps[i]? = some P → ∃ c : Int, w.cell? ⟨b, i, none⟩ = some (.int .i64 c) ∧ Cs c P) :
    Calls Try.prog 77 #[.slice a ks.length cap, .slice (some ⟨b, 0, none⟩) Ps.length Ps.length] w fun e w' => e = .returned (.bool (turn ks Ps)) ∧ w' = w := by
  by_cases hl : ks.length = Ps.length
  · obtain ⟨al, hal⟩ : ∃ al, al = turn ks Ps := ⟨_, rfl⟩
    rw [← hal]
    have HAL : Hid (al = turn ks Ps) := hal
    clear hal
    have HALLS : Hid (∀ (k : Nat) (c : Int) (P : Nat → Bool) (d : Nat), ks[k]? = some d → Cs c P → Calls Try.prog 75 #[.slice a ks.length cap, .int .i64 (k : Int), .int .i64 ((k : Int) + 1), .int .i64 c] w fun e w' => e = .returned (.bool (P d)) ∧ w' = w) := fun k c P d h1 h2 => by
      have hlt : k < ks.length := (List.getElem?_eq_some_iff.1 h1).1
      have := all_any ks a cap k (k + 1) c P w hK hn hk (by omega) (by omega) h2
      rw [cut_one ks k d h1] at this
      simpa using this
    have HCL : Hid (∀ i P, Ps[i]? = some P → ∃ c : Int, w.cell? ⟨b, i, none⟩ = some (.int .i64 c) ∧ Cs c P) := hcl
    clear hK hcl hk
    have HL : Hid (ks.length = Ps.length) := hl
    obtain ⟨n, hn'⟩ : ∃ n, n = ks.length := ⟨_, rfl⟩
    rw [← hl, ← hn']
    rw [← hn'] at HALLS
    have HN : Hid (n = ks.length) := hn'
    have hn5 : n ≤ 5 := by omega
    clear hl hn' hn hm
    go_enter Try.func77, Try.ntmps77
    go_wp2
    go_loopw [5] (fun i W => ∃ k : Nat, k ≤ n ∧ i = .int .i64 k ∧ (∀ (j x : Nat) (P : Nat → Bool), j < k → ks[j]? = some x → Ps[j]? = some P → P x = true) ∧ W = w) (fun i _ => n - (intOf i).toNat)
    case atStart => exact ⟨0, by omega, rfl, fun j _ _ h => absurd h (Nat.not_lt_zero j), rfl⟩
    case round =>
      obtain ⟨k, hk, rfl, hall, hww⟩ := hrel
      replace hww := hww.symm
      subst hww
      have HALL : Hid (∀ (j x : Nat) (P : Nat → Bool), j < k → ks[j]? = some x → Ps[j]? = some P → P x = true) := hall
      clear hall
      by_cases hlt : k < n
      · have hlt1 : k < ks.length := by rw [← HN.out]; exact hlt
        have hlt2 : k < Ps.length := by rw [← HL.out]; exact hlt1
        obtain ⟨d, hd⟩ : ∃ d, ks[k]? = some d := ⟨_, List.getElem?_eq_getElem hlt1⟩
        obtain ⟨P, hP⟩ : ∃ P, Ps[k]? = some P := ⟨_, List.getElem?_eq_getElem hlt2⟩
        obtain ⟨c, c1, hcl⟩ := HCL.out k P hP
        have HC : Hid (Calls Try.prog 75 #[.slice a n cap, .int .i64 (k : Int), .int .i64 ((k : Int) + 1), .int .i64 c] w fun e w' => e = .returned (.bool (P d)) ∧ w' = w) := HALLS.out k c P d hd hcl
        have k0 : (0 : Int) ≤ (k : Int) := by omega
        have k1 : (k : Int) < (n : Int) := by omega
        have w3 : IntKind.i64.wrap ((k : Int) + 1) = (k : Int) + 1 := by rw [IntKind.wrap_i64]; omega
        have FIN : Hid (P d = true → ∀ (j x : Nat) (P : Nat → Bool), j < k + 1 → ks[j]? = some x → Ps[j]? = some P → P x = true) := fun hp j x P' hjk h1 h2 => by
          rcases Nat.lt_or_ge j k with h | h
          · exact HALL.out j x P' h h1 h2
          · obtain rfl : j = k := by omega
            rw [hd] at h1
            rw [hP] at h2
            cases h1; cases h2
            exact hp
        have FIN' : Hid (P d = false → al = false) := fun hp => by rw [HAL.out]; exact turn_no ks Ps k d P hd hP hp
        clear HCL HALL HAL hd hP hlt1 hlt2 hcl HALLS
        cases hp : P d with
        | true =>
          have hf := FIN.out hp
          have HF : Hid (∀ (j x : Nat) (P : Nat → Bool), j < k + 1 → ks[j]? = some x → Ps[j]? = some P → P x = true) := hf
          clear hf
          clear FIN FIN'
          go_wp2_with (go_at_call 75; refine HC.out.mono ?_; rintro e w1 ⟨rfl, hw1⟩; replace hw1 := hw1.symm; subst hw1)
          refine ⟨⟨k + 1, by omega, by go_num, HF.out, by first | rfl | trivial⟩, by simp [intOf]; omega⟩
        | false =>
          have hf := FIN'.out hp
          subst hf
          clear FIN FIN'
          go_wp2_with (go_at_call 75; refine HC.out.mono ?_; rintro e w1 ⟨rfl, hw1⟩; replace hw1 := hw1.symm; subst hw1)
          go_ret
          exact ⟨rfl, rfl⟩
      · obtain rfl : k = n := by omega
        have hyes : al = true := by
          rw [HAL.out]
          exact turn_yes ks Ps HL.out fun j x P h1 h2 => HALL.out j x P (by rw [HN.out]; exact (List.getElem?_eq_some_iff.1 h1).1) h1 h2
        subst hyes
        go_wp2
        go_ret
        exact ⟨rfl, rfl⟩
  · rw [turn_len ks Ps hl]
    have h1 : ((ks.length : Int) == (Ps.length : Int)) = false := by simpa using (by omega : ¬ (ks.length : Int) = (Ps.length : Int))
    have h2 : (ks.length == Ps.length) = false := by simpa using hl
    go_enter Try.func77, Try.ntmps77
    go_wp2
    go_ret
    exact ⟨rfl, rfl⟩
end Go.Proofs.Ytkidcmglidnaoaa
