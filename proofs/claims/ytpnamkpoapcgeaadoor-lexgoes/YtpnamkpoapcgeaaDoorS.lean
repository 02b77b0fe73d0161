import Derived.Test.YtpnamkpoapcgeaaDoorR
import Derived.Test.YtpnamkpoapcgeaaDoorF
namespace Go.Proofs.YtpnamkpoapcgeaaDoor
open Go.RowKit
set_option linter.unusedVariables false
set_option linter.unusedSimpArgs false

/-- What is read of a number, as its reader in the reference tells it: where it ends, the number, and whether it is stuck there. -/
abbrev numV (p : Nat) (r : Rd) : Value := .tuple #[.int .i64 ((p + r.far : Nat) : Int), .int .i64 (r.n : Int), .bool (r.k == 5)]
theorem u64_cast (v d : Nat) : Value.int .u64 (10 * (v : Int) + (d : Int)) = .int .u64 ((v * 10 + d : Nat) : Int) := by
  rw [show 10 * (v : Int) + (d : Int) = ((v * 10 + d : Nat) : Int) by omega]
theorem num_stuck {S : List UInt8} {p i v : Nat} (hpi : p ≤ i) {R : Rd} (hinv : R = intGo v (i - p) (S.drop i)) (hlt : i < S.length) (hr : isR S[i].toNat = true) (h : (0 < i - p ∧ v = 0) ∨ wdig v S[i].toNat = none) : numV p R = .tuple #[.int .i64 (i : Int), .int .i64 0, .bool false] := by
  have hdr : S.drop i = S[i] :: S.drop (i + 1) := List.drop_eq_getElem_cons hlt
  have : R = ⟨0, 0, [], i - p⟩ := by
    rw [hinv, hdr]
    rcases h with ⟨h1, h2⟩ | h
    · subst h2; exact intGo_zero hr h1
    · exact intGo_none hr h
  rw [this]
  have e : p + (i - p) = i := by omega
  simp [numV, e]
theorem num_end {S : List UInt8} {p i v : Nat} (hpi : p ≤ i) {R : Rd} (hinv : R = intGo v (i - p) (S.drop i)) (hr : rowAt (S.drop i) 0 = false) : numV p R = .tuple #[.int .i64 (i : Int), .int .i64 (v : Int), .bool true] := by
  rw [hinv, intGo_end hr]
  have e : p + (i - p) = i := by omega
  simp [numV, e]
theorem num_next {S : List UInt8} {p i v d : Nat} (hpi : p ≤ i) {R : Rd} (hinv : R = intGo v (i - p) (S.drop i)) (hlt : i < S.length) (hr : isR S[i].toNat = true) (hz : ¬ (0 < i - p ∧ v = 0)) (hd : wdig v S[i].toNat = some d) : R = intGo d (i + 1 - p) (S.drop (i + 1)) := by
  have hdr : S.drop i = S[i] :: S.drop (i + 1) := List.drop_eq_getElem_cons hlt
  rw [hinv, hdr, intGo_some hr hz hd, show i - p + 1 = i + 1 - p by omega]
set_option maxRecDepth 100000 in
set_option maxHeartbeats 2000000 in
theorem rNumber_any (w : World) (S : List UInt8) (p : Nat) (hS : S.length ≤ maxLen) (hp : p < S.length) : Calls Tryd.prog 52 #[.string (str S), .int .i64 (p : Int)] w fun e w' => e = .returned (numV p (intGo 0 0 (S.drop p))) ∧ w' = w := by
  unfold maxLen at hS
  have hsz : (str S).size = S.length := str_size S
  obtain ⟨R, hR⟩ : ∃ R, R = intGo 0 0 (S.drop p) := ⟨_, rfl⟩
  rw [← hR]
  obtain ⟨a, hal⟩ : ∃ a, a = S[p] := ⟨_, rfl⟩
  have ha : (str S)[p]'(by rw [hsz]; exact hp) = a := by rw [hal]; rfl
  have gp0 : (0 : Int) ≤ (p : Int) := by omega
  have gp1 : (p : Int) < (S.length : Int) := by omega
  go_enter Tryd.func52, Tryd.ntmps52
  go_wp2
  go_loop [7, 8] (fun y x => ∃ i v : Nat, p ≤ i ∧ i ≤ S.length ∧ v ≤ 9223372036854775807 ∧ x = .int .i64 i ∧ y = .int .u64 v ∧ Hid (v = 0 ↔ (i = p ∨ (i = p + 1 ∧ a.toNat = 48))) ∧ Hid (R = intGo v (i - p) (S.drop i))) (fun _ x => S.length - (intOf x).toNat)
  case atStart => exact ⟨p, 0, Nat.le_refl _, by omega, by omega, rfl, rfl, by simp [Hid], by show _ = _; rw [hR, Nat.sub_self]⟩
  case round =>
    obtain ⟨i, v, hpi, hil, hv, rfl, rfl, hz, hinv⟩ := hrel
    by_cases hlt : i < S.length
    · obtain ⟨c, hcl⟩ : ∃ c, c = S[i] := ⟨_, rfl⟩
      have hc : (str S)[i]'(by rw [hsz]; exact hlt) = c := by rw [hcl]; rfl
      have g0 : (0 : Int) ≤ (i : Int) := by omega
      have g1 : (i : Int) < (S.length : Int) := by omega
      cases hr : isR c.toNat
      · have HRr : Hid (∀ W, Calls Tryd.prog 77 #[.int .u8 (c.toNat : Int)] W fun e w' => e = .returned (.bool false) ∧ w' = W) := fun W => by have := rRow_any c.toNat W; rw [hr] at this; exact this
        have hE : Hid (numV p R = .tuple #[.int .i64 (i : Int), .int .i64 (v : Int), .bool true]) := num_end hpi hinv.out (by rw [show S.drop i = S[i] :: S.drop (i + 1) from List.drop_eq_getElem_cons hlt, ← hcl]; simpa [rowAt] using hr)
        clear hr hcl hinv hz hR hal
        go_wp2_with (go_at_call 77; refine (HRr.out _).mono ?_; rintro e w' ⟨rfl, rfl⟩)
        refine bodyPost_ret (v := .tuple #[.int .i64 (i : Int), .int .i64 (v : Int), .bool true]) (by simp [results, Tryd.results52, go_sem]) rfl ⟨by rw [hE.out], rfl⟩
      · have HRr : Hid (∀ W, Calls Tryd.prog 77 #[.int .u8 (c.toNat : Int)] W fun e w' => e = .returned (.bool true) ∧ w' = W) := fun W => by have := rRow_any c.toNat W; rw [hr] at this; exact this
        cases hdg : isD c.toNat
        · have HDg : Hid (∀ W, Calls Tryd.prog 51 #[.int .u8 (c.toNat : Int)] W fun e w' => e = .returned (.bool false) ∧ w' = W) := fun W => by have := rDigit_any c.toNat W; rw [hdg] at this; exact this
          have hE : Hid (numV p R = .tuple #[.int .i64 (i : Int), .int .i64 0, .bool false]) := num_stuck hpi hinv.out hlt (by rw [← hcl]; exact hr) (.inr (by rw [← hcl]; unfold wdig; rw [hdg]; simp))
          clear hr hcl hinv hz hR hal hdg
          go_wp2_with (first
            | (go_at_call 77; refine (HRr.out _).mono ?_; rintro e w' ⟨rfl, rfl⟩)
            | (go_at_call 51; refine (HDg.out _).mono ?_; rintro e w' ⟨rfl, rfl⟩))
          refine bodyPost_ret (v := .tuple #[.int .i64 (i : Int), .int .i64 0, .bool false]) (by simp [results, Tryd.results52, go_sem]) rfl ⟨by rw [hE.out], rfl⟩
        · have HDg : Hid (∀ W, Calls Tryd.prog 51 #[.int .u8 (c.toNat : Int)] W fun e w' => e = .returned (.bool true) ∧ w' = W) := fun W => by have := rDigit_any c.toNat W; rw [hdg] at this; exact this
          have hcd : 48 ≤ c.toNat ∧ c.toNat ≤ 57 := by unfold isD at hdg; exact of_decide_eq_true hdg
          obtain ⟨d, hcn⟩ : ∃ d, c.toNat = d + 48 := ⟨c.toNat - 48, by omega⟩
          have hd9 : d ≤ 9 := by omega
          replace HDg : Hid (∀ W, Calls Tryd.prog 51 #[.int .u8 ((d + 48 : Nat) : Int)] W fun e w' => e = .returned (.bool true) ∧ w' = W) := fun W => by have := HDg.out W; rw [hcn] at this; exact this
          replace HRr : Hid (∀ W, Calls Tryd.prog 77 #[.int .u8 ((d + 48 : Nat) : Int)] W fun e w' => e = .returned (.bool true) ∧ w' = W) := fun W => by have := HRr.out W; rw [hcn] at this; exact this
          by_cases hza : 0 < i - p ∧ v = 0
          · have hE : Hid (numV p R = .tuple #[.int .i64 (i : Int), .int .i64 0, .bool false]) := num_stuck hpi hinv.out hlt (by rw [← hcl]; exact hr) (.inl hza)
            have h1 : i = p + 1 ∧ a.toNat = 48 := by
              rcases hz.out.1 hza.2 with h | h
              · omega
              · exact h
            have e1 : ((i : Int) == (p : Int) + 1) = true := by simp; omega
            have e2 : ((a.toNat : Int) == 48) = true := by simp; omega
            clear h1
            clear hr hcl hinv hz hR hal hdg hza hcd
            go_wp2_with (first
              | (go_at_call 77; refine (HRr.out _).mono ?_; rintro e w' ⟨rfl, rfl⟩)
              | (go_at_call 51; refine (HDg.out _).mono ?_; rintro e w' ⟨rfl, rfl⟩))
            refine bodyPost_ret (v := .tuple #[.int .i64 (i : Int), .int .i64 0, .bool false]) (by simp [results, Tryd.results52, go_sem]) rfl ⟨by rw [hE.out], rfl⟩
          · by_cases hov : v * 10 + d ≤ 9223372036854775807
            · have hwd : wdig v c.toNat = some (v * 10 + d) := by unfold wdig; rw [if_pos ⟨hdg, by omega⟩]; simp; omega
              have HN : Hid (R = intGo (v * 10 + d) (i + 1 - p) (S.drop (i + 1))) := num_next hpi hinv.out hlt (by rw [← hcl]; exact hr) hza (by rw [← hcl]; exact hwd)
              have HZ : Hid (v * 10 + d = 0 ↔ (i + 1 = p ∨ (i + 1 = p + 1 ∧ a.toNat = 48))) := by
                show _ ↔ _
                by_cases hip : i = p
                · subst hip
                  have hac : a = c := by rw [hal, hcl]
                  have hv0 : v = 0 := hz.out.2 (.inl rfl)
                  rw [hac]
                  omega
                · have : v ≠ 0 := fun h => hza ⟨by omega, h⟩
                  omega
              have ovb : ¬ (9223372036854775807 - (d : Int)) / 10 < (v : Int) := by omega
              have ovc : (v : Int) ≤ (9223372036854775807 - (d : Int)) / 10 := by omega
              have hzz : ¬ (i = p + 1 ∧ a.toNat = 48) := fun h => hza ⟨by omega, hz.out.2 (.inr h)⟩
              by_cases hi1 : i = p + 1
              · have e1 : ((i : Int) == (p : Int) + 1) = true := by simp; omega
                have e2 : ((a.toNat : Int) == 48) = false := by simp; omega
                clear hr hcl hinv hz hR hal hdg hza hcd hwd hzz hi1
                go_wp2_with (first
                  | (go_at_call 77; refine (HRr.out _).mono ?_; rintro e w' ⟨rfl, rfl⟩)
                  | (go_at_call 51; refine (HDg.out _).mono ?_; rintro e w' ⟨rfl, rfl⟩))
                go_round
                case rel => exact ⟨i + 1, v * 10 + d, by omega, by omega, by omega, by go_num, u64_cast v d, HZ, HN⟩
                case measure => simp [intOf]; omega
              · have e1 : ((i : Int) == (p : Int) + 1) = false := by simp; omega
                clear hr hcl hinv hz hR hal hdg hza hcd hwd hzz hi1
                go_wp2_with (first
                  | (go_at_call 77; refine (HRr.out _).mono ?_; rintro e w' ⟨rfl, rfl⟩)
                  | (go_at_call 51; refine (HDg.out _).mono ?_; rintro e w' ⟨rfl, rfl⟩))
                go_round
                case rel => exact ⟨i + 1, v * 10 + d, by omega, by omega, by omega, by go_num, u64_cast v d, HZ, HN⟩
                case measure => simp [intOf]; omega
            · have hwd : wdig v c.toNat = none := by unfold wdig; rw [if_neg (fun h => by omega)]
              have hE : Hid (numV p R = .tuple #[.int .i64 (i : Int), .int .i64 0, .bool false]) := num_stuck hpi hinv.out hlt (by rw [← hcl]; exact hr) (.inr (by rw [← hcl]; exact hwd))
              have ovb : (9223372036854775807 - (d : Int)) / 10 < (v : Int) := by omega
              have hzz : ¬ (i = p + 1 ∧ a.toNat = 48) := fun h => hza ⟨by omega, hz.out.2 (.inr h)⟩
              by_cases hi1 : i = p + 1
              · have e1 : ((i : Int) == (p : Int) + 1) = true := by simp; omega
                have e2 : ((a.toNat : Int) == 48) = false := by simp; omega
                clear hr hcl hinv hz hR hal hdg hza hcd hwd hzz hi1
                go_wp2_with (first
                  | (go_at_call 77; refine (HRr.out _).mono ?_; rintro e w' ⟨rfl, rfl⟩)
                  | (go_at_call 51; refine (HDg.out _).mono ?_; rintro e w' ⟨rfl, rfl⟩))
                refine bodyPost_ret (v := .tuple #[.int .i64 (i : Int), .int .i64 0, .bool false]) (by simp [results, Tryd.results52, go_sem]) rfl ⟨by rw [hE.out], rfl⟩
              · have e1 : ((i : Int) == (p : Int) + 1) = false := by simp; omega
                clear hr hcl hinv hz hR hal hdg hza hcd hwd hzz hi1
                go_wp2_with (first
                  | (go_at_call 77; refine (HRr.out _).mono ?_; rintro e w' ⟨rfl, rfl⟩)
                  | (go_at_call 51; refine (HDg.out _).mono ?_; rintro e w' ⟨rfl, rfl⟩))
                refine bodyPost_ret (v := .tuple #[.int .i64 (i : Int), .int .i64 0, .bool false]) (by simp [results, Tryd.results52, go_sem]) rfl ⟨by rw [hE.out], rfl⟩
    · have hE : Hid (numV p R = .tuple #[.int .i64 (i : Int), .int .i64 (v : Int), .bool true]) := num_end hpi hinv.out (by rw [List.drop_eq_nil_of_le (by omega)]; rfl)
      have g1 : ¬ (i : Int) < (S.length : Int) := by omega
      have HRr : Hid (∀ W, Calls Tryd.prog 77 #[.int .u8 0] W fun e w' => e = .returned (.bool (isR 0)) ∧ w' = W) := fun W => rRow_any 0 W
      clear hinv hz hR hal
      go_wp2_with (go_at_call 77; refine (HRr.out _).mono ?_; rintro e w' ⟨rfl, rfl⟩)
      refine bodyPost_ret (v := .tuple #[.int .i64 (i : Int), .int .i64 (v : Int), .bool true]) (by simp [results, Tryd.results52, go_sem]) rfl ⟨by rw [hE.out], rfl⟩
end Go.Proofs.YtpnamkpoapcgeaaDoor
