import Derived.Test.YtpnamkpoapcgeaaDoorW
namespace Go.Proofs.YtpnamkpoapcgeaaDoor
open Go.RowKit
set_option linter.unusedVariables false
set_option linter.unusedSimpArgs false

set_option maxRecDepth 100000 in
set_option maxHeartbeats 800000 in
theorem one_life_end (w : World) (S : List UInt8) (p : Nat) (c : UInt8) (hS : S.length ≤ maxLen) (hp : p < S.length) (hcl : c = S[p]) (h4 : c.toNat = 39) (h5 : p + 1 = S.length) :
    Calls Tryd.prog 31 #[.string (str S), .int .i64 (p : Int)] w fun e w' => (∃ v, e = .returned v ∧ OneV p (rdLife (S.drop (p + 1))) v) ∧ Below w.heap.size w w' := by
  have hR : rdLife (S.drop (p + 1)) = ⟨0, 0, [], 1⟩ := by rw [List.drop_eq_nil_of_le (by omega)]; rfl
  generalize rdLife (S.drop (p + 1)) = R at *
  unfold maxLen at hS
  have hsz : (str S).size = S.length := str_size S
  have hc : (str S)[p]'(by rw [hsz]; exact hp) = c := by rw [hcl]; rfl
  have gp0 : (0 : Int) ≤ (p : Int) := by omega
  have gp1 : (p : Int) < (S.length : Int) := by omega
  have h1 : isL c.toNat = false := by rw [h4]; rfl
  have h2 : isG c.toNat = false := by rw [h4]; rfl
  have h3 : isD c.toNat = false := by rw [h4]; rfl
  have g39 : ((c.toNat : Int) == 39) = true := by simp; omega
  have HL : Hid (∀ W, Calls Tryd.prog 47 #[.int .u8 (c.toNat : Int)] W fun e w' => e = .returned (.bool false) ∧ w' = W) := fun W => by have := rLetter_any c.toNat W; rw [h1] at this; exact this
  have HG : Hid (∀ W, Calls Tryd.prog 48 #[.int .u8 (c.toNat : Int)] W fun e w' => e = .returned (.bool false) ∧ w' = W) := fun W => by have := rGreat_any c.toNat W; rw [h2] at this; exact this
  have HD : Hid (∀ W, Calls Tryd.prog 51 #[.int .u8 (c.toNat : Int)] W fun e w' => e = .returned (.bool false) ∧ w' = W) := fun W => by have := rDigit_any c.toNat W; rw [h3] at this; exact this
  clear hcl h1 h2 h3 h4
  have HO : Hid (OneV p R (.tuple #[tok 0 p 0 ⟨#[]⟩, .int .i64 ((p : Int) + 1), .bool false])) := by
    rw [hR]; exact ⟨0, p, 0, ⟨#[]⟩, by simp, fun h => absurd rfl h⟩
  clear hR
  have e1 : ((p : Int) + 1 == (S.length : Int)) = true := by simp; omega
  clear h5
  go_enter Tryd.func31, Tryd.ntmps31
  go_wp2_with (first
    | (go_at_call 47; refine (HL.out _).mono ?_; rintro e w' ⟨rfl, rfl⟩)
    | (go_at_call 48; refine (HG.out _).mono ?_; rintro e w' ⟨rfl, rfl⟩)
    | (go_at_call 51; refine (HD.out _).mono ?_; rintro e w' ⟨rfl, rfl⟩))
  refine bodyPost_ret (v := .tuple #[tok 0 p 0 ⟨#[]⟩, .int .i64 ((p : Int) + 1), .bool false]) (by simp [results, Tryd.results31, go_sem]) rfl ⟨⟨_, rfl, HO.out⟩, ?_⟩
  exact ((Below.refl _ _).alloc (Nat.le_refl _) _).alloc (by simp) _
set_option maxRecDepth 100000 in
set_option maxHeartbeats 800000 in
theorem one_life_other (w : World) (S : List UInt8) (p : Nat) (c : UInt8) (hS : S.length ≤ maxLen) (hp : p < S.length) (hcl : c = S[p]) (h4 : c.toNat = 39) (h5 : p + 1 < S.length) (h6 : isL S[p + 1].toNat = false) :
    Calls Tryd.prog 31 #[.string (str S), .int .i64 (p : Int)] w fun e w' => (∃ v, e = .returned v ∧ OneV p (rdLife (S.drop (p + 1))) v) ∧ Below w.heap.size w w' := by
  have hR : rdLife (S.drop (p + 1)) = ⟨0, 0, [], 1⟩ := by
    rw [show S.drop (p + 1) = S[p + 1] :: S.drop (p + 1 + 1) from List.drop_eq_getElem_cons h5]
    unfold rdLife
    simp only [h6]
    rfl
  generalize rdLife (S.drop (p + 1)) = R at *
  obtain ⟨d, hdl⟩ : ∃ d, d = S[p + 1] := ⟨_, rfl⟩
  rw [← hdl] at h6
  have HL2 : Hid (∀ W, Calls Tryd.prog 47 #[.int .u8 (d.toNat : Int)] W fun e w' => e = .returned (.bool false) ∧ w' = W) := fun W => by have := rLetter_any d.toNat W; rw [h6] at this; exact this
  unfold maxLen at hS
  have hsz : (str S).size = S.length := str_size S
  have hc : (str S)[p]'(by rw [hsz]; exact hp) = c := by rw [hcl]; rfl
  have gp0 : (0 : Int) ≤ (p : Int) := by omega
  have gp1 : (p : Int) < (S.length : Int) := by omega
  have h1 : isL c.toNat = false := by rw [h4]; rfl
  have h2 : isG c.toNat = false := by rw [h4]; rfl
  have h3 : isD c.toNat = false := by rw [h4]; rfl
  have g39 : ((c.toNat : Int) == 39) = true := by simp; omega
  have HL : Hid (∀ W, Calls Tryd.prog 47 #[.int .u8 (c.toNat : Int)] W fun e w' => e = .returned (.bool false) ∧ w' = W) := fun W => by have := rLetter_any c.toNat W; rw [h1] at this; exact this
  have HG : Hid (∀ W, Calls Tryd.prog 48 #[.int .u8 (c.toNat : Int)] W fun e w' => e = .returned (.bool false) ∧ w' = W) := fun W => by have := rGreat_any c.toNat W; rw [h2] at this; exact this
  have HD : Hid (∀ W, Calls Tryd.prog 51 #[.int .u8 (c.toNat : Int)] W fun e w' => e = .returned (.bool false) ∧ w' = W) := fun W => by have := rDigit_any c.toNat W; rw [h3] at this; exact this
  clear hcl h1 h2 h3 h4
  have HO : Hid (OneV p R (.tuple #[tok 0 p 0 ⟨#[]⟩, .int .i64 ((p : Int) + 1), .bool false])) := by
    rw [hR]; exact ⟨0, p, 0, ⟨#[]⟩, by simp, fun h => absurd rfl h⟩
  clear hR
  have hd : (str S)[p + 1]'(by rw [hsz]; exact h5) = d := by rw [hdl]; rfl
  have e1 : ((p : Int) + 1 == (S.length : Int)) = false := by simp; omega
  have g5 : (p : Int) + 1 < (S.length : Int) := by omega
  have g6 : (0 : Int) ≤ (p : Int) + 1 := by omega
  clear hdl h6
  go_enter Tryd.func31, Tryd.ntmps31
  go_wp2_with (first
    | (with_reducible show Calls _ 47 #[.int .u8 (d.toNat : Int)] _ _; refine (HL2.out _).mono ?_; rintro e w' ⟨rfl, rfl⟩)
    | (go_at_call 47; refine (HL.out _).mono ?_; rintro e w' ⟨rfl, rfl⟩)
    | (go_at_call 48; refine (HG.out _).mono ?_; rintro e w' ⟨rfl, rfl⟩)
    | (go_at_call 51; refine (HD.out _).mono ?_; rintro e w' ⟨rfl, rfl⟩))
  refine bodyPost_ret (v := .tuple #[tok 0 p 0 ⟨#[]⟩, .int .i64 ((p : Int) + 1), .bool false]) (by simp [results, Tryd.results31, go_sem]) rfl ⟨⟨_, rfl, HO.out⟩, ?_⟩
  exact ((Below.refl _ _).alloc (Nat.le_refl _) _).alloc (by simp) _
end Go.Proofs.YtpnamkpoapcgeaaDoor
