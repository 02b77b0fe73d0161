import Derived.Test.YtkidcmglidnaoaaMD
import Derived.Test.YtkidcmglidnaoaaQ
namespace Go.Proofs.Ytkidcmglidnaoaa
open Go.RowKit
set_option linter.unusedVariables false
set_option linter.unusedSimpArgs false

theorem turn_two (ks : List Nat) (x y : Nat) (P Q : Nat → Bool) (h : ks = [x, y]) : turn ks [P, Q] = (P x && Q y) := by subst h; simp [turn]
theorem drop_two (ks : List Nat) (x y : Nat) (h2 : 2 ≤ ks.length) (hx : ks[ks.length - 2]? = some x) (hy : ks[ks.length - 1]? = some y) : ks.drop (ks.length - 2) = [x, y] := by
  refine List.ext_getElem? fun i => ?_
  rw [List.getElem?_drop]
  rcases i with _ | _ | i
  · simpa using hx
  · rw [show ks.length - 2 + (0 + 1) = ks.length - 1 by omega, hy]; rfl
  · rw [List.getElem?_eq_none (by omega)]; simp
theorem fnB_cut {q : Nat} {ks : List Nat} {x y : Nat} (h : ¬ (ks.length < q + 2 ∨ q + 10 < ks.length)) (hx : ks[ks.length - 2]? = some x) (hy : ks[ks.length - 1]? = some y) :
    fnB q ks = ((cut ks 0 q).all (kIs 5) && (cut ks q (ks.length - 2)).all (kIs 7) && kType x && kIs 13 y) := by
  rw [fnB_yes h, turn_two _ x y _ _ (drop_two ks x y (by omega) hx hy)]
  have e1 : cut ks 0 q = ks.take q := by simp [cut]
  have e2 : cut ks q (ks.length - 2) = (ks.drop q).take (ks.length - q - 2) := by
    unfold cut
    rw [List.drop_take, show ks.length - 2 - q = ks.length - q - 2 by omega]
  rw [e1, e2, Bool.and_assoc, Bool.and_assoc, Bool.and_assoc]
set_option maxRecDepth 100000 in
theorem rkindI_any (j : Int) (h0 : 0 ≤ j) (hj : j ≤ 37) (w : World) : Calls Try.prog 76 #[.int .u8 j] w fun e w' => e = .returned (.int .i64 (100 + j)) ∧ w' = w := by
  have := rkind_any j.toNat (by omega) w
  rw [Int.toNat_of_nonneg h0] at this
  exact this
set_option maxRecDepth 100000 in
set_option maxHeartbeats 800000 in
theorem rfn_any (p : Int) (q : Nat) (s : List UInt8) (a0 : Option Addr) (m0 cap0 : Nat) (ks : List Nat) (a : Option Addr) (cap : Nat) (w : World) (hq : q ≤ 8) (hK : KRow w a ks) (hn : ks.length ≤ 20000) (hk : ∀ i d : Nat, ks[i]? = some d → d ≤ 255) :
    Calls Try.prog 78 #[ndV ⟨4, p, (q : Int), s⟩ a0 m0 cap0, .slice a ks.length cap] w fun e w' => e = .returned (.bool (fnB q ks)) ∧ Below w.heap.size w w' := by
  have hB : ∀ o, Below w.heap.size w (w.alloc o) := fun o => belA (Below.refl _ _)
  have A1 := At.new w (Ndo ⟨4, p, (q : Int), s⟩ a0 m0 cap0)
  obtain ⟨c0, c1, c2, c3, c4, cf⟩ := A1.nd
  clear A1
  have w1 : IntKind.i64.wrap ((ks.length : Int) - 1) = (ks.length : Int) - 1 := by rw [IntKind.wrap_i64]; omega
  have w2 : IntKind.i64.wrap ((q : Int) + 2) = (q : Int) + 2 := by rw [IntKind.wrap_i64]; omega
  have w3 : IntKind.i64.wrap ((ks.length : Int) - 1 - 1) = (ks.length : Int) - 2 := by rw [IntKind.wrap_i64]; omega
  have w4 : IntKind.i64.wrap ((ks.length : Int) - 2 - (q : Int)) = (ks.length : Int) - 2 - (q : Int) := by rw [IntKind.wrap_i64]; omega
  by_cases h1 : ks.length < q + 2
  · rw [fnB_no (Or.inl h1)]
    have g1 : decide ((ks.length : Int) < (q : Int) + 2) = true := decide_eq_true (by omega)
    clear hK hk
    go_enter Try.func78, Try.ntmps78
    go_wp2
    go_ret
    exact ⟨rfl, hB _⟩
  · have g1 : decide ((ks.length : Int) < (q : Int) + 2) = false := decide_eq_false (by omega)
    by_cases h2 : q + 10 < ks.length
    · rw [fnB_no (Or.inr h2)]
      have g2 : decide ((8 : Int) < (ks.length : Int) - 2 - (q : Int)) = true := decide_eq_true (by omega)
      clear hK hk
      go_enter Try.func78, Try.ntmps78
      go_wp2
      go_ret
      exact ⟨rfl, hB _⟩
    · have g2 : decide ((8 : Int) < (ks.length : Int) - 2 - (q : Int)) = false := decide_eq_false (by omega)
      obtain ⟨g, off, rfl, hg, hrow⟩ := (hK.below (hB (Ndo ⟨4, p, (q : Int), s⟩ a0 m0 cap0))) (by rintro rfl; simp at h1)
      obtain ⟨x, hx⟩ : ∃ x, ks[ks.length - 2]? = some x := ⟨_, List.getElem?_eq_getElem (by omega)⟩
      obtain ⟨y, hy⟩ : ∃ y, ks[ks.length - 1]? = some y := ⟨_, List.getElem?_eq_getElem (by omega)⟩
      have d1 : (w.alloc (.cells #[.int .u8 4, .int .i64 p, .int .i64 (q : Int), .string (str s), .slice a0 m0 cap0] 48)).cell? ⟨g, off + (ks.length - 2), none⟩ = some (.int .u8 (x : Int)) := hrow _ x hx
      have d2 : (w.alloc (.cells #[.int .u8 4, .int .i64 p, .int .i64 (q : Int), .string (str s), .slice a0 m0 cap0] 48)).cell? ⟨g, off + (ks.length - 1), none⟩ = some (.int .u8 (y : Int)) := hrow _ y hy
      rw [fnB_cut (by omega) hx hy]
      have z1 : (0 : Int) ≤ (ks.length : Int) - 2 := by omega
      have z2 : (ks.length : Int) - 2 < (ks.length : Int) := by omega
      have z3 : (0 : Int) ≤ (ks.length : Int) - 1 := by omega
      have z4 : (ks.length : Int) - 1 < (ks.length : Int) := by omega
      have z5 : ((ks.length : Int) - 2).toNat = ks.length - 2 := by omega
      have z6 : ((ks.length : Int) - 1).toNat = ks.length - 1 := by omega
      obtain ⟨A, hA⟩ : ∃ A, A = (cut ks 0 q).all (kIs 5) := ⟨_, rfl⟩
      obtain ⟨B, hBB⟩ : ∃ B, B = (cut ks q (ks.length - 2)).all (kIs 7) := ⟨_, rfl⟩
      rw [← hA, ← hBB]
      have cs5 : Cs 105 (kIs 5) := Cs.is 5 (by omega)
      have cs7 : Cs 107 (kIs 7) := Cs.is 7 (by omega)
      have HK1 : Hid (∀ W, Below w.heap.size w W → Calls Try.prog 75 #[.slice (some ⟨g, off, none⟩) ks.length cap, .int .i64 0, .int .i64 (q : Int), .int .i64 105] W fun e w' => e = .returned (.bool A) ∧ w' = W) := fun W hW => by
        have K1 := all_any ks _ cap 0 q 105 (kIs 5) W (hK.below hW) hn hk (by omega) (by omega) cs5
        rw [← hA, show ((0 : Nat) : Int) = 0 from rfl] at K1
        exact K1
      have HK2 : Hid (∀ W, Below w.heap.size w W → Calls Try.prog 75 #[.slice (some ⟨g, off, none⟩) ks.length cap, .int .i64 (q : Int), .int .i64 ((ks.length : Int) - 2), .int .i64 107] W fun e w' => e = .returned (.bool B) ∧ w' = W) := fun W hW => by
        have K2 := all_any ks _ cap q (ks.length - 2) 107 (kIs 7) W (hK.below hW) hn hk (by omega) (by omega) cs7
        rw [← hBB, show ((ks.length - 2 : Nat) : Int) = (ks.length : Int) - 2 by omega] at K2
        exact K2
      clear hA hBB hK hrow hx hy hk cs5 cs7
      cases A with
      | false =>
        go_enter Try.func78, Try.ntmps78
        go_wp2_with (first
          | (go_at_call 76; refine (rkindI_any _ (by omega) (by omega) _).mono ?_; rintro e w1 ⟨rfl, hw1⟩; replace hw1 := hw1.symm; subst hw1)
          | (go_at_call 75; with_reducible refine (HK1.out _ (hB _)).mono ?_; rintro e w1 ⟨rfl, hw1⟩; replace hw1 := hw1.symm; subst hw1)
          | (go_at_call 75; with_reducible refine (HK2.out _ (hB _)).mono ?_; rintro e w1 ⟨rfl, hw1⟩; replace hw1 := hw1.symm; subst hw1)
          | (go_at_call 91; refine (risType_any _ _).mono ?_; rintro e w1 ⟨rfl, hw1⟩; replace hw1 := hw1.symm; subst hw1))
        go_ret
        exact ⟨rfl, hB _⟩
      | true =>
      cases B with
      | false =>
        go_enter Try.func78, Try.ntmps78
        go_wp2_with (first
          | (go_at_call 76; refine (rkindI_any _ (by omega) (by omega) _).mono ?_; rintro e w1 ⟨rfl, hw1⟩; replace hw1 := hw1.symm; subst hw1)
          | (go_at_call 75; with_reducible refine (HK1.out _ (hB _)).mono ?_; rintro e w1 ⟨rfl, hw1⟩; replace hw1 := hw1.symm; subst hw1)
          | (go_at_call 75; with_reducible refine (HK2.out _ (hB _)).mono ?_; rintro e w1 ⟨rfl, hw1⟩; replace hw1 := hw1.symm; subst hw1)
          | (go_at_call 91; refine (risType_any _ _).mono ?_; rintro e w1 ⟨rfl, hw1⟩; replace hw1 := hw1.symm; subst hw1))
        go_ret
        exact ⟨rfl, hB _⟩
      | true =>
      cases ht : kType x with
      | false =>
        go_enter Try.func78, Try.ntmps78
        go_wp2_with (first
          | (go_at_call 76; refine (rkindI_any _ (by omega) (by omega) _).mono ?_; rintro e w1 ⟨rfl, hw1⟩; replace hw1 := hw1.symm; subst hw1)
          | (go_at_call 75; with_reducible refine (HK1.out _ (hB _)).mono ?_; rintro e w1 ⟨rfl, hw1⟩; replace hw1 := hw1.symm; subst hw1)
          | (go_at_call 75; with_reducible refine (HK2.out _ (hB _)).mono ?_; rintro e w1 ⟨rfl, hw1⟩; replace hw1 := hw1.symm; subst hw1)
          | (go_at_call 91; refine (risType_any _ _).mono ?_; rintro e w1 ⟨rfl, hw1⟩; replace hw1 := hw1.symm; subst hw1))
        go_ret
        exact ⟨rfl, hB _⟩
      | true =>
      cases hy : kIs 13 y with
      | false =>
        have y0 : ¬ y = 13 := of_decide_eq_false hy
        have y1 : ((y : Int) == 13) = false := by simpa using (by omega : ¬ (y : Int) = 13)
        go_enter Try.func78, Try.ntmps78
        go_wp2_with (first
          | (go_at_call 76; refine (rkindI_any _ (by omega) (by omega) _).mono ?_; rintro e w1 ⟨rfl, hw1⟩; replace hw1 := hw1.symm; subst hw1)
          | (go_at_call 75; with_reducible refine (HK1.out _ (hB _)).mono ?_; rintro e w1 ⟨rfl, hw1⟩; replace hw1 := hw1.symm; subst hw1)
          | (go_at_call 75; with_reducible refine (HK2.out _ (hB _)).mono ?_; rintro e w1 ⟨rfl, hw1⟩; replace hw1 := hw1.symm; subst hw1)
          | (go_at_call 91; refine (risType_any _ _).mono ?_; rintro e w1 ⟨rfl, hw1⟩; replace hw1 := hw1.symm; subst hw1))
        go_ret
        exact ⟨rfl, hB _⟩
      | true =>
        have y0 : y = 13 := of_decide_eq_true hy
        have y1 : ((y : Int) == 13) = true := by simpa using (by omega : (y : Int) = 13)
        go_enter Try.func78, Try.ntmps78
        go_wp2_with (first
          | (go_at_call 76; refine (rkindI_any _ (by omega) (by omega) _).mono ?_; rintro e w1 ⟨rfl, hw1⟩; replace hw1 := hw1.symm; subst hw1)
          | (go_at_call 75; with_reducible refine (HK1.out _ (hB _)).mono ?_; rintro e w1 ⟨rfl, hw1⟩; replace hw1 := hw1.symm; subst hw1)
          | (go_at_call 75; with_reducible refine (HK2.out _ (hB _)).mono ?_; rintro e w1 ⟨rfl, hw1⟩; replace hw1 := hw1.symm; subst hw1)
          | (go_at_call 91; refine (risType_any _ _).mono ?_; rintro e w1 ⟨rfl, hw1⟩; replace hw1 := hw1.symm; subst hw1))
        go_ret
        exact ⟨rfl, hB _⟩
end Go.Proofs.Ytkidcmglidnaoaa
