import Derived.Test.YtkidcmglidnaoaaSe
import Derived.Test.YtkidcmglidnaoaaSc
import Derived.Test.YtkidcmglidnaoaaZl
namespace Go.Proofs.Ytkidcmglidnaoaa
open Go.RowKit Go.Shelf
set_option linter.unusedVariables false
set_option linter.unusedSimpArgs false

theorem hidE {p : Prop} (h : p) : Hid p := h
/-- Which of several calls of one function it is. -/
inductive Stg' : Nat → Prop
  | mk (n : Nat) : Stg' n
/-- May these stand in a file? -/
def fileR (ks : List Nat) : Bool := ks.all fun k => decide (k = 2) || decide (k = 4)
theorem fileR_no {ks : List Nat} {i k : Nat} (h : ks[i]? = some k) (h2 : ¬ k = 2) (h4 : ¬ k = 4) : fileR ks = false := by
  unfold fileR
  rw [List.all_eq_false]
  exact ⟨k, List.mem_of_getElem? h, by simp [h2, h4]⟩
theorem fileR_yes {ks : List Nat} (h : ∀ j k : Nat, j < ks.length → ks[j]? = some k → k = 2 ∨ k = 4) : fileR ks = true := by
  unfold fileR
  rw [List.all_eq_true]
  intro k hk
  obtain ⟨j, hj⟩ := List.getElem?_of_mem hk
  rcases h j k (List.getElem?_eq_some_iff.1 hj).1 hj with rfl | rfl <;> simp
set_option maxRecDepth 100000 in
set_option maxHeartbeats 2000000 in
theorem rc_1 (p n : Int) (s : List UInt8) (a0 : Option Addr) (m0 cap0 : Nat) (ks : List Nat) (a : Option Addr) (cap : Nat) (w : World) (hK : KRow w a ks) (h3 : ks.length ≤ 20000) (hk : ∀ i d : Nat, ks[i]? = some d → d ≤ 255) :
    Calls Try.prog 64 #[ndV ⟨1, p, n, s⟩ a0 m0 cap0, .slice a ks.length cap] w fun e w' => e = .returned (.bool (fileR ks)) ∧ Below w.heap.size w w' := by
  have hB : Below w.heap.size w (w.alloc (Ndo ⟨1, p, n, s⟩ a0 m0 cap0)) := belA (Below.refl _ _)
  have A1 := At.new w (Ndo ⟨1, p, n, s⟩ a0 m0 cap0)
  obtain ⟨c0, c1, c2, c3, c4, cf⟩ := A1.nd
  clear A1
  have HK1 : Hid (KRow (w.alloc (Ndo ⟨1, p, n, s⟩ a0 m0 cap0)) a ks) := hK.below hB
  have HKD : Hid (∀ i d : Nat, ks[i]? = some d → d ≤ 255) := hk
  have n1 : (ks.length : Int) ≤ 20000 := by omega
  clear hK hk hB
  go_enter Try.func64, Try.ntmps64
  go_wp2_with fail
  go_loopw [5] (fun v V => ∃ i : Nat, i ≤ ks.length ∧ v = .int .i64 (i : Int) ∧ (∀ j k : Nat, j < i → ks[j]? = some k → k = 2 ∨ k = 4) ∧ V = w.alloc (Ndo ⟨1, p, n, s⟩ a0 m0 cap0)) (fun v _ => ks.length - (intOf v).toNat)
  case atStart => exact ⟨0, Nat.zero_le _, rfl, fun j k h => by omega, rfl⟩
  case round =>
    obtain ⟨i, hi, rfl, h1, hV⟩ := hrel
    replace hV := hV.symm
    subst hV
    have HI : Hid (∀ j k : Nat, j < i → ks[j]? = some k → k = 2 ∨ k = 4) := h1
    clear h1
    by_cases hlt : i < ks.length
    · obtain ⟨k, hk⟩ : ∃ k, ks[i]? = some k := ⟨_, List.getElem?_eq_getElem hlt⟩
      obtain ⟨g, off, rfl, hg, hc⟩ := HK1.out (by intro hh; subst hh; simp at hlt)
      have ck := hc i k hk
      have i0 : (0 : Int) ≤ (i : Int) := by omega
      have i1 : (i : Int) < (ks.length : Int) := by omega
      have HLT : Hid (i < ks.length) := hlt
      have HKK : Hid (ks[i]? = some k) := hk
      by_cases h2 : k = 2
      · subst h2
        clear hc hk hlt hi
        as_aux_lemma =>
          go_wp2_with fail
          go_roundw
          case rel =>
            refine ⟨i + 1, HLT.out, by go_num, fun j k hj hk => ?_, trivial⟩
            rcases Nat.lt_or_ge j i with h | h
            · exact HI.out j k h hk
            · obtain rfl : j = i := by omega
              rw [HKK.out] at hk; cases hk; exact .inl rfl
          case measure => have := HLT.out; simp [intOf]; omega
      · have g2 : ((k : Int) != 2) = true := by simpa using (by omega : ¬ (k : Int) = 2)
        by_cases h4 : k = 4
        · subst h4
          clear hc hk hlt hi h2
          as_aux_lemma =>
            go_wp2_with fail
            go_roundw
            case rel =>
              refine ⟨i + 1, HLT.out, by go_num, fun j k hj hk => ?_, trivial⟩
              rcases Nat.lt_or_ge j i with h | h
              · exact HI.out j k h hk
              · obtain rfl : j = i := by omega
                rw [HKK.out] at hk; cases hk; exact .inr rfl
            case measure => have := HLT.out; simp [intOf]; omega
        · have g4 : ((k : Int) != 4) = true := by simpa using (by omega : ¬ (k : Int) = 4)
          have HR : Hid (fileR ks = false) := fileR_no hk h2 h4
          clear hc hk hlt hi h2 h4
          as_aux_lemma =>
            go_wp2_with fail
            go_ret
            exact ⟨by first | exact HR.out | exact HR.out.symm | (simp [HR.out]; done), belA (Below.refl _ _)⟩
    · obtain rfl : i = ks.length := by omega
      have lt : ¬ (ks.length : Int) < (ks.length : Int) := by omega
      have HR : Hid (fileR ks = true) := fileR_yes HI.out
      clear hlt hi
      go_wp2_with fail
      go_ret
      exact ⟨by first | exact HR.out | exact HR.out.symm | (simp [HR.out]; done), belA (Below.refl _ _)⟩
set_option maxRecDepth 100000 in
set_option maxHeartbeats 2000000 in
theorem rc_16b (p n : Int) (s : List UInt8) (a0 : Option Addr) (m0 cap0 : Nat) (ks : List Nat) (a : Option Addr) (cap : Nat) (w : World) (hK : KRow w a ks) (h3 : ks.length ≤ 20000) (hk : ∀ i d : Nat, ks[i]? = some d → d ≤ 255) (h1 : ¬ n = 0) (t1 : turn ks [kExprR, kIs 13, kIs 13] = false) :
    Calls Try.prog 64 #[ndV ⟨16, p, n, s⟩ a0 m0 cap0, .slice a ks.length cap] w fun e w' => e = .returned (.bool (turn ks [kExprR, kIs 13, kIs 16])) ∧ Below w.heap.size w w' := by
  have hB : ∀ o, Below w.heap.size w (w.alloc o) := fun o => belA (Below.refl _ _)
  have A1 := At.new w (Ndo ⟨16, p, n, s⟩ a0 m0 cap0)
  obtain ⟨c0, c1, c2, c3, c4, cf⟩ := A1.nd
  have hK1 := hK.below (hB (Ndo ⟨16, p, n, s⟩ a0 m0 cap0))
  have hK2 := hK1.below (belA (o := .cells #[.int .i64 2, .int .i64 113, .int .i64 113] 3) (Below.refl _ _))
  have J1 := just_3 ks a cap (w.alloc (Ndo ⟨16, p, n, s⟩ a0 m0 cap0)) _ (by rfl) _ _ _ _ _ _ hK1 h3 hk .ex cs113 cs113 3
  rw [t1] at J1
  have J2 := just_3 ks a cap ((w.alloc (Ndo ⟨16, p, n, s⟩ a0 m0 cap0)).alloc (.cells #[.int .i64 2, .int .i64 113, .int .i64 113] 3)) _ (by rfl) _ _ _ _ _ _ hK2 h3 hk .ex cs113 cs116 3
  simp only [World.size_alloc] at J1 J2
  have HJ2 := hidE J2
  have HJ3 := hidE J1
  have g1 : (n == 0) = false := by simpa using h1
  clear A1 hK hK1 hK2 J1 J2 hk h1
  have st1 : Stg' 1 := .mk 1
  go_enter Try.func64, Try.ntmps64
  go_wp2_with (first | (go_at_call 76; refine (rkindI_any _ (by omega) (by omega) _).mono ?_; rintro e w1 ⟨rfl, hw1⟩; replace hw1 := hw1.symm; subst hw1) | (have _s := st1; clear st1 _s; go_at_call 77; go_loud (refine HJ3.out.mono ?_; rintro e w1 ⟨rfl, hw1⟩; replace hw1 := hw1.symm; subst hw1; have st2 : Stg' 2 := .mk 2)) | (have _s := st2; clear st2 _s; go_at_call 77; go_loud (refine HJ2.out.mono ?_; rintro e w2 ⟨rfl, hw2⟩; replace hw2 := hw2.symm; subst hw2)))
  go_ret
  exact ⟨rfl, belA (belA (hB _))⟩
end Go.Proofs.Ytkidcmglidnaoaa
namespace Go.Proofs.Ytkidcmglidnaoaa
open Go.RowKit Go.Shelf
set_option linter.unusedVariables false
set_option linter.unusedSimpArgs false
set_option maxRecDepth 100000 in
set_option maxHeartbeats 1000000 in
theorem rc_16 (p n : Int) (s : List UInt8) (a0 : Option Addr) (m0 cap0 : Nat) (ks : List Nat) (a : Option Addr) (cap : Nat) (w : World) (hK : KRow w a ks) (h3 : ks.length ≤ 20000) (hk : ∀ i d : Nat, ks[i]? = some d → d ≤ 255) :
    Calls Try.prog 64 #[ndV ⟨16, p, n, s⟩ a0 m0 cap0, .slice a ks.length cap] w fun e w' => e = .returned (.bool (ifR n ks)) ∧ Below w.heap.size w w' := by
  have hB : ∀ o, Below w.heap.size w (w.alloc o) := fun o => belA (Below.refl _ _)
  have A1 := At.new w (Ndo ⟨16, p, n, s⟩ a0 m0 cap0)
  obtain ⟨c0, c1, c2, c3, c4, cf⟩ := A1.nd
  clear A1
  have hK1 := hK.below (hB (Ndo ⟨16, p, n, s⟩ a0 m0 cap0))
  by_cases h1 : n = 0
  · subst h1
    rw [show ifR 0 ks = turn ks [kExprR, kIs 13] from rfl]
    go_enter Try.func64, Try.ntmps64
    go_wp2_with (first | (go_at_call 76; refine (rkindI_any _ (by omega) (by omega) _).mono ?_; rintro e w1 ⟨rfl, hw1⟩; replace hw1 := hw1.symm; subst hw1) | (go_at_call 77; refine (just_2 ks a cap (w.alloc (Ndo ⟨16, p, 0, s⟩ a0 m0 cap0)) _ (by simp) _ _ _ _ hK1 h3 hk .ex cs113 _).mono ?_; rintro e w1 ⟨rfl, rfl⟩))
    go_ret
    exact ⟨rfl, belA (hB _)⟩
  · have g1 : (n == 0) = false := by simpa using h1
    rw [show ifR n ks = (turn ks [kExprR, kIs 13, kIs 13] || turn ks [kExprR, kIs 13, kIs 16]) by unfold ifR; rw [if_neg h1]]
    cases t1 : turn ks [kExprR, kIs 13, kIs 13] with
    | true =>
      go_enter Try.func64, Try.ntmps64
      go_wp2_with (first | (go_at_call 76; refine (rkindI_any _ (by omega) (by omega) _).mono ?_; rintro e w1 ⟨rfl, hw1⟩; replace hw1 := hw1.symm; subst hw1) | (go_at_call 77; refine (just_3 ks a cap (w.alloc (Ndo ⟨16, p, n, s⟩ a0 m0 cap0)) _ (by simp) _ _ _ _ _ _ hK1 h3 hk .ex cs113 cs113 _).mono ?_; rintro e w1 ⟨rfl, rfl⟩))
      go_ret
      exact ⟨rfl, belA (hB _)⟩
    | false =>
      rw [Bool.false_or]
      exact rc_16b p n s a0 m0 cap0 ks a cap w hK h3 hk h1 t1
theorem fileR_item (ks : List Nat) : fileR ks = ks.all kItem := by
  unfold fileR
  congr 1
  funext k
  unfold kItem
  rw [Bool.eq_iff_iff]
  simp
/-- What a node's children are asked, whatever its kind. -/
theorem children_any (k : Nat) (p n : Int) (s : List UInt8) (a0 : Option Addr) (m0 cap0 : Nat) (ks : List Nat) (a : Option Addr) (cap : Nat) (w : World) (hK : KRow w a ks) (h3 : ks.length ≤ 20000) (hk : ∀ i d : Nat, ks[i]? = some d → d ≤ 255) (h4 : k = 4 → 0 ≤ n ∧ n ≤ 8) :
    Calls Try.prog 64 #[ndV ⟨k, p, n, s⟩ a0 m0 cap0, .slice a ks.length cap] w fun e w' => e = .returned (.bool (rcB k n ks)) ∧ Below w.heap.size w w' := by
  by_cases x1 : k = 1
  · subst x1; rw [show rcB 1 n ks = fileR ks from (fileR_item ks).symm]; exact rc_1 p n s a0 m0 cap0 ks a cap w hK h3 hk
  by_cases x2 : k = 2
  · subst x2; exact rc_2 p n s a0 m0 cap0 ks a cap w hK h3 hk
  by_cases x3 : k = 3
  · subst x3; exact rc_3 p n s a0 m0 cap0 ks a cap w hK h3 hk
  by_cases x7 : k = 7
  · subst x7; exact rc_7 p n s a0 m0 cap0 ks a cap w hK h3 hk
  by_cases x10 : k = 10
  · subst x10; exact rc_10 p n s a0 m0 cap0 ks a cap w hK h3 hk
  by_cases x11 : k = 11
  · subst x11; exact rc_11 p n s a0 m0 cap0 ks a cap w hK h3 hk
  by_cases x4 : k = 4
  · subst x4; exact rc_4 p n s a0 m0 cap0 ks a cap w hK h3 hk (h4 rfl).1 (h4 rfl).2
  by_cases x5 : k = 5
  · subst x5; exact rc_5 p n s a0 m0 cap0 ks a cap w hK h3 hk
  by_cases x13 : k = 13
  · subst x13; exact rc_13 p n s a0 m0 cap0 ks a cap w hK h3 hk
  by_cases x14 : k = 14
  · subst x14; exact rc_14 p n s a0 m0 cap0 ks a cap w hK h3 hk
  by_cases x15 : k = 15
  · subst x15; exact rc_15 p n s a0 m0 cap0 ks a cap w hK h3 hk
  by_cases x32 : k = 32
  · subst x32; exact rc_32 p n s a0 m0 cap0 ks a cap w hK h3 hk
  by_cases x16 : k = 16
  · subst x16; exact rc_16 p n s a0 m0 cap0 ks a cap w hK h3 hk
  by_cases x17 : k = 17
  · subst x17; exact rc_17 p n s a0 m0 cap0 ks a cap w hK h3 hk
  by_cases x18 : k = 18
  · subst x18; exact rc_18 p n s a0 m0 cap0 ks a cap w hK h3 hk
  by_cases x21 : k = 21
  · subst x21; exact rc_21 p n s a0 m0 cap0 ks a cap w hK h3 hk
  by_cases x22 : k = 22
  · subst x22; exact rc_22 p n s a0 m0 cap0 ks a cap w hK h3 hk
  by_cases x27 : k = 27
  · subst x27; exact rc_27 p n s a0 m0 cap0 ks a cap w hK h3 hk
  by_cases x28 : k = 28
  · subst x28; exact rc_28 p n s a0 m0 cap0 ks a cap w hK h3 hk
  by_cases x29 : k = 29
  · subst x29; exact rc_29 p n s a0 m0 cap0 ks a cap w hK h3 hk
  by_cases x30 : k = 30
  · subst x30; exact rc_30 p n s a0 m0 cap0 ks a cap w hK h3 hk
  by_cases x31 : k = 31
  · subst x31; exact rc_31 p n s a0 m0 cap0 ks a cap w hK h3 hk
  by_cases x35 : k = 35
  · subst x35; exact rc_35 p n s a0 m0 cap0 ks a cap w hK h3 hk
  by_cases x36 : k = 36
  · subst x36; exact rc_36 p n s a0 m0 cap0 ks a cap w hK h3 hk
  by_cases x23 : k = 23
  · subst x23; exact rc_23 p n s a0 m0 cap0 ks a cap w hK h3 hk
  by_cases x33 : k = 33
  · subst x33; exact rc_33 p n s a0 m0 cap0 ks a cap w hK h3 hk
  by_cases x34 : k = 34
  · subst x34; exact rc_34 p n s a0 m0 cap0 ks a cap w hK h3 hk
  have H := rc_other k x1 x2 x3 x7 x10 x11 x4 x5 x13 x14 x15 x32 x16 x17 x18 x21 x22 x27 x28 x29 x30 x31 x35 x36 x23 x33 x34 p n s a0 m0 cap0 ks a cap w hK h3 hk
  rw [show rcB k n ks = decide (ks.length = 0) by unfold rcB; simp only [if_neg x1, if_neg x2, if_neg x4, if_neg x5, if_neg x13, if_neg x14, if_neg x16, if_neg x17, if_neg x18, if_neg x23, if_neg x33, if_neg x34, x3, x7, x10, x11, x15, x32, x21, x22, x27, x28, x29, x30, x31, x35, x36, or_self, if_false]]
  exact H
end Go.Proofs.Ytkidcmglidnaoaa
