import Derived.Test.YtkidcmglidnaoaaMD
import Derived.Test.YtkidcmglidnaoaaQ
import Derived.BigQuiet
namespace Go.Proofs.Ytkidcmglidnaoaa
open Go.RowKit
set_option linter.unusedVariables false
set_option linter.unusedSimpArgs false

/-- What the reference asks of a node's fields. -/
def fdB (x : Nx) : Bool := txB x.k x.s && nuB x.k x.n && decide (0 ≤ x.p) && decide (1 ≤ x.k ∧ x.k ≤ 37)
theorem fd_s {k : Nat} {p n : Int} {s : List UInt8} (h : txB k s = false) : fdB ⟨k, p, n, s⟩ = false := by simp [fdB, h]
theorem fd_n {k : Nat} {p n : Int} {s : List UInt8} (h : nuB k n = false) : fdB ⟨k, p, n, s⟩ = false := by simp [fdB, h]
theorem fd_p {k : Nat} {p n : Int} {s : List UInt8} (h : ¬ 0 ≤ p) : fdB ⟨k, p, n, s⟩ = false := by simp [fdB, h]
theorem fd_k {k : Nat} {p n : Int} {s : List UInt8} (h : ¬ (1 ≤ k ∧ k ≤ 37)) : fdB ⟨k, p, n, s⟩ = false := by
  have h' : decide (1 ≤ k ∧ k ≤ 37) = false := decide_eq_false h
  simp only [fdB, h', Bool.and_false]
theorem fd_y {k : Nat} {p n : Int} {s : List UInt8} (h1 : txB k s = true) (h2 : nuB k n = true) (h3 : 0 ≤ p) (h4 : 1 ≤ k ∧ k ≤ 37) : fdB ⟨k, p, n, s⟩ = true := by
  have h4' : decide (1 ≤ k ∧ k ≤ 37) = true := decide_eq_true h4
  simp only [fdB, h1, h2, decide_eq_true h3, h4', Bool.and_true]
set_option maxRecDepth 100000 in
set_option maxHeartbeats 4000000 in
theorem fd_2 (p n : Int) (s : List UInt8) (a : Option Addr) (m cap : Nat) (w : World) (hs : s.length ≤ maxLen) :
    Calls Try.prog 63 #[ndV ⟨2, p, n, s⟩ a m cap] w fun e w' => e = .returned (.bool (fdB ⟨2, p, n, s⟩)) ∧ Below w.heap.size w w' := by
  have hB : ∀ o, Below w.heap.size w (w.alloc o) := fun o => belA (Below.refl _ _)
  have A1 := At.new w (Ndo ⟨2, p, n, s⟩ a m cap)
  obtain ⟨c0, c1, c2, c3, c4, cf⟩ := A1.nd
  clear A1
  obtain ⟨r, hr⟩ : ∃ r, r = fdB ⟨2, p, n, s⟩ := ⟨_, rfl⟩
  rw [← hr]
  have HR : Hid (r = fdB ⟨2, p, n, s⟩) := hr
  clear hr
  cases t1 : (tnB s && !isBx (str s)) with
  | true =>
    by_cases h1 : n = 0
    · have g1 : (n == 0) = true := by simpa using h1
      by_cases h3 : 0 ≤ p
      · have g3 : decide (0 ≤ p) = true := decide_eq_true h3
        have hr : r = true := by rw [HR.out]; exact fd_y (by first | exact t1 | (simp only [txB]; simp_all [nmS, tnS, emS])) (by first | (simp_all [nuB]; done) | (simp_all [nuB]; omega)) h3 (by omega)
        subst hr
        clear HR
        go_enter Try.func63, Try.ntmps63
        go_wp2
        go_quiet (fail)
        go_wp2_with (first
          | (go_at_call 31; refine (rname_any s _ hs).mono ?_; rintro e w1 ⟨rfl, hw1⟩; replace hw1 := hw1.symm; subst hw1)
          | (go_at_call 33; refine (rtypeName_any s _ hs).mono ?_; rintro e w1 ⟨rfl, hw1⟩; replace hw1 := hw1.symm; subst hw1)
          | (go_at_call 74; refine (rsign_any (str s) _).mono ?_; rintro e w1 ⟨rfl, hw1⟩; replace hw1 := hw1.symm; subst hw1))
        go_ret
        exact ⟨rfl, below_drewN (hB _) _⟩
      · have g3 : decide (0 ≤ p) = false := decide_eq_false h3
        have hr : r = false := by rw [HR.out]; exact fd_p h3
        subst hr
        clear HR
        go_enter Try.func63, Try.ntmps63
        go_wp2
        go_quiet (fail)
        go_wp2_with (first
          | (go_at_call 31; refine (rname_any s _ hs).mono ?_; rintro e w1 ⟨rfl, hw1⟩; replace hw1 := hw1.symm; subst hw1)
          | (go_at_call 33; refine (rtypeName_any s _ hs).mono ?_; rintro e w1 ⟨rfl, hw1⟩; replace hw1 := hw1.symm; subst hw1)
          | (go_at_call 74; refine (rsign_any (str s) _).mono ?_; rintro e w1 ⟨rfl, hw1⟩; replace hw1 := hw1.symm; subst hw1))
        go_ret
        exact ⟨rfl, below_drewN (hB _) _⟩
    · have g1 : (n == 0) = false := by simpa using h1
      have hr : r = false := by rw [HR.out]; exact fd_n (by first | (simp_all [nuB]; done) | (simp_all [nuB]; omega))
      subst hr
      clear HR
      go_enter Try.func63, Try.ntmps63
      go_wp2
      go_quiet (fail)
      go_wp2_with (first
        | (go_at_call 31; refine (rname_any s _ hs).mono ?_; rintro e w1 ⟨rfl, hw1⟩; replace hw1 := hw1.symm; subst hw1)
        | (go_at_call 33; refine (rtypeName_any s _ hs).mono ?_; rintro e w1 ⟨rfl, hw1⟩; replace hw1 := hw1.symm; subst hw1)
        | (go_at_call 74; refine (rsign_any (str s) _).mono ?_; rintro e w1 ⟨rfl, hw1⟩; replace hw1 := hw1.symm; subst hw1))
      go_ret
      exact ⟨rfl, below_drewN (hB _) _⟩
  | false =>
    have hr : r = false := by rw [HR.out]; exact fd_s (by first | exact t1 | (simp only [txB]; simp_all [nmS, tnS, emS]))
    subst hr
    clear HR
    go_enter Try.func63, Try.ntmps63
    go_wp2
    go_quiet (fail)
    go_wp2_with (first
      | (go_at_call 31; refine (rname_any s _ hs).mono ?_; rintro e w1 ⟨rfl, hw1⟩; replace hw1 := hw1.symm; subst hw1)
      | (go_at_call 33; refine (rtypeName_any s _ hs).mono ?_; rintro e w1 ⟨rfl, hw1⟩; replace hw1 := hw1.symm; subst hw1)
      | (go_at_call 74; refine (rsign_any (str s) _).mono ?_; rintro e w1 ⟨rfl, hw1⟩; replace hw1 := hw1.symm; subst hw1))
    go_ret
    exact ⟨rfl, below_drewN (hB _) _⟩
set_option maxRecDepth 100000 in
set_option maxHeartbeats 4000000 in
theorem fd_3 (p n : Int) (s : List UInt8) (a : Option Addr) (m cap : Nat) (w : World) (hs : s.length ≤ maxLen) :
    Calls Try.prog 63 #[ndV ⟨3, p, n, s⟩ a m cap] w fun e w' => e = .returned (.bool (fdB ⟨3, p, n, s⟩)) ∧ Below w.heap.size w w' := by
  have hB : ∀ o, Below w.heap.size w (w.alloc o) := fun o => belA (Below.refl _ _)
  have A1 := At.new w (Ndo ⟨3, p, n, s⟩ a m cap)
  obtain ⟨c0, c1, c2, c3, c4, cf⟩ := A1.nd
  clear A1
  obtain ⟨r, hr⟩ : ∃ r, r = fdB ⟨3, p, n, s⟩ := ⟨_, rfl⟩
  rw [← hr]
  have HR : Hid (r = fdB ⟨3, p, n, s⟩) := hr
  clear hr
  cases t1 : (nmB s && !isK (str s)) with
  | true =>
    by_cases h1 : n = 0
    · have g1 : (n == 0) = true := by simpa using h1
      by_cases h3 : 0 ≤ p
      · have g3 : decide (0 ≤ p) = true := decide_eq_true h3
        have hr : r = true := by rw [HR.out]; exact fd_y (by first | exact t1 | (simp only [txB]; simp_all [nmS, tnS, emS])) (by first | (simp_all [nuB]; done) | (simp_all [nuB]; omega)) h3 (by omega)
        subst hr
        clear HR
        go_enter Try.func63, Try.ntmps63
        go_wp2
        go_quiet (fail)
        go_wp2_with (first
          | (go_at_call 31; refine (rname_any s _ hs).mono ?_; rintro e w1 ⟨rfl, hw1⟩; replace hw1 := hw1.symm; subst hw1)
          | (go_at_call 33; refine (rtypeName_any s _ hs).mono ?_; rintro e w1 ⟨rfl, hw1⟩; replace hw1 := hw1.symm; subst hw1)
          | (go_at_call 74; refine (rsign_any (str s) _).mono ?_; rintro e w1 ⟨rfl, hw1⟩; replace hw1 := hw1.symm; subst hw1))
        go_ret
        exact ⟨rfl, below_drewN (hB _) _⟩
      · have g3 : decide (0 ≤ p) = false := decide_eq_false h3
        have hr : r = false := by rw [HR.out]; exact fd_p h3
        subst hr
        clear HR
        go_enter Try.func63, Try.ntmps63
        go_wp2
        go_quiet (fail)
        go_wp2_with (first
          | (go_at_call 31; refine (rname_any s _ hs).mono ?_; rintro e w1 ⟨rfl, hw1⟩; replace hw1 := hw1.symm; subst hw1)
          | (go_at_call 33; refine (rtypeName_any s _ hs).mono ?_; rintro e w1 ⟨rfl, hw1⟩; replace hw1 := hw1.symm; subst hw1)
          | (go_at_call 74; refine (rsign_any (str s) _).mono ?_; rintro e w1 ⟨rfl, hw1⟩; replace hw1 := hw1.symm; subst hw1))
        go_ret
        exact ⟨rfl, below_drewN (hB _) _⟩
    · have g1 : (n == 0) = false := by simpa using h1
      have hr : r = false := by rw [HR.out]; exact fd_n (by first | (simp_all [nuB]; done) | (simp_all [nuB]; omega))
      subst hr
      clear HR
      go_enter Try.func63, Try.ntmps63
      go_wp2
      go_quiet (fail)
      go_wp2_with (first
        | (go_at_call 31; refine (rname_any s _ hs).mono ?_; rintro e w1 ⟨rfl, hw1⟩; replace hw1 := hw1.symm; subst hw1)
        | (go_at_call 33; refine (rtypeName_any s _ hs).mono ?_; rintro e w1 ⟨rfl, hw1⟩; replace hw1 := hw1.symm; subst hw1)
        | (go_at_call 74; refine (rsign_any (str s) _).mono ?_; rintro e w1 ⟨rfl, hw1⟩; replace hw1 := hw1.symm; subst hw1))
      go_ret
      exact ⟨rfl, below_drewN (hB _) _⟩
  | false =>
    have hr : r = false := by rw [HR.out]; exact fd_s (by first | exact t1 | (simp only [txB]; simp_all [nmS, tnS, emS]))
    subst hr
    clear HR
    go_enter Try.func63, Try.ntmps63
    go_wp2
    go_quiet (fail)
    go_wp2_with (first
      | (go_at_call 31; refine (rname_any s _ hs).mono ?_; rintro e w1 ⟨rfl, hw1⟩; replace hw1 := hw1.symm; subst hw1)
      | (go_at_call 33; refine (rtypeName_any s _ hs).mono ?_; rintro e w1 ⟨rfl, hw1⟩; replace hw1 := hw1.symm; subst hw1)
      | (go_at_call 74; refine (rsign_any (str s) _).mono ?_; rintro e w1 ⟨rfl, hw1⟩; replace hw1 := hw1.symm; subst hw1))
    go_ret
    exact ⟨rfl, below_drewN (hB _) _⟩
set_option maxRecDepth 100000 in
set_option maxHeartbeats 4000000 in
theorem fd_4 (p n : Int) (s : List UInt8) (a : Option Addr) (m cap : Nat) (w : World) (hs : s.length ≤ maxLen) :
    Calls Try.prog 63 #[ndV ⟨4, p, n, s⟩ a m cap] w fun e w' => e = .returned (.bool (fdB ⟨4, p, n, s⟩)) ∧ Below w.heap.size w w' := by
  have hB : ∀ o, Below w.heap.size w (w.alloc o) := fun o => belA (Below.refl _ _)
  have A1 := At.new w (Ndo ⟨4, p, n, s⟩ a m cap)
  obtain ⟨c0, c1, c2, c3, c4, cf⟩ := A1.nd
  clear A1
  obtain ⟨r, hr⟩ : ∃ r, r = fdB ⟨4, p, n, s⟩ := ⟨_, rfl⟩
  rw [← hr]
  have HR : Hid (r = fdB ⟨4, p, n, s⟩) := hr
  clear hr
  cases t1 : (nmB s && !isK (str s)) with
  | true =>
    by_cases h1 : 0 ≤ n
    · have g1 : decide (0 ≤ n) = true := decide_eq_true h1
      by_cases h2 : n ≤ 8
      · have g2 : decide (n ≤ 8) = true := decide_eq_true h2
        by_cases h3 : 0 ≤ p
        · have g3 : decide (0 ≤ p) = true := decide_eq_true h3
          have hr : r = true := by rw [HR.out]; exact fd_y (by first | exact t1 | (simp only [txB]; simp_all [nmS, tnS, emS])) (by first | (simp_all [nuB]; done) | (simp_all [nuB]; omega)) h3 (by omega)
          subst hr
          clear HR
          go_enter Try.func63, Try.ntmps63
          go_wp2
          go_quiet (fail)
          go_wp2_with (first
            | (go_at_call 31; refine (rname_any s _ hs).mono ?_; rintro e w1 ⟨rfl, hw1⟩; replace hw1 := hw1.symm; subst hw1)
            | (go_at_call 33; refine (rtypeName_any s _ hs).mono ?_; rintro e w1 ⟨rfl, hw1⟩; replace hw1 := hw1.symm; subst hw1)
            | (go_at_call 74; refine (rsign_any (str s) _).mono ?_; rintro e w1 ⟨rfl, hw1⟩; replace hw1 := hw1.symm; subst hw1))
          go_ret
          exact ⟨rfl, below_drewN (hB _) _⟩
        · have g3 : decide (0 ≤ p) = false := decide_eq_false h3
          have hr : r = false := by rw [HR.out]; exact fd_p h3
          subst hr
          clear HR
          go_enter Try.func63, Try.ntmps63
          go_wp2
          go_quiet (fail)
          go_wp2_with (first
            | (go_at_call 31; refine (rname_any s _ hs).mono ?_; rintro e w1 ⟨rfl, hw1⟩; replace hw1 := hw1.symm; subst hw1)
            | (go_at_call 33; refine (rtypeName_any s _ hs).mono ?_; rintro e w1 ⟨rfl, hw1⟩; replace hw1 := hw1.symm; subst hw1)
            | (go_at_call 74; refine (rsign_any (str s) _).mono ?_; rintro e w1 ⟨rfl, hw1⟩; replace hw1 := hw1.symm; subst hw1))
          go_ret
          exact ⟨rfl, below_drewN (hB _) _⟩
      · have g2 : decide (n ≤ 8) = false := decide_eq_false h2
        have hr : r = false := by rw [HR.out]; exact fd_n (by first | (simp_all [nuB]; done) | (simp_all [nuB]; omega))
        subst hr
        clear HR
        go_enter Try.func63, Try.ntmps63
        go_wp2
        go_quiet (fail)
        go_wp2_with (first
          | (go_at_call 31; refine (rname_any s _ hs).mono ?_; rintro e w1 ⟨rfl, hw1⟩; replace hw1 := hw1.symm; subst hw1)
          | (go_at_call 33; refine (rtypeName_any s _ hs).mono ?_; rintro e w1 ⟨rfl, hw1⟩; replace hw1 := hw1.symm; subst hw1)
          | (go_at_call 74; refine (rsign_any (str s) _).mono ?_; rintro e w1 ⟨rfl, hw1⟩; replace hw1 := hw1.symm; subst hw1))
        go_ret
        exact ⟨rfl, below_drewN (hB _) _⟩
    · have g1 : decide (0 ≤ n) = false := decide_eq_false h1
      have hr : r = false := by rw [HR.out]; exact fd_n (by first | (simp_all [nuB]; done) | (simp_all [nuB]; omega))
      subst hr
      clear HR
      go_enter Try.func63, Try.ntmps63
      go_wp2
      go_quiet (fail)
      go_wp2_with (first
        | (go_at_call 31; refine (rname_any s _ hs).mono ?_; rintro e w1 ⟨rfl, hw1⟩; replace hw1 := hw1.symm; subst hw1)
        | (go_at_call 33; refine (rtypeName_any s _ hs).mono ?_; rintro e w1 ⟨rfl, hw1⟩; replace hw1 := hw1.symm; subst hw1)
        | (go_at_call 74; refine (rsign_any (str s) _).mono ?_; rintro e w1 ⟨rfl, hw1⟩; replace hw1 := hw1.symm; subst hw1))
      go_ret
      exact ⟨rfl, below_drewN (hB _) _⟩
  | false =>
    by_cases h1 : 0 ≤ n
    · have g1 : decide (0 ≤ n) = true := decide_eq_true h1
      by_cases h2 : n ≤ 8
      · have g2 : decide (n ≤ 8) = true := decide_eq_true h2
        have hr : r = false := by rw [HR.out]; exact fd_s (by first | exact t1 | (simp only [txB]; simp_all [nmS, tnS, emS]))
        subst hr
        clear HR
        go_enter Try.func63, Try.ntmps63
        go_wp2
        go_quiet (fail)
        go_wp2_with (first
          | (go_at_call 31; refine (rname_any s _ hs).mono ?_; rintro e w1 ⟨rfl, hw1⟩; replace hw1 := hw1.symm; subst hw1)
          | (go_at_call 33; refine (rtypeName_any s _ hs).mono ?_; rintro e w1 ⟨rfl, hw1⟩; replace hw1 := hw1.symm; subst hw1)
          | (go_at_call 74; refine (rsign_any (str s) _).mono ?_; rintro e w1 ⟨rfl, hw1⟩; replace hw1 := hw1.symm; subst hw1))
        go_ret
        exact ⟨rfl, below_drewN (hB _) _⟩
      · have g2 : decide (n ≤ 8) = false := decide_eq_false h2
        have hr : r = false := by rw [HR.out]; exact fd_s (by first | exact t1 | (simp only [txB]; simp_all [nmS, tnS, emS]))
        subst hr
        clear HR
        go_enter Try.func63, Try.ntmps63
        go_wp2
        go_quiet (fail)
        go_wp2_with (first
          | (go_at_call 31; refine (rname_any s _ hs).mono ?_; rintro e w1 ⟨rfl, hw1⟩; replace hw1 := hw1.symm; subst hw1)
          | (go_at_call 33; refine (rtypeName_any s _ hs).mono ?_; rintro e w1 ⟨rfl, hw1⟩; replace hw1 := hw1.symm; subst hw1)
          | (go_at_call 74; refine (rsign_any (str s) _).mono ?_; rintro e w1 ⟨rfl, hw1⟩; replace hw1 := hw1.symm; subst hw1))
        go_ret
        exact ⟨rfl, below_drewN (hB _) _⟩
    · have g1 : decide (0 ≤ n) = false := decide_eq_false h1
      have hr : r = false := by rw [HR.out]; exact fd_s (by first | exact t1 | (simp only [txB]; simp_all [nmS, tnS, emS]))
      subst hr
      clear HR
      go_enter Try.func63, Try.ntmps63
      go_wp2
      go_quiet (fail)
      go_wp2_with (first
        | (go_at_call 31; refine (rname_any s _ hs).mono ?_; rintro e w1 ⟨rfl, hw1⟩; replace hw1 := hw1.symm; subst hw1)
        | (go_at_call 33; refine (rtypeName_any s _ hs).mono ?_; rintro e w1 ⟨rfl, hw1⟩; replace hw1 := hw1.symm; subst hw1)
        | (go_at_call 74; refine (rsign_any (str s) _).mono ?_; rintro e w1 ⟨rfl, hw1⟩; replace hw1 := hw1.symm; subst hw1))
      go_ret
      exact ⟨rfl, below_drewN (hB _) _⟩
set_option maxRecDepth 100000 in
set_option maxHeartbeats 4000000 in
theorem fd_5 (p n : Int) (s : List UInt8) (a : Option Addr) (m cap : Nat) (w : World) (hs : s.length ≤ maxLen) :
    Calls Try.prog 63 #[ndV ⟨5, p, n, s⟩ a m cap] w fun e w' => e = .returned (.bool (fdB ⟨5, p, n, s⟩)) ∧ Below w.heap.size w w' := by
  have hB : ∀ o, Below w.heap.size w (w.alloc o) := fun o => belA (Below.refl _ _)
  have A1 := At.new w (Ndo ⟨5, p, n, s⟩ a m cap)
  obtain ⟨c0, c1, c2, c3, c4, cf⟩ := A1.nd
  clear A1
  obtain ⟨r, hr⟩ : ∃ r, r = fdB ⟨5, p, n, s⟩ := ⟨_, rfl⟩
  rw [← hr]
  have HR : Hid (r = fdB ⟨5, p, n, s⟩) := hr
  clear hr
  cases t1 : (nmB s && !isK (str s)) with
  | true =>
    by_cases h1 : n = 0
    · have g1 : (n == 0) = true := by simpa using h1
      by_cases h3 : 0 ≤ p
      · have g3 : decide (0 ≤ p) = true := decide_eq_true h3
        have hr : r = true := by rw [HR.out]; exact fd_y (by first | exact t1 | (simp only [txB]; simp_all [nmS, tnS, emS])) (by first | (simp_all [nuB]; done) | (simp_all [nuB]; omega)) h3 (by omega)
        subst hr
        clear HR
        go_enter Try.func63, Try.ntmps63
        go_wp2
        go_quiet (fail)
        go_wp2_with (first
          | (go_at_call 31; refine (rname_any s _ hs).mono ?_; rintro e w1 ⟨rfl, hw1⟩; replace hw1 := hw1.symm; subst hw1)
          | (go_at_call 33; refine (rtypeName_any s _ hs).mono ?_; rintro e w1 ⟨rfl, hw1⟩; replace hw1 := hw1.symm; subst hw1)
          | (go_at_call 74; refine (rsign_any (str s) _).mono ?_; rintro e w1 ⟨rfl, hw1⟩; replace hw1 := hw1.symm; subst hw1))
        go_ret
        exact ⟨rfl, below_drewN (hB _) _⟩
      · have g3 : decide (0 ≤ p) = false := decide_eq_false h3
        have hr : r = false := by rw [HR.out]; exact fd_p h3
        subst hr
        clear HR
        go_enter Try.func63, Try.ntmps63
        go_wp2
        go_quiet (fail)
        go_wp2_with (first
          | (go_at_call 31; refine (rname_any s _ hs).mono ?_; rintro e w1 ⟨rfl, hw1⟩; replace hw1 := hw1.symm; subst hw1)
          | (go_at_call 33; refine (rtypeName_any s _ hs).mono ?_; rintro e w1 ⟨rfl, hw1⟩; replace hw1 := hw1.symm; subst hw1)
          | (go_at_call 74; refine (rsign_any (str s) _).mono ?_; rintro e w1 ⟨rfl, hw1⟩; replace hw1 := hw1.symm; subst hw1))
        go_ret
        exact ⟨rfl, below_drewN (hB _) _⟩
    · have g1 : (n == 0) = false := by simpa using h1
      have hr : r = false := by rw [HR.out]; exact fd_n (by first | (simp_all [nuB]; done) | (simp_all [nuB]; omega))
      subst hr
      clear HR
      go_enter Try.func63, Try.ntmps63
      go_wp2
      go_quiet (fail)
      go_wp2_with (first
        | (go_at_call 31; refine (rname_any s _ hs).mono ?_; rintro e w1 ⟨rfl, hw1⟩; replace hw1 := hw1.symm; subst hw1)
        | (go_at_call 33; refine (rtypeName_any s _ hs).mono ?_; rintro e w1 ⟨rfl, hw1⟩; replace hw1 := hw1.symm; subst hw1)
        | (go_at_call 74; refine (rsign_any (str s) _).mono ?_; rintro e w1 ⟨rfl, hw1⟩; replace hw1 := hw1.symm; subst hw1))
      go_ret
      exact ⟨rfl, below_drewN (hB _) _⟩
  | false =>
    have hr : r = false := by rw [HR.out]; exact fd_s (by first | exact t1 | (simp only [txB]; simp_all [nmS, tnS, emS]))
    subst hr
    clear HR
    go_enter Try.func63, Try.ntmps63
    go_wp2
    go_quiet (fail)
    go_wp2_with (first
      | (go_at_call 31; refine (rname_any s _ hs).mono ?_; rintro e w1 ⟨rfl, hw1⟩; replace hw1 := hw1.symm; subst hw1)
      | (go_at_call 33; refine (rtypeName_any s _ hs).mono ?_; rintro e w1 ⟨rfl, hw1⟩; replace hw1 := hw1.symm; subst hw1)
      | (go_at_call 74; refine (rsign_any (str s) _).mono ?_; rintro e w1 ⟨rfl, hw1⟩; replace hw1 := hw1.symm; subst hw1))
    go_ret
    exact ⟨rfl, below_drewN (hB _) _⟩
set_option maxRecDepth 100000 in
set_option maxHeartbeats 4000000 in
theorem fd_6 (p n : Int) (s : List UInt8) (a : Option Addr) (m cap : Nat) (w : World) (hs : s.length ≤ maxLen) :
    Calls Try.prog 63 #[ndV ⟨6, p, n, s⟩ a m cap] w fun e w' => e = .returned (.bool (fdB ⟨6, p, n, s⟩)) ∧ Below w.heap.size w w' := by
  have hB : ∀ o, Below w.heap.size w (w.alloc o) := fun o => belA (Below.refl _ _)
  have A1 := At.new w (Ndo ⟨6, p, n, s⟩ a m cap)
  obtain ⟨c0, c1, c2, c3, c4, cf⟩ := A1.nd
  clear A1
  obtain ⟨r, hr⟩ : ∃ r, r = fdB ⟨6, p, n, s⟩ := ⟨_, rfl⟩
  rw [← hr]
  have HR : Hid (r = fdB ⟨6, p, n, s⟩) := hr
  clear hr
  cases t1 : (nmB s && !isK (str s)) with
  | true =>
    by_cases h1 : n = 0
    · have g1 : (n == 0) = true := by simpa using h1
      by_cases h3 : 0 ≤ p
      · have g3 : decide (0 ≤ p) = true := decide_eq_true h3
        have hr : r = true := by rw [HR.out]; exact fd_y (by first | exact t1 | (simp only [txB]; simp_all [nmS, tnS, emS])) (by first | (simp_all [nuB]; done) | (simp_all [nuB]; omega)) h3 (by omega)
        subst hr
        clear HR
        go_enter Try.func63, Try.ntmps63
        go_wp2
        go_quiet (fail)
        go_wp2_with (first
          | (go_at_call 31; refine (rname_any s _ hs).mono ?_; rintro e w1 ⟨rfl, hw1⟩; replace hw1 := hw1.symm; subst hw1)
          | (go_at_call 33; refine (rtypeName_any s _ hs).mono ?_; rintro e w1 ⟨rfl, hw1⟩; replace hw1 := hw1.symm; subst hw1)
          | (go_at_call 74; refine (rsign_any (str s) _).mono ?_; rintro e w1 ⟨rfl, hw1⟩; replace hw1 := hw1.symm; subst hw1))
        go_ret
        exact ⟨rfl, below_drewN (hB _) _⟩
      · have g3 : decide (0 ≤ p) = false := decide_eq_false h3
        have hr : r = false := by rw [HR.out]; exact fd_p h3
        subst hr
        clear HR
        go_enter Try.func63, Try.ntmps63
        go_wp2
        go_quiet (fail)
        go_wp2_with (first
          | (go_at_call 31; refine (rname_any s _ hs).mono ?_; rintro e w1 ⟨rfl, hw1⟩; replace hw1 := hw1.symm; subst hw1)
          | (go_at_call 33; refine (rtypeName_any s _ hs).mono ?_; rintro e w1 ⟨rfl, hw1⟩; replace hw1 := hw1.symm; subst hw1)
          | (go_at_call 74; refine (rsign_any (str s) _).mono ?_; rintro e w1 ⟨rfl, hw1⟩; replace hw1 := hw1.symm; subst hw1))
        go_ret
        exact ⟨rfl, below_drewN (hB _) _⟩
    · have g1 : (n == 0) = false := by simpa using h1
      have hr : r = false := by rw [HR.out]; exact fd_n (by first | (simp_all [nuB]; done) | (simp_all [nuB]; omega))
      subst hr
      clear HR
      go_enter Try.func63, Try.ntmps63
      go_wp2
      go_quiet (fail)
      go_wp2_with (first
        | (go_at_call 31; refine (rname_any s _ hs).mono ?_; rintro e w1 ⟨rfl, hw1⟩; replace hw1 := hw1.symm; subst hw1)
        | (go_at_call 33; refine (rtypeName_any s _ hs).mono ?_; rintro e w1 ⟨rfl, hw1⟩; replace hw1 := hw1.symm; subst hw1)
        | (go_at_call 74; refine (rsign_any (str s) _).mono ?_; rintro e w1 ⟨rfl, hw1⟩; replace hw1 := hw1.symm; subst hw1))
      go_ret
      exact ⟨rfl, below_drewN (hB _) _⟩
  | false =>
    have hr : r = false := by rw [HR.out]; exact fd_s (by first | exact t1 | (simp only [txB]; simp_all [nmS, tnS, emS]))
    subst hr
    clear HR
    go_enter Try.func63, Try.ntmps63
    go_wp2
    go_quiet (fail)
    go_wp2_with (first
      | (go_at_call 31; refine (rname_any s _ hs).mono ?_; rintro e w1 ⟨rfl, hw1⟩; replace hw1 := hw1.symm; subst hw1)
      | (go_at_call 33; refine (rtypeName_any s _ hs).mono ?_; rintro e w1 ⟨rfl, hw1⟩; replace hw1 := hw1.symm; subst hw1)
      | (go_at_call 74; refine (rsign_any (str s) _).mono ?_; rintro e w1 ⟨rfl, hw1⟩; replace hw1 := hw1.symm; subst hw1))
    go_ret
    exact ⟨rfl, below_drewN (hB _) _⟩
set_option maxRecDepth 100000 in
set_option maxHeartbeats 4000000 in
theorem fd_7 (p n : Int) (s : List UInt8) (a : Option Addr) (m cap : Nat) (w : World) (hs : s.length ≤ maxLen) :
    Calls Try.prog 63 #[ndV ⟨7, p, n, s⟩ a m cap] w fun e w' => e = .returned (.bool (fdB ⟨7, p, n, s⟩)) ∧ Below w.heap.size w w' := by
  have hB : ∀ o, Below w.heap.size w (w.alloc o) := fun o => belA (Below.refl _ _)
  have A1 := At.new w (Ndo ⟨7, p, n, s⟩ a m cap)
  obtain ⟨c0, c1, c2, c3, c4, cf⟩ := A1.nd
  clear A1
  obtain ⟨r, hr⟩ : ∃ r, r = fdB ⟨7, p, n, s⟩ := ⟨_, rfl⟩
  rw [← hr]
  have HR : Hid (r = fdB ⟨7, p, n, s⟩) := hr
  clear hr
  cases t1 : (nmB s && !isK (str s)) with
  | true =>
    by_cases h1 : n = 0
    · have g1 : (n == 0) = true := by simpa using h1
      by_cases h3 : 0 ≤ p
      · have g3 : decide (0 ≤ p) = true := decide_eq_true h3
        have hr : r = true := by rw [HR.out]; exact fd_y (by first | exact t1 | (simp only [txB]; simp_all [nmS, tnS, emS])) (by first | (simp_all [nuB]; done) | (simp_all [nuB]; omega)) h3 (by omega)
        subst hr
        clear HR
        go_enter Try.func63, Try.ntmps63
        go_wp2
        go_quiet (fail)
        go_wp2_with (first
          | (go_at_call 31; refine (rname_any s _ hs).mono ?_; rintro e w1 ⟨rfl, hw1⟩; replace hw1 := hw1.symm; subst hw1)
          | (go_at_call 33; refine (rtypeName_any s _ hs).mono ?_; rintro e w1 ⟨rfl, hw1⟩; replace hw1 := hw1.symm; subst hw1)
          | (go_at_call 74; refine (rsign_any (str s) _).mono ?_; rintro e w1 ⟨rfl, hw1⟩; replace hw1 := hw1.symm; subst hw1))
        go_ret
        exact ⟨rfl, below_drewN (hB _) _⟩
      · have g3 : decide (0 ≤ p) = false := decide_eq_false h3
        have hr : r = false := by rw [HR.out]; exact fd_p h3
        subst hr
        clear HR
        go_enter Try.func63, Try.ntmps63
        go_wp2
        go_quiet (fail)
        go_wp2_with (first
          | (go_at_call 31; refine (rname_any s _ hs).mono ?_; rintro e w1 ⟨rfl, hw1⟩; replace hw1 := hw1.symm; subst hw1)
          | (go_at_call 33; refine (rtypeName_any s _ hs).mono ?_; rintro e w1 ⟨rfl, hw1⟩; replace hw1 := hw1.symm; subst hw1)
          | (go_at_call 74; refine (rsign_any (str s) _).mono ?_; rintro e w1 ⟨rfl, hw1⟩; replace hw1 := hw1.symm; subst hw1))
        go_ret
        exact ⟨rfl, below_drewN (hB _) _⟩
    · have g1 : (n == 0) = false := by simpa using h1
      have hr : r = false := by rw [HR.out]; exact fd_n (by first | (simp_all [nuB]; done) | (simp_all [nuB]; omega))
      subst hr
      clear HR
      go_enter Try.func63, Try.ntmps63
      go_wp2
      go_quiet (fail)
      go_wp2_with (first
        | (go_at_call 31; refine (rname_any s _ hs).mono ?_; rintro e w1 ⟨rfl, hw1⟩; replace hw1 := hw1.symm; subst hw1)
        | (go_at_call 33; refine (rtypeName_any s _ hs).mono ?_; rintro e w1 ⟨rfl, hw1⟩; replace hw1 := hw1.symm; subst hw1)
        | (go_at_call 74; refine (rsign_any (str s) _).mono ?_; rintro e w1 ⟨rfl, hw1⟩; replace hw1 := hw1.symm; subst hw1))
      go_ret
      exact ⟨rfl, below_drewN (hB _) _⟩
  | false =>
    have hr : r = false := by rw [HR.out]; exact fd_s (by first | exact t1 | (simp only [txB]; simp_all [nmS, tnS, emS]))
    subst hr
    clear HR
    go_enter Try.func63, Try.ntmps63
    go_wp2
    go_quiet (fail)
    go_wp2_with (first
      | (go_at_call 31; refine (rname_any s _ hs).mono ?_; rintro e w1 ⟨rfl, hw1⟩; replace hw1 := hw1.symm; subst hw1)
      | (go_at_call 33; refine (rtypeName_any s _ hs).mono ?_; rintro e w1 ⟨rfl, hw1⟩; replace hw1 := hw1.symm; subst hw1)
      | (go_at_call 74; refine (rsign_any (str s) _).mono ?_; rintro e w1 ⟨rfl, hw1⟩; replace hw1 := hw1.symm; subst hw1))
    go_ret
    exact ⟨rfl, below_drewN (hB _) _⟩
set_option maxRecDepth 100000 in
set_option maxHeartbeats 4000000 in
theorem fd_11 (p n : Int) (s : List UInt8) (a : Option Addr) (m cap : Nat) (w : World) (hs : s.length ≤ maxLen) :
    Calls Try.prog 63 #[ndV ⟨11, p, n, s⟩ a m cap] w fun e w' => e = .returned (.bool (fdB ⟨11, p, n, s⟩)) ∧ Below w.heap.size w w' := by
  have hB : ∀ o, Below w.heap.size w (w.alloc o) := fun o => belA (Below.refl _ _)
  have A1 := At.new w (Ndo ⟨11, p, n, s⟩ a m cap)
  obtain ⟨c0, c1, c2, c3, c4, cf⟩ := A1.nd
  clear A1
  obtain ⟨r, hr⟩ : ∃ r, r = fdB ⟨11, p, n, s⟩ := ⟨_, rfl⟩
  rw [← hr]
  have HR : Hid (r = fdB ⟨11, p, n, s⟩) := hr
  clear hr
  cases t1 : (str s).toList.isEmpty with
  | true =>
    by_cases h1 : n = 0
    · have g1 : (n == 0) = true := by simpa using h1
      by_cases h3 : 0 ≤ p
      · have g3 : decide (0 ≤ p) = true := decide_eq_true h3
        have hr : r = true := by rw [HR.out]; exact fd_y (by simp_all [txB, nmS, tnS, emS]) (by first | (simp_all [nuB]; done) | (simp_all [nuB]; omega)) h3 (by omega)
        subst hr
        clear HR
        go_enter Try.func63, Try.ntmps63
        go_wp2
        go_quiet (fail)
        go_wp2_with (first
          | (go_at_call 31; refine (rname_any s _ hs).mono ?_; rintro e w1 ⟨rfl, hw1⟩; replace hw1 := hw1.symm; subst hw1)
          | (go_at_call 33; refine (rtypeName_any s _ hs).mono ?_; rintro e w1 ⟨rfl, hw1⟩; replace hw1 := hw1.symm; subst hw1)
          | (go_at_call 74; refine (rsign_any (str s) _).mono ?_; rintro e w1 ⟨rfl, hw1⟩; replace hw1 := hw1.symm; subst hw1))
        go_ret
        exact ⟨rfl, below_drewN (hB _) _⟩
      · have g3 : decide (0 ≤ p) = false := decide_eq_false h3
        have hr : r = false := by rw [HR.out]; exact fd_p h3
        subst hr
        clear HR
        go_enter Try.func63, Try.ntmps63
        go_wp2
        go_quiet (fail)
        go_wp2_with (first
          | (go_at_call 31; refine (rname_any s _ hs).mono ?_; rintro e w1 ⟨rfl, hw1⟩; replace hw1 := hw1.symm; subst hw1)
          | (go_at_call 33; refine (rtypeName_any s _ hs).mono ?_; rintro e w1 ⟨rfl, hw1⟩; replace hw1 := hw1.symm; subst hw1)
          | (go_at_call 74; refine (rsign_any (str s) _).mono ?_; rintro e w1 ⟨rfl, hw1⟩; replace hw1 := hw1.symm; subst hw1))
        go_ret
        exact ⟨rfl, below_drewN (hB _) _⟩
    · have g1 : (n == 0) = false := by simpa using h1
      by_cases h2 : n = 1
      · have g2 : (n == 1) = true := by simpa using h2
        by_cases h3 : 0 ≤ p
        · have g3 : decide (0 ≤ p) = true := decide_eq_true h3
          have hr : r = true := by rw [HR.out]; exact fd_y (by simp_all [txB, nmS, tnS, emS]) (by first | (simp_all [nuB]; done) | (simp_all [nuB]; omega)) h3 (by omega)
          subst hr
          clear HR
          go_enter Try.func63, Try.ntmps63
          go_wp2
          go_quiet (fail)
          go_wp2_with (first
            | (go_at_call 31; refine (rname_any s _ hs).mono ?_; rintro e w1 ⟨rfl, hw1⟩; replace hw1 := hw1.symm; subst hw1)
            | (go_at_call 33; refine (rtypeName_any s _ hs).mono ?_; rintro e w1 ⟨rfl, hw1⟩; replace hw1 := hw1.symm; subst hw1)
            | (go_at_call 74; refine (rsign_any (str s) _).mono ?_; rintro e w1 ⟨rfl, hw1⟩; replace hw1 := hw1.symm; subst hw1))
          go_ret
          exact ⟨rfl, below_drewN (hB _) _⟩
        · have g3 : decide (0 ≤ p) = false := decide_eq_false h3
          have hr : r = false := by rw [HR.out]; exact fd_p h3
          subst hr
          clear HR
          go_enter Try.func63, Try.ntmps63
          go_wp2
          go_quiet (fail)
          go_wp2_with (first
            | (go_at_call 31; refine (rname_any s _ hs).mono ?_; rintro e w1 ⟨rfl, hw1⟩; replace hw1 := hw1.symm; subst hw1)
            | (go_at_call 33; refine (rtypeName_any s _ hs).mono ?_; rintro e w1 ⟨rfl, hw1⟩; replace hw1 := hw1.symm; subst hw1)
            | (go_at_call 74; refine (rsign_any (str s) _).mono ?_; rintro e w1 ⟨rfl, hw1⟩; replace hw1 := hw1.symm; subst hw1))
          go_ret
          exact ⟨rfl, below_drewN (hB _) _⟩
      · have g2 : (n == 1) = false := by simpa using h2
        have hr : r = false := by rw [HR.out]; exact fd_n (by first | (simp_all [nuB]; done) | (simp_all [nuB]; omega))
        subst hr
        clear HR
        go_enter Try.func63, Try.ntmps63
        go_wp2
        go_quiet (fail)
        go_wp2_with (first
          | (go_at_call 31; refine (rname_any s _ hs).mono ?_; rintro e w1 ⟨rfl, hw1⟩; replace hw1 := hw1.symm; subst hw1)
          | (go_at_call 33; refine (rtypeName_any s _ hs).mono ?_; rintro e w1 ⟨rfl, hw1⟩; replace hw1 := hw1.symm; subst hw1)
          | (go_at_call 74; refine (rsign_any (str s) _).mono ?_; rintro e w1 ⟨rfl, hw1⟩; replace hw1 := hw1.symm; subst hw1))
        go_ret
        exact ⟨rfl, below_drewN (hB _) _⟩
  | false =>
    cases t2 : (nmB s && !isK (str s)) with
    | true =>
      by_cases h1 : n = 0
      · have g1 : (n == 0) = true := by simpa using h1
        by_cases h3 : 0 ≤ p
        · have g3 : decide (0 ≤ p) = true := decide_eq_true h3
          have hr : r = true := by rw [HR.out]; exact fd_y (by simp_all [txB, nmS, tnS, emS]) (by first | (simp_all [nuB]; done) | (simp_all [nuB]; omega)) h3 (by omega)
          subst hr
          clear HR
          go_enter Try.func63, Try.ntmps63
          go_wp2
          go_quiet (fail)
          go_wp2_with (first
            | (go_at_call 31; refine (rname_any s _ hs).mono ?_; rintro e w1 ⟨rfl, hw1⟩; replace hw1 := hw1.symm; subst hw1)
            | (go_at_call 33; refine (rtypeName_any s _ hs).mono ?_; rintro e w1 ⟨rfl, hw1⟩; replace hw1 := hw1.symm; subst hw1)
            | (go_at_call 74; refine (rsign_any (str s) _).mono ?_; rintro e w1 ⟨rfl, hw1⟩; replace hw1 := hw1.symm; subst hw1))
          go_ret
          exact ⟨rfl, below_drewN (hB _) _⟩
        · have g3 : decide (0 ≤ p) = false := decide_eq_false h3
          have hr : r = false := by rw [HR.out]; exact fd_p h3
          subst hr
          clear HR
          go_enter Try.func63, Try.ntmps63
          go_wp2
          go_quiet (fail)
          go_wp2_with (first
            | (go_at_call 31; refine (rname_any s _ hs).mono ?_; rintro e w1 ⟨rfl, hw1⟩; replace hw1 := hw1.symm; subst hw1)
            | (go_at_call 33; refine (rtypeName_any s _ hs).mono ?_; rintro e w1 ⟨rfl, hw1⟩; replace hw1 := hw1.symm; subst hw1)
            | (go_at_call 74; refine (rsign_any (str s) _).mono ?_; rintro e w1 ⟨rfl, hw1⟩; replace hw1 := hw1.symm; subst hw1))
          go_ret
          exact ⟨rfl, below_drewN (hB _) _⟩
      · have g1 : (n == 0) = false := by simpa using h1
        by_cases h2 : n = 1
        · have g2 : (n == 1) = true := by simpa using h2
          by_cases h3 : 0 ≤ p
          · have g3 : decide (0 ≤ p) = true := decide_eq_true h3
            have hr : r = true := by rw [HR.out]; exact fd_y (by simp_all [txB, nmS, tnS, emS]) (by first | (simp_all [nuB]; done) | (simp_all [nuB]; omega)) h3 (by omega)
            subst hr
            clear HR
            go_enter Try.func63, Try.ntmps63
            go_wp2
            go_quiet (fail)
            go_wp2_with (first
              | (go_at_call 31; refine (rname_any s _ hs).mono ?_; rintro e w1 ⟨rfl, hw1⟩; replace hw1 := hw1.symm; subst hw1)
              | (go_at_call 33; refine (rtypeName_any s _ hs).mono ?_; rintro e w1 ⟨rfl, hw1⟩; replace hw1 := hw1.symm; subst hw1)
              | (go_at_call 74; refine (rsign_any (str s) _).mono ?_; rintro e w1 ⟨rfl, hw1⟩; replace hw1 := hw1.symm; subst hw1))
            go_ret
            exact ⟨rfl, below_drewN (hB _) _⟩
          · have g3 : decide (0 ≤ p) = false := decide_eq_false h3
            have hr : r = false := by rw [HR.out]; exact fd_p h3
            subst hr
            clear HR
            go_enter Try.func63, Try.ntmps63
            go_wp2
            go_quiet (fail)
            go_wp2_with (first
              | (go_at_call 31; refine (rname_any s _ hs).mono ?_; rintro e w1 ⟨rfl, hw1⟩; replace hw1 := hw1.symm; subst hw1)
              | (go_at_call 33; refine (rtypeName_any s _ hs).mono ?_; rintro e w1 ⟨rfl, hw1⟩; replace hw1 := hw1.symm; subst hw1)
              | (go_at_call 74; refine (rsign_any (str s) _).mono ?_; rintro e w1 ⟨rfl, hw1⟩; replace hw1 := hw1.symm; subst hw1))
            go_ret
            exact ⟨rfl, below_drewN (hB _) _⟩
        · have g2 : (n == 1) = false := by simpa using h2
          have hr : r = false := by rw [HR.out]; exact fd_n (by first | (simp_all [nuB]; done) | (simp_all [nuB]; omega))
          subst hr
          clear HR
          go_enter Try.func63, Try.ntmps63
          go_wp2
          go_quiet (fail)
          go_wp2_with (first
            | (go_at_call 31; refine (rname_any s _ hs).mono ?_; rintro e w1 ⟨rfl, hw1⟩; replace hw1 := hw1.symm; subst hw1)
            | (go_at_call 33; refine (rtypeName_any s _ hs).mono ?_; rintro e w1 ⟨rfl, hw1⟩; replace hw1 := hw1.symm; subst hw1)
            | (go_at_call 74; refine (rsign_any (str s) _).mono ?_; rintro e w1 ⟨rfl, hw1⟩; replace hw1 := hw1.symm; subst hw1))
          go_ret
          exact ⟨rfl, below_drewN (hB _) _⟩
    | false =>
      by_cases h1 : n = 0
      · have g1 : (n == 0) = true := by simpa using h1
        have hr : r = false := by rw [HR.out]; exact fd_s (by simp_all [txB, nmS, tnS, emS])
        subst hr
        clear HR
        go_enter Try.func63, Try.ntmps63
        go_wp2
        go_quiet (fail)
        go_wp2_with (first
          | (go_at_call 31; refine (rname_any s _ hs).mono ?_; rintro e w1 ⟨rfl, hw1⟩; replace hw1 := hw1.symm; subst hw1)
          | (go_at_call 33; refine (rtypeName_any s _ hs).mono ?_; rintro e w1 ⟨rfl, hw1⟩; replace hw1 := hw1.symm; subst hw1)
          | (go_at_call 74; refine (rsign_any (str s) _).mono ?_; rintro e w1 ⟨rfl, hw1⟩; replace hw1 := hw1.symm; subst hw1))
        go_ret
        exact ⟨rfl, below_drewN (hB _) _⟩
      · have g1 : (n == 0) = false := by simpa using h1
        by_cases h2 : n = 1
        · have g2 : (n == 1) = true := by simpa using h2
          have hr : r = false := by rw [HR.out]; exact fd_s (by simp_all [txB, nmS, tnS, emS])
          subst hr
          clear HR
          go_enter Try.func63, Try.ntmps63
          go_wp2
          go_quiet (fail)
          go_wp2_with (first
            | (go_at_call 31; refine (rname_any s _ hs).mono ?_; rintro e w1 ⟨rfl, hw1⟩; replace hw1 := hw1.symm; subst hw1)
            | (go_at_call 33; refine (rtypeName_any s _ hs).mono ?_; rintro e w1 ⟨rfl, hw1⟩; replace hw1 := hw1.symm; subst hw1)
            | (go_at_call 74; refine (rsign_any (str s) _).mono ?_; rintro e w1 ⟨rfl, hw1⟩; replace hw1 := hw1.symm; subst hw1))
          go_ret
          exact ⟨rfl, below_drewN (hB _) _⟩
        · have g2 : (n == 1) = false := by simpa using h2
          have hr : r = false := by rw [HR.out]; exact fd_s (by simp_all [txB, nmS, tnS, emS])
          subst hr
          clear HR
          go_enter Try.func63, Try.ntmps63
          go_wp2
          go_quiet (fail)
          go_wp2_with (first
            | (go_at_call 31; refine (rname_any s _ hs).mono ?_; rintro e w1 ⟨rfl, hw1⟩; replace hw1 := hw1.symm; subst hw1)
            | (go_at_call 33; refine (rtypeName_any s _ hs).mono ?_; rintro e w1 ⟨rfl, hw1⟩; replace hw1 := hw1.symm; subst hw1)
            | (go_at_call 74; refine (rsign_any (str s) _).mono ?_; rintro e w1 ⟨rfl, hw1⟩; replace hw1 := hw1.symm; subst hw1))
          go_ret
          exact ⟨rfl, below_drewN (hB _) _⟩
set_option maxRecDepth 100000 in
set_option maxHeartbeats 4000000 in
theorem fd_12 (p n : Int) (s : List UInt8) (a : Option Addr) (m cap : Nat) (w : World) (hs : s.length ≤ maxLen) :
    Calls Try.prog 63 #[ndV ⟨12, p, n, s⟩ a m cap] w fun e w' => e = .returned (.bool (fdB ⟨12, p, n, s⟩)) ∧ Below w.heap.size w w' := by
  have hB : ∀ o, Below w.heap.size w (w.alloc o) := fun o => belA (Below.refl _ _)
  have A1 := At.new w (Ndo ⟨12, p, n, s⟩ a m cap)
  obtain ⟨c0, c1, c2, c3, c4, cf⟩ := A1.nd
  clear A1
  obtain ⟨r, hr⟩ : ∃ r, r = fdB ⟨12, p, n, s⟩ := ⟨_, rfl⟩
  rw [← hr]
  have HR : Hid (r = fdB ⟨12, p, n, s⟩) := hr
  clear hr
  cases t1 : (tnB s && !isBx (str s)) with
  | true =>
    by_cases h1 : n = 0
    · have g1 : (n == 0) = true := by simpa using h1
      by_cases h3 : 0 ≤ p
      · have g3 : decide (0 ≤ p) = true := decide_eq_true h3
        have hr : r = true := by rw [HR.out]; exact fd_y (by first | exact t1 | (simp only [txB]; simp_all [nmS, tnS, emS])) (by first | (simp_all [nuB]; done) | (simp_all [nuB]; omega)) h3 (by omega)
        subst hr
        clear HR
        go_enter Try.func63, Try.ntmps63
        go_wp2
        go_quiet (fail)
        go_wp2_with (first
          | (go_at_call 31; refine (rname_any s _ hs).mono ?_; rintro e w1 ⟨rfl, hw1⟩; replace hw1 := hw1.symm; subst hw1)
          | (go_at_call 33; refine (rtypeName_any s _ hs).mono ?_; rintro e w1 ⟨rfl, hw1⟩; replace hw1 := hw1.symm; subst hw1)
          | (go_at_call 74; refine (rsign_any (str s) _).mono ?_; rintro e w1 ⟨rfl, hw1⟩; replace hw1 := hw1.symm; subst hw1))
        go_ret
        exact ⟨rfl, below_drewN (hB _) _⟩
      · have g3 : decide (0 ≤ p) = false := decide_eq_false h3
        have hr : r = false := by rw [HR.out]; exact fd_p h3
        subst hr
        clear HR
        go_enter Try.func63, Try.ntmps63
        go_wp2
        go_quiet (fail)
        go_wp2_with (first
          | (go_at_call 31; refine (rname_any s _ hs).mono ?_; rintro e w1 ⟨rfl, hw1⟩; replace hw1 := hw1.symm; subst hw1)
          | (go_at_call 33; refine (rtypeName_any s _ hs).mono ?_; rintro e w1 ⟨rfl, hw1⟩; replace hw1 := hw1.symm; subst hw1)
          | (go_at_call 74; refine (rsign_any (str s) _).mono ?_; rintro e w1 ⟨rfl, hw1⟩; replace hw1 := hw1.symm; subst hw1))
        go_ret
        exact ⟨rfl, below_drewN (hB _) _⟩
    · have g1 : (n == 0) = false := by simpa using h1
      have hr : r = false := by rw [HR.out]; exact fd_n (by first | (simp_all [nuB]; done) | (simp_all [nuB]; omega))
      subst hr
      clear HR
      go_enter Try.func63, Try.ntmps63
      go_wp2
      go_quiet (fail)
      go_wp2_with (first
        | (go_at_call 31; refine (rname_any s _ hs).mono ?_; rintro e w1 ⟨rfl, hw1⟩; replace hw1 := hw1.symm; subst hw1)
        | (go_at_call 33; refine (rtypeName_any s _ hs).mono ?_; rintro e w1 ⟨rfl, hw1⟩; replace hw1 := hw1.symm; subst hw1)
        | (go_at_call 74; refine (rsign_any (str s) _).mono ?_; rintro e w1 ⟨rfl, hw1⟩; replace hw1 := hw1.symm; subst hw1))
      go_ret
      exact ⟨rfl, below_drewN (hB _) _⟩
  | false =>
    have hr : r = false := by rw [HR.out]; exact fd_s (by first | exact t1 | (simp only [txB]; simp_all [nmS, tnS, emS]))
    subst hr
    clear HR
    go_enter Try.func63, Try.ntmps63
    go_wp2
    go_quiet (fail)
    go_wp2_with (first
      | (go_at_call 31; refine (rname_any s _ hs).mono ?_; rintro e w1 ⟨rfl, hw1⟩; replace hw1 := hw1.symm; subst hw1)
      | (go_at_call 33; refine (rtypeName_any s _ hs).mono ?_; rintro e w1 ⟨rfl, hw1⟩; replace hw1 := hw1.symm; subst hw1)
      | (go_at_call 74; refine (rsign_any (str s) _).mono ?_; rintro e w1 ⟨rfl, hw1⟩; replace hw1 := hw1.symm; subst hw1))
    go_ret
    exact ⟨rfl, below_drewN (hB _) _⟩
set_option maxRecDepth 100000 in
set_option maxHeartbeats 4000000 in
theorem fd_14 (p n : Int) (s : List UInt8) (a : Option Addr) (m cap : Nat) (w : World) (hs : s.length ≤ maxLen) :
    Calls Try.prog 63 #[ndV ⟨14, p, n, s⟩ a m cap] w fun e w' => e = .returned (.bool (fdB ⟨14, p, n, s⟩)) ∧ Below w.heap.size w w' := by
  have hB : ∀ o, Below w.heap.size w (w.alloc o) := fun o => belA (Below.refl _ _)
  have A1 := At.new w (Ndo ⟨14, p, n, s⟩ a m cap)
  obtain ⟨c0, c1, c2, c3, c4, cf⟩ := A1.nd
  clear A1
  obtain ⟨r, hr⟩ : ∃ r, r = fdB ⟨14, p, n, s⟩ := ⟨_, rfl⟩
  rw [← hr]
  have HR : Hid (r = fdB ⟨14, p, n, s⟩) := hr
  clear hr
  cases t1 : (nmB s && !isK (str s)) with
  | true =>
    by_cases h1 : 1 ≤ n
    · have g1 : decide (1 ≤ n) = true := decide_eq_true h1
      by_cases h2 : n ≤ 3
      · have g2 : decide (n ≤ 3) = true := decide_eq_true h2
        by_cases h3 : 0 ≤ p
        · have g3 : decide (0 ≤ p) = true := decide_eq_true h3
          have hr : r = true := by rw [HR.out]; exact fd_y (by first | exact t1 | (simp only [txB]; simp_all [nmS, tnS, emS])) (by first | (simp_all [nuB]; done) | (simp_all [nuB]; omega)) h3 (by omega)
          subst hr
          clear HR
          go_enter Try.func63, Try.ntmps63
          go_wp2
          go_quiet (fail)
          go_wp2_with (first
            | (go_at_call 31; refine (rname_any s _ hs).mono ?_; rintro e w1 ⟨rfl, hw1⟩; replace hw1 := hw1.symm; subst hw1)
            | (go_at_call 33; refine (rtypeName_any s _ hs).mono ?_; rintro e w1 ⟨rfl, hw1⟩; replace hw1 := hw1.symm; subst hw1)
            | (go_at_call 74; refine (rsign_any (str s) _).mono ?_; rintro e w1 ⟨rfl, hw1⟩; replace hw1 := hw1.symm; subst hw1))
          go_ret
          exact ⟨rfl, below_drewN (hB _) _⟩
        · have g3 : decide (0 ≤ p) = false := decide_eq_false h3
          have hr : r = false := by rw [HR.out]; exact fd_p h3
          subst hr
          clear HR
          go_enter Try.func63, Try.ntmps63
          go_wp2
          go_quiet (fail)
          go_wp2_with (first
            | (go_at_call 31; refine (rname_any s _ hs).mono ?_; rintro e w1 ⟨rfl, hw1⟩; replace hw1 := hw1.symm; subst hw1)
            | (go_at_call 33; refine (rtypeName_any s _ hs).mono ?_; rintro e w1 ⟨rfl, hw1⟩; replace hw1 := hw1.symm; subst hw1)
            | (go_at_call 74; refine (rsign_any (str s) _).mono ?_; rintro e w1 ⟨rfl, hw1⟩; replace hw1 := hw1.symm; subst hw1))
          go_ret
          exact ⟨rfl, below_drewN (hB _) _⟩
      · have g2 : decide (n ≤ 3) = false := decide_eq_false h2
        have hr : r = false := by rw [HR.out]; exact fd_n (by first | (simp_all [nuB]; done) | (simp_all [nuB]; omega))
        subst hr
        clear HR
        go_enter Try.func63, Try.ntmps63
        go_wp2
        go_quiet (fail)
        go_wp2_with (first
          | (go_at_call 31; refine (rname_any s _ hs).mono ?_; rintro e w1 ⟨rfl, hw1⟩; replace hw1 := hw1.symm; subst hw1)
          | (go_at_call 33; refine (rtypeName_any s _ hs).mono ?_; rintro e w1 ⟨rfl, hw1⟩; replace hw1 := hw1.symm; subst hw1)
          | (go_at_call 74; refine (rsign_any (str s) _).mono ?_; rintro e w1 ⟨rfl, hw1⟩; replace hw1 := hw1.symm; subst hw1))
        go_ret
        exact ⟨rfl, below_drewN (hB _) _⟩
    · have g1 : decide (1 ≤ n) = false := decide_eq_false h1
      have hr : r = false := by rw [HR.out]; exact fd_n (by first | (simp_all [nuB]; done) | (simp_all [nuB]; omega))
      subst hr
      clear HR
      go_enter Try.func63, Try.ntmps63
      go_wp2
      go_quiet (fail)
      go_wp2_with (first
        | (go_at_call 31; refine (rname_any s _ hs).mono ?_; rintro e w1 ⟨rfl, hw1⟩; replace hw1 := hw1.symm; subst hw1)
        | (go_at_call 33; refine (rtypeName_any s _ hs).mono ?_; rintro e w1 ⟨rfl, hw1⟩; replace hw1 := hw1.symm; subst hw1)
        | (go_at_call 74; refine (rsign_any (str s) _).mono ?_; rintro e w1 ⟨rfl, hw1⟩; replace hw1 := hw1.symm; subst hw1))
      go_ret
      exact ⟨rfl, below_drewN (hB _) _⟩
  | false =>
    by_cases h1 : 1 ≤ n
    · have g1 : decide (1 ≤ n) = true := decide_eq_true h1
      by_cases h2 : n ≤ 3
      · have g2 : decide (n ≤ 3) = true := decide_eq_true h2
        have hr : r = false := by rw [HR.out]; exact fd_s (by first | exact t1 | (simp only [txB]; simp_all [nmS, tnS, emS]))
        subst hr
        clear HR
        go_enter Try.func63, Try.ntmps63
        go_wp2
        go_quiet (fail)
        go_wp2_with (first
          | (go_at_call 31; refine (rname_any s _ hs).mono ?_; rintro e w1 ⟨rfl, hw1⟩; replace hw1 := hw1.symm; subst hw1)
          | (go_at_call 33; refine (rtypeName_any s _ hs).mono ?_; rintro e w1 ⟨rfl, hw1⟩; replace hw1 := hw1.symm; subst hw1)
          | (go_at_call 74; refine (rsign_any (str s) _).mono ?_; rintro e w1 ⟨rfl, hw1⟩; replace hw1 := hw1.symm; subst hw1))
        go_ret
        exact ⟨rfl, below_drewN (hB _) _⟩
      · have g2 : decide (n ≤ 3) = false := decide_eq_false h2
        have hr : r = false := by rw [HR.out]; exact fd_s (by first | exact t1 | (simp only [txB]; simp_all [nmS, tnS, emS]))
        subst hr
        clear HR
        go_enter Try.func63, Try.ntmps63
        go_wp2
        go_quiet (fail)
        go_wp2_with (first
          | (go_at_call 31; refine (rname_any s _ hs).mono ?_; rintro e w1 ⟨rfl, hw1⟩; replace hw1 := hw1.symm; subst hw1)
          | (go_at_call 33; refine (rtypeName_any s _ hs).mono ?_; rintro e w1 ⟨rfl, hw1⟩; replace hw1 := hw1.symm; subst hw1)
          | (go_at_call 74; refine (rsign_any (str s) _).mono ?_; rintro e w1 ⟨rfl, hw1⟩; replace hw1 := hw1.symm; subst hw1))
        go_ret
        exact ⟨rfl, below_drewN (hB _) _⟩
    · have g1 : decide (1 ≤ n) = false := decide_eq_false h1
      have hr : r = false := by rw [HR.out]; exact fd_s (by first | exact t1 | (simp only [txB]; simp_all [nmS, tnS, emS]))
      subst hr
      clear HR
      go_enter Try.func63, Try.ntmps63
      go_wp2
      go_quiet (fail)
      go_wp2_with (first
        | (go_at_call 31; refine (rname_any s _ hs).mono ?_; rintro e w1 ⟨rfl, hw1⟩; replace hw1 := hw1.symm; subst hw1)
        | (go_at_call 33; refine (rtypeName_any s _ hs).mono ?_; rintro e w1 ⟨rfl, hw1⟩; replace hw1 := hw1.symm; subst hw1)
        | (go_at_call 74; refine (rsign_any (str s) _).mono ?_; rintro e w1 ⟨rfl, hw1⟩; replace hw1 := hw1.symm; subst hw1))
      go_ret
      exact ⟨rfl, below_drewN (hB _) _⟩
set_option maxRecDepth 100000 in
set_option maxHeartbeats 4000000 in
theorem fd_16 (p n : Int) (s : List UInt8) (a : Option Addr) (m cap : Nat) (w : World) (hs : s.length ≤ maxLen) :
    Calls Try.prog 63 #[ndV ⟨16, p, n, s⟩ a m cap] w fun e w' => e = .returned (.bool (fdB ⟨16, p, n, s⟩)) ∧ Below w.heap.size w w' := by
  have hB : ∀ o, Below w.heap.size w (w.alloc o) := fun o => belA (Below.refl _ _)
  have A1 := At.new w (Ndo ⟨16, p, n, s⟩ a m cap)
  obtain ⟨c0, c1, c2, c3, c4, cf⟩ := A1.nd
  clear A1
  obtain ⟨r, hr⟩ : ∃ r, r = fdB ⟨16, p, n, s⟩ := ⟨_, rfl⟩
  rw [← hr]
  have HR : Hid (r = fdB ⟨16, p, n, s⟩) := hr
  clear hr
  cases t1 : (str s).toList.isEmpty with
  | true =>
    by_cases h1 : n = 0
    · have g1 : (n == 0) = true := by simpa using h1
      by_cases h3 : 0 ≤ p
      · have g3 : decide (0 ≤ p) = true := decide_eq_true h3
        have hr : r = true := by rw [HR.out]; exact fd_y (by first | exact t1 | (simp only [txB]; simp_all [nmS, tnS, emS])) (by first | (simp_all [nuB]; done) | (simp_all [nuB]; omega)) h3 (by omega)
        subst hr
        clear HR
        go_enter Try.func63, Try.ntmps63
        go_wp2
        go_quiet (fail)
        go_wp2_with (first
          | (go_at_call 31; refine (rname_any s _ hs).mono ?_; rintro e w1 ⟨rfl, hw1⟩; replace hw1 := hw1.symm; subst hw1)
          | (go_at_call 33; refine (rtypeName_any s _ hs).mono ?_; rintro e w1 ⟨rfl, hw1⟩; replace hw1 := hw1.symm; subst hw1)
          | (go_at_call 74; refine (rsign_any (str s) _).mono ?_; rintro e w1 ⟨rfl, hw1⟩; replace hw1 := hw1.symm; subst hw1))
        go_ret
        exact ⟨rfl, below_drewN (hB _) _⟩
      · have g3 : decide (0 ≤ p) = false := decide_eq_false h3
        have hr : r = false := by rw [HR.out]; exact fd_p h3
        subst hr
        clear HR
        go_enter Try.func63, Try.ntmps63
        go_wp2
        go_quiet (fail)
        go_wp2_with (first
          | (go_at_call 31; refine (rname_any s _ hs).mono ?_; rintro e w1 ⟨rfl, hw1⟩; replace hw1 := hw1.symm; subst hw1)
          | (go_at_call 33; refine (rtypeName_any s _ hs).mono ?_; rintro e w1 ⟨rfl, hw1⟩; replace hw1 := hw1.symm; subst hw1)
          | (go_at_call 74; refine (rsign_any (str s) _).mono ?_; rintro e w1 ⟨rfl, hw1⟩; replace hw1 := hw1.symm; subst hw1))
        go_ret
        exact ⟨rfl, below_drewN (hB _) _⟩
    · have g1 : (n == 0) = false := by simpa using h1
      by_cases h2 : n = 1
      · have g2 : (n == 1) = true := by simpa using h2
        by_cases h3 : 0 ≤ p
        · have g3 : decide (0 ≤ p) = true := decide_eq_true h3
          have hr : r = true := by rw [HR.out]; exact fd_y (by first | exact t1 | (simp only [txB]; simp_all [nmS, tnS, emS])) (by first | (simp_all [nuB]; done) | (simp_all [nuB]; omega)) h3 (by omega)
          subst hr
          clear HR
          go_enter Try.func63, Try.ntmps63
          go_wp2
          go_quiet (fail)
          go_wp2_with (first
            | (go_at_call 31; refine (rname_any s _ hs).mono ?_; rintro e w1 ⟨rfl, hw1⟩; replace hw1 := hw1.symm; subst hw1)
            | (go_at_call 33; refine (rtypeName_any s _ hs).mono ?_; rintro e w1 ⟨rfl, hw1⟩; replace hw1 := hw1.symm; subst hw1)
            | (go_at_call 74; refine (rsign_any (str s) _).mono ?_; rintro e w1 ⟨rfl, hw1⟩; replace hw1 := hw1.symm; subst hw1))
          go_ret
          exact ⟨rfl, below_drewN (hB _) _⟩
        · have g3 : decide (0 ≤ p) = false := decide_eq_false h3
          have hr : r = false := by rw [HR.out]; exact fd_p h3
          subst hr
          clear HR
          go_enter Try.func63, Try.ntmps63
          go_wp2
          go_quiet (fail)
          go_wp2_with (first
            | (go_at_call 31; refine (rname_any s _ hs).mono ?_; rintro e w1 ⟨rfl, hw1⟩; replace hw1 := hw1.symm; subst hw1)
            | (go_at_call 33; refine (rtypeName_any s _ hs).mono ?_; rintro e w1 ⟨rfl, hw1⟩; replace hw1 := hw1.symm; subst hw1)
            | (go_at_call 74; refine (rsign_any (str s) _).mono ?_; rintro e w1 ⟨rfl, hw1⟩; replace hw1 := hw1.symm; subst hw1))
          go_ret
          exact ⟨rfl, below_drewN (hB _) _⟩
      · have g2 : (n == 1) = false := by simpa using h2
        have hr : r = false := by rw [HR.out]; exact fd_n (by first | (simp_all [nuB]; done) | (simp_all [nuB]; omega))
        subst hr
        clear HR
        go_enter Try.func63, Try.ntmps63
        go_wp2
        go_quiet (fail)
        go_wp2_with (first
          | (go_at_call 31; refine (rname_any s _ hs).mono ?_; rintro e w1 ⟨rfl, hw1⟩; replace hw1 := hw1.symm; subst hw1)
          | (go_at_call 33; refine (rtypeName_any s _ hs).mono ?_; rintro e w1 ⟨rfl, hw1⟩; replace hw1 := hw1.symm; subst hw1)
          | (go_at_call 74; refine (rsign_any (str s) _).mono ?_; rintro e w1 ⟨rfl, hw1⟩; replace hw1 := hw1.symm; subst hw1))
        go_ret
        exact ⟨rfl, below_drewN (hB _) _⟩
  | false =>
    by_cases h1 : n = 0
    · have g1 : (n == 0) = true := by simpa using h1
      have hr : r = false := by rw [HR.out]; exact fd_s (by first | exact t1 | (simp only [txB]; simp_all [nmS, tnS, emS]))
      subst hr
      clear HR
      go_enter Try.func63, Try.ntmps63
      go_wp2
      go_quiet (fail)
      go_wp2_with (first
        | (go_at_call 31; refine (rname_any s _ hs).mono ?_; rintro e w1 ⟨rfl, hw1⟩; replace hw1 := hw1.symm; subst hw1)
        | (go_at_call 33; refine (rtypeName_any s _ hs).mono ?_; rintro e w1 ⟨rfl, hw1⟩; replace hw1 := hw1.symm; subst hw1)
        | (go_at_call 74; refine (rsign_any (str s) _).mono ?_; rintro e w1 ⟨rfl, hw1⟩; replace hw1 := hw1.symm; subst hw1))
      go_ret
      exact ⟨rfl, below_drewN (hB _) _⟩
    · have g1 : (n == 0) = false := by simpa using h1
      by_cases h2 : n = 1
      · have g2 : (n == 1) = true := by simpa using h2
        have hr : r = false := by rw [HR.out]; exact fd_s (by first | exact t1 | (simp only [txB]; simp_all [nmS, tnS, emS]))
        subst hr
        clear HR
        go_enter Try.func63, Try.ntmps63
        go_wp2
        go_quiet (fail)
        go_wp2_with (first
          | (go_at_call 31; refine (rname_any s _ hs).mono ?_; rintro e w1 ⟨rfl, hw1⟩; replace hw1 := hw1.symm; subst hw1)
          | (go_at_call 33; refine (rtypeName_any s _ hs).mono ?_; rintro e w1 ⟨rfl, hw1⟩; replace hw1 := hw1.symm; subst hw1)
          | (go_at_call 74; refine (rsign_any (str s) _).mono ?_; rintro e w1 ⟨rfl, hw1⟩; replace hw1 := hw1.symm; subst hw1))
        go_ret
        exact ⟨rfl, below_drewN (hB _) _⟩
      · have g2 : (n == 1) = false := by simpa using h2
        have hr : r = false := by rw [HR.out]; exact fd_s (by first | exact t1 | (simp only [txB]; simp_all [nmS, tnS, emS]))
        subst hr
        clear HR
        go_enter Try.func63, Try.ntmps63
        go_wp2
        go_quiet (fail)
        go_wp2_with (first
          | (go_at_call 31; refine (rname_any s _ hs).mono ?_; rintro e w1 ⟨rfl, hw1⟩; replace hw1 := hw1.symm; subst hw1)
          | (go_at_call 33; refine (rtypeName_any s _ hs).mono ?_; rintro e w1 ⟨rfl, hw1⟩; replace hw1 := hw1.symm; subst hw1)
          | (go_at_call 74; refine (rsign_any (str s) _).mono ?_; rintro e w1 ⟨rfl, hw1⟩; replace hw1 := hw1.symm; subst hw1))
        go_ret
        exact ⟨rfl, below_drewN (hB _) _⟩
set_option maxRecDepth 100000 in
set_option maxHeartbeats 4000000 in
theorem fd_24 (p n : Int) (s : List UInt8) (a : Option Addr) (m cap : Nat) (w : World) (hs : s.length ≤ maxLen) :
    Calls Try.prog 63 #[ndV ⟨24, p, n, s⟩ a m cap] w fun e w' => e = .returned (.bool (fdB ⟨24, p, n, s⟩)) ∧ Below w.heap.size w w' := by
  have hB : ∀ o, Below w.heap.size w (w.alloc o) := fun o => belA (Below.refl _ _)
  have A1 := At.new w (Ndo ⟨24, p, n, s⟩ a m cap)
  obtain ⟨c0, c1, c2, c3, c4, cf⟩ := A1.nd
  clear A1
  obtain ⟨r, hr⟩ : ∃ r, r = fdB ⟨24, p, n, s⟩ := ⟨_, rfl⟩
  rw [← hr]
  have HR : Hid (r = fdB ⟨24, p, n, s⟩) := hr
  clear hr
  cases t1 : (str s).toList.isEmpty with
  | true =>
    by_cases h1 : 0 ≤ n
    · have g1 : decide (0 ≤ n) = true := decide_eq_true h1
      by_cases h3 : 0 ≤ p
      · have g3 : decide (0 ≤ p) = true := decide_eq_true h3
        have hr : r = true := by rw [HR.out]; exact fd_y (by first | exact t1 | (simp only [txB]; simp_all [nmS, tnS, emS])) (by first | (simp_all [nuB]; done) | (simp_all [nuB]; omega)) h3 (by omega)
        subst hr
        clear HR
        go_enter Try.func63, Try.ntmps63
        go_wp2
        go_quiet (fail)
        go_wp2_with (first
          | (go_at_call 31; refine (rname_any s _ hs).mono ?_; rintro e w1 ⟨rfl, hw1⟩; replace hw1 := hw1.symm; subst hw1)
          | (go_at_call 33; refine (rtypeName_any s _ hs).mono ?_; rintro e w1 ⟨rfl, hw1⟩; replace hw1 := hw1.symm; subst hw1)
          | (go_at_call 74; refine (rsign_any (str s) _).mono ?_; rintro e w1 ⟨rfl, hw1⟩; replace hw1 := hw1.symm; subst hw1))
        go_ret
        exact ⟨rfl, below_drewN (hB _) _⟩
      · have g3 : decide (0 ≤ p) = false := decide_eq_false h3
        have hr : r = false := by rw [HR.out]; exact fd_p h3
        subst hr
        clear HR
        go_enter Try.func63, Try.ntmps63
        go_wp2
        go_quiet (fail)
        go_wp2_with (first
          | (go_at_call 31; refine (rname_any s _ hs).mono ?_; rintro e w1 ⟨rfl, hw1⟩; replace hw1 := hw1.symm; subst hw1)
          | (go_at_call 33; refine (rtypeName_any s _ hs).mono ?_; rintro e w1 ⟨rfl, hw1⟩; replace hw1 := hw1.symm; subst hw1)
          | (go_at_call 74; refine (rsign_any (str s) _).mono ?_; rintro e w1 ⟨rfl, hw1⟩; replace hw1 := hw1.symm; subst hw1))
        go_ret
        exact ⟨rfl, below_drewN (hB _) _⟩
    · have g1 : decide (0 ≤ n) = false := decide_eq_false h1
      have hr : r = false := by rw [HR.out]; exact fd_n (by first | (simp_all [nuB]; done) | (simp_all [nuB]; omega))
      subst hr
      clear HR
      go_enter Try.func63, Try.ntmps63
      go_wp2
      go_quiet (fail)
      go_wp2_with (first
        | (go_at_call 31; refine (rname_any s _ hs).mono ?_; rintro e w1 ⟨rfl, hw1⟩; replace hw1 := hw1.symm; subst hw1)
        | (go_at_call 33; refine (rtypeName_any s _ hs).mono ?_; rintro e w1 ⟨rfl, hw1⟩; replace hw1 := hw1.symm; subst hw1)
        | (go_at_call 74; refine (rsign_any (str s) _).mono ?_; rintro e w1 ⟨rfl, hw1⟩; replace hw1 := hw1.symm; subst hw1))
      go_ret
      exact ⟨rfl, below_drewN (hB _) _⟩
  | false =>
    by_cases h1 : 0 ≤ n
    · have g1 : decide (0 ≤ n) = true := decide_eq_true h1
      have hr : r = false := by rw [HR.out]; exact fd_s (by first | exact t1 | (simp only [txB]; simp_all [nmS, tnS, emS]))
      subst hr
      clear HR
      go_enter Try.func63, Try.ntmps63
      go_wp2
      go_quiet (fail)
      go_wp2_with (first
        | (go_at_call 31; refine (rname_any s _ hs).mono ?_; rintro e w1 ⟨rfl, hw1⟩; replace hw1 := hw1.symm; subst hw1)
        | (go_at_call 33; refine (rtypeName_any s _ hs).mono ?_; rintro e w1 ⟨rfl, hw1⟩; replace hw1 := hw1.symm; subst hw1)
        | (go_at_call 74; refine (rsign_any (str s) _).mono ?_; rintro e w1 ⟨rfl, hw1⟩; replace hw1 := hw1.symm; subst hw1))
      go_ret
      exact ⟨rfl, below_drewN (hB _) _⟩
    · have g1 : decide (0 ≤ n) = false := decide_eq_false h1
      have hr : r = false := by rw [HR.out]; exact fd_s (by first | exact t1 | (simp only [txB]; simp_all [nmS, tnS, emS]))
      subst hr
      clear HR
      go_enter Try.func63, Try.ntmps63
      go_wp2
      go_quiet (fail)
      go_wp2_with (first
        | (go_at_call 31; refine (rname_any s _ hs).mono ?_; rintro e w1 ⟨rfl, hw1⟩; replace hw1 := hw1.symm; subst hw1)
        | (go_at_call 33; refine (rtypeName_any s _ hs).mono ?_; rintro e w1 ⟨rfl, hw1⟩; replace hw1 := hw1.symm; subst hw1)
        | (go_at_call 74; refine (rsign_any (str s) _).mono ?_; rintro e w1 ⟨rfl, hw1⟩; replace hw1 := hw1.symm; subst hw1))
      go_ret
      exact ⟨rfl, below_drewN (hB _) _⟩
set_option maxRecDepth 100000 in
set_option maxHeartbeats 4000000 in
theorem fd_25 (p n : Int) (s : List UInt8) (a : Option Addr) (m cap : Nat) (w : World) (hs : s.length ≤ maxLen) :
    Calls Try.prog 63 #[ndV ⟨25, p, n, s⟩ a m cap] w fun e w' => e = .returned (.bool (fdB ⟨25, p, n, s⟩)) ∧ Below w.heap.size w w' := by
  have hB : ∀ o, Below w.heap.size w (w.alloc o) := fun o => belA (Below.refl _ _)
  have A1 := At.new w (Ndo ⟨25, p, n, s⟩ a m cap)
  obtain ⟨c0, c1, c2, c3, c4, cf⟩ := A1.nd
  clear A1
  obtain ⟨r, hr⟩ : ∃ r, r = fdB ⟨25, p, n, s⟩ := ⟨_, rfl⟩
  rw [← hr]
  have HR : Hid (r = fdB ⟨25, p, n, s⟩) := hr
  clear hr
  cases t1 : (str s).toList.isEmpty with
  | true =>
    by_cases h1 : n = 0
    · have g1 : (n == 0) = true := by simpa using h1
      by_cases h3 : 0 ≤ p
      · have g3 : decide (0 ≤ p) = true := decide_eq_true h3
        have hr : r = true := by rw [HR.out]; exact fd_y (by first | exact t1 | (simp only [txB]; simp_all [nmS, tnS, emS])) (by first | (simp_all [nuB]; done) | (simp_all [nuB]; omega)) h3 (by omega)
        subst hr
        clear HR
        go_enter Try.func63, Try.ntmps63
        go_wp2
        go_quiet (fail)
        go_wp2_with (first
          | (go_at_call 31; refine (rname_any s _ hs).mono ?_; rintro e w1 ⟨rfl, hw1⟩; replace hw1 := hw1.symm; subst hw1)
          | (go_at_call 33; refine (rtypeName_any s _ hs).mono ?_; rintro e w1 ⟨rfl, hw1⟩; replace hw1 := hw1.symm; subst hw1)
          | (go_at_call 74; refine (rsign_any (str s) _).mono ?_; rintro e w1 ⟨rfl, hw1⟩; replace hw1 := hw1.symm; subst hw1))
        go_ret
        exact ⟨rfl, below_drewN (hB _) _⟩
      · have g3 : decide (0 ≤ p) = false := decide_eq_false h3
        have hr : r = false := by rw [HR.out]; exact fd_p h3
        subst hr
        clear HR
        go_enter Try.func63, Try.ntmps63
        go_wp2
        go_quiet (fail)
        go_wp2_with (first
          | (go_at_call 31; refine (rname_any s _ hs).mono ?_; rintro e w1 ⟨rfl, hw1⟩; replace hw1 := hw1.symm; subst hw1)
          | (go_at_call 33; refine (rtypeName_any s _ hs).mono ?_; rintro e w1 ⟨rfl, hw1⟩; replace hw1 := hw1.symm; subst hw1)
          | (go_at_call 74; refine (rsign_any (str s) _).mono ?_; rintro e w1 ⟨rfl, hw1⟩; replace hw1 := hw1.symm; subst hw1))
        go_ret
        exact ⟨rfl, below_drewN (hB _) _⟩
    · have g1 : (n == 0) = false := by simpa using h1
      by_cases h2 : n = 1
      · have g2 : (n == 1) = true := by simpa using h2
        by_cases h3 : 0 ≤ p
        · have g3 : decide (0 ≤ p) = true := decide_eq_true h3
          have hr : r = true := by rw [HR.out]; exact fd_y (by first | exact t1 | (simp only [txB]; simp_all [nmS, tnS, emS])) (by first | (simp_all [nuB]; done) | (simp_all [nuB]; omega)) h3 (by omega)
          subst hr
          clear HR
          go_enter Try.func63, Try.ntmps63
          go_wp2
          go_quiet (fail)
          go_wp2_with (first
            | (go_at_call 31; refine (rname_any s _ hs).mono ?_; rintro e w1 ⟨rfl, hw1⟩; replace hw1 := hw1.symm; subst hw1)
            | (go_at_call 33; refine (rtypeName_any s _ hs).mono ?_; rintro e w1 ⟨rfl, hw1⟩; replace hw1 := hw1.symm; subst hw1)
            | (go_at_call 74; refine (rsign_any (str s) _).mono ?_; rintro e w1 ⟨rfl, hw1⟩; replace hw1 := hw1.symm; subst hw1))
          go_ret
          exact ⟨rfl, below_drewN (hB _) _⟩
        · have g3 : decide (0 ≤ p) = false := decide_eq_false h3
          have hr : r = false := by rw [HR.out]; exact fd_p h3
          subst hr
          clear HR
          go_enter Try.func63, Try.ntmps63
          go_wp2
          go_quiet (fail)
          go_wp2_with (first
            | (go_at_call 31; refine (rname_any s _ hs).mono ?_; rintro e w1 ⟨rfl, hw1⟩; replace hw1 := hw1.symm; subst hw1)
            | (go_at_call 33; refine (rtypeName_any s _ hs).mono ?_; rintro e w1 ⟨rfl, hw1⟩; replace hw1 := hw1.symm; subst hw1)
            | (go_at_call 74; refine (rsign_any (str s) _).mono ?_; rintro e w1 ⟨rfl, hw1⟩; replace hw1 := hw1.symm; subst hw1))
          go_ret
          exact ⟨rfl, below_drewN (hB _) _⟩
      · have g2 : (n == 1) = false := by simpa using h2
        have hr : r = false := by rw [HR.out]; exact fd_n (by first | (simp_all [nuB]; done) | (simp_all [nuB]; omega))
        subst hr
        clear HR
        go_enter Try.func63, Try.ntmps63
        go_wp2
        go_quiet (fail)
        go_wp2_with (first
          | (go_at_call 31; refine (rname_any s _ hs).mono ?_; rintro e w1 ⟨rfl, hw1⟩; replace hw1 := hw1.symm; subst hw1)
          | (go_at_call 33; refine (rtypeName_any s _ hs).mono ?_; rintro e w1 ⟨rfl, hw1⟩; replace hw1 := hw1.symm; subst hw1)
          | (go_at_call 74; refine (rsign_any (str s) _).mono ?_; rintro e w1 ⟨rfl, hw1⟩; replace hw1 := hw1.symm; subst hw1))
        go_ret
        exact ⟨rfl, below_drewN (hB _) _⟩
  | false =>
    by_cases h1 : n = 0
    · have g1 : (n == 0) = true := by simpa using h1
      have hr : r = false := by rw [HR.out]; exact fd_s (by first | exact t1 | (simp only [txB]; simp_all [nmS, tnS, emS]))
      subst hr
      clear HR
      go_enter Try.func63, Try.ntmps63
      go_wp2
      go_quiet (fail)
      go_wp2_with (first
        | (go_at_call 31; refine (rname_any s _ hs).mono ?_; rintro e w1 ⟨rfl, hw1⟩; replace hw1 := hw1.symm; subst hw1)
        | (go_at_call 33; refine (rtypeName_any s _ hs).mono ?_; rintro e w1 ⟨rfl, hw1⟩; replace hw1 := hw1.symm; subst hw1)
        | (go_at_call 74; refine (rsign_any (str s) _).mono ?_; rintro e w1 ⟨rfl, hw1⟩; replace hw1 := hw1.symm; subst hw1))
      go_ret
      exact ⟨rfl, below_drewN (hB _) _⟩
    · have g1 : (n == 0) = false := by simpa using h1
      by_cases h2 : n = 1
      · have g2 : (n == 1) = true := by simpa using h2
        have hr : r = false := by rw [HR.out]; exact fd_s (by first | exact t1 | (simp only [txB]; simp_all [nmS, tnS, emS]))
        subst hr
        clear HR
        go_enter Try.func63, Try.ntmps63
        go_wp2
        go_quiet (fail)
        go_wp2_with (first
          | (go_at_call 31; refine (rname_any s _ hs).mono ?_; rintro e w1 ⟨rfl, hw1⟩; replace hw1 := hw1.symm; subst hw1)
          | (go_at_call 33; refine (rtypeName_any s _ hs).mono ?_; rintro e w1 ⟨rfl, hw1⟩; replace hw1 := hw1.symm; subst hw1)
          | (go_at_call 74; refine (rsign_any (str s) _).mono ?_; rintro e w1 ⟨rfl, hw1⟩; replace hw1 := hw1.symm; subst hw1))
        go_ret
        exact ⟨rfl, below_drewN (hB _) _⟩
      · have g2 : (n == 1) = false := by simpa using h2
        have hr : r = false := by rw [HR.out]; exact fd_s (by first | exact t1 | (simp only [txB]; simp_all [nmS, tnS, emS]))
        subst hr
        clear HR
        go_enter Try.func63, Try.ntmps63
        go_wp2
        go_quiet (fail)
        go_wp2_with (first
          | (go_at_call 31; refine (rname_any s _ hs).mono ?_; rintro e w1 ⟨rfl, hw1⟩; replace hw1 := hw1.symm; subst hw1)
          | (go_at_call 33; refine (rtypeName_any s _ hs).mono ?_; rintro e w1 ⟨rfl, hw1⟩; replace hw1 := hw1.symm; subst hw1)
          | (go_at_call 74; refine (rsign_any (str s) _).mono ?_; rintro e w1 ⟨rfl, hw1⟩; replace hw1 := hw1.symm; subst hw1))
        go_ret
        exact ⟨rfl, below_drewN (hB _) _⟩
set_option maxRecDepth 100000 in
set_option maxHeartbeats 4000000 in
theorem fd_26 (p n : Int) (s : List UInt8) (a : Option Addr) (m cap : Nat) (w : World) (hs : s.length ≤ maxLen) :
    Calls Try.prog 63 #[ndV ⟨26, p, n, s⟩ a m cap] w fun e w' => e = .returned (.bool (fdB ⟨26, p, n, s⟩)) ∧ Below w.heap.size w w' := by
  have hB : ∀ o, Below w.heap.size w (w.alloc o) := fun o => belA (Below.refl _ _)
  have A1 := At.new w (Ndo ⟨26, p, n, s⟩ a m cap)
  obtain ⟨c0, c1, c2, c3, c4, cf⟩ := A1.nd
  clear A1
  obtain ⟨r, hr⟩ : ∃ r, r = fdB ⟨26, p, n, s⟩ := ⟨_, rfl⟩
  rw [← hr]
  have HR : Hid (r = fdB ⟨26, p, n, s⟩) := hr
  clear hr
  cases t1 : (nmB s && !isK (str s)) with
  | true =>
    by_cases h1 : n = 0
    · have g1 : (n == 0) = true := by simpa using h1
      by_cases h3 : 0 ≤ p
      · have g3 : decide (0 ≤ p) = true := decide_eq_true h3
        have hr : r = true := by rw [HR.out]; exact fd_y (by first | exact t1 | (simp only [txB]; simp_all [nmS, tnS, emS])) (by first | (simp_all [nuB]; done) | (simp_all [nuB]; omega)) h3 (by omega)
        subst hr
        clear HR
        go_enter Try.func63, Try.ntmps63
        go_wp2
        go_quiet (fail)
        go_wp2_with (first
          | (go_at_call 31; refine (rname_any s _ hs).mono ?_; rintro e w1 ⟨rfl, hw1⟩; replace hw1 := hw1.symm; subst hw1)
          | (go_at_call 33; refine (rtypeName_any s _ hs).mono ?_; rintro e w1 ⟨rfl, hw1⟩; replace hw1 := hw1.symm; subst hw1)
          | (go_at_call 74; refine (rsign_any (str s) _).mono ?_; rintro e w1 ⟨rfl, hw1⟩; replace hw1 := hw1.symm; subst hw1))
        go_ret
        exact ⟨rfl, below_drewN (hB _) _⟩
      · have g3 : decide (0 ≤ p) = false := decide_eq_false h3
        have hr : r = false := by rw [HR.out]; exact fd_p h3
        subst hr
        clear HR
        go_enter Try.func63, Try.ntmps63
        go_wp2
        go_quiet (fail)
        go_wp2_with (first
          | (go_at_call 31; refine (rname_any s _ hs).mono ?_; rintro e w1 ⟨rfl, hw1⟩; replace hw1 := hw1.symm; subst hw1)
          | (go_at_call 33; refine (rtypeName_any s _ hs).mono ?_; rintro e w1 ⟨rfl, hw1⟩; replace hw1 := hw1.symm; subst hw1)
          | (go_at_call 74; refine (rsign_any (str s) _).mono ?_; rintro e w1 ⟨rfl, hw1⟩; replace hw1 := hw1.symm; subst hw1))
        go_ret
        exact ⟨rfl, below_drewN (hB _) _⟩
    · have g1 : (n == 0) = false := by simpa using h1
      have hr : r = false := by rw [HR.out]; exact fd_n (by first | (simp_all [nuB]; done) | (simp_all [nuB]; omega))
      subst hr
      clear HR
      go_enter Try.func63, Try.ntmps63
      go_wp2
      go_quiet (fail)
      go_wp2_with (first
        | (go_at_call 31; refine (rname_any s _ hs).mono ?_; rintro e w1 ⟨rfl, hw1⟩; replace hw1 := hw1.symm; subst hw1)
        | (go_at_call 33; refine (rtypeName_any s _ hs).mono ?_; rintro e w1 ⟨rfl, hw1⟩; replace hw1 := hw1.symm; subst hw1)
        | (go_at_call 74; refine (rsign_any (str s) _).mono ?_; rintro e w1 ⟨rfl, hw1⟩; replace hw1 := hw1.symm; subst hw1))
      go_ret
      exact ⟨rfl, below_drewN (hB _) _⟩
  | false =>
    have hr : r = false := by rw [HR.out]; exact fd_s (by first | exact t1 | (simp only [txB]; simp_all [nmS, tnS, emS]))
    subst hr
    clear HR
    go_enter Try.func63, Try.ntmps63
    go_wp2
    go_quiet (fail)
    go_wp2_with (first
      | (go_at_call 31; refine (rname_any s _ hs).mono ?_; rintro e w1 ⟨rfl, hw1⟩; replace hw1 := hw1.symm; subst hw1)
      | (go_at_call 33; refine (rtypeName_any s _ hs).mono ?_; rintro e w1 ⟨rfl, hw1⟩; replace hw1 := hw1.symm; subst hw1)
      | (go_at_call 74; refine (rsign_any (str s) _).mono ?_; rintro e w1 ⟨rfl, hw1⟩; replace hw1 := hw1.symm; subst hw1))
    go_ret
    exact ⟨rfl, below_drewN (hB _) _⟩
set_option maxRecDepth 100000 in
set_option maxHeartbeats 4000000 in
theorem fd_27 (p n : Int) (s : List UInt8) (a : Option Addr) (m cap : Nat) (w : World) (hs : s.length ≤ maxLen) :
    Calls Try.prog 63 #[ndV ⟨27, p, n, s⟩ a m cap] w fun e w' => e = .returned (.bool (fdB ⟨27, p, n, s⟩)) ∧ Below w.heap.size w w' := by
  have hB : ∀ o, Below w.heap.size w (w.alloc o) := fun o => belA (Below.refl _ _)
  have A1 := At.new w (Ndo ⟨27, p, n, s⟩ a m cap)
  obtain ⟨c0, c1, c2, c3, c4, cf⟩ := A1.nd
  clear A1
  obtain ⟨r, hr⟩ : ∃ r, r = fdB ⟨27, p, n, s⟩ := ⟨_, rfl⟩
  rw [← hr]
  have HR : Hid (r = fdB ⟨27, p, n, s⟩) := hr
  clear hr
  cases t1 : (nmB s && !isK (str s)) with
  | true =>
    by_cases h1 : n = 0
    · have g1 : (n == 0) = true := by simpa using h1
      by_cases h3 : 0 ≤ p
      · have g3 : decide (0 ≤ p) = true := decide_eq_true h3
        have hr : r = true := by rw [HR.out]; exact fd_y (by first | exact t1 | (simp only [txB]; simp_all [nmS, tnS, emS])) (by first | (simp_all [nuB]; done) | (simp_all [nuB]; omega)) h3 (by omega)
        subst hr
        clear HR
        go_enter Try.func63, Try.ntmps63
        go_wp2
        go_quiet (fail)
        go_wp2_with (first
          | (go_at_call 31; refine (rname_any s _ hs).mono ?_; rintro e w1 ⟨rfl, hw1⟩; replace hw1 := hw1.symm; subst hw1)
          | (go_at_call 33; refine (rtypeName_any s _ hs).mono ?_; rintro e w1 ⟨rfl, hw1⟩; replace hw1 := hw1.symm; subst hw1)
          | (go_at_call 74; refine (rsign_any (str s) _).mono ?_; rintro e w1 ⟨rfl, hw1⟩; replace hw1 := hw1.symm; subst hw1))
        go_ret
        exact ⟨rfl, below_drewN (hB _) _⟩
      · have g3 : decide (0 ≤ p) = false := decide_eq_false h3
        have hr : r = false := by rw [HR.out]; exact fd_p h3
        subst hr
        clear HR
        go_enter Try.func63, Try.ntmps63
        go_wp2
        go_quiet (fail)
        go_wp2_with (first
          | (go_at_call 31; refine (rname_any s _ hs).mono ?_; rintro e w1 ⟨rfl, hw1⟩; replace hw1 := hw1.symm; subst hw1)
          | (go_at_call 33; refine (rtypeName_any s _ hs).mono ?_; rintro e w1 ⟨rfl, hw1⟩; replace hw1 := hw1.symm; subst hw1)
          | (go_at_call 74; refine (rsign_any (str s) _).mono ?_; rintro e w1 ⟨rfl, hw1⟩; replace hw1 := hw1.symm; subst hw1))
        go_ret
        exact ⟨rfl, below_drewN (hB _) _⟩
    · have g1 : (n == 0) = false := by simpa using h1
      have hr : r = false := by rw [HR.out]; exact fd_n (by first | (simp_all [nuB]; done) | (simp_all [nuB]; omega))
      subst hr
      clear HR
      go_enter Try.func63, Try.ntmps63
      go_wp2
      go_quiet (fail)
      go_wp2_with (first
        | (go_at_call 31; refine (rname_any s _ hs).mono ?_; rintro e w1 ⟨rfl, hw1⟩; replace hw1 := hw1.symm; subst hw1)
        | (go_at_call 33; refine (rtypeName_any s _ hs).mono ?_; rintro e w1 ⟨rfl, hw1⟩; replace hw1 := hw1.symm; subst hw1)
        | (go_at_call 74; refine (rsign_any (str s) _).mono ?_; rintro e w1 ⟨rfl, hw1⟩; replace hw1 := hw1.symm; subst hw1))
      go_ret
      exact ⟨rfl, below_drewN (hB _) _⟩
  | false =>
    have hr : r = false := by rw [HR.out]; exact fd_s (by first | exact t1 | (simp only [txB]; simp_all [nmS, tnS, emS]))
    subst hr
    clear HR
    go_enter Try.func63, Try.ntmps63
    go_wp2
    go_quiet (fail)
    go_wp2_with (first
      | (go_at_call 31; refine (rname_any s _ hs).mono ?_; rintro e w1 ⟨rfl, hw1⟩; replace hw1 := hw1.symm; subst hw1)
      | (go_at_call 33; refine (rtypeName_any s _ hs).mono ?_; rintro e w1 ⟨rfl, hw1⟩; replace hw1 := hw1.symm; subst hw1)
      | (go_at_call 74; refine (rsign_any (str s) _).mono ?_; rintro e w1 ⟨rfl, hw1⟩; replace hw1 := hw1.symm; subst hw1))
    go_ret
    exact ⟨rfl, below_drewN (hB _) _⟩
set_option maxRecDepth 100000 in
set_option maxHeartbeats 4000000 in
theorem fd_29 (p n : Int) (s : List UInt8) (a : Option Addr) (m cap : Nat) (w : World) (hs : s.length ≤ maxLen) :
    Calls Try.prog 63 #[ndV ⟨29, p, n, s⟩ a m cap] w fun e w' => e = .returned (.bool (fdB ⟨29, p, n, s⟩)) ∧ Below w.heap.size w w' := by
  have hB : ∀ o, Below w.heap.size w (w.alloc o) := fun o => belA (Below.refl _ _)
  have A1 := At.new w (Ndo ⟨29, p, n, s⟩ a m cap)
  obtain ⟨c0, c1, c2, c3, c4, cf⟩ := A1.nd
  clear A1
  obtain ⟨r, hr⟩ : ∃ r, r = fdB ⟨29, p, n, s⟩ := ⟨_, rfl⟩
  rw [← hr]
  have HR : Hid (r = fdB ⟨29, p, n, s⟩) := hr
  clear hr
  cases t1 : (str s).toList.isEmpty with
  | true =>
    by_cases h1 : n = 0
    · have g1 : (n == 0) = true := by simpa using h1
      by_cases h3 : 0 ≤ p
      · have g3 : decide (0 ≤ p) = true := decide_eq_true h3
        have hr : r = true := by rw [HR.out]; exact fd_y (by first | exact t1 | (simp only [txB]; simp_all [nmS, tnS, emS])) (by first | (simp_all [nuB]; done) | (simp_all [nuB]; omega)) h3 (by omega)
        subst hr
        clear HR
        go_enter Try.func63, Try.ntmps63
        go_wp2
        go_quiet (fail)
        go_wp2_with (first
          | (go_at_call 31; refine (rname_any s _ hs).mono ?_; rintro e w1 ⟨rfl, hw1⟩; replace hw1 := hw1.symm; subst hw1)
          | (go_at_call 33; refine (rtypeName_any s _ hs).mono ?_; rintro e w1 ⟨rfl, hw1⟩; replace hw1 := hw1.symm; subst hw1)
          | (go_at_call 74; refine (rsign_any (str s) _).mono ?_; rintro e w1 ⟨rfl, hw1⟩; replace hw1 := hw1.symm; subst hw1))
        go_ret
        exact ⟨rfl, below_drewN (hB _) _⟩
      · have g3 : decide (0 ≤ p) = false := decide_eq_false h3
        have hr : r = false := by rw [HR.out]; exact fd_p h3
        subst hr
        clear HR
        go_enter Try.func63, Try.ntmps63
        go_wp2
        go_quiet (fail)
        go_wp2_with (first
          | (go_at_call 31; refine (rname_any s _ hs).mono ?_; rintro e w1 ⟨rfl, hw1⟩; replace hw1 := hw1.symm; subst hw1)
          | (go_at_call 33; refine (rtypeName_any s _ hs).mono ?_; rintro e w1 ⟨rfl, hw1⟩; replace hw1 := hw1.symm; subst hw1)
          | (go_at_call 74; refine (rsign_any (str s) _).mono ?_; rintro e w1 ⟨rfl, hw1⟩; replace hw1 := hw1.symm; subst hw1))
        go_ret
        exact ⟨rfl, below_drewN (hB _) _⟩
    · have g1 : (n == 0) = false := by simpa using h1
      by_cases h2 : n = 1
      · have g2 : (n == 1) = true := by simpa using h2
        by_cases h3 : 0 ≤ p
        · have g3 : decide (0 ≤ p) = true := decide_eq_true h3
          have hr : r = true := by rw [HR.out]; exact fd_y (by first | exact t1 | (simp only [txB]; simp_all [nmS, tnS, emS])) (by first | (simp_all [nuB]; done) | (simp_all [nuB]; omega)) h3 (by omega)
          subst hr
          clear HR
          go_enter Try.func63, Try.ntmps63
          go_wp2
          go_quiet (fail)
          go_wp2_with (first
            | (go_at_call 31; refine (rname_any s _ hs).mono ?_; rintro e w1 ⟨rfl, hw1⟩; replace hw1 := hw1.symm; subst hw1)
            | (go_at_call 33; refine (rtypeName_any s _ hs).mono ?_; rintro e w1 ⟨rfl, hw1⟩; replace hw1 := hw1.symm; subst hw1)
            | (go_at_call 74; refine (rsign_any (str s) _).mono ?_; rintro e w1 ⟨rfl, hw1⟩; replace hw1 := hw1.symm; subst hw1))
          go_ret
          exact ⟨rfl, below_drewN (hB _) _⟩
        · have g3 : decide (0 ≤ p) = false := decide_eq_false h3
          have hr : r = false := by rw [HR.out]; exact fd_p h3
          subst hr
          clear HR
          go_enter Try.func63, Try.ntmps63
          go_wp2
          go_quiet (fail)
          go_wp2_with (first
            | (go_at_call 31; refine (rname_any s _ hs).mono ?_; rintro e w1 ⟨rfl, hw1⟩; replace hw1 := hw1.symm; subst hw1)
            | (go_at_call 33; refine (rtypeName_any s _ hs).mono ?_; rintro e w1 ⟨rfl, hw1⟩; replace hw1 := hw1.symm; subst hw1)
            | (go_at_call 74; refine (rsign_any (str s) _).mono ?_; rintro e w1 ⟨rfl, hw1⟩; replace hw1 := hw1.symm; subst hw1))
          go_ret
          exact ⟨rfl, below_drewN (hB _) _⟩
      · have g2 : (n == 1) = false := by simpa using h2
        have hr : r = false := by rw [HR.out]; exact fd_n (by first | (simp_all [nuB]; done) | (simp_all [nuB]; omega))
        subst hr
        clear HR
        go_enter Try.func63, Try.ntmps63
        go_wp2
        go_quiet (fail)
        go_wp2_with (first
          | (go_at_call 31; refine (rname_any s _ hs).mono ?_; rintro e w1 ⟨rfl, hw1⟩; replace hw1 := hw1.symm; subst hw1)
          | (go_at_call 33; refine (rtypeName_any s _ hs).mono ?_; rintro e w1 ⟨rfl, hw1⟩; replace hw1 := hw1.symm; subst hw1)
          | (go_at_call 74; refine (rsign_any (str s) _).mono ?_; rintro e w1 ⟨rfl, hw1⟩; replace hw1 := hw1.symm; subst hw1))
        go_ret
        exact ⟨rfl, below_drewN (hB _) _⟩
  | false =>
    by_cases h1 : n = 0
    · have g1 : (n == 0) = true := by simpa using h1
      have hr : r = false := by rw [HR.out]; exact fd_s (by first | exact t1 | (simp only [txB]; simp_all [nmS, tnS, emS]))
      subst hr
      clear HR
      go_enter Try.func63, Try.ntmps63
      go_wp2
      go_quiet (fail)
      go_wp2_with (first
        | (go_at_call 31; refine (rname_any s _ hs).mono ?_; rintro e w1 ⟨rfl, hw1⟩; replace hw1 := hw1.symm; subst hw1)
        | (go_at_call 33; refine (rtypeName_any s _ hs).mono ?_; rintro e w1 ⟨rfl, hw1⟩; replace hw1 := hw1.symm; subst hw1)
        | (go_at_call 74; refine (rsign_any (str s) _).mono ?_; rintro e w1 ⟨rfl, hw1⟩; replace hw1 := hw1.symm; subst hw1))
      go_ret
      exact ⟨rfl, below_drewN (hB _) _⟩
    · have g1 : (n == 0) = false := by simpa using h1
      by_cases h2 : n = 1
      · have g2 : (n == 1) = true := by simpa using h2
        have hr : r = false := by rw [HR.out]; exact fd_s (by first | exact t1 | (simp only [txB]; simp_all [nmS, tnS, emS]))
        subst hr
        clear HR
        go_enter Try.func63, Try.ntmps63
        go_wp2
        go_quiet (fail)
        go_wp2_with (first
          | (go_at_call 31; refine (rname_any s _ hs).mono ?_; rintro e w1 ⟨rfl, hw1⟩; replace hw1 := hw1.symm; subst hw1)
          | (go_at_call 33; refine (rtypeName_any s _ hs).mono ?_; rintro e w1 ⟨rfl, hw1⟩; replace hw1 := hw1.symm; subst hw1)
          | (go_at_call 74; refine (rsign_any (str s) _).mono ?_; rintro e w1 ⟨rfl, hw1⟩; replace hw1 := hw1.symm; subst hw1))
        go_ret
        exact ⟨rfl, below_drewN (hB _) _⟩
      · have g2 : (n == 1) = false := by simpa using h2
        have hr : r = false := by rw [HR.out]; exact fd_s (by first | exact t1 | (simp only [txB]; simp_all [nmS, tnS, emS]))
        subst hr
        clear HR
        go_enter Try.func63, Try.ntmps63
        go_wp2
        go_quiet (fail)
        go_wp2_with (first
          | (go_at_call 31; refine (rname_any s _ hs).mono ?_; rintro e w1 ⟨rfl, hw1⟩; replace hw1 := hw1.symm; subst hw1)
          | (go_at_call 33; refine (rtypeName_any s _ hs).mono ?_; rintro e w1 ⟨rfl, hw1⟩; replace hw1 := hw1.symm; subst hw1)
          | (go_at_call 74; refine (rsign_any (str s) _).mono ?_; rintro e w1 ⟨rfl, hw1⟩; replace hw1 := hw1.symm; subst hw1))
        go_ret
        exact ⟨rfl, below_drewN (hB _) _⟩
set_option maxRecDepth 100000 in
set_option maxHeartbeats 4000000 in
theorem fd_32 (p n : Int) (s : List UInt8) (a : Option Addr) (m cap : Nat) (w : World) (hs : s.length ≤ maxLen) :
    Calls Try.prog 63 #[ndV ⟨32, p, n, s⟩ a m cap] w fun e w' => e = .returned (.bool (fdB ⟨32, p, n, s⟩)) ∧ Below w.heap.size w w' := by
  have hB : ∀ o, Below w.heap.size w (w.alloc o) := fun o => belA (Below.refl _ _)
  have A1 := At.new w (Ndo ⟨32, p, n, s⟩ a m cap)
  obtain ⟨c0, c1, c2, c3, c4, cf⟩ := A1.nd
  clear A1
  obtain ⟨r, hr⟩ : ∃ r, r = fdB ⟨32, p, n, s⟩ := ⟨_, rfl⟩
  rw [← hr]
  have HR : Hid (r = fdB ⟨32, p, n, s⟩) := hr
  clear hr
  cases t1 : isS (str s) with
  | true =>
    by_cases h1 : n = 0
    · have g1 : (n == 0) = true := by simpa using h1
      by_cases h3 : 0 ≤ p
      · have g3 : decide (0 ≤ p) = true := decide_eq_true h3
        have hr : r = true := by rw [HR.out]; exact fd_y (by first | exact t1 | (simp only [txB]; simp_all [nmS, tnS, emS])) (by first | (simp_all [nuB]; done) | (simp_all [nuB]; omega)) h3 (by omega)
        subst hr
        clear HR
        go_enter Try.func63, Try.ntmps63
        go_wp2
        go_quiet (fail)
        go_wp2_with (first
          | (go_at_call 31; refine (rname_any s _ hs).mono ?_; rintro e w1 ⟨rfl, hw1⟩; replace hw1 := hw1.symm; subst hw1)
          | (go_at_call 33; refine (rtypeName_any s _ hs).mono ?_; rintro e w1 ⟨rfl, hw1⟩; replace hw1 := hw1.symm; subst hw1)
          | (go_at_call 74; refine (rsign_any (str s) _).mono ?_; rintro e w1 ⟨rfl, hw1⟩; replace hw1 := hw1.symm; subst hw1))
        go_ret
        exact ⟨rfl, below_drewN (hB _) _⟩
      · have g3 : decide (0 ≤ p) = false := decide_eq_false h3
        have hr : r = false := by rw [HR.out]; exact fd_p h3
        subst hr
        clear HR
        go_enter Try.func63, Try.ntmps63
        go_wp2
        go_quiet (fail)
        go_wp2_with (first
          | (go_at_call 31; refine (rname_any s _ hs).mono ?_; rintro e w1 ⟨rfl, hw1⟩; replace hw1 := hw1.symm; subst hw1)
          | (go_at_call 33; refine (rtypeName_any s _ hs).mono ?_; rintro e w1 ⟨rfl, hw1⟩; replace hw1 := hw1.symm; subst hw1)
          | (go_at_call 74; refine (rsign_any (str s) _).mono ?_; rintro e w1 ⟨rfl, hw1⟩; replace hw1 := hw1.symm; subst hw1))
        go_ret
        exact ⟨rfl, below_drewN (hB _) _⟩
    · have g1 : (n == 0) = false := by simpa using h1
      have hr : r = false := by rw [HR.out]; exact fd_n (by first | (simp_all [nuB]; done) | (simp_all [nuB]; omega))
      subst hr
      clear HR
      go_enter Try.func63, Try.ntmps63
      go_wp2
      go_quiet (fail)
      go_wp2_with (first
        | (go_at_call 31; refine (rname_any s _ hs).mono ?_; rintro e w1 ⟨rfl, hw1⟩; replace hw1 := hw1.symm; subst hw1)
        | (go_at_call 33; refine (rtypeName_any s _ hs).mono ?_; rintro e w1 ⟨rfl, hw1⟩; replace hw1 := hw1.symm; subst hw1)
        | (go_at_call 74; refine (rsign_any (str s) _).mono ?_; rintro e w1 ⟨rfl, hw1⟩; replace hw1 := hw1.symm; subst hw1))
      go_ret
      exact ⟨rfl, below_drewN (hB _) _⟩
  | false =>
    have hr : r = false := by rw [HR.out]; exact fd_s (by first | exact t1 | (simp only [txB]; simp_all [nmS, tnS, emS]))
    subst hr
    clear HR
    go_enter Try.func63, Try.ntmps63
    go_wp2
    go_quiet (fail)
    go_wp2_with (first
      | (go_at_call 31; refine (rname_any s _ hs).mono ?_; rintro e w1 ⟨rfl, hw1⟩; replace hw1 := hw1.symm; subst hw1)
      | (go_at_call 33; refine (rtypeName_any s _ hs).mono ?_; rintro e w1 ⟨rfl, hw1⟩; replace hw1 := hw1.symm; subst hw1)
      | (go_at_call 74; refine (rsign_any (str s) _).mono ?_; rintro e w1 ⟨rfl, hw1⟩; replace hw1 := hw1.symm; subst hw1))
    go_ret
    exact ⟨rfl, below_drewN (hB _) _⟩
set_option maxRecDepth 100000 in
set_option maxHeartbeats 4000000 in
theorem fd_33 (p n : Int) (s : List UInt8) (a : Option Addr) (m cap : Nat) (w : World) (hs : s.length ≤ maxLen) :
    Calls Try.prog 63 #[ndV ⟨33, p, n, s⟩ a m cap] w fun e w' => e = .returned (.bool (fdB ⟨33, p, n, s⟩)) ∧ Below w.heap.size w w' := by
  have hB : ∀ o, Below w.heap.size w (w.alloc o) := fun o => belA (Below.refl _ _)
  have A1 := At.new w (Ndo ⟨33, p, n, s⟩ a m cap)
  obtain ⟨c0, c1, c2, c3, c4, cf⟩ := A1.nd
  clear A1
  obtain ⟨r, hr⟩ : ∃ r, r = fdB ⟨33, p, n, s⟩ := ⟨_, rfl⟩
  rw [← hr]
  have HR : Hid (r = fdB ⟨33, p, n, s⟩) := hr
  clear hr
  cases t1 : (nmB s && !isK (str s)) with
  | true =>
    by_cases h1 : n = 0
    · have g1 : (n == 0) = true := by simpa using h1
      by_cases h3 : 0 ≤ p
      · have g3 : decide (0 ≤ p) = true := decide_eq_true h3
        have hr : r = true := by rw [HR.out]; exact fd_y (by first | exact t1 | (simp only [txB]; simp_all [nmS, tnS, emS])) (by first | (simp_all [nuB]; done) | (simp_all [nuB]; omega)) h3 (by omega)
        subst hr
        clear HR
        go_enter Try.func63, Try.ntmps63
        go_wp2
        go_quiet (fail)
        go_wp2_with (first
          | (go_at_call 31; refine (rname_any s _ hs).mono ?_; rintro e w1 ⟨rfl, hw1⟩; replace hw1 := hw1.symm; subst hw1)
          | (go_at_call 33; refine (rtypeName_any s _ hs).mono ?_; rintro e w1 ⟨rfl, hw1⟩; replace hw1 := hw1.symm; subst hw1)
          | (go_at_call 74; refine (rsign_any (str s) _).mono ?_; rintro e w1 ⟨rfl, hw1⟩; replace hw1 := hw1.symm; subst hw1))
        go_ret
        exact ⟨rfl, below_drewN (hB _) _⟩
      · have g3 : decide (0 ≤ p) = false := decide_eq_false h3
        have hr : r = false := by rw [HR.out]; exact fd_p h3
        subst hr
        clear HR
        go_enter Try.func63, Try.ntmps63
        go_wp2
        go_quiet (fail)
        go_wp2_with (first
          | (go_at_call 31; refine (rname_any s _ hs).mono ?_; rintro e w1 ⟨rfl, hw1⟩; replace hw1 := hw1.symm; subst hw1)
          | (go_at_call 33; refine (rtypeName_any s _ hs).mono ?_; rintro e w1 ⟨rfl, hw1⟩; replace hw1 := hw1.symm; subst hw1)
          | (go_at_call 74; refine (rsign_any (str s) _).mono ?_; rintro e w1 ⟨rfl, hw1⟩; replace hw1 := hw1.symm; subst hw1))
        go_ret
        exact ⟨rfl, below_drewN (hB _) _⟩
    · have g1 : (n == 0) = false := by simpa using h1
      have hr : r = false := by rw [HR.out]; exact fd_n (by first | (simp_all [nuB]; done) | (simp_all [nuB]; omega))
      subst hr
      clear HR
      go_enter Try.func63, Try.ntmps63
      go_wp2
      go_quiet (fail)
      go_wp2_with (first
        | (go_at_call 31; refine (rname_any s _ hs).mono ?_; rintro e w1 ⟨rfl, hw1⟩; replace hw1 := hw1.symm; subst hw1)
        | (go_at_call 33; refine (rtypeName_any s _ hs).mono ?_; rintro e w1 ⟨rfl, hw1⟩; replace hw1 := hw1.symm; subst hw1)
        | (go_at_call 74; refine (rsign_any (str s) _).mono ?_; rintro e w1 ⟨rfl, hw1⟩; replace hw1 := hw1.symm; subst hw1))
      go_ret
      exact ⟨rfl, below_drewN (hB _) _⟩
  | false =>
    have hr : r = false := by rw [HR.out]; exact fd_s (by first | exact t1 | (simp only [txB]; simp_all [nmS, tnS, emS]))
    subst hr
    clear HR
    go_enter Try.func63, Try.ntmps63
    go_wp2
    go_quiet (fail)
    go_wp2_with (first
      | (go_at_call 31; refine (rname_any s _ hs).mono ?_; rintro e w1 ⟨rfl, hw1⟩; replace hw1 := hw1.symm; subst hw1)
      | (go_at_call 33; refine (rtypeName_any s _ hs).mono ?_; rintro e w1 ⟨rfl, hw1⟩; replace hw1 := hw1.symm; subst hw1)
      | (go_at_call 74; refine (rsign_any (str s) _).mono ?_; rintro e w1 ⟨rfl, hw1⟩; replace hw1 := hw1.symm; subst hw1))
    go_ret
    exact ⟨rfl, below_drewN (hB _) _⟩
set_option maxRecDepth 100000 in
set_option maxHeartbeats 4000000 in
theorem fd_34 (p n : Int) (s : List UInt8) (a : Option Addr) (m cap : Nat) (w : World) (hs : s.length ≤ maxLen) :
    Calls Try.prog 63 #[ndV ⟨34, p, n, s⟩ a m cap] w fun e w' => e = .returned (.bool (fdB ⟨34, p, n, s⟩)) ∧ Below w.heap.size w w' := by
  have hB : ∀ o, Below w.heap.size w (w.alloc o) := fun o => belA (Below.refl _ _)
  have A1 := At.new w (Ndo ⟨34, p, n, s⟩ a m cap)
  obtain ⟨c0, c1, c2, c3, c4, cf⟩ := A1.nd
  clear A1
  obtain ⟨r, hr⟩ : ∃ r, r = fdB ⟨34, p, n, s⟩ := ⟨_, rfl⟩
  rw [← hr]
  have HR : Hid (r = fdB ⟨34, p, n, s⟩) := hr
  clear hr
  cases t1 : (tnB s && !isBx (str s)) with
  | true =>
    by_cases h1 : n = 0
    · have g1 : (n == 0) = true := by simpa using h1
      by_cases h3 : 0 ≤ p
      · have g3 : decide (0 ≤ p) = true := decide_eq_true h3
        have hr : r = true := by rw [HR.out]; exact fd_y (by first | exact t1 | (simp only [txB]; simp_all [nmS, tnS, emS])) (by first | (simp_all [nuB]; done) | (simp_all [nuB]; omega)) h3 (by omega)
        subst hr
        clear HR
        go_enter Try.func63, Try.ntmps63
        go_wp2
        go_quiet (fail)
        go_wp2_with (first
          | (go_at_call 31; refine (rname_any s _ hs).mono ?_; rintro e w1 ⟨rfl, hw1⟩; replace hw1 := hw1.symm; subst hw1)
          | (go_at_call 33; refine (rtypeName_any s _ hs).mono ?_; rintro e w1 ⟨rfl, hw1⟩; replace hw1 := hw1.symm; subst hw1)
          | (go_at_call 74; refine (rsign_any (str s) _).mono ?_; rintro e w1 ⟨rfl, hw1⟩; replace hw1 := hw1.symm; subst hw1))
        go_ret
        exact ⟨rfl, below_drewN (hB _) _⟩
      · have g3 : decide (0 ≤ p) = false := decide_eq_false h3
        have hr : r = false := by rw [HR.out]; exact fd_p h3
        subst hr
        clear HR
        go_enter Try.func63, Try.ntmps63
        go_wp2
        go_quiet (fail)
        go_wp2_with (first
          | (go_at_call 31; refine (rname_any s _ hs).mono ?_; rintro e w1 ⟨rfl, hw1⟩; replace hw1 := hw1.symm; subst hw1)
          | (go_at_call 33; refine (rtypeName_any s _ hs).mono ?_; rintro e w1 ⟨rfl, hw1⟩; replace hw1 := hw1.symm; subst hw1)
          | (go_at_call 74; refine (rsign_any (str s) _).mono ?_; rintro e w1 ⟨rfl, hw1⟩; replace hw1 := hw1.symm; subst hw1))
        go_ret
        exact ⟨rfl, below_drewN (hB _) _⟩
    · have g1 : (n == 0) = false := by simpa using h1
      have hr : r = false := by rw [HR.out]; exact fd_n (by first | (simp_all [nuB]; done) | (simp_all [nuB]; omega))
      subst hr
      clear HR
      go_enter Try.func63, Try.ntmps63
      go_wp2
      go_quiet (fail)
      go_wp2_with (first
        | (go_at_call 31; refine (rname_any s _ hs).mono ?_; rintro e w1 ⟨rfl, hw1⟩; replace hw1 := hw1.symm; subst hw1)
        | (go_at_call 33; refine (rtypeName_any s _ hs).mono ?_; rintro e w1 ⟨rfl, hw1⟩; replace hw1 := hw1.symm; subst hw1)
        | (go_at_call 74; refine (rsign_any (str s) _).mono ?_; rintro e w1 ⟨rfl, hw1⟩; replace hw1 := hw1.symm; subst hw1))
      go_ret
      exact ⟨rfl, below_drewN (hB _) _⟩
  | false =>
    have hr : r = false := by rw [HR.out]; exact fd_s (by first | exact t1 | (simp only [txB]; simp_all [nmS, tnS, emS]))
    subst hr
    clear HR
    go_enter Try.func63, Try.ntmps63
    go_wp2
    go_quiet (fail)
    go_wp2_with (first
      | (go_at_call 31; refine (rname_any s _ hs).mono ?_; rintro e w1 ⟨rfl, hw1⟩; replace hw1 := hw1.symm; subst hw1)
      | (go_at_call 33; refine (rtypeName_any s _ hs).mono ?_; rintro e w1 ⟨rfl, hw1⟩; replace hw1 := hw1.symm; subst hw1)
      | (go_at_call 74; refine (rsign_any (str s) _).mono ?_; rintro e w1 ⟨rfl, hw1⟩; replace hw1 := hw1.symm; subst hw1))
    go_ret
    exact ⟨rfl, below_drewN (hB _) _⟩
set_option maxRecDepth 100000 in
set_option maxHeartbeats 4000000 in
theorem fd_35 (p n : Int) (s : List UInt8) (a : Option Addr) (m cap : Nat) (w : World) (hs : s.length ≤ maxLen) :
    Calls Try.prog 63 #[ndV ⟨35, p, n, s⟩ a m cap] w fun e w' => e = .returned (.bool (fdB ⟨35, p, n, s⟩)) ∧ Below w.heap.size w w' := by
  have hB : ∀ o, Below w.heap.size w (w.alloc o) := fun o => belA (Below.refl _ _)
  have A1 := At.new w (Ndo ⟨35, p, n, s⟩ a m cap)
  obtain ⟨c0, c1, c2, c3, c4, cf⟩ := A1.nd
  clear A1
  obtain ⟨r, hr⟩ : ∃ r, r = fdB ⟨35, p, n, s⟩ := ⟨_, rfl⟩
  rw [← hr]
  have HR : Hid (r = fdB ⟨35, p, n, s⟩) := hr
  clear hr
  cases t1 : (nmB s && !isK (str s)) with
  | true =>
    by_cases h1 : n = 0
    · have g1 : (n == 0) = true := by simpa using h1
      by_cases h3 : 0 ≤ p
      · have g3 : decide (0 ≤ p) = true := decide_eq_true h3
        have hr : r = true := by rw [HR.out]; exact fd_y (by first | exact t1 | (simp only [txB]; simp_all [nmS, tnS, emS])) (by first | (simp_all [nuB]; done) | (simp_all [nuB]; omega)) h3 (by omega)
        subst hr
        clear HR
        go_enter Try.func63, Try.ntmps63
        go_wp2
        go_quiet (fail)
        go_wp2_with (first
          | (go_at_call 31; refine (rname_any s _ hs).mono ?_; rintro e w1 ⟨rfl, hw1⟩; replace hw1 := hw1.symm; subst hw1)
          | (go_at_call 33; refine (rtypeName_any s _ hs).mono ?_; rintro e w1 ⟨rfl, hw1⟩; replace hw1 := hw1.symm; subst hw1)
          | (go_at_call 74; refine (rsign_any (str s) _).mono ?_; rintro e w1 ⟨rfl, hw1⟩; replace hw1 := hw1.symm; subst hw1))
        go_ret
        exact ⟨rfl, below_drewN (hB _) _⟩
      · have g3 : decide (0 ≤ p) = false := decide_eq_false h3
        have hr : r = false := by rw [HR.out]; exact fd_p h3
        subst hr
        clear HR
        go_enter Try.func63, Try.ntmps63
        go_wp2
        go_quiet (fail)
        go_wp2_with (first
          | (go_at_call 31; refine (rname_any s _ hs).mono ?_; rintro e w1 ⟨rfl, hw1⟩; replace hw1 := hw1.symm; subst hw1)
          | (go_at_call 33; refine (rtypeName_any s _ hs).mono ?_; rintro e w1 ⟨rfl, hw1⟩; replace hw1 := hw1.symm; subst hw1)
          | (go_at_call 74; refine (rsign_any (str s) _).mono ?_; rintro e w1 ⟨rfl, hw1⟩; replace hw1 := hw1.symm; subst hw1))
        go_ret
        exact ⟨rfl, below_drewN (hB _) _⟩
    · have g1 : (n == 0) = false := by simpa using h1
      have hr : r = false := by rw [HR.out]; exact fd_n (by first | (simp_all [nuB]; done) | (simp_all [nuB]; omega))
      subst hr
      clear HR
      go_enter Try.func63, Try.ntmps63
      go_wp2
      go_quiet (fail)
      go_wp2_with (first
        | (go_at_call 31; refine (rname_any s _ hs).mono ?_; rintro e w1 ⟨rfl, hw1⟩; replace hw1 := hw1.symm; subst hw1)
        | (go_at_call 33; refine (rtypeName_any s _ hs).mono ?_; rintro e w1 ⟨rfl, hw1⟩; replace hw1 := hw1.symm; subst hw1)
        | (go_at_call 74; refine (rsign_any (str s) _).mono ?_; rintro e w1 ⟨rfl, hw1⟩; replace hw1 := hw1.symm; subst hw1))
      go_ret
      exact ⟨rfl, below_drewN (hB _) _⟩
  | false =>
    have hr : r = false := by rw [HR.out]; exact fd_s (by first | exact t1 | (simp only [txB]; simp_all [nmS, tnS, emS]))
    subst hr
    clear HR
    go_enter Try.func63, Try.ntmps63
    go_wp2
    go_quiet (fail)
    go_wp2_with (first
      | (go_at_call 31; refine (rname_any s _ hs).mono ?_; rintro e w1 ⟨rfl, hw1⟩; replace hw1 := hw1.symm; subst hw1)
      | (go_at_call 33; refine (rtypeName_any s _ hs).mono ?_; rintro e w1 ⟨rfl, hw1⟩; replace hw1 := hw1.symm; subst hw1)
      | (go_at_call 74; refine (rsign_any (str s) _).mono ?_; rintro e w1 ⟨rfl, hw1⟩; replace hw1 := hw1.symm; subst hw1))
    go_ret
    exact ⟨rfl, below_drewN (hB _) _⟩
set_option maxRecDepth 100000 in
set_option maxHeartbeats 4000000 in
theorem fd_other (k : Nat) (x2 : ¬ k = 2) (x3 : ¬ k = 3) (x4 : ¬ k = 4) (x5 : ¬ k = 5) (x6 : ¬ k = 6) (x7 : ¬ k = 7) (x11 : ¬ k = 11) (x12 : ¬ k = 12) (x14 : ¬ k = 14) (x16 : ¬ k = 16) (x24 : ¬ k = 24) (x25 : ¬ k = 25) (x26 : ¬ k = 26) (x27 : ¬ k = 27) (x29 : ¬ k = 29) (x32 : ¬ k = 32) (x33 : ¬ k = 33) (x34 : ¬ k = 34) (x35 : ¬ k = 35) (p n : Int) (s : List UInt8) (a : Option Addr) (m cap : Nat) (w : World) (hs : s.length ≤ maxLen) :
    Calls Try.prog 63 #[ndV ⟨k, p, n, s⟩ a m cap] w fun e w' => e = .returned (.bool (fdB ⟨k, p, n, s⟩)) ∧ Below w.heap.size w w' := by
  have hB : ∀ o, Below w.heap.size w (w.alloc o) := fun o => belA (Below.refl _ _)
  have A1 := At.new w (Ndo ⟨k, p, n, s⟩ a m cap)
  obtain ⟨c0, c1, c2, c3, c4, cf⟩ := A1.nd
  clear A1
  obtain ⟨r, hr⟩ : ∃ r, r = fdB ⟨k, p, n, s⟩ := ⟨_, rfl⟩
  rw [← hr]
  have HR : Hid (r = fdB ⟨k, p, n, s⟩) := hr
  clear hr
  have y2 : ((k : Int) == 2) = false := by simpa using (by omega : ¬ (k : Int) = 2)
  have y3 : ((k : Int) == 3) = false := by simpa using (by omega : ¬ (k : Int) = 3)
  have y4 : ((k : Int) == 4) = false := by simpa using (by omega : ¬ (k : Int) = 4)
  have y5 : ((k : Int) == 5) = false := by simpa using (by omega : ¬ (k : Int) = 5)
  have y6 : ((k : Int) == 6) = false := by simpa using (by omega : ¬ (k : Int) = 6)
  have y7 : ((k : Int) == 7) = false := by simpa using (by omega : ¬ (k : Int) = 7)
  have y11 : ((k : Int) == 11) = false := by simpa using (by omega : ¬ (k : Int) = 11)
  have y12 : ((k : Int) == 12) = false := by simpa using (by omega : ¬ (k : Int) = 12)
  have y14 : ((k : Int) == 14) = false := by simpa using (by omega : ¬ (k : Int) = 14)
  have y16 : ((k : Int) == 16) = false := by simpa using (by omega : ¬ (k : Int) = 16)
  have y24 : ((k : Int) == 24) = false := by simpa using (by omega : ¬ (k : Int) = 24)
  have y25 : ((k : Int) == 25) = false := by simpa using (by omega : ¬ (k : Int) = 25)
  have y26 : ((k : Int) == 26) = false := by simpa using (by omega : ¬ (k : Int) = 26)
  have y27 : ((k : Int) == 27) = false := by simpa using (by omega : ¬ (k : Int) = 27)
  have y29 : ((k : Int) == 29) = false := by simpa using (by omega : ¬ (k : Int) = 29)
  have y32 : ((k : Int) == 32) = false := by simpa using (by omega : ¬ (k : Int) = 32)
  have y33 : ((k : Int) == 33) = false := by simpa using (by omega : ¬ (k : Int) = 33)
  have y34 : ((k : Int) == 34) = false := by simpa using (by omega : ¬ (k : Int) = 34)
  have y35 : ((k : Int) == 35) = false := by simpa using (by omega : ¬ (k : Int) = 35)
  cases t1 : (str s).toList.isEmpty with
  | true =>
    by_cases h1 : n = 0
    · have g1 : (n == 0) = true := by simpa using h1
      by_cases h3 : 0 ≤ p
      · have g3 : decide (0 ≤ p) = true := decide_eq_true h3
        by_cases h4 : 1 ≤ k
        · have g4 : decide (1 ≤ (k : Int)) = true := decide_eq_true (by omega)
          by_cases h5 : k ≤ 37
          · have g5 : decide ((k : Int) ≤ 37) = true := decide_eq_true (by omega)
            have hr : r = true := by rw [HR.out]; exact fd_y (by unfold txB; simp only [*, if_false, or_self]; exact t1) (by rw [nu_other (by omega) (by omega) (by omega) (by omega) (by omega) (by omega) (by omega)]; simp_all) h3 ⟨h4, h5⟩
            subst hr
            clear HR
            go_enter Try.func63, Try.ntmps63
            go_wp2
            go_quiet (fail)
            go_wp2_with (first
              | (go_at_call 31; refine (rname_any s _ hs).mono ?_; rintro e w1 ⟨rfl, hw1⟩; replace hw1 := hw1.symm; subst hw1)
              | (go_at_call 33; refine (rtypeName_any s _ hs).mono ?_; rintro e w1 ⟨rfl, hw1⟩; replace hw1 := hw1.symm; subst hw1)
              | (go_at_call 74; refine (rsign_any (str s) _).mono ?_; rintro e w1 ⟨rfl, hw1⟩; replace hw1 := hw1.symm; subst hw1))
            go_ret
            exact ⟨rfl, below_drewN (hB _) _⟩
          · have g5 : decide ((k : Int) ≤ 37) = false := decide_eq_false (by omega)
            have hr : r = false := by rw [HR.out]; exact fd_k (by omega)
            subst hr
            clear HR
            go_enter Try.func63, Try.ntmps63
            go_wp2
            go_quiet (fail)
            go_wp2_with (first
              | (go_at_call 31; refine (rname_any s _ hs).mono ?_; rintro e w1 ⟨rfl, hw1⟩; replace hw1 := hw1.symm; subst hw1)
              | (go_at_call 33; refine (rtypeName_any s _ hs).mono ?_; rintro e w1 ⟨rfl, hw1⟩; replace hw1 := hw1.symm; subst hw1)
              | (go_at_call 74; refine (rsign_any (str s) _).mono ?_; rintro e w1 ⟨rfl, hw1⟩; replace hw1 := hw1.symm; subst hw1))
            go_ret
            exact ⟨rfl, below_drewN (hB _) _⟩
        · have g4 : decide (1 ≤ (k : Int)) = false := decide_eq_false (by omega)
          have hr : r = false := by rw [HR.out]; exact fd_k (by omega)
          subst hr
          clear HR
          go_enter Try.func63, Try.ntmps63
          go_wp2
          go_quiet (fail)
          go_wp2_with (first
            | (go_at_call 31; refine (rname_any s _ hs).mono ?_; rintro e w1 ⟨rfl, hw1⟩; replace hw1 := hw1.symm; subst hw1)
            | (go_at_call 33; refine (rtypeName_any s _ hs).mono ?_; rintro e w1 ⟨rfl, hw1⟩; replace hw1 := hw1.symm; subst hw1)
            | (go_at_call 74; refine (rsign_any (str s) _).mono ?_; rintro e w1 ⟨rfl, hw1⟩; replace hw1 := hw1.symm; subst hw1))
          go_ret
          exact ⟨rfl, below_drewN (hB _) _⟩
      · have g3 : decide (0 ≤ p) = false := decide_eq_false h3
        have hr : r = false := by rw [HR.out]; exact fd_p h3
        subst hr
        clear HR
        go_enter Try.func63, Try.ntmps63
        go_wp2
        go_quiet (fail)
        go_wp2_with (first
          | (go_at_call 31; refine (rname_any s _ hs).mono ?_; rintro e w1 ⟨rfl, hw1⟩; replace hw1 := hw1.symm; subst hw1)
          | (go_at_call 33; refine (rtypeName_any s _ hs).mono ?_; rintro e w1 ⟨rfl, hw1⟩; replace hw1 := hw1.symm; subst hw1)
          | (go_at_call 74; refine (rsign_any (str s) _).mono ?_; rintro e w1 ⟨rfl, hw1⟩; replace hw1 := hw1.symm; subst hw1))
        go_ret
        exact ⟨rfl, below_drewN (hB _) _⟩
    · have g1 : (n == 0) = false := by simpa using h1
      have hr : r = false := by rw [HR.out]; exact fd_n (by rw [nu_other (by omega) (by omega) (by omega) (by omega) (by omega) (by omega) (by omega)]; simp_all)
      subst hr
      clear HR
      go_enter Try.func63, Try.ntmps63
      go_wp2
      go_quiet (fail)
      go_wp2_with (first
        | (go_at_call 31; refine (rname_any s _ hs).mono ?_; rintro e w1 ⟨rfl, hw1⟩; replace hw1 := hw1.symm; subst hw1)
        | (go_at_call 33; refine (rtypeName_any s _ hs).mono ?_; rintro e w1 ⟨rfl, hw1⟩; replace hw1 := hw1.symm; subst hw1)
        | (go_at_call 74; refine (rsign_any (str s) _).mono ?_; rintro e w1 ⟨rfl, hw1⟩; replace hw1 := hw1.symm; subst hw1))
      go_ret
      exact ⟨rfl, below_drewN (hB _) _⟩
  | false =>
    have hr : r = false := by rw [HR.out]; exact fd_s (by unfold txB; simp only [*, if_false, or_self]; exact t1)
    subst hr
    clear HR
    go_enter Try.func63, Try.ntmps63
    go_wp2
    go_quiet (fail)
    go_wp2_with (first
      | (go_at_call 31; refine (rname_any s _ hs).mono ?_; rintro e w1 ⟨rfl, hw1⟩; replace hw1 := hw1.symm; subst hw1)
      | (go_at_call 33; refine (rtypeName_any s _ hs).mono ?_; rintro e w1 ⟨rfl, hw1⟩; replace hw1 := hw1.symm; subst hw1)
      | (go_at_call 74; refine (rsign_any (str s) _).mono ?_; rintro e w1 ⟨rfl, hw1⟩; replace hw1 := hw1.symm; subst hw1))
    go_ret
    exact ⟨rfl, below_drewN (hB _) _⟩
theorem fields_any (x : Nx) (a : Option Addr) (m cap : Nat) (w : World) (hs : x.s.length ≤ maxLen) :
    Calls Try.prog 63 #[ndV x a m cap] w fun e w' => e = .returned (.bool (fdB x)) ∧ Below w.heap.size w w' := by
  obtain ⟨k, p, n, s⟩ := x
  by_cases x2 : k = 2
  · subst x2; exact fd_2 p n s a m cap w hs
  by_cases x3 : k = 3
  · subst x3; exact fd_3 p n s a m cap w hs
  by_cases x4 : k = 4
  · subst x4; exact fd_4 p n s a m cap w hs
  by_cases x5 : k = 5
  · subst x5; exact fd_5 p n s a m cap w hs
  by_cases x6 : k = 6
  · subst x6; exact fd_6 p n s a m cap w hs
  by_cases x7 : k = 7
  · subst x7; exact fd_7 p n s a m cap w hs
  by_cases x11 : k = 11
  · subst x11; exact fd_11 p n s a m cap w hs
  by_cases x12 : k = 12
  · subst x12; exact fd_12 p n s a m cap w hs
  by_cases x14 : k = 14
  · subst x14; exact fd_14 p n s a m cap w hs
  by_cases x16 : k = 16
  · subst x16; exact fd_16 p n s a m cap w hs
  by_cases x24 : k = 24
  · subst x24; exact fd_24 p n s a m cap w hs
  by_cases x25 : k = 25
  · subst x25; exact fd_25 p n s a m cap w hs
  by_cases x26 : k = 26
  · subst x26; exact fd_26 p n s a m cap w hs
  by_cases x27 : k = 27
  · subst x27; exact fd_27 p n s a m cap w hs
  by_cases x29 : k = 29
  · subst x29; exact fd_29 p n s a m cap w hs
  by_cases x32 : k = 32
  · subst x32; exact fd_32 p n s a m cap w hs
  by_cases x33 : k = 33
  · subst x33; exact fd_33 p n s a m cap w hs
  by_cases x34 : k = 34
  · subst x34; exact fd_34 p n s a m cap w hs
  by_cases x35 : k = 35
  · subst x35; exact fd_35 p n s a m cap w hs
  exact fd_other k x2 x3 x4 x5 x6 x7 x11 x12 x14 x16 x24 x25 x26 x27 x29 x32 x33 x34 x35 p n s a m cap w hs
end Go.Proofs.Ytkidcmglidnaoaa
