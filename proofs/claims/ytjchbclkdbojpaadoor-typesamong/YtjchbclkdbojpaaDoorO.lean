import Derived.Test.YtjchbclkdbojpaaDoorN
namespace Go.Proofs.YtjchbclkdbojpaaDoor
open Go.RowKit
set_option linter.unusedVariables false
set_option linter.unusedSimpArgs false

/-- Digits, as long as they are those of a number that is not too great. -/
def nmG (S : List UInt8) (most : Int) (fr : Nat) : Nat → Int → Nat → Int × Nat
  | 0, n, p => (n, p)
  | fuel + 1, n, p => if (48 ≤ ah S p ∧ ah S p ≤ 57) ∧ ¬ ((most - ((ah S p : Int) - 48)).tdiv 10 < n ∨ (n = 0 ∧ fr < p)) then nmG S most fr fuel (n * 10 + ((ah S p : Int) - 48)) (p + 1) else (n, p)
def nm (S : List UInt8) (most : Int) (p : Nat) : Int × Nat := nmG S most p (S.length - p) 0 p
/-- A number within its bounds, a place in the text. -/
def InR (S : List UInt8) (most : Int) (R : Int × Nat) : Prop := R.2 ≤ S.length ∧ 0 ≤ R.1 ∧ R.1 ≤ most
/-- Where a reader stands. -/
def posOf (b : Nat) (W : World) : Nat := match W.cell? ⟨b, 1, none⟩ with | some (.int _ k) => k.toNat | _ => 0
theorem posOf_rd {b : Nat} {S : List UInt8} {p t : Nat} {W : World} (h : Rd b S p t W) : posOf b W = p := by
  unfold posOf
  rw [h.two.2]
  simp
theorem quo_fits {most n d : Int} (h0 : 0 ≤ n) (hd : 0 ≤ d) (hm : d ≤ most) (h : ¬ (most - d).tdiv 10 < n) : n * 10 + d ≤ most := by
  rw [Int.tdiv_eq_ediv_of_nonneg (by omega)] at h
  omega
set_option maxRecDepth 100000 in
set_option maxHeartbeats 4000000 in
theorem number_any (b : Nat) (S : List UInt8) (most : Int) (hm0 : 9 ≤ most) (hm1 : most ≤ 9223372036854775807) (p : Nat) (w : World) (h : Rd b S p 114 w) (hp : p ≤ S.length) (hS : S.length ≤ 16384) :
    Calls Tryd.prog 91 #[.pointer (some ⟨b, 0, none⟩), .int .i64 most] w fun e w' => e = .returned (.tuple #[.int .i64 (nm S most p).1, .bool (decide (p < (nm S most p).2))]) ∧ Rd b S (nm S most p).2 114 w' ∧ But b w w' ∧ InR S most (nm S most p) := by
  obtain ⟨R, hR⟩ : ∃ R, R = nm S most p := ⟨_, rfl⟩
  rw [← hR]
  have HR : Hid (R = nm S most p) := hR
  have HRd0 : Hid (Rd b S p 114 w) := h
  obtain ⟨c0, c1⟩ := h.two
  have HS : Hid (S.length ≤ 16384) := hS
  have HP : Hid (p ≤ S.length) := hp
  clear hR h hp hS
  go_enter Tryd.func91, Tryd.ntmps91
  go_wp2_with fail
  go_quiet (fail)
  go_wp2_with fail
  go_loopw [6] (fun v W => ∃ (n : Int) (q : Nat), v = .int .i64 n ∧ p ≤ q ∧ q ≤ S.length ∧ R = nmG S most p (S.length - q) n q ∧ 0 ≤ n ∧ n ≤ most ∧ Rd b S q 114 W ∧ But b w W) (fun _ W => S.length - posOf b W)
  case atStart => exact ⟨0, p, rfl, Nat.le_refl _, HP.out, HR.out, by omega, by omega, HRd0.out, But.below (belN (Below.refl _ _) _)⟩
  case round =>
    obtain ⟨n, q, rfl, hpq, hq, hRq, hn0, hn1, hRd, hB⟩ := hrel
    have HRq : Hid (R = nmG S most p (S.length - q) n q) := hRq
    have HRd : Hid (Rd b S q 114 wr) := hRd
    have HQ : Hid (q ≤ S.length) := hq
    obtain ⟨x, hx⟩ : ∃ x, x = ah S q := ⟨_, rfl⟩
    have HX : Hid (x = ah S q) := hx
    have x255 : x ≤ 255 := by rw [hx]; exact ah_le S q
    have CA : Hid (∀ W, Below wr.heap.size wr W → Calls Tryd.prog 89 #[.pointer (some ⟨b, 0, none⟩)] W fun e w' => e = .returned (.int .u8 (x : Int)) ∧ Below W.heap.size W w') := fun W hW => by
      rw [hx]
      exact ahead_any b S q W (HRd.out.below hW) HQ.out HS.out
    have STOP : Hid (¬ ((48 ≤ x ∧ x ≤ 57) ∧ ¬ ((most - ((x : Int) - 48)).tdiv 10 < n ∨ (n = 0 ∧ p < q))) → R = (n, q)) := fun hno => by
      rw [HRq.out]
      cases hf : S.length - q with
      | zero => rfl
      | succ k => rw [nmG, if_neg (by rw [← HX.out]; exact hno)]
    have GO : Hid (((48 ≤ x ∧ x ≤ 57) ∧ ¬ ((most - ((x : Int) - 48)).tdiv 10 < n ∨ (n = 0 ∧ p < q))) → q < S.length ∧ R = nmG S most p (S.length - (q + 1)) (n * 10 + ((x : Int) - 48)) (q + 1)) := fun hyes => by
      have hl : q < S.length := ah_lt (by rw [← HX.out]; omega)
      refine ⟨hl, ?_⟩
      rw [HRq.out, show S.length - q = (S.length - (q + 1)) + 1 by omega, nmG, if_pos (by rw [← HX.out]; exact hyes), ← HX.out]
    have hbl : b < wr.heap.size := hRd.lt
    clear hx hRd hRq HR HRd0 hq c0 c1
    have STF : Hid (∀ W W', Below wr.heap.size wr W → Below W.heap.size W W' → Rd b S q 114 W' ∧ But b w W' ∧ InR S most (n, q)) := fun W W' h1 h2 => by
      exact ⟨(HRd.out.below h1).below h2, (hB.trans (But.below h1)).trans (But.below h2), HQ.out, hn0, hn1⟩
    have st1 : Stg 1 := .mk 1
    by_cases x48 : 48 ≤ x
    · have y48 : (48 : Int) ≤ (x : Int) := by omega
      by_cases x57 : x ≤ 57
      · have y57 : (x : Int) ≤ 57 := by omega
        have u1 : IntKind.u8.wrap ((x : Int) - 48) = (x : Int) - 48 := by simp [IntKind.wrap, IntKind.signed, IntKind.bits]; omega
        have u2 : IntKind.i64.wrap ((x : Int) - 48) = (x : Int) - 48 := by rw [IntKind.wrap_i64]; omega
        obtain ⟨d, hd⟩ : ∃ d : Int, d = (x : Int) - 48 := ⟨_, rfl⟩
        have d0 : 0 ≤ d := by omega
        have d9 : d ≤ 9 := by omega
        have u3 : IntKind.i64.wrap (most - d) = most - d := by rw [IntKind.wrap_i64]; omega
        rw [← hd] at u1 u2
        rw [← hd] at STOP GO
        have u0 : (x : Int) - 48 = d := hd.symm
        have HD : Hid (d = (x : Int) - 48) := hd
        clear hd
        obtain ⟨Q, hQ⟩ : ∃ Q : Int, (most - d).tdiv 10 = Q := ⟨_, rfl⟩
        have Q1 : Q ≤ most := by rw [← hQ, Int.tdiv_eq_ediv_of_nonneg (by omega)]; omega
        have Q0 : 0 ≤ Q := by rw [← hQ, Int.tdiv_eq_ediv_of_nonneg (by omega)]; omega
        have u4 : IntKind.i64.wrap Q = Q := by rw [IntKind.wrap_i64]; omega
        have HQF : Hid (¬ Q < n → n * 10 + d ≤ most) := fun hh => quo_fits hn0 d0 (by omega) (by rw [hQ]; exact hh)
        rw [hQ] at STOP GO
        by_cases q1 : Q < n
        · obtain rfl := STOP.out (by intro hh; exact hh.2 (.inl q1))
          clear STOP GO HQF
          go_wp2_with (first
            | (have _s := st1; clear st1 _s; go_at_call 89; refine (CA.out _ (Below.refl _ _)).mono ?_; rintro e w1 ⟨rfl, hb1⟩; have st2 : Stg 2 := .mk 2; have B1 := hb1; obtain ⟨c0, c1⟩ := (HRd.out.below B1).two)
            | (have _s := st2; clear st2 _s; go_at_call 89; refine (CA.out _ B1).mono ?_; rintro e w2 ⟨rfl, hb2⟩; have st3 : Stg 3 := .mk 3; have B2 := below_aft B1 hb2; clear c0 c1; obtain ⟨c0, c1⟩ := (HRd.out.below B2).two)
            | (have _s := st3; clear st3 _s; go_at_call 89; refine (CA.out _ B2).mono ?_; rintro e w3 ⟨rfl, hb3⟩; have B3 := below_aft B2 hb3; clear c0 c1; obtain ⟨c0, c1⟩ := (HRd.out.below B3).two; have f1 := At.twoF (HRd.out.below B3) 1))
          go_quiet (fail)
          go_wp2_with fail
          go_ret2
          exact ⟨by simp, STF.out w3 _ B3 (belN (Below.refl _ _) _)⟩
        · by_cases n0 : n = 0
          · subst n0
            by_cases fq : p < q
            · have fq' : (p : Int) < (q : Int) := by omega
              obtain rfl := STOP.out (by intro hh; exact hh.2 (.inr ⟨rfl, fq⟩))
              clear STOP GO HQF
              go_wp2_with (first
                | (have _s := st1; clear st1 _s; go_at_call 89; refine (CA.out _ (Below.refl _ _)).mono ?_; rintro e w1 ⟨rfl, hb1⟩; have st2 : Stg 2 := .mk 2; have B1 := hb1; obtain ⟨c0, c1⟩ := (HRd.out.below B1).two)
                | (have _s := st2; clear st2 _s; go_at_call 89; refine (CA.out _ B1).mono ?_; rintro e w2 ⟨rfl, hb2⟩; have st3 : Stg 3 := .mk 3; have B2 := below_aft B1 hb2; clear c0 c1; obtain ⟨c0, c1⟩ := (HRd.out.below B2).two)
                | (have _s := st3; clear st3 _s; go_at_call 89; refine (CA.out _ B2).mono ?_; rintro e w3 ⟨rfl, hb3⟩; have B3 := below_aft B2 hb3; clear c0 c1; obtain ⟨c0, c1⟩ := (HRd.out.below B3).two; have f1 := At.twoF (HRd.out.below B3) 1))
              go_quiet (fail)
              go_wp2_with fail
              go_ret2
              exact ⟨by simp, STF.out w3 _ B3 (belN (Below.refl _ _) _)⟩
            · have fq' : ¬ (p : Int) < (q : Int) := by omega
              have G := GO.out ⟨by omega, by intro hh; rcases hh with hh | hh; exact q1 hh; exact fq hh.2⟩
              have HG1 : Hid (q < S.length) := G.1
              have HG2 : Hid (R = nmG S most p (S.length - (q + 1)) (0 * 10 + d) (q + 1)) := G.2
              have hle := HQF.out q1
              clear G STOP GO HQF
              have u5 : IntKind.i64.wrap (0 * 10) = 0 * 10 := by rw [IntKind.wrap_i64]; omega
              have u6 : IntKind.i64.wrap (0 * 10 + d) = 0 * 10 + d := by rw [IntKind.wrap_i64]; omega
              have hq16 : q ≤ 16384 := by have := HQ.out; have := HS.out; omega
              have u7 : IntKind.i64.wrap ((q : Int) + 1) = (q : Int) + 1 := by rw [IntKind.wrap_i64]; omega
              go_wp2_with (first
                | (have _s := st1; clear st1 _s; go_at_call 89; refine (CA.out _ (Below.refl _ _)).mono ?_; rintro e w1 ⟨rfl, hb1⟩; have st2 : Stg 2 := .mk 2; have B1 := hb1; obtain ⟨c0, c1⟩ := (HRd.out.below B1).two)
                | (have _s := st2; clear st2 _s; go_at_call 89; refine (CA.out _ B1).mono ?_; rintro e w2 ⟨rfl, hb2⟩; have st3 : Stg 3 := .mk 3; have B2 := below_aft B1 hb2; clear c0 c1; obtain ⟨c0, c1⟩ := (HRd.out.below B2).two)
                | (have _s := st3; clear st3 _s; go_at_call 89; refine (CA.out _ B2).mono ?_; rintro e w3 ⟨rfl, hb3⟩; have B3 := below_aft B2 hb3; clear c0 c1; obtain ⟨c0, c1⟩ := (HRd.out.below B3).two; have f1 := At.twoF (HRd.out.below B3) 1))
              have hR3 := Rd.go (p := q) (HRd.out.below B3) (q + 1)
              have e1 : ((q + 1 : Nat) : Int) = (q : Int) + 1 := by omega
              rw [e1] at hR3
              refine ⟨⟨0 * 10 + d, q + 1, by first | rfl | simp, by omega, HG1.out, HG2.out, by omega, hle, hR3, (hB.trans (But.below B3)).set 1 _⟩, ?_⟩
              rw [posOf_rd hR3, posOf_rd HRd.out]
              have := HG1.out
              omega
          · have n0' : (n == 0) = false := by simpa using n0
            have G := GO.out ⟨by omega, by intro hh; rcases hh with hh | hh; exact q1 hh; exact n0 hh.1⟩
            have HG1 : Hid (q < S.length) := G.1
            have HG2 : Hid (R = nmG S most p (S.length - (q + 1)) (n * 10 + d) (q + 1)) := G.2
            have hle := HQF.out q1
            clear G STOP GO HQF
            have u5 : IntKind.i64.wrap (n * 10) = n * 10 := by rw [IntKind.wrap_i64]; omega
            have u6 : IntKind.i64.wrap (n * 10 + d) = n * 10 + d := by rw [IntKind.wrap_i64]; omega
            have hq16 : q ≤ 16384 := by have := HQ.out; have := HS.out; omega
            have u7 : IntKind.i64.wrap ((q : Int) + 1) = (q : Int) + 1 := by rw [IntKind.wrap_i64]; omega
            go_wp2_with (first
              | (have _s := st1; clear st1 _s; go_at_call 89; refine (CA.out _ (Below.refl _ _)).mono ?_; rintro e w1 ⟨rfl, hb1⟩; have st2 : Stg 2 := .mk 2; have B1 := hb1; obtain ⟨c0, c1⟩ := (HRd.out.below B1).two)
              | (have _s := st2; clear st2 _s; go_at_call 89; refine (CA.out _ B1).mono ?_; rintro e w2 ⟨rfl, hb2⟩; have st3 : Stg 3 := .mk 3; have B2 := below_aft B1 hb2; clear c0 c1; obtain ⟨c0, c1⟩ := (HRd.out.below B2).two)
              | (have _s := st3; clear st3 _s; go_at_call 89; refine (CA.out _ B2).mono ?_; rintro e w3 ⟨rfl, hb3⟩; have B3 := below_aft B2 hb3; clear c0 c1; obtain ⟨c0, c1⟩ := (HRd.out.below B3).two; have f1 := At.twoF (HRd.out.below B3) 1))
            have hR3 := Rd.go (p := q) (HRd.out.below B3) (q + 1)
            have e1 : ((q + 1 : Nat) : Int) = (q : Int) + 1 := by omega
            rw [e1] at hR3
            refine ⟨⟨n * 10 + d, q + 1, by first | rfl | simp, by omega, HG1.out, HG2.out, by omega, hle, hR3, (hB.trans (But.below B3)).set 1 _⟩, ?_⟩
            rw [posOf_rd hR3, posOf_rd HRd.out]
            have := HG1.out
            omega
      · have y57 : ¬ (x : Int) ≤ 57 := by omega
        obtain rfl := STOP.out (by omega)
        clear STOP GO
        go_wp2_with (first
          | (have _s := st1; clear st1 _s; go_at_call 89; refine (CA.out _ (Below.refl _ _)).mono ?_; rintro e w1 ⟨rfl, hb1⟩; have st2 : Stg 2 := .mk 2; have B1 := hb1; obtain ⟨c0, c1⟩ := (HRd.out.below B1).two)
          | (have _s := st2; clear st2 _s; go_at_call 89; refine (CA.out _ B1).mono ?_; rintro e w2 ⟨rfl, hb2⟩; have st3 : Stg 3 := .mk 3; have B2 := below_aft B1 hb2; clear c0 c1; obtain ⟨c0, c1⟩ := (HRd.out.below B2).two))
        go_quiet (fail)
        go_wp2_with fail
        go_ret2
        exact ⟨by simp, STF.out w2 _ B2 (belN (Below.refl _ _) _)⟩
    · have y48 : ¬ (48 : Int) ≤ (x : Int) := by omega
      obtain rfl := STOP.out (by omega)
      clear STOP GO
      go_wp2_with (have _s := st1; clear st1 _s; go_at_call 89; refine (CA.out _ (Below.refl _ _)).mono ?_; rintro e w1 ⟨rfl, hb1⟩; have st2 : Stg 2 := .mk 2; have B1 := hb1; obtain ⟨c0, c1⟩ := (HRd.out.below B1).two)
      go_quiet (fail)
      go_wp2_with fail
      go_ret2
      exact ⟨by simp, STF.out w1 _ B1 (belN (Below.refl _ _) _)⟩
end Go.Proofs.YtjchbclkdbojpaaDoor
