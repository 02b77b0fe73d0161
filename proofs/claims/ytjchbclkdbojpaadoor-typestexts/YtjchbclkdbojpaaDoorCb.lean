import Derived.Test.YtjchbclkdbojpaaDoorCa
namespace Go.Proofs.YtjchbclkdbojpaaDoor
open Go.RowKit
set_option linter.unusedVariables false
set_option linter.unusedSimpArgs false

theorem posOf_rr {b : Nat} {S : List UInt8} {p : Nat} {st : Bool} {W : World} (h : Rr b S p st W) : posOf b W = p := by
  unfold posOf
  rw [h.c.2.1]
  simp
theorem quo_iff {most n d Q M : Int} (hQ : most.tdiv 10 = Q) (hM : most.tmod 10 = M) (hm : 9 ≤ most) (h0 : 0 ≤ n) (hd : 0 ≤ d) (hd9 : d ≤ 9) : ((most - d).tdiv 10 < n ↔ Q < n ∨ n = Q ∧ M < d) ∧ 0 ≤ Q ∧ Q ≤ most ∧ 0 ≤ M ∧ M ≤ 9 := by
  rw [Int.tdiv_eq_ediv_of_nonneg (by omega)] at hQ
  rw [Int.tmod_eq_emod_of_nonneg (by omega)] at hM
  rw [Int.tdiv_eq_ediv_of_nonneg (by omega)]
  omega
set_option maxRecDepth 100000 in
set_option maxHeartbeats 8000000 in
theorem rnumber_any (b : Nat) (S : List UInt8) (most : Int) (hm0 : 9 ≤ most) (hm1 : most ≤ 9223372036854775807) (p : Nat) (w : World) (h : Rr b S p false w) (hp : p ≤ S.length) (hS : S.length ≤ 16384) :
    Calls Tryd.prog 96 #[.pointer (some ⟨b, 0, none⟩), .int .u64 most] w fun e w' => e = .returned (.int .i64 (nm S most p).1) ∧ Rr b S (nm S most p).2 (!decide (p < (nm S most p).2)) w' ∧ But b w w' ∧ InR S most (nm S most p) := by
  obtain ⟨R, hR⟩ : ∃ R, R = nm S most p := ⟨_, rfl⟩
  rw [← hR]
  have HR : Hid (R = nm S most p) := hR
  have HRd0 : Hid (Rr b S p false w) := h
  obtain ⟨c0, c1, c2⟩ := h.c
  have HS : Hid (S.length ≤ 16384) := hS
  have HP : Hid (p ≤ S.length) := hp
  have hbl0 := h.lt
  have p0 : (0 : Int) ≤ (p : Int) := by omega
  have p1 : (p : Int) ≤ 100000 := by omega
  obtain ⟨Q, hQ⟩ : ∃ Q : Int, most.tdiv 10 = Q := ⟨_, rfl⟩
  obtain ⟨M, hM⟩ : ∃ M : Int, most.tmod 10 = M := ⟨_, rfl⟩
  have HQM : Hid (∀ n d : Int, 0 ≤ n → 0 ≤ d → d ≤ 9 → ((most - d).tdiv 10 < n ↔ Q < n ∨ n = Q ∧ M < d)) := fun n d h1 h2 h3 => (quo_iff hQ hM hm0 h1 h2 h3).1
  obtain ⟨-, Q0, Q1, M0, M1⟩ := quo_iff hQ hM hm0 (Int.le_refl 0) (Int.le_refl 0) (by decide)
  have HMQ : Hid (10 * Q + M = most) := hid0 (by rw [← hQ, ← hM]; rw [Int.tdiv_eq_ediv_of_nonneg (by omega), Int.tmod_eq_emod_of_nonneg (by omega)]; omega)
  have HQn : Hid (0 < Q ∨ M = 9) := hid0 (by have := HMQ.out; omega)
  clear hR h hp hS
  go_enter Tryd.func96, Tryd.ntmps96
  go_wp2_with fail
  go_loopw [5] (fun v W => ∃ (n : Int) (q : Nat), v = .int .u64 n ∧ p ≤ q ∧ q ≤ S.length ∧ R = nmG S most p (S.length - q) n q ∧ 0 ≤ n ∧ n ≤ most ∧ ((n = 0 ∧ p < q) ↔ (q = p + 1 ∧ ah S p = 48)) ∧ (q = p → n = 0) ∧ Rr b S q false W ∧ But b w W) (fun _ W => S.length - posOf b W)
  case atStart => exact ⟨0, p, rfl, Nat.le_refl _, HP.out, HR.out, by omega, by omega, ⟨fun h => by omega, fun h => by omega⟩, fun _ => rfl, HRd0.out, But.refl _ _⟩
  case round =>
    obtain ⟨n, q, rfl, hpq, hq, hRq, hn0, hn1, hZ, hS0, hRd, hB⟩ := hrel
    have HS0 := hid0 hS0
    have HRq : Hid (R = nmG S most p (S.length - q) n q) := hRq
    have HRd : Hid (Rr b S q false wr) := hRd
    have HQ : Hid (q ≤ S.length) := hq
    have HZ := hid0 hZ
    have HB := hid0 hB
    obtain ⟨x, hx⟩ : ∃ x, x = ah S q := ⟨_, rfl⟩
    have HX : Hid (x = ah S q) := hx
    have x255 : x ≤ 255 := by rw [hx]; exact ah_le S q
    have CA : Hid (∀ W, Below wr.heap.size wr W → Calls Tryd.prog 94 #[.pointer (some ⟨b, 0, none⟩)] W fun e w' => e = .returned (.int .u8 (x : Int)) ∧ Below W.heap.size W w') := fun W hW => by
      rw [hx]
      exact next_any b S q false W (HRd.out.below hW) HQ.out HS.out
    have STOP : Hid (¬ ((48 ≤ x ∧ x ≤ 57) ∧ ¬ ((most - ((x : Int) - 48)).tdiv 10 < n ∨ (n = 0 ∧ p < q))) → R = (n, q)) := fun hno => by
      rw [HRq.out]
      cases hf : S.length - q with
      | zero => rfl
      | succ k => rw [nmG, if_neg (by rw [← HX.out]; exact hno)]
    have GO : Hid (((48 ≤ x ∧ x ≤ 57) ∧ ¬ ((most - ((x : Int) - 48)).tdiv 10 < n ∨ (n = 0 ∧ p < q))) → q < S.length ∧ R = nmG S most p (S.length - (q + 1)) (n * 10 + ((x : Int) - 48)) (q + 1)) := fun hyes => by
      have hl : q < S.length := ah_lt (by rw [← HX.out]; omega)
      refine ⟨hl, ?_⟩
      rw [HRq.out, show S.length - q = (S.length - (q + 1)) + 1 by omega, nmG, if_pos (by rw [← HX.out]; exact hyes), ← HX.out]
    have hbl : b < wr.heap.size := hRd.lt
    have q0 : (0 : Int) ≤ (q : Int) := by omega
    have q1 : (q : Int) ≤ 100000 := by have := HS.out; omega
    clear hx hRd hRq HR HRd0 hq c0 c1 c2 hZ hB hS0
    have STF : Hid (∀ W, Below wr.heap.size wr W → Rr b S q false W ∧ But b w W ∧ InR S most (n, q)) := fun W h1 => ⟨HRd.out.below h1, HB.out.trans (But.below h1), HQ.out, hn0, hn1⟩
    have st1 : Stg 1 := .mk 1
    by_cases x48 : 48 ≤ x
    · have y48 : (48 : Int) ≤ (x : Int) := by omega
      by_cases x57 : x ≤ 57
      · have y57 : (x : Int) ≤ 57 := by omega
        obtain ⟨d, hd⟩ : ∃ d : Int, d = (x : Int) - 48 := ⟨_, rfl⟩
        have d0 : 0 ≤ d := by omega
        have d9 : d ≤ 9 := by omega
        rw [← hd] at STOP GO
        have u0 : (x : Int) - 48 = d := hd.symm
        have HD : Hid (d = (x : Int) - 48) := hd
        have QM := HQM.out n d hn0 d0 d9
        rw [QM] at STOP GO
        have HQM2 := hid0 QM
        clear hd QM
        by_cases hA : q = p + 1
        · have hpl : p < S.length := by have := HQ.out; omega
          obtain ⟨y, hy⟩ : ∃ y, y = S[p] := ⟨_, rfl⟩
          have hcS : (str S)[p]'(by rw [str_size]; exact hpl) = y := by rw [hy]; rfl
          have HY : Hid (ah S p = y.toNat) := hid0 (by rw [hy]; simp [ah, hpl])
          obtain ⟨L, hL⟩ : ∃ L, L = S.length := ⟨_, rfl⟩
          have hszS : (str S).size = L := by rw [hL]; rfl
          have pL : (p : Int) < (L : Int) := by omega
          have hAi : ((q : Int) == (p : Int) + 1) = true := by simpa using (by omega : (q : Int) = (p : Int) + 1)
          have HA := hid0 hA
          have N0 : Hid (q = p → n = 0) := hid0 (fun e => by omega)
          clear hy hA
          by_cases hy48 : y.toNat = 48
          · have hz := HZ.out.2 ⟨HA.out, by rw [HY.out]; exact hy48⟩
            have RE := hid0 (STOP.out (fun hh => hh.2 (.inr hz)))
            have hy48' : (y.toNat : Int) = 48 := by omega
            clear STOP GO hz
            go_wp2_with (first
              | (have _s := st1; clear st1 _s; go_at_call 94; refine (CA.out _ (Below.refl _ _)).mono ?_; rintro e w1 ⟨rfl, hb1⟩; have st2 : Stg 2 := .mk 2; have B1 := hb1; obtain ⟨c0, c1, c2⟩ := Rr.c (p := q) (st := false) (HRd.out.below B1); have f2 := Rr.f (p := q) (st := false) (HRd.out.below B1) 2)
              | (have _s := st2; clear st2 _s; go_at_call 94; refine (CA.out _ B1).mono ?_; rintro e w2 ⟨rfl, hb2⟩; have st3 : Stg 3 := .mk 3; have B2 := below_aft B1 hb2; clear c0 c1 c2 f2; obtain ⟨c0, c1, c2⟩ := Rr.c (p := q) (st := false) (HRd.out.below B2); have f2 := Rr.f (p := q) (st := false) (HRd.out.below B2) 2)
              | (have _s := st3; clear st3 _s; go_at_call 94; refine (CA.out _ B2).mono ?_; rintro e w3 ⟨rfl, hb3⟩; have B3 := below_aft B2 hb3; clear c0 c1 c2 f2; obtain ⟨c0, c1, c2⟩ := Rr.c (p := q) (st := false) (HRd.out.below B3); have f2 := Rr.f (p := q) (st := false) (HRd.out.below B3) 2; have f1 := Rr.f (p := q) (st := false) (HRd.out.below B3) 1))
            go_ret
            rw [RE.out]
            have hlt : p < q := (by have := HA.out; omega)
            refine ⟨rfl, ?_, (STF.out _ B3).2⟩
            simpa [hlt] using (STF.out _ B3).1
          · have hy48' : ((y.toNat : Int) == 48) = false := by simpa using (by omega : ¬ (y.toNat : Int) = 48)
            have HNZ : ¬ (n = 0 ∧ p < q) := fun e => hy48 (by rw [← HY.out]; exact (HZ.out.1 e).2)
            by_cases qB : Q < n
            · have RE := hid0 (STOP.out (fun hh => hh.2 (.inl (.inl qB))))
              clear STOP GO
              go_wp2_with (first
                | (have _s := st1; clear st1 _s; go_at_call 94; refine (CA.out _ (Below.refl _ _)).mono ?_; rintro e w1 ⟨rfl, hb1⟩; have st2 : Stg 2 := .mk 2; have B1 := hb1; obtain ⟨c0, c1, c2⟩ := Rr.c (p := q) (st := false) (HRd.out.below B1); have f2 := Rr.f (p := q) (st := false) (HRd.out.below B1) 2)
                | (have _s := st2; clear st2 _s; go_at_call 94; refine (CA.out _ B1).mono ?_; rintro e w2 ⟨rfl, hb2⟩; have st3 : Stg 3 := .mk 3; have B2 := below_aft B1 hb2; clear c0 c1 c2 f2; obtain ⟨c0, c1, c2⟩ := Rr.c (p := q) (st := false) (HRd.out.below B2); have f2 := Rr.f (p := q) (st := false) (HRd.out.below B2) 2)
                | (have _s := st3; clear st3 _s; go_at_call 94; refine (CA.out _ B2).mono ?_; rintro e w3 ⟨rfl, hb3⟩; have B3 := below_aft B2 hb3; clear c0 c1 c2 f2; obtain ⟨c0, c1, c2⟩ := Rr.c (p := q) (st := false) (HRd.out.below B3); have f2 := Rr.f (p := q) (st := false) (HRd.out.below B3) 2; have f1 := Rr.f (p := q) (st := false) (HRd.out.below B3) 1))
              go_ret
              rw [RE.out]
              have hlt : p < q := (by rcases Nat.lt_or_ge p q with h1 | h1; exact h1; exact absurd (N0.out (by omega)) (by omega))
              refine ⟨rfl, ?_, (STF.out _ B3).2⟩
              simpa [hlt] using (STF.out _ B3).1
            · by_cases qC : n = Q
              · by_cases qD : M < d
                · have RE := hid0 (STOP.out (fun hh => hh.2 (.inl (.inr ⟨qC, qD⟩))))
                  clear STOP GO
                  have qC' : (n == Q) = true := by simpa using qC
                  have HQC := hid0 qC
                  clear qC
                  go_wp2_with (first
                    | (have _s := st1; clear st1 _s; go_at_call 94; refine (CA.out _ (Below.refl _ _)).mono ?_; rintro e w1 ⟨rfl, hb1⟩; have st2 : Stg 2 := .mk 2; have B1 := hb1; obtain ⟨c0, c1, c2⟩ := Rr.c (p := q) (st := false) (HRd.out.below B1); have f2 := Rr.f (p := q) (st := false) (HRd.out.below B1) 2)
                    | (have _s := st2; clear st2 _s; go_at_call 94; refine (CA.out _ B1).mono ?_; rintro e w2 ⟨rfl, hb2⟩; have st3 : Stg 3 := .mk 3; have B2 := below_aft B1 hb2; clear c0 c1 c2 f2; obtain ⟨c0, c1, c2⟩ := Rr.c (p := q) (st := false) (HRd.out.below B2); have f2 := Rr.f (p := q) (st := false) (HRd.out.below B2) 2)
                    | (have _s := st3; clear st3 _s; go_at_call 94; refine (CA.out _ B2).mono ?_; rintro e w3 ⟨rfl, hb3⟩; have B3 := below_aft B2 hb3; clear c0 c1 c2 f2; obtain ⟨c0, c1, c2⟩ := Rr.c (p := q) (st := false) (HRd.out.below B3); have f2 := Rr.f (p := q) (st := false) (HRd.out.below B3) 2; have f1 := Rr.f (p := q) (st := false) (HRd.out.below B3) 1))
                  go_ret
                  rw [RE.out]
                  have hlt : p < q := (by rcases Nat.lt_or_ge p q with h1 | h1; exact h1; exact absurd (N0.out (by omega)) (by have := HQn.out; have := HQC.out; omega))
                  refine ⟨rfl, ?_, (STF.out _ B3).2⟩
                  simpa [hlt] using (STF.out _ B3).1
                · have G := GO.out ⟨⟨x48, x57⟩, by rintro ((h1 | h1) | h1); exact qB h1; exact qD h1.2; exact HNZ h1⟩
                  have hle0 : 10 * n + d ≤ most := by rw [qC]; have := HMQ.out; omega
                  have qC' : (n == Q) = true := by simpa using qC
                  have qD' : ¬ M < d := qD
                  clear qC
                  have HG1 : Hid (q < S.length) := G.1
                  have HG2 : Hid (R = nmG S most p (S.length - (q + 1)) (n * 10 + d) (q + 1)) := G.2
                  have hle : 10 * n + d ≤ most := hle0
                  have NZ : Hid ((n * 10 + d = 0 ∧ p < q + 1) ↔ (q + 1 = p + 1 ∧ ah S p = 48)) := by
                    have z := HZ.out
                    have hxx := HX.out
                    have hdd := HD.out
                    have hnz := HNZ
                    constructor
                    · rintro ⟨e1, e2⟩
                      have e3 : n = 0 := by omega
                      have e4 : ¬ p < q := fun e => hnz ⟨e3, e⟩
                      have e5 : q = p := by omega
                      subst e5
                      exact ⟨rfl, by omega⟩
                    · rintro ⟨e1, e2⟩
                      have e5 : q = p := by omega
                      subst e5
                      have e6 : n = 0 := N0.out rfl
                      exact ⟨by omega, by omega⟩
                  clear G STOP GO
                  go_wp2_with (first
                    | (have _s := st1; clear st1 _s; go_at_call 94; refine (CA.out _ (Below.refl _ _)).mono ?_; rintro e w1 ⟨rfl, hb1⟩; have st2 : Stg 2 := .mk 2; have B1 := hb1; obtain ⟨c0, c1, c2⟩ := Rr.c (p := q) (st := false) (HRd.out.below B1); have f2 := Rr.f (p := q) (st := false) (HRd.out.below B1) 2)
                    | (have _s := st2; clear st2 _s; go_at_call 94; refine (CA.out _ B1).mono ?_; rintro e w2 ⟨rfl, hb2⟩; have st3 : Stg 3 := .mk 3; have B2 := below_aft B1 hb2; clear c0 c1 c2 f2; obtain ⟨c0, c1, c2⟩ := Rr.c (p := q) (st := false) (HRd.out.below B2); have f2 := Rr.f (p := q) (st := false) (HRd.out.below B2) 2)
                    | (have _s := st3; clear st3 _s; go_at_call 94; refine (CA.out _ B2).mono ?_; rintro e w3 ⟨rfl, hb3⟩; have B3 := below_aft B2 hb3; clear c0 c1 c2 f2; obtain ⟨c0, c1, c2⟩ := Rr.c (p := q) (st := false) (HRd.out.below B3); have f2 := Rr.f (p := q) (st := false) (HRd.out.below B3) 2; have f1 := Rr.f (p := q) (st := false) (HRd.out.below B3) 1))
                  have hR3 := Rr.go (p := q) (st := false) (STF.out _ B3).1 (q + 1)
                  have e1 : ((q + 1 : Nat) : Int) = (q : Int) + 1 := by omega
                  rw [e1] at hR3
                  refine ⟨⟨n * 10 + d, q + 1, by rw [show n * 10 + d = 10 * n + d by omega], by omega, HG1.out, HG2.out, by omega, by omega, NZ.out, (fun e => by omega), hR3, ((STF.out _ B3).2.1).set 1 _⟩, ?_⟩
                  rw [posOf_rr hR3, posOf_rr HRd.out]
                  have := HG1.out
                  omega
              · have G := GO.out ⟨⟨x48, x57⟩, by rintro ((h1 | h1) | h1); exact qB h1; exact qC h1.1; exact HNZ h1⟩
                have hle0 : 10 * n + d ≤ most := by have := HMQ.out; omega
                have qC' : (n == Q) = false := by simpa using qC
                have HG1 : Hid (q < S.length) := G.1
                have HG2 : Hid (R = nmG S most p (S.length - (q + 1)) (n * 10 + d) (q + 1)) := G.2
                have hle : 10 * n + d ≤ most := hle0
                have NZ : Hid ((n * 10 + d = 0 ∧ p < q + 1) ↔ (q + 1 = p + 1 ∧ ah S p = 48)) := by
                  have z := HZ.out
                  have hxx := HX.out
                  have hdd := HD.out
                  have hnz := HNZ
                  constructor
                  · rintro ⟨e1, e2⟩
                    have e3 : n = 0 := by omega
                    have e4 : ¬ p < q := fun e => hnz ⟨e3, e⟩
                    have e5 : q = p := by omega
                    subst e5
                    exact ⟨rfl, by omega⟩
                  · rintro ⟨e1, e2⟩
                    have e5 : q = p := by omega
                    subst e5
                    have e6 : n = 0 := N0.out rfl
                    exact ⟨by omega, by omega⟩
                clear G STOP GO
                go_wp2_with (first
                  | (have _s := st1; clear st1 _s; go_at_call 94; refine (CA.out _ (Below.refl _ _)).mono ?_; rintro e w1 ⟨rfl, hb1⟩; have st2 : Stg 2 := .mk 2; have B1 := hb1; obtain ⟨c0, c1, c2⟩ := Rr.c (p := q) (st := false) (HRd.out.below B1); have f2 := Rr.f (p := q) (st := false) (HRd.out.below B1) 2)
                  | (have _s := st2; clear st2 _s; go_at_call 94; refine (CA.out _ B1).mono ?_; rintro e w2 ⟨rfl, hb2⟩; have st3 : Stg 3 := .mk 3; have B2 := below_aft B1 hb2; clear c0 c1 c2 f2; obtain ⟨c0, c1, c2⟩ := Rr.c (p := q) (st := false) (HRd.out.below B2); have f2 := Rr.f (p := q) (st := false) (HRd.out.below B2) 2)
                  | (have _s := st3; clear st3 _s; go_at_call 94; refine (CA.out _ B2).mono ?_; rintro e w3 ⟨rfl, hb3⟩; have B3 := below_aft B2 hb3; clear c0 c1 c2 f2; obtain ⟨c0, c1, c2⟩ := Rr.c (p := q) (st := false) (HRd.out.below B3); have f2 := Rr.f (p := q) (st := false) (HRd.out.below B3) 2; have f1 := Rr.f (p := q) (st := false) (HRd.out.below B3) 1))
                have hR3 := Rr.go (p := q) (st := false) (STF.out _ B3).1 (q + 1)
                have e1 : ((q + 1 : Nat) : Int) = (q : Int) + 1 := by omega
                rw [e1] at hR3
                refine ⟨⟨n * 10 + d, q + 1, by rw [show n * 10 + d = 10 * n + d by omega], by omega, HG1.out, HG2.out, by omega, by omega, NZ.out, (fun e => by omega), hR3, ((STF.out _ B3).2.1).set 1 _⟩, ?_⟩
                rw [posOf_rr hR3, posOf_rr HRd.out]
                have := HG1.out
                omega
        · have hAi : ((q : Int) == (p : Int) + 1) = false := by simpa using (by omega : ¬ (q : Int) = (p : Int) + 1)
          have HNZ : ¬ (n = 0 ∧ p < q) := fun e => hA (HZ.out.1 e).1
          have N0 : Hid (q = p → n = 0) := HS0.out
          by_cases qB : Q < n
          · have RE := hid0 (STOP.out (fun hh => hh.2 (.inl (.inl qB))))
            clear STOP GO
            go_wp2_with (first
              | (have _s := st1; clear st1 _s; go_at_call 94; refine (CA.out _ (Below.refl _ _)).mono ?_; rintro e w1 ⟨rfl, hb1⟩; have st2 : Stg 2 := .mk 2; have B1 := hb1; obtain ⟨c0, c1, c2⟩ := Rr.c (p := q) (st := false) (HRd.out.below B1); have f2 := Rr.f (p := q) (st := false) (HRd.out.below B1) 2)
              | (have _s := st2; clear st2 _s; go_at_call 94; refine (CA.out _ B1).mono ?_; rintro e w2 ⟨rfl, hb2⟩; have st3 : Stg 3 := .mk 3; have B2 := below_aft B1 hb2; clear c0 c1 c2 f2; obtain ⟨c0, c1, c2⟩ := Rr.c (p := q) (st := false) (HRd.out.below B2); have f2 := Rr.f (p := q) (st := false) (HRd.out.below B2) 2)
              | (have _s := st3; clear st3 _s; go_at_call 94; refine (CA.out _ B2).mono ?_; rintro e w3 ⟨rfl, hb3⟩; have B3 := below_aft B2 hb3; clear c0 c1 c2 f2; obtain ⟨c0, c1, c2⟩ := Rr.c (p := q) (st := false) (HRd.out.below B3); have f2 := Rr.f (p := q) (st := false) (HRd.out.below B3) 2; have f1 := Rr.f (p := q) (st := false) (HRd.out.below B3) 1))
            go_ret
            rw [RE.out]
            have hlt : p < q := (by rcases Nat.lt_or_ge p q with h1 | h1; exact h1; exact absurd (N0.out (by omega)) (by omega))
            refine ⟨rfl, ?_, (STF.out _ B3).2⟩
            simpa [hlt] using (STF.out _ B3).1
          · by_cases qC : n = Q
            · by_cases qD : M < d
              · have RE := hid0 (STOP.out (fun hh => hh.2 (.inl (.inr ⟨qC, qD⟩))))
                clear STOP GO
                have qC' : (n == Q) = true := by simpa using qC
                have HQC := hid0 qC
                clear qC
                go_wp2_with (first
                  | (have _s := st1; clear st1 _s; go_at_call 94; refine (CA.out _ (Below.refl _ _)).mono ?_; rintro e w1 ⟨rfl, hb1⟩; have st2 : Stg 2 := .mk 2; have B1 := hb1; obtain ⟨c0, c1, c2⟩ := Rr.c (p := q) (st := false) (HRd.out.below B1); have f2 := Rr.f (p := q) (st := false) (HRd.out.below B1) 2)
                  | (have _s := st2; clear st2 _s; go_at_call 94; refine (CA.out _ B1).mono ?_; rintro e w2 ⟨rfl, hb2⟩; have st3 : Stg 3 := .mk 3; have B2 := below_aft B1 hb2; clear c0 c1 c2 f2; obtain ⟨c0, c1, c2⟩ := Rr.c (p := q) (st := false) (HRd.out.below B2); have f2 := Rr.f (p := q) (st := false) (HRd.out.below B2) 2)
                  | (have _s := st3; clear st3 _s; go_at_call 94; refine (CA.out _ B2).mono ?_; rintro e w3 ⟨rfl, hb3⟩; have B3 := below_aft B2 hb3; clear c0 c1 c2 f2; obtain ⟨c0, c1, c2⟩ := Rr.c (p := q) (st := false) (HRd.out.below B3); have f2 := Rr.f (p := q) (st := false) (HRd.out.below B3) 2; have f1 := Rr.f (p := q) (st := false) (HRd.out.below B3) 1))
                go_ret
                rw [RE.out]
                have hlt : p < q := (by rcases Nat.lt_or_ge p q with h1 | h1; exact h1; exact absurd (N0.out (by omega)) (by have := HQn.out; have := HQC.out; omega))
                refine ⟨rfl, ?_, (STF.out _ B3).2⟩
                simpa [hlt] using (STF.out _ B3).1
              · have G := GO.out ⟨⟨x48, x57⟩, by rintro ((h1 | h1) | h1); exact qB h1; exact qD h1.2; exact HNZ h1⟩
                have hle0 : 10 * n + d ≤ most := by rw [qC]; have := HMQ.out; omega
                have qC' : (n == Q) = true := by simpa using qC
                have qD' : ¬ M < d := qD
                clear qC
                have HG1 : Hid (q < S.length) := G.1
                have HG2 : Hid (R = nmG S most p (S.length - (q + 1)) (n * 10 + d) (q + 1)) := G.2
                have hle : 10 * n + d ≤ most := hle0
                have NZ : Hid ((n * 10 + d = 0 ∧ p < q + 1) ↔ (q + 1 = p + 1 ∧ ah S p = 48)) := by
                  have z := HZ.out
                  have hxx := HX.out
                  have hdd := HD.out
                  have hnz := HNZ
                  constructor
                  · rintro ⟨e1, e2⟩
                    have e3 : n = 0 := by omega
                    have e4 : ¬ p < q := fun e => hnz ⟨e3, e⟩
                    have e5 : q = p := by omega
                    subst e5
                    exact ⟨rfl, by omega⟩
                  · rintro ⟨e1, e2⟩
                    have e5 : q = p := by omega
                    subst e5
                    have e6 : n = 0 := N0.out rfl
                    exact ⟨by omega, by omega⟩
                clear G STOP GO
                go_wp2_with (first
                  | (have _s := st1; clear st1 _s; go_at_call 94; refine (CA.out _ (Below.refl _ _)).mono ?_; rintro e w1 ⟨rfl, hb1⟩; have st2 : Stg 2 := .mk 2; have B1 := hb1; obtain ⟨c0, c1, c2⟩ := Rr.c (p := q) (st := false) (HRd.out.below B1); have f2 := Rr.f (p := q) (st := false) (HRd.out.below B1) 2)
                  | (have _s := st2; clear st2 _s; go_at_call 94; refine (CA.out _ B1).mono ?_; rintro e w2 ⟨rfl, hb2⟩; have st3 : Stg 3 := .mk 3; have B2 := below_aft B1 hb2; clear c0 c1 c2 f2; obtain ⟨c0, c1, c2⟩ := Rr.c (p := q) (st := false) (HRd.out.below B2); have f2 := Rr.f (p := q) (st := false) (HRd.out.below B2) 2)
                  | (have _s := st3; clear st3 _s; go_at_call 94; refine (CA.out _ B2).mono ?_; rintro e w3 ⟨rfl, hb3⟩; have B3 := below_aft B2 hb3; clear c0 c1 c2 f2; obtain ⟨c0, c1, c2⟩ := Rr.c (p := q) (st := false) (HRd.out.below B3); have f2 := Rr.f (p := q) (st := false) (HRd.out.below B3) 2; have f1 := Rr.f (p := q) (st := false) (HRd.out.below B3) 1))
                have hR3 := Rr.go (p := q) (st := false) (STF.out _ B3).1 (q + 1)
                have e1 : ((q + 1 : Nat) : Int) = (q : Int) + 1 := by omega
                rw [e1] at hR3
                refine ⟨⟨n * 10 + d, q + 1, by rw [show n * 10 + d = 10 * n + d by omega], by omega, HG1.out, HG2.out, by omega, by omega, NZ.out, (fun e => by omega), hR3, ((STF.out _ B3).2.1).set 1 _⟩, ?_⟩
                rw [posOf_rr hR3, posOf_rr HRd.out]
                have := HG1.out
                omega
            · have G := GO.out ⟨⟨x48, x57⟩, by rintro ((h1 | h1) | h1); exact qB h1; exact qC h1.1; exact HNZ h1⟩
              have hle0 : 10 * n + d ≤ most := by have := HMQ.out; omega
              have qC' : (n == Q) = false := by simpa using qC
              have HG1 : Hid (q < S.length) := G.1
              have HG2 : Hid (R = nmG S most p (S.length - (q + 1)) (n * 10 + d) (q + 1)) := G.2
              have hle : 10 * n + d ≤ most := hle0
              have NZ : Hid ((n * 10 + d = 0 ∧ p < q + 1) ↔ (q + 1 = p + 1 ∧ ah S p = 48)) := by
                have z := HZ.out
                have hxx := HX.out
                have hdd := HD.out
                have hnz := HNZ
                constructor
                · rintro ⟨e1, e2⟩
                  have e3 : n = 0 := by omega
                  have e4 : ¬ p < q := fun e => hnz ⟨e3, e⟩
                  have e5 : q = p := by omega
                  subst e5
                  exact ⟨rfl, by omega⟩
                · rintro ⟨e1, e2⟩
                  have e5 : q = p := by omega
                  subst e5
                  have e6 : n = 0 := N0.out rfl
                  exact ⟨by omega, by omega⟩
              clear G STOP GO
              go_wp2_with (first
                | (have _s := st1; clear st1 _s; go_at_call 94; refine (CA.out _ (Below.refl _ _)).mono ?_; rintro e w1 ⟨rfl, hb1⟩; have st2 : Stg 2 := .mk 2; have B1 := hb1; obtain ⟨c0, c1, c2⟩ := Rr.c (p := q) (st := false) (HRd.out.below B1); have f2 := Rr.f (p := q) (st := false) (HRd.out.below B1) 2)
                | (have _s := st2; clear st2 _s; go_at_call 94; refine (CA.out _ B1).mono ?_; rintro e w2 ⟨rfl, hb2⟩; have st3 : Stg 3 := .mk 3; have B2 := below_aft B1 hb2; clear c0 c1 c2 f2; obtain ⟨c0, c1, c2⟩ := Rr.c (p := q) (st := false) (HRd.out.below B2); have f2 := Rr.f (p := q) (st := false) (HRd.out.below B2) 2)
                | (have _s := st3; clear st3 _s; go_at_call 94; refine (CA.out _ B2).mono ?_; rintro e w3 ⟨rfl, hb3⟩; have B3 := below_aft B2 hb3; clear c0 c1 c2 f2; obtain ⟨c0, c1, c2⟩ := Rr.c (p := q) (st := false) (HRd.out.below B3); have f2 := Rr.f (p := q) (st := false) (HRd.out.below B3) 2; have f1 := Rr.f (p := q) (st := false) (HRd.out.below B3) 1))
              have hR3 := Rr.go (p := q) (st := false) (STF.out _ B3).1 (q + 1)
              have e1 : ((q + 1 : Nat) : Int) = (q : Int) + 1 := by omega
              rw [e1] at hR3
              refine ⟨⟨n * 10 + d, q + 1, by rw [show n * 10 + d = 10 * n + d by omega], by omega, HG1.out, HG2.out, by omega, by omega, NZ.out, (fun e => by omega), hR3, ((STF.out _ B3).2.1).set 1 _⟩, ?_⟩
              rw [posOf_rr hR3, posOf_rr HRd.out]
              have := HG1.out
              omega
      · have y57 : ¬ (x : Int) ≤ 57 := by omega
        have RE := hid0 (STOP.out (by omega))
        clear STOP GO
        by_cases hqp : q = p
        · subst hqp
          go_wp2_with (first
            | (have _s := st1; clear st1 _s; go_at_call 94; refine (CA.out _ (Below.refl _ _)).mono ?_; rintro e w1 ⟨rfl, hb1⟩; have st2 : Stg 2 := .mk 2; have B1 := hb1; obtain ⟨c0, c1, c2⟩ := Rr.c (p := q) (st := false) (HRd.out.below B1); have f2 := Rr.f (p := q) (st := false) (HRd.out.below B1) 2)
            | (have _s := st2; clear st2 _s; go_at_call 94; refine (CA.out _ B1).mono ?_; rintro e w2 ⟨rfl, hb2⟩; have st3 : Stg 3 := .mk 3; have B2 := below_aft B1 hb2; clear c0 c1 c2 f2; obtain ⟨c0, c1, c2⟩ := Rr.c (p := q) (st := false) (HRd.out.below B2); have f2 := Rr.f (p := q) (st := false) (HRd.out.below B2) 2))
          go_ret
          rw [RE.out]
          refine ⟨rfl, ?_, ((STF.out _ B2).2.1).set 2 _, (STF.out _ B2).2.2⟩
          have := Rr.stop (p := q) (st := false) (STF.out _ B2).1 true
          simpa using this
        · have z1 : ¬ (q : Int) = (p : Int) := by omega
          have z2 : ((q : Int) == (p : Int)) = false := by simpa using z1
          go_wp2_with (first
            | (have _s := st1; clear st1 _s; go_at_call 94; refine (CA.out _ (Below.refl _ _)).mono ?_; rintro e w1 ⟨rfl, hb1⟩; have st2 : Stg 2 := .mk 2; have B1 := hb1; obtain ⟨c0, c1, c2⟩ := Rr.c (p := q) (st := false) (HRd.out.below B1); have f2 := Rr.f (p := q) (st := false) (HRd.out.below B1) 2)
            | (have _s := st2; clear st2 _s; go_at_call 94; refine (CA.out _ B1).mono ?_; rintro e w2 ⟨rfl, hb2⟩; have st3 : Stg 3 := .mk 3; have B2 := below_aft B1 hb2; clear c0 c1 c2 f2; obtain ⟨c0, c1, c2⟩ := Rr.c (p := q) (st := false) (HRd.out.below B2); have f2 := Rr.f (p := q) (st := false) (HRd.out.below B2) 2))
          go_ret
          rw [RE.out]
          have hlt : p < q := by omega
          refine ⟨rfl, ?_, (STF.out _ B2).2⟩
          simpa [hlt] using (STF.out _ B2).1
    · have y48 : ¬ (48 : Int) ≤ (x : Int) := by omega
      have RE := hid0 (STOP.out (by omega))
      clear STOP GO
      by_cases hqp : q = p
      · subst hqp
        go_wp2_with (first
          | (have _s := st1; clear st1 _s; go_at_call 94; refine (CA.out _ (Below.refl _ _)).mono ?_; rintro e w1 ⟨rfl, hb1⟩; have st2 : Stg 2 := .mk 2; have B1 := hb1; obtain ⟨c0, c1, c2⟩ := Rr.c (p := q) (st := false) (HRd.out.below B1); have f2 := Rr.f (p := q) (st := false) (HRd.out.below B1) 2))
        go_ret
        rw [RE.out]
        refine ⟨rfl, ?_, ((STF.out _ B1).2.1).set 2 _, (STF.out _ B1).2.2⟩
        have := Rr.stop (p := q) (st := false) (STF.out _ B1).1 true
        simpa using this
      · have z1 : ¬ (q : Int) = (p : Int) := by omega
        have z2 : ((q : Int) == (p : Int)) = false := by simpa using z1
        go_wp2_with (first
          | (have _s := st1; clear st1 _s; go_at_call 94; refine (CA.out _ (Below.refl _ _)).mono ?_; rintro e w1 ⟨rfl, hb1⟩; have st2 : Stg 2 := .mk 2; have B1 := hb1; obtain ⟨c0, c1, c2⟩ := Rr.c (p := q) (st := false) (HRd.out.below B1); have f2 := Rr.f (p := q) (st := false) (HRd.out.below B1) 2))
        go_ret
        rw [RE.out]
        have hlt : p < q := by omega
        refine ⟨rfl, ?_, (STF.out _ B1).2⟩
        simpa [hlt] using (STF.out _ B1).1
end Go.Proofs.YtjchbclkdbojpaaDoor
