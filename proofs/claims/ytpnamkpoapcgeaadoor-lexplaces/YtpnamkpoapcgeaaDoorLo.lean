import Derived.Test.YtpnamkpoapcgeaaDoorLn
namespace Go.Proofs.YtpnamkpoapcgeaaDoor
open Go.RowKit Go.Shelf
set_option linter.unusedVariables false
set_option linter.unusedSimpArgs false

set_option maxRecDepth 100000 in
set_option maxHeartbeats 4000000 in
theorem lexPlaces_walk (S : List UInt8) (p : Int) (w : World) (hsh : w.ShapedOpen Tryd.prog) (hm : S.length ≤ maxLen) :
    Calls Tryd.prog 8 #[.string (str S), .int .i64 p] w fun e w' => e = .returned (.bool true) ∧ Below w.heap.size w w' := by
  have hsz := str_size S
  have HA : Hid (∀ W, Calls Tryd.prog 9 #[] W fun e w' => e = .returned (.bool true) ∧ Below W.heap.size W w') := awake_any
  by_cases hS : 65536 < S.length
  · have hgt : (65536 : Int) < (S.length : Int) := by omega
    go_enter Tryd.func8, Tryd.ntmps8
    go_wp2_with (first | (go_at_call 9; refine (HA.out _).mono ?_; rintro e w1 ⟨rfl, hb1⟩))
    go_ret
    exact ⟨rfl, hb1⟩
  · have hgt : ¬ (65536 : Int) < (S.length : Int) := by omega
    have hS' : S.length ≤ 65536 := by omega
    have H25 : Hid (Calls Tryd.prog 25 #[.string (str S)] w fun e w' => e = .returned (.tuple #[.slice (some ⟨w.heap.size, 0, none⟩) (lns S).length (lns S).length, .int .i64 0]) ∧ SRow w' w.heap.size (lns S) ∧ Below w.heap.size w w') := lines_ok S w hsh hS'
    have hln := lns_len S
    have H28 : Hid (∀ W b, SRow W b (lns S) → Calls Tryd.prog 28 #[.slice (some ⟨b, 0, none⟩) (lns S).length (lns S).length] W fun e w' => e = .returned (.string (str S)) ∧ Below W.heap.size W w') := fun W b h => by
      have := joined_ok (lns S) b W h (by omega) (by rw [joinL_lns]; exact hS') (fun q hq => Nat.le_trans (lns_sum S q hq) hS')
      rwa [joinL_lns] at this
    have heq : ((str S).toList == (str S).toList) = true := by simp
    by_cases hp : p < 0 ∨ (S.length : Int) < p
    · have H23 : Hid (∀ W, Calls Tryd.prog 23 #[.string (str S), .int .i64 p] W fun e w' => e = .returned (.tuple #[.int .i64 0, .int .i64 0, .int .i64 2]) ∧ w' = W) := fun W => line_arg S p W hS' hp
      generalize lns S = L at *
      by_cases h0 : p < 0
      · clear hp
        go_enter Tryd.func8, Tryd.ntmps8
        go_wp2_with (first
          | (go_at_call 25; refine H25.out.mono ?_; rintro e w2 ⟨rfl, hR2, hb2⟩)
          | (go_at_call 28; refine (H28.out _ _ hR2).mono ?_; rintro e w3 ⟨rfl, hb3⟩)
          | (go_at_call 23; refine (H23.out _).mono ?_; rintro e w4 ⟨rfl, hw⟩; replace hw := hw.symm; subst hw)
          | (go_at_call 9; refine (HA.out _).mono ?_; rintro e w5 ⟨rfl, hb5⟩))
        go_ret
        exact ⟨rfl, below_aft (below_aft hb2 hb3) hb5⟩
      · have h1 : (S.length : Int) < p := by omega
        clear hp
        go_enter Tryd.func8, Tryd.ntmps8
        go_wp2_with (first
          | (go_at_call 25; refine H25.out.mono ?_; rintro e w2 ⟨rfl, hR2, hb2⟩)
          | (go_at_call 28; refine (H28.out _ _ hR2).mono ?_; rintro e w3 ⟨rfl, hb3⟩)
          | (go_at_call 23; refine (H23.out _).mono ?_; rintro e w4 ⟨rfl, hw⟩; replace hw := hw.symm; subst hw)
          | (go_at_call 9; refine (HA.out _).mono ?_; rintro e w5 ⟨rfl, hb5⟩))
        go_ret
        exact ⟨rfl, below_aft (below_aft hb2 hb3) hb5⟩
    · obtain ⟨r, rfl⟩ := Int.eq_ofNat_of_zero_le (show 0 ≤ p by omega)
      have hr : r ≤ S.length := by omega
      obtain ⟨d, q, h, t, hL, hd, hla, hrr⟩ := place S r hr
      have H23 : Hid (∀ W, Calls Tryd.prog 23 #[.string (str S), .int .i64 (r : Int)] W fun e w' => e = .returned (.tuple #[.int .i64 (1 + (d.length : Int)), .int .i64 ((q.length : Int) + 1), .int .i64 0]) ∧ w' = W) := fun W => by
        have := line_la S r W hS' hr
        rwa [← hd, show (r : Int) - la S r = (q.length : Int) + 1 by omega] at this
      have hLm : (lns S)[d.length]? = some (q ++ h) := by rw [hL]; simp
      have hLt : ∀ j, j ≤ d.length → (lns S).take j = d.take j := fun j hj => by rw [hL, List.take_append_of_le_length hj]
      have hlt : d.length < (lns S).length := by rw [hL]; simp
      have hjL : ∀ j, j < d.length → ∃ x, (lns S)[j]? = some x ∧ sumL (d.take (j + 1)) = sumL (d.take j) + (x.length + 1) := fun j hj => by
        refine ⟨d[j], by rw [hL, List.getElem?_append_left hj, List.getElem?_eq_getElem hj], ?_⟩
        rw [List.take_succ_eq_append_getElem hj, sumL_snoc]
      have hsd : ∀ j, sumL (d.take j) ≤ sumL d := sumL_take_le d
      have hqh : (q ++ h).length = q.length + h.length := List.length_append
      have HJ : Hid (∀ j, j < d.length → ∃ x, (lns S)[j]? = some x ∧ sumL (d.take (j + 1)) = sumL (d.take j) + (x.length + 1)) := hjL
      have hql : q.length + h.length ≤ 65536 := by
        have := lns_sum S (q ++ h) (by rw [hL]; simp)
        omega
      have HRR : Hid (r = sumL d + q.length) := hrr
      have hsr : sumL d ≤ 65536 := by omega
      have HSD : Hid (∀ j, sumL (d.take j) ≤ sumL d) := hsd
      have HLM : Hid ((lns S)[d.length]? = some (q ++ h)) := hLm
      clear hL hla hd hLt hjL hsd hLm hrr
      generalize lns S = L at *
      have hsq := str_size (q ++ h)
      rw [hqh] at hsq
      generalize q ++ h = qh at *
      have n0 : ¬ (r : Int) < 0 := by omega
      have n1 : ¬ (S.length : Int) < (r : Int) := by omega
      have HD0 : Hid (sumL (d.take 0) = 0) := rfl
      have HDm : Hid (sumL (d.take d.length) = sumL d) := by show _ = _; rw [List.take_of_length_le (Nat.le_refl _)]
      generalize hdl : d.length = m at *
      clear hdl
      have a1 : ¬ (1 + (m : Int) < 1) := by omega
      have a2 : ¬ ((L.length : Int) < 1 + (m : Int)) := by omega
      have a3 : ¬ ((q.length : Int) + 1 < 1) := by omega
      have a4 : IntKind.i64.wrap (1 + (m : Int) - 1) = (m : Int) := by rw [IntKind.wrap_i64]; omega
      have a5 : (0 : Int) ≤ (m : Int) := by omega
      have a6 : (m : Int) < (L.length : Int) := by omega
      have a7 : IntKind.i64.wrap (((q.length + h.length : Nat) : Int) + 1) = ((q.length + h.length : Nat) : Int) + 1 := by rw [IntKind.wrap_i64]; omega
      have a8 : ¬ (((q.length + h.length : Nat) : Int) + 1 < (q.length : Int) + 1) := by omega
      have a9 : IntKind.i64.wrap ((q.length : Int) + 1 - 1) = (q.length : Int) := by rw [IntKind.wrap_i64]; omega
      go_enter Tryd.func8, Tryd.ntmps8
      go_wp2_with (first
        | (go_at_call 25; refine H25.out.mono ?_; rintro e w2 ⟨rfl, hR2, hb2⟩)
        | (go_at_call 28; refine (H28.out _ _ hR2).mono ?_; rintro e w3 ⟨rfl, hb3⟩; have hR3 := hR2.below hb3; obtain ⟨c0, f0⟩ := hR3.cell HLM.out)
        | (go_at_call 23; refine (H23.out _).mono ?_; rintro e w4 ⟨rfl, hw⟩; replace hw := hw.symm; subst hw))
      have HR3 : Hid (SRow w3 w.heap.size L) := hR3
      clear hR3 hR2 H25 H28 H23
      go_loop [9, 10] (fun kk i => ∃ (j sj : Nat), j ≤ m ∧ sj ≤ 65536 ∧ kk = .int .i64 ((q.length : Int) + (sj : Int)) ∧ i = .int .i64 j ∧ Hid (sj = sumL (d.take j))) (fun _ i => m - (intOf i).toNat)
      case atStart => exact ⟨0, 0, Nat.zero_le _, Nat.zero_le _, by simp, rfl, HD0.out.symm⟩
      case round =>
        obtain ⟨j, sj, hj, hsj, rfl, rfl, HS⟩ := hrel
        by_cases hjm : j < m
        · obtain ⟨x, hx, hsum⟩ := HJ.out j hjm
          obtain ⟨e0, ef⟩ := HR3.out.cell hx
          have hle := HSD.out (j + 1)
          rw [← HS.out] at hsum
          have b0 : (0 : Int) ≤ (j : Int) := by omega
          have b1 : (j : Int) < (L.length : Int) := by omega
          have b2 : (j : Int) < (m : Int) := by omega
          have hxs := str_size x
          have b3 : IntKind.i64.wrap ((x.length : Int) + 1) = (x.length : Int) + 1 := by rw [IntKind.wrap_i64]; omega
          have b4 : IntKind.i64.wrap ((q.length : Int) + (sj : Int) + ((x.length : Int) + 1)) = (q.length : Int) + (sj : Int) + ((x.length : Int) + 1) := by rw [IntKind.wrap_i64]; omega
          have b5 : IntKind.i64.wrap ((j : Int) + 1) = (j : Int) + 1 := by rw [IntKind.wrap_i64]; omega
          have HS2 : Hid (sj + (x.length + 1) = sumL (d.take (j + 1))) := hsum.symm
          have hle2 : sj + (x.length + 1) ≤ 65536 := by omega
          clear hsum hle hx HS
          go_wp2
          exact ⟨⟨j + 1, sj + (x.length + 1), by omega, hle2, by congr 1; omega, by go_num, HS2⟩, by simp [intOf]; omega⟩
        · obtain rfl : j = m := by omega
          have hfin : (q.length : Int) + (sj : Int) = (r : Int) := by
            have h1 := HS.out
            have h2 := HDm.out
            have h3 := HRR.out
            omega
          have hfe : ((q.length : Int) + (sj : Int) == (r : Int)) = true := by simp [hfin]
          have b6 : ¬ (j : Int) < (j : Int) := by omega
          clear HS
          rw [hfin]
          go_wp2_with (first | (go_at_call 9; refine (HA.out _).mono ?_; rintro e w5 ⟨rfl, hb5⟩))
          go_ret
          exact ⟨rfl, below_aft (below_aft hb2 hb3) hb5⟩
end Go.Proofs.YtpnamkpoapcgeaaDoor
