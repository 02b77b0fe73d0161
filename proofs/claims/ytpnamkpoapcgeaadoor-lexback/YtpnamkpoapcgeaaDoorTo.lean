import Derived.Test.YtpnamkpoapcgeaaDoorTn
import Derived.Test.YtpnamkpoapcgeaaDoorLf
import Derived.Lib.SmallJoins
namespace Go.Proofs.YtpnamkpoapcgeaaDoor
open Go.RowKit Go.Shelf
attribute [local go_sem] Oper.semAt_some
set_option linter.unusedVariables false
set_option linter.unusedSimpArgs false

theorem toks_len (S : List UInt8) : (lexToks S).length ≤ S.length := by
  unfold lexToks
  split
  · exact pcs_len _ _
  · simp
/-- Tokens that came out are like those that went in. -/
theorem like_lks (xs : List Tk) (ts : List Tz) (h : Lks xs ts) (hn : ts.length ≤ 65536) (a b : Option Addr) (ca cb : Nat) (w : World) (ha : TAt w a xs) (hb : TzA w b ts) :
    Calls Tryd.prog 27 #[.slice a ts.length ca, .slice b ts.length cb] w fun e w' => e = .returned (.bool true) ∧ Below w.heap.size w w' := by
  have hl := lks_len h
  have := like_ok (xs.map tkZ) ts a b ca cb w (tat_tza ha) hb (by rw [List.length_map]; omega) (by rw [List.length_map]; omega) (fun i x y hx hy => by
    rw [List.getElem?_map] at hx
    cases hxi : xs[i]? with
    | none => rw [hxi] at hx; cases hx
    | some x' =>
      rw [hxi] at hx
      cases hx
      have := lks_at h i x' y hxi hy
      exact ⟨this.1, this.2.1, this.2.2⟩)
  rwa [List.length_map, hl] at this
set_option maxRecDepth 100000 in
set_option maxHeartbeats 8000000 in
theorem lexBack_walk (ts : List Tz) (a0 : Option Addr) (cap : Nat) (S : List UInt8) (w : World) (hat : TzA w a0 ts) (hn : ts.length ≤ maxLen) (hts : ∀ t ∈ ts, -9223372036854775808 ≤ t.n ∧ t.n ≤ 9223372036854775807 ∧ t.s.length ≤ maxLen) (hS : S.length ≤ maxLen)
    (hpow : ∀ W, Below w.heap.size w W → Lib.TabIs Tryd.prog W "internal/strconv.uint64pow10" .u64 Lib.pow10Tab) :
    Calls Tryd.prog 6 #[.slice a0 ts.length cap, .string (str S)] w fun e w' => e = .returned (.bool true) ∧ Below w.heap.size w w' := by
  have HA : Hid (∀ W, Calls Tryd.prog 9 #[] W fun e w' => e = .returned (.bool true) ∧ Below W.heap.size W w') := awake_any
  have HF : Hid (Calls Tryd.prog 14 #[.slice a0 ts.length cap] w fun e w' => ∃ b : Bool, e = .returned (.bool b) ∧ (b = true → ts.length ≤ 16384 ∧ ∀ t ∈ ts, t.s.length ≤ 16384) ∧ w' = w) := fits_any ts a0 cap w hat hn (fun t ht => (hts t ht).2.2)
  have HAT : Hid (TzA w a0 ts) := hat
  have HNUM : Hid (∀ W, Below w.heap.size w W → ∀ t ∈ ts, Num W t) := fun W hW t ht _ => ⟨hpow W hW, (hts t ht).1, (hts t ht).2.1⟩
  have HPOW : Hid (∀ W, Below w.heap.size w W → Lib.TabIs Tryd.prog W "internal/strconv.uint64pow10" .u64 Lib.pow10Tab) := hpow
  have hsz := str_size S
  clear hat hts hpow
  go_enter Tryd.func6, Tryd.ntmps6
  go_upto_region 1 with fail
  go_cut [27] from 20 (fun c wx => ∃ bad : Bool, c = .bool bad ∧ (bad = false → (ts.length ≤ 16384 ∧ ∀ t ∈ ts, t.s.length ≤ 16384) ∧ S.length ≤ 16384) ∧ wx = w)
  case first =>
    by_cases hbig : 16384 < S.length
    · have hg : (16384 : Int) < (S.length : Int) := by omega
      go_wp2_with (go_at_call 14; refine HF.out.mono ?_; rintro e w1 ⟨b, rfl, hb, hw1⟩; replace hw1 := hw1.symm; subst hw1; clear hb)
      all_goals go_meet
      all_goals exact ⟨true, by simp, (fun h => by cases h), rfl⟩
    · have hg : ¬ (16384 : Int) < (S.length : Int) := by omega
      go_wp2_with (go_at_call 14; refine HF.out.mono ?_; rintro e w1 ⟨b, rfl, hb, hw1⟩; replace hw1 := hw1.symm; subst hw1; have HB : Hid (b = true → ts.length ≤ 16384 ∧ ∀ t ∈ ts, t.s.length ≤ 16384) := hb; clear hb)
      · go_meet
        exact ⟨false, by simp [hg], (fun _ => ⟨HB.out (by first | rfl | trivial), by omega⟩), rfl⟩
      · go_meet
        exact ⟨true, rfl, (fun h => by cases h), rfl⟩
  case rest =>
  obtain ⟨bad, rfl, hgood, hwc⟩ := hcut
  replace hwc := hwc.symm
  subst hwc
  cases bad with
  | true =>
    go_wp2_with (go_at_call 9; refine (HA.out _).mono ?_; rintro e w2 ⟨rfl, hb2⟩)
    go_ret
    exact ⟨rfl, hb2⟩
  | false =>
    obtain ⟨⟨hlen, hsl⟩, hSl⟩ := hgood rfl
    obtain ⟨A, E1, hR1⟩ : ∃ A E1, jres (fun _ _ => true) ts = (A, E1) := ⟨_, _, rfl⟩
    obtain ⟨B, E2, hR2⟩ : ∃ B E2, jres cl ts = (B, E2) := ⟨_, _, rfl⟩
    have H19 : Hid (Calls Tryd.prog 19 #[.slice a0 ts.length cap] w fun e w' => e = .returned (.tuple #[.string (str A), .int .i64 E1]) ∧ Below w.heap.size w w') := by
      have := join_any ts a0 cap w HAT.out hlen hsl HNUM.out
      rw [hR1] at this
      exact this
    have H21 : Hid (∀ W, Below w.heap.size w W → Calls Tryd.prog 21 #[.slice a0 ts.length cap] W fun e w' => e = .returned (.tuple #[.string (str B), .int .i64 E2]) ∧ Below W.heap.size W w') := fun W hW => by
      have := tight_any ts a0 cap W (HAT.out.below hW) hlen hsl (fun W' hW' => HNUM.out W' (below_aft hW hW'))
      rw [hR2] at this
      exact this
    have HJ : Hid (E1 = 0 → A = jf (fun _ _ => true) ts ∧ B = jf cl ts ∧ E2 = 0 ∧ A.length ≤ 65536 ∧ B.length ≤ A.length ∧ Lks (lexToks A) ts ∧ Lks (lexToks B) ts ∧ (∀ t ∈ pcs A.length A, t.k ≠ 0) ∧ (∀ t ∈ pcs B.length B, t.k ≠ 0)) := fun h0 => by
      obtain ⟨j1, j2, j3⟩ := jres_zero (bl := fun _ _ => true) (ts := ts) (by rw [hR1]; exact h0)
      rw [hR1] at j3
      cases j3
      have jl := jf_len (bl := cl) (bl' := fun _ _ => true) (fun _ _ _ => rfl) ts
      have j4 := jres_of (bl := cl) j1 (by omega)
      rw [hR2] at j4
      cases j4
      exact ⟨rfl, rfl, rfl, j2, jl, back_lex _ ts j1 (fun _ _ => .inl rfl) j2, back_lex cl ts j1 cl_or (by omega), back_all _ ts j1 (fun _ _ => .inl rfl) _, back_all cl ts j1 cl_or _⟩
    clear hR1 hR2 hgood
    go_upto_if 40 with (first
      | (go_at_call 19; refine H19.out.mono ?_; rintro e w1 ⟨rfl, hb1⟩)
      | (go_at_call 21; refine (H21.out _ hb1).mono ?_; rintro e w2 ⟨rfl, hb2⟩))
    have B2 := below_aft hb1 hb2
    go_cut [] from 9 (fun wx => Below w.heap.size w wx)
    case first =>
      by_cases he : E1 = 0
      · subst he
        obtain ⟨-, -, rfl, hAl, hBl, hLA, hLB, hzA, hzB⟩ := HJ.out rfl
        clear HJ H19 H21
        have HGA : Hid (∀ W, Calls Tryd.prog 10 #[.string (str A)] W fun e w' => ∃ v, e = .returned (.tuple #[v, .int .i64 0, .int .i64 0]) ∧ TRow w' W.heap.size v (lexToks A) ∧ Below W.heap.size W w') := fun W => lex_good W A hAl hzA
        have HGB : Hid (∀ W, Calls Tryd.prog 10 #[.string (str B)] W fun e w' => ∃ v, e = .returned (.tuple #[v, .int .i64 0, .int .i64 0]) ∧ TRow w' W.heap.size v (lexToks B) ∧ Below W.heap.size W w') := fun W => lex_good W B (by omega) hzB
        have hlA := lks_len hLA
        have hlB := lks_len hLB
        have HKA : Hid (∀ W a ca, TAt W a (lexToks A) → TzA W a0 ts → Calls Tryd.prog 27 #[.slice a ts.length ca, .slice a0 ts.length cap] W fun e w' => e = .returned (.bool true) ∧ Below W.heap.size W w') := fun W a ca h1 h2 => like_lks _ ts hLA (by omega) a a0 ca cap W h1 h2
        have HKB : Hid (∀ W a ca, TAt W a (lexToks B) → TzA W a0 ts → Calls Tryd.prog 27 #[.slice a ts.length ca, .slice a0 ts.length cap] W fun e w' => e = .returned (.bool true) ∧ Below W.heap.size W w') := fun W a ca h1 h2 => like_lks _ ts hLB (by omega) a a0 ca cap W h1 h2
        have HlA : Hid ((lexToks A).length = ts.length) := hlA
        have HlB : Hid ((lexToks B).length = ts.length) := hlB
        clear hLA hLB hzA hzB hlA hlB
        have hsA := str_size A
        have hsB := str_size B
        have hcmp : ¬ (A.length : Int) < (B.length : Int) := by omega
        have hcm2 : decide ((A.length : Int) < (B.length : Int)) = false := decide_eq_false hcmp
        go_wp2_with (first
          | (go_at_call 10; have _h := R3; refine (HGB.out _).mono ?_; rintro e w4 ⟨v4, rfl, R4, hb4⟩; obtain ⟨a4, c4, rfl, T4, _⟩ := trow_at R4; rw [HlB.out]; have B4 := below_aft B3 hb4)
          | (go_at_call 10; refine (HGA.out _).mono ?_; rintro e w3 ⟨v3, rfl, R3, hb3⟩; obtain ⟨a3, c3, rfl, T3, _⟩ := trow_at R3; rw [HlA.out]; have B3 := below_aft B2 hb3)
          | (go_at_call 27; have _h := hb5; refine (HKB.out _ a4 c4 (T4.below hb5) ((HAT.out.below B4).below hb5)).mono ?_; rintro e w6 ⟨rfl, hb6⟩)
          | (go_at_call 27; refine (HKA.out _ a3 c3 (T3.below hb4) (HAT.out.below B4)).mono ?_; rintro e w5 ⟨rfl, hb5⟩))
        go_meet
        exact below_aft (below_aft B4 hb5) hb6
      · have heb : (E1 == 0) = false := by simpa using he
        clear HJ
        go_wp2
        go_meet
        exact B2
    case rest =>
    have B3 : Below w.heap.size w wc := hcut
    generalize wc = w9 at *
    clear hcut B2 hb1 hb2 HJ H19 H21
    by_cases hz : ∀ t ∈ pcs S.length S, t.k ≠ 0
    · have hL : lexToks S = pcs S.length S := by
        unfold lexToks
        rw [if_pos ⟨by omega, hz⟩]
      have hLl := toks_len S
      obtain ⟨L, hLe⟩ : ∃ L, L = lexToks S := ⟨_, rfl⟩
      have HG : Hid (∀ W, Calls Tryd.prog 10 #[.string (str S)] W fun e w' => ∃ v, e = .returned (.tuple #[v, .int .i64 0, .int .i64 0]) ∧ TRow w' W.heap.size v L ∧ Below W.heap.size W w') := fun W => by
        rw [hLe]; exact lex_good W S (by omega) hz
      have hmay : ∀ t ∈ L.map tkZ, tzMay t = true := fun t ht => by
        obtain ⟨x, hx, rfl⟩ := List.mem_map.1 ht
        rw [hLe] at hx
        exact lexToks_may hx
      have htok : ∀ x ∈ L, x.n ≤ 9223372036854775807 ∧ x.s.length ≤ S.length := fun x hx => by
        rw [hLe, hL] at hx
        exact pcs_tok _ S (Nat.lt_succ_self _) x hx (hz x hx)
      obtain ⟨B, hBe⟩ : ∃ B, B = jf cl (L.map tkZ) := ⟨_, rfl⟩
      have hBl : B.length ≤ S.length := by
        have h1 := tight_le (N := S.length) _ S (Nat.lt_succ_self _) (by omega) hz
        have h2 := sk_len false S
        rw [hBe, hLe, hL]
        omega
      have hLks : Lks (lexToks B) (L.map tkZ) := by rw [hBe]; exact back_lex cl _ hmay cl_or (by rw [← hBe]; omega)
      have hzB : ∀ t ∈ pcs B.length B, t.k ≠ 0 := by rw [hBe]; exact back_all cl _ hmay cl_or _
      have HGB : Hid (∀ W, Calls Tryd.prog 10 #[.string (str B)] W fun e w' => ∃ v, e = .returned (.tuple #[v, .int .i64 0, .int .i64 0]) ∧ TRow w' W.heap.size v (lexToks B) ∧ Below W.heap.size W w') := fun W => lex_good W B (by omega) hzB
      have hLn : L.length ≤ S.length := by rw [hLe]; exact hLl
      have H21 : Hid (∀ W a c, TAt W a L → Below w.heap.size w W → Calls Tryd.prog 21 #[.slice a L.length c] W fun e w' => e = .returned (.tuple #[.string (str B), .int .i64 0]) ∧ Below W.heap.size W w') := fun W a c hta hW => by
        have := tight_any (L.map tkZ) a c W (tat_tza hta) (by rw [List.length_map]; omega) (fun t ht => by
          obtain ⟨x, hx, rfl⟩ := List.mem_map.1 ht
          have := (htok x hx).2
          show x.s.length ≤ 16384
          omega) (fun W' hW' t ht _ => by
          obtain ⟨x, hx, rfl⟩ := List.mem_map.1 ht
          have := (htok x hx).1
          refine ⟨HPOW.out W' (below_aft hW hW'), ?_, ?_⟩
          · show (-9223372036854775808 : Int) ≤ (x.n : Int); omega
          · show (x.n : Int) ≤ (9223372036854775807 : Int); omega)
        rw [jres_of hmay (by rw [← hBe]; omega), ← hBe, List.length_map] at this
        exact this
      have HK : Hid (∀ W a ca b cb, TAt W a (lexToks B) → TAt W b L → Calls Tryd.prog 27 #[.slice a L.length ca, .slice b L.length cb] W fun e w' => e = .returned (.bool true) ∧ Below W.heap.size W w') := fun W a ca b cb h1 h2 => by
        have := like_lks _ (L.map tkZ) hLks (by rw [List.length_map]; omega) a b ca cb W h1 (tat_tza h2)
        rwa [List.length_map] at this
      have HlB : Hid ((lexToks B).length = L.length) := by have := lks_len hLks; rwa [List.length_map] at this
      have hsB := str_size B
      have hcmp : (B.length : Int) ≤ (S.length : Int) := by omega
      clear hL hLl hLe hmay htok hBe hLks hzB hz
      go_wp2_with (first
        | (go_at_call 10; have _h := R7; refine (HGB.out _).mono ?_; rintro e y3 ⟨v8, rfl, R8, hy3⟩; obtain ⟨a8, c8, rfl, T8, _⟩ := trow_at R8; rw [HlB.out])
        | (go_at_call 10; refine (HG.out _).mono ?_; rintro e y1 ⟨v7, rfl, R7, hy1⟩; obtain ⟨a7, c7, rfl, T7, _⟩ := trow_at R7; have C1 := below_aft B3 hy1)
        | (go_at_call 21; refine (H21.out _ a7 c7 T7 C1).mono ?_; rintro e y2 ⟨rfl, hy2⟩)
        | (go_at_call 27; refine (HK.out _ a8 c8 a7 c7 T8 ((T7.below hy2).below hy3)).mono ?_; rintro e y4 ⟨rfl, hy4⟩)
        | (go_at_call 9; refine (HA.out _).mono ?_; rintro e y5 ⟨rfl, hy5⟩))
      go_ret
      exact ⟨rfl, below_aft (below_aft (below_aft (below_aft C1 hy2) hy3) hy4) hy5⟩
    · have HG : Hid (∀ W, Calls Tryd.prog 10 #[.string (str S)] W fun e w' => ∃ p : Nat, e = .returned (.tuple #[.slice none 0 0, .int .i64 (p : Int), .int .i64 20]) ∧ p ≤ S.length ∧ Below W.heap.size W w') := fun W => lex_bad W S (by omega) hz
      clear hz
      go_wp2_with (first
        | (go_at_call 10; refine (HG.out _).mono ?_; rintro e y1 ⟨p, rfl, hp, hy1⟩; have hp0 : (0 : Int) ≤ (p : Int) := (by omega); have hp1 : (p : Int) ≤ (S.length : Int) := (by omega))
        | (go_at_call 9; refine (HA.out _).mono ?_; rintro e y5 ⟨rfl, hy5⟩))
      go_ret
      exact ⟨rfl, below_aft (below_aft B3 hy1) hy5⟩
end Go.Proofs.YtpnamkpoapcgeaaDoor
