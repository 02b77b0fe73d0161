import Derived.Test.YtpnamkpoapcgeaaDoorTq
import Derived.Test.YtpnamkpoapcgeaaDoorLf
import Derived.Deep.CutRange
namespace Go.Proofs.YtpnamkpoapcgeaaDoor
open Go.RowKit Go.Shelf
attribute [local go_sem] Oper.semAt_some
set_option linter.unusedVariables false
set_option linter.unusedSimpArgs false

set_option maxRecDepth 100000 in
set_option maxHeartbeats 8000000 in
theorem goes_long (S Y : List UInt8) (w : World) (h : 16384 < S.length ∨ 16384 < Y.length) :
    Calls Tryd.prog 7 #[.string (str S), .string (str Y)] w fun e w' => e = .returned (.bool true) ∧ Below w.heap.size w w' := by
  have HA : Hid (∀ W, Calls Tryd.prog 9 #[] W fun e w' => e = .returned (.bool true) ∧ Below W.heap.size W w') := awake_any
  have hs1 := str_size S
  have hs2 := str_size Y
  by_cases h1 : 16384 < S.length
  · have hg : (16384 : Int) < (S.length : Int) := by omega
    have hg' : decide ((16384 : Int) < (S.length : Int)) = true := decide_eq_true hg
    go_enter Tryd.func7, Tryd.ntmps7
    go_wp2_with (go_at_call 9; refine (HA.out _).mono ?_; rintro e w1 ⟨rfl, hb1⟩)
    go_ret
    exact ⟨rfl, hb1⟩
  · have hg : ¬ (16384 : Int) < (S.length : Int) := by omega
    have hg' : decide ((16384 : Int) < (S.length : Int)) = false := decide_eq_false hg
    have hy : (16384 : Int) < (Y.length : Int) := by omega
    have hy' : decide ((16384 : Int) < (Y.length : Int)) = true := decide_eq_true hy
    clear h h1
    go_enter Tryd.func7, Tryd.ntmps7
    go_wp2_with (go_at_call 9; refine (HA.out _).mono ?_; rintro e w1 ⟨rfl, hb1⟩)
    go_ret
    exact ⟨rfl, hb1⟩
set_option maxRecDepth 100000 in
set_option maxHeartbeats 8000000 in
theorem goes_good (S Y : List UInt8) (w : World) (hS : S.length ≤ 16384) (hY : Y.length ≤ 16384) (hz : ∀ t ∈ pcs S.length S, t.k ≠ 0)
    (hpow : ∀ W, Below w.heap.size w W → Lib.TabIs Tryd.prog W "internal/strconv.uint64pow10" .u64 Lib.pow10Tab) :
    Calls Tryd.prog 7 #[.string (str S), .string (str Y)] w fun e w' => e = .returned (.bool true) ∧ Below w.heap.size w w' := by
  have HA : Hid (∀ W, Calls Tryd.prog 9 #[] W fun e w' => e = .returned (.bool true) ∧ Below W.heap.size W w') := awake_any
  have hs1 := str_size S
  have hs2 := str_size Y
  have hg : ¬ (16384 : Int) < (S.length : Int) := by omega
  have hg' : decide ((16384 : Int) < (S.length : Int)) = false := decide_eq_false hg
  have hy : ¬ (16384 : Int) < (Y.length : Int) := by omega
  have hy' : decide ((16384 : Int) < (Y.length : Int)) = false := decide_eq_false hy
  have hL : lexToks S = pcs S.length S := by
    unfold lexToks
    rw [if_pos ⟨by omega, hz⟩]
  have hLl : (lexToks S).length ≤ S.length := by rw [hL]; exact pcs_len _ _
  obtain ⟨L, hLe⟩ : ∃ L, L = lexToks S := ⟨_, rfl⟩
  have HG : Hid (∀ W, Calls Tryd.prog 10 #[.string (str S)] W fun e w' => ∃ v, e = .returned (.tuple #[v, .int .i64 0, .int .i64 0]) ∧ TRow w' W.heap.size v L ∧ Below W.heap.size W w') := fun W => by
    rw [hLe]; exact lex_good W S (by omega) hz
  have HTOK : Hid (∀ x ∈ L, x.n ≤ 9223372036854775807 ∧ x.s.length ≤ S.length) := fun x hx => by
    rw [hLe, hL] at hx
    exact pcs_tok _ S (Nat.lt_succ_self _) x hx (hz x hx)
  have HMAY : Hid (∀ x ∈ L, tzMay (tkZ x) = true) := fun x hx => by rw [hLe] at hx; exact lexToks_may hx
  have HPL : Hid (∀ x ∈ L, x.p + (tzText (tkZ x)).length ≤ S.length ∧ (S.drop x.p).take (tzText (tkZ x)).length = tzText (tkZ x)) := fun x hx => by rw [hLe] at hx; exact tok_place hx
  have hLn : L.length ≤ 16384 := by rw [hLe]; omega
  have HPOW : Hid (∀ W, Below w.heap.size w W → Lib.TabIs Tryd.prog W "internal/strconv.uint64pow10" .u64 Lib.pow10Tab) := hpow
  have HT : Hid (∀ x ∈ L, ∀ W, Below w.heap.size w W → Calls Tryd.prog 15 #[tok x.k x.p x.n (str x.s)] W fun e w' => e = .returned (.tuple #[.string (str (tzText (tkZ x))), .int .i64 0]) ∧ Below W.heap.size W w') := fun x hx W hW => by
    have h1 := HTOK.out x hx
    have h2 := (HPL.out x hx).1
    exact text_ok (tkZ x) W (by show x.s.length ≤ _; omega) (by omega) (fun W' hW' _ => ⟨HPOW.out W' (below_aft hW hW'), by show (-9223372036854775808 : Int) ≤ (x.n : Int); omega, by show (x.n : Int) ≤ 9223372036854775807; omega⟩) (HMAY.out x hx)
  have HGLL : Hid (∀ k, k ≤ L.length → (gl ((L.take k).map tkZ)).length ≤ 268550000) := fun k hk => by
    have := gl_len 16384 ((L.take k).map tkZ) (fun t ht => by
      obtain ⟨x, hx, rfl⟩ := List.mem_map.1 ht
      have := (HPL.out x (List.mem_of_mem_take hx)).1
      omega)
    rw [List.length_map, List.length_take] at this
    have h2 : min k L.length * (16384 + 6) ≤ 16384 * 16390 := Nat.mul_le_mul_right _ (by omega)
    omega
  have HGLU : Hid (Lks (pcs (gl (L.map tkZ)).length (gl (L.map tkZ))) (L.map tkZ)) := glue _ _ (fun t ht => by
    obtain ⟨x, hx, rfl⟩ := List.mem_map.1 ht
    exact HMAY.out x hx)
  clear hL hLl hLe hz hpow
  go_enter Tryd.func7, Tryd.ntmps7
  go_wp2_with (go_at_call 10; refine (HG.out _).mono ?_; rintro e w1 ⟨v, rfl, hr, hb1⟩; obtain ⟨a1, c1, rfl, T1, _⟩ := trow_at hr)
  have HT1 : Hid (TAt w1 a1 L) := T1
  clear T1 hr
  go_loopw [8, 9] (fun v i W => ∃ k : Nat, k ≤ L.length ∧ i = .int .i64 k ∧ v = .string (str (gl ((L.take k).map tkZ))) ∧ Below w1.heap.size w1 W) (fun _ i _ => L.length - (intOf i).toNat)
  case atStart => exact ⟨0, Nat.zero_le _, rfl, rfl, Below.refl _ _⟩
  case round =>
    obtain ⟨k, hk, rfl, rfl, hB⟩ := hrel
    by_cases hlt : k < L.length
    · obtain ⟨x, hx⟩ : ∃ x, L[k]? = some x := ⟨_, List.getElem?_eq_getElem hlt⟩
      have hmem : x ∈ L := List.mem_of_getElem? hx
      obtain ⟨g0, rfl, hrow⟩ := (HT1.out.below hB) (by rintro rfl; simp at hlt)
      obtain ⟨hg0, c0, c1', c2, c3⟩ := hrow k (tkZ x) (by rw [List.getElem?_map, hx]; rfl)
      simp only [Nat.zero_add, tkZ] at c0 c1' c2 c3
      obtain ⟨hp1, hp2⟩ := HPL.out x hmem
      have hBw := below_aft hb1 hB
      have HX : Hid (Calls Tryd.prog 15 #[tok x.k x.p x.n (str x.s)] wr fun e w' => e = .returned (.tuple #[.string (str (tzText (tkZ x))), .int .i64 0]) ∧ Below wr.heap.size wr w') := HT.out x hmem wr hBw
      have hgl1 := HGLL.out k (by omega)
      have HNX : Hid (gl ((L.take (k + 1)).map tkZ) = gl ((L.take k).map tkZ) ++ (tzText (tkZ x) ++ gap)) := by
        show _ = _
        obtain ⟨hkk, e⟩ := List.getElem?_eq_some_iff.1 hx
        rw [List.take_succ_eq_append_getElem hkk, e, List.map_append, List.map_cons, List.map_nil, gl_snoc]
      obtain ⟨T, hT⟩ : ∃ T, T = tzText (tkZ x) := ⟨_, rfl⟩
      rw [← hT] at hp1 hp2 HX HNX
      obtain ⟨Gk, hGk⟩ : ∃ Gk, Gk = gl ((L.take k).map tkZ) := ⟨_, rfl⟩
      rw [← hGk] at hgl1 HNX ⊢
      have hext : (str S).extract x.p (x.p + T.length) = str T := by
        rw [str_ext, List.drop_take, Nat.add_sub_cancel_left, hp2]
      have hsT := str_size T
      have hsG := str_size Gk
      have h1 : (0 : Int) ≤ (k : Int) := by omega
      have h2 : (k : Int) < (L.length : Int) := by omega
      have w3 : IntKind.i64.wrap ((k : Int) + 1) = (k : Int) + 1 := by rw [IntKind.wrap_i64]; omega
      have w4 : IntKind.i64.wrap ((x.p : Int) + (T.length : Int)) = (x.p : Int) + (T.length : Int) := by rw [IntKind.wrap_i64]; omega
      have p0 : ¬ (x.p : Int) < 0 := by omega
      have p0d : decide ((x.p : Int) < 0) = false := decide_eq_false p0
      have p1 : (0 : Int) ≤ (x.p : Int) := by omega
      have p2 : (x.p : Int) ≤ (x.p : Int) + (T.length : Int) := by omega
      have p3 : (x.p : Int) + (T.length : Int) ≤ (S.length : Int) := by omega
      have p4 : ¬ (S.length : Int) < (x.p : Int) + (T.length : Int) := by omega
      have p4d : decide ((S.length : Int) < (x.p : Int) + (T.length : Int)) = false := decide_eq_false p4
      have p5 : ((x.p : Int) + (T.length : Int)).toNat = x.p + T.length := by omega
      obtain ⟨q1, q2, q3, q4⟩ := str_eqs T
      have hle1 : ¬ (9223372036854775807 < T.length + 6) := by omega
      have hle2 : ¬ (9223372036854775807 < Gk.length + (T.length + 6)) := by omega
      clear hrow hx hp2 hT hGk
      go_upto_region 10 with (go_at_call 15; refine HX.out.mono ?_; rintro e w2 ⟨rfl, hb2⟩)
      have d0 := (hb2.cell hg0).trans c0
      have d1 := (hb2.cell hg0).trans c1'
      have d2 := (hb2.cell hg0).trans c2
      have d3 := (hb2.cell hg0).trans c3
      clear c0 c1' c2 c3
      go_big_quiet (fail)
      go_wp2
      refine ⟨⟨k + 1, by omega, by go_num, ?_, below_drewN (below_aft hB hb2) _⟩, by simp [intOf]; omega⟩
      rw [HNX.out, ← str_append, ← str_append]
      rfl
    · obtain rfl : k = L.length := by omega
      have hgl1 := HGLL.out L.length (Nat.le_refl _)
      rw [List.take_length] at hgl1 ⊢
      obtain ⟨G, hG⟩ : ∃ G, G = gl (L.map tkZ) := ⟨_, rfl⟩
      rw [← hG] at hgl1 HGLU ⊢
      have hsG := str_size G
      by_cases hbig : 65536 < G.length
      · have HLO : Hid (∀ W, Calls Tryd.prog 10 #[.string (str G)] W fun e w' => e = .returned (.tuple #[.slice none 0 0, .int .i64 0, .int .i64 3]) ∧ Below W.heap.size W w') := fun W => lex_long W G hbig (by unfold maxLen; omega)
        have b1 : (65536 : Int) < (G.length : Int) := by omega
        have b2 : decide ((65536 : Int) < (G.length : Int)) = true := decide_eq_true b1
        clear HGLU hG
        go_wp2_with (first
          | (go_at_call 10; refine (HLO.out _).mono ?_; rintro e w2 ⟨rfl, hb2⟩)
          | (go_at_call 9; refine (HA.out _).mono ?_; rintro e w3 ⟨rfl, hb3⟩))
        go_ret
        exact ⟨rfl, below_aft (below_aft (below_aft hb1 hB) hb2) hb3⟩
      · have b1 : ¬ (65536 : Int) < (G.length : Int) := by omega
        have b2 : decide ((65536 : Int) < (G.length : Int)) = false := decide_eq_false b1
        have hzG := lks_k HGLU.out
        have hlx : lexToks G = pcs G.length G := by
          unfold lexToks
          rw [if_pos ⟨by omega, hzG⟩]
        have HLO : Hid (∀ W, Calls Tryd.prog 10 #[.string (str G)] W fun e w' => ∃ v, e = .returned (.tuple #[v, .int .i64 0, .int .i64 0]) ∧ TRow w' W.heap.size v (lexToks G) ∧ Below W.heap.size W w') := fun W => lex_good W G (by omega) hzG
        have hlks : Lks (lexToks G) (L.map tkZ) := by rw [hlx]; exact HGLU.out
        have hlen := lks_len hlks
        rw [List.length_map] at hlen
        have HLEN : Hid ((lexToks G).length = L.length) := hlen
        have HK : Hid (∀ W a ca b cb, TAt W a L → TAt W b (lexToks G) → Calls Tryd.prog 27 #[.slice a L.length ca, .slice b L.length cb] W fun e w' => e = .returned (.bool true) ∧ Below W.heap.size W w') := fun W a ca b cb h1 h2 => by
          have := like_ok (L.map tkZ) ((lexToks G).map tkZ) a b ca cb W (tat_tza h1) (tat_tza h2) (by rw [List.length_map]; omega) (by rw [List.length_map, List.length_map]; omega) (fun i x y hx hy => by
            rw [List.getElem?_map] at hy
            cases hyi : (lexToks G)[i]? with
            | none => rw [hyi] at hy; cases hy
            | some y' =>
              rw [hyi] at hy
              cases hy
              have := lks_at hlks i y' x hyi hx
              exact ⟨this.1.symm, this.2.1.symm, this.2.2.symm⟩)
          rwa [List.length_map] at this
        clear HGLU hG hzG hlx hlks hlen
        go_wp2_with (first
          | (go_at_call 10; refine (HLO.out _).mono ?_; rintro e w2 ⟨v2, rfl, R2, hb2⟩; obtain ⟨a2, c2, rfl, T2, _⟩ := trow_at R2; rw [HLEN.out])
          | (go_at_call 27; refine (HK.out _ a1 c1 a2 c2 ((HT1.out.below hB).below hb2) T2).mono ?_; rintro e w3 ⟨rfl, hb3⟩)
          | (go_at_call 9; refine (HA.out _).mono ?_; rintro e w4 ⟨rfl, hb4⟩))
        go_ret
        exact ⟨rfl, below_aft (below_aft (below_aft (below_aft hb1 hB) hb2) hb3) hb4⟩
/-- The endings that are tried. -/
def ends : List (List UInt8) := [[], [97], [38], [124]]
set_option maxRecDepth 100000 in
set_option maxHeartbeats 8000000 in
theorem goes_bad (S Y : List UInt8) (w : World) (hS : S.length ≤ 16384) (hY : Y.length ≤ 16384) (hz : ¬ ∀ t ∈ pcs S.length S, t.k ≠ 0) :
    Calls Tryd.prog 7 #[.string (str S), .string (str Y)] w fun e w' => e = .returned (.bool true) ∧ Below w.heap.size w w' := by
  have HA : Hid (∀ W, Calls Tryd.prog 9 #[] W fun e w' => e = .returned (.bool true) ∧ Below W.heap.size W w') := awake_any
  have hs1 := str_size S
  have hs2 := str_size Y
  have hg : ¬ (16384 : Int) < (S.length : Int) := by omega
  have hg' : decide ((16384 : Int) < (S.length : Int)) = false := decide_eq_false hg
  have hy : ¬ (16384 : Int) < (Y.length : Int) := by omega
  have hy' : decide ((16384 : Int) < (Y.length : Int)) = false := decide_eq_false hy
  obtain ⟨p, hp, h10, ⟨E, hE, hgood⟩, hnext⟩ := stuck_all S hS hz
  have H10 : Hid (∀ w, Calls Tryd.prog 10 #[.string (str S)] w fun e w' => e = .returned (.tuple #[.slice none 0 0, .int .i64 (p : Int), .int .i64 20]) ∧ Below w.heap.size w w') := h10
  obtain ⟨j, hj, hEj⟩ : ∃ j, j < 4 ∧ ends.getD j [] = E := by
    rcases hE with rfl | rfl | rfl
    · exact ⟨0, by omega, rfl⟩
    · exact ⟨1, by omega, rfl⟩
    · exact ⟨3, by omega, rfl⟩
  have HE : Hid (∀ k W, k < 4 → Calls Tryd.prog 10 #[.string (str (S.take p ++ ends.getD k []))] W fun e w' => ∃ (v : Value) (q er : Int), e = .returned (.tuple #[v, .int .i64 q, .int .i64 er]) ∧ (k = j → er = 0) ∧ Below W.heap.size W w') := fun k W hk => by
    have hel : (ends.getD k []).length ≤ 1 := by
      have : k = 0 ∨ k = 1 ∨ k = 2 ∨ k = 3 := by omega
      rcases this with rfl | rfl | rfl | rfl <;> decide
    refine (lex_some W _ (by rw [List.length_append, List.length_take]; omega)).mono ?_
    rintro e w' ⟨v, q, er, rfl, h1, h2⟩
    exact ⟨v, q, er, rfl, (fun hkj => h1 (by subst hkj; rw [hEj]; exact hgood _)), h2⟩
  have HNX : Hid (p < S.length → ∀ w, Calls Tryd.prog 10 #[.string (str (S.take (p + 1) ++ Y))] w fun e w' => e = .returned (.tuple #[.slice none 0 0, .int .i64 (p : Int), .int .i64 20]) ∧ Below w.heap.size w w') := fun h => hnext h Y hY
  have p0 : ¬ (p : Int) < 0 := by omega
  have p0d : decide ((p : Int) < 0) = false := decide_eq_false p0
  have p1 : ¬ (S.length : Int) < (p : Int) := by omega
  have p1d : decide ((S.length : Int) < (p : Int)) = false := decide_eq_false p1
  have p1n : decide (S.length < p) = false := decide_eq_false (by omega)
  have p1m : ¬ S.length < p := by omega
  have p2 : (0 : Int) ≤ (p : Int) := by omega
  have p3 : (p : Int) ≤ (S.length : Int) := by omega
  clear h10 hnext hgood hE hEj hz
  go_enter Tryd.func7, Tryd.ntmps7
  go_wp2_with (go_at_call 10; refine (H10.out _).mono ?_; rintro e w1 ⟨rfl, hb1⟩)
  have A15 : At (w1.alloc (.cells #[.string ⟨#[]⟩, .string ⟨#[97]⟩, .string ⟨#[38]⟩, .string ⟨#[124]⟩] 56 (0, 0))) w1.heap.size (.cells #[.string ⟨#[]⟩, .string ⟨#[97]⟩, .string ⟨#[38]⟩, .string ⟨#[124]⟩] 56 (0, 0)) := At.new w1 _
  obtain ⟨U, hU⟩ : ∃ U, U = w1.alloc (.cells #[.string ⟨#[]⟩, .string ⟨#[97]⟩, .string ⟨#[38]⟩, .string ⟨#[124]⟩] 56 (0, 0)) := ⟨_, rfl⟩
  have HU : Hid (w1.alloc (.cells #[.string ⟨#[]⟩, .string ⟨#[97]⟩, .string ⟨#[38]⟩, .string ⟨#[124]⟩] 56) = U) := hU.symm
  rw [← hU] at A15
  have BU : Below w1.heap.size w1 U := by rw [hU]; exact belA (Below.refl _ _)
  clear hU
  have hB0 := HU.out
  rw [hB0]
  clear hB0 HU
  have HC : Hid (∀ W, Below U.heap.size U W → ∀ k, k < 4 → W.cell? ⟨w1.heap.size, k, none⟩ = some (.string (str (ends.getD k [])))) := fun W hW k hk => by
    have hA : At W w1.heap.size (.cells #[.string ⟨#[]⟩, .string ⟨#[97]⟩, .string ⟨#[38]⟩, .string ⟨#[124]⟩] 56 (0, 0)) := A15.below hW
    unfold At at hA
    have : k = 0 ∨ k = 1 ∨ k = 2 ∨ k = 3 := by omega
    rcases this with rfl | rfl | rfl | rfl <;> simp [World.cell?, hA, ends, str]
  have hext : (str S).extract 0 p = str (S.take p) := by rw [str_ext, List.drop_zero]
  have hext1 : (str S).extract 0 (p + 1) = str (S.take (p + 1)) := by rw [str_ext, List.drop_zero]
  have hls : (S.take p).length = p := by rw [List.length_take]; omega
  have hlsz := str_size (S.take p)
  rw [hls] at hlsz
  go_loopw [16, 17] (fun ok i W => ∃ (k : Nat) (b : Bool), k ≤ 4 ∧ i = .int .i64 k ∧ ok = .bool b ∧ (j < k → b = true) ∧ Below U.heap.size U W) (fun _ i _ => 4 - (intOf i).toNat)
  case atStart => exact ⟨0, false, by omega, rfl, rfl, fun h => absurd h (Nat.not_lt_zero _), Below.refl _ _⟩
  case round =>
    obtain ⟨k, b, hk, rfl, rfl, hjb, hB⟩ := hrel
    have HJB : Hid (j < k → b = true) := hjb
    clear hjb
    by_cases hlt : k < 4
    · have hck := HC.out wr hB k hlt
      have HEk : Hid (∀ W, Calls Tryd.prog 10 #[.string (str (S.take p) ++ str (ends.getD k []))] W fun e w' => ∃ (v : Value) (q er : Int), e = .returned (.tuple #[v, .int .i64 q, .int .i64 er]) ∧ (k = j → er = 0) ∧ Below W.heap.size W w') := fun W => by
        rw [str_append]; exact HE.out k W hlt
      have hel : (ends.getD k []).length ≤ 1 := by
        have : k = 0 ∨ k = 1 ∨ k = 2 ∨ k = 3 := by omega
        rcases this with rfl | rfl | rfl | rfl <;> decide
      obtain ⟨Ek, hEk⟩ : ∃ Ek, Ek = ends.getD k [] := ⟨_, rfl⟩
      rw [← hEk] at hck HEk hel
      clear hEk
      have hse := str_size Ek
      have hlt' := A15.lt
      have k1 : (0 : Int) ≤ (k : Int) := by omega
      have k2 : (k : Int) < 4 := by omega
      have w3 : IntKind.i64.wrap ((k : Int) + 1) = (k : Int) + 1 := by rw [IntKind.wrap_i64]; omega
      have hle : ¬ (9223372036854775807 < p + Ek.length) := by omega
      have KS : Hid (∀ W', Below wr.heap.size wr W' → (fun W' => Below wr.heap.size wr W' ∧ W'.cell? ⟨w1.heap.size, k, none⟩ = some (.string (str Ek))) W') := fun W' h => ⟨h, (h.cell (Nat.lt_of_lt_of_le A15.lt hB.size)).trans hck⟩
      clear hck
      go_wp2
      go_region_held3 (fun W' => Below wr.heap.size wr W' ∧ W'.cell? ⟨w1.heap.size, k, none⟩ = some (.string (str Ek)))
        (first | (exact KS.out _ (Below.refl _ _).drew) | (exact KS.out _ hbb) | go_keep)
        (first | (go_at_call 10; refine (HEk.out _).mono ?_; rintro e w5 ⟨v5, q5, er, rfl, her, hb5⟩; have hbb : Below wr.heap.size wr w5 := (Below.refl _ _).drew.trans (hb5.mono (Nat.le_refl _))))
      have HER : Hid (k = j → er = 0) := her
      clear her
      cases b with
      | true =>
        go_wp2
        exact ⟨⟨k + 1, true, by omega, by go_num, rfl, (fun _ => rfl), below_aft hB hbb⟩, by simp [intOf]; omega⟩
      | false =>
        have HNJ : Hid (j < k + 1 → (er == 0) = true) := fun h => by
          rcases Nat.lt_or_ge j k with h' | h'
          · cases HJB.out h'
          · rw [HER.out (by omega)]; rfl
        clear HJB HER
        go_wp2
        first
          | exact ⟨⟨k + 1, (er == 0), by omega, by go_num, rfl, HNJ.out, below_aft hB hbb⟩, by simp [intOf]; omega⟩
          | exact ⟨⟨k + 1, by omega, by go_num, HNJ.out, below_aft hB hbb⟩, by simp [intOf]; omega⟩
          | exact ⟨⟨k + 1, by omega, by go_num, (fun h => by simpa using HNJ.out h), below_aft hB hbb⟩, by simp [intOf]; omega⟩
    · obtain rfl : k = 4 := by omega
      have hbt : b = true := HJB.out hj
      subst hbt
      have hBw := below_aft hb1 (below_aft BU hB)
      clear HJB
      by_cases hend : p < S.length
      · have e1 : (p : Int) < (S.length : Int) := by omega
        have e2 : IntKind.i64.wrap ((p : Int) + 1) = (p : Int) + 1 := by rw [IntKind.wrap_i64]; omega
        have e3 : (0 : Int) ≤ (p : Int) + 1 := by omega
        have e4 : (p : Int) + 1 ≤ (S.length : Int) := by omega
        have e5 : ((p : Int) + 1).toNat = p + 1 := by omega
        have hls1 : (S.take (p + 1)).length = p + 1 := by rw [List.length_take]; omega
        have hlsz1 := str_size (S.take (p + 1))
        rw [hls1] at hlsz1
        have hle : ¬ (9223372036854775807 < p + 1 + Y.length) := by omega
        have HN : Hid (∀ W, Calls Tryd.prog 10 #[.string (str (S.take (p + 1)) ++ str Y)] W fun e w' => e = .returned (.tuple #[.slice none 0 0, .int .i64 (p : Int), .int .i64 20]) ∧ Below W.heap.size W w') := fun W => by
          rw [str_append]; exact HNX.out hend W
        go_wp2_with (first
          | (go_at_call 10; refine (HN.out _).mono ?_; rintro e y1 ⟨rfl, hy1⟩)
          | (go_at_call 9; refine (HA.out _).mono ?_; rintro e y2 ⟨rfl, hy2⟩))
        go_ret
        exact ⟨rfl, below_aft (below_aft hBw hy1) hy2⟩
      · have e1 : ¬ (p : Int) < (S.length : Int) := by omega
        go_wp2_with (first
          | (go_at_call 9; refine (HA.out _).mono ?_; rintro e y2 ⟨rfl, hy2⟩))
        go_ret
        exact ⟨rfl, below_aft hBw hy2⟩
theorem lexGoes_walk (S Y : List UInt8) (w : World)
    (hpow : ∀ W, Below w.heap.size w W → Lib.TabIs Tryd.prog W "internal/strconv.uint64pow10" .u64 Lib.pow10Tab) :
    Calls Tryd.prog 7 #[.string (str S), .string (str Y)] w fun e w' => e = .returned (.bool true) ∧ Below w.heap.size w w' := by
  by_cases h1 : 16384 < S.length ∨ 16384 < Y.length
  · exact goes_long S Y w h1
  · by_cases hz : ∀ t ∈ pcs S.length S, t.k ≠ 0
    · exact goes_good S Y w (by omega) (by omega) hz hpow
    · exact goes_bad S Y w (by omega) (by omega) hz
end Go.Proofs.YtpnamkpoapcgeaaDoor
