import Derived.Test.YtkidcmglidnaoaaSj
namespace Go.Proofs.Ytkidcmglidnaoaa
open Go.RowKit Go.Shelf
set_option linter.unusedVariables false
set_option linter.unusedSimpArgs false
/-- What the reference asks of a node. -/
def rok (x : Nx) (ks : List Nat) : Bool := fdB x && rcB x.k x.n ks
theorem rask_ask {T : List Nd} {d : Nd} (h : d.l.length ≤ 16385) : rAskB T d = askB rok T d := by
  unfold rAskB askB rok
  rw [decide_eq_true h, Bool.true_and]
  cases kq T d.l <;> rfl
theorem rask_whole {T : List Nd} {x : Nx} {c : Fo} (hT : T = (Fo.cons x c .nil).flat 0) (hl : T.length ≤ 16384) : (∀ d ∈ T, rAskB T d = true) ↔ (Fo.cons x c .nil).all rok = true := by
  subst hT
  rw [← ask_whole rok x c]
  rw [Fo.len_flat] at hl
  constructor
  · intro h d hd
    rw [← rask_ask (Nat.le_trans (flat_kids _ 0 d hd).2 (by omega))]
    exact h d hd
  · intro h d hd
    rw [rask_ask (Nat.le_trans (flat_kids _ 0 d hd).2 (by omega))]
    exact h d hd
theorem wk_inl_lt (T : List Nd) : ∀ (f n : Nat) (ls : List Int) (next p : Nat), n < T.length → wk T f n ls next = .inl p → p < T.length := by
  intro f
  induction f with
  | zero =>
    intro n ls next p hn h
    cases ls with
    | nil => simp only [wk] at h; cases h
    | cons c ls => simp only [wk] at h; cases h; exact hn
  | succ f ih =>
    intro n ls
    induction ls with
    | nil => intro next p hn h; simp only [wk] at h; cases h
    | cons c ls ihl =>
      intro next p hn h
      by_cases hc : c = (next : Int) ∧ next < T.length
      · obtain ⟨rfl, hlt⟩ := hc
        rw [wk_in hlt] at h
        cases hw : wk T f next (kids T next) (next + 1) with
        | inl q => rw [hw] at h; cases h; exact ih _ _ _ _ hlt hw
        | inr k => rw [hw] at h; exact ihl k p hn h
      · rw [wk_stop hc] at h
        cases h
        exact hn
/-- Where the walk's end stands, and what that tells. -/
theorem wk_end {T : List Nd} (h0 : T ≠ []) : ∃ b : Nat, b ≤ T.length ∧ (wk T T.length 0 (kids T 0) 1 = .inl b ∧ b < T.length ∨ wk T T.length 0 (kids T 0) 1 = .inr b) ∧ (b = T.length ↔ ∃ x c, T = (Fo.cons x c .nil).flat 0) := by
  have hp := List.length_pos_iff.2 h0
  rw [← stray_iff h0]
  cases hw : wk T T.length 0 (kids T 0) 1 with
  | inl p =>
    have := wk_inl_lt T _ _ _ _ _ hp hw
    exact ⟨p, by omega, .inl ⟨rfl, this⟩, ⟨fun h => by omega, fun h => by cases h⟩⟩
  | inr k => exact ⟨k, wk_le (by omega) hw, .inr rfl, ⟨fun h => by rw [h], fun h => by cases h; rfl⟩⟩
set_option maxRecDepth 100000 in
set_option maxHeartbeats 4000000 in
theorem rcheck_mid (T : List Nd) (a : Option Addr) (cap : Nat) (w : World) (hT : TAt w a T) (hS : Sm T) (hT0 : T ≠ []) (hl : T.length ≤ 16384) :
    Calls Try.prog 13 #[trV a T.length cap] w fun e w' => (∃ n v : Int, e = .returned (.tuple #[.int .i64 n, .int .i64 v]) ∧ Ck rok T v) ∧ Below w.heap.size w w' := by
  have hTp : 0 < T.length := List.length_pos_iff.2 hT0
  have A1 := At.new w (Tro a T.length cap)
  obtain ⟨c0, f0⟩ := A1.one
  have hB1 : Below w.heap.size w (w.alloc (Tro a T.length cap)) := belA (Below.refl _ _)
  have HWK : Hid (∀ W, Below w.heap.size w W → Calls Try.prog 39 #[trV a T.length cap, .int .i64 0, .int .i64 1] W fun e w' => e = .returned (wkV (wk T T.length 0 (kids T 0) 1)) ∧ Below W.heap.size W w') := hidE fun W hW => rwalk_any T a cap hS T.length 0 1 W (hT.below hW) hTp hTp (by omega)
  have HAS : Hid (∀ (i : Nat) (d : Nd) W, Below w.heap.size w W → T[i]? = some d → Calls Try.prog 40 #[trV a T.length cap, .int .i64 (i : Int)] W fun e w' => e = .returned (.bool (rAskB T d)) ∧ Below W.heap.size W w') := hidE fun i d W hW hd => rasks_any T a cap i d W (hT.below hW) hS hd
  have HDP : Hid (∀ x c, T = (Fo.cons x c .nil).flat 0 → ∀ W, Below w.heap.size w W → Calls Try.prog 41 #[trV a T.length cap, .int .i64 0] W fun e w' => e = .returned (.int .i64 (((Fo.cons x c .nil).deep : Nat) : Int)) ∧ Below W.heap.size W w') := hidE fun x c hTe W hW => by
    have hs : T.length = 1 + c.size := by rw [hTe, Fo.len_flat]; simp [Fo.size]
    have := rdeep_any T a cap hS (c.size + 1) 0 x c W (by omega) (hT.below hW) (by rw [hTe]; rfl) (by rw [hTe]; simp [Fo.flat, List.take_of_length_le, Fo.len_flat]) (by omega)
    rw [show (Fo.cons x c .nil).deep = 1 + c.deep by simp only [Fo.deep]; omega]
    exact this
  have z1 : ((T.length : Int) == 0) = false := by simpa using (by omega : ¬ (T.length : Int) = 0)
  have z2 : ¬ (16384 : Int) < (T.length : Int) := by omega
  have z2d : decide ((16384 : Int) < (T.length : Int)) = false := decide_eq_false z2
  have z3 : (T.length == 0) = false := by simpa using (by omega : ¬ T.length = 0)
  obtain ⟨B0, hB0, hwk, hwh⟩ := wk_end hT0
  have HWH : Hid (B0 = T.length ↔ ∃ x c, T = (Fo.cons x c .nil).flat 0) := hidE hwh
  have HRW : Hid (∀ x c, T = (Fo.cons x c .nil).flat 0 → ((∀ d ∈ T, rAskB T d = true) ↔ (Fo.cons x c .nil).all rok = true)) := hidE fun x c h => rask_whole h hl
  clear hT hS hwh
  rcases hwk with ⟨hwk, hbl⟩ | hwk
  · rw [hwk] at HWK
    clear hwk
    go_enter Try.func13, Try.ntmps13
    go_wp2_with (go_at_call 39; refine (HWK.out _ hB1).mono ?_; rintro e w1 ⟨rfl, hb1⟩; unfold wkV; obtain ⟨e0, ef⟩ := (A1.below hb1).one)
    have hA1 : At w1 w.heap.size (Tro a T.length cap) := A1.below hb1
    have hBw : Below w.heap.size w w1 := below_aft hB1 hb1
    clear e0 ef hb1 A1 c0 f0 hB1
    go_loopw [4, 7] (fun v i W => ∃ b j : Nat, i = .int .i64 (j : Int) ∧ v = .int .i64 (b : Int) ∧ b ≤ T.length ∧ j ≤ b + 1 ∧ ((b = B0) ∨ (b < T.length ∧ ∃ d, T[b]? = some d ∧ rAskB T d = false)) ∧ Hid (∀ (q : Nat) d, q < j → q < b → T[q]? = some d → rAskB T d = true) ∧ At W w.heap.size (Tro a T.length cap) ∧ Below w.heap.size w W) (fun _ i _ => T.length + 1 - (intOf i).toNat)
    case atStart => exact ⟨B0, 0, rfl, rfl, hB0, Nat.zero_le _, .inl rfl, fun q d h => absurd h (Nat.not_lt_zero q), hA1, hBw⟩
    case round =>
      obtain ⟨b, j, rfl, rfl, hb, hj, hbad, HALL, hA, hB⟩ := hrel
      clear hA1 hBw
      obtain ⟨c0, f0⟩ := hA.one
      have j3 : IntKind.i64.wrap ((j : Int) + 1) = (j : Int) + 1 := by rw [IntKind.wrap_i64]; omega
      have HBAD : Hid ((b = B0) ∨ (b < T.length ∧ ∃ d, T[b]? = some d ∧ rAskB T d = false)) := hidE hbad
      have hA' : Hid (At wr w.heap.size (Tro a T.length cap)) := hidE hA
      clear hbad hA
      by_cases hjb : j < b
      · obtain ⟨d, hd⟩ : ∃ d, T[j]? = some d := ⟨_, List.getElem?_eq_getElem (by omega)⟩
        have HC := hidE (HAS.out j d wr hB hd)
        have HD : Hid (T[j]? = some d) := hidE hd
        have g1 : (j : Int) < (b : Int) := by omega
        have g1d : decide ((j : Int) < (b : Int)) = true := decide_eq_true g1
        cases hr : rAskB T d with
        | true =>
          rw [hr] at HC
          have HR : Hid (rAskB T d = true) := hidE hr
          clear hr hd
          go_wp2_with (go_at_call 40; refine HC.out.mono ?_; rintro e w2 ⟨rfl, hb2⟩)
          refine ⟨⟨b, j + 1, by go_num, rfl, hb, by omega, HBAD.out, fun q d' hq hqb hqd => ?_, At.below hA'.out hb2, below_aft hB hb2⟩, by simp [intOf]; omega⟩
          rcases Nat.lt_or_ge q j with h | h
          · exact HALL.out q d' h hqb hqd
          · obtain rfl : q = j := by omega
            rw [HD.out] at hqd
            cases hqd
            exact HR.out
        | false =>
          rw [hr] at HC
          have HR : Hid (∃ d, T[j]? = some d ∧ rAskB T d = false) := hidE ⟨d, hd, hr⟩
          clear hr hd
          go_wp2_with (go_at_call 40; refine HC.out.mono ?_; rintro e w2 ⟨rfl, hb2⟩)
          exact ⟨⟨j, j + 1, by go_num, rfl, by omega, by omega, .inr ⟨by omega, HR.out⟩, fun q d' hq hqb hqd => HALL.out q d' hqb (by omega) hqd, At.below hA'.out hb2, below_aft hB hb2⟩, by simp [intOf]; omega⟩
      · have g1 : ¬ (j : Int) < (b : Int) := by omega
        have g1d : decide ((j : Int) < (b : Int)) = false := decide_eq_false g1
        by_cases hbl2 : b < T.length
        · have g2 : (b : Int) < (T.length : Int) := by omega
          have g2d : decide ((b : Int) < (T.length : Int)) = true := decide_eq_true g2
          have HF : Hid (Ck rok T 30) := hidE (by
            refine .inr (.inr ⟨hT0, hl, .inl ⟨?_, rfl⟩⟩)
            rintro ⟨x, c, h1, h2⟩
            rcases HBAD.out with h | ⟨-, d, hd, hr⟩
            · have := HWH.out.2 ⟨x, c, h1⟩; omega
            · rw [((HRW.out x c h1).2 h2) d (List.mem_of_getElem? hd)] at hr
              cases hr)
          clear HALL HBAD
          go_wp2_with fail
          go_ret2
          exact ⟨⟨_, _, rfl, HF.out⟩, hB⟩
        · have hbe : b = T.length := by omega
          have hBe : B0 = T.length := by
            rcases HBAD.out with h | ⟨h, -⟩
            · omega
            · omega
          omega
  · rw [hwk] at HWK
    clear hwk
    have k0 : ¬ (B0 : Int) < 0 := by omega
    have k0d : decide ((B0 : Int) < 0) = false := decide_eq_false k0
    by_cases hkl : B0 < T.length
    · have k1 : (B0 : Int) < (T.length : Int) := by omega
      have k1d : decide ((B0 : Int) < (T.length : Int)) = true := decide_eq_true k1
      go_enter Try.func13, Try.ntmps13
      go_wp2_with (go_at_call 39; refine (HWK.out _ hB1).mono ?_; rintro e w1 ⟨rfl, hb1⟩; unfold wkV; obtain ⟨e0, ef⟩ := (A1.below hb1).one)
      have hA1 : At w1 w.heap.size (Tro a T.length cap) := A1.below hb1
      have hBw : Below w.heap.size w w1 := below_aft hB1 hb1
      clear e0 ef hb1 A1 c0 f0 hB1
      go_loopw [4, 7] (fun v i W => ∃ b j : Nat, i = .int .i64 (j : Int) ∧ v = .int .i64 (b : Int) ∧ b ≤ T.length ∧ j ≤ b + 1 ∧ ((b = B0) ∨ (b < T.length ∧ ∃ d, T[b]? = some d ∧ rAskB T d = false)) ∧ Hid (∀ (q : Nat) d, q < j → q < b → T[q]? = some d → rAskB T d = true) ∧ At W w.heap.size (Tro a T.length cap) ∧ Below w.heap.size w W) (fun _ i _ => T.length + 1 - (intOf i).toNat)
      case atStart => exact ⟨B0, 0, rfl, rfl, hB0, Nat.zero_le _, .inl rfl, fun q d h => absurd h (Nat.not_lt_zero q), hA1, hBw⟩
      case round =>
        obtain ⟨b, j, rfl, rfl, hb, hj, hbad, HALL, hA, hB⟩ := hrel
        clear hA1 hBw
        obtain ⟨c0, f0⟩ := hA.one
        have j3 : IntKind.i64.wrap ((j : Int) + 1) = (j : Int) + 1 := by rw [IntKind.wrap_i64]; omega
        have HBAD : Hid ((b = B0) ∨ (b < T.length ∧ ∃ d, T[b]? = some d ∧ rAskB T d = false)) := hidE hbad
        have hA' : Hid (At wr w.heap.size (Tro a T.length cap)) := hidE hA
        clear hbad hA
        by_cases hjb : j < b
        · obtain ⟨d, hd⟩ : ∃ d, T[j]? = some d := ⟨_, List.getElem?_eq_getElem (by omega)⟩
          have HC := hidE (HAS.out j d wr hB hd)
          have HD : Hid (T[j]? = some d) := hidE hd
          have g1 : (j : Int) < (b : Int) := by omega
          have g1d : decide ((j : Int) < (b : Int)) = true := decide_eq_true g1
          cases hr : rAskB T d with
          | true =>
            rw [hr] at HC
            have HR : Hid (rAskB T d = true) := hidE hr
            clear hr hd
            go_wp2_with (go_at_call 40; refine HC.out.mono ?_; rintro e w2 ⟨rfl, hb2⟩)
            refine ⟨⟨b, j + 1, by go_num, rfl, hb, by omega, HBAD.out, fun q d' hq hqb hqd => ?_, At.below hA'.out hb2, below_aft hB hb2⟩, by simp [intOf]; omega⟩
            rcases Nat.lt_or_ge q j with h | h
            · exact HALL.out q d' h hqb hqd
            · obtain rfl : q = j := by omega
              rw [HD.out] at hqd
              cases hqd
              exact HR.out
          | false =>
            rw [hr] at HC
            have HR : Hid (∃ d, T[j]? = some d ∧ rAskB T d = false) := hidE ⟨d, hd, hr⟩
            clear hr hd
            go_wp2_with (go_at_call 40; refine HC.out.mono ?_; rintro e w2 ⟨rfl, hb2⟩)
            exact ⟨⟨j, j + 1, by go_num, rfl, by omega, by omega, .inr ⟨by omega, HR.out⟩, fun q d' hq hqb hqd => HALL.out q d' hqb (by omega) hqd, At.below hA'.out hb2, below_aft hB hb2⟩, by simp [intOf]; omega⟩
        · have g1 : ¬ (j : Int) < (b : Int) := by omega
          have g1d : decide ((j : Int) < (b : Int)) = false := decide_eq_false g1
          by_cases hbl2 : b < T.length
          · have g2 : (b : Int) < (T.length : Int) := by omega
            have g2d : decide ((b : Int) < (T.length : Int)) = true := decide_eq_true g2
            have HF : Hid (Ck rok T 30) := hidE (by
              refine .inr (.inr ⟨hT0, hl, .inl ⟨?_, rfl⟩⟩)
              rintro ⟨x, c, h1, h2⟩
              rcases HBAD.out with h | ⟨-, d, hd, hr⟩
              · have := HWH.out.2 ⟨x, c, h1⟩; omega
              · rw [((HRW.out x c h1).2 h2) d (List.mem_of_getElem? hd)] at hr
                cases hr)
            clear HALL HBAD
            go_wp2_with fail
            go_ret2
            exact ⟨⟨_, _, rfl, HF.out⟩, hB⟩
          · have hbe : b = T.length := by omega
            have hBe : B0 = T.length := by
              rcases HBAD.out with h | ⟨h, -⟩
              · omega
              · omega
            omega
    · obtain ⟨L, hL⟩ : ∃ L, L = T.length := ⟨_, rfl⟩
      have hBL : B0 = T.length := by omega
      have k1 : ¬ (B0 : Int) < (T.length : Int) := by omega
      have k1d : decide ((B0 : Int) < (T.length : Int)) = false := decide_eq_false k1
      rw [show ((B0 : Nat) : Int) = (T.length : Int) by omega] at k0 k0d k1 k1d
      rw [show wkV (.inr B0) = wkV (.inr T.length) by rw [hBL]] at HWK
      clear hL
      subst hBL
      go_enter Try.func13, Try.ntmps13
      go_wp2_with (go_at_call 39; refine (HWK.out _ hB1).mono ?_; rintro e w1 ⟨rfl, hb1⟩; unfold wkV; obtain ⟨e0, ef⟩ := (A1.below hb1).one)
      have hA1 : At w1 w.heap.size (Tro a T.length cap) := A1.below hb1
      have hBw : Below w.heap.size w w1 := below_aft hB1 hb1
      clear e0 ef hb1 A1 c0 f0 hB1
      go_loopw [4, 7] (fun v i W => ∃ b j : Nat, i = .int .i64 (j : Int) ∧ v = .int .i64 (b : Int) ∧ b ≤ T.length ∧ j ≤ b + 1 ∧ ((b = T.length) ∨ (b < T.length ∧ ∃ d, T[b]? = some d ∧ rAskB T d = false)) ∧ Hid (∀ (q : Nat) d, q < j → q < b → T[q]? = some d → rAskB T d = true) ∧ At W w.heap.size (Tro a T.length cap) ∧ Below w.heap.size w W) (fun _ i _ => T.length + 1 - (intOf i).toNat)
      case atStart => exact ⟨T.length, 0, rfl, rfl, hB0, Nat.zero_le _, .inl rfl, fun q d h => absurd h (Nat.not_lt_zero q), hA1, hBw⟩
      case round =>
        obtain ⟨b, j, rfl, rfl, hb, hj, hbad, HALL, hA, hB⟩ := hrel
        clear hA1 hBw
        obtain ⟨c0, f0⟩ := hA.one
        have j3 : IntKind.i64.wrap ((j : Int) + 1) = (j : Int) + 1 := by rw [IntKind.wrap_i64]; omega
        have HBAD : Hid ((b = T.length) ∨ (b < T.length ∧ ∃ d, T[b]? = some d ∧ rAskB T d = false)) := hidE hbad
        have hA' : Hid (At wr w.heap.size (Tro a T.length cap)) := hidE hA
        clear hbad hA
        by_cases hjb : j < b
        · obtain ⟨d, hd⟩ : ∃ d, T[j]? = some d := ⟨_, List.getElem?_eq_getElem (by omega)⟩
          have HC := hidE (HAS.out j d wr hB hd)
          have HD : Hid (T[j]? = some d) := hidE hd
          have g1 : (j : Int) < (b : Int) := by omega
          have g1d : decide ((j : Int) < (b : Int)) = true := decide_eq_true g1
          cases hr : rAskB T d with
          | true =>
            rw [hr] at HC
            have HR : Hid (rAskB T d = true) := hidE hr
            clear hr hd
            go_wp2_with (go_at_call 40; refine HC.out.mono ?_; rintro e w2 ⟨rfl, hb2⟩)
            refine ⟨⟨b, j + 1, by go_num, rfl, hb, by omega, HBAD.out, fun q d' hq hqb hqd => ?_, At.below hA'.out hb2, below_aft hB hb2⟩, by simp [intOf]; omega⟩
            rcases Nat.lt_or_ge q j with h | h
            · exact HALL.out q d' h hqb hqd
            · obtain rfl : q = j := by omega
              rw [HD.out] at hqd
              cases hqd
              exact HR.out
          | false =>
            rw [hr] at HC
            have HR : Hid (∃ d, T[j]? = some d ∧ rAskB T d = false) := hidE ⟨d, hd, hr⟩
            clear hr hd
            go_wp2_with (go_at_call 40; refine HC.out.mono ?_; rintro e w2 ⟨rfl, hb2⟩)
            exact ⟨⟨j, j + 1, by go_num, rfl, by omega, by omega, .inr ⟨by omega, HR.out⟩, fun q d' hq hqb hqd => HALL.out q d' hqb (by omega) hqd, At.below hA'.out hb2, below_aft hB hb2⟩, by simp [intOf]; omega⟩
        · have g1 : ¬ (j : Int) < (b : Int) := by omega
          have g1d : decide ((j : Int) < (b : Int)) = false := decide_eq_false g1
          by_cases hbl2 : b < T.length
          · have g2 : (b : Int) < (T.length : Int) := by omega
            have g2d : decide ((b : Int) < (T.length : Int)) = true := decide_eq_true g2
            have HF : Hid (Ck rok T 30) := hidE (by
              refine .inr (.inr ⟨hT0, hl, .inl ⟨?_, rfl⟩⟩)
              rintro ⟨x, c, h1, h2⟩
              rcases HBAD.out with h | ⟨-, d, hd, hr⟩
              · have := HWH.out.2 ⟨x, c, h1⟩; omega
              · rw [((HRW.out x c h1).2 h2) d (List.mem_of_getElem? hd)] at hr
                cases hr)
            clear HALL HBAD
            go_wp2_with fail
            go_ret2
            exact ⟨⟨_, _, rfl, HF.out⟩, hB⟩
          · have hbe : b = T.length := by omega
            have hBe : T.length = T.length := by
              rcases HBAD.out with h | ⟨h, -⟩
              · omega
              · omega
            obtain ⟨x, c, hx⟩ := HWH.out.1 (by first | exact hBe | trivial)
            have HX : Hid (T = (Fo.cons x c .nil).flat 0) := hidE hx
            have HALR : Hid ((Fo.cons x c .nil).all rok = true) := hidE ((HRW.out x c hx).1 (fun d hd => by
              obtain ⟨q, hq⟩ := List.getElem?_of_mem hd
              have hql := (List.getElem?_eq_some_iff.1 hq).1
              exact HALL.out q d (by omega) (by omega) hq))
            have HC := hidE (HDP.out x c hx wr hB)
            have g2 : ¬ (b : Int) < (T.length : Int) := by omega
            have g2d : decide ((b : Int) < (T.length : Int)) = false := decide_eq_false g2
            obtain ⟨D, hD⟩ : ∃ D, D = (Fo.cons x c .nil).deep := ⟨_, rfl⟩
            rw [← hD] at HC
            have HCK : Hid (Ck rok T (if 48 < D then 4 else 0)) := hidE (.inr (.inr ⟨hT0, hl, .inr ⟨x, c, hx, HALR.out, by rw [hD]⟩⟩))
            clear hx hD HALL HBAD HX HALR hbe
            by_cases h48 : 48 < D
            · have g4 : (48 : Int) < (D : Int) := by omega
              have g4d : decide ((48 : Int) < (D : Int)) = true := decide_eq_true g4
              rw [if_pos h48] at HCK
              clear h48
              go_wp2_with (go_at_call 41; refine HC.out.mono ?_; rintro e w2 ⟨rfl, hb2⟩)
              go_ret2
              exact ⟨⟨_, _, rfl, HCK.out⟩, below_aft hB hb2⟩
            · have g4 : ¬ (48 : Int) < (D : Int) := by omega
              have g4d : decide ((48 : Int) < (D : Int)) = false := decide_eq_false g4
              rw [if_neg h48] at HCK
              clear h48
              go_wp2_with (go_at_call 41; refine HC.out.mono ?_; rintro e w2 ⟨rfl, hb2⟩)
              go_ret2
              exact ⟨⟨_, _, rfl, HCK.out⟩, below_aft hB hb2⟩
end Go.Proofs.Ytkidcmglidnaoaa
