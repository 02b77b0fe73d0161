import Derived.Test.YtpnamkpoapcgeaaDoorTc
import Derived.Test.YtpnamkpoapcgeaaDoorZb
import Derived.BigQuiet
namespace Go.Proofs.YtpnamkpoapcgeaaDoor
open Go.RowKit Go.Shelf
attribute [local go_sem] Oper.semAt_some
set_option linter.unusedVariables false
set_option linter.unusedSimpArgs false

/-- What may be a token, in the reference's words. -/
theorem text_iff {t : Tz} (hT : (tzText t).length ≤ 65536) : tzMay t = true ↔ (0 ≤ t.p ∧ ∃ x, lexToks (tzText t) = [x] ∧ Lk x t ∧ x.p = 0 ∧ (rd (tzText t)).far = (tzText t).length) := by
  constructor
  · intro h
    obtain ⟨a0, a1, a2, a3, a4, a5⟩ := may_get h
    have hsk := sk_of a0 (not_note a1)
    have hp : pcs (tzText t).length (tzText t) = [pc (tzText t).length (tzText t)] := by
      cases hl : tzText t with
      | nil => rw [hl] at a0; exact absurd rfl a0
      | cons c r =>
        rw [hl] at hsk a0 a1
        rw [pcs_more hsk a0, a1, List.drop_length, pcs_nil rfl]
    refine ⟨a5, pc (tzText t).length (tzText t), ?_, ⟨a2, a3, a4⟩, ?_, a1⟩
    · have hall : ∀ x ∈ pcs (tzText t).length (tzText t), x.k ≠ 0 := by
        rw [hp]
        intro x hx
        rw [List.mem_singleton] at hx
        subst hx
        exact a0
      unfold lexToks
      rw [if_pos ⟨hT, hall⟩]
      exact hp
    · unfold pc
      dsimp only
      rw [if_neg a0]
      omega
  · rintro ⟨h0, x, hl, hx, hp, hf⟩
    obtain ⟨e1, e2, e3⟩ := lexToks_pcs (by rw [hl]; simp : lexToks (tzText t) ≠ [])
    rw [hl] at e1
    obtain ⟨c, r, f1, f2, f3, f4⟩ := pcs_step e1.symm
    have hk : (rd (c :: r)).k ≠ 0 := by
      have := e3 x (by rw [← e1]; simp)
      rw [f2] at this
      exact this
    have hpx : x.p = (tzText t).length - (c :: r).length := by
      rw [f2]; unfold pc; dsimp only; rw [if_neg hk]; omega
    have hsl := sk_len false (tzText t)
    have hsk := sk_eq_of_len (tzText t) (by rw [f1] at hsl ⊢; omega)
    rw [hsk] at f1
    rw [← f1] at f2 hk
    rw [f2] at hx
    exact may_of hk hf hx.1 hx.2.1 hx.2.2 h0
theorem rlex_row (w : World) (S : List UInt8) (hS : S.length ≤ 65536) :
    Calls Tryd.prog 11 #[.string (str S)] w fun e w' => ∃ (v : Value) (p er : Int), e = .returned (.tuple #[v, .int .i64 p, .int .i64 er]) ∧ (lexToks S ≠ [] → er = 0) ∧ TRow w' w.heap.size v (lexToks S) ∧ Below w.heap.size w w' := by
  refine (rlex_any w S hS).mono ?_
  rintro e w' ⟨hb, ⟨v, rfl, hr, hz⟩ | ⟨p, t, rfl, hp, hk⟩⟩
  · refine ⟨v, 0, 0, rfl, fun _ => rfl, ?_, hb⟩
    unfold lexToks
    rw [if_pos ⟨hS, hz⟩]
    exact hr
  · have hn : lexToks S = [] := by
      unfold lexToks
      rw [if_neg (fun h => h.2 t (by rw [hp]; simp) hk)]
    refine ⟨_, _, _, rfl, fun h => absurd hn h, ?_, hb⟩
    rw [hn]
    exact World.ownsRow_nil _ _ _ _
set_option maxRecDepth 100000 in
set_option maxHeartbeats 2000000 in
theorem ends_zero (S : List UInt8) (hS : S.length ≤ 65536) (x : Tk) (xs : List Tk) (hl : lexToks S = x :: xs) (hp : x.p = 0) (w : World) :
    Calls Tryd.prog 36 #[.string (str S)] w fun e w' => e = .returned (.tuple #[.int .i64 ((rd S).far : Int), .bool true]) ∧ Below w.heap.size w w' := by
  have hS0 : 0 < S.length := by
    cases S with
    | nil => rw [show lexToks [] = [] by decide] at hl; cases hl
    | cons c r => simp
  have HL : Hid (Calls Tryd.prog 11 #[.string (str S)] w fun e w' => ∃ (v : Value) (p er : Int), e = .returned (.tuple #[v, .int .i64 p, .int .i64 er]) ∧ (lexToks S ≠ [] → er = 0) ∧ TRow w' w.heap.size v (lexToks S) ∧ Below w.heap.size w w') := rlex_row w S hS
  have H1 : Hid (∀ W, Calls Tryd.prog 31 #[.string (str S), .int .i64 ((0 : Nat) : Int)] W fun e w' => (∃ v, e = .returned v ∧ OneV 0 (rd (S.drop 0)) v) ∧ Below W.heap.size W w') := fun W => one_any W S 0 (by unfold maxLen; omega) hS0
  have HLL : Hid (lexToks S = x :: xs) := hl
  have HP : Hid (x.p = 0) := hp
  clear hl hp
  go_enter Tryd.func36, Tryd.ntmps36
  go_wp2_with (first
    | (go_at_call 11; refine HL.out.mono ?_; rintro e w1 ⟨v, p, er, rfl, her, hr, hb1⟩; obtain rfl := her (by rw [HLL.out]; simp); rw [HLL.out] at hr; obtain ⟨sa, sc, rfl, hta, _⟩ := trow_at hr; obtain ⟨g, rfl, hz⟩ := hta (by simp); obtain ⟨_, c0, c1, c2, c3⟩ := hz 0 (tkZ x) rfl; simp only [Nat.zero_add, Nat.zero_mul, tkZ, HP.out] at c0 c1 c2 c3; obtain ⟨n, hn, hn1⟩ : ∃ n, (x :: xs).length = n ∧ 0 < n := ⟨_, rfl, (by simp)⟩; rw [hn]; have hpos : (0 : Int) < (n : Int) := (by omega); have hne : ((n : Int) == 0) = false := (by simp; omega); have hnn : ¬ (n : Int) = 0 := (by omega); have hnz : ¬ n = 0 := (by omega); clear hr hz hta her hn)
    | (go_at_call 31; refine (H1.out w1).mono ?_; rintro e w2 ⟨⟨v, rfl, k, a, m, s, rfl, _⟩, hb2⟩))
  go_ret2
  exact ⟨rfl, belA (below_aft hb1 hb2)⟩
theorem itoa_len (n : Int) (h1 : -9223372036854775808 ≤ n) (h2 : n ≤ 9223372036854775807) : (Lib.itoa n).length ≤ 20 := by
  have key : ∀ u : Nat, u ≤ 9223372036854775808 → Lib.nDigits u ≤ 19 := by
    intro u hu
    by_cases h : u = 0
    · subst h; rw [Lib.nDigits_small (by omega)]; omega
    · have h3 := (Lib.numDigits_eq u (by omega) (by omega))
      rcases Nat.lt_or_ge 19 (Lib.nDigits u) with h4 | h4
      · exfalso
        have h5 : ∀ k u, Lib.nDigits u = k + 1 → 1 ≤ k → 10 ^ k ≤ u := by
          intro k
          induction k with
          | zero => intro u _ h; omega
          | succ k ih =>
            intro u hu _
            by_cases h10 : u < 10
            · rw [Lib.nDigits_small h10] at hu; omega
            · rw [Lib.nDigits_big h10] at hu
              rcases Nat.eq_zero_or_pos k with rfl | hk
              · simp; omega
              · have := ih (u / 10) (by omega) hk
                rw [Nat.pow_succ]; omega
        have h6 := h5 (Lib.nDigits u - 1) u (by omega) (by omega)
        have h7 : 10 ^ 19 ≤ 10 ^ (Lib.nDigits u - 1) := Nat.pow_le_pow_right (by decide) (by omega)
        omega
      · exact h4
  unfold Lib.itoa
  split
  · rw [List.length_cons, Lib.decDigits_length]; have := key n.natAbs (by omega); omega
  · rw [Lib.decDigits_length]; have := key n.toNat (by omega); omega
theorem tzText_len (t : Tz) (h : t.k = 5 → -9223372036854775808 ≤ t.n ∧ t.n ≤ 9223372036854775807) : (tzText t).length ≤ t.s.length + 20 := by
  unfold tzText
  split
  · rename_i h5
    have := itoa_len t.n (h h5).1 (h h5).2
    omega
  · split
    · simp
    · omega
theorem str_inj' {a b : List UInt8} (h : (str a == str b) = true) : a = b := by
  have h' : ((str a).data == (str b).data) = true := h
  have := congrArg Array.toList (eq_of_beq h')
  exact this
theorem str_ne {a b : List UInt8} (h : a ≠ b) : (str a == str b) = false ∧ (str a != str b) = true ∧ ((str a).toList == (str b).toList) = false ∧ ((str a).toList != (str b).toList) = true := by
  have h1 : (str a == str b) = false := by
    cases hb : (str a == str b) with
    | false => rfl
    | true => exact absurd (str_inj' hb) h
  refine ⟨h1, ?_, ?_, ?_⟩
  · rw [bne, h1]; rfl
  · rw [str_list, str_list]; simpa using h
  · rw [str_list, str_list]; simpa using h
theorem str_eqs (a : List UInt8) : (str a == str a) = true ∧ (str a != str a) = false ∧ ((str a).toList == (str a).toList) = true ∧ ((str a).toList != (str a).toList) = false := by
  have h1 : (str a == str a) = true := by
    show ((str a).data == (str a).data) = true
    exact beq_self_eq_true _
  refine ⟨h1, ?_, by simp, by simp⟩
  rw [bne, h1]; rfl
set_option maxRecDepth 100000 in
set_option maxHeartbeats 4000000 in
theorem rtext_any (t : Tz) (w : World) (hl : t.s.length ≤ 16384) (hn : ∀ W, Below w.heap.size w W → Num W t) :
    Calls Tryd.prog 16 #[tzV t] w fun e w' => e = .returned (.tuple #[.string (if tzMay t = true then str (tzText t) else ⟨#[]⟩), .int .i64 (if tzMay t = true then 0 else 2)]) ∧ Below w.heap.size w w' := by
  have hn0 := hn w (Below.refl _ _)
  obtain ⟨mb, hmb⟩ : ∃ mb, mb = tzMay t := ⟨_, rfl⟩
  rw [← hmb]
  have hTl := tzText_len t (fun h => (hn0 h).2)
  have hti := text_iff (t := t) (by omega)
  rw [← hmb] at hti
  clear hmb
  have hRow : ∀ W, Calls Tryd.prog 11 #[.string (str (tzText t))] W fun e w' => ∃ (v : Value) (p er : Int), e = .returned (.tuple #[v, .int .i64 p, .int .i64 er]) ∧ (lexToks (tzText t) ≠ [] → er = 0) ∧ TRow w' W.heap.size v (lexToks (tzText t)) ∧ Below W.heap.size W w' := fun W => rlex_row W (tzText t) (by omega)
  have HE : Hid (∀ W x xs, lexToks (tzText t) = x :: xs → x.p = 0 → Calls Tryd.prog 36 #[.string (str (tzText t))] W fun e w' => e = .returned (.tuple #[.int .i64 ((rd (tzText t)).far : Int), .bool true]) ∧ Below W.heap.size W w') := fun W x xs h1 h2 => ends_zero (tzText t) (by omega) x xs h1 h2 W
  have hb0 : Below w.heap.size w (w.alloc (Tok t.k t.p t.n (str t.s))) := belA (Below.refl _ _)
  have hfmt : t.k = 5 → ∀ W, Below w.heap.size w W → Calls Tryd.prog 35 #[.int .i64 t.n, .int .i64 10] W fun e w' => e = .returned (.string (str (tzText t))) ∧ Below W.heap.size W w' := by
    intro h5 W hW
    obtain ⟨hT, h1, h2⟩ := hn W hW h5
    refine (Tryd.strconv_FormatInt_10 t.n h1 h2 _ hT).mono ?_
    rintro e w1 ⟨rfl, k, os, rfl⟩
    refine ⟨?_, Lib.below_grow _ _ (Nat.le_refl _) _ _⟩
    unfold tzText
    rw [if_pos h5]
    rfl
  have HF : Hid (t.k = 5 → ∀ W, Below w.heap.size w W → Calls Tryd.prog 35 #[.int .i64 t.n, .int .i64 10] W fun e w' => e = .returned (.string (str (tzText t))) ∧ Below W.heap.size W w') := hfmt
  have HR : Hid (∀ W, Calls Tryd.prog 11 #[.string (str (tzText t))] W fun e w' => ∃ (v : Value) (p er : Int), e = .returned (.tuple #[v, .int .i64 p, .int .i64 er]) ∧ (lexToks (tzText t) ≠ [] → er = 0) ∧ TRow w' W.heap.size v (lexToks (tzText t)) ∧ Below W.heap.size W w') := hRow
  have HI : Hid (mb = true ↔ (0 ≤ t.p ∧ ∃ x, lexToks (tzText t) = [x] ∧ Lk x t ∧ x.p = 0 ∧ (rd (tzText t)).far = (tzText t).length)) := hti
  have hT5 : t.k ≠ 5 → t.k ≠ 4 → tzText t = t.s := fun h5 h4 => by unfold tzText; rw [if_neg h5, if_neg h4]
  have hT4 : t.k = 4 → tzText t = 39 :: t.s := fun h4 => by unfold tzText; rw [if_neg (by omega), if_pos h4]
  have HT5 : Hid (t.k ≠ 5 → t.k ≠ 4 → tzText t = t.s) := hT5
  have HT4 : Hid (t.k = 4 → tzText t = 39 :: t.s) := hT4
  have hsT := str_size (tzText t)
  have HTL : Hid ((tzText t).length ≤ t.s.length + 20) := hTl
  clear hn hn0 hfmt hRow hti hT5 hT4 hTl
  have A1 := At.new w (Tok t.k t.p t.n (str t.s))
  obtain ⟨k, p, n, s⟩ := t
  generalize hT : tzText ⟨k, p, n, s⟩ = T at *
  dsimp only at *
  go_enter Tryd.func16, Tryd.ntmps16
  obtain ⟨x0, x1, x2, x3, xf⟩ := A1.tok
  go_upto_if 14 with fail
  go_cut [4] from 10 (fun v wx => v = .string (if k = 5 then str T else str s) ∧ Below (w.alloc (Tok k p n (str s))).heap.size (w.alloc (Tok k p n (str s))) wx)
  case first =>
    by_cases h5 : k = 5
    · subst h5
      go_wp2_with (go_at_call 35; refine (HF.out rfl _ hb0).mono ?_; rintro e w1 ⟨rfl, hb1⟩)
      go_meet
      exact ⟨by simp, hb1⟩
    · have hk : (k == 5) = false := by simpa using h5
      go_wp2
      go_meet
      exact ⟨by rw [if_neg h5], Below.refl _ _⟩
  case rest =>
  obtain ⟨rfl, hb1⟩ := hcut
  have A2 := A1.below hb1
  have B1 := below_aft hb0 hb1
  generalize wc = w1 at *
  clear x0 x1 x2 x3 xf A1 hb0 hb1 HF
  obtain ⟨x0, x1, x2, x3, xf⟩ := A2.tok
  go_upto_if 20 with fail
  go_cut [4] from 10 (fun v wx => v = .string (str T) ∧ wx = w1)
  case first =>
    by_cases h5 : k = 5
    · subst h5
      go_wp2
      go_meet
      exact ⟨by simp, rfl⟩
    · by_cases h4 : k = 4
      · subst h4
        have hs := str_cons 39 s
        have hsz := str_size s
        have hle : ¬ (9223372036854775807 < 1 + s.length) := by omega
        have HX : Hid (T = 39 :: s) := HT4.out rfl
        go_wp2
        go_meet
        exact ⟨by rw [HX.out], rfl⟩
      · have hk : (k == 4) = false := by simpa using h4
        go_wp2
        go_meet
        exact ⟨by rw [HT5.out h5 h4], rfl⟩
  case rest =>
  obtain ⟨rfl, hwc⟩ := hcut
  subst hwc
  go_upto_region 7 with (go_at_call 11; refine (HR.out _).mono ?_; rintro e w2 ⟨v, pp, er, rfl, her, hr, hb2⟩; obtain ⟨sa, sc, rfl, hta, _⟩ := trow_at hr)
  clear x0 x1 x2 x3 xf
  obtain ⟨x0, x1, x2, x3, xf⟩ := (A2.below hb2).tok
  have HM : Hid (mb = true ↔ (0 ≤ p ∧ ∃ x, lexToks T = [x] ∧ Lk x ⟨k, p, n, s⟩ ∧ x.p = 0 ∧ (rd T).far = T.length)) := HI.out
  obtain ⟨L, hL⟩ : ∃ L, L = lexToks T := ⟨_, rfl⟩
  rw [← hL] at hta her ⊢
  go_cut [75] from 30 (fun c wx => ∃ bad : Bool, c = .bool bad ∧ (bad = false → 0 ≤ p ∧ ∃ x, L = [x] ∧ Lk x ⟨k, p, n, s⟩ ∧ x.p = 0) ∧ (bad = true → mb = false) ∧ ∃ d : Nat, wx = w2.drewN d)
  case first =>
    have HL : Hid (L = lexToks T) := hL
    have hno : (¬ (0 ≤ p ∧ ∃ x, L = [x] ∧ Lk x ⟨k, p, n, s⟩ ∧ x.p = 0)) → mb = false := by
      intro h
      cases hm : mb with
      | false => rfl
      | true =>
        obtain ⟨h0, x, h1, h2, h3, _⟩ := HM.out.1 hm
        exact absurd ⟨h0, x, by rw [HL.out, h1], h2, h3⟩ h
    have HNO : Hid ((¬ (0 ≤ p ∧ ∃ x, L = [x] ∧ Lk x ⟨k, p, n, s⟩ ∧ x.p = 0)) → mb = false) := hno
    clear hno hr hL
    by_cases hp : p < 0
    · have hpd : decide (p < 0) = true := decide_eq_true hp
      go_big_quiet (fail)
      go_wp2
      go_meet
      exact ⟨true, rfl, (fun h => by cases h), fun _ => HNO.out (by rintro ⟨h, _⟩; omega), _, rfl⟩
    have hpd : decide (p < 0) = false := decide_eq_false hp
    by_cases he : er = 0
    case neg =>
      have hed : (er != 0) = true := by simpa using he
      go_big_quiet (fail)
      go_wp2
      go_meet
      exact ⟨true, rfl, (fun h => by cases h), fun _ => HNO.out (by rintro ⟨_, x, h, _⟩; exact he (her (by rw [h]; simp))), _, rfl⟩
    subst he
    clear her
    by_cases h1 : L.length = 1
    case neg =>
      have h1d : ((L.length : Int) != 1) = true := by simpa using (by omega : ¬ (L.length : Int) = 1)
      go_big_quiet (fail)
      go_wp2
      go_meet
      exact ⟨true, rfl, (fun h => by cases h), fun _ => HNO.out (by rintro ⟨_, x, h, _⟩; rw [h] at h1; exact h1 rfl), _, rfl⟩
    obtain ⟨x, rfl⟩ : ∃ x, L = [x] := List.length_eq_one_iff.1 h1
    clear h1
    obtain ⟨g, rfl, hz⟩ := hta (by simp)
    obtain ⟨_, c0, c1, c2, c3⟩ := hz 0 (tkZ x) rfl
    simp only [Nat.zero_add, Nat.zero_mul, tkZ] at c0 c1 c2 c3
    clear hz hta
    by_cases hk : (x.k : Int) = k
    case neg =>
      have hkd : ((x.k : Int) != k) = true := by simpa using hk
      go_big_quiet (fail)
      go_wp2
      go_meet
      exact ⟨true, rfl, (fun h => by cases h), fun _ => HNO.out (by rintro ⟨_, y, h, h2, _⟩; cases h; exact hk h2.1), _, rfl⟩
    subst hk
    have hkd : ((x.k : Int) != (x.k : Int)) = false := by simp
    by_cases hs : x.s = s
    case neg =>
      obtain ⟨q1, q2, q3, q4⟩ := str_ne hs
      go_big_quiet (fail)
      go_wp2
      go_meet
      exact ⟨true, rfl, (fun h => by cases h), fun _ => HNO.out (by rintro ⟨_, y, h, h2, _⟩; cases h; exact hs h2.2.2), _, rfl⟩
    subst hs
    obtain ⟨q1, q2, q3, q4⟩ := str_eqs x.s
    by_cases hnn : (x.n : Int) = n
    case neg =>
      have hnd : ((x.n : Int) != n) = true := by simpa using hnn
      go_big_quiet (fail)
      go_wp2
      go_meet
      exact ⟨true, rfl, (fun h => by cases h), fun _ => HNO.out (by rintro ⟨_, y, h, h2, _⟩; cases h; exact hnn h2.2.1), _, rfl⟩
    subst hnn
    have hnd : ((x.n : Int) != (x.n : Int)) = false := by simp
    by_cases hpp : x.p = 0
    case neg =>
      have hpp' : ((x.p : Int) != 0) = true := by simpa using hpp
      have hpn : (x.p != 0) = true := by simpa using hpp
      go_big_quiet (fail)
      go_wp2
      go_meet
      exact ⟨true, rfl, (fun h => by cases h), fun _ => HNO.out (by rintro ⟨_, y, h, h2, h3⟩; cases h; exact hpp h3), _, rfl⟩
    have HPP : Hid (x.p = 0) := hpp
    rw [hpp] at c1
    clear hpp
    go_big_quiet (fail)
    go_wp2
    go_meet
    exact ⟨false, rfl, (fun _ => ⟨by omega, x, rfl, ⟨rfl, rfl, rfl⟩, HPP.out⟩), (fun h => by cases h), _, rfl⟩
  case rest =>
  obtain ⟨bad, rfl, hgood, hbad, d, rfl⟩ := hcut
  have HL : Hid (L = lexToks T) := hL
  have BB : Below w.heap.size w (w2.drewN d) := below_drewN (below_aft B1 hb2) d
  cases bad with
  | true =>
    have hm := hbad rfl
    clear hbad hgood
    subst hm
    go_wp2
    go_ret2
    exact ⟨rfl, BB⟩
  | false =>
    obtain ⟨h0, x, rfl, hlk, hxp⟩ := hgood rfl
    have HX : Hid (∀ W, Calls Tryd.prog 36 #[.string (str T)] W fun e w' => e = .returned (.tuple #[.int .i64 ((rd T).far : Int), .bool true]) ∧ Below W.heap.size W w') := fun W => HE.out W x [] HL.out.symm hxp
    have hmay : mb = decide ((rd T).far = T.length) := by
      cases hm : mb with
      | true => exact (decide_eq_true (HM.out.1 hm).2.choose_spec.2.2.2).symm
      | false =>
        symm
        apply decide_eq_false
        intro hf
        have := HM.out.2 ⟨h0, x, HL.out.symm, hlk, hxp, hf⟩
        rw [hm] at this
        cases this
    clear hgood hbad hta hr hlk
    by_cases hf : (rd T).far = T.length
    · have hfb : (((rd T).far : Int) != (T.length : Int)) = false := by rw [hf]; simp
      rw [decide_eq_true hf] at hmay
      clear hf
      subst hmay
      go_wp2_with (go_at_call 36; refine (HX.out _).mono ?_; rintro e w4 ⟨rfl, hb4⟩)
      go_ret2
      exact ⟨rfl, below_aft BB hb4⟩
    · have hfb : (((rd T).far : Int) != (T.length : Int)) = true := by simpa using (by omega : ¬ ((rd T).far : Int) = (T.length : Int))
      rw [decide_eq_false hf] at hmay
      clear hf
      subst hmay
      go_wp2_with (go_at_call 36; refine (HX.out _).mono ?_; rintro e w4 ⟨rfl, hb4⟩)
      go_ret2
      exact ⟨rfl, below_aft BB hb4⟩
end Go.Proofs.YtpnamkpoapcgeaaDoor
