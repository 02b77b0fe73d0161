import Derived.Test.YtpnamkpoapcgeaaDoorTg
import Derived.Test.YtpnamkpoapcgeaaDoorTi
namespace Go.Proofs.YtpnamkpoapcgeaaDoor
open Go.RowKit Go.Shelf
attribute [local go_sem] Oper.semAt_some
set_option linter.unusedVariables false
set_option linter.unusedSimpArgs false

set_option maxRecDepth 100000 in
set_option maxHeartbeats 4000000 in
theorem fits_any (ts : List Tz) (a0 : Option Addr) (cap : Nat) (w : World) (hat : TzA w a0 ts) (hn : ts.length ≤ maxLen) (hsl : ∀ t ∈ ts, t.s.length ≤ maxLen) :
    Calls Tryd.prog 14 #[.slice a0 ts.length cap] w fun e w' => ∃ b : Bool, e = .returned (.bool b) ∧ (b = true → ts.length ≤ 16384 ∧ ∀ t ∈ ts, t.s.length ≤ 16384) ∧ w' = w := by
  by_cases hbig : 16384 < ts.length
  · have hb1 : ¬ (ts.length : Int) ≤ 16384 := by omega
    have hb2 : decide ((ts.length : Int) ≤ 16384) = false := decide_eq_false hb1
    have hb3 : (0 : Int) < (ts.length : Int) := by omega
    have hb4 : decide ((0 : Int) < (ts.length : Int)) = true := decide_eq_true hb3
    go_enter Tryd.func14, Tryd.ntmps14
    go_wp2
    go_loopw [3, 4] (fun n i W => n = .int .i64 0 ∧ i = .int .i64 0 ∧ W = w) (fun _ _ _ => 0)
    case atStart => exact ⟨rfl, rfl, rfl⟩
    case round =>
      obtain ⟨rfl, rfl, rfl⟩ := hrel
      go_wp2
      go_ret
      exact ⟨false, rfl, (fun h => by cases h), rfl⟩
  · have hb1 : (ts.length : Int) ≤ 16384 := by omega
    have hb2 : decide ((ts.length : Int) ≤ 16384) = true := decide_eq_true hb1
    have HAT : Hid (TzA w a0 ts) := hat
    have HSL : Hid (∀ t ∈ ts, t.s.length ≤ maxLen) := hsl
    clear hat hsl
    go_enter Tryd.func14, Tryd.ntmps14
    go_wp2
    go_loopw [3, 4] (fun n i W => ∃ k m : Nat, k ≤ ts.length ∧ i = .int .i64 k ∧ n = .int .i64 m ∧ m ≤ 16384 ∧ (∀ j, j < k → (ts.getD j ⟨0, 0, 0, []⟩).s.length ≤ 16384) ∧ W = w) (fun _ i _ => ts.length - (intOf i).toNat)
    case atStart => exact ⟨0, 0, Nat.zero_le _, rfl, rfl, Nat.zero_le _, fun j h => absurd h (Nat.not_lt_zero j), rfl⟩
    case round =>
      obtain ⟨k, m, hk, rfl, rfl, hm, hall, rfl⟩ := hrel
      have HALL : Hid (∀ j, j < k → (ts.getD j ⟨0, 0, 0, []⟩).s.length ≤ 16384) := hall
      clear hall
      by_cases hlt : k < ts.length
      · obtain ⟨t, ht, htd⟩ : ∃ t, ts[k]? = some t ∧ ts.getD k ⟨0, 0, 0, []⟩ = t := ⟨_, getD_at hlt, rfl⟩
        have HTD : Hid (ts.getD k ⟨0, 0, 0, []⟩ = t) := htd
        have hmem : t ∈ ts := List.mem_of_getElem? ht
        have hsl := HSL.out t hmem
        unfold maxLen at hsl
        obtain ⟨g, off, rfl, hrow⟩ := HAT.out (by rintro rfl; simp at hlt)
        obtain ⟨hgl, c0, c1, c2, c3⟩ := hrow k t ht
        have h1 : (0 : Int) ≤ (k : Int) := by omega
        have h2 : (k : Int) < (ts.length : Int) := by omega
        have h2d : decide ((k : Int) < (ts.length : Int)) = true := decide_eq_true h2
        have w3 : IntKind.i64.wrap ((k : Int) + 1) = (k : Int) + 1 := by rw [IntKind.wrap_i64]; omega
        have w4 : IntKind.i64.wrap (16384 - (m : Int)) = 16384 - (m : Int) := by rw [IntKind.wrap_i64]; omega
        have hss := str_size t.s
        clear htd ht hrow
        by_cases hgt : (16384 - (m : Int)) < (t.s.length : Int)
        · go_wp2
          go_ret
          exact ⟨false, rfl, (fun h => by cases h), rfl⟩
        · have w5 : IntKind.i64.wrap ((m : Int) + (t.s.length : Int)) = (m : Int) + (t.s.length : Int) := by rw [IntKind.wrap_i64]; omega
          go_wp2
          refine ⟨⟨k + 1, m + t.s.length, by omega, by go_num, by go_num, by omega, fun j hj => ?_, by first | rfl | trivial⟩, by simp [intOf]; omega⟩
          rcases Nat.lt_or_ge j k with h | h
          · exact HALL.out j h
          · obtain rfl : j = k := by omega
            rw [HTD.out]; omega
      · obtain rfl : k = ts.length := by omega
        go_wp2
        go_ret
        refine ⟨true, rfl, fun _ => ⟨by omega, fun t ht => ?_⟩, rfl⟩
        obtain ⟨j, hj, rfl⟩ := List.getElem_of_mem ht
        have := HALL.out j hj
        rwa [List.getD_eq_getElem?_getD, List.getElem?_eq_getElem hj, Option.getD_some] at this
set_option maxRecDepth 100000 in
set_option maxHeartbeats 2000000 in
theorem sameTz_ok (ts : List Tz) (a b : Option Addr) (ca cb : Nat) (w : World) (ha : TzA w a ts) (hb : TzA w b ts) (hn : ts.length ≤ 65536) :
    Calls Tryd.prog 12 #[.slice a ts.length ca, .slice b ts.length cb, .bool true] w fun e w' => e = .returned (.bool true) ∧ Below w.heap.size w w' := by
  go_enter Tryd.func12, Tryd.ntmps12
  go_wp2
  go_loopw [7] (fun i W => ∃ k : Nat, k ≤ ts.length ∧ i = .int .i64 k ∧ Below w.heap.size w W) (fun i _ => ts.length - (intOf i).toNat)
  case atStart => exact ⟨0, Nat.zero_le _, rfl, Below.refl _ _⟩
  case round =>
    obtain ⟨k, hk, rfl, hB⟩ := hrel
    by_cases hlt : k < ts.length
    · have hne : ts ≠ [] := by rintro rfl; simp at hlt
      obtain ⟨g1, o1, rfl, hr1⟩ := (ha.below hB) hne
      obtain ⟨g2, o2, rfl, hr2⟩ := (hb.below hB) hne
      obtain ⟨t, hz⟩ : ∃ t, ts[k]? = some t := ⟨_, List.getElem?_eq_getElem hlt⟩
      have D2 := hr2.below (belA (Below.refl _ wr) (o := Tok t.k t.p t.n (str t.s)))
      obtain ⟨_, c0, c1, c2, c3⟩ := hr1 k _ hz
      obtain ⟨_, d0, d1, d2, d3⟩ := D2 k _ hz
      have X0 := At.new wr (Tok t.k t.p t.n (str t.s))
      obtain ⟨x0, x1, x2, x3, xf⟩ := X0.tok
      have g1' : (0 : Int) ≤ (k : Int) := by omega
      have g2' : (k : Int) < (ts.length : Int) := by omega
      have w3 : IntKind.i64.wrap ((k : Int) + 1) = (k : Int) + 1 := by rw [IntKind.wrap_i64]; omega
      have hB2 := belA hB (o := Tok t.k t.p t.n (str t.s))
      clear hr1 hr2 D2 hz ha hb
      go_wp2
      go_quiet (fail)
      go_wp2
      exact ⟨⟨k + 1, by omega, by go_num, below_drewN hB2 _⟩, by simp [intOf]; omega⟩
    · obtain rfl : k = ts.length := by omega
      go_wp2
      go_ret
      exact ⟨rfl, hB⟩
/-- lex.Join and lex.Tight, the reference's Join and Tight: what they answer. -/
theorem join_any (ts : List Tz) (a0 : Option Addr) (cap : Nat) (w : World) (hat : TzA w a0 ts) (hlen : ts.length ≤ 16384) (hs : ∀ t ∈ ts, t.s.length ≤ 16384) (hnum : ∀ W, Below w.heap.size w W → ∀ t ∈ ts, Num W t) :
    Calls Tryd.prog 19 #[.slice a0 ts.length cap] w fun e w' => e = .returned (.tuple #[.string (str (jres (fun _ _ => true) ts).1), .int .i64 (jres (fun _ _ => true) ts).2]) ∧ Below w.heap.size w w' := by
  have hT : ∀ t ∈ ts, (tzText t).length ≤ 20000 := fun t ht => by
    have := tzText_len t (fun h => (hnum w (Below.refl _ _) t ht h).2)
    have := hs t ht
    omega
  exact join_of _ _ _ w (together_any_39 (fun _ _ => true) ts a0 cap w hat (by omega) (fun t ht => by have := hs t ht; omega) hT hnum (fun W _ k _ => joinFn_any _ _ W))
theorem tight_any (ts : List Tz) (a0 : Option Addr) (cap : Nat) (w : World) (hat : TzA w a0 ts) (hlen : ts.length ≤ 16384) (hs : ∀ t ∈ ts, t.s.length ≤ 16384) (hnum : ∀ W, Below w.heap.size w W → ∀ t ∈ ts, Num W t) :
    Calls Tryd.prog 21 #[.slice a0 ts.length cap] w fun e w' => e = .returned (.tuple #[.string (str (jres cl ts).1), .int .i64 (jres cl ts).2]) ∧ Below w.heap.size w w' := by
  have hT : ∀ t ∈ ts, (tzText t).length ≤ 20000 := fun t ht => by
    have := tzText_len t (fun h => (hnum w (Below.refl _ _) t ht h).2)
    have := hs t ht
    omega
  refine tight_of _ _ _ w (together_any_41 cl ts a0 cap w hat (by omega) (fun t ht => by have := hs t ht; omega) hT hnum (fun W hW k hk => ?_))
  have m1 : ts.getD k ⟨0, 0, 0, []⟩ ∈ ts := List.mem_of_getElem? (getD_at (by omega))
  have m2 : ts.getD (k + 1) ⟨0, 0, 0, []⟩ ∈ ts := List.mem_of_getElem? (getD_at hk)
  exact clash_any _ _ W (by have := hs _ m1; omega) (by have := hs _ m2; omega) (by have := hT _ m1; omega) (by have := hT _ m2; omega) (fun W' hW' => hnum W' (below_aft hW hW') _ m1) (fun W' hW' => hnum W' (below_aft hW hW') _ m2)
set_option maxRecDepth 100000 in
theorem rJoin_any (ts : List Tz) (a0 : Option Addr) (cap : Nat) (w : World) (hat : TzA w a0 ts) (hlen : ts.length ≤ 16384) (hs : ∀ t ∈ ts, t.s.length ≤ 16384) (hnum : ∀ W, Below w.heap.size w W → ∀ t ∈ ts, Num W t) :
    Calls Tryd.prog 20 #[.slice a0 ts.length cap] w fun e w' => e = .returned (.tuple #[.string (str (jres (fun _ _ => true) ts).1), .int .i64 (jres (fun _ _ => true) ts).2]) ∧ Below w.heap.size w w' := by
  have H : Hid (Calls Tryd.prog 40 #[.slice a0 ts.length cap, .bool false] w fun e w' => e = .returned (.tuple #[.string (str (jres (fun _ _ => true) ts).1), .int .i64 (jres (fun _ _ => true) ts).2]) ∧ Below w.heap.size w w') := rjoin_any false (fun _ _ => true) (fun _ _ => rfl) ts a0 cap w hat hlen hs hnum
  generalize jres (fun _ _ => true) ts = R at *
  go_enter Tryd.func20, Tryd.ntmps20
  go_wp2_with (go_at_call 40; refine H.out.mono ?_; rintro e w1 ⟨rfl, hb1⟩)
  go_ret2
  exact ⟨rfl, hb1⟩
set_option maxRecDepth 100000 in
theorem rTight_any (ts : List Tz) (a0 : Option Addr) (cap : Nat) (w : World) (hat : TzA w a0 ts) (hlen : ts.length ≤ 16384) (hs : ∀ t ∈ ts, t.s.length ≤ 16384) (hnum : ∀ W, Below w.heap.size w W → ∀ t ∈ ts, Num W t) :
    Calls Tryd.prog 22 #[.slice a0 ts.length cap] w fun e w' => e = .returned (.tuple #[.string (str (jres cl ts).1), .int .i64 (jres cl ts).2]) ∧ Below w.heap.size w w' := by
  have H : Hid (Calls Tryd.prog 40 #[.slice a0 ts.length cap, .bool true] w fun e w' => e = .returned (.tuple #[.string (str (jres cl ts).1), .int .i64 (jres cl ts).2]) ∧ Below w.heap.size w w') := rjoin_any true cl (fun a b => by simp) ts a0 cap w hat hlen hs hnum
  generalize jres cl ts = R at *
  go_enter Tryd.func22, Tryd.ntmps22
  go_wp2_with (go_at_call 40; refine H.out.mono ?_; rintro e w1 ⟨rfl, hb1⟩)
  go_ret2
  exact ⟨rfl, hb1⟩
end Go.Proofs.YtpnamkpoapcgeaaDoor
