import Derived.Test.YtnohcppipkpgmaaDoorRd
import Derived.Scope
namespace Go.Proofs.YtnohcppipkpgmaaDoor
open Go.RowKit Go.Shelf
set_option linter.unusedVariables false
set_option linter.unusedSimpArgs false

theorem str_ext (l : List UInt8) (a b : Nat) : (str l).extract a b = str ((l.take b).drop a) := by
  apply ByteArray.ext
  rw [ByteArray.data_extract]
  show l.toArray.extract a b = ((l.take b).drop a).toArray
  simp [List.drop_take]
theorem str_nil : str [] = (⟨#[]⟩ : ByteArray) := rfl
/-- A text's first sign cut off, if it is this one. -/
def cutH (c : UInt8) (S : List UInt8) : List UInt8 := if S.head? = some c then S.tail else S
theorem cut_any (c : UInt8) (S : List UInt8) (w : World) : Calls Tryd.prog 66 #[.string (str S), .string ⟨#[c]⟩] w fun e w' => e = .returned (.tuple #[.string (str (cutH c S)), .bool (decide (S.head? = some c))]) ∧ w' = w := by
  refine (Tryd.strings_CutPrefix (str S) ⟨#[c]⟩ w).mono ?_
  rintro e w' ⟨rfl, rfl⟩
  refine ⟨?_, rfl⟩
  have e1 : (str S).data.toList = S := rfl
  have e2 : (⟨#[c]⟩ : ByteArray).data.toList = [c] := rfl
  have e3 : Lib.hasPrefix S [c] = decide (S.head? = some c) := by
    unfold Lib.hasPrefix
    cases S with
    | nil => rfl
    | cons d S =>
      simp [List.isPrefixOf]
      by_cases h : c = d
      · subst h; simp
      · simp [h, Ne.symm h]
  have e4 : Lib.trimPrefix S [c] = cutH c S := by
    unfold Lib.trimPrefix cutH
    rw [e3]
    by_cases h : S.head? = some c
    · rw [if_pos (decide_eq_true h), if_pos h]
      cases S <;> rfl
    · rw [if_neg (by simpa using h), if_neg h]
  rw [e1, e2, e3, e4]
  rfl
/-- What is told of the digits ahead. -/
def NumPost (R : Option (Int × List UInt8)) (e : Ending) : Prop := match R with
  | some x => e = .returned (.tuple #[.int .i64 x.1, .string (str x.2), .bool true])
  | none => ∃ (n : Int) (r : ByteArray), e = .returned (.tuple #[.int .i64 n, .string r, .bool false])
set_option maxRecDepth 100000 in
set_option maxHeartbeats 4000000 in
/-- numberAhead. -/
theorem num_any (S : List UInt8) (hS : S.length ≤ 100000) (w : World) (R : Option (Int × List UInt8)) (hR : R = dgs 0 0 S) :
    Calls Tryd.prog 67 #[.string (str S)] w fun e w' => NumPost R e ∧ ∃ d, w' = w.drewN d := by
  have hsz : (str S).size = S.length := str_size S
  have HR := hidD hR
  clear hR
  go_enter Tryd.func67, Tryd.ntmps67
  go_wp2_with fail
  refine wp_scope_straight ?_
  go_wp2_with fail
  refine wp_label ?_
  go_wp2_with fail
  go_loopw [2, 5] (fun x y V => ∃ (n : Int) (k : Nat), x = .int .i64 n ∧ y = .int .i64 k ∧ k ≤ S.length ∧ 0 ≤ n ∧ n ≤ 9223372036854775807 ∧ R = dgs n k (S.drop k) ∧ V = w) (fun _ y _ => S.length - (intOf y).toNat)
  case atStart => exact ⟨0, 0, rfl, rfl, Nat.zero_le _, by omega, by omega, HR.out, rfl⟩
  case round =>
    obtain ⟨n, k, rfl, rfl, hk, hn0, hn1, hE, rfl⟩ := hrel
    have HE := hidD hE
    clear hE HR
    have END : Hid (dgs n k (S.drop k) = (if 0 < k then some (n, S.drop k) else none) → NumPost R (.returned (.tuple #[.int .i64 n, .string (str (S.drop k)),   .bool (decide (0 < k))]))) := fun he => by
      have e := HE.out
      rw [he] at e
      by_cases h0 : 0 < k
      · rw [if_pos h0] at e
        rw [e]
        show Ending.returned _ = Ending.returned _
        rw [decide_eq_true h0]
      · rw [if_neg h0] at e
        rw [e]
        exact ⟨n, str (S.drop k), by rw [decide_eq_false h0]⟩
    have g0 : (0 : Int) ≤ (k : Int) := by omega
    have HX : Hid ((str S).extract k S.length = str (S.drop k)) := by
      show (str S).extract k S.length = str (S.drop k)
      rw [str_ext, List.take_of_length_le (Nat.le_refl _)]
    have HK := hidD hk
    have HN0 := hidD hn0
    have HN1 := hidD hn1
    clear hk hn0 hn1
    by_cases hlt : k < S.length
    · obtain ⟨c, hcl⟩ : ∃ c, c = S[k] := ⟨_, rfl⟩
      have hc : (str S)[k]'(by rw [hsz]; exact hlt) = c := by rw [hcl]; rfl
      have hdr : S.drop k = c :: S.drop (k + 1) := by rw [hcl]; exact List.drop_eq_getElem_cons hlt
      have HDR := hidD hdr
      have g1 : (k : Int) < (S.length : Int) := by omega
      have c255 : c.toNat < 256 := c.toNat_lt
      obtain ⟨v, hv⟩ : ∃ v, v = c.toNat := ⟨_, rfl⟩
      have HV := hidD hv
      have st : dgs n k (S.drop k) = if 48 ≤ v ∧ v ≤ 57 then (if (0 < k ∧ n = 0) ∨ (9223372036854775807 - ((v : Int) - 48)).tdiv 10 < n then none else dgs (n * 10 + ((v : Int) - 48)) (k + 1) (S.drop (k + 1))) else if 0 < k then some (n, S.drop k) else none := by
        rw [hdr, dgs, ← hv]
      have ST := hidD st
      clear hcl hdr st
      subst hv
      by_cases hd : 48 ≤ c.toNat ∧ c.toNat ≤ 57
      · have e1 := ST.out
        rw [if_pos hd] at e1
        obtain ⟨D, hD⟩ : ∃ D : Int, (c.toNat : Int) - 48 = D := ⟨_, rfl⟩
        obtain ⟨Q, hQ⟩ : ∃ Q : Int, (9223372036854775807 - D).tdiv 10 = Q := ⟨_, rfl⟩
        have D0 : 0 ≤ D := by omega
        have D9 : D ≤ 9 := by omega
        have d1 : ¬ D < 0 := by omega
        have d2 : ¬ 9 < D := by omega
        have q0 : (9223372036854775807 - D) / 10 = Q := by rw [← hQ, Int.tdiv_eq_ediv_of_nonneg (by omega)]
        have q1 : 0 ≤ Q := by omega
        have q2 : Q ≤ 922337203685477580 := by omega
        rw [hD, hQ] at e1
        by_cases hb : (0 < k ∧ n = 0) ∨ Q < n
        · rw [if_pos hb] at e1
          have hRn : R = none := HE.out.trans e1
          subst hRn
          have PN : Hid (∀ (n : Int) (r : ByteArray), NumPost none (.returned (.tuple #[.int .i64 n, .string r, .bool false]))) := fun n r => ⟨n, r, rfl⟩
          clear e1 ST HE END q0 hd
          by_cases hk0 : 0 < k
          · have k0 : (0 : Int) < (k : Int) := by omega
            by_cases hn0 : n = 0
            · subst hn0
              clear hb
              go_wp2_with fail
              try simp only [Exit.noGoto]
              go_ret3
              exact ⟨PN.out _ _, 0, rfl⟩
            · have hq : Q < n := by omega
              clear hb
              go_wp2_with fail
              try simp only [Exit.noGoto]
              go_ret3
              exact ⟨PN.out _ _, 0, rfl⟩
          · have hq : Q < n := by omega
            obtain rfl : k = 0 := by omega
            clear hb
            go_wp2_with fail
            try simp only [Exit.noGoto]
            go_ret3
            exact ⟨PN.out _ _, 0, rfl⟩
        · rw [if_neg hb] at e1
          have HG := hidD (HE.out.trans e1)
          have fit : n * 10 + D ≤ 9223372036854775807 := quo_fits HN0.out D0 (by omega) (by rw [hQ]; exact fun h => hb (.inr h))
          obtain ⟨M, hM⟩ : ∃ M : Int, n * 10 = M := ⟨_, rfl⟩
          obtain ⟨E, hE⟩ : ∃ E : Int, M + D = E := ⟨_, rfl⟩
          have f1 : M ≤ 9223372036854775807 := by omega
          have f2 : 0 ≤ M := by have := HN0.out; omega
          have f3 : 0 ≤ E := by omega
          have f4 : E ≤ 9223372036854775807 := by omega
          rw [hM, hE] at HG
          have HF3 := hidD f3
          have HF4 := hidD f4
          have hq : ¬ Q < n := fun h => hb (.inr h)
          have k1 : (k : Int) ≤ 100000 := by omega
          have HLT := hidD hlt
          clear e1 ST HE END q0 hd fit
          by_cases hk0 : 0 < k
          · have k0 : (0 : Int) < (k : Int) := by omega
            have hn0 : ¬ n = 0 := fun h => hb (.inl ⟨hk0, h⟩)
            clear hb
            go_wp2_with fail
            refine ⟨⟨E, k + 1, rfl, rfl, HLT.out, HF3.out, HF4.out, HG.out, trivial⟩, ?_⟩
            show S.length - ((k : Int) + 1).toNat < S.length - (k : Int).toNat
            have := HLT.out
            omega
          · obtain rfl : k = 0 := by omega
            clear hb
            go_wp2_with fail
            refine ⟨⟨E, 1, rfl, rfl, HLT.out, HF3.out, HF4.out, HG.out, trivial⟩, ?_⟩
            show S.length - ((0 : Int) + 1).toNat < S.length - (0 : Int).toNat
            have := HLT.out
            omega
      · have e1 := ST.out
        rw [if_neg hd] at e1
        have hend := END.out e1
        have HEND := hidD hend
        clear END hend e1 ST HE
        by_cases hd0 : c.toNat < 48
        · have d1 : (c.toNat : Int) - 48 < 0 := by omega
          clear hd hd0
          go_wp2_with fail
          have hx := HX.out
          have g4 : (k : Int) ≤ (S.length : Int) := by have := HK.out; omega
          go_quiet (fail)
          go_wp2_with fail
          try simp only [Exit.noGoto]
          go_ret3
          exact ⟨HEND.out, _, rfl⟩
        · have d1 : ¬ (c.toNat : Int) - 48 < 0 := by omega
          have d2 : 9 < (c.toNat : Int) - 48 := by omega
          clear hd hd0
          go_wp2_with fail
          have hx := HX.out
          have g4 : (k : Int) ≤ (S.length : Int) := by have := HK.out; omega
          go_quiet (fail)
          go_wp2_with fail
          try simp only [Exit.noGoto]
          go_ret3
          exact ⟨HEND.out, _, rfl⟩
    · obtain rfl : k = S.length := by have := HK.out; omega
      have g1 : ¬ (S.length : Int) < (S.length : Int) := by omega
      have hend := END.out (by rw [List.drop_length]; rfl)
      have HEND := hidD hend
      clear END hend
      go_wp2_with fail
      go_quiet (fail)
      go_wp2_with fail
      try simp only [Exit.noGoto]
      go_ret3
      refine ⟨?_, _, rfl⟩
      have e := HEND.out
      rw [List.drop_length] at e
      exact e
/-- What is told of the step ahead. -/
def StPost (R : Option (Int × List UInt8)) (e : Ending) : Prop := NumPost R e
set_option maxRecDepth 100000 in
set_option maxHeartbeats 4000000 in
/-- stepAhead. -/
theorem step_any (S : List UInt8) (hS : S.length ≤ 100000) (w : World) (R : Option (Int × List UInt8)) (hR : R = stR S) :
    Calls Tryd.prog 54 #[.string (str S)] w fun e w' => NumPost R e ∧ ∃ d, w' = w.drewN d := by
  have C1 := hidD (fun W => cut_any 46 S W)
  unfold stR at hR
  by_cases h1 : S.head? = some 46
  · rw [if_pos h1] at hR
    have e1 : cutH 46 S = S.tail := if_pos h1
    rw [e1, decide_eq_true h1] at C1
    have C2 := hidD (fun W => cut_any 42 S.tail W)
    have hT : S.tail.length ≤ 100000 := by rw [List.length_tail]; omega
    generalize S.tail = T at *
    by_cases h2 : T.head? = some 42
    · rw [if_pos h2] at hR
      have e2 : cutH 42 T = T.tail := if_pos h2
      rw [e2, decide_eq_true h2] at C2
      have PY : Hid (NumPost R (.returned (.tuple #[.int .i64 (-1), .string (str T.tail), .bool true]))) := by rw [hR]; rfl
      clear hR h1 h2 e1 e2
      go_enter Tryd.func54, Tryd.ntmps54
      have st1 : Stg 1 := .mk 1
      go_wp2_with (first
        | (have _s := st1; clear st1 _s; go_at_call 66; refine (C1.out _).mono ?_; rintro e w' ⟨rfl, hw⟩; subst hw)
        | (go_at_call 66; refine (C2.out _).mono ?_; rintro e w' ⟨rfl, hw⟩; subst hw))
      go_ret3
      exact ⟨PY.out, 0, rfl⟩
    · rw [if_neg h2] at hR
      have e2 : cutH 42 T = T := if_neg h2
      rw [e2, decide_eq_false h2] at C2
      have C3 := hidD (fun W => num_any T hT W R hR)
      clear h1 h2 e1 e2
      have HR := hidD hR
      clear hR
      go_enter Tryd.func54, Tryd.ntmps54
      have st1 : Stg 1 := .mk 1
      cases R with
      | some x =>
        obtain ⟨v, r⟩ := x
        have C4 : Hid (∀ W, Calls Tryd.prog 67 #[.string (str T)] W fun e w' => e = .returned (.tuple #[.int .i64 v, .string (str r), .bool true]) ∧ ∃ d, w' = W.drewN d) := C3.out
        clear C3
        go_wp2_with (first
          | (have _s := st1; clear st1 _s; go_at_call 66; refine (C1.out _).mono ?_; rintro e w' ⟨rfl, hw⟩; subst hw)
          | (go_at_call 66; refine (C2.out _).mono ?_; rintro e w' ⟨rfl, hw⟩; subst hw)
          | (go_at_call 67; refine (C4.out _).mono ?_; rintro e w' ⟨rfl, d, hw⟩; subst hw))
        go_ret3
        exact ⟨rfl, d, rfl⟩
      | none =>
        have C4 : Hid (∀ W, Calls Tryd.prog 67 #[.string (str T)] W fun e w' => (∃ (n : Int) (r : ByteArray), e = .returned (.tuple #[.int .i64 n, .string r, .bool false])) ∧ ∃ d, w' = W.drewN d) := C3.out
        clear C3
        go_wp2_with (first
          | (have _s := st1; clear st1 _s; go_at_call 66; refine (C1.out _).mono ?_; rintro e w' ⟨rfl, hw⟩; subst hw)
          | (go_at_call 66; refine (C2.out _).mono ?_; rintro e w' ⟨rfl, hw⟩; subst hw)
          | (go_at_call 67; refine (C4.out _).mono ?_; rintro e w' ⟨⟨v, r, rfl⟩, d, hw⟩; subst hw))
        go_ret3
        exact ⟨⟨v, r, rfl⟩, d, rfl⟩
  · rw [if_neg h1] at hR
    have e1 : cutH 46 S = S := if_neg h1
    rw [e1, decide_eq_false h1] at C1
    subst hR
    clear h1 e1
    go_enter Tryd.func54, Tryd.ntmps54
    go_wp2_with (go_at_call 66; refine (C1.out _).mono ?_; rintro e w' ⟨rfl, hw⟩; subst hw)
    go_ret3
    exact ⟨⟨0, _, rfl⟩, 0, rfl⟩
end Go.Proofs.YtnohcppipkpgmaaDoor
