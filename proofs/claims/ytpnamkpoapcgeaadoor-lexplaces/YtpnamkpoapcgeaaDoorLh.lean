import Derived.Test.YtpnamkpoapcgeaaDoorLg
import Derived.Shelf.Strings.SplitShaped
namespace Go.Proofs.YtpnamkpoapcgeaaDoor
open Go.RowKit Go.Shelf
set_option linter.unusedVariables false
set_option linter.unusedSimpArgs false

/-- The place of the last byte 10 ahead of a place; -1 where there is none. -/
def la (S : List UInt8) : Nat → Int
  | 0 => -1
  | k + 1 => if S[k]? = some 10 then (k : Int) else la S k
theorem la_ge (S : List UInt8) : ∀ k, -1 ≤ la S k ∧ la S k ≤ (k : Int) - 1
  | 0 => by simp [la]
  | k + 1 => by have := la_ge S k; unfold la; split <;> omega
theorem la_last (S : List UInt8) (p : Nat) (hp : p ≤ S.length) : ∀ k, k ≤ p → Lib.lastIdx (str (S.take p)) 10 k = la S k
  | 0, _ => rfl
  | k + 1, h => by
    have ih := la_last S p hp k (by omega)
    unfold Lib.lastIdx la
    have hk : (str (S.take p)).data[k]! = S[k] := by
      unfold str
      rw [getElem!_pos _ _ (by simp; omega)]
      simp
    rw [hk, ih, List.getElem?_eq_getElem (show k < S.length by omega)]
    by_cases hc : S[k] = 10
    · rw [hc]; simp
    · have h1 : ¬ (S[k].toNat = 10) := fun e => hc (UInt8.toNat_inj.1 e)
      rw [if_neg (by omega), if_neg (by simpa using hc)]
theorem la_str (S : List UInt8) (p : Nat) (hp : p ≤ S.length) : Lib.lastIndexByte (str (S.take p)) 10 = la S p := by
  unfold Lib.lastIndexByte
  rw [str_size, List.length_take, Nat.min_eq_left hp]
  exact la_last S p hp p (Nat.le_refl _)
theorem count_step (S : List UInt8) (k : Nat) (hk : k < S.length) : Lib.countByte (S.take (k + 1)) 10 = Lib.countByte (S.take k) 10 + (if S[k] = 10 then 1 else 0) := by
  unfold Lib.countByte
  rw [List.take_succ_eq_append_getElem hk, List.count_append]
  by_cases hc : S[k] = 10
  · rw [if_pos hc, hc]; rfl
  · rw [if_neg hc, List.count_singleton]
    simp [hc]
theorem byte_ten {c : UInt8} : ((c.toNat : Int) == 10) = decide (c = 10) := by
  by_cases h : c = 10
  · subst h; rfl
  · have h1 : ¬ (c.toNat = 10) := fun e => h (UInt8.toNat_inj.1 e)
    rw [decide_eq_false h]
    simp only [beq_eq_false_iff_ne, ne_eq]
    omega
/-- What Line tells of a place in a text: its line and its column. -/
theorem line_la (S : List UInt8) (p : Nat) (w : World) (hS : S.length ≤ 65536) (hp : p ≤ S.length) :
    Calls Tryd.prog 23 #[.string (str S), .int .i64 p] w fun e w' => e = .returned (.tuple #[.int .i64 (1 + Lib.countByte (S.take p) 10), .int .i64 ((p : Int) - la S p), .int .i64 0]) ∧ w' = w := by
  rw [← la_str S p hp]; exact line_ok S p w hS hp
set_option maxRecDepth 100000 in
theorem rline_long (S : List UInt8) (p : Int) (w : World) (hS : 65536 < S.length) (hm : S.length ≤ maxLen) :
    Calls Tryd.prog 24 #[.string (str S), .int .i64 p] w fun e w' => e = .returned (.tuple #[.int .i64 0, .int .i64 0, .int .i64 3]) ∧ w' = w := by
  have hsz := str_size S
  have hgt : (65536 : Int) < (S.length : Int) := by omega
  go_enter Tryd.func24, Tryd.ntmps24
  go_wp2
  exact bodyPost_ret (v := .tuple #[.int .i64 0, .int .i64 0, .int .i64 3]) (by simp [results, Tryd.results24, go_sem]) rfl ⟨rfl, rfl⟩
set_option maxRecDepth 100000 in
theorem rline_arg (S : List UInt8) (p : Int) (w : World) (hS : S.length ≤ 65536) (hp : p < 0 ∨ (S.length : Int) < p) :
    Calls Tryd.prog 24 #[.string (str S), .int .i64 p] w fun e w' => e = .returned (.tuple #[.int .i64 0, .int .i64 0, .int .i64 2]) ∧ w' = w := by
  have hsz := str_size S
  have hgt : ¬ (65536 : Int) < (S.length : Int) := by omega
  by_cases h0 : p < 0
  · go_enter Tryd.func24, Tryd.ntmps24
    go_wp2
    exact bodyPost_ret (v := .tuple #[.int .i64 0, .int .i64 0, .int .i64 2]) (by simp [results, Tryd.results24, go_sem]) rfl ⟨rfl, rfl⟩
  · have h1 : (S.length : Int) < p := by omega
    go_enter Tryd.func24, Tryd.ntmps24
    go_wp2
    exact bodyPost_ret (v := .tuple #[.int .i64 0, .int .i64 0, .int .i64 2]) (by simp [results, Tryd.results24, go_sem]) rfl ⟨rfl, rfl⟩
set_option maxRecDepth 100000 in
set_option maxHeartbeats 2000000 in
theorem rline_ok (S : List UInt8) (p : Nat) (w : World) (hS : S.length ≤ 65536) (hp : p ≤ S.length) :
    Calls Tryd.prog 24 #[.string (str S), .int .i64 p] w fun e w' => e = .returned (.tuple #[.int .i64 (1 + Lib.countByte (S.take p) 10), .int .i64 ((p : Int) - la S p), .int .i64 0]) ∧ w' = w := by
  have hsz := str_size S
  have hgt : ¬ (65536 : Int) < (S.length : Int) := by omega
  have h0 : ¬ (p : Int) < 0 := by omega
  have h1 : ¬ (S.length : Int) < (p : Int) := by omega
  go_enter Tryd.func24, Tryd.ntmps24
  go_wp2
  go_loop [7, 8, 9] (fun x y i => ∃ k cn : Nat, ∃ co : Int, k ≤ p ∧ cn ≤ k ∧ 1 ≤ co ∧ co ≤ (k : Int) + 1 ∧ x = .int .i64 (1 + (cn : Int)) ∧ y = .int .i64 co ∧ i = .int .i64 k ∧ Hid (cn = Lib.countByte (S.take k) 10) ∧ Hid (co = (k : Int) - la S k)) (fun _ _ i => p - (intOf i).toNat)
  case atStart => exact ⟨0, 0, 1, Nat.zero_le _, Nat.le_refl _, by omega, by omega, rfl, rfl, rfl, (rfl : 0 = Lib.countByte (S.take 0) 10), (rfl : (1 : Int) = (0 : Nat) - la S 0)⟩
  case round =>
    obtain ⟨k, cn, co, hk, hcn, hc1, hc2, rfl, rfl, rfl, HC, HO⟩ := hrel
    by_cases hlt : k < p
    · have g1 : (0 : Int) ≤ (k : Int) := by omega
      have g2 : (k : Int) < (S.length : Int) := by omega
      have g3 : (k : Int) < (p : Int) := by omega
      have hkS : k < S.length := by omega
      obtain ⟨c, hcl⟩ : ∃ c, c = S[k] := ⟨_, rfl⟩
      have hc : (str S)[k]'(by rw [hsz]; exact hkS) = c := by rw [hcl]; rfl
      have HC' := count_step S k hkS
      rw [← hcl] at HC'
      have w1 : IntKind.i64.wrap (co + 1) = co + 1 := by rw [IntKind.wrap_i64]; omega
      have w2 : IntKind.i64.wrap (1 + (cn : Int) + 1) = 1 + (cn : Int) + 1 := by rw [IntKind.wrap_i64]; omega
      have w3 : IntKind.i64.wrap ((k : Int) + 1) = (k : Int) + 1 := by rw [IntKind.wrap_i64]; omega
      by_cases h10 : c = 10
      · have hb : ((c.toNat : Int) == 10) = true := by rw [byte_ten, decide_eq_true h10]
        have HC2 : Hid (cn + 1 = Lib.countByte (S.take (k + 1)) 10) := by show _ = _; rw [HC', if_pos h10, HC.out]
        have HO2 : Hid ((1 : Int) = ((k + 1 : Nat) : Int) - la S (k + 1)) := by
          show _ = _
          unfold la
          rw [List.getElem?_eq_getElem hkS, ← hcl, if_pos (by rw [h10])]
          omega
        clear HC' hcl h10 HC HO
        go_wp2
        go_roundw
        case rel => exact ⟨k + 1, cn + 1, 1, by omega, by omega, by omega, by omega, by go_num, rfl, by go_num, HC2, HO2⟩
        case measure => simp [intOf]; omega
      · have hb : ((c.toNat : Int) == 10) = false := by rw [byte_ten, decide_eq_false h10]
        have HC2 : Hid (cn = Lib.countByte (S.take (k + 1)) 10) := by show _ = _; rw [HC', if_neg h10, HC.out]; rfl
        have HO2 : Hid (co + 1 = ((k + 1 : Nat) : Int) - la S (k + 1)) := by
          show _ = _
          unfold la
          rw [List.getElem?_eq_getElem hkS, ← hcl, if_neg (by simpa using h10), HO.out]
          omega
        clear HC' hcl h10 HC HO
        go_wp2
        go_roundw
        case rel => exact ⟨k + 1, cn, co + 1, by omega, by omega, by omega, by omega, rfl, by go_num, by go_num, HC2, HO2⟩
        case measure => simp [intOf]; omega
    · obtain rfl : k = p := by omega
      go_wp2
      exact bodyPost_ret (v := .tuple #[.int .i64 (1 + (cn : Int)), .int .i64 co, .int .i64 0]) (by simp [results, Tryd.results24, go_sem]) rfl ⟨by rw [HC.out, HO.out], rfl⟩
end Go.Proofs.YtpnamkpoapcgeaaDoor
