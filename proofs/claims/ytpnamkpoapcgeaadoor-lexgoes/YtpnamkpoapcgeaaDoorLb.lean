import Derived.Test.YtpnamkpoapcgeaaDoorLa
import Derived.Lib.AppendIntMem
namespace Go.Proofs.YtpnamkpoapcgeaaDoor
open Go.RowKit Go.Shelf
set_option linter.unusedVariables false
set_option linter.unusedSimpArgs false

/-- A token, whatever stands in it. -/
structure Tz where
  k : Int
  p : Int
  n : Int
  s : List UInt8
abbrev tzV (t : Tz) : Value := tok t.k t.p t.n (str t.s)
/-- What would be its text. -/
def tzText (t : Tz) : List UInt8 := if t.k = 5 then Lib.itoa t.n else if t.k = 4 then 39 :: t.s else t.s
/-- The table of the library's powers of ten lies where it must; a number fits its word. -/
def Num (w : World) (t : Tz) : Prop := t.k = 5 → Lib.TabIs Tryd.prog w "internal/strconv.uint64pow10" .u64 Lib.pow10Tab ∧ -9223372036854775808 ≤ t.n ∧ t.n ≤ 9223372036854775807
theorem str_cons (c : UInt8) (l : List UInt8) : (⟨#[c]⟩ : ByteArray) ++ str l = str (c :: l) := by
  apply ByteArray.ext
  unfold str
  simp
set_option maxRecDepth 100000 in
theorem textOf_any (t : Tz) (w : World) (hl : t.s.length ≤ 140737488355328) (hn : Num (w.alloc (Tok t.k t.p t.n (str t.s))) t) :
    Calls Tryd.prog 34 #[tzV t] w fun e w' => e = .returned (.string (str (tzText t))) ∧ Below w.heap.size w w' := by
  obtain ⟨k, p, n, s⟩ := t
  obtain ⟨c0, c1, c2, c3, cf⟩ := (At.new w (Tok k p n (str s))).tok
  have hb : Below w.heap.size w (w.alloc (Tok k p n (str s))) := (Below.refl _ _).alloc (Nat.le_refl _) _
  unfold tzText
  dsimp only at *
  by_cases h5 : k = 5
  · obtain ⟨hT, h1, h2⟩ := hn h5
    rw [if_pos h5]
    dsimp only at h1 h2 hT
    subst h5
    go_enter Tryd.func34, Tryd.ntmps34
    go_wp2_with (go_at_call 35; refine (Tryd.strconv_FormatInt_10 n h1 h2 _ hT).mono ?_; rintro e w1 ⟨rfl, k, os, rfl⟩)
    go_ret
    exact ⟨rfl, hb.trans (Lib.below_grow _ _ hb.size _ _)⟩
  · rw [if_neg h5]
    have hk : (k == 5) = false := by simp [h5]
    by_cases h4 : k = 4
    · rw [if_pos h4]
      subst h4
      have hs := str_cons 39 s
      have hsz := str_size s
      have hle : ¬ (9223372036854775807 < 1 + s.length) := by omega
      go_enter Tryd.func34, Tryd.ntmps34
      go_wp2

      go_ret
      exact ⟨by rw [← hs]; rfl, hb⟩
    · rw [if_neg h4]
      have hk4 : (k == 4) = false := by simp [h4]
      go_enter Tryd.func34, Tryd.ntmps34
      go_wp2
      go_ret
      exact ⟨rfl, hb⟩
/-- May it be? -/
def tzMay (t : Tz) : Bool := !(t.k == 0) && !(decide (t.p < 0)) && decide ((rd (tzText t)).far = (tzText t).length ∧ ((rd (tzText t)).k : Int) = t.k ∧ ((rd (tzText t)).n : Int) = t.n ∧ (rd (tzText t)).s = t.s)
set_option maxRecDepth 100000 in
set_option maxHeartbeats 1000000 in
theorem may_any (t : Tz) (w : World) (hl : t.s.length ≤ 140737488355328) (hT : (tzText t).length ≤ maxLen) (hn : ∀ W, Below w.heap.size w W → Num W t) :
    Calls Tryd.prog 17 #[tzV t] w fun e w' => e = .returned (.bool (tzMay t)) ∧ Below w.heap.size w w' := by
  obtain ⟨k, p, n, s⟩ := t
  have HT : Hid (∀ W, Below w.heap.size w W → Calls Tryd.prog 34 #[tok k p n (str s)] W fun e w' => e = .returned (.string (str (tzText ⟨k, p, n, s⟩))) ∧ Below W.heap.size W w') := fun W hW => textOf_any ⟨k, p, n, s⟩ W hl (hn _ (hW.alloc hW.size _))
  unfold tzMay
  have HR : Hid (∀ W, Calls Tryd.prog 37 #[.string (str (tzText ⟨k, p, n, s⟩))] W fun e w' => e = .returned (rdV (rd (tzText ⟨k, p, n, s⟩))) ∧ Below W.heap.size W w') := fun W => read_any W _ hT
  generalize tzText ⟨k, p, n, s⟩ = T at *
  have hsz := str_size T
  generalize rd T = R at *
  obtain ⟨Rk, Rn, Rs, Rf⟩ := R
  dsimp only at *
  have A1 := At.new w (Tok k p n (str s))
  obtain ⟨c0, c1, c2, c3, cf⟩ := A1.tok
  have hb1 : Below w.heap.size w (w.alloc (Tok k p n (str s))) := (Below.refl _ _).alloc (Nat.le_refl _) _
  by_cases hk : k = 0
  · subst hk
    go_enter Tryd.func17, Tryd.ntmps17
    go_wp2
    go_ret
    exact ⟨rfl, hb1⟩
  · have hk' : (k == 0) = false := by simp [hk]
    by_cases hp : p < 0
    · have hp' : decide (p < 0) = true := by simp [hp]
      rw [hk', hp']
      go_enter Tryd.func17, Tryd.ntmps17
      go_wp2
      go_ret
      exact ⟨rfl, hb1⟩
    · have hp' : decide (p < 0) = false := by simp [hp]
      rw [hk', hp']
      go_enter Tryd.func17, Tryd.ntmps17
      go_wp2_with (first
        | (go_at_call 34; refine (HT.out _ hb1).mono ?_; rintro e w1 ⟨rfl, hb2⟩)
        | (go_at_call 37; refine (HR.out _).mono ?_; rintro e w2 ⟨rfl, hb3⟩; have A2 := (A1.below hb2).below hb3; have A3 := A2.alloc (Tok Rk 0 Rn (str Rs)); clear c0 c1 c2 c3 cf; obtain ⟨c0, c1, c2, c3, cf⟩ := A3.tok; obtain ⟨d0, d1, d2, d3, df⟩ := (A2.alloc (Tok Rk p Rn (str Rs))).tok))
      all_goals go_ret
      all_goals refine ⟨?_, belA (below_aft (below_aft hb1 hb2) hb3)⟩
      all_goals (simp only [str_list, Int.natCast_inj] at *)
      all_goals (clear c0 c1 c2 c3 cf d0 d1 d2 d3 df HT HR hn)
      all_goals (simp_all)
end Go.Proofs.YtpnamkpoapcgeaaDoor
