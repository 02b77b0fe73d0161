import Derived.Test.YtpnamkpoapcgeaaDoorH
namespace Go.Proofs.YtpnamkpoapcgeaaDoor
open Go.RowKit
set_option linter.unusedVariables false
set_option linter.unusedSimpArgs false

theorem isN_RG (c : Nat) : isN c = (isR c && !isG c) := by
  rw [Bool.eq_iff_iff]; unfold isN isR isG; simp; omega
/-- Which bytes may be in a name: great ones, too? -/
def may (gr : Bool) (c : Nat) : Bool := isR c && (gr || !isG c)
theorem may_true : may true = isR := by funext c; simp [may]
theorem may_false : may false = isN := by funext c; rw [isN_RG]; simp [may]
theorem rowLen_at {P : Nat → Bool} {S : List UInt8} {p i : Nat} (hp : p ≤ i) (hi : i ≤ S.length) (h32 : i - p ≤ 32) (hy : ∀ j (h : j < S.length), p ≤ j → j < i → P S[j].toNat = true) (hz : i = S.length ∨ i - p = 32 ∨ ∃ h : i < S.length, P S[i].toNat = false) : rowLen P (S.drop p) = i - p := by
  apply rowLen_eq
  · rw [List.length_drop]; omega
  · exact h32
  · intro j h hj
    rw [List.getElem_drop]
    exact hy (p + j) (by rw [List.length_drop] at h; omega) (by omega) (by omega)
  · rcases hz with hz | hz | ⟨h, hz⟩
    · exact .inl (by rw [List.length_drop]; omega)
    · exact .inr (.inl hz)
    · refine .inr (.inr ⟨by rw [List.length_drop]; omega, ?_⟩)
      rw [List.getElem_drop]
      have : p + (i - p) = i := by omega
      simp only [this]
      exact hz
theorem rowAt_at {S : List UInt8} {p i : Nat} (hp : p ≤ i) (h : i < S.length) : rowAt (S.drop p) (i - p) = isR S[i].toNat := by
  unfold rowAt
  rw [List.drop_drop, show p + (i - p) = i by omega, List.head?_drop, List.getElem?_eq_getElem h]; rfl
theorem rowAt_end {S : List UInt8} {p i : Nat} (hp : p ≤ i) (h : S.length ≤ i) : rowAt (S.drop p) (i - p) = false := by
  apply rowAt_ge; rw [List.length_drop]; omega
/-- Where a name that begins at a place ends, and whether it is stuck there. -/
def nmEnd (S : List UInt8) (p : Nat) (gr : Bool) : Nat := p + rowLen (may gr) (S.drop p)
def nmOk (S : List UInt8) (p : Nat) (gr : Bool) : Bool := !rowAt (S.drop p) (rowLen (may gr) (S.drop p))
set_option maxRecDepth 100000 in
set_option maxHeartbeats 2000000 in
theorem rName_any (w : World) (S : List UInt8) (p : Nat) (gr : Bool) (hS : S.length ≤ maxLen) (hp : p ≤ S.length) : Calls Tryd.prog 49 #[.string (str S), .int .i64 (p : Int), .bool gr] w fun e w' => e = .returned (.tuple #[.int .i64 (nmEnd S p gr : Int), .bool (nmOk S p gr)]) ∧ w' = w := by
  unfold maxLen at hS
  have hsz : (str S).size = S.length := str_size S
  go_enter Tryd.func49, Tryd.ntmps49
  go_wp2
  go_loop [8] (fun x => ∃ i : Nat, p ≤ i ∧ i ≤ S.length ∧ i - p ≤ 32 ∧ x = .int .i64 i ∧ Hid (∀ j (h : j < S.length), p ≤ j → j < i → may gr S[j].toNat = true)) (fun x => S.length - (intOf x).toNat)
  case atStart => exact ⟨p, Nat.le_refl _, hp, by omega, rfl, fun j _ h1 h2 => by omega⟩
  case round =>
    obtain ⟨i, hpi, hil, h32, rfl, hn⟩ := hrel
    by_cases hlt : i < S.length
    · obtain ⟨c, hcl⟩ : ∃ c, c = S[i] := ⟨_, rfl⟩
      have hc : (str S)[i]'(by rw [hsz]; exact hlt) = c := by rw [hcl]; rfl
      have g0 : (0 : Int) ≤ (i : Int) := by omega
      have g1 : (i : Int) < (S.length : Int) := by omega
      have g2 : (p : Int) ≤ (i : Int) := by omega
      cases hr : isR c.toNat
      · have HRr : Hid (∀ W, Calls Tryd.prog 77 #[.int .u8 (c.toNat : Int)] W fun e w' => e = .returned (.bool false) ∧ w' = W) := fun W => by have := rRow_any c.toNat W; rw [hr] at this; exact this
        have hrl : rowLen (may gr) (S.drop p) = i - p := rowLen_at hpi hil h32 hn.out (.inr (.inr ⟨hlt, by rw [← hcl]; unfold may; rw [hr]; rfl⟩))
        have hE : Hid (nmEnd S p gr = i ∧ nmOk S p gr = true) := ⟨by unfold nmEnd; omega, by unfold nmOk; rw [hrl, rowAt_at hpi hlt, ← hcl, hr]; rfl⟩
        clear hrl hr hcl hn
        go_wp2_with (go_at_call 77; refine (HRr.out _).mono ?_; rintro e w' ⟨rfl, rfl⟩)
        go_ret2
        exact ⟨by rw [hE.out.1, hE.out.2]; rfl, rfl⟩
      · have HRr : Hid (∀ W, Calls Tryd.prog 77 #[.int .u8 (c.toNat : Int)] W fun e w' => e = .returned (.bool true) ∧ w' = W) := fun W => by have := rRow_any c.toNat W; rw [hr] at this; exact this
        by_cases hst : may gr c.toNat = false ∨ i - p = 32
        · have hrl : rowLen (may gr) (S.drop p) = i - p := rowLen_at hpi hil h32 hn.out (.inr (by
            rcases hst with h | h
            · exact .inr ⟨hlt, by rw [← hcl]; exact h⟩
            · exact .inl h))
          have hE : Hid (nmEnd S p gr = i ∧ nmOk S p gr = false) := ⟨by unfold nmEnd; omega, by unfold nmOk; rw [hrl, rowAt_at hpi hlt, ← hcl, hr]; rfl⟩
          cases hg : isG c.toNat
          · have HGr : Hid (∀ W, Calls Tryd.prog 48 #[.int .u8 (c.toNat : Int)] W fun e w' => e = .returned (.bool false) ∧ w' = W) := fun W => by have := rGreat_any c.toNat W; rw [hg] at this; exact this
            have h3 : i - p = 32 := by
              rcases hst with h | h
              · unfold may at h; rw [hr, hg] at h; cases gr <;> simp at h
              · exact h
            have h3' : ((i : Int) - (p : Int) == 32) = true := by simp; omega
            clear hrl hr hcl hn hst hg h3
            go_wp2_with (first
              | (go_at_call 77; refine (HRr.out _).mono ?_; rintro e w' ⟨rfl, rfl⟩)
              | (go_at_call 48; refine (HGr.out _).mono ?_; rintro e w' ⟨rfl, rfl⟩))
            go_ret2
            exact ⟨by rw [hE.out.1, hE.out.2]; rfl, rfl⟩
          · have HGr : Hid (∀ W, Calls Tryd.prog 48 #[.int .u8 (c.toNat : Int)] W fun e w' => e = .returned (.bool true) ∧ w' = W) := fun W => by have := rGreat_any c.toNat W; rw [hg] at this; exact this
            cases gr
            · clear hrl hr hcl hn hst hg
              go_wp2_with (first
                | (go_at_call 77; refine (HRr.out _).mono ?_; rintro e w' ⟨rfl, rfl⟩)
                | (go_at_call 48; refine (HGr.out _).mono ?_; rintro e w' ⟨rfl, rfl⟩))
              go_ret2
              exact ⟨by rw [hE.out.1, hE.out.2]; rfl, rfl⟩
            · have h3 : i - p = 32 := by
                rcases hst with h | h
                · unfold may at h; rw [hr] at h; simp at h
                · exact h
              have h3' : ((i : Int) - (p : Int) == 32) = true := by simp; omega
              clear hrl hr hcl hn hst hg h3
              go_wp2_with (first
                | (go_at_call 77; refine (HRr.out _).mono ?_; rintro e w' ⟨rfl, rfl⟩)
                | (go_at_call 48; refine (HGr.out _).mono ?_; rintro e w' ⟨rfl, rfl⟩))
              go_ret2
              exact ⟨by rw [hE.out.1, hE.out.2]; rfl, rfl⟩
        · have hm : may gr c.toNat = true := by
            cases h : may gr c.toNat
            · exact absurd (.inl h) hst
            · rfl
          have h3 : i - p ≠ 32 := fun h => hst (.inr h)
          have h3' : ((i : Int) - (p : Int) == 32) = false := by simp; omega
          have HN : Hid (∀ j (h : j < S.length), p ≤ j → j < i + 1 → may gr S[j].toNat = true) := fun j h h1 h2 => by
            rcases Nat.lt_or_ge j i with h' | h'
            · exact hn.out j h h1 h'
            · obtain rfl : j = i := by omega
              rw [← hcl]; exact hm
          cases hg : isG c.toNat
          · have HGr : Hid (∀ W, Calls Tryd.prog 48 #[.int .u8 (c.toNat : Int)] W fun e w' => e = .returned (.bool false) ∧ w' = W) := fun W => by have := rGreat_any c.toNat W; rw [hg] at this; exact this
            clear hr hcl hn hst hg hm
            go_wp2_with (first
              | (go_at_call 77; refine (HRr.out _).mono ?_; rintro e w' ⟨rfl, rfl⟩)
              | (go_at_call 48; refine (HGr.out _).mono ?_; rintro e w' ⟨rfl, rfl⟩))
            go_round
            case rel => exact ⟨i + 1, by omega, by omega, by omega, by go_num, HN⟩
            case measure => simp [intOf]; omega
          · have HGr : Hid (∀ W, Calls Tryd.prog 48 #[.int .u8 (c.toNat : Int)] W fun e w' => e = .returned (.bool true) ∧ w' = W) := fun W => by have := rGreat_any c.toNat W; rw [hg] at this; exact this
            obtain rfl : gr = true := by unfold may at hm; rw [hr, hg] at hm; simpa using hm
            clear hr hcl hn hst hg hm
            go_wp2_with (first
              | (go_at_call 77; refine (HRr.out _).mono ?_; rintro e w' ⟨rfl, rfl⟩)
              | (go_at_call 48; refine (HGr.out _).mono ?_; rintro e w' ⟨rfl, rfl⟩))
            go_round
            case rel => exact ⟨i + 1, by omega, by omega, by omega, by go_num, HN⟩
            case measure => simp [intOf]; omega
    · have hrl : rowLen (may gr) (S.drop p) = i - p := rowLen_at hpi hil h32 hn.out (.inl (by omega))
      have hE : Hid (nmEnd S p gr = i ∧ nmOk S p gr = true) := ⟨by unfold nmEnd; omega, by unfold nmOk; rw [hrl, rowAt_end hpi (by omega)]; rfl⟩
      have g1 : ¬ (i : Int) < (S.length : Int) := by omega
      have HRr : Hid (∀ W, Calls Tryd.prog 77 #[.int .u8 0] W fun e w' => e = .returned (.bool (isR 0)) ∧ w' = W) := fun W => rRow_any 0 W
      clear hrl hn
      go_wp2_with (go_at_call 77; refine (HRr.out _).mono ?_; rintro e w' ⟨rfl, rfl⟩)
      go_ret2
      exact ⟨by rw [hE.out.1, hE.out.2]; rfl, rfl⟩
end Go.Proofs.YtpnamkpoapcgeaaDoor
