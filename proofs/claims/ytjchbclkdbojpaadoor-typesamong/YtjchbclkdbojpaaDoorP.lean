import Derived.Test.YtjchbclkdbojpaaDoorO
namespace Go.Proofs.YtjchbclkdbojpaaDoor
open Go.RowKit
set_option linter.unusedVariables false
set_option linter.unusedSimpArgs false

def maxR : Int := 9223372036854775807
/-- A region, from its quote on: its number, how far it goes, whether it is one. -/
def rgP (S : List UInt8) (p : Nat) : Int × Nat × Bool :=
  if p + 1 < (nm S maxR (p + 1)).2 then ((nm S maxR (p + 1)).1, (tk S [32] (nm S maxR (p + 1)).2).1, (tk S [32] (nm S maxR (p + 1)).2).2) else ((nm S maxR (p + 1)).1, (nm S maxR (p + 1)).2, false)
/-- What stands between an ampersand alone and what it points to; so many levels are left. -/
def apP (S : List UInt8) (n p : Nat) : Nat × Bool :=
  if ah S p ≠ 32 then (p, decide (ah S p ≠ 38)) else if n = 2 then (p, false) else (p + 1, decide (ah S (p + 1) = 38))
/-- A reference's head, from behind its ampersand: mut, region, how far, whether it is one. -/
def hdP (S : List UInt8) (n p : Nat) : Bool × Int × Nat × Bool :=
  if ah S p = 39 then
    if (rgP S p).2.2 then
      if ah S (rgP S p).2.1 = 109 then (true, (rgP S p).1, (tk S [109, 117, 116, 32] (rgP S p).2.1).1, (tk S [109, 117, 116, 32] (rgP S p).2.1).2)
      else (false, (rgP S p).1, (rgP S p).2.1, true)
    else (false, (rgP S p).1, (rgP S p).2.1, false)
  else if ah S p = 109 then (true, -1, (tk S [109, 117, 116, 32] p).1, (tk S [109, 117, 116, 32] p).2)
  else (false, -1, (apP S n p).1, (apP S n p).2)
/-- A type, so many levels at most: how far, and which. -/
def rdT (S : List UInt8) : Nat → Nat → Nat × Option Ch
  | 0, p => (p, none)
  | n + 1, p =>
    if ah S p = 105 then ((tk S [105, 54, 52] p).1, if (tk S [105, 54, 52] p).2 then some (.leaf 1 0) else none)
    else if ah S p = 98 then ((tk S [98, 111, 111, 108] p).1, if (tk S [98, 111, 111, 108] p).2 then some (.leaf 2 0) else none)
    else if ah S p = 35 then ((nm S 31 (p + 1)).2, if p + 1 < (nm S 31 (p + 1)).2 then some (.leaf 5 (nm S 31 (p + 1)).1) else none)
    else if ah S p = 66 ∧ 1 ≤ n then
      if (tk S [66, 111, 120, 60] p).2 then
        match (rdT S n (tk S [66, 111, 120, 60] p).1).2 with
        | none => ((rdT S n (tk S [66, 111, 120, 60] p).1).1, none)
        | some c => ((tk S [62] (rdT S n (tk S [66, 111, 120, 60] p).1).1).1, if (tk S [62] (rdT S n (tk S [66, 111, 120, 60] p).1).1).2 then some (.box c) else none)
      else ((tk S [66, 111, 120, 60] p).1, none)
    else if ah S p = 38 ∧ 1 ≤ n then
      if (hdP S (n + 1) (p + 1)).2.2.2 then ((rdT S n (hdP S (n + 1) (p + 1)).2.2.1).1, (rdT S n (hdP S (n + 1) (p + 1)).2.2.1).2.map (fun c => .ref (hdP S (n + 1) (p + 1)).1 (hdP S (n + 1) (p + 1)).2.1 c))
      else ((hdP S (n + 1) (p + 1)).2.2.1, none)
    else (p, none)
theorem take_c (b : Nat) (S ws : List UInt8) (p : Nat) (w : World) (h : Rd b S p 114 w) (hp : p ≤ S.length) (hS : S.length ≤ 16384) (hw : ws.length ≤ 10) (h0 : ∀ c ∈ ws, c.toNat ≠ 0) (q : Nat) (ok : Bool) (hq : tk S ws p = (q, ok)) :
    Calls Tryd.prog 90 #[.pointer (some ⟨b, 0, none⟩), .string (str ws)] w fun e w' => e = .returned (.bool ok) ∧ Rd b S q 114 w' ∧ But b w w' ∧ q ≤ S.length := by
  have := take_any b S ws _ rfl p w h hp hS hw h0
  rw [hq] at this
  exact this
theorem tk_le (S : List UInt8) : ∀ (ws : List UInt8) (p : Nat), p ≤ S.length → (∀ c ∈ ws, c.toNat ≠ 0) → (tk S ws p).1 ≤ S.length
  | [], p, h, _ => h
  | c :: r, p, h, h0 => by
    unfold tk
    split
    · rename_i he
      exact tk_le S r (p + 1) (ah_lt (by rw [he]; exact h0 c (by simp))) (fun d hd => h0 d (by simp [hd]))
    · exact h
set_option maxRecDepth 100000 in
set_option maxHeartbeats 2000000 in
theorem region_any (b : Nat) (S : List UInt8) (p : Nat) (w : World) (h : Rd b S p 114 w) (hp : p < S.length) (hS : S.length ≤ 16384) (r : Int) (q : Nat) (ok : Bool) (hR : rgP S p = (r, q, ok)) :
    Calls Tryd.prog 102 #[.pointer (some ⟨b, 0, none⟩)] w fun e w' => e = .returned (.tuple #[.int .i64 r, .bool ok]) ∧ Rd b S q 114 w' ∧ But b w w' ∧ q ≤ S.length := by
  obtain ⟨c0, c1⟩ := h.two
  have f1 := h.twoF 1
  have w3 : IntKind.i64.wrap ((p : Int) + 1) = (p : Int) + 1 := by rw [IntKind.wrap_i64]; omega
  have hg := Rd.go (p := p) h (p + 1)
  have e1 : ((p + 1 : Nat) : Int) = (p : Int) + 1 := by omega
  rw [e1] at hg
  have hB0 : But b w (w.setCell ⟨b, 1, none⟩ (.int .i64 ((p : Int) + 1))) := (But.refl b w).set 1 _
  have CN : Hid (Calls Tryd.prog 91 #[.pointer (some ⟨b, 0, none⟩), .int .i64 9223372036854775807] (w.setCell ⟨b, 1, none⟩ (.int .i64 ((p : Int) + 1))) fun e w' => e = .returned (.tuple #[.int .i64 r, .bool (decide (p + 1 < (nm S maxR (p + 1)).2))]) ∧ Rd b S (nm S maxR (p + 1)).2 114 w' ∧ But b (w.setCell ⟨b, 1, none⟩ (.int .i64 ((p : Int) + 1))) w' ∧ InR S maxR (nm S maxR (p + 1))) := by
    have hr : (nm S maxR (p + 1)).1 = r := by
      unfold rgP at hR
      split at hR <;> exact congrArg (·.1) hR
    rw [← hr]
    exact number_any b S maxR (by decide) (by decide) (p + 1) _ (by rw [← e1] at hg; exact hg) hp hS
  by_cases hok : p + 1 < (nm S maxR (p + 1)).2
  · have hT : tk S [32] (nm S maxR (p + 1)).2 = (q, ok) := by
      unfold rgP at hR
      rw [if_pos hok] at hR
      injection hR with _ h2
    have CT : Hid (∀ W, Rd b S (nm S maxR (p + 1)).2 114 W → InR S maxR (nm S maxR (p + 1)) → Calls Tryd.prog 90 #[.pointer (some ⟨b, 0, none⟩), .string (str [32])] W fun e w' => e = .returned (.bool ok) ∧ Rd b S q 114 w' ∧ But b W w' ∧ q ≤ S.length) := fun W h1 h2 => take_c b S [32] _ W h1 h2.1 hS (by simp) (by simp) q ok hT
    rw [decide_eq_true hok] at CN
    clear hok hT hR h hg
    go_enter Tryd.func102, Tryd.ntmps102
    go_wp2_with (first
      | (go_at_call 91; refine CN.out.mono ?_; rintro e w1 ⟨rfl, hr1, hb1, hi1⟩)
      | (go_at_call 90; refine (CT.out w1 hr1 hi1).mono ?_; rintro e w2 ⟨rfl, hr2, hb2, hi2⟩))
    go_ret2
    exact ⟨rfl, hr2, (hB0.trans hb1).trans hb2, hi2⟩
  · have hT : q = (nm S maxR (p + 1)).2 ∧ ok = false := by
      unfold rgP at hR
      rw [if_neg hok] at hR
      injection hR with _ h2
      injection h2 with h3 h4
      exact ⟨h3.symm, h4.symm⟩
    obtain ⟨hq, rfl⟩ := hT
    rw [decide_eq_false hok] at CN
    have HQ : Hid (q = (nm S maxR (p + 1)).2) := hq
    clear hok hR h hg hq
    go_enter Tryd.func102, Tryd.ntmps102
    go_wp2_with (go_at_call 91; refine CN.out.mono ?_; rintro e w1 ⟨rfl, hr1, hb1, hi1⟩)
    go_ret2
    rw [HQ.out]
    exact ⟨rfl, hr1, hB0.trans hb1, hi1.1⟩
set_option maxRecDepth 100000 in
set_option maxHeartbeats 2000000 in
theorem apart_any (b : Nat) (S : List UInt8) (n p : Nat) (w : World) (h : Rd b S p 114 w) (hp : p ≤ S.length) (hS : S.length ≤ 16384) (hn : 2 ≤ n) (hn2 : n ≤ 48) (deep : Int) (hd : deep = 49 - n) (q : Nat) (ok : Bool) (hR : apP S n p = (q, ok)) :
    Calls Tryd.prog 103 #[.pointer (some ⟨b, 0, none⟩), .int .i64 deep] w fun e w' => e = .returned (.bool ok) ∧ Rd b S q 114 w' ∧ But b w w' ∧ q ≤ S.length := by
  obtain ⟨x, hx⟩ : ∃ x, x = ah S p := ⟨_, rfl⟩
  have CA : Hid (∀ W, Below w.heap.size w W → Calls Tryd.prog 89 #[.pointer (some ⟨b, 0, none⟩)] W fun e w' => e = .returned (.int .u8 (x : Int)) ∧ Below W.heap.size W w') := fun W hW => by
    rw [hx]
    exact ahead_any b S p W (h.below hW) hp hS
  have HRd : Hid (Rd b S p 114 w) := h
  have w3 : IntKind.i64.wrap (deep + 1) = deep + 1 := by rw [IntKind.wrap_i64]; omega
  have w4 : IntKind.i64.wrap ((p : Int) + 1) = (p : Int) + 1 := by rw [IntKind.wrap_i64]; omega
  unfold apP at hR
  rw [← hx] at hR
  have st1 : Stg 1 := .mk 1
  by_cases h32 : x = 32
  · subst h32
    rw [if_neg (by simp)] at hR
    have hlt : p < S.length := ah_lt (by rw [← hx]; simp)
    by_cases h2 : n = 2
    · rw [if_pos h2] at hR
      injection hR with h3 h4
      subst h3 h4
      have hd2 : deep = 47 := by omega
      subst hd2
      clear h hx hn hn2 hd h2
      go_enter Tryd.func103, Tryd.ntmps103
      go_wp2_with (go_at_call 89; refine (CA.out _ (Below.refl _ _)).mono ?_; rintro e w1 ⟨rfl, hb1⟩)
      go_ret
      exact ⟨rfl, HRd.out.below hb1, But.below hb1, by omega⟩
    · rw [if_neg h2] at hR
      injection hR with h3 h4
      have hd2 : ¬ deep + 1 = 48 := by omega
      obtain ⟨y, hy⟩ : ∃ y, y = ah S (p + 1) := ⟨_, rfl⟩
      rw [← hy] at h4
      have e1 : ((p + 1 : Nat) : Int) = (p : Int) + 1 := by omega
      have CB : Hid (∀ W, Below w.heap.size w W → Calls Tryd.prog 89 #[.pointer (some ⟨b, 0, none⟩)] (W.setCell ⟨b, 1, none⟩ (.int .i64 ((p : Int) + 1))) fun e w' => e = .returned (.int .u8 (y : Int)) ∧ Below (W.setCell ⟨b, 1, none⟩ (.int .i64 ((p : Int) + 1))).heap.size (W.setCell ⟨b, 1, none⟩ (.int .i64 ((p : Int) + 1))) w' ∧ Rd b S (p + 1) 114 w' ∧ But b w w') := fun W hW => by
        have hg := Rd.go (p := p) (HRd.out.below hW) (p + 1)
        rw [e1] at hg
        have := ahead_any b S (p + 1) _ (by rw [← e1] at hg; exact hg) hlt hS
        rw [e1, ← hy] at this
        exact this.mono fun e w' k => ⟨k.1, k.2, (show Rd b S (p + 1) 114 _ by unfold Rd; rw [e1]; exact hg).below k.2, ((But.below hW).set 1 _).trans (But.below k.2)⟩
      have HY : Hid (decide (y = 38) = ok) := h4
      subst h3
      clear h hx hn hn2 hd h2 hy h4
      by_cases y38 : y = 38
      · subst y38
        have hok : ok = true := by rw [← HY.out]; simp
        subst hok
        go_enter Tryd.func103, Tryd.ntmps103
        go_wp2_with (first
          | (have _s := st1; clear st1 _s; go_at_call 89; refine (CA.out _ (Below.refl _ _)).mono ?_; rintro e w1 ⟨rfl, hb1⟩; obtain ⟨c0, c1⟩ := At.two (HRd.out.below hb1); have f1 := At.twoF (HRd.out.below hb1) 1)
          | (go_at_call 89; refine (CB.out _ hb1).mono ?_; rintro e w2 ⟨rfl, hb2, hr2, hB2⟩))
        go_ret
        exact ⟨rfl, hr2, hB2, hlt⟩
      · have y38' : ¬ (y : Int) = 38 := by omega
        have hok : ok = false := by rw [← HY.out]; simp [y38]
        subst hok
        go_enter Tryd.func103, Tryd.ntmps103
        go_wp2_with (first
          | (have _s := st1; clear st1 _s; go_at_call 89; refine (CA.out _ (Below.refl _ _)).mono ?_; rintro e w1 ⟨rfl, hb1⟩; obtain ⟨c0, c1⟩ := At.two (HRd.out.below hb1); have f1 := At.twoF (HRd.out.below hb1) 1)
          | (go_at_call 89; refine (CB.out _ hb1).mono ?_; rintro e w2 ⟨rfl, hb2, hr2, hB2⟩))
        go_ret
        exact ⟨by simp [y38'], hr2, hB2, hlt⟩
  · rw [if_pos h32] at hR
    injection hR with h3 h4
    have x32 : ¬ (x : Int) = 32 := by omega
    have HY : Hid (decide (x ≠ 38) = ok) := h4
    subst h3
    clear h hx hn hn2 hd h4
    have hp' : Hid (p ≤ S.length) := hp
    by_cases x38 : x = 38
    · subst x38
      have hok : ok = false := by rw [← HY.out]; simp
      subst hok
      go_enter Tryd.func103, Tryd.ntmps103
      go_wp2_with (first
        | (have _s := st1; clear st1 _s; go_at_call 89; refine (CA.out _ (Below.refl _ _)).mono ?_; rintro e w1 ⟨rfl, hb1⟩)
        | (go_at_call 89; refine (CA.out _ hb1).mono ?_; rintro e w2 ⟨rfl, hb2⟩))
      go_ret
      exact ⟨rfl, HRd.out.below (below_aft hb1 hb2), But.below (below_aft hb1 hb2), hp'.out⟩
    · have x38' : ¬ (x : Int) = 38 := by omega
      have hok : ok = true := by rw [← HY.out]; simp [x38]
      subst hok
      go_enter Tryd.func103, Tryd.ntmps103
      go_wp2_with (first
        | (have _s := st1; clear st1 _s; go_at_call 89; refine (CA.out _ (Below.refl _ _)).mono ?_; rintro e w1 ⟨rfl, hb1⟩)
        | (go_at_call 89; refine (CA.out _ hb1).mono ?_; rintro e w2 ⟨rfl, hb2⟩))
      go_ret
      exact ⟨by simp [x38'], HRd.out.below (below_aft hb1 hb2), But.below (below_aft hb1 hb2), hp'.out⟩
end Go.Proofs.YtjchbclkdbojpaaDoor
