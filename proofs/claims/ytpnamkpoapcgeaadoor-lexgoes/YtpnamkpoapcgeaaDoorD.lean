import Derived.Test.YtpnamkpoapcgeaaDoorN
import Derived.Test.YtpnamkpoapcgeaaDoorMb
namespace Go.Proofs.YtpnamkpoapcgeaaDoor
open Go.RowKit
set_option linter.unusedVariables false
set_option linter.unusedSimpArgs false

/-- What a function that reads answers. -/
abbrev rdV (r : Rd) : Value := .tuple #[tok (r.k : Int) 0 (r.n : Int) (str r.s), .int .i64 (r.far : Int)]
theorem readSign_yes (s : ByteArray) (w : World) (p : List UInt8) (hp : sg s.data.toList = p) (h0 : p.isEmpty = false) : Calls Tryd.prog 63 #[.string s] w fun e w' => e = .returned (.tuple #[tok 6 0 0 (str p), .int .i64 (p.length : Int)]) ∧ Below w.heap.size w w' := by
  have HS : Hid (∀ W, Calls Tryd.prog 84 #[.string s] W fun e w' => e = .returned (.string (str p)) ∧ Below W.heap.size W w') := fun W => by have := longestSign_any s W; rw [hp] at this; exact this
  have hne : (!(str p).toList.isEmpty) = true := by rw [str_list, h0]; rfl
  have hsz : ((str p).size : Int) = (p.length : Int) := by rw [str_size]
  have T2 := At.new w (Tok 0 0 0 ⟨#[]⟩)
  go_enter Tryd.func63, Tryd.ntmps63
  go_wp2_with (go_at_call 84; refine (HS.out _).mono ?_; rintro e w1 ⟨rfl, hb1⟩; have T2 := T2.below hb1; obtain ⟨c0, c1, c2, c3, f⟩ := T2.tok)
  have T3 := T2.setTok 6 0 0 (str p)
  obtain ⟨d0, d1, d2, d3, f'⟩ := T3.tok
  unfold setTok at d0 d1 d2 d3
  refine bodyPost_ret (v := .tuple #[tok 6 0 0 (str p), .int .i64 (p.length : Int)]) (by simp [results, Tryd.results63, go_sem, d0, d1, d2, d3]) rfl ⟨rfl, ?_⟩
  exact below_setTok (below1 hb1) (Nat.le_refl _) 6 0 0 (str p)
theorem readSign_no (w : World) (c : UInt8) (r : List UInt8) (n : Nat) (hn : n = if c.toNat = 124 then 1 else 0) (hp : sg (c :: r) = []) : Calls Tryd.prog 63 #[.string (str (c :: r))] w fun e w' => e = .returned (.tuple #[tok 0 0 0 (str []), .int .i64 (n : Int)]) ∧ Below w.heap.size w w' := by
  obtain ⟨s, hs⟩ : ∃ s, s = str (c :: r) := ⟨_, rfl⟩
  have HS : Hid (∀ W, Calls Tryd.prog 84 #[.string s] W fun e w' => e = .returned (.string (str [])) ∧ Below W.heap.size W w') := fun W => by have := longestSign_any s W; rw [hs, str_data, hp] at this; rw [hs]; exact this
  have T2 := At.new w (Tok 0 0 0 ⟨#[]⟩)
  have h0 : 0 < s.size := by rw [hs]; show 0 < (str (c :: r)).size; rw [str_size]; simp
  have hc : s[0] = c := by subst hs; rfl
  have h0' : (0 : Int) < (s.size : Int) := by omega
  have hne : (!(str []).toList.isEmpty) = false := by rw [str_list]; rfl
  rw [← hs]
  clear hs hp
  by_cases h : c.toNat = 124
  · rw [if_pos h] at hn
    subst hn
    have hcc : ((c.toNat : Int) == 124) = true := by simp; omega
    go_enter Tryd.func63, Tryd.ntmps63
    go_wp2_with (go_at_call 84; refine (HS.out _).mono ?_; rintro e w1 ⟨rfl, hb1⟩; have T2 := T2.below hb1; obtain ⟨c0, c1, c2, c3, f⟩ := T2.tok)
    have T3 := T2.setTok 0 0 0 ⟨#[]⟩
    obtain ⟨d0, d1, d2, d3, f'⟩ := T3.tok
    unfold setTok at d0 d1 d2 d3
    refine bodyPost_ret (v := .tuple #[tok 0 0 0 ⟨#[]⟩, .int .i64 1]) (by simp [results, Tryd.results63, go_sem, d0, d1, d2, d3]) rfl ⟨rfl, ?_⟩
    exact below_setTok (below1 hb1) (Nat.le_refl _) 0 0 0 ⟨#[]⟩
  · rw [if_neg h] at hn
    subst hn
    have hcc : ((c.toNat : Int) == 124) = false := by simp; omega
    go_enter Tryd.func63, Tryd.ntmps63
    go_wp2_with (go_at_call 84; refine (HS.out _).mono ?_; rintro e w1 ⟨rfl, hb1⟩; have T2 := T2.below hb1; obtain ⟨c0, c1, c2, c3, f⟩ := T2.tok)
    have T3 := T2.setTok 0 0 0 ⟨#[]⟩
    obtain ⟨d0, d1, d2, d3, f'⟩ := T3.tok
    unfold setTok at d0 d1 d2 d3
    refine bodyPost_ret (v := .tuple #[tok 0 0 0 ⟨#[]⟩, .int .i64 0]) (by simp [results, Tryd.results63, go_sem, d0, d1, d2, d3]) rfl ⟨rfl, ?_⟩
    exact below_setTok (below1 hb1) (Nat.le_refl _) 0 0 0 ⟨#[]⟩
theorem readSign_any (w : World) (c : UInt8) (r : List UInt8) : Calls Tryd.prog 63 #[.string (str (c :: r))] w fun e w' => e = .returned (rdV (rdSign (c :: r))) ∧ Below w.heap.size w w' := by
  unfold rdSign
  cases h : (sg (c :: r)).isEmpty
  · exact readSign_yes (str (c :: r)) w _ rfl h
  · have hp : sg (c :: r) = [] := List.isEmpty_iff.1 h
    refine (readSign_no w c r _ rfl hp).mono ?_
    rintro e w' ⟨rfl, hb⟩
    refine ⟨?_, hb⟩
    have : (some c = some 124) ↔ c.toNat = 124 := by
      constructor
      · intro e; cases e; rfl
      · intro e; rw [Option.some.injEq]; exact UInt8.toNat_inj.1 e
    simp only [List.head?_cons, this]
    rfl
end Go.Proofs.YtpnamkpoapcgeaaDoor
