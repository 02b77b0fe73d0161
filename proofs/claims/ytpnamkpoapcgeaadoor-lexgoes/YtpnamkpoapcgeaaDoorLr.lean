import Derived.Test.YtpnamkpoapcgeaaDoorLq
import Derived.Test.YtpnamkpoapcgeaaDoorLe
namespace Go.Proofs.YtpnamkpoapcgeaaDoor
open Go.RowKit Go.Shelf
set_option linter.unusedVariables false
set_option linter.unusedSimpArgs false

theorem joinFn_any (a b : Tz) (w : World) : Calls Tryd.prog 39 #[tzV a, tzV b] w fun e w' => e = .returned (.bool true) ∧ Below w.heap.size w w' := by
  obtain ⟨ak, ap, an, za⟩ := a
  obtain ⟨bk, bp, bn, zb⟩ := b
  go_enter Tryd.func39, Tryd.ntmps39
  go_wp2
  go_ret
  exact ⟨rfl, belA (belA (Below.refl _ _))⟩
theorem join_of (v : Value) (s : ByteArray) (er : Int) (w : World) (h : Calls Tryd.prog 38 #[v, .func (.func 39) #[] #[]] w fun e w' => e = .returned (.tuple #[.string s, .int .i64 er]) ∧ Below w.heap.size w w') :
    Calls Tryd.prog 19 #[v] w fun e w' => e = .returned (.tuple #[.string s, .int .i64 er]) ∧ Below w.heap.size w w' := by
  have H : Hid (Calls Tryd.prog 38 #[v, .func (.func 39) #[] #[]] w fun e w' => e = .returned (.tuple #[.string s, .int .i64 er]) ∧ Below w.heap.size w w') := h
  clear h
  go_enter Tryd.func19, Tryd.ntmps19
  go_wp2_with (go_at_call 38; refine H.out.mono ?_; rintro e w1 ⟨rfl, hb1⟩)
  go_ret2
  exact ⟨rfl, hb1⟩
set_option maxRecDepth 100000 in
theorem text_no (t : Tz) (w : World) (hl : t.s.length ≤ 140737488355328) (hT : (tzText t).length ≤ maxLen) (hn : ∀ W, Below w.heap.size w W → Num W t) (hm : tzMay t = false) :
    Calls Tryd.prog 15 #[tzV t] w fun e w' => e = .returned (.tuple #[.string ⟨#[]⟩, .int .i64 2]) ∧ Below w.heap.size w w' := by
  have HM : Hid (∀ W, Below w.heap.size w W → Calls Tryd.prog 17 #[tzV t] W fun e w' => e = .returned (.bool false) ∧ Below W.heap.size W w') := fun W hW => by
    rw [← hm]; exact may_any t W hl hT (fun W' hW' => hn W' (below_aft hW hW'))
  clear hn hm hT
  obtain ⟨k, p, n, s⟩ := t
  dsimp only at *
  have A1 := At.new w (Tok k p n (str s))
  obtain ⟨c0, c1, c2, c3, cf⟩ := A1.tok
  have B1 : Below w.heap.size w (w.alloc (Tok k p n (str s))) := belA (Below.refl _ _)
  go_enter Tryd.func15, Tryd.ntmps15
  go_wp2_with (first | (go_at_call 17; refine (HM.out _ B1).mono ?_; rintro e w1 ⟨rfl, hb1⟩))
  go_ret2
  exact ⟨rfl, below_aft B1 hb1⟩
set_option maxRecDepth 100000 in
theorem text_ok (t : Tz) (w : World) (hl : t.s.length ≤ 140737488355328) (hT : (tzText t).length ≤ 100000) (hn : ∀ W, Below w.heap.size w W → Num W t) (hm : tzMay t = true) :
    Calls Tryd.prog 15 #[tzV t] w fun e w' => e = .returned (.tuple #[.string (str (tzText t)), .int .i64 0]) ∧ Below w.heap.size w w' := by
  have HM : Hid (∀ W, Below w.heap.size w W → Calls Tryd.prog 17 #[tzV t] W fun e w' => e = .returned (.bool true) ∧ Below W.heap.size W w') := fun W hW => by
    rw [← hm]; exact may_any t W hl (Nat.le_trans hT (by unfold maxLen; omega)) (fun W' hW' => hn W' (below_aft hW hW'))
  have HX : Hid (∀ W, Below w.heap.size w W → Calls Tryd.prog 34 #[tzV t] W fun e w' => e = .returned (.string (str (tzText t))) ∧ Below W.heap.size W w') := fun W hW => textOf_any t W hl (hn _ (hW.alloc hW.size _))
  have HC : Hid (∀ W, Calls Tryd.prog 33 #[.string (str (tzText t))] W fun e w' => e = .returned (.string (str (tzText t))) ∧ Below W.heap.size W w') := fun W => clone_any _ W (by rw [str_size]; exact hT)
  clear hn hm
  obtain ⟨k, p, n, s⟩ := t
  generalize tzText ⟨k, p, n, s⟩ = T at *
  dsimp only at *
  have A1 := At.new w (Tok k p n (str s))
  obtain ⟨c0, c1, c2, c3, cf⟩ := A1.tok
  have B1 : Below w.heap.size w (w.alloc (Tok k p n (str s))) := belA (Below.refl _ _)
  go_enter Tryd.func15, Tryd.ntmps15
  go_wp2_with (first
    | (go_at_call 17; refine (HM.out _ B1).mono ?_; rintro e w1 ⟨rfl, hb1⟩; have B2 := below_aft B1 hb1; obtain ⟨d0, d1, d2, d3, df⟩ := (A1.below hb1).tok)
    | (go_at_call 34; refine (HX.out _ B2).mono ?_; rintro e w2 ⟨rfl, hb2⟩)
    | (go_at_call 33; refine (HC.out _).mono ?_; rintro e w3 ⟨rfl, hb3⟩))
  go_ret2
  exact ⟨rfl, below_aft (below_aft B2 hb2) hb3⟩
end Go.Proofs.YtpnamkpoapcgeaaDoor
