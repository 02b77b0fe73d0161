import Derived.Test.YtnohcppipkpgmaaDoorG
namespace Go.Proofs.YtnohcppipkpgmaaDoor
open Go.RowKit
set_option linter.unusedVariables false
set_option linter.unusedSimpArgs false

inductive Stg : Nat → Prop
  | mk (n : Nat) : Stg n
/-- A type that may be. -/
structure Ok (c : Ch) : Prop where
  ok : c.ok 32
  deep : c.depth ≤ 48
theorem Ok.is {c : Ch} (h : Ok c) : isT c.ty = true := ch_mayB h.ok h.deep
theorem ok_of {t : Ty} (h : isT t = true) : ∃ c, t = c.ty ∧ Ok c := by
  obtain ⟨c, h1, h2, h3⟩ := mayB_ch h
  exact ⟨c, h1, ⟨h2, h3⟩⟩
set_option maxRecDepth 100000 in
set_option maxHeartbeats 2000000 in
theorem Alike_of (t u : Ty) (f f' : Fv) (w : World) (h : TyAt w f t) (h' : TyAt w f' u) (b1 b2 rr : Bool) (h1 : isT t = b1) (h2 : isT u = b2) (hr : b1 = true → b2 = true → ∀ W, Below w.heap.size w W → Calls Tryd.prog 93 #[f.v, f'.v] W fun e w' => e = .returned (.bool rr) ∧ Below W.heap.size W w') (hn : ¬ (b1 = true ∧ b2 = true) → rr = false) : Calls Tryd.prog 83 #[f.v, f'.v] w fun e w' => e = .returned (.bool rr) ∧ Below w.heap.size w w' := by
  have I1 : Hid (∀ W, Below w.heap.size w W → Calls Tryd.prog 58 #[f.v] W fun e w' => e = .returned (.bool b1) ∧ Below W.heap.size W w') := fun W hW => by
    have := some_any t f W (h.bel hW)
    rw [h1] at this
    exact this
  have I2 : Hid (∀ W, Below w.heap.size w W → Calls Tryd.prog 58 #[f'.v] W fun e w' => e = .returned (.bool b2) ∧ Below W.heap.size W w') := fun W hW => by
    have := some_any u f' W (h'.bel hW)
    rw [h2] at this
    exact this
  have HR : Hid (b1 = true → b2 = true → ∀ W, Below w.heap.size w W → Calls Tryd.prog 93 #[f.v, f'.v] W fun e w' => e = .returned (.bool rr) ∧ Below W.heap.size W w') := hr
  have HN : Hid (¬ (b1 = true ∧ b2 = true) → rr = false) := hn
  clear hr hn h h' h1 h2
  obtain ⟨k, m, r, s, a, n, cap⟩ := f
  obtain ⟨k', m', r', s', a', n', cap'⟩ := f'
  have N1 := two_new w ⟨k, m, r, s, a, n, cap⟩ ⟨k', m', r', s', a', n', cap'⟩
  have HB0 := belB w ⟨k, m, r, s, a, n, cap⟩ ⟨k', m', r', s', a', n', cap'⟩
  have HN1 : Hid (C5 ((w.alloc (tyO k m r s a n cap)).alloc (tyO k' m' r' s' a' n' cap')) w.heap.size 0 ⟨k, m, r, s, a, n, cap⟩ ∧ C5 ((w.alloc (tyO k m r s a n cap)).alloc (tyO k' m' r' s' a' n' cap')) (w.heap.size + 1) 0 ⟨k', m', r', s', a', n', cap'⟩) := N1
  clear N1
  show Calls Tryd.prog 83 #[tyV k m r s a n cap, tyV k' m' r' s' a' n' cap'] w _
  cases b1 with
  | false =>
    obtain rfl := HN.out (by simp)
    clear HR HN I2
    go_enter Tryd.func83, Tryd.ntmps83
    go_wp2_with (go_at_call 58; refine (I1.out _ (belA (belA (Below.refl _ _)))).mono ?_; rintro e w1 ⟨rfl, hb1⟩)
    go_ret
    exact ⟨rfl, below2 hb1⟩
  | true =>
    cases b2 with
    | false =>
      obtain rfl := HN.out (by simp)
      clear HR HN
      have st1 : Stg 1 := .mk 1
      go_enter Tryd.func83, Tryd.ntmps83
      go_wp2_with (first
        | (have _s := st1; clear st1 _s; go_at_call 58; refine (I1.out _ (belA (belA (Below.refl _ _)))).mono ?_; rintro e w1 ⟨rfl, hb1⟩; have st2 : Stg 2 := .mk 2; obtain ⟨-, p0, p1, p2, p3, p4⟩ := HN1.out.1.below hb1; obtain ⟨-, q0, q1, q2, q3, q4⟩ := HN1.out.2.below hb1)
        | (have _s := st2; clear st2 _s; go_at_call 58; refine (I2.out _ (below2 hb1)).mono ?_; rintro e w2 ⟨rfl, hb2⟩))
      go_ret
      exact ⟨rfl, below_aft (below2 hb1) hb2⟩
    | true =>
      have R := HR.out rfl rfl
      have HR' : Hid (∀ W, Below w.heap.size w W → Calls Tryd.prog 93 #[tyV k m r s a n cap, tyV k' m' r' s' a' n' cap'] W fun e w' => e = .returned (.bool rr) ∧ Below W.heap.size W w') := R
      clear HR HN R
      have st1 : Stg 1 := .mk 1
      go_enter Tryd.func83, Tryd.ntmps83
      go_wp2_with (first
        | (have _s := st1; clear st1 _s; go_at_call 58; refine (I1.out _ (belA (belA (Below.refl _ _)))).mono ?_; rintro e w1 ⟨rfl, hb1⟩; have st2 : Stg 2 := .mk 2; obtain ⟨-, p0, p1, p2, p3, p4⟩ := HN1.out.1.below hb1; obtain ⟨-, q0, q1, q2, q3, q4⟩ := HN1.out.2.below hb1)
        | (have _s := st2; clear st2 _s; go_at_call 58; refine (I2.out _ (below2 hb1)).mono ?_; rintro e w2 ⟨rfl, hb2⟩; clear p0 p1 p2 p3 p4 q0 q1 q2 q3 q4; obtain ⟨-, p0, p1, p2, p3, p4⟩ := HN1.out.1.below (hb1.trans (hb2.mono hb1.size)); obtain ⟨-, q0, q1, q2, q3, q4⟩ := HN1.out.2.below (hb1.trans (hb2.mono hb1.size)))
        | (go_at_call 93; refine (HR'.out _ (below_aft (below2 hb1) hb2)).mono ?_; rintro e w3 ⟨rfl, hb3⟩))
      go_ret
      exact ⟨rfl, below_aft (below_aft (below2 hb1) hb2) hb3⟩
theorem Alike_yes (c d : Ch) (f f' : Fv) (w : World) (h : TyAt w f c.ty) (h' : TyAt w f' d.ty) (hc : Ok c) (hd : Ok d) : Calls Tryd.prog 83 #[f.v, f'.v] w fun e w' => e = .returned (.bool (alikeB c d)) ∧ Below w.heap.size w w' :=
  Alike_of c.ty d.ty f f' w h h' true true _ hc.is hd.is (fun _ _ W hW => alike_any c d f f' W hc.ok hd.ok (h.bel hW) (h'.bel hW)) (fun hn => absurd ⟨rfl, rfl⟩ hn)
theorem Alike_no (t u : Ty) (f f' : Fv) (w : World) (h : TyAt w f t) (h' : TyAt w f' u) (hn : isT t = false ∨ isT u = false) : Calls Tryd.prog 83 #[f.v, f'.v] w fun e w' => e = .returned (.bool false) ∧ Below w.heap.size w w' :=
  Alike_of t u f f' w h h' _ _ _ rfl rfl (fun h1 h2 => by rw [h1, h2] at hn; simp at hn) (fun _ => rfl)
end Go.Proofs.YtnohcppipkpgmaaDoor
