import Derived.Test.YtnohcppipkpgmaaDoorI
namespace Go.Proofs.YtnohcppipkpgmaaDoor
open Go.RowKit
set_option linter.unusedVariables false
set_option linter.unusedSimpArgs false

theorem Tryd.info3 : (Tryd.prog.info? 3).map (fun i => (i.zero, i.size, i.bytes)) = some (some (.int .i64 0), 1, 8) := by kernel_rfl
theorem below_of_grown {w w' : World} (h : w.grownBy w' none) : Below w.heap.size w w' := (Below.refl _ _).grown h (Nat.le_refl _) (by simp)
theorem own_ne {W : World} {B e s n b t : Nat} {v : Value} {xs : List Value} {c : Array Value} {fz : Nat × Nat} (h : W.ownsRow B e s v n xs) (hb : At W b (.cells c t fz)) (ht : e ≠ t) : some b ≠ v.ownBlock := by
  rcases h.2 with ⟨rfl, _⟩ | ⟨g, cap, cur, rfl, _, hg, _⟩
  · simp [Value.ownBlock]
  · intro e'
    simp [Value.ownBlock] at e'
    subst e'
    unfold At at hb
    rw [hb] at hg
    cases hg
    exact ht rfl
theorem At.grown {w w' : World} {row : Option Nat} {b : Nat} {o : Obj} (h : At w b o) (hg : w.grownBy w' row) (hne : some b ≠ row) : At w' b o := (hg.block b h.lt hne).trans h
theorem keepT_alloc (W : World) (o : Obj) : KeepT W (W.alloc o) := fun i f h => h.alloc o
theorem KeepT.trans {A B C : World} (h : KeepT A B) (k : KeepT B C) : KeepT A C := fun i f x => k i f (h i f x)
theorem keepT_set {W : World} {b t : Nat} {v : Value} (h : At W b (One v t)) (u : Value) : KeepT W (W.setCell ⟨b, 0, none⟩ u) := fun i f x => x.set (fun e => by
  subst e
  unfold At at h x
  rw [h] at x
  simp [Fv.o] at x) u
theorem keepT_grown {W W' : World} {B e s n : Nat} {v : Value} {xs : List Value} (h : W.ownsRow B e s v n xs) (hg : W.grownBy W' v.ownBlock) (he : e ≠ 32) : KeepT W W' := fun i f x => x.grown hg (own_ne h x he)
theorem own_set {W : World} {B e s n b t : Nat} {v x : Value} {xs : List Value} (h : W.ownsRow B e s v n xs) (hb : At W b (One x t)) (ht : e ≠ t) (u : Value) : (W.setCell ⟨b, 0, none⟩ u).ownsRow B e s v n xs := by
  refine ⟨h.1, ?_⟩
  rcases h.2 with hn | ⟨g, cap, cur, hv, h1, hg, rest⟩
  · exact .inl hn
  · refine .inr ⟨g, cap, cur, hv, h1, (Below.heap_setCell W ⟨b, 0, none⟩ u g (fun e' => ?_)).trans hg, rest⟩
    have := own_ne h hb ht
    rw [hv] at this
    simp only at e'
    subst e'
    exact this rfl
theorem own_is {W : World} {B e s n : Nat} {v : Value} {xs : List Value} (h : W.ownsRow B e s v n xs) (hn : 0 < n) : ∃ g cap, v = .slice (some ⟨g, 0, none⟩) n cap := by
  rcases h.2 with ⟨_, h0⟩ | ⟨g, cap, cur, rfl, _⟩
  · omega
  · exact ⟨g, cap, rfl⟩
theorem own_sl {W : World} {B e s n : Nat} {v : Value} {xs : List Value} (h : W.ownsRow B e s v n xs) : ∃ a cap, v = .slice a n cap := by
  rcases h.2 with ⟨rfl, rfl⟩ | ⟨g, cap, cur, rfl, _⟩
  · exact ⟨none, 0, rfl⟩
  · exact ⟨_, cap, rfl⟩
def iCells (l : List Int) : List Value := l.map (Value.int .i64)
/-- The regions so far. -/
def JR (w0 : World) (b : Nat) (l : List Int) (W : World) : Prop := ∃ v, At W b (One v 36) ∧ W.ownsRow w0.heap.size 3 1 v l.length (iCells l) ∧ Below w0.heap.size w0 W ∧ w0.heap.size ≤ b
/-- Whether one has no region yet. -/
def JB (w0 : World) (b : Nat) (l : List Int) (W : World) : Prop := At W b (One (.bool (l.any (fun r => decide (r < 0)))) 4) ∧ Below w0.heap.size w0 W ∧ w0.heap.size ≤ b
/-- Whether there is one. -/
def JF (w0 : World) (b : Nat) (l : List Int) (W : World) : Prop := At W b (One (.bool (!l.isEmpty)) 4) ∧ Below w0.heap.size w0 W ∧ w0.heap.size ≤ b
set_option maxRecDepth 100000 in
theorem tellF (w0 : World) (b : Nat) : Tell 101 b w0 (JF w0 b) where
  enters := fun args W => by kernel_rfl
  alloc := fun l W o ⟨h1, h3, h4⟩ => ⟨h1.alloc o, h3.alloc h3.size o, h4⟩
  bel := fun l W ⟨h1, h3, h4⟩ => h3
  call := by
    rintro l r W hl r0 r1 ⟨hA, hB, hb⟩
    have FIN : Hid (JF w0 b (l ++ [r]) (W.setCell ⟨b, 0, none⟩ (.bool true)) ∧ KeepT W (W.setCell ⟨b, 0, none⟩ (.bool true))) := ⟨⟨by rw [show (!(l ++ [r]).isEmpty) = true by cases l <;> rfl]; exact hA.setOne (.bool true), hB.setCell hb _, hb⟩, keepT_set hA _⟩
    obtain ⟨c0, f0⟩ := hA.one
    clear hA hB
    go_enter Tryd.func101, Tryd.ntmps101
    go_wp2_with fail
    go_end0
    exact ⟨rfl, FIN.out.1, FIN.out.2⟩
end Go.Proofs.YtnohcppipkpgmaaDoor
