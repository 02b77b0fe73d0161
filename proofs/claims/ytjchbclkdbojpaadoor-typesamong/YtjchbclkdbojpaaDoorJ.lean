import Derived.Test.YtjchbclkdbojpaaDoorI
namespace Go.Proofs.YtjchbclkdbojpaaDoor
open Go.RowKit
set_option linter.unusedVariables false
set_option linter.unusedSimpArgs false

theorem Tryd.info3 : (Tryd.prog.info? 3).map (fun i => (i.zero, i.size, i.bytes)) = some (some (.int .i64 0), 1, 8) := by kernel_rfl
theorem Tryd.info67 : (Tryd.prog.info? 67).map (fun i => (i.zero, i.size, i.bytes)) = some (some (.agg #[.int .i64 0, .int .i64 0]), 2, 16) := by kernel_rfl
theorem below_of_grown {w w' : World} (h : w.grownBy w' none) : Below w.heap.size w w' := (Below.refl _ _).grown h (Nat.le_refl _) (by simp)
theorem own_ne {W : World} {B e s n b t : Nat} {v : Value} {xs : List Value} {c : Array Value} {fz : Nat × Nat} (h : W.ownsRow B e s v n xs) (hb : At W b (.cells c t fz)) (ht : e ≠ t) : some b ≠ v.ownBlock := by
  rcases h.2 with ⟨rfl, _⟩ | ⟨g, cap, cur, rfl, _, hg, _⟩
  · simp [Value.ownBlock]
  · intro e'
    simp [Value.ownBlock] at e'
    subst e'
    unfold At at hb
    rw [hb] at hg
    cases hg
    exact ht rfl
theorem At.grown {w w' : World} {row : Option Nat} {b : Nat} {o : Obj} (h : At w b o) (hg : w.grownBy w' row) (hne : some b ≠ row) : At w' b o := (hg.block b h.lt hne).trans h
theorem keepT_alloc (W : World) (o : Obj) : KeepT W (W.alloc o) := fun i f h => h.alloc o
theorem KeepT.trans {A B C : World} (h : KeepT A B) (k : KeepT B C) : KeepT A C := fun i f x => k i f (h i f x)
theorem keepT_set {W : World} {b t : Nat} {v : Value} (h : At W b (One v t)) (u : Value) : KeepT W (W.setCell ⟨b, 0, none⟩ u) := fun i f x => x.set (fun e => by
  subst e
  unfold At at h x
  rw [h] at x
  simp [Fv.o] at x) u
theorem keepT_grown {W W' : World} {B e s n : Nat} {v : Value} {xs : List Value} (h : W.ownsRow B e s v n xs) (hg : W.grownBy W' v.ownBlock) (he : e ≠ 26) : KeepT W W' := fun i f x => x.grown hg (own_ne h x he)
theorem own_set {W : World} {B e s n b t : Nat} {v x : Value} {xs : List Value} (h : W.ownsRow B e s v n xs) (hb : At W b (One x t)) (ht : e ≠ t) (u : Value) : (W.setCell ⟨b, 0, none⟩ u).ownsRow B e s v n xs := by
  refine ⟨h.1, ?_⟩
  rcases h.2 with hn | ⟨g, cap, cur, hv, h1, hg, rest⟩
  · exact .inl hn
  · refine .inr ⟨g, cap, cur, hv, h1, (Below.heap_setCell W ⟨b, 0, none⟩ u g (fun e' => ?_)).trans hg, rest⟩
    have := own_ne h hb ht
    rw [hv] at this
    simp only at e'
    subst e'
    exact this rfl
theorem own_is {W : World} {B e s n : Nat} {v : Value} {xs : List Value} (h : W.ownsRow B e s v n xs) (hn : 0 < n) : ∃ g cap, v = .slice (some ⟨g, 0, none⟩) n cap := by
  rcases h.2 with ⟨_, h0⟩ | ⟨g, cap, cur, rfl, _⟩
  · omega
  · exact ⟨g, cap, rfl⟩
theorem own_sl {W : World} {B e s n : Nat} {v : Value} {xs : List Value} (h : W.ownsRow B e s v n xs) : ∃ a cap, v = .slice a n cap := by
  rcases h.2 with ⟨rfl, rfl⟩ | ⟨g, cap, cur, rfl, _⟩
  · exact ⟨none, 0, rfl⟩
  · exact ⟨_, cap, rfl⟩
def iCells (l : List Int) : List Value := l.map (Value.int .i64)
/-- The regions so far. -/
def JR (w0 : World) (b : Nat) (l : List Int) (W : World) : Prop := ∃ v, At W b (One v 49) ∧ W.ownsRow w0.heap.size 3 1 v l.length (iCells l) ∧ Below w0.heap.size w0 W ∧ w0.heap.size ≤ b
set_option maxRecDepth 100000 in
set_option maxHeartbeats 1000000 in
theorem tellR (w0 : World) (b : Nat) : Tell 66 b w0 (JR w0 b) where
  enters := fun args W => by kernel_rfl
  alloc := fun l W o ⟨v, h1, h2, h3, h4⟩ => ⟨v, h1.alloc o, h2.alloc o, h3.alloc h3.size o, h4⟩
  bel := fun l W ⟨v, h1, h2, h3, h4⟩ => h3
  call := by
    rintro l r W hl r0 r1 ⟨v, hA, hown, hB, hb⟩
    obtain ⟨c0, f0⟩ := hA.one
    obtain ⟨i0, hi, hz0, hz1, hz2⟩ := info_parts Tryd.info3
    have hlt := hA.lt
    have news : ∀ j u, ([Value.int .i64 r] : List Value)[j]? = some u → (W.alloc (.cells #[.int .i64 r] 3)).cell? ((⟨W.heap.size, 0, none⟩ : Addr).add j) = some u := fun j u hu => by
      cases j with
      | zero => simp at hu; subst hu; simp [Addr.add, cell_of_one (At.new W (One (.int .i64 r) 3))]
      | succ j => simp at hu
    have ones : ∀ u ∈ ([Value.int .i64 r] : List Value), u.oneCell' = true := fun u hu => by simp at hu; subst hu; rfl
    have FIN : Hid (∀ v' w2, w2.ownsRow w0.heap.size 3 1 v' (l.length + 1) (iCells l ++ [.int .i64 r]) → (W.alloc (.cells #[.int .i64 r] 3)).grownBy w2 v.ownBlock → At w2 b (One v 49) ∧ (JR w0 b (l ++ [r]) (w2.setCell ⟨b, 0, none⟩ v') ∧ KeepT W (w2.setCell ⟨b, 0, none⟩ v'))) := fun v' w2 h1 h2 => by
      have hA2 : At w2 b (One v 49) := (hA.alloc _).grown h2 (own_ne hown hA (by decide))
      refine ⟨hA2, ⟨v', hA2.setOne v', ?_, (((hB.alloc hB.size _).grown h2 (by simp only [World.size_alloc]; have := hB.size; omega) (fun k hk => (hown.lt k hk).1)).setCell hb v'), hb⟩, ?_⟩
      · have := own_set h1 hA2 (by decide) v'
        simpa [iCells] using this
      · exact ((keepT_alloc W _).trans (keepT_grown (hown.alloc _) h2 (by decide))).trans (keepT_set hA2 v')
    have HO : Hid (W.ownsRow w0.heap.size 3 1 v l.length (iCells l)) := hown
    have hbase : w0.heap.size ≤ (W.alloc (.cells #[.int .i64 r] 3)).heap.size := by simp only [World.size_alloc]; have := hB.size; omega
    clear hown hA hB
    go_enter Tryd.func66, Tryd.ntmps66
    go_wp2_with (at_builtin; refine wpList_append_own _ rfl _ _ 49 rfl w0.heap.size 3 i0 (.int .i64 0) 1 8 Tryd.underlying49 hi hz0 hz1 hz2 rfl (by decide) _ l.length _ rfl (HO.out.alloc _) ⟨W.heap.size, 0, none⟩ 1 1 [.int .i64 r] rfl rfl news ones (by unfold maxLen; omega) (by omega) hbase ?_; intro v' w2 ho hg hn; obtain ⟨gg, cc, hvv⟩ := own_is ho (by omega); subst hvv; obtain ⟨hA2, hf⟩ := FIN.out _ w2 ho hg; obtain ⟨c2, f2⟩ := hA2.one)
    go_end0
    exact ⟨rfl, hf.1, hf.2⟩
/-- Whether one has no region yet. -/
def JB (w0 : World) (b : Nat) (l : List Int) (W : World) : Prop := At W b (One (.bool (l.any (fun r => decide (r < 0)))) 4) ∧ Below w0.heap.size w0 W ∧ w0.heap.size ≤ b
set_option maxRecDepth 100000 in
set_option maxHeartbeats 1000000 in
theorem tellB (w0 : World) (b : Nat) : Tell 85 b w0 (JB w0 b) where
  enters := fun args W => by kernel_rfl
  alloc := fun l W o ⟨h1, h3, h4⟩ => ⟨h1.alloc o, h3.alloc h3.size o, h4⟩
  bel := fun l W ⟨h1, h3, h4⟩ => h3
  call := by
    rintro l r W hl r0 r1 ⟨hA, hB, hb⟩
    have FIN : Hid (∀ x : Bool, x = (l ++ [r]).any (fun r => decide (r < 0)) → JB w0 b (l ++ [r]) (W.setCell ⟨b, 0, none⟩ (.bool x)) ∧ KeepT W (W.setCell ⟨b, 0, none⟩ (.bool x))) := fun x hx => by
      subst hx
      exact ⟨⟨hA.setOne _, hB.setCell hb _, hb⟩, keepT_set hA _⟩
    obtain ⟨c0, f0⟩ := hA.one
    obtain ⟨y, hy⟩ : ∃ y, y = l.any (fun r => decide (r < 0)) := ⟨_, rfl⟩
    rw [← hy] at c0
    have HY : Hid (y = l.any (fun r => decide (r < 0))) := hy
    clear hA hB hy
    cases y with
    | true =>
      go_enter Tryd.func85, Tryd.ntmps85
      go_wp2_with fail
      go_end0
      have := FIN.out true (by rw [List.any_append, ← HY.out]; rfl)
      exact ⟨rfl, this.1, this.2⟩
    | false =>
      go_enter Tryd.func85, Tryd.ntmps85
      go_wp2_with fail
      go_end0
      have := FIN.out (decide (r < 0)) (by rw [List.any_append, ← HY.out]; simp)
      exact ⟨rfl, this.1, this.2⟩
/-- Whether there is one. -/
def JF (w0 : World) (b : Nat) (l : List Int) (W : World) : Prop := At W b (One (.bool (!l.isEmpty)) 4) ∧ Below w0.heap.size w0 W ∧ w0.heap.size ≤ b
set_option maxRecDepth 100000 in
theorem tellF (w0 : World) (b : Nat) : Tell 98 b w0 (JF w0 b) where
  enters := fun args W => by kernel_rfl
  alloc := fun l W o ⟨h1, h3, h4⟩ => ⟨h1.alloc o, h3.alloc h3.size o, h4⟩
  bel := fun l W ⟨h1, h3, h4⟩ => h3
  call := by
    rintro l r W hl r0 r1 ⟨hA, hB, hb⟩
    have FIN : Hid (JF w0 b (l ++ [r]) (W.setCell ⟨b, 0, none⟩ (.bool true)) ∧ KeepT W (W.setCell ⟨b, 0, none⟩ (.bool true))) := ⟨⟨by rw [show (!(l ++ [r]).isEmpty) = true by cases l <;> rfl]; exact hA.setOne (.bool true), hB.setCell hb _, hb⟩, keepT_set hA _⟩
    obtain ⟨c0, f0⟩ := hA.one
    clear hA hB
    go_enter Tryd.func98, Tryd.ntmps98
    go_wp2_with fail
    go_end0
    exact ⟨rfl, FIN.out.1, FIN.out.2⟩
end Go.Proofs.YtjchbclkdbojpaaDoor
