import Derived.Test.YtjchbclkdbojpaaDoorAb
import Derived.Deep.LoopGhost
import Derived.Laws.AppendOwnNone
namespace Go.Proofs.YtjchbclkdbojpaaDoor
open Go.RowKit Go.Shelf
set_option linter.unusedVariables false
set_option linter.unusedSimpArgs false

/-- The reference's list of regions, in the midst. -/
def RM (w : World) (c0 : Ch) (k : Nat) (v : Value) (W : World) : Prop := ∃ (c : Ch) (f : Fv) (l : List Int), k = c.depth ∧ W.ownsRow w.heap.size 3 1 v l.length (iCells l) ∧ l ++ c.regs = c0.regs ∧ At W w.heap.size f.o ∧ TyAt w f c.ty ∧ c.ok 32 ∧ Below w.heap.size w W
theorem own_S5 {W : World} {B n b : Nat} {v : Value} {xs : List Value} {f g : Fv} (h : W.ownsRow B 3 1 v n xs) (hA : At W b f.o) : (S5 W b g).ownsRow B 3 1 v n xs := by
  refine ⟨h.1, ?_⟩
  rcases h.2 with hn | ⟨gg, cap, cur, hv, h1, hg, rest⟩
  · exact .inl hn
  · refine .inr ⟨gg, cap, cur, hv, h1, At.S5 hg (fun e => ?_) g, rest⟩
    subst e
    unfold At at hA
    rw [hA] at hg
    simp [Fv.o] at hg
set_option maxRecDepth 100000 in
set_option maxHeartbeats 4000000 in
theorem rRegions_yes (c : Ch) (f : Fv) (w : World) (hc : Ok c) (h : TyAt w f c.ty) : Calls Tryd.prog 33 #[f.v] w fun e w' => (∃ v, e = .returned v ∧ w'.ownsRow w.heap.size 3 1 v c.regs.length (iCells c.regs)) ∧ Below w.heap.size w w' := by
  have CS : Hid (Calls Tryd.prog 27 #[f.v] (w.alloc f.o) fun e w' => e = .returned (.bool true) ∧ Below (w.alloc f.o).heap.size (w.alloc f.o) w') := by
    have := is_any c.ty f (w.alloc f.o) (h.bel (belA (Below.refl _ _)))
    rw [hc.is] at this
    exact this
  have A0 : At (w.alloc f.o) w.heap.size f.o := At.new _ _
  have H0 : Hid (TyAt w f c.ty) := h
  have HC : Hid (Ok c) := hc
  have hlen : c.regs.length ≤ 48 := by have := regs_le c; have := hc.deep; omega
  have HL : Hid (c.regs.length ≤ 48) := hlen
  obtain ⟨i0, hi, hz0, hz1, hz2⟩ := info_parts Tryd.info3
  obtain ⟨k, m, r, s, a, n, cap⟩ := f
  show Calls Tryd.prog 33 #[tyV k m r s a n cap] w _
  clear h hc hlen
  go_enter Tryd.func33, Tryd.ntmps33
  go_wp2_with (go_at_call 27; refine CS.out.mono ?_; rintro e w1 ⟨rfl, hb1⟩)
  go_loopg [3] c.depth (fun k v W => RM w c k v W)
  case atStart => exact ⟨c, _, [], rfl, World.ownsRow_nil _ _ _ _, rfl, A0.below hb1, H0.out, HC.out.ok, below1 hb1⟩
  case round =>
    obtain ⟨c', f', l, hk, hown, hl, hA, hT, hok, hB⟩ := hrel
    clear A0 hb1 CS H0
    obtain ⟨av, cv, hvv⟩ := own_sl hown
    subst hvv
    cases c' with
    | leaf k' s' =>
      obtain ⟨a', cap', rfl, -⟩ := hT.leaf
      have hkk : ¬ (k' : Int) = 3 ∧ ¬ (k' : Int) = 4 := by
        have : (k' = 1 ∨ k' = 2) ∧ s' = 0 ∨ k' = 5 ∧ 0 ≤ s' ∧ s' < 32 := hok
        omega
      obtain ⟨k3, k4⟩ := hkk
      have k3b : ((k' : Int) == 3) = false := by simpa using k3
      have el : l = c.regs := by rw [← hl]; simp [Ch.regs]
      subst el
      obtain ⟨hlt, p0, p1, p2, p3, p4⟩ := hA.ty
      have HO : Hid (wr.ownsRow w.heap.size 3 1 (.slice av c.regs.length cv) c.regs.length (iCells c.regs)) := hown
      have HB : Hid (Below w.heap.size w wr) := hB
      clear hown hT hA hok hk hl hB
      go_wp2_with fail
      go_ret
      exact ⟨⟨_, rfl, HO.out⟩, HB.out⟩
    | box d =>
      obtain ⟨g, off, cap', f2, rfl, hc5, ht2⟩ := hT.box
      obtain ⟨hg, q0, q1, q2, q3, q4⟩ := hc5.below hB
      obtain ⟨hlt, p0, p1, p2, p3, p4⟩ := hA.ty
      have g0 := hA.tyF 0
      have g1 := hA.tyF 1
      have g2 := hA.tyF 2
      have g3 := hA.tyF 3
      have g4 := hA.tyF 4
      have FIN : Hid (RM w c d.depth (.slice av l.length cv) (S5 wr w.heap.size f2)) := ⟨d, f2, l, rfl, own_S5 hown hA, hl, hA.set5 f2, ht2, hok, below_S5 hB (Nat.le_refl _) f2⟩
      have HK : Hid (gk = (Ch.box d).depth) := hk
      clear hown hT hok hk hl hB hA hc5 ht2
      go_wp2_with fail
      go_roundg d.depth
      case measure => rw [HK.out]; simp [Ch.depth]
      case rel => exact FIN.out
    | ref m' r' d =>
      obtain ⟨g, off, cap', f2, rfl, hc5, ht2, r0, r1⟩ := hT.ref
      have HC5 : Hid (∀ W, Below w.heap.size w W → C5 W g off f2) := fun W hW => hc5.below hW
      obtain ⟨hlt, p0, p1, p2, p3, p4⟩ := hA.ty
      have hll : l.length ≤ 48 := by have := HL.out; rw [← hl, List.length_append] at this; omega
      have news : ∀ j u, ([Value.int .i64 r'] : List Value)[j]? = some u → (wr.alloc (.cells #[.int .i64 r'] 3)).cell? ((⟨wr.heap.size, 0, none⟩ : Addr).add j) = some u := fun j u hu => by
        cases j with
        | zero => simp at hu; subst hu; simp [Addr.add, cell_of_one (At.new wr (One (.int .i64 r') 3))]
        | succ j => simp at hu
      have ones : ∀ u ∈ ([Value.int .i64 r'] : List Value), u.oneCell' = true := fun u hu => by simp at hu; subst hu; rfl
      have hbase : w.heap.size ≤ (wr.alloc (.cells #[.int .i64 r'] 3)).heap.size := by simp only [World.size_alloc]; have := hB.size; omega
      have FIN : Hid (∀ v' w2, w2.ownsRow w.heap.size 3 1 v' (l.length + 1) (iCells l ++ [.int .i64 r']) → (wr.alloc (.cells #[.int .i64 r'] 3)).grownBy w2 (Value.slice av l.length cv).ownBlock → At w2 w.heap.size (Fv.o ⟨4, m', r', 0, some ⟨g, off, none⟩, 1, cap'⟩) ∧ Below w.heap.size w w2 ∧ RM w c d.depth v' (S5 w2 w.heap.size f2)) := fun v' w2 h1 h2 => by
        have hA2 : At w2 w.heap.size (Fv.o ⟨4, m', r', 0, some ⟨g, off, none⟩, 1, cap'⟩) := (hA.alloc _).grown h2 (own_ne hown hA (by decide))
        have hB2 : Below w.heap.size w w2 := (hB.alloc hB.size _).grown h2 (by simp only [World.size_alloc]; have := hB.size; omega) (fun k hk => (hown.lt k hk).1)
        refine ⟨hA2, hB2, d, f2, l ++ [r'], rfl, own_S5 (by simpa [iCells] using h1) hA2, by rw [← hl]; simp [Ch.regs], hA2.set5 f2, ht2, hok.2, below_S5 hB2 (Nat.le_refl _) f2⟩
      have HK : Hid (gk = (Ch.ref m' r' d).depth) := hk
      have HO : Hid (wr.ownsRow w.heap.size 3 1 (.slice av l.length cv) l.length (iCells l)) := hown
      clear hown hT hok hk hl hB hA hc5 ht2
      go_wp2_with (at_builtin; refine wpList_append_own _ rfl _ _ 49 rfl w.heap.size 3 i0 (.int .i64 0) 1 8 Tryd.underlying49 hi hz0 hz1 hz2 rfl (by decide) _ l.length _ rfl (HO.out.alloc _) ⟨wr.heap.size, 0, none⟩ 1 1 [.int .i64 r'] rfl rfl news ones (by unfold maxLen; omega) (by omega) hbase ?_; intro v' w2 ho hg hn; obtain ⟨gg, cc, hvv⟩ := own_is ho (by omega); subst hvv; obtain ⟨hA2, hB2, hf⟩ := FIN.out _ w2 ho hg; have HF := (show Hid _ from hf); obtain ⟨hlt2, d0, d1, d2, d3, d4⟩ := hA2.ty; have g0 := hA2.tyF 0; have g1 := hA2.tyF 1; have g2 := hA2.tyF 2; have g3 := hA2.tyF 3; have g4 := hA2.tyF 4; obtain ⟨hg, q0, q1, q2, q3, q4⟩ := HC5.out w2 hB2; clear ho hn hf hA2 hB2)
      go_roundg d.depth
      case measure => rw [HK.out]; simp [Ch.depth]
      case rel => exact HF.out
set_option maxRecDepth 100000 in
set_option maxHeartbeats 1000000 in
theorem rRegions_no (t : Ty) (f : Fv) (w : World) (h : TyAt w f t) (hn : isT t = false) : Calls Tryd.prog 33 #[f.v] w fun e w' => e = .returned (.slice none 0 0) ∧ Below w.heap.size w w' := by
  have CS : Hid (Calls Tryd.prog 27 #[f.v] (w.alloc f.o) fun e w' => e = .returned (.bool false) ∧ Below (w.alloc f.o).heap.size (w.alloc f.o) w') := by
    have := is_any t f (w.alloc f.o) (h.bel (belA (Below.refl _ _)))
    rw [hn] at this
    exact this
  obtain ⟨k, m, r, s, a, n, cap⟩ := f
  show Calls Tryd.prog 33 #[tyV k m r s a n cap] w _
  clear h hn
  go_enter Tryd.func33, Tryd.ntmps33
  go_wp2_with (go_at_call 27; refine CS.out.mono ?_; rintro e w1 ⟨rfl, hb1⟩)
  go_ret
  exact ⟨rfl, below1 hb1⟩
end Go.Proofs.YtjchbclkdbojpaaDoor
