import Derived.Test.YtahdnfogdnondaaGreatDoorS
import Derived.Test.YtahdnfogdnondaaGreatDoorPd
namespace Go.Proofs.YtahdnfogdnondaaGreatDoor
open Go.RowKit Go.Shelf
attribute [local go_sem] Oper.semAt_some
set_option linter.unusedVariables false
set_option linter.unusedSimpArgs false

theorem At.grown {w w' : World} {b : Nat} {o : Obj} {row : Option Nat} (h : At w b o) (hg : w.grownBy w' row) (hne : some b ≠ row) : At w' b o := (hg.block b h.lt hne).trans h
theorem Rw.grown {w w' : World} {g : Nat} {t : TypeId} {vs : List Value} {row : Option Nat} (h : Rw w g t vs) (hg : w.grownBy w' row) (hne : some g ≠ row) : Rw w' g t vs := At.grown h hg hne
/-- What holds between two rounds of firstStray. -/
structure FI (w : World) (a : Option Addr) (n cap bx B : Nat) (i : Nat) (W : World) : Prop where
  t : At W w.heap.size (Tro a n cap)
  r : At W (w.heap.size + 1) (One (.int .i64 0) 3)
  x : At W (w.heap.size + 1 + 1) (One (.int .i64 ((i : Int) + 1)) 3)
  b : At W bx (Tro a n cap)
  bel : Below w.heap.size w W
structure FX (w : World) (T : List Nd) (x : Nat × Nat) (W : World) : Prop where
  s : Stopped T x.1 x.2
  r : At W (w.heap.size + 1) (One (.int .i64 (x.2 : Int)) 3)
  bel : Below w.heap.size w W
theorem fi_bears (w : World) (a : Option Addr) (n cap bx B : Nat) (hB : w.heap.size + 3 ≤ B) (hbx : bx < B) : Bears B (FI w a n cap bx B) := by
  rintro i W W' row ⟨h1, h2, h3, h4, h5⟩ hg hrow
  have ne : ∀ b, b < B → some b ≠ row := fun b hb e => by have := hrow b e.symm; omega
  exact ⟨h1.grown hg (ne _ (by omega)), h2.grown hg (ne _ (by omega)), h3.grown hg (ne _ (by omega)), h4.grown hg (ne _ hbx), h5.grown hg h5.size (fun k e => by have := hrow k e; omega)⟩
theorem fx_own (w : World) (T : List Nd) (B : Nat) (hB : w.heap.size + 3 ≤ B) : OwnFrom B (FX w T) := by
  rintro x W W' row ⟨h1, h2, h3⟩ hg hrow
  have ne : ∀ b, b < B → some b ≠ row := fun b hb e => by have := (hrow b e.symm).1; omega
  exact ⟨h1, h2.grown hg (ne _ (by omega)), h3.grown hg h3.size (fun k e => by have := (hrow k e).1; omega)⟩
set_option maxRecDepth 100000 in
set_option maxHeartbeats 4000000 in
theorem firstStray_any (T : List Nd) (a : Option Addr) (cap : Nat) (w : World) (hT : TAt w a T) (hS : Sm T) (hT0 : T ≠ []) :
    Calls Tryz.prog 71 #[trV a T.length cap] w fun e w' => (∃ n : Nat, e = .returned (.int .i64 n) ∧ n ≤ T.length ∧ (n = T.length ↔ ∃ x c, T = (Fo.cons x c .nil).flat 0)) ∧ Below w.heap.size w w' := by
  have hTn := hS.n
  refine (callsIn_wide (n := 3)).1 ?_
  refine callsIn_of_wp_marks Tryz.func71 rfl trivial ?_ rfl
  simp only [Tryz.ntmps71, List.size_toArray, List.length_cons, List.length_nil, Nat.reduceAdd, Nat.reduceSub, Array.replicate_succ, Array.replicate_zero, List.push_toArray, List.append_toArray, List.nil_append, List.cons_append]
  gi_wp2_with (first
    | (refine ⟨trivial, ?_⟩; gi_at_call 94; refine (callsIn_wide.2 (meets_any _ a T.length cap)).mono ?_; rintro e w2 ⟨bx, rfl, hbx, hlbx, hb2⟩))
  have a1 : At w2 w.heap.size (Tro a T.length cap) := (((At.new w (Tro a T.length cap)).alloc _).alloc _).below hb2
  have a2 : At w2 (w.heap.size + 1) (One (.int .i64 0) 3) := ((at_snd w _ (One (.int .i64 0) 3)).alloc _).below hb2
  have a3 : At w2 (w.heap.size + 1 + 1) (One (.int .i64 (((0 : Nat) : Int) + 1)) 3) := by
    have := at_snd (w.alloc (Tro a T.length cap)) (One (.int .i64 0) 3) (One (.int .i64 1) 3)
    rw [World.size_alloc] at this
    exact this.below hb2
  have hB2 : Below w.heap.size w w2 := below_aft (belA (belA (belA (Below.refl _ _)))) hb2
  have hs2 : w.heap.size + 3 ≤ w2.heap.size := by have := hb2.size; simp at this; omega
  have hbl := hbx.lt
  have hlb : w.heap.size + 3 ≤ bx := by simp at hlbx; omega
  clear hb2 hlbx
  refine range_tells (T := T) rfl (by omega) (gf := 116) (lb := #[.pointer (some ⟨bx, 0, none⟩)]) rfl trivial (enters_of Tryz.func116 (by kernel_rfl) rfl)
    (meets1_tells 2 bx (by omega) T a cap hS hT0 w2) (Below.refl _ _) rfl
    (FI w a T.length cap bx w2.heap.size) (FX w T) (fi_bears w a _ cap bx _ hs2 hbl) (fun i W h => ⟨hT.below h.bel, h.b⟩) (fx_own w T _ hs2)
    ⟨a1, a2, a3, hbx, hB2⟩
    (fun p c => { tmps := #[trV a T.length cap, .pointer (some ⟨w.heap.size, 0, none⟩), .pointer (some ⟨w.heap.size + 1, 0, none⟩), .pointer (some ⟨w.heap.size + 1 + 1, 0, none⟩), .int .i64 (p : Int), .int .i64 c, .agg #[.slice a T.length cap], .func (.func 116) #[] #[.pointer (some ⟨bx, 0, none⟩)], .int .i64 (p : Int), .int .i64 c, undef, undef, undef, undef, undef, undef, undef, undef, undef, undef, undef, undef, undef, undef], defers := [] }) ?assign ?body ?done ?stop
  case assign =>
    intro l p c W K hK
    gi_wp2
    exact hK
  case body =>
    rintro l i p c s s' W ⟨h1, h2, h3, h4, h5⟩ hst hnx
    obtain ⟨x0, xf⟩ := h1.one
    obtain ⟨r0, rf⟩ := h2.one
    obtain ⟨y0, yf⟩ := h3.one
    have hiT := stAt_len hT0 hst
    by_cases hc : c = ((i + 1 : Nat) : Int)
    · have hcb : (c == ((i + 1 : Nat) : Int)) = true := by simpa using hc
      by_cases hlt : i + 1 < T.length
      · have hge : ¬ (T.length : Int) ≤ c := by omega
        have hged : decide ((T.length : Int) ≤ c) = false := decide_eq_false hge
        have w4 : IntKind.i64.wrap ((i : Int) + 1 + 1) = (i : Int) + 1 + 1 := by rw [IntKind.wrap_i64]; omega
        have HC : Hid (c = ((i + 1 : Nat) : Int)) := hc
        subst hc
        have hge2 : ¬ (T.length : Int) ≤ (i : Int) + 1 := by omega
        have hged2 : decide ((T.length : Int) ≤ (i : Int) + 1) = false := decide_eq_false hge2
        have hlt' : ¬ T.length ≤ i + 1 := by omega
        gi_wp2
        refine ⟨KeepsOthers.setCell _ _ _, ⟨by simp, fun k e1 e2 => Below.heap_setCell _ _ _ k (by simp; omega)⟩, ⟨h1.set (by simp; omega) _, h2.set (by simp) _, ?_, h4.set (by simp; omega) _, h5.setCell (by simp; omega) _⟩, ?_, ?_⟩
        · rw [show (((i + 1 : Nat) : Int) + 1) = (i : Int) + 1 + 1 by omega]
          exact h3.setOne _
        · first | rfl | trivial | exact HC.out | simp
        · first | exact hlt | trivial
      · have hge : (T.length : Int) ≤ c := by omega
        have hged : decide ((T.length : Int) ≤ c) = true := decide_eq_true hge
        have HST : Hid (Stopped T i p) := ⟨s, c, s', hst, hnx, fun h => hlt h.2⟩
        subst hc
        have hge2 : (T.length : Int) ≤ (i : Int) + 1 := by omega
        have hged2 : decide ((T.length : Int) ≤ (i : Int) + 1) = true := decide_eq_true hge2
        gi_wp2
        exact ⟨KeepsOthers.setCell _ _ _, HST.out, h2.setOne _, h5.setCell (by simp) _⟩
    · have hcb : (c == ((i + 1 : Nat) : Int)) = false := by simpa using hc
      have hcb2 : (c == (i : Int) + 1) = false := by simpa using (by omega : ¬ c = (i : Int) + 1)
      have HST : Hid (Stopped T i p) := ⟨s, c, s', hst, hnx, fun h => hc h.1⟩
      have hc2 : ¬ c = (i : Int) + 1 := by omega
      clear hc
      gi_wp2
      exact ⟨KeepsOthers.setCell _ _ _, HST.out, h2.setOne _, h5.setCell (by simp) _⟩
  case done =>
    rintro D i s W hD hst hnx ⟨h1, h2, h3, h4, h5⟩ hK
    obtain ⟨r0, rf⟩ := h2.one
    obtain ⟨y0, yf⟩ := h3.one
    have HE : Hid (i + 1 ≤ T.length ∧ (i + 1 = T.length ↔ ∃ x c, T = (Fo.cons x c .nil).flat 0)) := ended_whole hT0 ⟨s, hst, hnx⟩
    gi_wp2
    have hK' := (KeepsOthers.setCell W ⟨w.heap.size + 1, 0, none⟩ (.int .i64 ((i : Int) + 1))).same D _ hK rfl
    have b2 := h2.setOne (.int .i64 ((i : Int) + 1))
    have bB := h5.setCell (p := ⟨w.heap.size + 1, 0, none⟩) (by simp) (.int .i64 ((i : Int) + 1))
    refine ⟨by simp, .inl ⟨_, _, rfl, run_takeDeferred hK', ?_⟩⟩
    have hg := grownBy_putObj' (W.setCell ⟨w.heap.size + 1, 0, none⟩ (.int .i64 ((i : Int) + 1))) D (.deferred none)
    have c2 := (b2.grown hg (by simp; omega)).one.1
    refine ⟨.int .i64 ((i : Int) + 1), ?_, ⟨i + 1, by simp, HE.out.1, HE.out.2⟩, bB.grown hg bB.size (fun k e => by cases e; omega)⟩
    simp [results, Tryz.results71, go_sem, c2]
  case stop =>
    rintro D ⟨i, p⟩ W hD ⟨h1, h2, h3⟩ hK
    have HE : Hid (p < T.length ∧ ¬ ∃ x c, T = (Fo.cons x c .nil).flat 0) := stopped_whole hT0 h1
    gi_wp2
    refine ⟨by simp, .inl ⟨_, _, rfl, run_takeDeferred hK, ?_⟩⟩
    have hg := grownBy_putObj' W D (.deferred none)
    have c2 := (h2.grown hg (by simp; omega)).one.1
    refine ⟨.int .i64 (p : Int), ?_, ⟨p, rfl, Nat.le_of_lt HE.out.1, ⟨fun h => absurd h (Nat.ne_of_lt HE.out.1), fun h => absurd h HE.out.2⟩⟩, h3.grown hg h3.size (fun k e => by cases e; omega)⟩
    simp [results, Tryz.results71, go_sem, c2]
end Go.Proofs.YtahdnfogdnondaaGreatDoor
