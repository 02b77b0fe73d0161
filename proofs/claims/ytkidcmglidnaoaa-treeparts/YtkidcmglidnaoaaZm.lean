import Derived.Test.YtkidcmglidnaoaaZl
namespace Go.Proofs.Ytkidcmglidnaoaa
open Go.RowKit
set_option linter.unusedVariables false
set_option linter.unusedSimpArgs false

theorem Keep.at {hi : Nat} {W W' : World} (h : Keep hi W W') {b : Nat} {o : Obj} (hA : At W b o) (hb : b < hi) : At W' b o := (h.same b hb).trans hA
/-- What holds between two rounds over the root's children. -/
structure PL (w : World) (a : Option Addr) (m0 cap : Nat) (Fs : List (Nx × Fo)) (k : Nat) (v : Value) (xs : List Value) (W : World) : Prop where
  row : W.ownsRow (w.heap.size + 1) 24 1 v k xs
  tl : TL W (w.heap.size + 1) xs (Fs.take k)
  box : At W w.heap.size (Tro a m0 cap)
  bel : Below w.heap.size w W
theorem owns_keep24 {W W' : World} {lo hi n : Nat} {v : Value} {xs : List Value} (h : W.ownsRow lo 24 1 v n xs) (hb : ∀ b, v.ownBlock = some b → b < hi) (k : Keep hi W W') : W'.ownsRow lo 24 1 v n xs := by
  refine ⟨h.1, ?_⟩
  rcases h.2 with hn | ⟨g, cap, cur, rfl, h1, hg, rest⟩
  · exact .inl hn
  · exact .inr ⟨g, cap, cur, rfl, h1, (k.same g (hb g rfl)).trans hg, rest⟩
theorem own24_in {W : World} {lo k : Nat} {v : Value} {xs : List Value} (h : W.ownsRow lo 24 1 v k xs) : ∀ b, v.ownBlock = some b → lo ≤ b ∧ b < W.heap.size := by
  intro b e
  rcases h.2 with ⟨rfl, _⟩ | ⟨g, cap, cur, rfl, h1, hg, _⟩
  · simp [Value.ownBlock] at e
  · simp [Value.ownBlock] at e
    subst e
    exact ⟨h1, (Array.getElem?_eq_some_iff.1 hg).1⟩
theorem TL.keep {W W' : World} {lo : Nat} {xs : List Value} {Fs : List (Nx × Fo)} (h : TL W lo xs Fs) (k : Keep W.heap.size W W') : TL W' lo xs Fs :=
  ⟨h.1, fun j f hf => by
    obtain ⟨g, cur, h1, h2⟩ := h.2 j f hf
    exact ⟨g, cur, h1, (h2.keep k).grow k.size⟩⟩
/-- Behind the child's Sub, whichever of the two ways its box came to be. -/
structure R7 (w wr : World) (lo : Nat) (f : Nx × Fo) (m g3 b7 : Nat) (W : World) : Prop where
  box : At W b7 (Tro (some ⟨g3, 0, none⟩) m m)
  oc : ∃ cur, OC W lo W.heap.size g3 m (tr f) m cur
  bel : Below w.heap.size w W
  keep : Keep wr.heap.size wr W
theorem R7.call {w wr w3 : World} {lo : Nat} {f : Nx × Fo} {m g3 : Nat} {cur3 : Array Value} (hw : lo ≤ wr.heap.size) (B3 : Below w.heap.size w w3) (K3 : Keep wr.heap.size wr w3) (O3 : OC w3 wr.drew.heap.size w3.heap.size g3 m (tr f) m cur3) :
    R7 w wr lo f m g3 w3.heap.size (w3.alloc (Tro (some ⟨g3, 0, none⟩) m m)) :=
  ⟨At.new _ _, ⟨cur3, (O3.low (by show lo ≤ wr.heap.size; omega)).keep (Keep.alloc _ _ (Nat.le_refl _)) |>.grow (by simp)⟩, belA B3, K3.trans (Keep.alloc _ _ K3.size)⟩
theorem R7.first {w wr w3 : World} {lo : Nat} {f : Nx × Fo} {m g3 : Nat} {cur3 : Array Value} (hw : lo ≤ wr.heap.size) (hww : w.heap.size ≤ wr.heap.size) (B3 : Below w.heap.size w w3) (K3 : Keep wr.heap.size wr w3) (hb3 : Below (wr.drew.alloc (Tro none 0 0)).heap.size (wr.drew.alloc (Tro none 0 0)) w3) (O3 : OC w3 (wr.drew.alloc (Tro none 0 0)).heap.size w3.heap.size g3 m (tr f) m cur3) :
    At w3 wr.heap.size (Tro none 0 0) ∧ R7 w wr lo f m g3 wr.heap.size (w3.setCell ⟨wr.heap.size, 0, none⟩ (.slice (some ⟨g3, 0, none⟩) m m)) := by
  have A : At w3 wr.heap.size (Tro none 0 0) := (At.new wr.drew (Tro none 0 0)).below hb3
  refine ⟨A, A.setOne _, ⟨cur3, ?_⟩, B3.setCell (by show w.heap.size ≤ wr.heap.size; omega) _, K3.trans ⟨by simp, fun b hb => Below.heap_setCell _ _ _ _ (by show b ≠ wr.heap.size; omega)⟩⟩
  rw [World.size_setCell]
  have hs0 : wr.drew.heap.size = wr.heap.size := rfl
  have hs : (wr.drew.alloc (Tro none 0 0)).heap.size = wr.drew.heap.size + 1 := by simp
  refine (O3.range (fun b h1 h2 => Below.heap_setCell _ _ _ _ (by show b ≠ wr.heap.size; omega))).low (by omega)
theorem news24 (W : World) (v : Value) : ∀ j u, [v][j]? = some u → (W.alloc (.cells #[v] 24)).cell? (Addr.add ⟨W.heap.size, 0, none⟩ j) = some u := by
  intro j u hu
  match j, hu with
  | 0, hu =>
    simp at hu
    rw [← hu]
    exact (At.new W (One v 24)).one.1
  | j + 1, hu => simp at hu
theorem ones24 (a : Option Addr) (n c : Nat) : ∀ u ∈ [Value.slice a n c], u.oneCell' = true := by
  intro u hu
  simp at hu
  rw [hu]; rfl
/-- A round on. -/
theorem PL.next {w wr W4 w5 w6 : World} {a : Option Addr} {m0 cap k m g3 b7 : Nat} {Fs : List (Nx × Fo)} {v v' : Value} {xs : List Value} {f : Nx × Fo} {o : Obj} (h : PL w a m0 cap Fs k v xs wr) (hf : Fs[k]? = some f) (hm : m = 1 + f.2.size) (r : R7 w wr (w.heap.size + 1) f m g3 b7 W4) (hb5 : Below W4.heap.size W4 w5) (hg : (w5.alloc o).grownBy w6 v.ownBlock) (ho : w6.ownsRow (w.heap.size + 1) 24 1 v' (k + 1) (xs ++ [.slice (some ⟨g3, 0, none⟩) m m])) :
    PL w a m0 cap Fs (k + 1) v' (xs ++ [.slice (some ⟨g3, 0, none⟩) m m]) w6 := by
  have hin := own24_in h.row
  have own4 := owns_keep24 h.row (fun b e => (hin b e).2) r.keep
  have own5 := owns_keep24 own4 (fun b e => (own24_in own4 b e).2) (Keep.below hb5 (Nat.le_refl _))
  have own6 := owns_keep24 own5 (fun b e => (own24_in own5 b e).2) (Keep.alloc _ o (Nat.le_refl _))
  have hrow := own24 own6
  have t6 := (((h.tl.keep r.keep).below hb5).below (belA (Below.refl _ _) : Below w5.heap.size w5 (w5.alloc o))).other hg hrow
  obtain ⟨cur, O⟩ := r.oc
  have O5 := (O.keep (Keep.below hb5 (Nat.le_refl _))).grow hb5.size
  have O6 := ((O5.keep (Keep.alloc _ o (Nat.le_refl _))).grow (hi' := (w5.alloc o).heap.size) (by simp)).other hg hrow |>.grow hg.size
  subst hm
  have hsn := t6.snoc O6
  refine ⟨ho, ?_, ?_, ?_⟩
  · rw [List.take_add_one, hf]
    exact hsn
  · refine ((((r.keep.at h.box h.box.lt).below hb5).alloc o).grown hg (fun e => ?_))
    have := (hin _ e.symm).1
    omega
  · have hs := (below_aft r.bel hb5).size
    exact (belA (below_aft r.bel hb5)).grown hg (by simp; omega) (fun b e => by have := (hin b e).1; omega)
set_option maxRecDepth 100000 in
set_option maxHeartbeats 4000000 in
theorem parts_big (T : List Nd) (m0 : Nat) (hm0 : T.length = m0) (n : Int) (a : Option Addr) (cap : Nat) (w : World) (hT : TAt w a T) (hL : Lg T) (hF : ¬ Fit T) :
    Calls Try.prog 7 #[trV a m0 cap, .int .i64 n] w fun e w' => e = .returned (.bool true) ∧ Below w.heap.size w w' := by
  have hB1 : Below w.heap.size w (w.alloc (Tro a m0 cap)) := belA (Below.refl _ _)
  have HFIT : Hid (∀ W, Below w.heap.size w W → Calls Try.prog 9 #[trV a m0 cap] W fun e w' => e = .returned (.bool false) ∧ Below W.heap.size W w') := fun W hW => fits_any T m0 hm0 false ⟨fun h => (by cases h), fun h => absurd h hF⟩ a cap W (hT.below hW) hL
  clear hm0 hT hL hF
  go_enter Try.func7, Try.ntmps7
  go_wp2_with (first
    | (go_at_call 9; refine (HFIT.out _ hB1).mono ?_; rintro e w1 ⟨rfl, hb1⟩)
    | (go_at_call 10; refine (awake_true _).mono ?_; rintro e w2 ⟨rfl, hb2⟩))
  go_ret
  exact ⟨rfl, below_aft (below_aft hB1 hb1) hb2⟩
set_option maxRecDepth 100000 in
set_option maxHeartbeats 4000000 in
theorem parts_none (T : List Nd) (m0 : Nat) (hm0 : T.length = m0) (n : Int) (a : Option Addr) (cap : Nat) (w : World) (hT : TAt w a T) (hL : Lg T) (hF : Fit T) (hM : ¬ Mayb okP T) :
    Calls Try.prog 7 #[trV a m0 cap, .int .i64 n] w fun e w' => e = .returned (.bool true) ∧ Below w.heap.size w w' := by
  have A1 := At.new w (Tro a m0 cap)
  have hB1 : Below w.heap.size w (w.alloc (Tro a m0 cap)) := belA (Below.refl _ _)
  have HFIT : Hid (∀ W, Below w.heap.size w W → Calls Try.prog 9 #[trV a m0 cap] W fun e w' => e = .returned (.bool true) ∧ Below W.heap.size W w') := fun W hW => fits_any T m0 hm0 true ⟨fun _ => hF, fun _ => rfl⟩ a cap W (hT.below hW) hL
  have HM : Hid (∀ W, Below w.heap.size w W → Calls Try.prog 14 #[trV a m0 cap] W fun e w' => e = .returned (.bool false) ∧ Below W.heap.size W w') := fun W hW => by
    have := may_no (cap := cap) (hT.below hW) (hL.sm hF.1 hF.l) hM
    rw [hm0] at this
    exact this
  clear hm0 hT hL hF hM
  go_enter Try.func7, Try.ntmps7
  go_wp2_with (first
    | (go_at_call 9; refine (HFIT.out _ hB1).mono ?_; rintro e w1 ⟨rfl, hb1⟩; have B1 := below_aft hB1 hb1; obtain ⟨x0, xf⟩ := (A1.below hb1).one)
    | (go_at_call 14; refine (HM.out _ B1).mono ?_; rintro e w2 ⟨rfl, hb2⟩)
    | (go_at_call 10; refine (awake_true _).mono ?_; rintro e w3 ⟨rfl, hb3⟩))
  go_ret
  exact ⟨rfl, below_aft (below_aft B1 hb2) hb3⟩
set_option maxRecDepth 100000 in
set_option maxHeartbeats 16000000 in
theorem parts_yes (T : List Nd) (m0 : Nat) (hm0 : T.length = m0) (n : Int) (hn0 : -9223372036854775808 ≤ n) (hn1 : n ≤ 9223372036854775807) (a : Option Addr) (cap : Nat) (w : World) (hT : TAt w a T) (hL : Lg T) (hF : Fit T) (hM : Mayb okP T) (hcap : m0 ≤ cap) :
    Calls Try.prog 7 #[trV a m0 cap, .int .i64 n] w fun e w' => e = .returned (.bool true) ∧ Below w.heap.size w w' := by
    obtain ⟨i24, hi24, hz0, hz1, hz2⟩ := info_parts Try.info24
    have A1 := At.new w (Tro a m0 cap)
    have hB1 : Below w.heap.size w (w.alloc (Tro a m0 cap)) := belA (Below.refl _ _)
    have HFIT : Hid (∀ W, Below w.heap.size w W → Calls Try.prog 9 #[trV a m0 cap] W fun e w' => e = .returned (.bool true) ∧ Below W.heap.size W w') := fun W hW => fits_any T m0 hm0 true ⟨fun _ => hF, fun _ => rfl⟩ a cap W (hT.below hW) hL
    have HN : Hid (T.length = m0) := hm0
    have hS := hL.sm hF.1 hF.l
    have HT : Hid (TAt w a T) := hT
    obtain ⟨x, c, k1, k2, k3, k4⟩ := hM
    have TW : Tw T m0 x c := ⟨k1, HN.out, by rw [← HN.out, k1, Fo.len_flat]; simp [Fo.size], by rw [← HN.out]; exact k4, k2, k3, hS⟩
    clear hm0 hT hL hF
    obtain ⟨gt, ot, rfl, hrow⟩ := HT.out TW.ne
    obtain ⟨q0, q1, q2, q3, q4, al, capl, q5, q6⟩ := hrow 0 ⟨x, c.starts 1⟩ (by rw [k1]; rfl)
    simp only [Nat.zero_mul, Nat.add_zero] at q1 q2 q3 q4 q5
    obtain ⟨nF, hnF⟩ : ∃ nF, nF = (c.starts 1).length := ⟨_, rfl⟩
    replace q5 : w.cell? ⟨gt, ot + 4, none⟩ = some (.slice al nF capl) := by rw [hnF]; exact q5
    have hrl : (roots c).length = nF := by rw [roots_len, hnF, Fo.len_starts]
    have hnFs : nF ≤ 20000 := by have e1 := Fo.kinds_le c; have e2 := TW.le; have e3 := TW.l; rw [hnF, Fo.len_starts]; omega
    have HQ6 : Hid (IRow w al (c.starts 1)) := q6
    have HTW : Hid (Tw T m0 x c) := TW
    have HNF : Hid ((roots c).length = nF ∧ nF = (c.starts 1).length) := ⟨hrl, hnF⟩
    have HQS : Hid (w.cell? ⟨gt, ot, none⟩ = some (.int .u8 (x.k : Int)) ∧ w.cell? ⟨gt, ot + 1, none⟩ = some (.int .i64 x.p) ∧ w.cell? ⟨gt, ot + 2, none⟩ = some (.int .i64 x.n) ∧ w.cell? ⟨gt, ot + 3, none⟩ = some (.string (str x.s)) ∧ w.cell? ⟨gt, ot + 4, none⟩ = some (.slice al nF capl)) := ⟨q1, q2, q3, q4, q5⟩
    have HQ5 : Hid (w.cell? ⟨gt, ot + 4, none⟩ = some (.slice al nF capl)) := q5
    have hm1 : 1 ≤ m0 := by have := TW.l; omega
    have hmle := TW.le
    have HM : Hid (∀ W, Below w.heap.size w W → Calls Try.prog 14 #[trV (some ⟨gt, ot, none⟩) m0 cap] W fun e w' => e = .returned (.bool true) ∧ Below W.heap.size W w') := fun W hW => TW.mayC _ cap W (HT.out.below hW)
    have hzm : (0 : Int) < (m0 : Int) := by omega
    have hzn : 0 < m0 := by omega
    clear hS k1 k2 k3 k4 TW hrow q1 q2 q3 q4 q5 q6 hnF hrl
    go_enter Try.func7, Try.ntmps7
    go_wp2_with (first
      | (go_at_call 9; refine (HFIT.out _ hB1).mono ?_; rintro e w1 ⟨rfl, hb1⟩; have B1 := below_aft hB1 hb1; obtain ⟨x0, xf⟩ := (A1.below hb1).one)
      | (go_at_call 14; refine (HM.out _ B1).mono ?_; rintro e w2 ⟨rfl, hb2⟩))
    have A2 := (A1.below hb1).below hb2
    have B2 := below_aft B1 hb2
    clear A1 B1 hb1 hb2 HM HFIT hB1 x0 xf
    have P0 : PL w (some ⟨gt, ot, none⟩) m0 cap (roots c) 0 (.slice none 0 0) [] w2 := ⟨World.ownsRow_nil _ _ _ _, ⟨rfl, fun j f h => by simp at h⟩, A2, B2⟩
    clear A2 B2
    go_loopw [5, 6] (fun l i W => ∃ (k : Nat) (xs : List Value) (v5 : Value), k ≤ nF ∧ i = .int .i64 k ∧ v5 = l ∧ PL w (some ⟨gt, ot, none⟩) m0 cap (roots c) k v5 xs W) (fun _ i _ => nF - (intOf i).toNat)
    case atStart => exact ⟨0, _, _, Nat.zero_le _, rfl, rfl, P0⟩
    case round =>
      obtain ⟨k, xs, v5, hk, rfl, rfl, hP⟩ := hrel
      clear P0
      obtain ⟨y0, yf⟩ := hP.box.one
      have p5 := (hP.bel.cell (p := ⟨gt, ot + 4, none⟩) q0).trans HQ5.out
      by_cases hlt : k < nF
      · obtain ⟨f, hf⟩ : ∃ f, (roots c)[k]? = some f := ⟨_, List.getElem?_eq_getElem (by rw [HNF.out.1]; exact hlt)⟩
        obtain ⟨kk, hst, hkk, hsub, htw⟩ := HTW.out.child hf
        obtain ⟨gl, ol, rfl, hgl, hlr⟩ := HQ6.out (by rintro h; rw [h] at hst; simp at hst)
        have p6 := (hP.bel.cell (p := ⟨gl, ol + k, none⟩) hgl).trans (hlr k _ hst)
        have hgt : gt < wr.heap.size := Nat.lt_of_lt_of_le q0 hP.bel.size
        have hgl' : gl < wr.heap.size := Nat.lt_of_lt_of_le hgl hP.bel.size
        have hwl := hP.box.lt
        obtain ⟨m, hm⟩ : ∃ m, m = 1 + f.2.size := ⟨_, rfl⟩
        have HSUB : Hid (∀ W, Below w.heap.size w W → Calls Try.prog 26 #[trV (some ⟨gt, ot, none⟩) m0 cap, .int .i64 kk] W fun e' w' => ∃ g cur, e' = .returned (.tuple #[trV (some ⟨g, 0, none⟩) m m, .int .i64 0]) ∧ OC w' W.heap.size w'.heap.size g m (tr f) m cur ∧ Below W.heap.size W w') := fun W hW => by
          have := HTW.out.sub hkk hsub _ cap W (HT.out.below hW) hcap
          rw [← hm] at this
          exact this
        have HTF : Hid (Tw (tr f) m f.1 f.2) := by show Tw (tr f) m f.1 f.2; rw [hm]; exact htw
        have HF : Hid ((roots c)[k]? = some f ∧ m = 1 + f.2.size) := ⟨hf, hm⟩
        have e0 : (0 : Int) ≤ (k : Int) := by omega
        have e1 : (k : Int) < (nF : Int) := by omega
        have e3 : (k : Nat) < nF := hlt
        have w3 : IntKind.i64.wrap ((k : Int) + 1) = (k : Int) + 1 := by rw [IntKind.wrap_i64]; omega
        have HP : Hid (PL w (some ⟨gt, ot, none⟩) m0 cap (roots c) k v5 xs wr) := hP
        have hB := hP.bel
        clear hf hst hsub htw hlr hm hP
        go_wp2
        refine beginH (S := fun w' => Keep wr.heap.size wr w') (fun _ _ _ _ _ h => h) (by kernel_rfl) (Keep.drew _ _) (fun hq hHeld => ?_)
        refine takeH (i := 0) (d := 37) _ hq rfl rfl (by kernel_rfl) (by kernel_rfl) (by kernel_rfl) (by rfl) (fun W hSw => by (have s1 := (hSw.cell (b := w.heap.size) (o := 0) (by omega)).trans y0; go_simp; try rfl)) hHeld ?_
        try simp only [Act.put, List.setIfInBounds_toArray, List.set_cons_zero, List.set_cons_succ]
        refine takeH (i := 1) (d := 38) _ hq rfl rfl (by kernel_rfl) (by kernel_rfl) (by kernel_rfl) (by rfl) (fun W hSw => by (go_simp; try rfl)) hHeld ?_
        try simp only [Act.put, List.setIfInBounds_toArray, List.set_cons_zero, List.set_cons_succ]
        refine takeH (i := 2) (d := 39) _ hq rfl rfl (by kernel_rfl) (by kernel_rfl) (by kernel_rfl) (by rfl) (fun W hSw => by (have s1 := (hSw.cell (b := w.heap.size) (o := 0) (by omega)).trans y0; go_simp; try rfl)) hHeld ?_
        try simp only [Act.put, List.setIfInBounds_toArray, List.set_cons_zero, List.set_cons_succ]
        refine takeH (i := 3) (d := 40) _ hq rfl rfl (by kernel_rfl) (by kernel_rfl) (by kernel_rfl) (by rfl) (fun W hSw => by (go_simp; try rfl)) hHeld ?_
        try simp only [Act.put, List.setIfInBounds_toArray, List.set_cons_zero, List.set_cons_succ]
        refine takeH (i := 4) (d := 41) _ hq rfl rfl (by kernel_rfl) (by kernel_rfl) (by kernel_rfl) (by rfl) (fun W hSw => by (go_simp; try rfl)) hHeld ?_
        try simp only [Act.put, List.setIfInBounds_toArray, List.set_cons_zero, List.set_cons_succ]
        refine takeH (i := 5) (d := 42) _ hq rfl rfl (by kernel_rfl) (by kernel_rfl) (by kernel_rfl) (by rfl) (fun W hSw => by (have s1 := (hSw.cell (b := gt) (o := ot + 4) (by omega)).trans p5; go_simp; try rfl)) hHeld ?_
        try simp only [Act.put, List.setIfInBounds_toArray, List.set_cons_zero, List.set_cons_succ]
        refine takeH (i := 6) (d := 43) _ hq rfl rfl (by kernel_rfl) (by kernel_rfl) (by kernel_rfl) (by rfl) (fun W hSw => by (go_simp; try rfl)) hHeld ?_
        try simp only [Act.put, List.setIfInBounds_toArray, List.set_cons_zero, List.set_cons_succ]
        refine takeH (i := 7) (d := 44) _ hq rfl rfl (by kernel_rfl) (by kernel_rfl) (by kernel_rfl) (by rfl) (fun W hSw => by (go_simp; try rfl)) hHeld ?_
        try simp only [Act.put, List.setIfInBounds_toArray, List.set_cons_zero, List.set_cons_succ]
        refine takeH (i := 8) (d := 45) _ hq rfl rfl (by kernel_rfl) (by kernel_rfl) (by kernel_rfl) (by rfl) (fun W hSw => by (have s1 := (hSw.cell (b := gl) (o := ol + k) (by omega)).trans p6; go_simp; try rfl)) hHeld ?_
        try simp only [Act.put, List.setIfInBounds_toArray, List.set_cons_zero, List.set_cons_succ]
        refine wpAnyH_ready (rs := [9, 13]) (by kernel_rfl) (by simp) ?_
        refine AllReadyH.cons rfl (fun K hK => ?_) (AllReadyH.cons rfl (fun K hK => ?_) AllReadyH.nil)
        · have BB := below_drew hB
          have KK : Keep wr.heap.size wr wr.drew := Keep.drew _ _
          have HH : wr.heap.size ≤ wr.drew.heap.size := Nat.le_refl _
          go_simp
          refine (HSUB.out _ BB).mono ?_; rintro e w3 ⟨g3, cur3, rfl, O3, hb3⟩; have K3 := KK.trans (Keep.below hb3 HH); have B3 := below_aft BB hb3
          go_wp2_with fail
          refine hK.out _ _ K3 (fun hHeld => ?_)
          clear hK K
          try simp only [Act.put, List.setIfInBounds_toArray, List.set_cons_zero, List.set_cons_succ]
          refine takeH (i := 10) (d := 36) _ hq rfl rfl (by kernel_rfl) (by kernel_rfl) (by kernel_rfl) (by rfl) (fun W hSw => by (go_simp; try rfl)) hHeld ?_
          try simp only [Act.put, List.setIfInBounds_toArray, List.set_cons_zero, List.set_cons_succ]
          refine takeH (i := 11) (d := 47) _ hq rfl rfl (by kernel_rfl) (by kernel_rfl) (by kernel_rfl) (by rfl) (fun W hSw => by (go_simp; try rfl)) hHeld ?_
          try simp only [Act.put, List.setIfInBounds_toArray, List.set_cons_zero, List.set_cons_succ]
          refine takeH (i := 12) (d := 48) _ hq rfl rfl (by kernel_rfl) (by kernel_rfl) (by kernel_rfl) (by rfl) (fun W hSw => by (go_simp; try rfl)) hHeld ?_
          try simp only [Act.put, List.setIfInBounds_toArray, List.set_cons_zero, List.set_cons_succ]
          refine wpAnyH_ready (rs := [13]) (by kernel_rfl) (by simp) ?_
          refine AllReadyH.cons rfl (fun K hK => ?_) AllReadyH.nil
          go_simp
          skip
          go_wp2_with fail
          refine hK.out _ _ (K3.trans (Keep.below (belA (Below.refl _ _)) K3.size)) (fun hHeld => ?_)
          clear hK K
          try simp only [Act.put, List.setIfInBounds_toArray, List.set_cons_zero, List.set_cons_succ]
          refine wpAnyH_ready (rs := [14]) (by kernel_rfl) (by simp) ?_
          refine AllReadyH.cons rfl (fun K hK => ?_) AllReadyH.nil
          go_simp
          have R4 := R7.call (lo := w.heap.size + 1) hwl B3 K3 O3
          obtain ⟨W4, hW4⟩ : ∃ W4, W4 = w3.alloc (.cells #[.slice (some ⟨g3, 0, none⟩) m m] 24) := ⟨_, rfl⟩
          obtain ⟨b7, hb7⟩ : ∃ b7, b7 = w3.heap.size := ⟨_, rfl⟩
          replace R4 : R7 w wr (w.heap.size + 1) f m g3 b7 W4 := by rw [hW4, hb7]; exact R4
          rw [← hW4, ← hb7]
          clear hW4 hb7 hb3 O3 K3 B3 KK BB HH hHeld
          refine hK.out _ _ R4.keep (fun hHeld => ?_)
          clear hK K
          try simp only [Act.put, List.setIfInBounds_toArray, List.set_cons_zero, List.set_cons_succ]
          refine takeH (i := 15) (d := 8) _ hq rfl rfl (by kernel_rfl) (by kernel_rfl) (by kernel_rfl) (by rfl) (fun W hSw => by (go_simp; try rfl)) hHeld ?_
          try simp only [Act.put, List.setIfInBounds_toArray, List.set_cons_zero, List.set_cons_succ]
          refine wpAnyH_done (by kernel_rfl) ?_ _
          obtain ⟨s0, sf⟩ := R4.box.one
          have HMAY : Hid (Calls Try.prog 14 #[trV (some ⟨g3, 0, none⟩) m m] W4 fun e w' => e = .returned (.bool true) ∧ Below W4.heap.size W4 w') := by
            obtain ⟨cur, O⟩ := R4.oc
            exact HTF.out.mayC _ m W4 (O.tat HTF.out.ln)
          have own4 := owns_keep24 HP.out.row (fun b e => (own24_in HP.out.row b e).2) R4.keep
          have HR4 : Hid (R7 w wr (w.heap.size + 1) f m g3 b7 W4) := R4
          have hA7 := R4.box
          have hw4 : w.heap.size ≤ W4.heap.size := R4.bel.size
          clear R4
          go_wp2_with (first
            | (go_at_call 14; refine HMAY.out.mono ?_; rintro e w5 ⟨rfl, hb5⟩; obtain ⟨t0, tf⟩ := (hA7.below hb5).one; have own5 := owns_keep24 own4 (fun b e => (own24_in own4 b e).2) (Keep.below hb5 (Nat.le_refl _)); have h5s := hb5.size; clear s0 sf hA7 own4)
            | (at_builtin; refine wpList_append_own _ rfl _ _ 49 rfl (w.heap.size + 1) 24 i24 (.agg #[.slice none 0 0]) 1 24 Try.underlying49 hi24 hz0 hz1 hz2 rfl (by decide) _ k _ rfl (owns_keep24 own5 (fun b e => (own24_in own5 b e).2) (Keep.alloc _ _ (Nat.le_refl _))) ⟨w5.heap.size, 0, none⟩ 1 1 [.slice (some ⟨g3, 0, none⟩) m m] rfl rfl (news24 w5 _) (ones24 _ _ _) (by unfold maxLen; omega) (by omega) (by simp; omega) ?_; intro v' w6 ho6 hg6 hn6))
          exact ⟨⟨k + 1, _, _, by omega, by go_num, rfl, HP.out.next HF.out.1 HF.out.2 HR4.out hb5 hg6 ho6⟩, by simp [intOf]; omega⟩
        · have BB := belA (o := Tro none 0 0) (below_drew hB)
          have KK : Keep wr.heap.size wr (wr.drew.alloc (Tro none 0 0)) := (Keep.drew _ _).trans (Keep.below (belA (Below.refl _ _)) (Nat.le_refl _))
          have HH : wr.heap.size ≤ (wr.drew.alloc (Tro none 0 0)).heap.size := by simp [World.alloc]
          go_simp
          skip
          go_wp2_with fail
          refine hK.out _ _ KK (fun hHeld => ?_)
          clear hK K
          try simp only [Act.put, List.setIfInBounds_toArray, List.set_cons_zero, List.set_cons_succ]
          refine wpAnyH_ready (rs := [9]) (by kernel_rfl) (by simp) ?_
          refine AllReadyH.cons rfl (fun K hK => ?_) AllReadyH.nil
          go_simp
          refine (HSUB.out _ BB).mono ?_; rintro e w3 ⟨g3, cur3, rfl, O3, hb3⟩; have K3 := KK.trans (Keep.below hb3 HH); have B3 := below_aft BB hb3
          go_wp2_with fail
          refine hK.out _ _ K3 (fun hHeld => ?_)
          clear hK K
          try simp only [Act.put, List.setIfInBounds_toArray, List.set_cons_zero, List.set_cons_succ]
          refine takeH (i := 10) (d := 36) _ hq rfl rfl (by kernel_rfl) (by kernel_rfl) (by kernel_rfl) (by rfl) (fun W hSw => by (go_simp; try rfl)) hHeld ?_
          try simp only [Act.put, List.setIfInBounds_toArray, List.set_cons_zero, List.set_cons_succ]
          refine takeH (i := 11) (d := 47) _ hq rfl rfl (by kernel_rfl) (by kernel_rfl) (by kernel_rfl) (by rfl) (fun W hSw => by (go_simp; try rfl)) hHeld ?_
          try simp only [Act.put, List.setIfInBounds_toArray, List.set_cons_zero, List.set_cons_succ]
          refine takeH (i := 12) (d := 48) _ hq rfl rfl (by kernel_rfl) (by kernel_rfl) (by kernel_rfl) (by rfl) (fun W hSw => by (go_simp; try rfl)) hHeld ?_
          try simp only [Act.put, List.setIfInBounds_toArray, List.set_cons_zero, List.set_cons_succ]
          obtain ⟨A7, R4⟩ := R7.first (lo := w.heap.size + 1) hwl (Nat.le_of_lt hwl) B3 K3 hb3 O3
          obtain ⟨u0, uf⟩ := A7.one
          refine wpAnyH_ready (rs := [14]) (by kernel_rfl) (by simp) ?_
          refine AllReadyH.cons rfl (fun K hK => ?_) AllReadyH.nil
          go_simp
          obtain ⟨W4, hW4⟩ : ∃ W4, W4 = w3.setCell ⟨wr.heap.size, 0, none⟩ (.slice (some ⟨g3, 0, none⟩) m m) := ⟨_, rfl⟩
          obtain ⟨b7, hb7⟩ : ∃ b7, b7 = wr.heap.size := ⟨_, rfl⟩
          replace R4 : R7 w wr (w.heap.size + 1) f m g3 b7 W4 := by rw [hW4, hb7]; exact R4
          rw [← hW4, ← hb7]
          clear hW4 hb3 O3 K3 B3 KK BB HH A7 u0 uf hHeld
          refine hK.out _ _ (by rw [← hb7]; exact hb7 ▸ R4.keep) (fun hHeld => ?_)
          clear hK K hb7
          try simp only [Act.put, List.setIfInBounds_toArray, List.set_cons_zero, List.set_cons_succ]
          refine takeH (i := 15) (d := 8) _ hq rfl rfl (by kernel_rfl) (by kernel_rfl) (by kernel_rfl) (by rfl) (fun W hSw => by (go_simp; try rfl)) hHeld ?_
          try simp only [Act.put, List.setIfInBounds_toArray, List.set_cons_zero, List.set_cons_succ]
          refine wpAnyH_done (by kernel_rfl) ?_ _
          obtain ⟨s0, sf⟩ := R4.box.one
          have HMAY : Hid (Calls Try.prog 14 #[trV (some ⟨g3, 0, none⟩) m m] W4 fun e w' => e = .returned (.bool true) ∧ Below W4.heap.size W4 w') := by
            obtain ⟨cur, O⟩ := R4.oc
            exact HTF.out.mayC _ m W4 (O.tat HTF.out.ln)
          have own4 := owns_keep24 HP.out.row (fun b e => (own24_in HP.out.row b e).2) R4.keep
          have HR4 : Hid (R7 w wr (w.heap.size + 1) f m g3 b7 W4) := R4
          have hA7 := R4.box
          have hw4 : w.heap.size ≤ W4.heap.size := R4.bel.size
          clear R4
          go_wp2_with (first
            | (go_at_call 14; refine HMAY.out.mono ?_; rintro e w5 ⟨rfl, hb5⟩; obtain ⟨t0, tf⟩ := (hA7.below hb5).one; have own5 := owns_keep24 own4 (fun b e => (own24_in own4 b e).2) (Keep.below hb5 (Nat.le_refl _)); have h5s := hb5.size; clear s0 sf hA7 own4)
            | (at_builtin; refine wpList_append_own _ rfl _ _ 49 rfl (w.heap.size + 1) 24 i24 (.agg #[.slice none 0 0]) 1 24 Try.underlying49 hi24 hz0 hz1 hz2 rfl (by decide) _ k _ rfl (owns_keep24 own5 (fun b e => (own24_in own5 b e).2) (Keep.alloc _ _ (Nat.le_refl _))) ⟨w5.heap.size, 0, none⟩ 1 1 [.slice (some ⟨g3, 0, none⟩) m m] rfl rfl (news24 w5 _) (ones24 _ _ _) (by unfold maxLen; omega) (by omega) (by simp; omega) ?_; intro v' w6 ho6 hg6 hn6))
          exact ⟨⟨k + 1, _, _, by omega, by go_num, rfl, HP.out.next HF.out.1 HF.out.2 HR4.out hb5 hg6 ho6⟩, by simp [intOf]; omega⟩
      · obtain rfl : nF = k := by omega
        have hTL : TL wr (w.heap.size + 1) xs (roots c) := by have := hP.tl; rwa [List.take_of_length_le (by rw [HNF.out.1]; exact Nat.le_refl _)] at this
        obtain ⟨la, lc, rfl⟩ := row_slice24 hP.row
        have HJ : Hid (Calls Try.prog 24 #[ndV x al nF capl, .slice la nF lc] wr fun e w' => ∃ g cur, e = .returned (.tuple #[trV (some ⟨g, 0, none⟩) m0 m0, .int .i64 0]) ∧ OC w' wr.heap.size w'.heap.size g m0 T m0 cur ∧ Below wr.heap.size wr w') := HTW.out.join al nF capl HNF.out.1 la lc wr (hTL.crow hP.row)
        have p1 := (hP.bel.cell (p := ⟨gt, ot, none⟩) q0).trans HQS.out.1
        have p2 := (hP.bel.cell (p := ⟨gt, ot + 1, none⟩) q0).trans HQS.out.2.1
        have p3 := (hP.bel.cell (p := ⟨gt, ot + 2, none⟩) q0).trans HQS.out.2.2.1
        have p4 := (hP.bel.cell (p := ⟨gt, ot + 3, none⟩) q0).trans HQS.out.2.2.2.1
        have hA := hP.box
        have HP : Hid (PL w (some ⟨gt, ot, none⟩) m0 cap (roots c) nF (.slice la nF lc) xs wr) := hP
        have HTL : Hid (TL wr (w.heap.size + 1) xs (roots c)) := hTL
        have hB := hP.bel
        clear hP hTL
        go_wp2_with (first
          | (go_at_call 24; refine HJ.out.mono ?_; rintro e w2 ⟨g9, cur9, rfl, O9, hb9⟩; have HS : Hid (∀ W, Below w2.heap.size w2 W → Calls Try.prog 34 #[trV (some ⟨g9, 0, none⟩) m0 m0, trV (some ⟨gt, ot, none⟩) m0 cap] W fun e w' => e = .returned (.bool true) ∧ Below W.heap.size W w') := (fun W hW => HTW.out.sameC _ _ _ _ W ((O9.tat HN.out).below hW) (HT.out.below (below_aft (below_aft hB hb9) hW))); obtain ⟨z0, zf⟩ := ((hA.below hb9).alloc (.cells #[.slice (some ⟨g9, 0, none⟩) m0 m0] 24)).one; have HO9 : Hid (OC w2 wr.heap.size w2.heap.size g9 m0 T m0 cur9) := O9; have hz9 := hb9.size; clear O9 y0 yf p1 p2 p3 p4 p5)
          | (go_at_call 34; refine (HS.out _ (belA (Below.refl _ _))).mono ?_; rintro e w0 ⟨rfl, hb0⟩))
        have A9 := (At.new w2 (Tro (some ⟨g9, 0, none⟩) m0 m0)).below hb0
        have A2 := ((hA.below hb9).alloc (Tro (some ⟨g9, 0, none⟩) m0 m0)).below hb0
        have hb90 : Below w2.heap.size w2 w0 := below_aft (belA (Below.refl _ _)) hb0
        have O0 := HO9.out.keep (Keep.below hb90 (Nat.le_refl _))
        have T9 : TAt w0 (some ⟨g9, 0, none⟩) T := O0.tat HN.out
        have TL0 := (HTL.out.below hb9).below hb90
        have own2 := owns_keep24 HP.out.row (fun b e => (own24_in HP.out.row b e).2) (Keep.below hb9 (Nat.le_refl _))
        have own0 := owns_keep24 own2 (fun b e => (own24_in own2 b e).2) (Keep.below hb90 (Nat.le_refl _))
        have HCR : Hid (CRow w0 la ((roots c).map tr)) := TL0.crow own0
        have B0 : Below w.heap.size w w0 := below_aft (below_aft hB hb9) hb90
        have HT9 : Hid (TAt w0 (some ⟨g9, 0, none⟩) T) := T9
        obtain ⟨g9', o9', e9, hr9⟩ := T9 HTW.out.ne
        simp only [Option.some.injEq, Addr.mk.injEq] at e9
        obtain ⟨rfl, rfl, _⟩ := e9
        obtain ⟨r0, _, _, _, _, al9, capl9, r5, r6⟩ := hr9 0 ⟨x, c.starts 1⟩ (by rw [HTW.out.e]; rfl)
        simp only [Nat.zero_mul, Nat.add_zero, Nat.zero_add] at r5
        replace r5 : w0.cell? ⟨g9, 4, none⟩ = some (.slice al9 nF capl9) := by have := HNF.out.2; rw [this]; exact r5
        have HR5 : Hid (w0.cell? ⟨g9, 4, none⟩ = some (.slice al9 nF capl9)) := r5
        have HR6 : Hid (IRow w0 al9 (c.starts 1)) := r6
        obtain ⟨b9, hb9e⟩ : ∃ b9, b9 = w2.heap.size := ⟨_, rfl⟩
        replace A9 : At w0 b9 (Tro (some ⟨g9, 0, none⟩) m0 m0) := by rw [hb9e]; exact A9
        rw [← hb9e]
        clear hb9e hr9 r5 r6 own0 own2 TL0 O0 hb90 HO9 HS HJ HTL HP z0 zf hA hb9 hb0 hB hk hlt
        go_loopw [11] (fun i W => ∃ k : Nat, k ≤ nF ∧ i = .int .i64 k ∧ Below w0.heap.size w0 W) (fun i _ => nF - (intOf i).toNat)
        case atStart => exact ⟨0, Nat.zero_le _, rfl, Below.refl _ _⟩
        case round =>
          obtain ⟨k, hk, rfl, hB⟩ := hrel
          by_cases hlt : k < nF
          · obtain ⟨f, hf⟩ : ∃ f, (roots c)[k]? = some f := ⟨_, List.getElem?_eq_getElem (by rw [HNF.out.1]; exact hlt)⟩
            obtain ⟨kk, hst, hkk, hsub, htw⟩ := HTW.out.child hf
            obtain ⟨gl, ol, rfl, hgl, hlr⟩ := HR6.out (by rintro h; rw [h] at hst; simp at hst)
            obtain ⟨gb, ob, rfl, hgb, hcr⟩ := HCR.out (by rintro h; rw [List.map_eq_nil_iff] at h; rw [h] at hf; simp at hf)
            obtain ⟨ai, capi, hci, hTi⟩ := hcr k (tr f) (by rw [List.getElem?_map, hf]; rfl)
            obtain ⟨m, hm⟩ : ∃ m, m = 1 + f.2.size := ⟨_, rfl⟩
            have HTF : Hid (Tw (tr f) m f.1 f.2) := by show Tw (tr f) m f.1 f.2; rw [hm]; exact htw
            rw [HTF.out.ln] at hci
            have p5 := (hB.cell (p := ⟨g9, 4, none⟩) r0).trans HR5.out
            have p6 := (hB.cell (p := ⟨gl, ol + k, none⟩) hgl).trans (hlr k _ hst)
            obtain ⟨y0, yf⟩ := (A9.below hB).one
            have hwl := hB.size
            have h9l := A9.lt
            have HSUB : Hid (∀ W, Below w0.heap.size w0 W → Calls Try.prog 26 #[trV (some ⟨g9, 0, none⟩) m0 m0, .int .i64 kk] W fun e' w' => ∃ g cur, e' = .returned (.tuple #[trV (some ⟨g, 0, none⟩) m m, .int .i64 0]) ∧ OC w' W.heap.size w'.heap.size g m (tr f) m cur ∧ Below W.heap.size W w') := fun W hW => by
              have := HTW.out.sub hkk hsub _ m0 W (HT9.out.below hW) (Nat.le_refl _)
              rw [← hm] at this
              exact this
            have HTI : Hid (TAt w0 ai (tr f)) := hTi
            have HCI : Hid (w0.cell? ⟨gb, ob + k, none⟩ = some (.slice ai m capi)) := hci
            have e0 : (0 : Int) ≤ (k : Int) := by omega
            have e1 : (k : Int) < (nF : Int) := by omega
            have e3 : (k : Nat) < nF := hlt
            have w3 : IntKind.i64.wrap ((k : Int) + 1) = (k : Int) + 1 := by rw [IntKind.wrap_i64]; omega
            clear hf hst hsub htw hlr hm hcr hci hTi
            go_wp2
            refine beginH (S := fun w' => Keep wr.heap.size wr w') (fun _ _ _ _ _ h => h) (by kernel_rfl) (Keep.drew _ _) (fun hq hHeld => ?_)
            refine takeH (i := 0) (d := 84) _ hq rfl rfl (by kernel_rfl) (by kernel_rfl) (by kernel_rfl) (by rfl) (fun W hSw => by (have s1 := (hSw.cell (b := b9) (o := 0) (by omega)).trans y0; go_simp; try rfl)) hHeld ?_
            try simp only [Act.put, List.setIfInBounds_toArray, List.set_cons_zero, List.set_cons_succ]
            refine takeH (i := 1) (d := 85) _ hq rfl rfl (by kernel_rfl) (by kernel_rfl) (by kernel_rfl) (by rfl) (fun W hSw => by (go_simp; try rfl)) hHeld ?_
            try simp only [Act.put, List.setIfInBounds_toArray, List.set_cons_zero, List.set_cons_succ]
            refine takeH (i := 2) (d := 86) _ hq rfl rfl (by kernel_rfl) (by kernel_rfl) (by kernel_rfl) (by rfl) (fun W hSw => by (have s1 := (hSw.cell (b := b9) (o := 0) (by omega)).trans y0; go_simp; try rfl)) hHeld ?_
            try simp only [Act.put, List.setIfInBounds_toArray, List.set_cons_zero, List.set_cons_succ]
            refine takeH (i := 3) (d := 87) _ hq rfl rfl (by kernel_rfl) (by kernel_rfl) (by kernel_rfl) (by rfl) (fun W hSw => by (go_simp; try rfl)) hHeld ?_
            try simp only [Act.put, List.setIfInBounds_toArray, List.set_cons_zero, List.set_cons_succ]
            refine takeH (i := 4) (d := 88) _ hq rfl rfl (by kernel_rfl) (by kernel_rfl) (by kernel_rfl) (by rfl) (fun W hSw => by (go_simp; try rfl)) hHeld ?_
            try simp only [Act.put, List.setIfInBounds_toArray, List.set_cons_zero, List.set_cons_succ]
            refine takeH (i := 5) (d := 89) _ hq rfl rfl (by kernel_rfl) (by kernel_rfl) (by kernel_rfl) (by rfl) (fun W hSw => by (have s1 := (hSw.cell (b := g9) (o := 4) (by omega)).trans p5; go_simp; try rfl)) hHeld ?_
            try simp only [Act.put, List.setIfInBounds_toArray, List.set_cons_zero, List.set_cons_succ]
            refine takeH (i := 6) (d := 90) _ hq rfl rfl (by kernel_rfl) (by kernel_rfl) (by kernel_rfl) (by rfl) (fun W hSw => by (go_simp; try rfl)) hHeld ?_
            try simp only [Act.put, List.setIfInBounds_toArray, List.set_cons_zero, List.set_cons_succ]
            refine takeH (i := 7) (d := 91) _ hq rfl rfl (by kernel_rfl) (by kernel_rfl) (by kernel_rfl) (by rfl) (fun W hSw => by (go_simp; try rfl)) hHeld ?_
            try simp only [Act.put, List.setIfInBounds_toArray, List.set_cons_zero, List.set_cons_succ]
            refine takeH (i := 8) (d := 92) _ hq rfl rfl (by kernel_rfl) (by kernel_rfl) (by kernel_rfl) (by rfl) (fun W hSw => by (have s1 := (hSw.cell (b := gl) (o := ol + k) (by omega)).trans p6; go_simp; try rfl)) hHeld ?_
            try simp only [Act.put, List.setIfInBounds_toArray, List.set_cons_zero, List.set_cons_succ]
            refine wpAnyH_ready (rs := [9, 13]) (by kernel_rfl) (by simp) ?_
            refine AllReadyH.cons rfl (fun K hK => ?_) (AllReadyH.cons rfl (fun K hK => ?_) AllReadyH.nil)
            · have BB := below_drew hB
              have KK : Keep wr.heap.size wr wr.drew := Keep.drew _ _
              have HH : wr.heap.size ≤ wr.drew.heap.size := Nat.le_refl _
              go_simp
              refine (HSUB.out _ BB).mono ?_; rintro e w3 ⟨g3, cur3, rfl, O3, hb3⟩; have K3 := KK.trans (Keep.below hb3 HH); have B3 := below_aft BB hb3
              go_wp2_with fail
              refine hK.out _ _ K3 (fun hHeld => ?_)
              clear hK K
              try simp only [Act.put, List.setIfInBounds_toArray, List.set_cons_zero, List.set_cons_succ]
              refine takeH (i := 10) (d := 83) _ hq rfl rfl (by kernel_rfl) (by kernel_rfl) (by kernel_rfl) (by rfl) (fun W hSw => by (go_simp; try rfl)) hHeld ?_
              try simp only [Act.put, List.setIfInBounds_toArray, List.set_cons_zero, List.set_cons_succ]
              refine takeH (i := 11) (d := 94) _ hq rfl rfl (by kernel_rfl) (by kernel_rfl) (by kernel_rfl) (by rfl) (fun W hSw => by (go_simp; try rfl)) hHeld ?_
              try simp only [Act.put, List.setIfInBounds_toArray, List.set_cons_zero, List.set_cons_succ]
              refine takeH (i := 12) (d := 95) _ hq rfl rfl (by kernel_rfl) (by kernel_rfl) (by kernel_rfl) (by rfl) (fun W hSw => by (go_simp; try rfl)) hHeld ?_
              try simp only [Act.put, List.setIfInBounds_toArray, List.set_cons_zero, List.set_cons_succ]
              refine wpAnyH_ready (rs := [13]) (by kernel_rfl) (by simp) ?_
              refine AllReadyH.cons rfl (fun K hK => ?_) AllReadyH.nil
              go_simp
              skip
              go_wp2_with fail
              refine hK.out _ _ (K3.trans (Keep.below (belA (Below.refl _ _)) K3.size)) (fun hHeld => ?_)
              clear hK K
              try simp only [Act.put, List.setIfInBounds_toArray, List.set_cons_zero, List.set_cons_succ]
              refine wpAnyH_ready (rs := [14]) (by kernel_rfl) (by simp) ?_
              refine AllReadyH.cons rfl (fun K hK => ?_) AllReadyH.nil
              go_simp
              have R4 := R7.call (lo := w0.heap.size) hwl B3 K3 O3
              obtain ⟨W4, hW4⟩ : ∃ W4, W4 = w3.alloc (.cells #[.slice (some ⟨g3, 0, none⟩) m m] 24) := ⟨_, rfl⟩
              obtain ⟨b7, hb7⟩ : ∃ b7, b7 = w3.heap.size := ⟨_, rfl⟩
              replace R4 : R7 w0 wr (w0.heap.size) f m g3 b7 W4 := by rw [hW4, hb7]; exact R4
              rw [← hW4, ← hb7]
              clear hW4 hb7 hb3 O3 K3 B3 KK BB HH hHeld
              refine hK.out _ _ R4.keep (fun hHeld => ?_)
              clear hK K
              try simp only [Act.put, List.setIfInBounds_toArray, List.set_cons_zero, List.set_cons_succ]
              refine takeH (i := 15) (d := 13) _ hq rfl rfl (by kernel_rfl) (by kernel_rfl) (by kernel_rfl) (by rfl) (fun W hSw => by (go_simp; try rfl)) hHeld ?_
              try simp only [Act.put, List.setIfInBounds_toArray, List.set_cons_zero, List.set_cons_succ]
              refine wpAnyH_done (by kernel_rfl) ?_ _
              obtain ⟨s0, sf⟩ := R4.box.one
              have HSM : Hid (∀ W, Below W4.heap.size W4 W → Calls Try.prog 34 #[trV (some ⟨g3, 0, none⟩) m m, trV ai m capi] W fun e w' => e = .returned (.bool true) ∧ Below W.heap.size W w') := fun W hW => by
                obtain ⟨cur, O⟩ := R4.oc
                exact HTF.out.sameC _ _ m capi W ((O.tat HTF.out.ln).below hW) (HTI.out.below (below_aft R4.bel hW))
              have hb4 := R4.bel
              have t1 := (hb4.cell (p := ⟨gb, ob + k, none⟩) hgb).trans HCI.out
              have hw4 := hb4.size
              have hb7 := R4.box.lt
              clear R4
              go_wp2
              refine beginH (S := fun w' => Keep W4.heap.size W4 w') (fun _ _ _ _ _ h => h) (by kernel_rfl) (Keep.drew _ _) (fun hq hHeld => ?_)
              refine takeH (i := 0) (d := 96) _ hq rfl rfl (by kernel_rfl) (by kernel_rfl) (by kernel_rfl) (by rfl) (fun W hSw => by (go_simp; try rfl)) hHeld ?_
              try simp only [Act.put, List.setIfInBounds_toArray, List.set_cons_zero, List.set_cons_succ]
              refine takeH (i := 1) (d := 97) _ hq rfl rfl (by kernel_rfl) (by kernel_rfl) (by kernel_rfl) (by rfl) (fun W hSw => by (go_simp; try rfl)) hHeld ?_
              try simp only [Act.put, List.setIfInBounds_toArray, List.set_cons_zero, List.set_cons_succ]
              refine takeH (i := 2) (d := 98) _ hq rfl rfl (by kernel_rfl) (by kernel_rfl) (by kernel_rfl) (by rfl) (fun W hSw => by (go_simp; try rfl)) hHeld ?_
              try simp only [Act.put, List.setIfInBounds_toArray, List.set_cons_zero, List.set_cons_succ]
              refine takeH (i := 3) (d := 99) _ hq rfl rfl (by kernel_rfl) (by kernel_rfl) (by kernel_rfl) (by rfl) (fun W hSw => by (have s1 := (hSw.cell (b := b7) (o := 0) (by omega)).trans s0; go_simp; try rfl)) hHeld ?_
              try simp only [Act.put, List.setIfInBounds_toArray, List.set_cons_zero, List.set_cons_succ]
              refine takeH (i := 4) (d := 100) _ hq rfl rfl (by kernel_rfl) (by kernel_rfl) (by kernel_rfl) (by rfl) (fun W hSw => by (go_simp; try rfl)) hHeld ?_
              try simp only [Act.put, List.setIfInBounds_toArray, List.set_cons_zero, List.set_cons_succ]
              refine takeH (i := 5) (d := 101) _ hq rfl rfl (by kernel_rfl) (by kernel_rfl) (by kernel_rfl) (by rfl) (fun W hSw => by (go_simp; try rfl)) hHeld ?_
              try simp only [Act.put, List.setIfInBounds_toArray, List.set_cons_zero, List.set_cons_succ]
              refine takeH (i := 6) (d := 102) _ hq rfl rfl (by kernel_rfl) (by kernel_rfl) (by kernel_rfl) (by rfl) (fun W hSw => by (go_simp; try rfl)) hHeld ?_
              try simp only [Act.put, List.setIfInBounds_toArray, List.set_cons_zero, List.set_cons_succ]
              refine takeH (i := 7) (d := 103) _ hq rfl rfl (by kernel_rfl) (by kernel_rfl) (by kernel_rfl) (by rfl) (fun W hSw => by (have s1 := (hSw.cell (b := gb) (o := ob + k) (by omega)).trans t1; go_simp; try rfl)) hHeld ?_
              try simp only [Act.put, List.setIfInBounds_toArray, List.set_cons_zero, List.set_cons_succ]
              refine wpAnyH_ready (rs := [8]) (by kernel_rfl) (by simp) ?_
              refine AllReadyH.cons rfl (fun K hK => ?_) AllReadyH.nil
              go_simp
              refine (HSM.out _ (below_drew (Below.refl _ _))).mono ?_; rintro e w7 ⟨rfl, hb8⟩; have K7 : Keep W4.heap.size W4 w7 := (Keep.drew _ _).trans (Keep.below hb8 (Nat.le_refl _)); have B7 : Below w0.heap.size w0 w7 := below_aft (below_drew hb4) hb8
              go_wp2_with fail
              refine hK.out _ _ K7 (fun hHeld => ?_)
              clear hK K
              try simp only [Act.put, List.setIfInBounds_toArray, List.set_cons_zero, List.set_cons_succ]
              refine takeH (i := 9) (d := 105) _ hq rfl rfl (by kernel_rfl) (by kernel_rfl) (by kernel_rfl) (by rfl) (fun W hSw => by (go_simp; try rfl)) hHeld ?_
              try simp only [Act.put, List.setIfInBounds_toArray, List.set_cons_zero, List.set_cons_succ]
              refine takeH (i := 10) (d := 106) _ hq rfl rfl (by kernel_rfl) (by kernel_rfl) (by kernel_rfl) (by rfl) (fun W hSw => by (go_simp; try rfl)) hHeld ?_
              try simp only [Act.put, List.setIfInBounds_toArray, List.set_cons_zero, List.set_cons_succ]
              refine wpAnyH_done (by kernel_rfl) ?_ _
              go_wp2
              exact ⟨⟨k + 1, by omega, by go_num, B7⟩, by simp [intOf]; omega⟩
            · have BB := belA (o := Tro none 0 0) (below_drew hB)
              have KK : Keep wr.heap.size wr (wr.drew.alloc (Tro none 0 0)) := (Keep.drew _ _).trans (Keep.below (belA (Below.refl _ _)) (Nat.le_refl _))
              have HH : wr.heap.size ≤ (wr.drew.alloc (Tro none 0 0)).heap.size := by simp [World.alloc]
              go_simp
              skip
              go_wp2_with fail
              refine hK.out _ _ KK (fun hHeld => ?_)
              clear hK K
              try simp only [Act.put, List.setIfInBounds_toArray, List.set_cons_zero, List.set_cons_succ]
              refine wpAnyH_ready (rs := [9]) (by kernel_rfl) (by simp) ?_
              refine AllReadyH.cons rfl (fun K hK => ?_) AllReadyH.nil
              go_simp
              refine (HSUB.out _ BB).mono ?_; rintro e w3 ⟨g3, cur3, rfl, O3, hb3⟩; have K3 := KK.trans (Keep.below hb3 HH); have B3 := below_aft BB hb3
              go_wp2_with fail
              refine hK.out _ _ K3 (fun hHeld => ?_)
              clear hK K
              try simp only [Act.put, List.setIfInBounds_toArray, List.set_cons_zero, List.set_cons_succ]
              refine takeH (i := 10) (d := 83) _ hq rfl rfl (by kernel_rfl) (by kernel_rfl) (by kernel_rfl) (by rfl) (fun W hSw => by (go_simp; try rfl)) hHeld ?_
              try simp only [Act.put, List.setIfInBounds_toArray, List.set_cons_zero, List.set_cons_succ]
              refine takeH (i := 11) (d := 94) _ hq rfl rfl (by kernel_rfl) (by kernel_rfl) (by kernel_rfl) (by rfl) (fun W hSw => by (go_simp; try rfl)) hHeld ?_
              try simp only [Act.put, List.setIfInBounds_toArray, List.set_cons_zero, List.set_cons_succ]
              refine takeH (i := 12) (d := 95) _ hq rfl rfl (by kernel_rfl) (by kernel_rfl) (by kernel_rfl) (by rfl) (fun W hSw => by (go_simp; try rfl)) hHeld ?_
              try simp only [Act.put, List.setIfInBounds_toArray, List.set_cons_zero, List.set_cons_succ]
              obtain ⟨A7, R4⟩ := R7.first (lo := w0.heap.size) hwl hwl B3 K3 hb3 O3
              obtain ⟨u0, uf⟩ := A7.one
              refine wpAnyH_ready (rs := [14]) (by kernel_rfl) (by simp) ?_
              refine AllReadyH.cons rfl (fun K hK => ?_) AllReadyH.nil
              go_simp
              obtain ⟨W4, hW4⟩ : ∃ W4, W4 = w3.setCell ⟨wr.heap.size, 0, none⟩ (.slice (some ⟨g3, 0, none⟩) m m) := ⟨_, rfl⟩
              obtain ⟨b7, hb7⟩ : ∃ b7, b7 = wr.heap.size := ⟨_, rfl⟩
              replace R4 : R7 w0 wr (w0.heap.size) f m g3 b7 W4 := by rw [hW4, hb7]; exact R4
              rw [← hW4, ← hb7]
              clear hW4 hb3 O3 K3 B3 KK BB HH A7 u0 uf hHeld
              refine hK.out _ _ (by rw [← hb7]; exact hb7 ▸ R4.keep) (fun hHeld => ?_)
              clear hK K hb7
              try simp only [Act.put, List.setIfInBounds_toArray, List.set_cons_zero, List.set_cons_succ]
              refine takeH (i := 15) (d := 13) _ hq rfl rfl (by kernel_rfl) (by kernel_rfl) (by kernel_rfl) (by rfl) (fun W hSw => by (go_simp; try rfl)) hHeld ?_
              try simp only [Act.put, List.setIfInBounds_toArray, List.set_cons_zero, List.set_cons_succ]
              refine wpAnyH_done (by kernel_rfl) ?_ _
              obtain ⟨s0, sf⟩ := R4.box.one
              have HSM : Hid (∀ W, Below W4.heap.size W4 W → Calls Try.prog 34 #[trV (some ⟨g3, 0, none⟩) m m, trV ai m capi] W fun e w' => e = .returned (.bool true) ∧ Below W.heap.size W w') := fun W hW => by
                obtain ⟨cur, O⟩ := R4.oc
                exact HTF.out.sameC _ _ m capi W ((O.tat HTF.out.ln).below hW) (HTI.out.below (below_aft R4.bel hW))
              have hb4 := R4.bel
              have t1 := (hb4.cell (p := ⟨gb, ob + k, none⟩) hgb).trans HCI.out
              have hw4 := hb4.size
              have hb7 := R4.box.lt
              clear R4
              go_wp2
              refine beginH (S := fun w' => Keep W4.heap.size W4 w') (fun _ _ _ _ _ h => h) (by kernel_rfl) (Keep.drew _ _) (fun hq hHeld => ?_)
              refine takeH (i := 0) (d := 96) _ hq rfl rfl (by kernel_rfl) (by kernel_rfl) (by kernel_rfl) (by rfl) (fun W hSw => by (go_simp; try rfl)) hHeld ?_
              try simp only [Act.put, List.setIfInBounds_toArray, List.set_cons_zero, List.set_cons_succ]
              refine takeH (i := 1) (d := 97) _ hq rfl rfl (by kernel_rfl) (by kernel_rfl) (by kernel_rfl) (by rfl) (fun W hSw => by (go_simp; try rfl)) hHeld ?_
              try simp only [Act.put, List.setIfInBounds_toArray, List.set_cons_zero, List.set_cons_succ]
              refine takeH (i := 2) (d := 98) _ hq rfl rfl (by kernel_rfl) (by kernel_rfl) (by kernel_rfl) (by rfl) (fun W hSw => by (go_simp; try rfl)) hHeld ?_
              try simp only [Act.put, List.setIfInBounds_toArray, List.set_cons_zero, List.set_cons_succ]
              refine takeH (i := 3) (d := 99) _ hq rfl rfl (by kernel_rfl) (by kernel_rfl) (by kernel_rfl) (by rfl) (fun W hSw => by (have s1 := (hSw.cell (b := b7) (o := 0) (by omega)).trans s0; go_simp; try rfl)) hHeld ?_
              try simp only [Act.put, List.setIfInBounds_toArray, List.set_cons_zero, List.set_cons_succ]
              refine takeH (i := 4) (d := 100) _ hq rfl rfl (by kernel_rfl) (by kernel_rfl) (by kernel_rfl) (by rfl) (fun W hSw => by (go_simp; try rfl)) hHeld ?_
              try simp only [Act.put, List.setIfInBounds_toArray, List.set_cons_zero, List.set_cons_succ]
              refine takeH (i := 5) (d := 101) _ hq rfl rfl (by kernel_rfl) (by kernel_rfl) (by kernel_rfl) (by rfl) (fun W hSw => by (go_simp; try rfl)) hHeld ?_
              try simp only [Act.put, List.setIfInBounds_toArray, List.set_cons_zero, List.set_cons_succ]
              refine takeH (i := 6) (d := 102) _ hq rfl rfl (by kernel_rfl) (by kernel_rfl) (by kernel_rfl) (by rfl) (fun W hSw => by (go_simp; try rfl)) hHeld ?_
              try simp only [Act.put, List.setIfInBounds_toArray, List.set_cons_zero, List.set_cons_succ]
              refine takeH (i := 7) (d := 103) _ hq rfl rfl (by kernel_rfl) (by kernel_rfl) (by kernel_rfl) (by rfl) (fun W hSw => by (have s1 := (hSw.cell (b := gb) (o := ob + k) (by omega)).trans t1; go_simp; try rfl)) hHeld ?_
              try simp only [Act.put, List.setIfInBounds_toArray, List.set_cons_zero, List.set_cons_succ]
              refine wpAnyH_ready (rs := [8]) (by kernel_rfl) (by simp) ?_
              refine AllReadyH.cons rfl (fun K hK => ?_) AllReadyH.nil
              go_simp
              refine (HSM.out _ (below_drew (Below.refl _ _))).mono ?_; rintro e w7 ⟨rfl, hb8⟩; have K7 : Keep W4.heap.size W4 w7 := (Keep.drew _ _).trans (Keep.below hb8 (Nat.le_refl _)); have B7 : Below w0.heap.size w0 w7 := below_aft (below_drew hb4) hb8
              go_wp2_with fail
              refine hK.out _ _ K7 (fun hHeld => ?_)
              clear hK K
              try simp only [Act.put, List.setIfInBounds_toArray, List.set_cons_zero, List.set_cons_succ]
              refine takeH (i := 9) (d := 105) _ hq rfl rfl (by kernel_rfl) (by kernel_rfl) (by kernel_rfl) (by rfl) (fun W hSw => by (go_simp; try rfl)) hHeld ?_
              try simp only [Act.put, List.setIfInBounds_toArray, List.set_cons_zero, List.set_cons_succ]
              refine takeH (i := 10) (d := 106) _ hq rfl rfl (by kernel_rfl) (by kernel_rfl) (by kernel_rfl) (by rfl) (fun W hSw => by (go_simp; try rfl)) hHeld ?_
              try simp only [Act.put, List.setIfInBounds_toArray, List.set_cons_zero, List.set_cons_succ]
              refine wpAnyH_done (by kernel_rfl) ?_ _
              go_wp2
              exact ⟨⟨k + 1, by omega, by go_num, B7⟩, by simp [intOf]; omega⟩
          · obtain rfl : nF = k := by omega
            have A3 := A2.below hB
            obtain ⟨y0, yf⟩ := A3.one
            have B1 : Below w.heap.size w wr := below_aft B0 hB
            have h2l := A3.lt
            clear A9 HCR HT9 HR5 HR6 r0 A2 B0 hB
            by_cases hnn : 0 ≤ n ∧ n < (m0 : Int)
            case neg =>
              have HSUB : Hid (Calls Try.prog 26 #[trV (some ⟨gt, ot, none⟩) m0 cap, .int .i64 n] wr fun e w' => e = .returned (.tuple #[trV none 0 0, .int .i64 2]) ∧ Below wr.heap.size wr w') := by
                have := sub_no T n (some ⟨gt, ot, none⟩) cap wr (HT.out.below B1) HTW.out.sm (fun h => hnn (by rw [← HN.out]; exact h.2))
                rw [HN.out] at this
                exact this
              by_cases hneg : n < 0
              · clear hnn
                go_wp2_with (first
                  | (go_at_call 26; refine HSUB.out.mono ?_; rintro e w3 ⟨rfl, hb3⟩; have B3 := below_aft B1 hb3)
                  | (go_at_call 10; refine (awake_true _).mono ?_; rintro e w4 ⟨rfl, hb4⟩))
                go_ret
                exact ⟨rfl, below_aft (belA B3) hb4⟩
              · have hge : (m0 : Int) ≤ n := by omega
                clear hnn
                go_wp2_with (first
                  | (go_at_call 26; refine HSUB.out.mono ?_; rintro e w3 ⟨rfl, hb3⟩; have B3 := below_aft B1 hb3; obtain ⟨z0, zf⟩ := ((A3.below hb3).alloc (.cells #[.slice none 0 0] 24)).one)
                  | (go_at_call 10; refine (awake_true _).mono ?_; rintro e w4 ⟨rfl, hb4⟩))
                go_ret
                exact ⟨rfl, below_aft (belA B3) hb4⟩
            case pos =>
              obtain ⟨kk, rfl⟩ : ∃ kk : Nat, n = (kk : Int) := ⟨n.toNat, by omega⟩
              have hkk : kk < m0 := by omega
              obtain ⟨y, e, hsub, htw, hdp, _⟩ := HTW.out.part hkk
              obtain ⟨m, hm⟩ : ∃ m, m = 1 + e.size := ⟨_, rfl⟩
              have HTF : Hid (Tw (tr (y, e)) m y e) := by show Tw (tr (y, e)) m y e; rw [hm]; exact htw
              obtain ⟨ds, hds⟩ : ∃ ds, ds = (Fo.cons y e .nil).deep := ⟨_, rfl⟩
              obtain ⟨dt, hdt⟩ : ∃ dt, dt = (Fo.cons x c .nil).deep := ⟨_, rfl⟩
              have hle : ds ≤ dt := by rw [hds, hdt]; exact hdp
              have hlei : (ds : Int) ≤ (dt : Int) := by omega
              have HSUB : Hid (Calls Try.prog 26 #[trV (some ⟨gt, ot, none⟩) m0 cap, .int .i64 kk] wr fun e' w' => ∃ g cur, e' = .returned (.tuple #[trV (some ⟨g, 0, none⟩) m m, .int .i64 0]) ∧ OC w' wr.heap.size w'.heap.size g m (tr (y, e)) m cur ∧ Below wr.heap.size wr w') := by
                have := HTW.out.sub hkk hsub _ cap wr (HT.out.below B1) hcap
                rw [← hm] at this
                exact this
              have HSUB0 : Hid (∀ W, Below w.heap.size w W → Calls Try.prog 26 #[trV (some ⟨gt, ot, none⟩) m0 cap, .int .i64 0] W fun e' w' => ∃ g cur, e' = .returned (.tuple #[trV (some ⟨g, 0, none⟩) m0 m0, .int .i64 0]) ∧ OC w' W.heap.size w'.heap.size g m0 T m0 cur ∧ Below W.heap.size W w') := fun W hW => by
                have := HTW.out.sub (k := 0) (by omega) (y := x) (e := c) (by simp [Fo.sub]) _ cap W (HT.out.below hW) hcap
                rw [← HTW.out.l, ← HTW.out.e] at this
                exact this
              have HD : Hid ((∀ (a : Option Addr) (ca : Nat) (W : World), TAt W a (tr (y, e)) → Calls Try.prog 18 #[trV a m ca] W fun e w' => e = .returned (.int .i64 (ds : Int)) ∧ Below W.heap.size W w') ∧ (∀ (a : Option Addr) (ca : Nat) (W : World), TAt W a T → Calls Try.prog 18 #[trV a m0 ca] W fun e w' => e = .returned (.int .i64 (dt : Int)) ∧ Below W.heap.size W w')) := ⟨fun a ca W h => by rw [hds]; exact HTF.out.deepC a ca W h, fun a ca W h => by rw [hdt]; exact HTW.out.deepC a ca W h⟩
              have n0 : ¬ (kk : Int) < 0 := by omega
              have n1 : ¬ (m0 : Int) ≤ (kk : Int) := by omega
              have n2 : ¬ m0 ≤ kk := by omega
              clear hnn hsub htw hdp hm hds hdt
              go_wp2_with (first
                | (go_at_call 26; refine HSUB.out.mono ?_; rintro e w3 ⟨gs, curs, rfl, O3, hb3⟩; have B3 := belA (o := .cells #[.slice (some ⟨gs, 0, none⟩) m m] 24) (below_aft B1 hb3); have A4 := (A3.below hb3).alloc (.cells #[.slice (some ⟨gs, 0, none⟩) m m] 24); obtain ⟨z0, zf⟩ := A4.one; have S4 := At.new w3 (.cells #[.slice (some ⟨gs, 0, none⟩) m m] 24); have HO3 : Hid (OC w3 wr.heap.size w3.heap.size gs m (tr (y, e)) m curs) := O3; clear O3 HSUB)
                | (go_at_call 26; refine (HSUB0.out _ B3).mono ?_; rintro e w4 ⟨gw, curw, rfl, O4, hb4⟩; have B4 := belA (o := .cells #[.slice (some ⟨gw, 0, none⟩) m0 m0] 24) (below_aft B3 hb4); have A5 := (A4.below hb4).alloc (.cells #[.slice (some ⟨gw, 0, none⟩) m0 m0] 24); have S5 := (S4.below hb4).alloc (.cells #[.slice (some ⟨gw, 0, none⟩) m0 m0] 24); have X5 := At.new w4 (.cells #[.slice (some ⟨gw, 0, none⟩) m0 m0] 24)))
              obtain ⟨W5, hW5⟩ : ∃ W5, W5 = w4.alloc (.cells #[.slice (some ⟨gw, 0, none⟩) m0 m0] 24) := ⟨_, rfl⟩
              obtain ⟨b14, hb14⟩ : ∃ b, b = w3.heap.size := ⟨_, rfl⟩
              obtain ⟨b15, hb15⟩ : ∃ b, b = w4.heap.size := ⟨_, rfl⟩
              have O5 : TAt W5 (some ⟨gw, 0, none⟩) T := by rw [hW5]; exact (O4.tat HN.out).below (belA (Below.refl _ _))
              have O6 : TAt W5 (some ⟨gs, 0, none⟩) (tr (y, e)) := by rw [hW5]; exact (((HO3.out.tat HTF.out.ln).below (belA (Below.refl _ _))).below hb4).below (belA (Below.refl _ _))
              have Bz : Below w.heap.size w W5 := by rw [hW5]; exact B4
              have O7 : TAt W5 (some ⟨gt, ot, none⟩) T := HT.out.below Bz
              have a2 : At W5 w.heap.size (Tro (some ⟨gt, ot, none⟩) m0 cap) := by rw [hW5]; exact A5
              have a14 : At W5 b14 (Tro (some ⟨gs, 0, none⟩) m m) := by rw [hW5, hb14]; exact S5
              have a15 : At W5 b15 (Tro (some ⟨gw, 0, none⟩) m0 m0) := by rw [hW5, hb15]; exact X5
              rw [← hW5, ← hb14, ← hb15]
              clear hW5 hb14 hb15 A5 S5 X5 B4 hb4 O4 HO3 B3 A4 z0 zf S4 hb3 B1 A3 y0 yf h2l HSUB0
              have i2 := a2.one.1
              have i14 := a14.one.1
              have i15 := a15.one.1
              have l2 := a2.lt
              have l14 := a14.lt
              have l15 := a15.lt
              have HSM : Hid (∀ W, Below W5.heap.size W5 W → Calls Try.prog 34 #[trV (some ⟨gw, 0, none⟩) m0 m0, trV (some ⟨gt, ot, none⟩) m0 cap] W fun e w' => e = .returned (.bool true) ∧ Below W.heap.size W w') := fun W hW => HTW.out.sameC _ _ m0 cap W (O5.below hW) (O7.below hW)
              have HD1 : Hid (∀ W, Below W5.heap.size W5 W → Calls Try.prog 18 #[trV (some ⟨gs, 0, none⟩) m m] W fun e w' => e = .returned (.int .i64 (ds : Int)) ∧ Below W.heap.size W w') := fun W hW => HD.out.1 _ _ W (O6.below hW)
              have HD2 : Hid (∀ W, Below W5.heap.size W5 W → Calls Try.prog 18 #[trV (some ⟨gt, ot, none⟩) m0 cap] W fun e w' => e = .returned (.int .i64 (dt : Int)) ∧ Below W.heap.size W w') := fun W hW => HD.out.2 _ _ W (O7.below hW)
              clear HD O5 O6 O7 a2 a14 a15
              refine beginH (S := fun w' => Keep W5.heap.size W5 w') (fun _ _ _ _ _ h => h) (by kernel_rfl) (Keep.drew _ _) (fun hq hHeld => ?_)
              refine takeH (i := 0) (d := 138) _ hq rfl rfl (by kernel_rfl) (by kernel_rfl) (by kernel_rfl) (by rfl) (fun W hSw => by (go_simp; try rfl)) hHeld ?_
              try simp only [Act.put, List.setIfInBounds_toArray, List.set_cons_zero, List.set_cons_succ]
              refine takeH (i := 1) (d := 139) _ hq rfl rfl (by kernel_rfl) (by kernel_rfl) (by kernel_rfl) (by rfl) (fun W hSw => by (go_simp; try rfl)) hHeld ?_
              try simp only [Act.put, List.setIfInBounds_toArray, List.set_cons_zero, List.set_cons_succ]
              refine takeH (i := 2) (d := 140) _ hq rfl rfl (by kernel_rfl) (by kernel_rfl) (by kernel_rfl) (by rfl) (fun W hSw => by (go_simp; try rfl)) hHeld ?_
              try simp only [Act.put, List.setIfInBounds_toArray, List.set_cons_zero, List.set_cons_succ]
              refine takeH (i := 3) (d := 141) _ hq rfl rfl (by kernel_rfl) (by kernel_rfl) (by kernel_rfl) (by rfl) (fun W hSw => by (go_simp; try rfl)) hHeld ?_
              try simp only [Act.put, List.setIfInBounds_toArray, List.set_cons_zero, List.set_cons_succ]
              refine takeH (i := 4) (d := 142) _ hq rfl rfl (by kernel_rfl) (by kernel_rfl) (by kernel_rfl) (by rfl) (fun W hSw => by (go_simp; try rfl)) hHeld ?_
              try simp only [Act.put, List.setIfInBounds_toArray, List.set_cons_zero, List.set_cons_succ]
              refine takeH (i := 5) (d := 143) _ hq rfl rfl (by kernel_rfl) (by kernel_rfl) (by kernel_rfl) (by rfl) (fun W hSw => by (go_simp; try rfl)) hHeld ?_
              try simp only [Act.put, List.setIfInBounds_toArray, List.set_cons_zero, List.set_cons_succ]
              refine takeH (i := 6) (d := 144) _ hq rfl rfl (by kernel_rfl) (by kernel_rfl) (by kernel_rfl) (by rfl) (fun W hSw => by (go_simp; try rfl)) hHeld ?_
              try simp only [Act.put, List.setIfInBounds_toArray, List.set_cons_zero, List.set_cons_succ]
              refine takeH (i := 7) (d := 145) _ hq rfl rfl (by kernel_rfl) (by kernel_rfl) (by kernel_rfl) (by rfl) (fun W hSw => by (have s1 := (hSw.cell (b := b15) (o := 0) (by omega)).trans i15; go_simp; try rfl)) hHeld ?_
              try simp only [Act.put, List.setIfInBounds_toArray, List.set_cons_zero, List.set_cons_succ]
              refine takeH (i := 8) (d := 146) _ hq rfl rfl (by kernel_rfl) (by kernel_rfl) (by kernel_rfl) (by rfl) (fun W hSw => by (have s1 := (hSw.cell (b := w.heap.size) (o := 0) (by omega)).trans i2; go_simp; try rfl)) hHeld ?_
              try simp only [Act.put, List.setIfInBounds_toArray, List.set_cons_zero, List.set_cons_succ]
              refine wpAnyH_ready (rs := [9]) (by kernel_rfl) (by simp) ?_
              refine AllReadyH.cons rfl (fun K hK => ?_) AllReadyH.nil
              go_simp
              refine (HSM.out _ (below_drew (Below.refl _ _))).mono ?_; rintro e w6 ⟨rfl, hb6⟩; have c6 : Below W5.heap.size W5 w6 := below_aft (below_drew (Below.refl _ _)) hb6
              go_wp2_with fail
              refine hK.out _ _ (Keep.below c6 (Nat.le_refl _)) (fun hHeld => ?_)
              clear hK K
              try simp only [Act.put, List.setIfInBounds_toArray, List.set_cons_zero, List.set_cons_succ]
              refine takeH (i := 10) (d := 148) _ hq rfl rfl (by kernel_rfl) (by kernel_rfl) (by kernel_rfl) (by rfl) (fun W hSw => by (go_simp; try rfl)) hHeld ?_
              try simp only [Act.put, List.setIfInBounds_toArray, List.set_cons_zero, List.set_cons_succ]
              refine takeH (i := 11) (d := 149) _ hq rfl rfl (by kernel_rfl) (by kernel_rfl) (by kernel_rfl) (by rfl) (fun W hSw => by (go_simp; try rfl)) hHeld ?_
              try simp only [Act.put, List.setIfInBounds_toArray, List.set_cons_zero, List.set_cons_succ]
              refine takeH (i := 12) (d := 150) _ hq rfl rfl (by kernel_rfl) (by kernel_rfl) (by kernel_rfl) (by rfl) (fun W hSw => by (have s1 := (hSw.cell (b := b14) (o := 0) (by omega)).trans i14; go_simp; try rfl)) hHeld ?_
              try simp only [Act.put, List.setIfInBounds_toArray, List.set_cons_zero, List.set_cons_succ]
              refine takeH (i := 14) (d := 152) _ hq rfl rfl (by kernel_rfl) (by kernel_rfl) (by kernel_rfl) (by rfl) (fun W hSw => by (have s1 := (hSw.cell (b := w.heap.size) (o := 0) (by omega)).trans i2; go_simp; try rfl)) hHeld ?_
              try simp only [Act.put, List.setIfInBounds_toArray, List.set_cons_zero, List.set_cons_succ]
              refine wpAnyH_ready (rs := [13]) (by kernel_rfl) (by simp) ?_
              refine AllReadyH.cons rfl (fun K hK => ?_) AllReadyH.nil
              go_simp
              refine (HD1.out _ c6).mono ?_; rintro e w7 ⟨rfl, hb7⟩; have c7 : Below W5.heap.size W5 w7 := below_aft c6 hb7
              go_wp2_with fail
              refine hK.out _ _ (Keep.below c7 (Nat.le_refl _)) (fun hHeld => ?_)
              clear hK K
              try simp only [Act.put, List.setIfInBounds_toArray, List.set_cons_zero, List.set_cons_succ]
              refine wpAnyH_ready (rs := [15]) (by kernel_rfl) (by simp) ?_
              refine AllReadyH.cons rfl (fun K hK => ?_) AllReadyH.nil
              go_simp
              refine (HD2.out _ c7).mono ?_; rintro e w8 ⟨rfl, hb8⟩; have c8 : Below W5.heap.size W5 w8 := below_aft c7 hb8
              go_wp2_with fail
              refine hK.out _ _ (Keep.below c8 (Nat.le_refl _)) (fun hHeld => ?_)
              clear hK K
              try simp only [Act.put, List.setIfInBounds_toArray, List.set_cons_zero, List.set_cons_succ]
              refine takeH (i := 16) (d := 154) _ hq rfl rfl (by kernel_rfl) (by kernel_rfl) (by kernel_rfl) (by rfl) (fun W hSw => by (go_simp; try rfl)) hHeld ?_
              try simp only [Act.put, List.setIfInBounds_toArray, List.set_cons_zero, List.set_cons_succ]
              refine takeH (i := 17) (d := 155) _ hq rfl rfl (by kernel_rfl) (by kernel_rfl) (by kernel_rfl) (by rfl) (fun W hSw => by (go_simp; try rfl)) hHeld ?_
              try simp only [Act.put, List.setIfInBounds_toArray, List.set_cons_zero, List.set_cons_succ]
              refine takeH (i := 18) (d := 156) _ hq rfl rfl (by kernel_rfl) (by kernel_rfl) (by kernel_rfl) (by rfl) (fun W hSw => by (go_simp; try rfl)) hHeld ?_
              try simp only [Act.put, List.setIfInBounds_toArray, List.set_cons_zero, List.set_cons_succ]
              refine wpAnyH_ready (rs := [19]) (by kernel_rfl) (by simp) ?_
              refine AllReadyH.cons rfl (fun K hK => ?_) AllReadyH.nil
              go_simp
              refine (awake_true _).mono ?_; rintro e w9 ⟨rfl, hb9⟩; have c9 : Below W5.heap.size W5 w9 := below_aft c8 hb9
              go_wp2_with fail
              refine hK.out _ _ (Keep.below c9 (Nat.le_refl _)) (fun hHeld => ?_)
              clear hK K
              try simp only [Act.put, List.setIfInBounds_toArray, List.set_cons_zero, List.set_cons_succ]
              refine takeH (i := 20) (d := 158) _ hq rfl rfl (by kernel_rfl) (by kernel_rfl) (by kernel_rfl) (by rfl) (fun W hSw => by (go_simp; try rfl)) hHeld ?_
              try simp only [Act.put, List.setIfInBounds_toArray, List.set_cons_zero, List.set_cons_succ]
              refine takeH (i := 21) (d := 4) _ hq rfl rfl (by kernel_rfl) (by kernel_rfl) (by kernel_rfl) (by rfl) (fun W hSw => by (go_simp; try rfl)) hHeld ?_
              try simp only [Act.put, List.setIfInBounds_toArray, List.set_cons_zero, List.set_cons_succ]
              refine wpAnyH_done (by kernel_rfl) ?_ _
              go_wp2
              go_ret
              exact ⟨rfl, below_aft Bz c9⟩
end Go.Proofs.Ytkidcmglidnaoaa
