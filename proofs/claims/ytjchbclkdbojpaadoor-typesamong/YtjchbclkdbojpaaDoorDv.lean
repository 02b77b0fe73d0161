import Derived.Test.YtjchbclkdbojpaaDoorDr
import Derived.Test.YtjchbclkdbojpaaDoorDm
namespace Go.Proofs.YtjchbclkdbojpaaDoor
open Go.RowKit Go.Shelf
set_option linter.unusedVariables false
set_option linter.unusedSimpArgs false

/-- A type in blocks from one on, however much room they have. -/
inductive TyF (w : World) (lo : Nat) : Fv → Ch → Prop
  | leaf (k : Nat) (s : Int) (a : Option Addr) (cap : Nat) : TyF w lo ⟨k, false, 0, s, a, 0, cap⟩ (.leaf k s)
  | box (g off cap : Nat) (f : Fv) (c : Ch) (hg : lo ≤ g) (h : C5 w g off f) (hc : TyF w lo f c) : TyF w lo ⟨3, false, 0, 0, some ⟨g, off, none⟩, 1, cap⟩ (.box c)
  | ref (m : Bool) (r : Int) (g off cap : Nat) (f : Fv) (c : Ch) (hg : lo ≤ g) (h : C5 w g off f) (hc : TyF w lo f c) : TyF w lo ⟨4, m, r, 0, some ⟨g, off, none⟩, 1, cap⟩ (.ref m r c)
theorem TyF.keep {w w' : World} {lo : Nat} (hk : ∀ g, lo ≤ g → g < w.heap.size → w'.heap[g]? = w.heap[g]?) (hs : w.heap.size ≤ w'.heap.size) {f : Fv} {c : Ch} (h : TyF w lo f c) : TyF w' lo f c := by
  have key : ∀ {g off : Nat} {f : Fv}, lo ≤ g → C5 w g off f → C5 w' g off f := fun {g off f} hg h => by
    obtain ⟨h0, h1, h2, h3, h4, h5⟩ := h
    have hc : ∀ o, w'.cell? ⟨g, o, none⟩ = w.cell? ⟨g, o, none⟩ := fun o => by
      unfold World.cell?
      simp only [hk g hg h0]
    exact ⟨Nat.lt_of_lt_of_le h0 hs, (hc _).trans h1, (hc _).trans h2, (hc _).trans h3, (hc _).trans h4, (hc _).trans h5⟩
  induction h with
  | leaf k s a cap => exact .leaf k s a cap
  | box g off cap f c hg h hc ih => exact .box g off cap f c hg (key hg h) ih
  | ref m r g off cap f c hg h hc ih => exact .ref m r g off cap f c hg (key hg h) ih
theorem TyF.bel {w w' : World} {lo : Nat} {f : Fv} {c : Ch} (h : TyF w lo f c) (k : Below w.heap.size w w') : TyF w' lo f c := h.keep (fun g _ hg => k.block g hg) k.size
theorem TyF.low {w : World} {lo lo' : Nat} (hl : lo' ≤ lo) {f : Fv} {c : Ch} (h : TyF w lo f c) : TyF w lo' f c := by
  induction h with
  | leaf k s a cap => exact .leaf k s a cap
  | box g off cap f c hg h hc ih => exact .box g off cap f c (Nat.le_trans hl hg) h ih
  | ref m r g off cap f c hg h hc ih => exact .ref m r g off cap f c (Nat.le_trans hl hg) h ih
theorem TyF.ty {w : World} {lo : Nat} {f : Fv} {c : Ch} (h : TyF w lo f c) : c.rg → TyAt w f c.ty := by
  induction h with
  | leaf k s a cap => exact fun hr => TyAt.mkLeaf k s hr.1 hr.2.1 hr.2.2 a cap
  | box g off cap f c hg h hc ih => exact fun hr => TyAt.mkOne 3 false 0 0 (by omega) (by omega) (by omega) (by omega) (by omega) g off cap f _ h (ih hr)
  | ref m r g off cap f c hg h hc ih => exact fun hr => TyAt.mkOne 4 m r 0 (by omega) hr.1.1 hr.1.2 (by omega) (by omega) g off cap f _ h (ih hr.2)
theorem Tryd.results61 : Tryd.f61.results = #[.cell 2 26] := rfl
def ROwn (c : Ch) : Prop := ∀ (f : Fv) (w : World), TyAt w f c.ty → Calls Tryd.prog 61 #[f.v] w fun e w' => ∃ f' : Fv, e = .returned f'.v ∧ TyF w' w.heap.size f' c ∧ Below w.heap.size w w'
set_option maxRecDepth 100000 in
set_option maxHeartbeats 1000000 in
theorem rown_leaf (k : Nat) (s : Int) : ROwn (.leaf k s) := by
  intro f w h
  obtain ⟨a, cap, rfl, -⟩ := h.leaf
  show Calls Tryd.prog 61 #[tyV k false 0 s a 0 cap] w _
  clear h
  go_enter Tryd.func61, Tryd.ntmps61
  go_wp2_with fail
  go_loopw [4] (fun v W => v = .int .i64 0 ∧ Below w.heap.size w W ∧ At W w.heap.size (tyO k false 0 s none 0 0) ∧ At W (w.heap.size + 1) (tyO 0 false 0 0 none 0 0)) (fun _ _ => 0)
  case atStart =>
    exact ⟨rfl, belA (belA (Below.refl _ _)), (At.new _ _).alloc _, at_snd _ _ _⟩
  case round =>
    obtain ⟨rfl, hB, h1, h2⟩ := hrel
    obtain ⟨hl1, p0, p1, p2, p3, p4⟩ := At.ty (f := ⟨k, false, 0, s, none, 0, 0⟩) h1
    have g0 := At.tyF (f := ⟨0, false, 0, 0, none, 0, 0⟩) h2 0
    have g1 := At.tyF (f := ⟨0, false, 0, 0, none, 0, 0⟩) h2 1
    have g2 := At.tyF (f := ⟨0, false, 0, 0, none, 0, 0⟩) h2 2
    have g3 := At.tyF (f := ⟨0, false, 0, 0, none, 0, 0⟩) h2 3
    have g4 := At.tyF (f := ⟨0, false, 0, 0, none, 0, 0⟩) h2 4
    obtain ⟨hl2, q0, q1, q2, q3, q4⟩ := At.ty (f := ⟨0, false, 0, 0, none, 0, 0⟩) h2
    simp only [Nat.zero_add] at p0 p1 p2 p3 p4 q0 q1 q2 q3 q4
    have HB := hidD hB
    have H2 := hidD h2
    clear hB h1 h2
    go_wp2_with fail
    have F := (At.set5 (f := ⟨0, false, 0, 0, none, 0, 0⟩) H2.out ⟨k, false, 0, s, none, 0, 0⟩).ty
    have FB := below_s5 HB.out (b := w.heap.size + 1) (by omega) ⟨k, false, 0, s, none, 0, 0⟩
    exact bodyPost_ret (results_c1 (g := ⟨k, false, 0, s, none, 0, 0⟩) Tryd.results61 rfl F) rfl ⟨⟨k, false, 0, s, none, 0, 0⟩, rfl, .leaf k s none 0, FB⟩
theorem wp_append_two {P : Program} (w : World) {o : Oper} {a : Act} {K : Act → World → Prop} {Q : Exit → Act → World → Prop} (s x : Operand) (t : TypeId)
    (ho : o.op = Op.call { callee := Callee.builtin Builtin.append, args := #[s, x], argTypes := #[t, t] })
    (base : Nat) (e : TypeId) (i : TypeInfo) (z : Value) (size bytes : Nat) (ht : P.underlying t = some (.slice e)) (hi : P.info? e = some i) (hz : i.zero = some z)
    (hsize : i.size = size) (hby : i.bytes = bytes) (hzs : z.cells.size = size) (hsz : 0 < size)
    (v : Value) (n : Nat) (xs : List Value) (hs : a.eval s = v) (hown : w.ownsRow base e size v n xs)
    (ad : Addr) (m c : Nat) (news : List Value) (hm : 0 < m) (hx : a.eval x = .slice (some ad) m c) (hl : news.length = m * size) (hnews : ∀ j u, news[j]? = some u → w.cell? (ad.add j) = some u) (h1 : ∀ u ∈ news, u.oneCell' = true)
    (h63 : n + m ≤ maxLen) (hbytes : (n + m) * bytes ≤ 140737488355328) (hbase : base ≤ w.heap.size)
    (h : ∀ v' w', w'.ownsRow base e size v' (n + m) (xs ++ news) → w.grownBy w' v.ownBlock → (∀ b, v'.ownBlock = some b → v.ownBlock = some b ∨ b = w.heap.size) → K (a.put o.dst v') w') : o.wp P a w K Q := by
  obtain ⟨v', w', hr, h2, h3, h4⟩ := run_append_own (P := P) w base t o.type e i z size bytes ht hi hz hsize hby hzs hsz v n xs hown ad m c news hl hnews h1 h63 hbytes hbase
  have h5 := append_where (P := P) w base t o.type e i z size bytes ht hi hz hsize hby v n xs hown ad m c news hm hl hnews h1 h63 hbytes hr
  unfold Oper.wp
  simp [execOp, ho, resolve, invoke, builtin, hs, hx, hr, Result.andThen]
  exact h v' w' h2 h3 h5
theorem C5.drew5 {w : World} {g o : Nat} {f : Fv} (h : C5 w g o f) : C5 w.drew g o f := h
theorem c5_set {w : World} {g o b : Nat} {f : Fv} (h : C5 w g o f) (hn : g ≠ b) (v : Value) {q : Nat} : C5 (w.setCell ⟨b, q, none⟩ v) g o f := by
  obtain ⟨h0, h1, h2, h3, h4, h5⟩ := h
  have hc : ∀ o, (w.setCell ⟨b, q, none⟩ v).cell? ⟨g, o, none⟩ = w.cell? ⟨g, o, none⟩ := fun o => by
    unfold World.cell?
    simp only [Below.heap_setCell w ⟨b, q, none⟩ v g hn]
  exact ⟨by simpa using h0, (hc _).trans h1, (hc _).trans h2, (hc _).trans h3, (hc _).trans h4, (hc _).trans h5⟩
/-- What holds between the two rounds. -/
structure OwM (w : World) (k : Nat) (m : Bool) (r : Int) (c : Ch) (i : Nat) (Z : World) : Prop where
  bel : Below w.heap.size w Z
  res : At Z (w.heap.size + 1) (tyO 0 false 0 0 none 0 0)
  zero : i = 0 → At Z w.heap.size (tyO k m r 0 none 0 0)
  one : i = 1 → ∃ g' cap' f', w.heap.size + 1 < g' ∧ At Z w.heap.size (tyO k m r 0 (some ⟨g', 0, none⟩) 1 cap') ∧ C5 Z g' 0 f' ∧ TyF Z (w.heap.size + 2) f' c
theorem own_fin {w wr w2 w3 : World} {k : Nat} {m : Bool} {r : Int} {c : Ch} {f2 : Fv} {g9 cap9 : Nat} (hB : Below w.heap.size w wr) (B2 : Below wr.heap.size wr w2) (B3 : Below w2.heap.size w2 w3) (A1 : At w3 w.heap.size (Fv.o ⟨k, m, r, 0, none, 0, 0⟩)) (A2 : At w3 (w.heap.size + 1) (Fv.o ⟨0, false, 0, 0, none, 0, 0⟩)) (hT : TyF w2 wr.heap.size f2 c)
    (ho : w3.ownsRow w.heap.size 26 5 (.slice (some ⟨g9, 0, none⟩) 1 cap9) 1 (c5 f2)) (hg : g9 = w2.heap.size + 1) (hs : w.heap.size + 2 ≤ wr.heap.size) : OwM w k m r c 1 (w3.setCell ⟨w.heap.size, 4, none⟩ (.slice (some ⟨g9, 0, none⟩) 1 cap9)) := by
  have s2 := B2.size
  have hne : ∀ i, i ≠ w.heap.size → ∀ o, At w3 i o → At (w3.setCell ⟨w.heap.size, 4, none⟩ (.slice (some ⟨g9, 0, none⟩) 1 cap9)) i o := fun i hi o h => h.set (a := ⟨w.heap.size, 4, none⟩) hi _
  refine ⟨(below_aft (below_aft hB B2) B3).setCell (p := ⟨w.heap.size, 4, none⟩) (Nat.le_refl _) _, hne _ (by omega) _ A2, fun e => (by cases e), fun _ => ⟨g9, cap9, f2, by omega, ?_, ?_, ?_⟩⟩
  · have := heap_setCell_same w3 w.heap.size 4 #[.int .u8 (k : Int), .bool m, .int .i64 r, .int .i64 0, .slice none 0 0] 26 (.slice (some ⟨g9, 0, none⟩) 1 cap9) A1
    unfold At
    simpa using this
  · have key : ∀ j, j < 5 → w3.cell? ⟨g9, 0 + j, none⟩ = (c5 f2)[j]? := fun j hj => by
      rw [Nat.zero_add, ho.cellAt j (by omega)]
    have hlt := (ho.lt g9 rfl).2
    exact c5_set (⟨hlt, key 0 (by omega), key 1 (by omega), key 2 (by omega), key 3 (by omega), key 4 (by omega)⟩ : C5 w3 g9 0 f2) (by omega) _
  · refine ((hT.bel B3).low hs).keep (fun g hg' hgl => ?_) (by simp)
    exact Below.heap_setCell w3 ⟨w.heap.size, 4, none⟩ _ g (by show g ≠ w.heap.size; omega)
set_option maxRecDepth 100000 in
set_option maxHeartbeats 4000000 in
theorem rown_one (k : Nat) (m : Bool) (r : Int) (c : Ch) (ih : ROwn c) (f : Fv) (g off cap : Nat) (w : World) (hC : C5 w g off f) (hT : TyAt w f c.ty) :
    Calls Tryd.prog 61 #[tyV k m r 0 (some ⟨g, off, none⟩) 1 cap] w fun e w' => ∃ g' cap' f', e = .returned (tyV k m r 0 (some ⟨g', 0, none⟩) 1 cap') ∧ w.heap.size ≤ g' ∧ C5 w' g' 0 f' ∧ TyF w' w.heap.size f' c ∧ Below w.heap.size w w' := by
  obtain ⟨i0, hi, hz0, hz1, hz2⟩ := info_parts Tryd.info26
  have IHH : Hid (∀ W, Below w.heap.size w W → Calls Tryd.prog 61 #[f.v] W fun e w' => ∃ f' : Fv, e = .returned f'.v ∧ TyF w' W.heap.size f' c ∧ Below W.heap.size W w') := hidD (fun W hW => ih f W (hT.bel hW))
  have HC := hidD hC
  have HG := hidD hC.1
  clear hC hT ih
  go_enter Tryd.func61, Tryd.ntmps61
  go_wp2_with fail
  go_loopw [4] (fun v Z => ∃ i : Nat, i ≤ 1 ∧ v = .int .i64 i ∧ OwM w k m r c i Z) (fun v _ => 1 - (intOf v).toNat)
  case atStart => exact ⟨0, by omega, rfl, belA (belA (Below.refl _ _)), at_snd _ _ _, fun _ => (At.new _ _).alloc _, fun e => by cases e⟩
  case round =>
    obtain ⟨i, hi1, rfl, hM⟩ := hrel
    have h01 : i = 0 ∨ i = 1 := by omega
    rcases h01 with rfl | rfl
    · have HB := hidD hM.bel
      have HA1 : Hid (At wr w.heap.size (Fv.o ⟨k, m, r, 0, none, 0, 0⟩)) := hidD (hM.zero rfl)
      have HA2 : Hid (At wr (w.heap.size + 1) (Fv.o ⟨0, false, 0, 0, none, 0, 0⟩)) := hidD hM.res
      have HCC := hidD (HC.out.below hM.bel)
      have IH := hidD (fun W (hW : Below w.heap.size w W) => IHH.out W hW)
      rw [show ((0 : Nat) : Int) = (0 : Int) from rfl]
      clear hM IHH HC
      go_wp2_with fail
      refine beginH (S := (fun W' => C5 W' g off f)) (fun _ _ _ _ _ h => h) (by kernel_rfl) HCC.out.drew5 (fun hq hHeld => ?_)
      refine takeH (i := 0) (d := 14) _ hq rfl rfl (by kernel_rfl) (by kernel_rfl) (by kernel_rfl) (by rfl) (fun W hSw => by (go_simp; try rfl)) hHeld ?_
      try simp only [Act.put, List.setIfInBounds_toArray, List.set_cons_zero, List.set_cons_succ]
      refine takeH (i := 2) (d := 16) (.slice (some ⟨g, off, none⟩) 1 cap) hq rfl rfl (by kernel_rfl) (by kernel_rfl) (by kernel_rfl) (by rfl) (fun W hSw => by (go_simp; try rfl)) hHeld ?_
      try simp only [Act.put, List.setIfInBounds_toArray, List.set_cons_zero, List.set_cons_succ]
      refine takeH (i := 3) (d := 17) (.int .i64 0) hq rfl rfl (by kernel_rfl) (by kernel_rfl) (by kernel_rfl) (by rfl) (fun W hSw => by (go_simp; try rfl)) hHeld ?_
      try simp only [Act.put, List.setIfInBounds_toArray, List.set_cons_zero, List.set_cons_succ]
      refine takeH (i := 4) (d := 18) (.pointer (some ⟨g, off, none⟩)) hq rfl rfl (by kernel_rfl) (by kernel_rfl) (by kernel_rfl) (by rfl) (fun W hSw => by (go_simp; try rfl)) hHeld ?_
      try simp only [Act.put, List.setIfInBounds_toArray, List.set_cons_zero, List.set_cons_succ]
      refine takeH (i := 5) (d := 19) f.v hq rfl rfl (by kernel_rfl) (by kernel_rfl) (by kernel_rfl) (by rfl) (fun W hSw => by (obtain ⟨-, p0, p1, p2, p3, p4⟩ := hSw; go_simp; try rfl)) hHeld ?_
      try simp only [Act.put, List.setIfInBounds_toArray, List.set_cons_zero, List.set_cons_succ]
      refine wpAnyH_ready (rs := [1, 6]) (by kernel_rfl) (by simp) ?_
      refine AllReadyH.cons rfl (fun K hK => ?_) (AllReadyH.cons rfl (fun K hK => ?_) AllReadyH.nil)
      · have L4 := (HA1.out.drew).ty.2.2.2.2.2
        have L5 := (HA1.out.drew).lt
        simp only [Nat.zero_add] at L4
        go_simp
        go_wp2_with fail
        clear L4 L5
        refine hK.out _ _ HCC.out.drew5 (fun hHeld => ?_)
        clear hK K
        try simp only [Act.put, List.setIfInBounds_toArray, List.set_cons_zero, List.set_cons_succ]
        refine wpAnyH_ready (rs := [6]) (by kernel_rfl) (by simp) ?_
        refine AllReadyH.cons rfl (fun K hK => ?_) AllReadyH.nil
        go_simp
        refine (IH.out _ (HB.out).drew).mono ?_
        rintro e w2 ⟨f2, rfl, hT2, hb2⟩
        have B2 : Below wr.heap.size wr w2 := undrew hb2
        have A1b := HA1.out.below B2
        have A2b := HA2.out.below B2
        have C2 := HCC.out.below B2
        go_wp2_with fail
        refine hK.out _ _ C2 (fun hHeld => ?_)
        clear hK K
        try simp only [Act.put, List.setIfInBounds_toArray, List.set_cons_zero, List.set_cons_succ]
        refine wpAnyH_ready (rs := [7]) (by kernel_rfl) (by simp) ?_
        refine AllReadyH.cons rfl (fun K hK => ?_) AllReadyH.nil
        go_simp
        go_wp2_with fail
        refine hK.out _ _ (C2.below (belA (Below.refl _ _))) (fun hHeld => ?_)
        clear hK K
        try simp only [Act.put, List.setIfInBounds_toArray, List.set_cons_zero, List.set_cons_succ]
        refine wpAnyH_ready (rs := [8]) (by kernel_rfl) (by simp) ?_
        refine AllReadyH.cons rfl (fun K hK => ?_) AllReadyH.nil
        rw [if_pos (by rfl)]
        refine wp_append_two (w2.alloc f2.o) (.tmp 15) (.tmp 21) 24 rfl w.heap.size 26 i0 (.agg #[.int .u8 0, .bool false, .int .i64 0, .int .i64 0, .slice none 0 0]) 5 48 Tryd.underlying24 hi hz0 hz1 hz2 rfl (by decide) (.slice none 0 0) 0 [] rfl (World.ownsRow_nil _ _ _ _) ⟨w2.heap.size, 0, none⟩ 1 1 (c5 f2) (by decide) rfl rfl (c5_new (At.new w2 f2.o)) (c5_ones f2) (by unfold maxLen; omega) (by omega) (by have := HB.out.size; have := B2.size; simp; omega) ?_
        intro v9 w3 ho9 hg9 hw9
        change K (Act.put _ (some 22) v9) w3
        have B3 : Below w2.heap.size w2 w3 := below1 (below_of_grown hg9)
        have A1c := A1b.below B3
        have A2c := A2b.below B3
        have C3 := C2.below B3
        refine hK.out _ _ C3 (fun hHeld => ?_)
        clear hK K
        try simp only [Act.put, List.setIfInBounds_toArray, List.set_cons_zero, List.set_cons_succ]
        obtain ⟨g9, cap9, hv9⟩ := own_is ho9 (by omega)
        subst hv9
        obtain rfl : g9 = w2.heap.size + 1 := by
          rcases hw9 g9 rfl with e | e
          · cases e
          · simpa using e
        refine takeH (i := 9) (d := 23) _ hq rfl rfl (by kernel_rfl) (by kernel_rfl) (by kernel_rfl) (by rfl) (fun W hSw => by (go_simp; try rfl)) hHeld ?_
        try simp only [Act.put, List.setIfInBounds_toArray, List.set_cons_zero, List.set_cons_succ]
        refine wpAnyH_ready (rs := [10]) (by kernel_rfl) (by simp) ?_
        refine AllReadyH.cons rfl (fun K hK => ?_) AllReadyH.nil
        have L4 := A1c.ty.2.2.2.2.2
        have L5 := A1c.lt
        have L6 := A1c.tyF 4
        simp only [Nat.zero_add] at L4
        go_simp
        go_wp2_with fail
        clear L4 L6
        have ng : g ≠ w.heap.size := by have := HG.out; omega
        have C4 : C5 (w3.setCell ⟨w.heap.size, 4, none⟩ (.slice (some ⟨w2.heap.size + 1, 0, none⟩) 1 cap9)) g off f := c5_set C3 ng _
        refine hK.out _ _ C4 (fun hHeld => ?_)
        clear hK K
        try simp only [Act.put, List.setIfInBounds_toArray, List.set_cons_zero, List.set_cons_succ]
        refine wpAnyH_done (by kernel_rfl) ?_ _
        have FIN := hidD (own_fin HB.out B2 B3 A1c A2c hT2 ho9 rfl (by have := HA2.out.lt; omega))
        clear hHeld hq ho9 hg9 hw9 A1c A2c A1b A2b B2 B3 C2 C3 C4 hT2 hb2 L5
        go_wp2_with fail
        exact ⟨⟨1, Nat.le_refl _, by go_num, FIN.out⟩, by simp [intOf]⟩
      · go_simp
        refine (IH.out _ (HB.out).drew).mono ?_
        rintro e w2 ⟨f2, rfl, hT2, hb2⟩
        have B2 : Below wr.heap.size wr w2 := undrew hb2
        have A1b := HA1.out.below B2
        have A2b := HA2.out.below B2
        have C2 := HCC.out.below B2
        go_wp2_with fail
        refine hK.out _ _ C2 (fun hHeld => ?_)
        clear hK K
        try simp only [Act.put, List.setIfInBounds_toArray, List.set_cons_zero, List.set_cons_succ]
        refine wpAnyH_ready (rs := [1, 7]) (by kernel_rfl) (by simp) ?_
        refine AllReadyH.cons rfl (fun K hK => ?_) (AllReadyH.cons rfl (fun K hK => ?_) AllReadyH.nil)
        · have L4 := (A1b).ty.2.2.2.2.2
          have L5 := (A1b).lt
          simp only [Nat.zero_add] at L4
          go_simp
          go_wp2_with fail
          clear L4 L5
          refine hK.out _ _ C2 (fun hHeld => ?_)
          clear hK K
          try simp only [Act.put, List.setIfInBounds_toArray, List.set_cons_zero, List.set_cons_succ]
          refine wpAnyH_ready (rs := [7]) (by kernel_rfl) (by simp) ?_
          refine AllReadyH.cons rfl (fun K hK => ?_) AllReadyH.nil
          go_simp
          go_wp2_with fail
          refine hK.out _ _ (C2.below (belA (Below.refl _ _))) (fun hHeld => ?_)
          clear hK K
          try simp only [Act.put, List.setIfInBounds_toArray, List.set_cons_zero, List.set_cons_succ]
          refine wpAnyH_ready (rs := [8]) (by kernel_rfl) (by simp) ?_
          refine AllReadyH.cons rfl (fun K hK => ?_) AllReadyH.nil
          rw [if_pos (by rfl)]
          refine wp_append_two (w2.alloc f2.o) (.tmp 15) (.tmp 21) 24 rfl w.heap.size 26 i0 (.agg #[.int .u8 0, .bool false, .int .i64 0, .int .i64 0, .slice none 0 0]) 5 48 Tryd.underlying24 hi hz0 hz1 hz2 rfl (by decide) (.slice none 0 0) 0 [] rfl (World.ownsRow_nil _ _ _ _) ⟨w2.heap.size, 0, none⟩ 1 1 (c5 f2) (by decide) rfl rfl (c5_new (At.new w2 f2.o)) (c5_ones f2) (by unfold maxLen; omega) (by omega) (by have := HB.out.size; have := B2.size; simp; omega) ?_
          intro v9 w3 ho9 hg9 hw9
          change K (Act.put _ (some 22) v9) w3
          have B3 : Below w2.heap.size w2 w3 := below1 (below_of_grown hg9)
          have A1c := A1b.below B3
          have A2c := A2b.below B3
          have C3 := C2.below B3
          refine hK.out _ _ C3 (fun hHeld => ?_)
          clear hK K
          try simp only [Act.put, List.setIfInBounds_toArray, List.set_cons_zero, List.set_cons_succ]
          obtain ⟨g9, cap9, hv9⟩ := own_is ho9 (by omega)
          subst hv9
          obtain rfl : g9 = w2.heap.size + 1 := by
            rcases hw9 g9 rfl with e | e
            · cases e
            · simpa using e
          refine takeH (i := 9) (d := 23) _ hq rfl rfl (by kernel_rfl) (by kernel_rfl) (by kernel_rfl) (by rfl) (fun W hSw => by (go_simp; try rfl)) hHeld ?_
          try simp only [Act.put, List.setIfInBounds_toArray, List.set_cons_zero, List.set_cons_succ]
          refine wpAnyH_ready (rs := [10]) (by kernel_rfl) (by simp) ?_
          refine AllReadyH.cons rfl (fun K hK => ?_) AllReadyH.nil
          have L4 := A1c.ty.2.2.2.2.2
          have L5 := A1c.lt
          have L6 := A1c.tyF 4
          simp only [Nat.zero_add] at L4
          go_simp
          go_wp2_with fail
          clear L4 L6
          have ng : g ≠ w.heap.size := by have := HG.out; omega
          have C4 : C5 (w3.setCell ⟨w.heap.size, 4, none⟩ (.slice (some ⟨w2.heap.size + 1, 0, none⟩) 1 cap9)) g off f := c5_set C3 ng _
          refine hK.out _ _ C4 (fun hHeld => ?_)
          clear hK K
          try simp only [Act.put, List.setIfInBounds_toArray, List.set_cons_zero, List.set_cons_succ]
          refine wpAnyH_done (by kernel_rfl) ?_ _
          have FIN := hidD (own_fin HB.out B2 B3 A1c A2c hT2 ho9 rfl (by have := HA2.out.lt; omega))
          clear hHeld hq ho9 hg9 hw9 A1c A2c A1b A2b B2 B3 C2 C3 C4 hT2 hb2 L5
          go_wp2_with fail
          exact ⟨⟨1, Nat.le_refl _, by go_num, FIN.out⟩, by simp [intOf]⟩
        · go_simp
          go_wp2_with fail
          refine hK.out _ _ (C2.below (belA (Below.refl _ _))) (fun hHeld => ?_)
          clear hK K
          try simp only [Act.put, List.setIfInBounds_toArray, List.set_cons_zero, List.set_cons_succ]
          refine wpAnyH_ready (rs := [1]) (by kernel_rfl) (by simp) ?_
          refine AllReadyH.cons rfl (fun K hK => ?_) AllReadyH.nil
          have L4 := ((A1b.alloc f2.o)).ty.2.2.2.2.2
          have L5 := ((A1b.alloc f2.o)).lt
          simp only [Nat.zero_add] at L4
          go_simp
          go_wp2_with fail
          clear L4 L5
          refine hK.out _ _ (C2.below (belA (Below.refl _ _))) (fun hHeld => ?_)
          clear hK K
          try simp only [Act.put, List.setIfInBounds_toArray, List.set_cons_zero, List.set_cons_succ]
          refine wpAnyH_ready (rs := [8]) (by kernel_rfl) (by simp) ?_
          refine AllReadyH.cons rfl (fun K hK => ?_) AllReadyH.nil
          rw [if_pos (by rfl)]
          refine wp_append_two (w2.alloc f2.o) (.tmp 15) (.tmp 21) 24 rfl w.heap.size 26 i0 (.agg #[.int .u8 0, .bool false, .int .i64 0, .int .i64 0, .slice none 0 0]) 5 48 Tryd.underlying24 hi hz0 hz1 hz2 rfl (by decide) (.slice none 0 0) 0 [] rfl (World.ownsRow_nil _ _ _ _) ⟨w2.heap.size, 0, none⟩ 1 1 (c5 f2) (by decide) rfl rfl (c5_new (At.new w2 f2.o)) (c5_ones f2) (by unfold maxLen; omega) (by omega) (by have := HB.out.size; have := B2.size; simp; omega) ?_
          intro v9 w3 ho9 hg9 hw9
          change K (Act.put _ (some 22) v9) w3
          have B3 : Below w2.heap.size w2 w3 := below1 (below_of_grown hg9)
          have A1c := A1b.below B3
          have A2c := A2b.below B3
          have C3 := C2.below B3
          refine hK.out _ _ C3 (fun hHeld => ?_)
          clear hK K
          try simp only [Act.put, List.setIfInBounds_toArray, List.set_cons_zero, List.set_cons_succ]
          obtain ⟨g9, cap9, hv9⟩ := own_is ho9 (by omega)
          subst hv9
          obtain rfl : g9 = w2.heap.size + 1 := by
            rcases hw9 g9 rfl with e | e
            · cases e
            · simpa using e
          refine takeH (i := 9) (d := 23) _ hq rfl rfl (by kernel_rfl) (by kernel_rfl) (by kernel_rfl) (by rfl) (fun W hSw => by (go_simp; try rfl)) hHeld ?_
          try simp only [Act.put, List.setIfInBounds_toArray, List.set_cons_zero, List.set_cons_succ]
          refine wpAnyH_ready (rs := [10]) (by kernel_rfl) (by simp) ?_
          refine AllReadyH.cons rfl (fun K hK => ?_) AllReadyH.nil
          have L4 := A1c.ty.2.2.2.2.2
          have L5 := A1c.lt
          have L6 := A1c.tyF 4
          simp only [Nat.zero_add] at L4
          go_simp
          go_wp2_with fail
          clear L4 L6
          have ng : g ≠ w.heap.size := by have := HG.out; omega
          have C4 : C5 (w3.setCell ⟨w.heap.size, 4, none⟩ (.slice (some ⟨w2.heap.size + 1, 0, none⟩) 1 cap9)) g off f := c5_set C3 ng _
          refine hK.out _ _ C4 (fun hHeld => ?_)
          clear hK K
          try simp only [Act.put, List.setIfInBounds_toArray, List.set_cons_zero, List.set_cons_succ]
          refine wpAnyH_done (by kernel_rfl) ?_ _
          have FIN := hidD (own_fin HB.out B2 B3 A1c A2c hT2 ho9 rfl (by have := HA2.out.lt; omega))
          clear hHeld hq ho9 hg9 hw9 A1c A2c A1b A2b B2 B3 C2 C3 C4 hT2 hb2 L5
          go_wp2_with fail
          exact ⟨⟨1, Nat.le_refl _, by go_num, FIN.out⟩, by simp [intOf]⟩

    · have HB := hidD hM.bel
      obtain ⟨g', cap', f', hg', h1, h5, hTF⟩ := hM.one rfl
      have h2 := hM.res
      obtain ⟨hl1, p0, p1, p2, p3, p4⟩ := At.ty (f := ⟨k, m, r, 0, some ⟨g', 0, none⟩, 1, cap'⟩) h1
      have g0 := At.tyF (f := ⟨0, false, 0, 0, none, 0, 0⟩) h2 0
      have g1 := At.tyF (f := ⟨0, false, 0, 0, none, 0, 0⟩) h2 1
      have g2 := At.tyF (f := ⟨0, false, 0, 0, none, 0, 0⟩) h2 2
      have g3 := At.tyF (f := ⟨0, false, 0, 0, none, 0, 0⟩) h2 3
      have g4 := At.tyF (f := ⟨0, false, 0, 0, none, 0, 0⟩) h2 4
      obtain ⟨hl2, q0, q1, q2, q3, q4⟩ := At.ty (f := ⟨0, false, 0, 0, none, 0, 0⟩) h2
      simp only [Nat.zero_add] at p0 p1 p2 p3 p4 q0 q1 q2 q3 q4
      have H2 := hidD h2
      have H5 := hidD h5
      have HTF := hidD hTF
      have HGG := hidD hg'
      clear hM h1 h2 h5 hTF hg'
      go_wp2_with fail
      have F := (At.set5 (f := ⟨0, false, 0, 0, none, 0, 0⟩) H2.out ⟨k, m, r, 0, some ⟨g', 0, none⟩, 1, cap'⟩).ty
      have FB := below_s5 HB.out (b := w.heap.size + 1) (by omega) ⟨k, m, r, 0, some ⟨g', 0, none⟩, 1, cap'⟩
      have hgg := HGG.out
      have F5 : C5 (S5 wr (w.heap.size + 1) ⟨k, m, r, 0, some ⟨g', 0, none⟩, 1, cap'⟩) g' 0 f' := c5_set (c5_set (c5_set (c5_set (c5_set H5.out (by omega) _) (by omega) _) (by omega) _) (by omega) _) (by omega) _
      have FT : TyF (S5 wr (w.heap.size + 1) ⟨k, m, r, 0, some ⟨g', 0, none⟩, 1, cap'⟩) w.heap.size f' c := (HTF.out.keep (fun x hx _ => by
        have e : ∀ (W : World) (q : Nat) (v : Value), (W.setCell ⟨w.heap.size + 1, q, none⟩ v).heap[x]? = W.heap[x]? := fun W q v => Below.heap_setCell W ⟨w.heap.size + 1, q, none⟩ v x (by show x ≠ w.heap.size + 1; omega)
        exact (e _ _ _).trans ((e _ _ _).trans ((e _ _ _).trans ((e _ _ _).trans (e _ _ _))))) (by simp)).low (by omega)
      exact bodyPost_ret (results_c1 (g := ⟨k, m, r, 0, some ⟨g', 0, none⟩, 1, cap'⟩) Tryd.results61 rfl F) rfl ⟨g', cap', f', rfl, by omega, F5, FT, FB⟩
/-- The reference's Own (61). -/
theorem rown_any : ∀ c : Ch, ROwn c
  | .leaf k s => rown_leaf k s
  | .box c => by
    intro f w h
    obtain ⟨g, off, cap, f1, rfl, hC, hT⟩ := h.box
    refine (rown_one 3 false 0 c (rown_any c) f1 g off cap w hC hT).mono ?_
    rintro e w' ⟨g', cap', f', rfl, h1, h2, h3, h4⟩
    exact ⟨⟨3, false, 0, 0, some ⟨g', 0, none⟩, 1, cap'⟩, rfl, .box g' 0 cap' f' c h1 h2 h3, h4⟩
  | .ref m r c => by
    intro f w h
    obtain ⟨g, off, cap, f1, rfl, hC, hT, -⟩ := h.ref
    refine (rown_one 4 m r c (rown_any c) f1 g off cap w hC hT).mono ?_
    rintro e w' ⟨g', cap', f', rfl, h1, h2, h3, h4⟩
    exact ⟨⟨4, m, r, 0, some ⟨g', 0, none⟩, 1, cap'⟩, rfl, .ref m r g' 0 cap' f' c h1 h2 h3, h4⟩
end Go.Proofs.YtjchbclkdbojpaaDoor
namespace Go.Proofs.YtjchbclkdbojpaaDoor
open Go.RowKit Go.Shelf
set_option linter.unusedVariables false
set_option linter.unusedSimpArgs false

/-- A type in such blocks. -/
inductive TyP (w : World) (P : Nat → Prop) : Fv → Ch → Prop
  | leaf (k : Nat) (s : Int) (a : Option Addr) (cap : Nat) : TyP w P ⟨k, false, 0, s, a, 0, cap⟩ (.leaf k s)
  | box (g off cap : Nat) (f : Fv) (c : Ch) (hg : P g) (h : C5 w g off f) (hc : TyP w P f c) : TyP w P ⟨3, false, 0, 0, some ⟨g, off, none⟩, 1, cap⟩ (.box c)
  | ref (m : Bool) (r : Int) (g off cap : Nat) (f : Fv) (c : Ch) (hg : P g) (h : C5 w g off f) (hc : TyP w P f c) : TyP w P ⟨4, m, r, 0, some ⟨g, off, none⟩, 1, cap⟩ (.ref m r c)
theorem TyP.keep {w w' : World} {P P' : Nat → Prop} (hk : ∀ g, P g → g < w.heap.size → w'.heap[g]? = w.heap[g]? ∧ P' g) (hs : w.heap.size ≤ w'.heap.size) {f : Fv} {c : Ch} (h : TyP w P f c) : TyP w' P' f c := by
  have key : ∀ {g off : Nat} {f : Fv}, P g → C5 w g off f → C5 w' g off f := fun {g off f} hg h => by
    obtain ⟨h0, h1, h2, h3, h4, h5⟩ := h
    have hc : ∀ o, w'.cell? ⟨g, o, none⟩ = w.cell? ⟨g, o, none⟩ := fun o => by
      unfold World.cell?
      simp only [(hk g hg h0).1]
    exact ⟨Nat.lt_of_lt_of_le h0 hs, (hc _).trans h1, (hc _).trans h2, (hc _).trans h3, (hc _).trans h4, (hc _).trans h5⟩
  induction h with
  | leaf k s a cap => exact .leaf k s a cap
  | box g off cap f c hg h hc ih => exact .box g off cap f c (hk g hg h.1).2 (key hg h) ih
  | ref m r g off cap f c hg h hc ih => exact .ref m r g off cap f c (hk g hg h.1).2 (key hg h) ih
theorem TyP.ty {w : World} {P : Nat → Prop} {f : Fv} {c : Ch} (h : TyP w P f c) : c.rg → TyAt w f c.ty := by
  induction h with
  | leaf k s a cap => exact fun hr => TyAt.mkLeaf k s hr.1 hr.2.1 hr.2.2 a cap
  | box g off cap f c hg h hc ih => exact fun hr => TyAt.mkOne 3 false 0 0 (by omega) (by omega) (by omega) (by omega) (by omega) g off cap f _ h (ih hr)
  | ref m r g off cap f c hg h hc ih => exact fun hr => TyAt.mkOne 4 m r 0 (by omega) hr.1.1 hr.1.2 (by omega) (by omega) g off cap f _ h (ih hr.2)
theorem TyF.toP {w : World} {lo : Nat} {f : Fv} {c : Ch} (h : TyF w lo f c) : TyP w (fun g => lo ≤ g ∧ g < w.heap.size) f c := by
  induction h with
  | leaf k s a cap => exact .leaf k s a cap
  | box g off cap f c hg h hc ih => exact .box g off cap f c ⟨hg, h.1⟩ h ih
  | ref m r g off cap f c hg h hc ih => exact .ref m r g off cap f c ⟨hg, h.1⟩ h ih
/-- The reference's row of types. -/
structure WRow (W : World) (B : Nat) (v : Value) (cs : List Ch) (fl : List Fv) : Prop where
  len : fl.length = cs.length
  row : W.ownsRow B 26 5 v cs.length (tCells fl)
  own : ∀ (i : Nat) (c : Ch) (f : Fv), cs[i]? = some c → fl[i]? = some f → TyP W (fun g => B ≤ g ∧ g < W.heap.size ∧ v.ownBlock ≠ some g) f c
theorem WRow.nil (W : World) (B : Nat) : WRow W B (.slice none 0 0) [] [] := ⟨rfl, World.ownsRow_nil _ _ _ _, fun i c f h => by simp at h⟩
theorem WRow.out {W W' : World} {B : Nat} {v : Value} {cs : List Ch} {fl : List Fv} (h : WRow W B v cs fl) (hk : ∀ g, B ≤ g → g < W.heap.size → W'.heap[g]? = W.heap[g]?) (hs : W.heap.size ≤ W'.heap.size) : WRow W' B v cs fl := by
  refine ⟨h.len, ⟨h.row.1, ?_⟩, fun i c f h1 h2 => (h.own i c f h1 h2).keep (fun g hg hl => ⟨hk g hg.1 hl, hg.1, Nat.lt_of_lt_of_le hl hs, hg.2.2⟩) hs⟩
  rcases h.row.2 with h' | ⟨g, cap, cur, hv, hB, hg, rest⟩
  · exact .inl h'
  · exact .inr ⟨g, cap, cur, hv, hB, (hk g hB (lt_of_block hg)).trans hg, rest⟩
theorem WRow.snoc {W w1 w2 : World} {B : Nat} {v v' : Value} {cs : List Ch} {fl : List Fv} (h : WRow W B v cs fl) (hB : B ≤ W.heap.size) {c : Ch} {f : Fv} (ho : TyF w1 W.heap.size f c) (k1 : Below W.heap.size W w1) (hr : w2.ownsRow B 26 5 v' (cs.length + 1) (tCells fl ++ c5 f)) (hg : (w1.alloc f.o).grownBy w2 v.ownBlock)
    (hw : ∀ b, v'.ownBlock = some b → v.ownBlock = some b ∨ b = (w1.alloc f.o).heap.size) : WRow w2 B v' (cs ++ [c]) (fl ++ [f]) := by
  have s1 := k1.size
  have s2 : w1.heap.size + 1 ≤ w2.heap.size := by have := hg.size; simpa using this
  have hv := fun b e => (h.row.lt b e).2
  have hal : ∀ g, g < w1.heap.size → v.ownBlock ≠ some g → w2.heap[g]? = w1.heap[g]? := fun g h1 h2 => (hg.block g (by simp; omega) (fun e => h2 e.symm)).trans (Below.heap_alloc w1 f.o g h1)
  have hne : ∀ g, g < w1.heap.size → v.ownBlock ≠ some g → v'.ownBlock ≠ some g := fun g h1 h2 e => by
    rcases hw g e with h' | h'
    · exact h2 h'
    · simp at h'; omega
  refine ⟨by simp [h.len], by rw [tCells_snoc]; simpa using hr, fun i c' f' h1 h2 => ?_⟩
  by_cases e : i = cs.length
  · subst e
    rw [List.getElem?_append_right (Nat.le_refl _), Nat.sub_self] at h1
    rw [List.getElem?_append_right (by rw [h.len]; exact Nat.le_refl _), h.len, Nat.sub_self] at h2
    simp at h1 h2
    subst h1 h2
    refine ho.toP.keep (fun g hg' hl => ?_) (by omega)
    have hn : v.ownBlock ≠ some g := fun e => by have := hv g e; omega
    exact ⟨hal g hl hn, by omega, by omega, hne g hl hn⟩
  · have hl : i < cs.length := by
      have := (List.getElem?_eq_some_iff.1 h1).1
      rw [List.length_append] at this
      simp at this
      omega
    rw [List.getElem?_append_left hl] at h1
    rw [List.getElem?_append_left (by rw [h.len]; exact hl)] at h2
    refine (h.own i c' f' h1 h2).keep (fun g hg' hl => ?_) (by omega)
    exact ⟨(hal g (by omega) hg'.2.2).trans (k1.block g hl), hg'.1, by omega, hne g (by omega) hg'.2.2⟩
theorem WRow.at {W : World} {B : Nat} {v : Value} {cs : List Ch} {fl : List Fv} (h : WRow W B v cs fl) {i : Nat} (hl : i < cs.length) : ∃ g cap c f, v = .slice (some ⟨g, 0, none⟩) cs.length cap ∧ g < W.heap.size ∧ B ≤ g ∧ cs[i]? = some c ∧ fl[i]? = some f ∧ C5 W g (i * 5) f ∧ (c.rg → TyAt W f c.ty) := by
  obtain ⟨g, cap, rfl⟩ := own_is h.row (by omega)
  obtain ⟨c, hc⟩ : ∃ c, cs[i]? = some c := ⟨_, List.getElem?_eq_getElem hl⟩
  obtain ⟨f, hf⟩ : ∃ f, fl[i]? = some f := ⟨_, List.getElem?_eq_getElem (by rw [h.len]; exact hl)⟩
  have hg := h.row.lt g rfl
  have key : ∀ k, k < 5 → W.cell? ⟨g, i * 5 + k, none⟩ = (c5 f)[k]? := fun k hk => by
    rw [h.row.cellAt (i * 5 + k) (by omega)]
    exact tCells_at fl i f hf k hk
  exact ⟨g, cap, c, f, rfl, hg.2, hg.1, hc, hf, ⟨hg.2, key 0 (by omega), key 1 (by omega), key 2 (by omega), key 3 (by omega), key 4 (by omega)⟩, (h.own i c f hc hf).ty⟩
set_option maxRecDepth 100000 in
set_option maxHeartbeats 2000000 in
theorem rFields_no (a : Option Addr) (n cap : Nat) (ss : List (List Ty)) (w : World) (h : StAt w a n cap ss) (b1 b2 b3 : Nat → Bool) (hb : Flt ss b1 b2 b3) (t : Ty) (f : Fv) (ht : TyAt w f t) (hx : ¬ (f.k : Int) = 5 ∨ mayS n b1 b2 b3 t = false) :
    Calls Tryd.prog 23 #[.slice a n cap, f.v] w fun e w' => e = .returned (.tuple #[.slice none 0 0, .int .i64 2]) ∧ Below w.heap.size w w' := by
  obtain ⟨x, hxx⟩ : ∃ x, x = mayS n b1 b2 b3 t := ⟨_, rfl⟩
  have CM : Hid (Calls Tryd.prog 15 #[.slice a n cap, f.v] (w.alloc f.o) fun e w' => e = .returned (.bool x) ∧ Below (w.alloc f.o).heap.size (w.alloc f.o) w') := hidD (rMay_any a n cap ss _ (h.bel (belA (Below.refl _ _))) b1 b2 b3 hb t f (ht.bel (belA (Below.refl _ _))) x hxx)
  have A0 : At (w.alloc f.o) w.heap.size f.o := At.new _ _
  cases x with
  | false =>
    obtain ⟨k, m, r, s, aa, nn, cc⟩ := f
    show Calls Tryd.prog 23 #[.slice a n cap, tyV k m r s aa nn cc] w _
    clear h hb ht hx hxx
    go_enter Tryd.func23, Tryd.ntmps23
    go_wp2_with (go_at_call 15; refine CM.out.mono ?_; rintro e w1 ⟨rfl, hb1⟩)
    go_ret2
    exact ⟨rfl, below1 hb1⟩
  | true =>
    have hk : ¬ (f.k : Int) = 5 := by
      rcases hx with h' | h'
      · exact h'
      · rw [h'] at hxx; cases hxx
    obtain ⟨k, m, r, s, aa, nn, cc⟩ := f
    have k5 : ¬ (k : Int) = 5 := hk
    show Calls Tryd.prog 23 #[.slice a n cap, tyV k m r s aa nn cc] w _
    clear h hb ht hx hxx hk
    go_enter Tryd.func23, Tryd.ntmps23
    go_wp2_with (go_at_call 15; refine CM.out.mono ?_; rintro e w1 ⟨rfl, hb1⟩; obtain ⟨hl, p0, p1, p2, p3, p4⟩ := (A0.below hb1).ty)
    go_ret2
    exact ⟨rfl, below1 hb1⟩
set_option maxRecDepth 100000 in
set_option maxHeartbeats 4000000 in
theorem rFields_yes (a : Option Addr) (n cap : Nat) (ss : List (List Ty)) (w : World) (h : StAt w a n cap ss) (b1 b2 b3 : Nat → Bool) (hb : Flt ss b1 b2 b3) (t : Ty) (f : Fv) (ht : TyAt w f t) (hx : mayS n b1 b2 b3 t = true) (j : Nat) (hk : f.k = 5) (hs : f.s = (j : Int)) (hj : j < n) (cs : List Ch) (hcs : fld ss j = cs.map Ch.ty) :
    Calls Tryd.prog 23 #[.slice a n cap, f.v] w fun e w' => ∃ v fl, e = .returned (.tuple #[v, .int .i64 0]) ∧ WRow w' w.heap.size v cs fl ∧ Below w.heap.size w w' := by
  have CM : Hid (Calls Tryd.prog 15 #[.slice a n cap, f.v] (w.alloc f.o) fun e w' => e = .returned (.bool true) ∧ Below (w.alloc f.o).heap.size (w.alloc f.o) w') := hidD (rMay_any a n cap ss _ (h.bel (belA (Below.refl _ _))) b1 b2 b3 hb t f (ht.bel (belA (Below.refl _ _))) true hx.symm)
  obtain ⟨hW, hmb⟩ := well_of h hb hx
  have A0 : At (w.alloc f.o) w.heap.size f.o := At.new _ _
  obtain ⟨fs, hfs⟩ : ∃ fs, ss[j]? = some fs := ⟨_, List.getElem?_eq_getElem (by have := hW.len; omega)⟩
  have hfl := fld_of hfs
  obtain ⟨f1, f2, f3⟩ := hW.fine j fs hfs
  obtain ⟨k, m, r, s, aa, nn, cc⟩ := f
  simp only at hk hs
  subst hk
  subst hs
  show Calls Tryd.prog 23 #[.slice a n cap, tyV 5 m r (j : Int) aa nn cc] w _
  have HST := hidD h
  have HFS := hidD hfs
  have HFC : Hid (fs = cs.map Ch.ty) := hidD (hfl.symm.trans hcs)
  obtain ⟨i0, hi, hz0, hz1, hz2⟩ := info_parts Tryd.info26
  have q0 : (0 : Int) ≤ (j : Int) := by omega
  have q2 : (j : Int) < (n : Int) := by omega
  obtain ⟨l, hl⟩ : ∃ l, l = fs.length := ⟨_, rfl⟩
  have l8 : l ≤ 8 := by omega
  have HL := hidD hl
  have HLC : Hid (l = cs.length) := hidD (by rw [hl, HFC.out]; simp)
  clear h hb ht hx hW hmb hfs hfl hcs f1 f2 f3 hj
  go_enter Tryd.func23, Tryd.ntmps23
  obtain ⟨g, off, fa, fcap, hag, hg, hcell, hFd⟩ := HST.out.one HFS.out
  subst hag
  have HFd := hidD hFd
  have HCELL : Hid (∀ W, Below w.heap.size w W → W.cell? ⟨g, off + j * 2 + 1, none⟩ = some (.slice fa l fcap) ∧ g < W.heap.size) := hidD (fun W hB => ⟨by rw [hl]; exact (hB.cell (p := ⟨g, off + j * 2 + 1, none⟩) hg).trans hcell, Nat.lt_of_lt_of_le hg hB.size⟩)
  clear hFd hcell hl
  go_wp2_with (go_at_call 15; refine CM.out.mono ?_; rintro e w1 ⟨rfl, hb1⟩; obtain ⟨hl1, p0, p1, p2, p3, p4⟩ := (A0.below hb1).ty; have HB1 := hidD (below1 hb1); obtain ⟨c0, hg1⟩ := HCELL.out w1 (below1 hb1); clear hb1)
  go_loopw [6, 8] (fun v6 v8 Z => ∃ (k : Nat) (fl : List Fv), k ≤ l ∧ v8 = .int .i64 k ∧ WRow Z w.heap.size v6 (cs.take k) fl ∧ Below w.heap.size w Z) (fun _ v8 _ => l - (intOf v8).toNat)
  case atStart => exact ⟨0, [], Nat.zero_le _, rfl, WRow.nil _ _, HB1.out⟩
  case round =>
    obtain ⟨k, fl, hk, rfl, hR, hBZ⟩ := hrel
    obtain ⟨ra, rcap, hvv⟩ := own_sl hR.row
    subst hvv
    have HR := hidD hR
    have HBZ := hidD hBZ
    clear hR hBZ
    by_cases hlk : k < l
    · obtain ⟨c, hc⟩ : ∃ c, cs[k]? = some c := ⟨_, List.getElem?_eq_getElem (by have := HLC.out; omega)⟩
      have htk : fs[k]? = some c.ty := by rw [HFC.out, List.getElem?_map, hc]; rfl
      have hlen : (cs.take k).length = k := by rw [List.length_take]; have := HLC.out; omega
      obtain ⟨g', off', hfa, hkk⟩ := (HFd.out.bel HBZ.out).2 (fun e => by subst e; simp at htk)
      obtain ⟨V, nm, hnm, hV5, hVt⟩ := hkk k c.ty htk
      have HVT := hidD hVt
      have HC := hidD hc
      have HLN := hidD hlen
      obtain ⟨hl5, p0', p1', p2', p3', p4'⟩ := hV5
      subst hfa
      have e0 : (0 : Int) ≤ (k : Int) := by omega
      have e1 : (k : Int) < (l : Int) := by omega
      have e2 : (k : Int) ≤ 1000 := by omega
      have CO : Hid (Calls Tryd.prog 61 #[V.v] wr fun e w' => ∃ f' : Fv, e = .returned f'.v ∧ TyF w' wr.heap.size f' c ∧ Below wr.heap.size wr w') := hidD (rown_any c V wr HVT.out)
      have HRW : Hid (wr.ownsRow w.heap.size 26 5 (.slice ra k rcap) k (tCells fl)) := hidD (by have := HR.out.row; rw [hlen] at this; exact this)
      rw [hlen]
      clear hkk hVt hc hlen htk
      go_wp2_with (first
        | (go_at_call 61; refine CO.out.mono ?_; rintro e w2 ⟨f', rfl, hO, hb2⟩; have HO := hidD hO; have HB2 := hidD hb2; have HRW2 := hidD (own_bel HRW.out hb2); have HBS := hidD (Nat.le_trans HBZ.out.size hb2.size); clear hO hb2)
        | (at_builtin; refine wpList_append_two _ rfl _ _ 24 rfl w.heap.size 26 i0 (.agg #[.int .u8 0, .bool false, .int .i64 0, .int .i64 0, .slice none 0 0]) 5 48 Tryd.underlying24 hi hz0 hz1 hz2 rfl (by decide) (.slice ra k rcap) k (tCells fl) rfl (HRW2.out.alloc f'.o) ⟨w2.heap.size, 0, none⟩ 1 1 (c5 f') (by decide) rfl rfl (c5_new (At.new w2 f'.o)) (c5_ones f') (by unfold maxLen; omega) (by omega) (by have := HBS.out; simp; omega) ?_; intro v' w3 ho hg3 hwh; have HO3 := hidD ho; have HG3 := hidD hg3; have HW3 := hidD hwh; clear ho hg3 hwh))
      have s0 : (cs.take k).length = k := HLN.out
      have FS := WRow.snoc (v' := v') (w2 := w3) HR.out HBZ.out.size HO.out HB2.out (by rw [s0]; exact HO3.out) (by rw [s0]; exact HG3.out) (by rw [s0]; exact HW3.out)
      have e9 : cs.take (k + 1) = cs.take k ++ [c] := by rw [List.take_add_one, HC.out]; rfl
      rw [← e9] at FS
      refine ⟨⟨k + 1, _, hlk, by go_num, FS, ?_⟩, ?_⟩
      · have h1 : Below w.heap.size w w2 := HBZ.out.trans (HB2.out.mono HBZ.out.size)
        refine (belA h1).grown HG3.out (by have := HBS.out; simp; omega) (fun q hq => (HRW.out.lt q hq).1)
      · show l - ((k : Int) + 1).toNat < l - (k : Int).toNat
        omega
    · obtain rfl : k = l := by omega
      have z1 : ¬ ((k : Int) < (k : Int)) := by omega
      have e : cs.take k = cs := List.take_of_length_le (by have := HLC.out; omega)
      rw [e] at HR ⊢
      have HFR := HR
      obtain ⟨q, hq⟩ : ∃ q, q = cs.length := ⟨_, rfl⟩
      rw [← hq] at HFR ⊢
      clear HR hq
      go_wp2_with fail
      go_ret2
      exact ⟨_, rfl, ⟨fl, HFR.out⟩, HBZ.out⟩
end Go.Proofs.YtjchbclkdbojpaaDoor
namespace Go.Proofs.YtjchbclkdbojpaaDoor
open Go.RowKit Go.Shelf
set_option linter.unusedVariables false
set_option linter.unusedSimpArgs false

theorem keepT {w W : World} {f : Fv} (h : Below (w.alloc f.o).heap.size (w.alloc f.o) W) : C5 W w.heap.size 0 f := ((At.new w f.o).below h).ty
/-- What the law asks of both sides, and both say. -/
structure Amg (w : World) (a : Option Addr) (n cap : Nat) (f : Fv) (r1 r2 q e1 e2 : Int) (x d cp : Bool) : Prop where
  c9 : FitS a n cap true w
  c10 : ∀ W, Below w.heap.size w W → Calls Tryd.prog 10 #[f.v, .int .i64 60] W fun e w' => e = .returned (.bool true) ∧ Below W.heap.size W w'
  c12 : ∀ W, Below w.heap.size w W → Calls Tryd.prog 12 #[.slice a n cap] W fun e w' => e = .returned (.tuple #[.int .i64 r1, .int .i64 r2]) ∧ Below W.heap.size W w'
  c13 : ∀ W, Below w.heap.size w W → Calls Tryd.prog 13 #[.slice a n cap] W fun e w' => e = .returned (.tuple #[.int .i64 r1, .int .i64 r2]) ∧ Below W.heap.size W w'
  c14 : ∀ W, Below w.heap.size w W → Calls Tryd.prog 14 #[.slice a n cap, f.v] W fun e w' => e = .returned (.bool x) ∧ Below W.heap.size W w'
  c15 : ∀ W, Below w.heap.size w W → Calls Tryd.prog 15 #[.slice a n cap, f.v] W fun e w' => e = .returned (.bool x) ∧ Below W.heap.size W w'
  c16 : ∀ W, Below w.heap.size w W → Calls Tryd.prog 16 #[f.v] W fun e w' => e = .returned (.bool cp) ∧ Below W.heap.size W w'
  c17 : ∀ W, Below w.heap.size w W → Calls Tryd.prog 17 #[f.v] W fun e w' => e = .returned (.bool cp) ∧ Below W.heap.size W w'
  c18 : ∀ W, Below w.heap.size w W → Calls Tryd.prog 18 #[.slice a n cap, f.v] W fun e w' => e = .returned (.tuple #[.int .i64 q, .int .i64 e1]) ∧ Below W.heap.size W w'
  c19 : ∀ W, Below w.heap.size w W → Calls Tryd.prog 19 #[.slice a n cap, f.v] W fun e w' => e = .returned (.tuple #[.int .i64 q, .int .i64 e1]) ∧ Below W.heap.size W w'
  c20 : ∀ W, Below w.heap.size w W → Calls Tryd.prog 20 #[.slice a n cap, f.v] W fun e w' => e = .returned (.tuple #[.bool d, .int .i64 e2]) ∧ Below W.heap.size W w'
  c21 : ∀ W, Below w.heap.size w W → Calls Tryd.prog 21 #[.slice a n cap, f.v] W fun e w' => e = .returned (.tuple #[.bool d, .int .i64 e2]) ∧ Below W.heap.size W w'
/-- The first row, of which the first i are written over. -/
structure ARow (W : World) (B : Nat) (v : Value) (cs : List Ch) (fl : List Fv) (lo hi : Nat → Nat) (i : Nat) : Prop where
  len : fl.length = cs.length
  row : W.ownsRow B 26 5 v cs.length (tCells fl)
  own : ∀ (j : Nat) (c : Ch) (f : Fv), i ≤ j → cs[j]? = some c → fl[j]? = some f → OwnL W (lo j) (hi j) f c
  rng : ∀ j, j < cs.length → B ≤ lo j ∧ lo j ≤ hi j ∧ hi j ≤ W.heap.size ∧ ∀ b, v.ownBlock = some b → b < lo j ∨ hi j ≤ b
  ord : ∀ j k, j < k → k < cs.length → hi j ≤ lo k
theorem FRow.a {W : World} {B : Nat} {v : Value} {cs : List Ch} {fl : List Fv} {lo hi : Nat → Nat} (h : FRow W B v cs fl lo hi) : ARow W B v cs fl lo hi 0 := ⟨h.len, h.row, fun j c f _ h1 h2 => h.own j c f h1 h2, h.rng, h.ord⟩
theorem ARow.bel {W W' : World} {B : Nat} {v : Value} {cs : List Ch} {fl : List Fv} {lo hi : Nat → Nat} {i : Nat} (h : ARow W B v cs fl lo hi i) (k : Below W.heap.size W W') : ARow W' B v cs fl lo hi i :=
  ⟨h.len, own_bel h.row k, fun j c f h0 h1 h2 => (h.own j c f h0 h1 h2).bel k, fun j hj => ⟨(h.rng j hj).1, (h.rng j hj).2.1, Nat.le_trans (h.rng j hj).2.2.1 k.size, (h.rng j hj).2.2.2⟩, h.ord⟩
theorem own_out {W W' : World} {B e s n lo hi : Nat} {v : Value} {xs : List Value} (h : W.ownsRow B e s v n xs) (k : Out lo hi W W') (hb : ∀ b, v.ownBlock = some b → b < lo ∨ hi ≤ b) : W'.ownsRow B e s v n xs := by
  refine ⟨h.1, ?_⟩
  rcases h.2 with h' | ⟨g, cap, cur, hv, hB, hg, rest⟩
  · exact .inl h'
  · exact .inr ⟨g, cap, cur, hv, hB, k.at (o := .cells cur e (0, 0)) hg (hb g (by rw [hv]; rfl)), rest⟩
theorem ARow.spoil {W W' : World} {B : Nat} {v : Value} {cs : List Ch} {fl : List Fv} {lo hi : Nat → Nat} {i : Nat} (h : ARow W B v cs fl lo hi i) (hi' : i < cs.length) (k : Out (lo i) (hi i) W W') : ARow W' B v cs fl lo hi (i + 1) := by
  refine ⟨h.len, own_out h.row k (h.rng i hi').2.2.2, fun j c f h0 h1 h2 => ?_, fun j hj => ⟨(h.rng j hj).1, (h.rng j hj).2.1, Nat.le_trans (h.rng j hj).2.2.1 k.bel.size, (h.rng j hj).2.2.2⟩, h.ord⟩
  have hj := (List.getElem?_eq_some_iff.1 h1).1
  exact (h.own j c f (by omega) h1 h2).out k (.inr (h.ord i j (by omega) hj))
theorem ARow.at {W : World} {B : Nat} {v : Value} {cs : List Ch} {fl : List Fv} {lo hi : Nat → Nat} {i : Nat} (h : ARow W B v cs fl lo hi i) (hl : i < cs.length) : ∃ g cap c f, v = .slice (some ⟨g, 0, none⟩) cs.length cap ∧ g < W.heap.size ∧ cs[i]? = some c ∧ C5 W g (i * 5) f ∧ OwnL W (lo i) (hi i) f c := by
  obtain ⟨g, cap, rfl⟩ := own_is h.row (by omega)
  obtain ⟨c, hc⟩ : ∃ c, cs[i]? = some c := ⟨_, List.getElem?_eq_getElem hl⟩
  obtain ⟨f, hf⟩ : ∃ f, fl[i]? = some f := ⟨_, List.getElem?_eq_getElem (by rw [h.len]; exact hl)⟩
  have hg := h.row.lt g rfl
  have key : ∀ k, k < 5 → W.cell? ⟨g, i * 5 + k, none⟩ = (c5 f)[k]? := fun k hk => by
    rw [h.row.cellAt (i * 5 + k) (by omega)]
    exact tCells_at fl i f hf k hk
  exact ⟨g, cap, c, f, rfl, hg.2, hc, ⟨hg.2, key 0 (by omega), key 1 (by omega), key 2 (by omega), key 3 (by omega), key 4 (by omega)⟩, h.own i c f (Nat.le_refl _) hc hf⟩
theorem FRow.out {W W' : World} {B : Nat} {v : Value} {cs : List Ch} {fl : List Fv} {lo hi : Nat → Nat} {l' h' : Nat} (h : FRow W B v cs fl lo hi) (k : Out l' h' W W') (hb : h' ≤ B) : FRow W' B v cs fl lo hi :=
  ⟨h.len, own_out h.row k (fun b e => .inr (Nat.le_trans hb (h.row.lt b e).1)), fun i c f h1 h2 => (h.own i c f h1 h2).out k (.inr (Nat.le_trans hb (h.rng i (List.getElem?_eq_some_iff.1 h1).1).1)), fun i hi => ⟨(h.rng i hi).1, (h.rng i hi).2.1, Nat.le_trans (h.rng i hi).2.2.1 k.bel.size, (h.rng i hi).2.2.2⟩, h.ord⟩
theorem WRow.outO {W W' : World} {B : Nat} {v : Value} {cs : List Ch} {fl : List Fv} {l' h' : Nat} (h : WRow W B v cs fl) (k : Out l' h' W W') (hb : h' ≤ B) : WRow W' B v cs fl := h.out (fun g hg hl => k.hi g (Nat.le_trans hb hg) hl) k.bel.size
theorem WRow.bel {W W' : World} {B : Nat} {v : Value} {cs : List Ch} {fl : List Fv} (h : WRow W B v cs fl) (k : Below W.heap.size W W') : WRow W' B v cs fl := h.out (fun g _ hl => k.block g hl) k.size
/-- All three rows, between two rounds. -/
structure Tri (w Z : World) (B1 B2 B3 : Nat) (va vb vw : Value) (cs : List Ch) (fa : List Fv) (la ha : Nat → Nat) (fb : List Fv) (lb hb : Nat → Nat) (fw : List Fv) (i : Nat) : Prop where
  ra : ARow Z B1 va cs fa la ha i
  rb : FRow Z B2 vb cs fb lb hb
  rw' : WRow Z B3 vw cs fw
  bel : Below w.heap.size w Z
  b1 : w.heap.size ≤ B1
  b12 : ∀ j, j < cs.length → ha j ≤ B2
  b13 : ∀ j, j < cs.length → ha j ≤ B3
theorem Tri.bl {w Z Z' : World} {B1 B2 B3 : Nat} {va vb vw : Value} {cs : List Ch} {fa : List Fv} {la ha : Nat → Nat} {fb : List Fv} {lb hb : Nat → Nat} {fw : List Fv} {i : Nat} (h : Tri w Z B1 B2 B3 va vb vw cs fa la ha fb lb hb fw i) (k : Below Z.heap.size Z Z') : Tri w Z' B1 B2 B3 va vb vw cs fa la ha fb lb hb fw i :=
  ⟨h.ra.bel k, h.rb.bel k, h.rw'.bel k, below_aft h.bel k, h.b1, h.b12, h.b13⟩
theorem Tri.spoil {w Z Z' : World} {B1 B2 B3 : Nat} {va vb vw : Value} {cs : List Ch} {fa : List Fv} {la ha : Nat → Nat} {fb : List Fv} {lb hb : Nat → Nat} {fw : List Fv} {i : Nat} (h : Tri w Z B1 B2 B3 va vb vw cs fa la ha fb lb hb fw i) (hi : i < cs.length) (k : Out (la i) (ha i) Z Z') : Tri w Z' B1 B2 B3 va vb vw cs fa la ha fb lb hb fw (i + 1) :=
  ⟨h.ra.spoil hi k, h.rb.out k (h.b12 i hi), h.rw'.outO k (h.b13 i hi), h.bel.trans (k.bel.mono (Nat.le_trans h.b1 (h.ra.rng i hi).1)), h.b1, h.b12, h.b13⟩
/-- Two types in rows, seen by the region. -/
structure S2 (g i : Nat) (f : Fv) (g' : Nat) (f' : Fv) (W : World) : Prop where
  a : C5 W g (i * 5) f
  b : C5 W g' (i * 5) f'
set_option maxRecDepth 100000 in
set_option maxHeartbeats 16000000 in
theorem among_no (w : World) (a : Option Addr) (n cap : Nat) (f : Fv) (r1 r2 q e1 e2 : Int) (x d cp : Bool) (hM : Amg w a n cap f r1 r2 q e1 e2 x d cp) (h22 : ∀ W, Below w.heap.size w W → Calls Tryd.prog 22 #[.slice a n cap, f.v] W fun e w' => e = .returned (.tuple #[.slice none 0 0, .int .i64 2]) ∧ Below W.heap.size W w') (h23 : ∀ W, Below w.heap.size w W → Calls Tryd.prog 23 #[.slice a n cap, f.v] W fun e w' => e = .returned (.tuple #[.slice none 0 0, .int .i64 2]) ∧ Below W.heap.size W w') :
    Calls Tryd.prog 3 #[.slice a n cap, f.v] w fun e w' => e = .returned (.bool true) ∧ Below w.heap.size w w' := by
  have CA : Hid (∀ W, Calls Tryd.prog 11 #[] W fun e w' => e = .returned (.bool true) ∧ Below W.heap.size W w') := awake_true
  have HM := hidD hM
  have C22 := hidD h22
  have C23 := hidD h23
  have xx : (x != x) = false := by cases x <;> rfl
  have cc' : (cp != cp) = false := by cases cp <;> rfl
  have dd : (d != d) = false := by cases d <;> rfl
  obtain ⟨k, m, r, s, aa, nn, cc⟩ := f
  show Calls Tryd.prog 3 #[.slice a n cap, tyV k m r s aa nn cc] w _
  clear hM h22 h23
  have st1 : Stg 1 := .mk 1
  go_enter Tryd.func3, Tryd.ntmps3
  go_wp2_with (first
    | (have _s := st1; clear st1 _s; go_at_call 9; refine (HM.out.c9 _ (belA (Below.refl _ _))).mono ?_; rintro e w1 ⟨rfl, hb1⟩; have HB1 := hidD hb1; obtain ⟨hlp, p0, p1, p2, p3, p4⟩ := keepT (f := ⟨k, m, r, s, aa, nn, cc⟩) HB1.out; simp only [Nat.zero_add] at p0 p1 p2 p3 p4; clear hb1; have st2 : Stg 2 := .mk 2)
    | (have _s := st2; clear st2 _s; go_at_call 10; refine (HM.out.c10 w1 (below1 HB1.out)).mono ?_; rintro e w2 ⟨rfl, hb⟩; have HB2 := hidD (below_aft HB1.out hb); clear p0 p1 p2 p3 p4 hlp; obtain ⟨hlp, p0, p1, p2, p3, p4⟩ := keepT (f := ⟨k, m, r, s, aa, nn, cc⟩) HB2.out; simp only [Nat.zero_add] at p0 p1 p2 p3 p4; clear hb; have st3 : Stg 3 := .mk 3)
    | (have _s := st3; clear st3 _s; go_at_call 12; refine (HM.out.c12 w2 (below1 HB2.out)).mono ?_; rintro e w3 ⟨rfl, hb⟩; have HB3 := hidD (below_aft HB2.out hb); clear p0 p1 p2 p3 p4 hlp; obtain ⟨hlp, p0, p1, p2, p3, p4⟩ := keepT (f := ⟨k, m, r, s, aa, nn, cc⟩) HB3.out; simp only [Nat.zero_add] at p0 p1 p2 p3 p4; clear hb; have st4 : Stg 4 := .mk 4)
    | (have _s := st4; clear st4 _s; go_at_call 13; refine (HM.out.c13 w3 (below1 HB3.out)).mono ?_; rintro e w4 ⟨rfl, hb⟩; have HB4 := hidD (below_aft HB3.out hb); clear p0 p1 p2 p3 p4 hlp; obtain ⟨hlp, p0, p1, p2, p3, p4⟩ := keepT (f := ⟨k, m, r, s, aa, nn, cc⟩) HB4.out; simp only [Nat.zero_add] at p0 p1 p2 p3 p4; clear hb; have st5 : Stg 5 := .mk 5))
  clear p0 p1 p2 p3 p4 hlp st5
  refine beginH (S := (fun W' => C5 W' w.heap.size 0 ⟨k, m, r, s, aa, nn, cc⟩)) (fun _ _ _ _ _ h => h) (by kernel_rfl) (keepT HB4.out).drew5 (fun hq hHeld => ?_)
  refine takeH (i := 0) (d := 37) (.int .i64 r1) hq rfl rfl (by kernel_rfl) (by kernel_rfl) (by kernel_rfl) (by rfl) (fun W hSw => by (go_simp; try rfl)) hHeld ?_
  try simp only [Act.put, List.setIfInBounds_toArray, List.set_cons_zero, List.set_cons_succ]
  refine takeH (i := 1) (d := 38) (.int .i64 r1) hq rfl rfl (by kernel_rfl) (by kernel_rfl) (by kernel_rfl) (by rfl) (fun W hSw => by (go_simp; try rfl)) hHeld ?_
  try simp only [Act.put, List.setIfInBounds_toArray, List.set_cons_zero, List.set_cons_succ]
  refine takeH (i := 2) (d := 39) (.bool false) hq rfl rfl (by kernel_rfl) (by kernel_rfl) (by kernel_rfl) (by rfl) (fun W hSw => by (go_simp; try rfl)) hHeld ?_
  try simp only [Act.put, List.setIfInBounds_toArray, List.set_cons_zero, List.set_cons_succ]
  refine takeH (i := 3) (d := 40) (.bool false) hq rfl rfl (by kernel_rfl) (by kernel_rfl) (by kernel_rfl) (by rfl) (fun W hSw => by (go_simp; try rfl)) hHeld ?_
  try simp only [Act.put, List.setIfInBounds_toArray, List.set_cons_zero, List.set_cons_succ]
  refine takeH (i := 4) (d := 41) (.int .i64 r2) hq rfl rfl (by kernel_rfl) (by kernel_rfl) (by kernel_rfl) (by rfl) (fun W hSw => by (go_simp; try rfl)) hHeld ?_
  try simp only [Act.put, List.setIfInBounds_toArray, List.set_cons_zero, List.set_cons_succ]
  refine takeH (i := 5) (d := 42) (.int .i64 r2) hq rfl rfl (by kernel_rfl) (by kernel_rfl) (by kernel_rfl) (by rfl) (fun W hSw => by (go_simp; try rfl)) hHeld ?_
  try simp only [Act.put, List.setIfInBounds_toArray, List.set_cons_zero, List.set_cons_succ]
  refine takeH (i := 6) (d := 43) (.bool false) hq rfl rfl (by kernel_rfl) (by kernel_rfl) (by kernel_rfl) (by rfl) (fun W hSw => by (go_simp; try rfl)) hHeld ?_
  try simp only [Act.put, List.setIfInBounds_toArray, List.set_cons_zero, List.set_cons_succ]
  refine takeH (i := 7) (d := 44) (.bool false) hq rfl rfl (by kernel_rfl) (by kernel_rfl) (by kernel_rfl) (by rfl) (fun W hSw => by (go_simp; try rfl)) hHeld ?_
  try simp only [Act.put, List.setIfInBounds_toArray, List.set_cons_zero, List.set_cons_succ]
  refine takeH (i := 8) (d := 45) (.bool false) hq rfl rfl (by kernel_rfl) (by kernel_rfl) (by kernel_rfl) (by rfl) (fun W hSw => by (go_simp; try rfl)) hHeld ?_
  try simp only [Act.put, List.setIfInBounds_toArray, List.set_cons_zero, List.set_cons_succ]
  refine takeH (i := 9) (d := 46) (.slice a n cap) hq rfl rfl (by kernel_rfl) (by kernel_rfl) (by kernel_rfl) (by rfl) (fun W hSw => by (go_simp; try rfl)) hHeld ?_
  try simp only [Act.put, List.setIfInBounds_toArray, List.set_cons_zero, List.set_cons_succ]
  refine takeH (i := 10) (d := 47) (tyV k m r s aa nn cc) hq rfl rfl (by kernel_rfl) (by kernel_rfl) (by kernel_rfl) (by rfl) (fun W hSw => by (obtain ⟨-, p0, p1, p2, p3, p4⟩ := hSw; simp only [Nat.zero_add] at p0 p1 p2 p3 p4; go_simp; try rfl)) hHeld ?_
  try simp only [Act.put, List.setIfInBounds_toArray, List.set_cons_zero, List.set_cons_succ]
  refine takeH (i := 12) (d := 49) (.slice a n cap) hq rfl rfl (by kernel_rfl) (by kernel_rfl) (by kernel_rfl) (by rfl) (fun W hSw => by (go_simp; try rfl)) hHeld ?_
  try simp only [Act.put, List.setIfInBounds_toArray, List.set_cons_zero, List.set_cons_succ]
  refine takeH (i := 13) (d := 50) (tyV k m r s aa nn cc) hq rfl rfl (by kernel_rfl) (by kernel_rfl) (by kernel_rfl) (by rfl) (fun W hSw => by (obtain ⟨-, p0, p1, p2, p3, p4⟩ := hSw; simp only [Nat.zero_add] at p0 p1 p2 p3 p4; go_simp; try rfl)) hHeld ?_
  try simp only [Act.put, List.setIfInBounds_toArray, List.set_cons_zero, List.set_cons_succ]
  refine wpAnyH_ready (rs := [11]) (by kernel_rfl) (by simp) ?_
  refine AllReadyH.cons rfl (fun K hK => ?_) AllReadyH.nil
  go_simp
  refine (HM.out.c14 w4.drew (below1 (HB4.out).drew)).mono ?_
  rintro e w5 ⟨rfl, hb⟩
  have HB5 := hidD (below_aft (HB4.out).drew hb)
  clear hb
  go_wp2_with fail
  refine hK.out _ _ (keepT HB5.out) (fun hHeld => ?_)
  clear hK K
  try simp only [Act.put, List.setIfInBounds_toArray, List.set_cons_zero, List.set_cons_succ]
  refine wpAnyH_ready (rs := [14]) (by kernel_rfl) (by simp) ?_
  refine AllReadyH.cons rfl (fun K hK => ?_) AllReadyH.nil
  go_simp
  refine (HM.out.c15 w5 (below1 HB5.out)).mono ?_
  rintro e w6 ⟨rfl, hb⟩
  have HB6 := hidD (below_aft HB5.out hb)
  clear hb
  go_wp2_with fail
  refine hK.out _ _ (keepT HB6.out) (fun hHeld => ?_)
  clear hK K
  try simp only [Act.put, List.setIfInBounds_toArray, List.set_cons_zero, List.set_cons_succ]
  refine takeH (i := 15) (d := 52) (.bool false) hq rfl rfl (by kernel_rfl) (by kernel_rfl) (by kernel_rfl) (by rfl) (fun W hSw => by (go_simp; try simp)) hHeld ?_
  try simp only [Act.put, List.setIfInBounds_toArray, List.set_cons_zero, List.set_cons_succ]
  refine takeH (i := 16) (d := 53) (.bool false) hq rfl rfl (by kernel_rfl) (by kernel_rfl) (by kernel_rfl) (by rfl) (fun W hSw => by (go_simp; try rfl)) hHeld ?_
  try simp only [Act.put, List.setIfInBounds_toArray, List.set_cons_zero, List.set_cons_succ]
  refine takeH (i := 17) (d := 54) (.bool false) hq rfl rfl (by kernel_rfl) (by kernel_rfl) (by kernel_rfl) (by rfl) (fun W hSw => by (go_simp; try rfl)) hHeld ?_
  try simp only [Act.put, List.setIfInBounds_toArray, List.set_cons_zero, List.set_cons_succ]
  refine takeH (i := 18) (d := 55) (tyV k m r s aa nn cc) hq rfl rfl (by kernel_rfl) (by kernel_rfl) (by kernel_rfl) (by rfl) (fun W hSw => by (obtain ⟨-, p0, p1, p2, p3, p4⟩ := hSw; simp only [Nat.zero_add] at p0 p1 p2 p3 p4; go_simp; try rfl)) hHeld ?_
  try simp only [Act.put, List.setIfInBounds_toArray, List.set_cons_zero, List.set_cons_succ]
  refine takeH (i := 20) (d := 57) (tyV k m r s aa nn cc) hq rfl rfl (by kernel_rfl) (by kernel_rfl) (by kernel_rfl) (by rfl) (fun W hSw => by (obtain ⟨-, p0, p1, p2, p3, p4⟩ := hSw; simp only [Nat.zero_add] at p0 p1 p2 p3 p4; go_simp; try rfl)) hHeld ?_
  try simp only [Act.put, List.setIfInBounds_toArray, List.set_cons_zero, List.set_cons_succ]
  refine wpAnyH_ready (rs := [19]) (by kernel_rfl) (by simp) ?_
  refine AllReadyH.cons rfl (fun K hK => ?_) AllReadyH.nil
  go_simp
  refine (HM.out.c16 w6 (below1 HB6.out)).mono ?_
  rintro e w7 ⟨rfl, hb⟩
  have HB7 := hidD (below_aft HB6.out hb)
  clear hb
  go_wp2_with fail
  refine hK.out _ _ (keepT HB7.out) (fun hHeld => ?_)
  clear hK K
  try simp only [Act.put, List.setIfInBounds_toArray, List.set_cons_zero, List.set_cons_succ]
  refine wpAnyH_ready (rs := [21]) (by kernel_rfl) (by simp) ?_
  refine AllReadyH.cons rfl (fun K hK => ?_) AllReadyH.nil
  go_simp
  refine (HM.out.c17 w7 (below1 HB7.out)).mono ?_
  rintro e w8 ⟨rfl, hb⟩
  have HB8 := hidD (below_aft HB7.out hb)
  clear hb
  go_wp2_with fail
  refine hK.out _ _ (keepT HB8.out) (fun hHeld => ?_)
  clear hK K
  try simp only [Act.put, List.setIfInBounds_toArray, List.set_cons_zero, List.set_cons_succ]
  refine takeH (i := 22) (d := 59) (.bool false) hq rfl rfl (by kernel_rfl) (by kernel_rfl) (by kernel_rfl) (by rfl) (fun W hSw => by (go_simp; try simp)) hHeld ?_
  try simp only [Act.put, List.setIfInBounds_toArray, List.set_cons_zero, List.set_cons_succ]
  refine takeH (i := 23) (d := 60) (.bool false) hq rfl rfl (by kernel_rfl) (by kernel_rfl) (by kernel_rfl) (by rfl) (fun W hSw => by (go_simp; try rfl)) hHeld ?_
  try simp only [Act.put, List.setIfInBounds_toArray, List.set_cons_zero, List.set_cons_succ]
  refine wpAnyH_done (by kernel_rfl) ?_ _
  clear hHeld hq
  obtain ⟨hlp, p0, p1, p2, p3, p4⟩ := keepT (f := ⟨k, m, r, s, aa, nn, cc⟩) HB8.out; simp only [Nat.zero_add] at p0 p1 p2 p3 p4
  have st9 : Stg 9 := .mk 9
  clear HB1 HB2 HB3 HB4 HB5 HB6 HB7
  go_wp2_with (first
    | (have _s := st9; clear st9 _s; go_at_call 18; refine (HM.out.c18 w8 (below1 HB8.out)).mono ?_; rintro e w9 ⟨rfl, hb⟩; have HB9 := hidD (below_aft HB8.out hb); clear p0 p1 p2 p3 p4 hlp; obtain ⟨hlp, p0, p1, p2, p3, p4⟩ := keepT (f := ⟨k, m, r, s, aa, nn, cc⟩) HB9.out; simp only [Nat.zero_add] at p0 p1 p2 p3 p4; clear hb; have st10 : Stg 10 := .mk 10)
    | (have _s := st10; clear st10 _s; go_at_call 19; refine (HM.out.c19 w9 (below1 HB9.out)).mono ?_; rintro e w10 ⟨rfl, hb⟩; have HB10 := hidD (below_aft HB9.out hb); clear p0 p1 p2 p3 p4 hlp; obtain ⟨hlp, p0, p1, p2, p3, p4⟩ := keepT (f := ⟨k, m, r, s, aa, nn, cc⟩) HB10.out; simp only [Nat.zero_add] at p0 p1 p2 p3 p4; clear hb; have st11 : Stg 11 := .mk 11)
    | (have _s := st11; clear st11 _s; go_at_call 20; refine (HM.out.c20 w10 (below1 HB10.out)).mono ?_; rintro e w11 ⟨rfl, hb⟩; have HB11 := hidD (below_aft HB10.out hb); clear p0 p1 p2 p3 p4 hlp; obtain ⟨hlp, p0, p1, p2, p3, p4⟩ := keepT (f := ⟨k, m, r, s, aa, nn, cc⟩) HB11.out; simp only [Nat.zero_add] at p0 p1 p2 p3 p4; clear hb; have st12 : Stg 12 := .mk 12)
    | (have _s := st12; clear st12 _s; go_at_call 21; refine (HM.out.c21 w11 (below1 HB11.out)).mono ?_; rintro e w12 ⟨rfl, hb⟩; have HB12 := hidD (below_aft HB11.out hb); clear p0 p1 p2 p3 p4 hlp; obtain ⟨hlp, p0, p1, p2, p3, p4⟩ := keepT (f := ⟨k, m, r, s, aa, nn, cc⟩) HB12.out; simp only [Nat.zero_add] at p0 p1 p2 p3 p4; clear hb; have st13 : Stg 13 := .mk 13)
    | (have _s := st13; clear st13 _s; go_at_call 22; refine (C22.out w12 (below1 HB12.out)).mono ?_; rintro e w13 ⟨rfl, hb⟩; have HB13 := hidD (below_aft HB12.out hb); have HK12 := hidD hb; clear p0 p1 p2 p3 p4 hlp; obtain ⟨hlp, p0, p1, p2, p3, p4⟩ := keepT (f := ⟨k, m, r, s, aa, nn, cc⟩) HB13.out; simp only [Nat.zero_add] at p0 p1 p2 p3 p4; clear hb; have st14 : Stg 14 := .mk 14)
    | (have _s := st14; clear st14 _s; go_at_call 22; refine (C22.out w13 (below1 HB13.out)).mono ?_; rintro e w14 ⟨rfl, hb⟩; have HB14 := hidD (below_aft HB13.out hb); clear p0 p1 p2 p3 p4 hlp; obtain ⟨hlp, p0, p1, p2, p3, p4⟩ := keepT (f := ⟨k, m, r, s, aa, nn, cc⟩) HB14.out; simp only [Nat.zero_add] at p0 p1 p2 p3 p4; clear hb; have st15 : Stg 15 := .mk 15)
    | (have _s := st15; clear st15 _s; go_at_call 23; refine (C23.out w14 (below1 HB14.out)).mono ?_; rintro e w15 ⟨rfl, hb⟩; have HB15 := hidD (below_aft HB14.out hb); clear p0 p1 p2 p3 p4 hlp; obtain ⟨hlp, p0, p1, p2, p3, p4⟩ := keepT (f := ⟨k, m, r, s, aa, nn, cc⟩) HB15.out; simp only [Nat.zero_add] at p0 p1 p2 p3 p4; clear hb; have st16 : Stg 16 := .mk 16))
  clear p0 p1 p2 p3 p4 hlp
  clear st16
  go_loopw [17] (fun v Z => v = .int .i64 0 ∧ Below w.heap.size w Z) (fun _ _ => 0)
  case atStart => exact ⟨rfl, below1 HB15.out⟩
  case round =>
    obtain ⟨rfl, hZ⟩ := hrel
    have HZ := hidD hZ
    clear hZ
    go_wp2_with (go_at_call 11; refine (CA.out _).mono ?_; rintro e w20 ⟨rfl, hb20⟩; have HB20 := hidD hb20; clear hb20)
    go_ret
    exact ⟨rfl, below_aft HZ.out HB20.out⟩
set_option maxRecDepth 100000 in
set_option maxHeartbeats 16000000 in
theorem among_st (w : World) (a : Option Addr) (n cap : Nat) (f : Fv) (r1 r2 q e1 e2 : Int) (x d cp : Bool) (hM : Amg w a n cap f r1 r2 q e1 e2 x d cp) (cs : List Ch) (hlc : cs.length ≤ 8) (hcr : ∀ c ∈ cs, c.rg) (h22 : ∀ W, Below w.heap.size w W → Calls Tryd.prog 22 #[.slice a n cap, f.v] W fun e w' => ∃ v fl lo hi, e = .returned (.tuple #[v, .int .i64 0]) ∧ FRow w' W.heap.size v cs fl lo hi ∧ Below W.heap.size W w') (h23 : ∀ W, Below w.heap.size w W → Calls Tryd.prog 23 #[.slice a n cap, f.v] W fun e w' => ∃ v fl, e = .returned (.tuple #[v, .int .i64 0]) ∧ WRow w' W.heap.size v cs fl ∧ Below W.heap.size W w') :
    Calls Tryd.prog 3 #[.slice a n cap, f.v] w fun e w' => e = .returned (.bool true) ∧ Below w.heap.size w w' := by
  have CA : Hid (∀ W, Calls Tryd.prog 11 #[] W fun e w' => e = .returned (.bool true) ∧ Below W.heap.size W w') := awake_true
  have HM := hidD hM
  have C22 := hidD h22
  have C23 := hidD h23
  have HCR := hidD hcr
  have xx : (x != x) = false := by cases x <;> rfl
  have cc' : (cp != cp) = false := by cases cp <;> rfl
  have dd : (d != d) = false := by cases d <;> rfl
  obtain ⟨k, m, r, s, aa, nn, cc⟩ := f
  show Calls Tryd.prog 3 #[.slice a n cap, tyV k m r s aa nn cc] w _
  clear hM h22 h23 hcr
  have st1 : Stg 1 := .mk 1
  go_enter Tryd.func3, Tryd.ntmps3
  go_wp2_with (first
    | (have _s := st1; clear st1 _s; go_at_call 9; refine (HM.out.c9 _ (belA (Below.refl _ _))).mono ?_; rintro e w1 ⟨rfl, hb1⟩; have HB1 := hidD hb1; obtain ⟨hlp, p0, p1, p2, p3, p4⟩ := keepT (f := ⟨k, m, r, s, aa, nn, cc⟩) HB1.out; simp only [Nat.zero_add] at p0 p1 p2 p3 p4; clear hb1; have st2 : Stg 2 := .mk 2)
    | (have _s := st2; clear st2 _s; go_at_call 10; refine (HM.out.c10 w1 (below1 HB1.out)).mono ?_; rintro e w2 ⟨rfl, hb⟩; have HB2 := hidD (below_aft HB1.out hb); clear p0 p1 p2 p3 p4 hlp; obtain ⟨hlp, p0, p1, p2, p3, p4⟩ := keepT (f := ⟨k, m, r, s, aa, nn, cc⟩) HB2.out; simp only [Nat.zero_add] at p0 p1 p2 p3 p4; clear hb; have st3 : Stg 3 := .mk 3)
    | (have _s := st3; clear st3 _s; go_at_call 12; refine (HM.out.c12 w2 (below1 HB2.out)).mono ?_; rintro e w3 ⟨rfl, hb⟩; have HB3 := hidD (below_aft HB2.out hb); clear p0 p1 p2 p3 p4 hlp; obtain ⟨hlp, p0, p1, p2, p3, p4⟩ := keepT (f := ⟨k, m, r, s, aa, nn, cc⟩) HB3.out; simp only [Nat.zero_add] at p0 p1 p2 p3 p4; clear hb; have st4 : Stg 4 := .mk 4)
    | (have _s := st4; clear st4 _s; go_at_call 13; refine (HM.out.c13 w3 (below1 HB3.out)).mono ?_; rintro e w4 ⟨rfl, hb⟩; have HB4 := hidD (below_aft HB3.out hb); clear p0 p1 p2 p3 p4 hlp; obtain ⟨hlp, p0, p1, p2, p3, p4⟩ := keepT (f := ⟨k, m, r, s, aa, nn, cc⟩) HB4.out; simp only [Nat.zero_add] at p0 p1 p2 p3 p4; clear hb; have st5 : Stg 5 := .mk 5))
  clear p0 p1 p2 p3 p4 hlp st5
  refine beginH (S := (fun W' => C5 W' w.heap.size 0 ⟨k, m, r, s, aa, nn, cc⟩)) (fun _ _ _ _ _ h => h) (by kernel_rfl) (keepT HB4.out).drew5 (fun hq hHeld => ?_)
  refine takeH (i := 0) (d := 37) (.int .i64 r1) hq rfl rfl (by kernel_rfl) (by kernel_rfl) (by kernel_rfl) (by rfl) (fun W hSw => by (go_simp; try rfl)) hHeld ?_
  try simp only [Act.put, List.setIfInBounds_toArray, List.set_cons_zero, List.set_cons_succ]
  refine takeH (i := 1) (d := 38) (.int .i64 r1) hq rfl rfl (by kernel_rfl) (by kernel_rfl) (by kernel_rfl) (by rfl) (fun W hSw => by (go_simp; try rfl)) hHeld ?_
  try simp only [Act.put, List.setIfInBounds_toArray, List.set_cons_zero, List.set_cons_succ]
  refine takeH (i := 2) (d := 39) (.bool false) hq rfl rfl (by kernel_rfl) (by kernel_rfl) (by kernel_rfl) (by rfl) (fun W hSw => by (go_simp; try rfl)) hHeld ?_
  try simp only [Act.put, List.setIfInBounds_toArray, List.set_cons_zero, List.set_cons_succ]
  refine takeH (i := 3) (d := 40) (.bool false) hq rfl rfl (by kernel_rfl) (by kernel_rfl) (by kernel_rfl) (by rfl) (fun W hSw => by (go_simp; try rfl)) hHeld ?_
  try simp only [Act.put, List.setIfInBounds_toArray, List.set_cons_zero, List.set_cons_succ]
  refine takeH (i := 4) (d := 41) (.int .i64 r2) hq rfl rfl (by kernel_rfl) (by kernel_rfl) (by kernel_rfl) (by rfl) (fun W hSw => by (go_simp; try rfl)) hHeld ?_
  try simp only [Act.put, List.setIfInBounds_toArray, List.set_cons_zero, List.set_cons_succ]
  refine takeH (i := 5) (d := 42) (.int .i64 r2) hq rfl rfl (by kernel_rfl) (by kernel_rfl) (by kernel_rfl) (by rfl) (fun W hSw => by (go_simp; try rfl)) hHeld ?_
  try simp only [Act.put, List.setIfInBounds_toArray, List.set_cons_zero, List.set_cons_succ]
  refine takeH (i := 6) (d := 43) (.bool false) hq rfl rfl (by kernel_rfl) (by kernel_rfl) (by kernel_rfl) (by rfl) (fun W hSw => by (go_simp; try rfl)) hHeld ?_
  try simp only [Act.put, List.setIfInBounds_toArray, List.set_cons_zero, List.set_cons_succ]
  refine takeH (i := 7) (d := 44) (.bool false) hq rfl rfl (by kernel_rfl) (by kernel_rfl) (by kernel_rfl) (by rfl) (fun W hSw => by (go_simp; try rfl)) hHeld ?_
  try simp only [Act.put, List.setIfInBounds_toArray, List.set_cons_zero, List.set_cons_succ]
  refine takeH (i := 8) (d := 45) (.bool false) hq rfl rfl (by kernel_rfl) (by kernel_rfl) (by kernel_rfl) (by rfl) (fun W hSw => by (go_simp; try rfl)) hHeld ?_
  try simp only [Act.put, List.setIfInBounds_toArray, List.set_cons_zero, List.set_cons_succ]
  refine takeH (i := 9) (d := 46) (.slice a n cap) hq rfl rfl (by kernel_rfl) (by kernel_rfl) (by kernel_rfl) (by rfl) (fun W hSw => by (go_simp; try rfl)) hHeld ?_
  try simp only [Act.put, List.setIfInBounds_toArray, List.set_cons_zero, List.set_cons_succ]
  refine takeH (i := 10) (d := 47) (tyV k m r s aa nn cc) hq rfl rfl (by kernel_rfl) (by kernel_rfl) (by kernel_rfl) (by rfl) (fun W hSw => by (obtain ⟨-, p0, p1, p2, p3, p4⟩ := hSw; simp only [Nat.zero_add] at p0 p1 p2 p3 p4; go_simp; try rfl)) hHeld ?_
  try simp only [Act.put, List.setIfInBounds_toArray, List.set_cons_zero, List.set_cons_succ]
  refine takeH (i := 12) (d := 49) (.slice a n cap) hq rfl rfl (by kernel_rfl) (by kernel_rfl) (by kernel_rfl) (by rfl) (fun W hSw => by (go_simp; try rfl)) hHeld ?_
  try simp only [Act.put, List.setIfInBounds_toArray, List.set_cons_zero, List.set_cons_succ]
  refine takeH (i := 13) (d := 50) (tyV k m r s aa nn cc) hq rfl rfl (by kernel_rfl) (by kernel_rfl) (by kernel_rfl) (by rfl) (fun W hSw => by (obtain ⟨-, p0, p1, p2, p3, p4⟩ := hSw; simp only [Nat.zero_add] at p0 p1 p2 p3 p4; go_simp; try rfl)) hHeld ?_
  try simp only [Act.put, List.setIfInBounds_toArray, List.set_cons_zero, List.set_cons_succ]
  refine wpAnyH_ready (rs := [11]) (by kernel_rfl) (by simp) ?_
  refine AllReadyH.cons rfl (fun K hK => ?_) AllReadyH.nil
  go_simp
  refine (HM.out.c14 w4.drew (below1 (HB4.out).drew)).mono ?_
  rintro e w5 ⟨rfl, hb⟩
  have HB5 := hidD (below_aft (HB4.out).drew hb)
  clear hb
  go_wp2_with fail
  refine hK.out _ _ (keepT HB5.out) (fun hHeld => ?_)
  clear hK K
  try simp only [Act.put, List.setIfInBounds_toArray, List.set_cons_zero, List.set_cons_succ]
  refine wpAnyH_ready (rs := [14]) (by kernel_rfl) (by simp) ?_
  refine AllReadyH.cons rfl (fun K hK => ?_) AllReadyH.nil
  go_simp
  refine (HM.out.c15 w5 (below1 HB5.out)).mono ?_
  rintro e w6 ⟨rfl, hb⟩
  have HB6 := hidD (below_aft HB5.out hb)
  clear hb
  go_wp2_with fail
  refine hK.out _ _ (keepT HB6.out) (fun hHeld => ?_)
  clear hK K
  try simp only [Act.put, List.setIfInBounds_toArray, List.set_cons_zero, List.set_cons_succ]
  refine takeH (i := 15) (d := 52) (.bool false) hq rfl rfl (by kernel_rfl) (by kernel_rfl) (by kernel_rfl) (by rfl) (fun W hSw => by (go_simp; try simp)) hHeld ?_
  try simp only [Act.put, List.setIfInBounds_toArray, List.set_cons_zero, List.set_cons_succ]
  refine takeH (i := 16) (d := 53) (.bool false) hq rfl rfl (by kernel_rfl) (by kernel_rfl) (by kernel_rfl) (by rfl) (fun W hSw => by (go_simp; try rfl)) hHeld ?_
  try simp only [Act.put, List.setIfInBounds_toArray, List.set_cons_zero, List.set_cons_succ]
  refine takeH (i := 17) (d := 54) (.bool false) hq rfl rfl (by kernel_rfl) (by kernel_rfl) (by kernel_rfl) (by rfl) (fun W hSw => by (go_simp; try rfl)) hHeld ?_
  try simp only [Act.put, List.setIfInBounds_toArray, List.set_cons_zero, List.set_cons_succ]
  refine takeH (i := 18) (d := 55) (tyV k m r s aa nn cc) hq rfl rfl (by kernel_rfl) (by kernel_rfl) (by kernel_rfl) (by rfl) (fun W hSw => by (obtain ⟨-, p0, p1, p2, p3, p4⟩ := hSw; simp only [Nat.zero_add] at p0 p1 p2 p3 p4; go_simp; try rfl)) hHeld ?_
  try simp only [Act.put, List.setIfInBounds_toArray, List.set_cons_zero, List.set_cons_succ]
  refine takeH (i := 20) (d := 57) (tyV k m r s aa nn cc) hq rfl rfl (by kernel_rfl) (by kernel_rfl) (by kernel_rfl) (by rfl) (fun W hSw => by (obtain ⟨-, p0, p1, p2, p3, p4⟩ := hSw; simp only [Nat.zero_add] at p0 p1 p2 p3 p4; go_simp; try rfl)) hHeld ?_
  try simp only [Act.put, List.setIfInBounds_toArray, List.set_cons_zero, List.set_cons_succ]
  refine wpAnyH_ready (rs := [19]) (by kernel_rfl) (by simp) ?_
  refine AllReadyH.cons rfl (fun K hK => ?_) AllReadyH.nil
  go_simp
  refine (HM.out.c16 w6 (below1 HB6.out)).mono ?_
  rintro e w7 ⟨rfl, hb⟩
  have HB7 := hidD (below_aft HB6.out hb)
  clear hb
  go_wp2_with fail
  refine hK.out _ _ (keepT HB7.out) (fun hHeld => ?_)
  clear hK K
  try simp only [Act.put, List.setIfInBounds_toArray, List.set_cons_zero, List.set_cons_succ]
  refine wpAnyH_ready (rs := [21]) (by kernel_rfl) (by simp) ?_
  refine AllReadyH.cons rfl (fun K hK => ?_) AllReadyH.nil
  go_simp
  refine (HM.out.c17 w7 (below1 HB7.out)).mono ?_
  rintro e w8 ⟨rfl, hb⟩
  have HB8 := hidD (below_aft HB7.out hb)
  clear hb
  go_wp2_with fail
  refine hK.out _ _ (keepT HB8.out) (fun hHeld => ?_)
  clear hK K
  try simp only [Act.put, List.setIfInBounds_toArray, List.set_cons_zero, List.set_cons_succ]
  refine takeH (i := 22) (d := 59) (.bool false) hq rfl rfl (by kernel_rfl) (by kernel_rfl) (by kernel_rfl) (by rfl) (fun W hSw => by (go_simp; try simp)) hHeld ?_
  try simp only [Act.put, List.setIfInBounds_toArray, List.set_cons_zero, List.set_cons_succ]
  refine takeH (i := 23) (d := 60) (.bool false) hq rfl rfl (by kernel_rfl) (by kernel_rfl) (by kernel_rfl) (by rfl) (fun W hSw => by (go_simp; try rfl)) hHeld ?_
  try simp only [Act.put, List.setIfInBounds_toArray, List.set_cons_zero, List.set_cons_succ]
  refine wpAnyH_done (by kernel_rfl) ?_ _
  clear hHeld hq
  obtain ⟨hlp, p0, p1, p2, p3, p4⟩ := keepT (f := ⟨k, m, r, s, aa, nn, cc⟩) HB8.out; simp only [Nat.zero_add] at p0 p1 p2 p3 p4
  have st9 : Stg 9 := .mk 9
  clear HB1 HB2 HB3 HB4 HB5 HB6 HB7
  go_wp2_with (first
    | (have _s := st9; clear st9 _s; go_at_call 18; refine (HM.out.c18 w8 (below1 HB8.out)).mono ?_; rintro e w9 ⟨rfl, hb⟩; have HB9 := hidD (below_aft HB8.out hb); clear p0 p1 p2 p3 p4 hlp; obtain ⟨hlp, p0, p1, p2, p3, p4⟩ := keepT (f := ⟨k, m, r, s, aa, nn, cc⟩) HB9.out; simp only [Nat.zero_add] at p0 p1 p2 p3 p4; clear hb; have st10 : Stg 10 := .mk 10)
    | (have _s := st10; clear st10 _s; go_at_call 19; refine (HM.out.c19 w9 (below1 HB9.out)).mono ?_; rintro e w10 ⟨rfl, hb⟩; have HB10 := hidD (below_aft HB9.out hb); clear p0 p1 p2 p3 p4 hlp; obtain ⟨hlp, p0, p1, p2, p3, p4⟩ := keepT (f := ⟨k, m, r, s, aa, nn, cc⟩) HB10.out; simp only [Nat.zero_add] at p0 p1 p2 p3 p4; clear hb; have st11 : Stg 11 := .mk 11)
    | (have _s := st11; clear st11 _s; go_at_call 20; refine (HM.out.c20 w10 (below1 HB10.out)).mono ?_; rintro e w11 ⟨rfl, hb⟩; have HB11 := hidD (below_aft HB10.out hb); clear p0 p1 p2 p3 p4 hlp; obtain ⟨hlp, p0, p1, p2, p3, p4⟩ := keepT (f := ⟨k, m, r, s, aa, nn, cc⟩) HB11.out; simp only [Nat.zero_add] at p0 p1 p2 p3 p4; clear hb; have st12 : Stg 12 := .mk 12)
    | (have _s := st12; clear st12 _s; go_at_call 21; refine (HM.out.c21 w11 (below1 HB11.out)).mono ?_; rintro e w12 ⟨rfl, hb⟩; have HB12 := hidD (below_aft HB11.out hb); clear p0 p1 p2 p3 p4 hlp; obtain ⟨hlp, p0, p1, p2, p3, p4⟩ := keepT (f := ⟨k, m, r, s, aa, nn, cc⟩) HB12.out; simp only [Nat.zero_add] at p0 p1 p2 p3 p4; clear hb; have st13 : Stg 13 := .mk 13)
    | (have _s := st13; clear st13 _s; go_at_call 22; refine (C22.out w12 (below1 HB12.out)).mono ?_; rintro e w13 ⟨va, fa, la, ha, rfl, hR13, hb⟩; obtain ⟨a13, cap13, hv13⟩ := own_sl hR13.row; subst hv13; have HR13 := hidD hR13; clear hR13; have HB13 := hidD (below_aft HB12.out hb); have HK12 := hidD hb; clear p0 p1 p2 p3 p4 hlp; obtain ⟨hlp, p0, p1, p2, p3, p4⟩ := keepT (f := ⟨k, m, r, s, aa, nn, cc⟩) HB13.out; simp only [Nat.zero_add] at p0 p1 p2 p3 p4; clear hb; have st14 : Stg 14 := .mk 14)
    | (have _s := st14; clear st14 _s; go_at_call 22; refine (C22.out w13 (below1 HB13.out)).mono ?_; rintro e w14 ⟨vb, fb, lb, hib, rfl, hR14, hb⟩; obtain ⟨a14, cap14, hv14⟩ := own_sl hR14.row; subst hv14; have HR14 := hidD hR14; clear hR14; have HB14 := hidD (below_aft HB13.out hb); have HK13a := hidD hb; clear p0 p1 p2 p3 p4 hlp; obtain ⟨hlp, p0, p1, p2, p3, p4⟩ := keepT (f := ⟨k, m, r, s, aa, nn, cc⟩) HB14.out; simp only [Nat.zero_add] at p0 p1 p2 p3 p4; clear hb; have st15 : Stg 15 := .mk 15)
    | (have _s := st15; clear st15 _s; go_at_call 23; refine (C23.out w14 (below1 HB14.out)).mono ?_; rintro e w15 ⟨vw, fw, rfl, hR15, hb⟩; obtain ⟨a15, cap15, hv15⟩ := own_sl hR15.row; subst hv15; have HR15 := hidD hR15; clear hR15; have HB15 := hidD (below_aft HB14.out hb); have HK14 := hidD hb; have HK13 := hidD (below_aft HK13a.out hb); clear p0 p1 p2 p3 p4 hlp; obtain ⟨hlp, p0, p1, p2, p3, p4⟩ := keepT (f := ⟨k, m, r, s, aa, nn, cc⟩) HB15.out; simp only [Nat.zero_add] at p0 p1 p2 p3 p4; clear hb; have st16 : Stg 16 := .mk 16))
  clear p0 p1 p2 p3 p4 hlp
  clear st16
  have HT : Hid (Tri w w15 w12.heap.size w13.heap.size w14.heap.size (.slice a13 cs.length cap13) (.slice a14 cs.length cap14) (.slice a15 cs.length cap15) cs fa la ha fb lb hib fw 0) := hidD ⟨(HR13.out.bel HK13.out).a, HR14.out.bel HK14.out, HR15.out, below1 HB15.out, (below1 HB12.out).size, fun j hj => (HR13.out.rng j hj).2.2.1, fun j hj => Nat.le_trans (HR13.out.rng j hj).2.2.1 HK13a.out.size⟩
  obtain ⟨l, hl⟩ : ∃ l, l = cs.length := ⟨_, rfl⟩
  have HL := hidD hl
  rw [← hl] at HT ⊢
  have l8 : l ≤ 8 := by omega
  clear hl hlc HR13 HR14 HR15 HB8 HB9 HB10 HB11 HB12 HB13 HB14 HB15 HK12 HK13 HK13a HK14 C22 C23 HM
  go_loopw [17] (fun v Z => ∃ i : Nat, i ≤ l ∧ v = .int .i64 i ∧ Tri w Z w12.heap.size w13.heap.size w14.heap.size (.slice a13 l cap13) (.slice a14 l cap14) (.slice a15 l cap15) cs fa la ha fb lb hib fw i) (fun v _ => l - (intOf v).toNat)
  case atStart => exact ⟨0, Nat.zero_le _, rfl, HT.out⟩
  case round =>
    obtain ⟨i, hi, rfl, hTri⟩ := hrel
    have HTR := hidD hTri
    clear hTri HT
    by_cases hlt : i < l
    · have hlc : i < cs.length := by have := HL.out; omega
      obtain ⟨ga, capA, ca, fA, hvA, hgA, hcA, h5A, hOA⟩ := HTR.out.ra.at hlc
      obtain ⟨gb, capB, cb, fB, hvB, hgB, -, hcB, -, h5B, hOB⟩ := HTR.out.rb.at (n := 0) hlc
      obtain ⟨gw, capW, cw', fW, hvW, hgW, -, hcW, -, h5W, hOW⟩ := HTR.out.rw'.at hlc
      injection hvA with hA1 hA2 hA3
      injection hvB with hB1 hB2 hB3
      injection hvW with hW1 hW2 hW3
      subst hA1 hA3 hB1 hB3 hW1 hW3
      rw [hcA] at hcB hcW
      obtain rfl : ca = cb := Option.some.inj hcB
      obtain rfl : ca = cw' := Option.some.inj hcW
      have hrg := HCR.out ca (List.mem_of_getElem? hcA)
      have HC := hidD hlc
      have H5A := hidD h5A
      have H5B := hidD h5B
      have H5W := hidD h5W
      have HTA := hidD (hOA.ty hrg)
      have HTB := hidD (hOB.ty hrg)
      have HTW := hidD (hOW hrg)
      have HRG := hidD hrg
      have e0 : (0 : Int) ≤ (i : Int) := by omega
      have e1 : (i : Int) < (l : Int) := by omega
      have e2 : (i : Int) ≤ 1000 := by omega
      clear h5A h5B h5W hOA hOB hOW hcA hcB hcW hA2 hB2 hW2 hrg hlc
      go_wp2_with fail
      refine beginH (S := (S2 ga i fA gw fW)) (fun _ _ _ _ _ h => h) (by kernel_rfl) ⟨H5A.out.drew5, H5W.out.drew5⟩ (fun hq hHeld => ?_)
      refine takeH (i := 0) (d := 147) (.slice (some ⟨ga, 0, none⟩) l cap13) hq rfl rfl (by kernel_rfl) (by kernel_rfl) (by kernel_rfl) (by rfl) (fun W hSw => by (go_simp; try rfl)) hHeld ?_
      try simp only [Act.put, List.setIfInBounds_toArray, List.set_cons_zero, List.set_cons_succ]
      refine takeH (i := 1) (d := 148) (.int .i64 (i : Int)) hq rfl rfl (by kernel_rfl) (by kernel_rfl) (by kernel_rfl) (by rfl) (fun W hSw => by (go_simp; try rfl)) hHeld ?_
      try simp only [Act.put, List.setIfInBounds_toArray, List.set_cons_zero, List.set_cons_succ]
      refine takeH (i := 2) (d := 149) (.pointer (some ⟨ga, i * 5, none⟩)) hq rfl rfl (by kernel_rfl) (by kernel_rfl) (by kernel_rfl) (by rfl) (fun W hSw => by (go_simp; try rfl)) hHeld ?_
      try simp only [Act.put, List.setIfInBounds_toArray, List.set_cons_zero, List.set_cons_succ]
      refine takeH (i := 3) (d := 150) fA.v hq rfl rfl (by kernel_rfl) (by kernel_rfl) (by kernel_rfl) (by rfl) (fun W hSw => by (obtain ⟨-, p0, p1, p2, p3, p4⟩ := hSw.a; go_simp; try rfl)) hHeld ?_
      try simp only [Act.put, List.setIfInBounds_toArray, List.set_cons_zero, List.set_cons_succ]
      refine takeH (i := 4) (d := 151) (.slice (some ⟨gw, 0, none⟩) l cap15) hq rfl rfl (by kernel_rfl) (by kernel_rfl) (by kernel_rfl) (by rfl) (fun W hSw => by (go_simp; try rfl)) hHeld ?_
      try simp only [Act.put, List.setIfInBounds_toArray, List.set_cons_zero, List.set_cons_succ]
      refine takeH (i := 5) (d := 152) (.int .i64 (i : Int)) hq rfl rfl (by kernel_rfl) (by kernel_rfl) (by kernel_rfl) (by rfl) (fun W hSw => by (go_simp; try rfl)) hHeld ?_
      try simp only [Act.put, List.setIfInBounds_toArray, List.set_cons_zero, List.set_cons_succ]
      refine takeH (i := 6) (d := 153) (.pointer (some ⟨gw, i * 5, none⟩)) hq rfl rfl (by kernel_rfl) (by kernel_rfl) (by kernel_rfl) (by rfl) (fun W hSw => by (go_simp; try rfl)) hHeld ?_
      try simp only [Act.put, List.setIfInBounds_toArray, List.set_cons_zero, List.set_cons_succ]
      refine takeH (i := 7) (d := 154) fW.v hq rfl rfl (by kernel_rfl) (by kernel_rfl) (by kernel_rfl) (by rfl) (fun W hSw => by (obtain ⟨-, p0, p1, p2, p3, p4⟩ := hSw.b; go_simp; try rfl)) hHeld ?_
      try simp only [Act.put, List.setIfInBounds_toArray, List.set_cons_zero, List.set_cons_succ]
      refine wpAnyH_ready (rs := [8]) (by kernel_rfl) (by simp) ?_
      refine AllReadyH.cons rfl (fun K hK => ?_) AllReadyH.nil
      go_simp
      refine (equal_same ca fA fW wr.drew (HTA.out.bel (Below.refl _ _).drew) (HTW.out.bel (Below.refl _ _).drew)).mono ?_
      rintro e wx ⟨rfl, hbx⟩
      have HBX := hidD (undrew hbx)
      clear hbx
      go_wp2_with fail
      refine hK.out _ _ ⟨(H5A.out).below HBX.out, (H5W.out).below HBX.out⟩ (fun hHeld => ?_)
      clear hK K
      try simp only [Act.put, List.setIfInBounds_toArray, List.set_cons_zero, List.set_cons_succ]
      refine takeH (i := 9) (d := 156) (.bool false) hq rfl rfl (by kernel_rfl) (by kernel_rfl) (by kernel_rfl) (by rfl) (fun W hSw => by (go_simp; try rfl)) hHeld ?_
      try simp only [Act.put, List.setIfInBounds_toArray, List.set_cons_zero, List.set_cons_succ]
      refine wpAnyH_done (by kernel_rfl) ?_ _
      clear hHeld hq
      have HT2 := hidD (HTR.out.bl HBX.out)
      have h5A2 := H5A.out.below HBX.out
      obtain ⟨gA', capA', cA', fA', hvA', -, hcA', h5A', hOA'⟩ := HT2.out.ra.at HC.out
      have CS : Hid (Calls Tryd.prog 25 #[fA'.v] wx fun e w' => e = .returned (.tuple #[]) ∧ Out (la i) (ha i) wx w') := hidD (spoil_any cA' fA' wx _ _ hOA' (HT2.out.ra.rng i HC.out).2.1 (HT2.out.ra.rng i HC.out).2.2.1)
      injection hvA' with hA1 hA2 hA3
      injection hA1 with hA1
      injection hA1 with hA1
      subst hA1
      obtain ⟨hl5, p0, p1, p2, p3, p4⟩ := h5A'
      clear h5A2 hOA' hcA' hA2 hA3 HTR
      go_wp2_with (go_at_call 25; refine CS.out.mono ?_; rintro e wy ⟨rfl, ho⟩; have HO := hidD ho; clear ho)
      clear p0 p1 p2 p3 p4 hl5
      have HT3 := hidD (HT2.out.spoil HC.out HO.out)
      obtain ⟨gb', capB', cb', fB', hvB', hgB', -, hcB', -, h5B', hOB'⟩ := HT3.out.rb.at (n := 0) HC.out
      obtain ⟨gw', capW', cw'', fW', hvW', hgW', -, hcW', -, h5W', hOW'⟩ := HT3.out.rw'.at HC.out
      injection hvB' with hB1 hB2 hB3
      injection hB1 with hB1
      injection hB1 with hB1
      subst hB1 hB3
      injection hvW' with hW1 hW2 hW3
      injection hW1 with hW1
      injection hW1 with hW1
      subst hW1 hW3
      rw [hcB'] at hcW'
      obtain rfl : cb' = cw'' := Option.some.inj hcW'
      have hrg' := HCR.out cb' (List.mem_of_getElem? hcB')
      have H5B' := hidD h5B'
      have H5W' := hidD h5W'
      have HTB' := hidD (hOB'.ty hrg')
      have HTW' := hidD (hOW' hrg')
      clear h5B' h5W' hOB' hOW' hcB' hcW' hB2 hW2 hrg' HT2 HO
      refine beginH (S := (S2 gb i fB' gw fW')) (fun _ _ _ _ _ h => h) (by kernel_rfl) ⟨H5B'.out.drew5, H5W'.out.drew5⟩ (fun hq hHeld => ?_)
      refine takeH (i := 0) (d := 162) (.slice (some ⟨gb, 0, none⟩) l cap14) hq rfl rfl (by kernel_rfl) (by kernel_rfl) (by kernel_rfl) (by rfl) (fun W hSw => by (go_simp; try rfl)) hHeld ?_
      try simp only [Act.put, List.setIfInBounds_toArray, List.set_cons_zero, List.set_cons_succ]
      refine takeH (i := 1) (d := 163) (.int .i64 (i : Int)) hq rfl rfl (by kernel_rfl) (by kernel_rfl) (by kernel_rfl) (by rfl) (fun W hSw => by (go_simp; try rfl)) hHeld ?_
      try simp only [Act.put, List.setIfInBounds_toArray, List.set_cons_zero, List.set_cons_succ]
      refine takeH (i := 2) (d := 164) (.pointer (some ⟨gb, i * 5, none⟩)) hq rfl rfl (by kernel_rfl) (by kernel_rfl) (by kernel_rfl) (by rfl) (fun W hSw => by (go_simp; try rfl)) hHeld ?_
      try simp only [Act.put, List.setIfInBounds_toArray, List.set_cons_zero, List.set_cons_succ]
      refine takeH (i := 3) (d := 165) fB'.v hq rfl rfl (by kernel_rfl) (by kernel_rfl) (by kernel_rfl) (by rfl) (fun W hSw => by (obtain ⟨-, p0, p1, p2, p3, p4⟩ := hSw.a; go_simp; try rfl)) hHeld ?_
      try simp only [Act.put, List.setIfInBounds_toArray, List.set_cons_zero, List.set_cons_succ]
      refine takeH (i := 4) (d := 166) (.slice (some ⟨gw, 0, none⟩) l cap15) hq rfl rfl (by kernel_rfl) (by kernel_rfl) (by kernel_rfl) (by rfl) (fun W hSw => by (go_simp; try rfl)) hHeld ?_
      try simp only [Act.put, List.setIfInBounds_toArray, List.set_cons_zero, List.set_cons_succ]
      refine takeH (i := 5) (d := 167) (.int .i64 (i : Int)) hq rfl rfl (by kernel_rfl) (by kernel_rfl) (by kernel_rfl) (by rfl) (fun W hSw => by (go_simp; try rfl)) hHeld ?_
      try simp only [Act.put, List.setIfInBounds_toArray, List.set_cons_zero, List.set_cons_succ]
      refine takeH (i := 6) (d := 168) (.pointer (some ⟨gw, i * 5, none⟩)) hq rfl rfl (by kernel_rfl) (by kernel_rfl) (by kernel_rfl) (by rfl) (fun W hSw => by (go_simp; try rfl)) hHeld ?_
      try simp only [Act.put, List.setIfInBounds_toArray, List.set_cons_zero, List.set_cons_succ]
      refine takeH (i := 7) (d := 169) fW'.v hq rfl rfl (by kernel_rfl) (by kernel_rfl) (by kernel_rfl) (by rfl) (fun W hSw => by (obtain ⟨-, p0, p1, p2, p3, p4⟩ := hSw.b; go_simp; try rfl)) hHeld ?_
      try simp only [Act.put, List.setIfInBounds_toArray, List.set_cons_zero, List.set_cons_succ]
      refine wpAnyH_ready (rs := [8]) (by kernel_rfl) (by simp) ?_
      refine AllReadyH.cons rfl (fun K hK => ?_) AllReadyH.nil
      go_simp
      refine (equal_same cb' fB' fW' wy.drew (HTB'.out.bel (Below.refl _ _).drew) (HTW'.out.bel (Below.refl _ _).drew)).mono ?_
      rintro e wz ⟨rfl, hbx⟩
      have HBY := hidD (undrew hbx)
      clear hbx
      go_wp2_with fail
      refine hK.out _ _ ⟨(H5B'.out).below HBY.out, (H5W'.out).below HBY.out⟩ (fun hHeld => ?_)
      clear hK K
      try simp only [Act.put, List.setIfInBounds_toArray, List.set_cons_zero, List.set_cons_succ]
      refine takeH (i := 9) (d := 171) (.bool false) hq rfl rfl (by kernel_rfl) (by kernel_rfl) (by kernel_rfl) (by rfl) (fun W hSw => by (go_simp; try rfl)) hHeld ?_
      try simp only [Act.put, List.setIfInBounds_toArray, List.set_cons_zero, List.set_cons_succ]
      refine wpAnyH_done (by kernel_rfl) ?_ _
      clear hHeld hq
      have HT4 := hidD (HT3.out.bl HBY.out)
      clear H5A H5B H5W HTA HTB HTW HT3 H5B' H5W' HTB' HTW' CS
      go_wp2_with fail
      refine ⟨⟨i + 1, hlt, by go_num, HT4.out⟩, ?_⟩
      show l - ((i : Int) + 1).toNat < l - (i : Int).toNat
      omega
    · obtain rfl : i = l := by omega
      have z1 : ¬ ((i : Int) < (i : Int)) := by omega
      go_wp2_with (go_at_call 11; refine (CA.out _).mono ?_; rintro e w20 ⟨rfl, hb20⟩; have HB20 := hidD hb20; clear hb20)
      go_ret
      exact ⟨rfl, below_aft HTR.out.bel HB20.out⟩
end Go.Proofs.YtjchbclkdbojpaaDoor
