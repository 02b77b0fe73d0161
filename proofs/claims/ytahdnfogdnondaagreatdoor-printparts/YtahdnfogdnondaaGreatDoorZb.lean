import Derived.Test.YtahdnfogdnondaaGreatDoorZa
namespace Go.Proofs.YtahdnfogdnondaaGreatDoor
open Go.RowKit
set_option linter.unusedVariables false
set_option linter.unusedSimpArgs false

/-- Blocks below hi lie as they lay, but for one. -/
structure KeepX (hi g : Nat) (W W' : World) : Prop where
  size : W.heap.size ≤ W'.heap.size
  same : ∀ b, b < hi → b ≠ g → W'.heap[b]? = W.heap[b]?
theorem KeepX.cell {hi g : Nat} {W W' : World} (h : KeepX hi g W W') {b o : Nat} (hb : b < hi) (hg : b ≠ g) : W'.cell? ⟨b, o, none⟩ = W.cell? ⟨b, o, none⟩ := World.cell?_of_block (h.same b hb hg)
theorem Keep.x {hi g : Nat} {W W' : World} (h : Keep hi W W') : KeepX hi g W W' := ⟨h.size, fun b hb _ => h.same b hb⟩
theorem Keep.cell {hi : Nat} {W W' : World} (h : Keep hi W W') {b o : Nat} (hb : b < hi) : W'.cell? ⟨b, o, none⟩ = W.cell? ⟨b, o, none⟩ := World.cell?_of_block (h.same b hb)
theorem made_rest (n i : Nat) (h : i < n) : (madeCells (Value.agg #[.int .u8 0, .int .i64 0, .int .i64 0, .string ⟨#[]⟩, .slice none 0 0]).cells (n * 5))[i * 5 + 4]? = some (.slice none 0 0) := by
  have hc : (Value.agg #[.int .u8 0, .int .i64 0, .int .i64 0, .string ⟨#[]⟩, .slice none 0 0]).cells = #[.int .u8 0, .int .i64 0, .int .i64 0, .string ⟨#[]⟩, .slice none 0 0] := by rfl
  rw [hc]
  unfold madeCells
  rw [Array.getElem?_map, Array.getElem?_range]
  rw [if_pos (by omega)]
  simp [show (i * 5 + 4) % 5 = 4 by omega]
/-- A node's cells are written over. -/
def setNd (W : World) (g o : Nat) (x : Nx) : World := ((((W.setCell ⟨g, o, none⟩ (.int .u8 (x.k : Int))).setCell ⟨g, o + 1, none⟩ (.int .i64 x.p)).setCell ⟨g, o + 2, none⟩ (.int .i64 x.n)).setCell ⟨g, o + 3, none⟩ (.string (str x.s))).setCell ⟨g, o + 4, none⟩ (.slice none 0 0)
theorem OC.setNd {W : World} {lo hi g n k : Nat} {T : List Nd} {cur : Array Value} (h : OC W lo hi g n T k cur) (hk : k < n) (x : Nx) : ∃ cur', OC (setNd W g (k * 5) x) lo hi g n T k cur' ∧ NCur cur' k x (.slice none 0 0) := by
  have hs := h.size
  have h1 := h.set (k * 5) (Nat.le_refl _) (.int .u8 (x.k : Int)) (fun i _ e => by omega)
  have h2 := h1.set (k * 5 + 1) (by omega) (.int .i64 x.p) (fun i _ e => by omega)
  have h3 := h2.set (k * 5 + 2) (by omega) (.int .i64 x.n) (fun i _ e => by omega)
  have h4 := h3.set (k * 5 + 3) (by omega) (.string (str x.s)) (fun i _ e => by omega)
  have h5 := h4.set (k * 5 + 4) (by omega) (.slice none 0 0) (fun i _ e => rfl)
  refine ⟨_, h5, ?_, ?_, ?_, ?_, ?_⟩
  · rw [Array.getElem?_setIfInBounds_ne (by omega), Array.getElem?_setIfInBounds_ne (by omega), Array.getElem?_setIfInBounds_ne (by omega), Array.getElem?_setIfInBounds_ne (by omega), Array.getElem?_setIfInBounds_self_of_lt (by omega)]
  · rw [Array.getElem?_setIfInBounds_ne (by omega), Array.getElem?_setIfInBounds_ne (by omega), Array.getElem?_setIfInBounds_ne (by omega), Array.getElem?_setIfInBounds_self_of_lt (by simp; omega)]
  · rw [Array.getElem?_setIfInBounds_ne (by omega), Array.getElem?_setIfInBounds_ne (by omega), Array.getElem?_setIfInBounds_self_of_lt (by simp; omega)]
  · rw [Array.getElem?_setIfInBounds_ne (by omega), Array.getElem?_setIfInBounds_self_of_lt (by simp; omega)]
  · rw [Array.getElem?_setIfInBounds_self_of_lt (by simp; omega)]
theorem setNd_size (W : World) (g o : Nat) (x : Nx) : (setNd W g o x).heap.size = W.heap.size := by simp [setNd]
theorem setNd_off {W : World} {g b o : Nat} {x : Nx} (h : b ≠ g) : (setNd W g o x).heap[b]? = W.heap[b]? := by
  unfold setNd
  rw [Below.heap_setCell _ _ _ b h, Below.heap_setCell _ _ _ b h, Below.heap_setCell _ _ _ b h, Below.heap_setCell _ _ _ b h, Below.heap_setCell _ _ _ b h]
theorem below_setNd {B : Nat} {w0 W : World} (h : Below B w0 W) {g : Nat} (hg : B ≤ g) (o : Nat) (x : Nx) : Below B w0 (setNd W g o x) := ((((h.setCell hg _).setCell hg _).setCell hg _).setCell hg _).setCell hg _
/-- What a tree that is moved must be. -/
structure Mvb (T : List Nd) (by_ : Int) : Prop where
  n : T.length ≤ 20000
  s : ∀ d ∈ T, d.x.s.length ≤ 140737488355328
  l : ∀ d ∈ T, d.l.length ≤ 20000
  c : ∀ d ∈ T, ∀ c ∈ d.l, -100000 ≤ c ∧ c ≤ 100000
  b : -100000 ≤ by_ ∧ by_ ≤ 100000
/-- What holds between two rounds over a node's children. -/
structure IL (w : World) (lo hi g n B bx : Nat) (T' : List Nd) (k : Nat) (x : Nx) (al : Option Addr) (l : List Int) (capl : Nat) (by_ : Int) (m : Nat) (cur : Array Value) (v : Value) (W : World) : Prop where
  at_ : W.heap[g]? = some (.cells cur 44 (0, 0))
  size : cur.size = n * 5
  nd : ∀ i d, i < k → T'[i]? = some d → ∃ v, NCur cur i d.x v ∧ W.ownsRow lo 3 1 v d.l.length (iCells d.l) ∧ (∀ b, v.ownBlock = some b → b ≠ g ∧ b < hi)
  rest : ∀ i, k + 1 ≤ i → i < n → cur[i * 5 + 4]? = some (.slice none 0 0)
  me : NCur cur k x v
  own : W.ownsRow B 3 1 v m (iCells ((l.take m).map (· + by_)))
  box : At W bx (Ndo x al l.length capl)
  bel : Below w.heap.size w W
  big : B ≤ W.heap.size
theorem row_slice3 {w : World} {B : Nat} {v : Value} {n : Nat} {xs : List Value} (h : w.ownsRow B 3 1 v n xs) : ∃ a c, v = .slice a n c := by
  rcases h.2 with ⟨rfl, rfl⟩ | ⟨g, cap, cur, rfl, _⟩
  · exact ⟨_, _, rfl⟩
  · exact ⟨_, _, rfl⟩
theorem IL.step {w : World} {lo hi g n B bx : Nat} {T' : List Nd} {k : Nat} {x : Nx} {al : Option Addr} {l : List Int} {capl : Nat} {by_ : Int} {m : Nat} {cur : Array Value} {v : Value} {W w4 : World} {c : Int} {v' : Value}
    (h : IL w lo hi g n B bx T' k x al l capl by_ m cur v W) (hk : k < n) (hg : lo ≤ g) (hgB : g < B) (hhB : hi ≤ B) (hbx : bx < B) (hbg : bx ≠ g) (hlo : w.heap.size = lo) (hgw : lo ≤ g) (hc : l[m]? = some c)
    (ho : w4.ownsRow B 3 1 v' (m + 1) (iCells ((l.take m).map (· + by_)) ++ [.int .i64 (c + by_)])) (hgr : (W.alloc (.cells #[.int .i64 (c + by_)] 3)).grownBy w4 v.ownBlock) :
    IL w lo hi g n B bx T' k x al l capl by_ (m + 1) (cur.setIfInBounds (k * 5 + 4) v') v' (w4.setCell ⟨g, k * 5 + 4, none⟩ v') := by
  have hvB : ∀ b, v.ownBlock = some b → B ≤ b := fun b e => (h.own.lt b e).1
  have keep : Keep B W w4 := (Keep.alloc W _ h.big).trans (Keep.grown hgr (by simp; have := h.big; omega) hvB)
  have g4 : w4.heap[g]? = some (.cells cur 44 (0, 0)) := (keep.same g hgB).trans h.at_
  have off : ∀ b, b ≠ g → (w4.setCell ⟨g, k * 5 + 4, none⟩ v').heap[b]? = w4.heap[b]? := fun b hb => Below.heap_setCell _ _ _ b hb
  have hset := heap_setCell_same w4 g (k * 5 + 4) _ 44 v' g4
  have hsz := h.size
  have ne : ∀ o, o ≠ k * 5 + 4 → (cur.setIfInBounds (k * 5 + 4) v')[o]? = cur[o]? := fun o ho => Array.getElem?_setIfInBounds_ne (fun e => ho e.symm)
  refine ⟨hset, by simpa using hsz, fun i d hi' hd => ?_, fun i h1 h2 => ?_, ?_, ?_, ?_, ?_, ?_⟩
  · obtain ⟨u, ⟨n0, n1, n2, n3, n4⟩, h2, h3⟩ := h.nd i d hi' hd
    refine ⟨u, ⟨(ne _ (by omega)).trans n0, (ne _ (by omega)).trans n1, (ne _ (by omega)).trans n2, (ne _ (by omega)).trans n3, (ne _ (by omega)).trans n4⟩, ?_, h3⟩
    have e1 := owns_keep h2 (fun b e => Nat.lt_of_lt_of_le (h3 b e).2 hhB) keep
    exact World.ownsRow.kept e1 (grown_set (grown_refl w4 (some g)) _ _) (by
      cases e : u.ownBlock with
      | none => exact .inl rfl
      | some b => exact .inr (fun e' => (h3 b e).1 (Option.some.inj e')))
  · rw [ne _ (by omega)]; exact h.rest i h1 h2
  · obtain ⟨n0, n1, n2, n3, n4⟩ := h.me
    exact ⟨(ne _ (by omega)).trans n0, (ne _ (by omega)).trans n1, (ne _ (by omega)).trans n2, (ne _ (by omega)).trans n3, Array.getElem?_setIfInBounds_self_of_lt (by omega)⟩
  · have e : iCells ((l.take (m + 1)).map (· + by_)) = iCells ((l.take m).map (· + by_)) ++ [.int .i64 (c + by_)] := by
      rw [List.take_add_one, hc]; simp [iCells]
    rw [e]
    exact World.ownsRow.kept ho (grown_set (grown_refl w4 (some g)) _ _) (by
      cases e : v'.ownBlock with
      | none => exact .inl rfl
      | some b => exact .inr (fun e' => by have := (ho.lt b e).1; have := Option.some.inj e'; omega))
  · exact (off bx hbg).trans ((keep.same bx hbx).trans h.box)
  · have b1 := h.bel.alloc h.bel.size (.cells #[.int .i64 (c + by_)] 3)
    exact (b1.grown hgr b1.size (fun b e => by have := hvB b e; omega)).setCell (by simp; omega) _
  · simp; have := keep.size; have := h.big; omega
set_option maxRecDepth 100000 in
set_option maxHeartbeats 8000000 in
theorem shifted_n (T : List Nd) (n : Nat) (hn : T.length = n) (a : Option Addr) (cap : Nat) (by_ : Int) (w : World) (hT : TAt w a T) (hM : Mvb T by_) :
    Calls Tryz.prog 49 #[.slice a n cap, .int .i64 by_] w fun e w' => ∃ cur, e = .returned (.slice (some ⟨w.heap.size, 0, none⟩) n n) ∧ OC w' w.heap.size w'.heap.size w.heap.size n (T.map (Fo.mv by_)) n cur ∧ Below w.heap.size w w' := by
  obtain ⟨i0, hi, hz0, hz1, hz2⟩ := info_parts Tryz.info44
  obtain ⟨i3, hi3, hz30, hz31, hz32⟩ := info_parts Tryz.info3
  have hTn := hM.n
  rw [hn] at hTn
  have HT : Hid (TAt w a T) := hT
  have HM : Hid (Mvb T by_) := hM
  have HN : Hid (T.length = n) := hn
  clear hT hM hn
  obtain ⟨T', hT'⟩ : ∃ T', T' = T.map (Fo.mv by_) := ⟨_, rfl⟩
  rw [← hT']
  have HT' : Hid (T' = T.map (Fo.mv by_)) := hT'
  clear hT'
  go_enter Tryz.func49, Tryz.ntmps49
  go_wp2_with (at_make; refine wpList_make_full _ rfl _ _ 22 rfl w.heap.size 44 i0 (.agg #[.int .u8 0, .int .i64 0, .int .i64 0, .string ⟨#[]⟩, .slice none 0 0]) 5 Tryz.underlying22 hi hz0 hz1 .i64 .i64 _ _ n rfl rfl rfl rfl (by rw [hz2]; omega) (by unfold maxLen; omega) (Nat.le_refl _) ?_; intro w2 hown2 hgrow2; have hb2 := below_of_grown hgrow2; clear hgrow2)
  have h0 : ∃ cur, OC w2 w.heap.size w2.heap.size w.heap.size n T' 0 cur := by
    rcases hown2.2 with ⟨h', _⟩ | ⟨g', cap', cur, h', _, hg, _, _, hs, htake⟩
    · simp at h'
    · simp only [Value.slice.injEq, Option.some.injEq, Addr.mk.injEq, and_true, true_and] at h'
      obtain ⟨rfl, rfl⟩ := h'
      refine ⟨cur, hg, hs, Nat.le_refl _, (Array.getElem?_eq_some_iff.1 hg).1, fun i d h => absurd h (Nat.not_lt_zero i), fun i _ hi' => ?_⟩
      rw [List.take_of_length_le (by simp [hs])] at htake
      have := made_rest n i hi'
      rw [← Array.getElem?_toList, ← htake] at this
      simpa using this
  clear hown2
  go_loopw [15] (fun i W => ∃ (k : Nat) (cur : Array Value), k ≤ n ∧ i = .int .i64 k ∧ OC W w.heap.size W.heap.size w.heap.size n T' k cur ∧ Below w.heap.size w W) (fun i _ => n - (intOf i).toNat)
  case atStart =>
    obtain ⟨cur, h0⟩ := h0
    exact ⟨0, cur, Nat.zero_le _, rfl, h0, hb2⟩
  case round =>
    obtain ⟨k, cur, hk, rfl, hO, hB⟩ := hrel
    clear h0 hb2
    by_cases hlt : k < n
    · have hlt' : k < T.length := by rw [HN.out]; exact hlt
      obtain ⟨d, hd⟩ : ∃ d, T[k]? = some d := ⟨_, List.getElem?_eq_getElem hlt'⟩
      have hdm := List.mem_of_getElem? hd
      have hds := HM.out.s d hdm
      have hdl := HM.out.l d hdm
      have HDC : Hid (∀ c ∈ d.l, -100000 ≤ c ∧ c ≤ 100000) := HM.out.c d hdm
      have hby := HM.out.b
      have HD : Hid (T'[k]? = some (Fo.mv by_ d)) := by show T'[k]? = _; rw [HT'.out, List.getElem?_map, hd]; rfl
      obtain ⟨gt, ot, rfl, hrow⟩ := HT.out (by rintro rfl; simp at hlt')
      obtain ⟨q0, q1, q2, q3, q4, al, capl, q5, q6⟩ := hrow k d hd
      have HIR : Hid (IRow w al d.l) := q6
      replace q1 := (hB.cell q0).trans q1
      replace q2 := (hB.cell q0).trans q2
      replace q3 := (hB.cell q0).trans q3
      replace q4 := (hB.cell q0).trans q4
      replace q5 := (hB.cell q0).trans q5
      have k0 : (0 : Int) ≤ (k : Int) := by omega
      have k1 : (k : Int) < (n : Int) := by omega
      have w3 : IntKind.i64.wrap ((k : Int) + 1) = (k : Int) + 1 := by rw [IntKind.wrap_i64]; omega
      have HCl : Hid (∀ W, Calls Tryz.prog 57 #[.string (str d.x.s)] W fun e w' => e = .returned (.string (str d.x.s)) ∧ Below W.heap.size W w') := fun W => clone_any d.x.s W hds
      obtain ⟨W2, hW2⟩ : ∃ W2, W2 = wr.alloc (Ndo d.x al d.l.length capl) := ⟨_, rfl⟩
      have A2 : At W2 wr.heap.size (Ndo d.x al d.l.length capl) := by rw [hW2]; exact At.new _ _
      have K2 : Keep wr.heap.size wr W2 := by rw [hW2]; exact Keep.alloc _ _ (Nat.le_refl _)
      have B2 : Below w.heap.size w W2 := by rw [hW2]; exact belA hB
      have hgs := hO.gh
      have O2 : OC W2 w.heap.size wr.heap.size w.heap.size n T' k cur := hO.keep K2
      have hsz2 : W2.heap.size = wr.heap.size + 1 := by rw [hW2]; simp
      obtain ⟨y0, y1, y2, y3, y4, yf⟩ := A2.nd
      have HW2 : Hid (wr.alloc (.cells #[.int .u8 (d.x.k : Int), .int .i64 d.x.p, .int .i64 d.x.n, .string (str d.x.s), .slice al d.l.length capl] 44) = W2) := hW2.symm
      clear hW2 hrow hd hdm q6 hlt'
      go_wp2
      rw [HW2.out]
      refine beginH (S := fun w' => KeepX W2.heap.size w.heap.size W2 w') (fun _ _ _ _ _ h => h) (by kernel_rfl) (Keep.drew _ _).x (fun hq hHeld => ?_)
      refine takeH (i := 0) (d := 20) _ hq rfl rfl (by kernel_rfl) (by kernel_rfl) (by kernel_rfl) (by rfl) (fun W hSw => by (go_simp; try rfl)) hHeld ?_
      try simp only [Act.put, List.setIfInBounds_toArray, List.set_cons_zero, List.set_cons_succ]
      refine takeH (i := 1) (d := 21) _ hq rfl rfl (by kernel_rfl) (by kernel_rfl) (by kernel_rfl) (by rfl) (fun W hSw => by (go_simp; try rfl)) hHeld ?_
      try simp only [Act.put, List.setIfInBounds_toArray, List.set_cons_zero, List.set_cons_succ]
      refine takeH (i := 2) (d := 22) _ hq rfl rfl (by kernel_rfl) (by kernel_rfl) (by kernel_rfl) (by rfl) (fun W hSw => by (go_simp; try rfl)) hHeld ?_
      try simp only [Act.put, List.setIfInBounds_toArray, List.set_cons_zero, List.set_cons_succ]
      refine takeH (i := 3) (d := 23) _ hq rfl rfl (by kernel_rfl) (by kernel_rfl) (by kernel_rfl) (by rfl) (fun W hSw => by (have s1 := (hSw.cell (b := wr.heap.size) (o := 0) (by omega) (by omega)).trans y0; go_simp; try rfl)) hHeld ?_
      try simp only [Act.put, List.setIfInBounds_toArray, List.set_cons_zero, List.set_cons_succ]
      refine takeH (i := 4) (d := 24) _ hq rfl rfl (by kernel_rfl) (by kernel_rfl) (by kernel_rfl) (by rfl) (fun W hSw => by (go_simp; try rfl)) hHeld ?_
      try simp only [Act.put, List.setIfInBounds_toArray, List.set_cons_zero, List.set_cons_succ]
      refine takeH (i := 5) (d := 25) _ hq rfl rfl (by kernel_rfl) (by kernel_rfl) (by kernel_rfl) (by rfl) (fun W hSw => by (have s1 := (hSw.cell (b := wr.heap.size) (o := 1) (by omega) (by omega)).trans y1; go_simp; try rfl)) hHeld ?_
      try simp only [Act.put, List.setIfInBounds_toArray, List.set_cons_zero, List.set_cons_succ]
      refine takeH (i := 6) (d := 26) _ hq rfl rfl (by kernel_rfl) (by kernel_rfl) (by kernel_rfl) (by rfl) (fun W hSw => by (go_simp; try rfl)) hHeld ?_
      try simp only [Act.put, List.setIfInBounds_toArray, List.set_cons_zero, List.set_cons_succ]
      refine takeH (i := 7) (d := 27) _ hq rfl rfl (by kernel_rfl) (by kernel_rfl) (by kernel_rfl) (by rfl) (fun W hSw => by (have s1 := (hSw.cell (b := wr.heap.size) (o := 2) (by omega) (by omega)).trans y2; go_simp; try rfl)) hHeld ?_
      try simp only [Act.put, List.setIfInBounds_toArray, List.set_cons_zero, List.set_cons_succ]
      refine takeH (i := 8) (d := 28) _ hq rfl rfl (by kernel_rfl) (by kernel_rfl) (by kernel_rfl) (by rfl) (fun W hSw => by (go_simp; try rfl)) hHeld ?_
      try simp only [Act.put, List.setIfInBounds_toArray, List.set_cons_zero, List.set_cons_succ]
      refine takeH (i := 9) (d := 29) _ hq rfl rfl (by kernel_rfl) (by kernel_rfl) (by kernel_rfl) (by rfl) (fun W hSw => by (have s1 := (hSw.cell (b := wr.heap.size) (o := 3) (by omega) (by omega)).trans y3; go_simp; try rfl)) hHeld ?_
      try simp only [Act.put, List.setIfInBounds_toArray, List.set_cons_zero, List.set_cons_succ]
      refine wpAnyH_ready (rs := [10]) (by kernel_rfl) (by simp) ?_
      refine AllReadyH.cons rfl (fun K hK => ?_) AllReadyH.nil
      go_simp
      refine (HCl.out _).mono ?_; rintro e w1 ⟨rfl, hb1⟩; have K1 : Keep W2.heap.size W2 w1 := (Keep.drew _ _).trans (Keep.below hb1 (Nat.le_refl _)); have B1 : Below w.heap.size w w1 := B2.drew.trans (hb1.mono (show w.heap.size ≤ W2.drew.heap.size from B2.size))
      go_wp2_with fail
      refine hK.out _ _ K1.x (fun hHeld => ?_)
      clear hK K
      try simp only [Act.put, List.setIfInBounds_toArray, List.set_cons_zero, List.set_cons_succ]
      refine takeH (i := 11) (d := 31) _ hq rfl rfl (by kernel_rfl) (by kernel_rfl) (by kernel_rfl) (by rfl) (fun W hSw => by (go_simp; try rfl)) hHeld ?_
      try simp only [Act.put, List.setIfInBounds_toArray, List.set_cons_zero, List.set_cons_succ]
      refine takeH (i := 12) (d := 32) _ hq rfl rfl (by kernel_rfl) (by kernel_rfl) (by kernel_rfl) (by rfl) (fun W hSw => by (go_simp; try rfl)) hHeld ?_
      try simp only [Act.put, List.setIfInBounds_toArray, List.set_cons_zero, List.set_cons_succ]
      have O1 := O2.keep ⟨K1.size, fun b hb => K1.same b (by omega)⟩
      obtain ⟨cur', O5, N5⟩ := O1.setNd hlt d.x
      have f1 := O1.free
      have hcz := O1.size
      obtain ⟨p0, p0'⟩ : ∃ v, w1.cell? ⟨w.heap.size, k * 5, none⟩ = some v := by rw [O1.cell]; exact ⟨_, Array.getElem?_eq_getElem (by omega)⟩
      obtain ⟨p1, p1'⟩ : ∃ v, w1.cell? ⟨w.heap.size, k * 5 + 1, none⟩ = some v := by rw [O1.cell]; exact ⟨_, Array.getElem?_eq_getElem (by omega)⟩
      obtain ⟨p2, p2'⟩ : ∃ v, w1.cell? ⟨w.heap.size, k * 5 + 2, none⟩ = some v := by rw [O1.cell]; exact ⟨_, Array.getElem?_eq_getElem (by omega)⟩
      obtain ⟨p3, p3'⟩ : ∃ v, w1.cell? ⟨w.heap.size, k * 5 + 3, none⟩ = some v := by rw [O1.cell]; exact ⟨_, Array.getElem?_eq_getElem (by omega)⟩
      obtain ⟨p4, p4'⟩ : ∃ v, w1.cell? ⟨w.heap.size, k * 5 + 4, none⟩ = some v := by rw [O1.cell]; exact ⟨_, Array.getElem?_eq_getElem (by omega)⟩
      refine wpAnyH_ready (rs := [13]) (by kernel_rfl) (by simp) ?_
      refine AllReadyH.cons rfl (fun K hK => ?_) AllReadyH.nil
      go_simp
      go_wp2_with fail
      refine hK.out _ _ ⟨by show _ ≤ (setNd w1 w.heap.size (k * 5) d.x).heap.size; rw [setNd_size]; exact K1.size, fun b hb hbg => (setNd_off (W := w1) (o := k * 5) (x := d.x) hbg).trans (K1.same b hb)⟩ (fun hHeld => ?_)
      clear hK K
      refine wpAnyH_done (by kernel_rfl) ?_ _
      have hW1s : W2.heap.size ≤ w1.heap.size := K1.size
      have S5 : IL w w.heap.size wr.heap.size w.heap.size n w1.heap.size wr.heap.size T' k d.x al d.l capl by_ 0 cur' (.slice none 0 0) (setNd w1 w.heap.size (k * 5) d.x) := by
        refine ⟨O5.at_, O5.size, O5.nd, fun i h1 h2 => O5.rest i (by omega) h2, N5, World.ownsRow_nil _ _ _ _, ?_, below_setNd B1 (Nat.le_refl _) _ _, by rw [setNd_size]; exact Nat.le_refl _⟩
        exact (setNd_off (by omega)).trans ((K1.same _ (by omega)).trans A2)
      show Exit.then _ _ Exit.normal _ (setNd w1 w.heap.size (k * 5) d.x)
      obtain ⟨W5, hW5⟩ : ∃ W5, W5 = setNd w1 w.heap.size (k * 5) d.x := ⟨_, rfl⟩
      obtain ⟨B5, hB5⟩ : ∃ B5, B5 = w1.heap.size := ⟨_, rfl⟩
      rw [← hW5, ← hB5] at S5
      rw [← hW5]
      have hBr : wr.heap.size < B5 := by rw [hB5]; omega
      clear hW5 hB5 hHeld O1 O5 N5 f1 hcz p0' p1' p2' p3' p4' K1 B1 hb1 hW1s O2 A2 K2 B2 y0 y1 y2 y3 y4 yf HW2 HCl hO q1 q2 q3 q4 q5
      obtain ⟨bx, hbx⟩ : ∃ bx, bx = wr.heap.size := ⟨_, rfl⟩
      rw [← hbx] at S5 hBr hgs ⊢
      clear hbx hsz2
      obtain ⟨y0, y1, y2, y3, y4, yf⟩ := S5.box.nd
      go_wp2
      go_loopw [36] (fun j W => ∃ (m : Nat) (cur : Array Value) (v : Value), m ≤ d.l.length ∧ j = .int .i64 m ∧ IL w w.heap.size bx w.heap.size n B5 bx T' k d.x al d.l capl by_ m cur v W) (fun j _ => d.l.length - (intOf j).toNat)
      case atStart => exact ⟨0, cur', _, Nat.zero_le _, rfl, S5⟩
      case round =>
        obtain ⟨m, cur2, v, hm, rfl, I⟩ := hrel
        clear S5 y0 y1 y2 y3 y4 yf
        by_cases hml : m < d.l.length
        · obtain ⟨gl, ol, rfl, hgl, hlr⟩ := HIR.out (by rintro h; rw [h] at hml; simp at hml)
          obtain ⟨c, hc⟩ : ∃ c, d.l[m]? = some c := ⟨_, List.getElem?_eq_getElem hml⟩
          have hcb := HDC.out c (List.mem_of_getElem? hc)
          have cc := (I.bel.cell (p := ⟨gl, ol + m, none⟩) hgl).trans (hlr m c hc)
          have HC : Hid (d.l[m]? = some c) := hc
          have HI : Hid (IL w w.heap.size bx w.heap.size n B5 bx T' k d.x (some ⟨gl, ol, none⟩) d.l capl by_ m cur2 v wr) := I
          have e1 : (0 : Int) ≤ (m : Int) := by omega
          have e2 : (m : Int) < (d.l.length : Int) := by omega
          have e3 : IntKind.i64.wrap ((m : Int) + 1) = (m : Int) + 1 := by rw [IntKind.wrap_i64]; omega
          have e4 : IntKind.i64.wrap (c + by_) = c + by_ := by rw [IntKind.wrap_i64]; omega
          have hcell : ∀ o, wr.cell? ⟨w.heap.size, o, none⟩ = cur2[o]? := fun o => by have := I.at_; simp [World.cell?, this]
          have v0 : wr.cell? ⟨w.heap.size, k * 5 + 4, none⟩ = some v := (hcell _).trans I.me.2.2.2.2
          have hgl2 := Nat.lt_of_lt_of_le (show w.heap.size < B5 by omega) I.big
          have ho4 := World.ownsRow.alloc I.own (.cells #[.int .i64 (c + by_)] 3)
          obtain ⟨sv, cv, hsv⟩ := row_slice3 I.own
          subst hsv
          have hbig := I.big
          have news : ∀ j u, ([.int .i64 (c + by_)] : List Value)[j]? = some u → (wr.alloc (.cells #[.int .i64 (c + by_)] 3)).cell? ((⟨wr.heap.size, 0, none⟩ : Addr).add j) = some u := by
            intro j u hu
            have hN : (wr.alloc (.cells #[.int .i64 (c + by_)] 3)).heap[wr.heap.size]? = some (.cells #[.int .i64 (c + by_)] 3) := At.new wr _
            have hadd : (⟨wr.heap.size, 0, none⟩ : Addr).add j = ⟨wr.heap.size, j, none⟩ := by unfold Addr.add; split <;> simp_all
            rw [hadd]
            match j, hu with
            | 0, hu => simp at hu; rw [cell_of_row _ _ 0 _ _ _ hN, ← hu]; rfl
            | j + 1, hu => simp at hu
          have ones : ∀ u ∈ ([.int .i64 (c + by_)] : List Value), u.oneCell' = true := by
            intro u hu
            simp at hu
            rw [hu]; rfl
          have vB : ∀ b, (Value.slice sv m cv).ownBlock = some b → B5 ≤ b := fun b e => (I.own.lt b e).1
          have g4 : ∀ w4, (wr.alloc (.cells #[.int .i64 (c + by_)] 3)).grownBy w4 (Value.slice sv m cv).ownBlock → w4.cell? ⟨w.heap.size, k * 5 + 4, none⟩ = some (.slice sv m cv) ∧ w4.frozen? ⟨w.heap.size, k * 5 + 4, none⟩ = false := by
            intro w4 hg4
            have hk4 : Keep B5 wr w4 := (Keep.alloc wr _ hbig).trans (Keep.grown hg4 (by simp; omega) vB)
            refine ⟨(hk4.cell (by omega)).trans v0, ?_⟩
            rw [World.frozen?_of_block (hk4.same _ (by show w.heap.size < B5; omega))]
            exact frozen_of_row wr _ _ _ 44 I.at_
          have G4 : Hid (∀ w4, (wr.alloc (.cells #[.int .i64 (c + by_)] 3)).grownBy w4 (Value.slice sv m cv).ownBlock → w4.cell? ⟨w.heap.size, k * 5 + 4, none⟩ = some (.slice sv m cv) ∧ w4.frozen? ⟨w.heap.size, k * 5 + 4, none⟩ = false) := g4
          have VB : Hid (∀ b, (Value.slice sv m cv).ownBlock = some b → B5 ≤ b) := vB
          clear g4 vB I hlr hc hcell
          go_wp2_with (at_builtin; refine wpList_append_own _ rfl _ _ 42 rfl B5 3 i3 (.int .i64 0) 1 8 Tryz.underlying42 hi3 hz30 hz31 hz32 rfl (by decide) _ m _ rfl ho4 ⟨wr.heap.size, 0, none⟩ 1 1 [.int .i64 (c + by_)] rfl rfl news ones (by unfold maxLen; omega) (by omega) (by simp; omega) ?_; intro v' w4 ho4 hg4 hn4; obtain ⟨sa, sc, rfl⟩ := row_slice3 ho4; obtain ⟨z0, zf⟩ := G4.out w4 hg4)
          have I' := HI.out.step hlt (Nat.le_refl _) (by omega) (by omega) hBr (by omega) rfl (Nat.le_refl _) HC.out ho4 hg4
          exact ⟨⟨m + 1, _, _, by omega, by go_num, I'⟩, by simp [intOf]; omega⟩
        · obtain rfl : m = d.l.length := by omega
          have HI : Hid (IL w w.heap.size bx w.heap.size n B5 bx T' k d.x al d.l capl by_ d.l.length cur2 v wr) := I
          clear I
          go_wp2
          have I := HI.out
          refine ⟨⟨k + 1, cur2, by omega, by go_num, ?_, I.bel⟩, by simp [intOf]; omega⟩
          have hbig := I.big
          refine OC.next (d := Fo.mv by_ d) (v := v) I.rest I.at_ I.size (Nat.le_refl _) (by omega) (fun i e hi' he => ?_) HD.out I.me ?_ (fun b e => ?_)
          · obtain ⟨u, h1, h2, h3⟩ := I.nd i e hi' he
            exact ⟨u, h1, h2, fun b e => ⟨(h3 b e).1, by have := (h3 b e).2; omega⟩⟩
          · have := I.own
            rw [List.take_length] at this
            obtain ⟨e1, e2⟩ := this
            refine ⟨by simp [Fo.mv, iCells], ?_⟩
            rcases e2 with h | ⟨g', c', cr, h1, h2, h3⟩
            · exact .inl ⟨h.1, by simpa [Fo.mv] using h.2⟩
            · exact .inr ⟨g', c', cr, by simpa [Fo.mv] using h1, by omega, by simpa [Fo.mv] using h3⟩
          · have := I.own.lt b e
            omega
    · obtain rfl : k = n := by omega
      go_wp2
      go_ret
      exact ⟨cur, rfl, hO, hB⟩
end Go.Proofs.YtahdnfogdnondaaGreatDoor
