import Derived.Test.YtjchbclkdbojpaaDoorAc
namespace Go.Proofs.YtjchbclkdbojpaaDoor
open Go.RowKit Go.Shelf
set_option linter.unusedVariables false
set_option linter.unusedSimpArgs false

/-- A row is appended to a row of one's own, whatever row it is. -/
theorem append_rows {P : Program} {w : World} {o : Oper} {a : Act} {K : Act → World → Prop} {Q : Exit → Act → World → Prop} (s x : Operand) (t : TypeId)
    (ho : o.op = .call { callee := .builtin .append, args := #[s, x], argTypes := #[t, t] })
    (base B2 : Nat) (e : TypeId) (i : TypeInfo) (z : Value) (size bytes : Nat) (ht : P.underlying t = some (.slice e)) (hi : P.info? e = some i) (hz : i.zero = some z)
    (hsize : i.size = size) (hby : i.bytes = bytes) (hzs : z.cells.size = size) (hsz : 0 < size)
    (v : Value) (n : Nat) (xs : List Value) (hs : a.eval s = v) (hown : w.ownsRow base e size v n xs)
    (v2 : Value) (m : Nat) (ys : List Value) (hx : a.eval x = v2) (hown2 : w.ownsRow B2 e size v2 m ys) (h1 : ∀ u ∈ ys, u.oneCell' = true)
    (h63 : n + m ≤ maxLen) (hbytes : (n + m) * bytes ≤ 140737488355328) (hbase : base ≤ w.heap.size)
    (h : ∀ v' w', w'.ownsRow base e size v' (n + m) (xs ++ ys) → w.grownBy w' v.ownBlock → K (a.put o.dst v') w') : o.wp P a w K Q := by
  rcases hown2.2 with ⟨rfl, rfl⟩ | ⟨g, cap, cur, rfl, _, hg, _⟩
  · have hrun := run_append_owned_none (P := P) (w := w) base t o.type e i size ht hi v n xs hown
    unfold Oper.wp
    simp [execOp, ho, resolve, invoke, builtin, hs, hx, hrun, Result.andThen]
    have hy : ys = [] := List.length_eq_zero_iff.1 (by have := hown2.1; simpa using this)
    subst hy
    exact h v w (by simpa using hown) (World.grownBy.refl w _)
  · exact wp_append_own w s x t ho base e i z size bytes ht hi hz hsize hby hzs hsz v n xs hs hown ⟨g, 0, none⟩ m cap ys hx hown2.1 (hown2.cells (g := g) rfl) h1 h63 hbytes hbase (fun v' w' h2 h3 _ => h v' w' h2 h3)
theorem hid {p : Prop} (h : p) : Hid p := h
theorem undrew {V w : World} (h : Below V.drew.heap.size V.drew w) : Below V.heap.size V w := ⟨h.os, h.tape, h.output, h.size, h.block⟩
theorem own_low {W : World} {B B' e s n : Nat} {v : Value} {xs : List Value} (h : W.ownsRow B e s v n xs) (hb : B' ≤ B) : W.ownsRow B' e s v n xs := by
  refine ⟨h.1, ?_⟩
  rcases h.2 with hn | ⟨g, cap, cur, hv, h1, rest⟩
  · exact .inl hn
  · exact .inr ⟨g, cap, cur, hv, Nat.le_trans hb h1, rest⟩
theorem c_ones (l : List (Int × Int)) : ∀ u ∈ cCells l, u.oneCell' = true := fun u hu => by
  simp [cCells] at hu
  obtain ⟨a, b, _, h | h⟩ := hu <;> (subst h; rfl)
theorem i_ones (l : List Int) : ∀ u ∈ iCells l, u.oneCell' = true := fun u hu => by
  simp [iCells] at hu
  obtain ⟨a, _, h⟩ := hu
  subst h
  rfl
/-- What the reference says that a type asks. -/
def RAsk (c d : Ch) (bm : Bool) : Prop := ∀ (f f' : Fv) (W : World), TyAt W f c.ty → TyAt W f' d.ty → Calls Tryd.prog 74 #[f.v, f'.v, .bool bm] W fun e w' => (∃ v, e = .returned v ∧ w'.ownsRow W.heap.size 67 2 v (asksL bm c d).length (cCells (asksL bm c d))) ∧ Below W.heap.size W w'
set_option maxRecDepth 100000 in
theorem rask_leaf (k : Nat) (s : Int) (d : Ch) (bm : Bool) : RAsk (.leaf k s) d bm := by
  intro f f' W h h'
  obtain ⟨a, cap, rfl, -⟩ := h.leaf
  obtain ⟨k', m', r', s', a', n', cap'⟩ := f'
  show Calls Tryd.prog 74 #[tyV k false 0 s a 0 cap, tyV k' m' r' s' a' n' cap', .bool bm] W _
  have e : asksL bm (.leaf k s) d = [] := by simp [asksL]
  rw [e]
  clear h h' e
  go_enter Tryd.func74, Tryd.ntmps74
  go_wp2_with fail
  go_ret
  exact ⟨⟨_, rfl, World.ownsRow_nil _ _ _ _⟩, belA (belA (Below.refl _ _))⟩
set_option maxRecDepth 100000 in
set_option maxHeartbeats 4000000 in
theorem rask_box (c d : Ch) (bm : Bool) (ih : RAsk c d bm) : RAsk (.box c) (.box d) bm := by
  intro F F' W h h'
  obtain ⟨g, off, cap, f, rfl, hc, ht⟩ := h.box
  obtain ⟨g', off', cap', f', rfl, hc', ht'⟩ := h'.box
  obtain ⟨N1, N2⟩ := two_new W ⟨3, false, 0, 0, some ⟨g, off, none⟩, 1, cap⟩ ⟨3, false, 0, 0, some ⟨g', off', none⟩, 1, cap'⟩
  have HB0 := belB W ⟨3, false, 0, 0, some ⟨g, off, none⟩, 1, cap⟩ ⟨3, false, 0, 0, some ⟨g', off', none⟩, 1, cap'⟩
  have M1 := hc.below HB0
  have M2 := hc'.below HB0
  obtain ⟨L, hL⟩ : ∃ L, L = asksL bm c d := ⟨_, rfl⟩
  have IH : Hid (∀ V, Below W.heap.size W V → Calls Tryd.prog 74 #[f.v, f'.v, .bool bm] V fun e w' => (∃ v, e = .returned v ∧ w'.ownsRow V.heap.size 67 2 v L.length (cCells L)) ∧ Below V.heap.size V w') := fun V hV => by
    rw [hL]
    exact ih f f' V (ht.bel hV) (ht'.bel hV)
  have e : asksL bm (.box c) (.box d) = L := by rw [hL]; rfl
  rw [e]
  show Calls Tryd.prog 74 #[tyV 3 false 0 0 (some ⟨g, off, none⟩) 1 cap, tyV 3 false 0 0 (some ⟨g', off', none⟩) 1 cap', .bool bm] W _
  clear h h' hc hc' ht ht' ih hL e
  go_enter Tryd.func74, Tryd.ntmps74
  go_wp2_with fail
  refine beginH (S := fun V => Below ((W.alloc (tyO 3 false 0 0 (some ⟨g, off, none⟩) 1 cap)).alloc (tyO 3 false 0 0 (some ⟨g', off', none⟩) 1 cap')).heap.size ((W.alloc (tyO 3 false 0 0 (some ⟨g, off, none⟩) 1 cap)).alloc (tyO 3 false 0 0 (some ⟨g', off', none⟩) 1 cap')) V) (fun _ _ _ _ _ h => h) (by kernel_rfl) (Below.refl _ _).drew (fun hq hHeld => ?_)
  refine takeH (i := 0) (d := 15) _ hq rfl rfl (by kernel_rfl) (by kernel_rfl) (by kernel_rfl) (by rfl) (fun W hSw => by (go_simp; try rfl)) hHeld ?_
  try simp only [Act.put, List.setIfInBounds_toArray, List.set_cons_zero, List.set_cons_succ]
  refine takeH (i := 1) (d := 16) (.slice (some ⟨g, off, none⟩) 1 cap) hq rfl rfl (by kernel_rfl) (by kernel_rfl) (by kernel_rfl) (by rfl) (fun W hSw => by (obtain ⟨-, p0, p1, p2, p3, p4⟩ := N1.below hSw; go_simp; try rfl)) hHeld ?_
  try simp only [Act.put, List.setIfInBounds_toArray, List.set_cons_zero, List.set_cons_succ]
  refine takeH (i := 2) (d := 17) (.pointer (some ⟨g, off, none⟩)) hq rfl rfl (by kernel_rfl) (by kernel_rfl) (by kernel_rfl) (by rfl) (fun W hSw => by (go_simp; try rfl)) hHeld ?_
  try simp only [Act.put, List.setIfInBounds_toArray, List.set_cons_zero, List.set_cons_succ]
  refine takeH (i := 3) (d := 18) f.v hq rfl rfl (by kernel_rfl) (by kernel_rfl) (by kernel_rfl) (by rfl) (fun W hSw => by (obtain ⟨-, p0, p1, p2, p3, p4⟩ := M1.below hSw; go_simp; try rfl)) hHeld ?_
  try simp only [Act.put, List.setIfInBounds_toArray, List.set_cons_zero, List.set_cons_succ]
  refine takeH (i := 4) (d := 19) _ hq rfl rfl (by kernel_rfl) (by kernel_rfl) (by kernel_rfl) (by rfl) (fun W hSw => by (go_simp; try rfl)) hHeld ?_
  try simp only [Act.put, List.setIfInBounds_toArray, List.set_cons_zero, List.set_cons_succ]
  refine takeH (i := 5) (d := 20) (.slice (some ⟨g', off', none⟩) 1 cap') hq rfl rfl (by kernel_rfl) (by kernel_rfl) (by kernel_rfl) (by rfl) (fun W hSw => by (obtain ⟨-, p0, p1, p2, p3, p4⟩ := N2.below hSw; go_simp; try rfl)) hHeld ?_
  try simp only [Act.put, List.setIfInBounds_toArray, List.set_cons_zero, List.set_cons_succ]
  refine takeH (i := 6) (d := 21) (.pointer (some ⟨g', off', none⟩)) hq rfl rfl (by kernel_rfl) (by kernel_rfl) (by kernel_rfl) (by rfl) (fun W hSw => by (go_simp; try rfl)) hHeld ?_
  try simp only [Act.put, List.setIfInBounds_toArray, List.set_cons_zero, List.set_cons_succ]
  refine takeH (i := 7) (d := 22) f'.v hq rfl rfl (by kernel_rfl) (by kernel_rfl) (by kernel_rfl) (by rfl) (fun W hSw => by (obtain ⟨-, p0, p1, p2, p3, p4⟩ := M2.below hSw; go_simp; try rfl)) hHeld ?_
  try simp only [Act.put, List.setIfInBounds_toArray, List.set_cons_zero, List.set_cons_succ]
  refine takeH (i := 8) (d := 23) _ hq rfl rfl (by kernel_rfl) (by kernel_rfl) (by kernel_rfl) (by rfl) (fun W hSw => by (go_simp; try rfl)) hHeld ?_
  try simp only [Act.put, List.setIfInBounds_toArray, List.set_cons_zero, List.set_cons_succ]
  refine wpAnyH_ready (rs := [9]) (by kernel_rfl) (by simp) ?_
  refine AllReadyH.cons rfl (fun K hK => ?_) AllReadyH.nil
  go_simp
  refine (IH.out _ (below2 hHeld)).mono ?_
  rintro e w1 ⟨⟨v, rfl, hv⟩, hb1⟩
  have B1 := below_aft hHeld hb1
  obtain ⟨av, cv, hvv⟩ := own_sl hv
  subst hvv
  go_wp2_with fail
  refine hK.out _ _ ?_ (fun hHeld => ?_)
  · with_reducible exact B1
  clear hK K
  try simp only [Act.put, List.setIfInBounds_toArray, List.set_cons_zero, List.set_cons_succ]
  refine takeH (i := 10) (d := 6) _ hq rfl rfl (by kernel_rfl) (by kernel_rfl) (by kernel_rfl) (by rfl) (fun W hSw => by (go_simp; try rfl)) hHeld ?_
  try simp only [Act.put, List.setIfInBounds_toArray, List.set_cons_zero, List.set_cons_succ]
  refine wpAnyH_done (by kernel_rfl) ?_ _
  clear hHeld hq
  go_wp2_with fail
  go_ret
  exact ⟨⟨_, rfl, own_low hv (by simp; omega)⟩, below2 B1⟩
set_option maxRecDepth 100000 in
set_option maxHeartbeats 4000000 in
theorem rask_ref_false (m m' : Bool) (r r' : Int) (c d : Ch) (hlen : c.depth ≤ 48) (ih : RAsk c d m) : RAsk (.ref m r c) (.ref m' r' d) false := by
  intro F F' W h h'
  obtain ⟨g, off, cap, f, rfl, hc, ht, -, -⟩ := h.ref
  obtain ⟨g', off', cap', f', rfl, hc', ht', -, -⟩ := h'.ref
  obtain ⟨i0, hi, hz0, hz1, hz2⟩ := info_parts Tryd.info67
  obtain ⟨L, hL⟩ : ∃ L, L = asksL m c d := ⟨_, rfl⟩
  have hLl : L.length ≤ 96 := by rw [hL]; have := asksL_len m c d; omega
  have IH : Hid (∀ V, Below W.heap.size W V → Calls Tryd.prog 74 #[f.v, f'.v, .bool m] V fun e w' => (∃ v, e = .returned v ∧ w'.ownsRow V.heap.size 67 2 v L.length (cCells L)) ∧ Below V.heap.size V w') := fun V hV => by
    rw [hL]
    exact ih f f' V (ht.bel hV) (ht'.bel hV)
  have e : asksL false (.ref m r c) (.ref m' r' d) = [(r, r')] ++ L := by rw [hL]; simp [asksL]
  rw [e]
  obtain ⟨LL, hLL⟩ : ∃ LL, LL = [(r, r')] ++ L := ⟨_, rfl⟩
  rw [← hLL]
  have HLL := hid hLL
  have A1 : At (((W.alloc (tyO 4 m r 0 (some ⟨g, off, none⟩) 1 cap)).alloc (tyO 4 m' r' 0 (some ⟨g', off', none⟩) 1 cap')).alloc (.cells #[.int .i64 r, .int .i64 r'] 67)) W.heap.size (Fv.o ⟨4, m, r, 0, some ⟨g, off, none⟩, 1, cap⟩) := ((At.new W _).alloc _).alloc _
  have A2 : At (((W.alloc (tyO 4 m r 0 (some ⟨g, off, none⟩) 1 cap)).alloc (tyO 4 m' r' 0 (some ⟨g', off', none⟩) 1 cap')).alloc (.cells #[.int .i64 r, .int .i64 r'] 67)) (W.heap.size + 1) (Fv.o ⟨4, m', r', 0, some ⟨g', off', none⟩, 1, cap'⟩) := (at_snd W _ _).alloc _
  have B0 : Below W.heap.size W (((W.alloc (tyO 4 m r 0 (some ⟨g, off, none⟩) 1 cap)).alloc (tyO 4 m' r' 0 (some ⟨g', off', none⟩) 1 cap')).alloc (.cells #[.int .i64 r, .int .i64 r'] 67)) := belA (belA (belA (Below.refl _ _)))
  have A7 : At (((W.alloc (tyO 4 m r 0 (some ⟨g, off, none⟩) 1 cap)).alloc (tyO 4 m' r' 0 (some ⟨g', off', none⟩) 1 cap')).alloc (.cells #[.int .i64 r, .int .i64 r'] 67)) (W.heap.size + 1 + 1) (.cells #[.int .i64 r, .int .i64 r'] 67) := by
    have := At.new ((W.alloc (tyO 4 m r 0 (some ⟨g, off, none⟩) 1 cap)).alloc (tyO 4 m' r' 0 (some ⟨g', off', none⟩) 1 cap')) (.cells #[.int .i64 r, .int .i64 r'] 67)
    simp only [World.size_alloc] at this
    exact this
  have O7 : (((W.alloc (tyO 4 m r 0 (some ⟨g, off, none⟩) 1 cap)).alloc (tyO 4 m' r' 0 (some ⟨g', off', none⟩) 1 cap')).alloc (.cells #[.int .i64 r, .int .i64 r'] 67)).ownsRow W.heap.size 67 2 (.slice (some ⟨W.heap.size + 1 + 1, 0, none⟩) 1 1) 1 (cCells [(r, r')]) := ⟨rfl, .inr ⟨_, 1, _, rfl, by omega, A7, Nat.le_refl _, by unfold maxLen; omega, rfl, rfl⟩⟩
  have HC : Hid (∀ V, Below W.heap.size W V → C5 V g off f ∧ C5 V g' off' f') := fun V hV => ⟨hc.below hV, hc'.below hV⟩
  show Calls Tryd.prog 74 #[tyV 4 m r 0 (some ⟨g, off, none⟩) 1 cap, tyV 4 m' r' 0 (some ⟨g', off', none⟩) 1 cap', .bool false] W _
  have HA1 := hid A1
  have HA2 := hid A2
  have HB0 := hid B0
  have HO7 := hid O7
  clear h h' hc hc' ht ht' ih hL e A1 A2 A7 O7 B0 hLL
  go_enter Tryd.func74, Tryd.ntmps74
  go_wp2_with fail
  change Code.wp _ _ _ _ (((W.alloc (tyO 4 m r 0 (some ⟨g, off, none⟩) 1 cap)).alloc (tyO 4 m' r' 0 (some ⟨g', off', none⟩) 1 cap')).alloc (.cells #[.int .i64 r, .int .i64 r'] 67))
  have A1 := HA1.out
  have A2 := HA2.out
  have B0 := HB0.out
  have O7 := HO7.out
  clear HA1 HA2 HB0 HO7
  generalize (((W.alloc (tyO 4 m r 0 (some ⟨g, off, none⟩) 1 cap)).alloc (tyO 4 m' r' 0 (some ⟨g', off', none⟩) 1 cap')).alloc (.cells #[.int .i64 r, .int .i64 r'] 67)) = V at *
  have hn7 : Hid ((.slice (some ⟨W.heap.size + 1 + 1, 0, none⟩) 1 1 : Value) = .slice (some ⟨W.heap.size + 1 + 1, 0, none⟩) 1 1) := rfl
  have S0 : S4 W.heap.size (W.heap.size + 1) ⟨4, m, r, 0, some ⟨g, off, none⟩, 1, cap⟩ ⟨4, m', r', 0, some ⟨g', off', none⟩, 1, cap'⟩ g off g' off' f f' V.drew := ⟨A1.drew.ty, A2.drew.ty, (HC.out _ B0.drew).1, (HC.out _ B0.drew).2⟩
  refine beginH (S := S4 W.heap.size (W.heap.size + 1) ⟨4, m, r, 0, some ⟨g, off, none⟩, 1, cap⟩ ⟨4, m', r', 0, some ⟨g', off', none⟩, 1, cap'⟩ g off g' off' f f') (fun _ _ _ _ _ h => h) (by kernel_rfl) S0 (fun hq hHeld => ?_)
  refine takeH (i := 0) (d := 40) (.slice (some ⟨W.heap.size + 1 + 1, 0, none⟩) 1 1) hq rfl rfl (by kernel_rfl) (by kernel_rfl) (by kernel_rfl) (by rfl) (fun W hSw => by (go_simp; try rfl)) hHeld ?_
  try simp only [Act.put, List.setIfInBounds_toArray, List.set_cons_zero, List.set_cons_succ]
  refine takeH (i := 1) (d := 41) _ hq rfl rfl (by kernel_rfl) (by kernel_rfl) (by kernel_rfl) (by rfl) (fun W hSw => by (go_simp; try rfl)) hHeld ?_
  try simp only [Act.put, List.setIfInBounds_toArray, List.set_cons_zero, List.set_cons_succ]
  refine takeH (i := 2) (d := 42) (.slice (some ⟨g, off, none⟩) 1 cap) hq rfl rfl (by kernel_rfl) (by kernel_rfl) (by kernel_rfl) (by rfl) (fun W hSw => by (obtain ⟨-, p0, p1, p2, p3, p4⟩ := hSw.a; go_simp; try rfl)) hHeld ?_
  try simp only [Act.put, List.setIfInBounds_toArray, List.set_cons_zero, List.set_cons_succ]
  refine takeH (i := 3) (d := 43) (.pointer (some ⟨g, off, none⟩)) hq rfl rfl (by kernel_rfl) (by kernel_rfl) (by kernel_rfl) (by rfl) (fun W hSw => by (go_simp; try rfl)) hHeld ?_
  try simp only [Act.put, List.setIfInBounds_toArray, List.set_cons_zero, List.set_cons_succ]
  refine takeH (i := 4) (d := 44) f.v hq rfl rfl (by kernel_rfl) (by kernel_rfl) (by kernel_rfl) (by rfl) (fun W hSw => by (obtain ⟨-, p0, p1, p2, p3, p4⟩ := hSw.c; go_simp; try rfl)) hHeld ?_
  try simp only [Act.put, List.setIfInBounds_toArray, List.set_cons_zero, List.set_cons_succ]
  refine takeH (i := 5) (d := 45) _ hq rfl rfl (by kernel_rfl) (by kernel_rfl) (by kernel_rfl) (by rfl) (fun W hSw => by (go_simp; try rfl)) hHeld ?_
  try simp only [Act.put, List.setIfInBounds_toArray, List.set_cons_zero, List.set_cons_succ]
  refine takeH (i := 6) (d := 46) (.slice (some ⟨g', off', none⟩) 1 cap') hq rfl rfl (by kernel_rfl) (by kernel_rfl) (by kernel_rfl) (by rfl) (fun W hSw => by (obtain ⟨-, p0, p1, p2, p3, p4⟩ := hSw.b; go_simp; try rfl)) hHeld ?_
  try simp only [Act.put, List.setIfInBounds_toArray, List.set_cons_zero, List.set_cons_succ]
  refine takeH (i := 7) (d := 47) (.pointer (some ⟨g', off', none⟩)) hq rfl rfl (by kernel_rfl) (by kernel_rfl) (by kernel_rfl) (by rfl) (fun W hSw => by (go_simp; try rfl)) hHeld ?_
  try simp only [Act.put, List.setIfInBounds_toArray, List.set_cons_zero, List.set_cons_succ]
  refine takeH (i := 8) (d := 48) f'.v hq rfl rfl (by kernel_rfl) (by kernel_rfl) (by kernel_rfl) (by rfl) (fun W hSw => by (obtain ⟨-, p0, p1, p2, p3, p4⟩ := hSw.d; go_simp; try rfl)) hHeld ?_
  try simp only [Act.put, List.setIfInBounds_toArray, List.set_cons_zero, List.set_cons_succ]
  refine takeH (i := 9) (d := 49) _ hq rfl rfl (by kernel_rfl) (by kernel_rfl) (by kernel_rfl) (by rfl) (fun W hSw => by (go_simp; try rfl)) hHeld ?_
  try simp only [Act.put, List.setIfInBounds_toArray, List.set_cons_zero, List.set_cons_succ]
  refine takeH (i := 10) (d := 50) _ hq rfl rfl (by kernel_rfl) (by kernel_rfl) (by kernel_rfl) (by rfl) (fun W hSw => by (go_simp; try rfl)) hHeld ?_
  try simp only [Act.put, List.setIfInBounds_toArray, List.set_cons_zero, List.set_cons_succ]
  refine takeH (i := 11) (d := 51) _ hq rfl rfl (by kernel_rfl) (by kernel_rfl) (by kernel_rfl) (by rfl) (fun W hSw => by (go_simp; try rfl)) hHeld ?_
  try simp only [Act.put, List.setIfInBounds_toArray, List.set_cons_zero, List.set_cons_succ]
  refine takeH (i := 12) (d := 52) (.bool m) hq rfl rfl (by kernel_rfl) (by kernel_rfl) (by kernel_rfl) (by rfl) (fun W hSw => by (obtain ⟨-, p0, p1, p2, p3, p4⟩ := hSw.a; go_simp; try rfl)) hHeld ?_
  try simp only [Act.put, List.setIfInBounds_toArray, List.set_cons_zero, List.set_cons_succ]
  refine takeH (i := 13) (d := 53) (.bool m) hq rfl rfl (by kernel_rfl) (by kernel_rfl) (by kernel_rfl) (by rfl) (fun W hSw => by (go_simp; try rfl)) hHeld ?_
  try simp only [Act.put, List.setIfInBounds_toArray, List.set_cons_zero, List.set_cons_succ]
  refine wpAnyH_ready (rs := [14]) (by kernel_rfl) (by simp) ?_
  refine AllReadyH.cons rfl (fun K hK => ?_) AllReadyH.nil
  go_simp
  refine (IH.out _ B0.drew).mono ?_
  rintro e w2 ⟨⟨v, rfl, hv⟩, hb2⟩
  have B2 : Below V.heap.size V w2 := undrew hb2
  have A1b := A1.below B2
  have A2b := A2.below B2
  have O7b := own_below O7 B2
  have BW2 := below_aft B0 B2
  obtain ⟨av, cv, hvv⟩ := own_sl hv
  subst hvv
  go_wp2_with fail
  refine hK.out _ _ ?_ (fun hHeld => ?_)
  · exact ⟨A1b.ty, A2b.ty, (HC.out _ BW2).1, (HC.out _ BW2).2⟩
  clear hK K
  try simp only [Act.put, List.setIfInBounds_toArray, List.set_cons_zero, List.set_cons_succ]
  refine wpAnyH_ready (rs := [15]) (by kernel_rfl) (by simp) ?_
  refine AllReadyH.cons rfl (fun K hK => ?_) AllReadyH.nil
  rw [if_pos (by rfl)]
  refine append_rows (.tmp 40) (.tmp 54) 61 rfl W.heap.size _ 67 i0 (.agg #[.int .i64 0, .int .i64 0]) 2 16 Tryd.underlying61 hi hz0 hz1 hz2 rfl (by decide) _ 1 _ rfl O7b _ L.length _ rfl hv (c_ones L) (by unfold maxLen; omega) (by omega) BW2.size ?_
  intro v9 w3 ho9 hg9
  change K (Act.put _ (some 55) v9) w3
  have A1c := A1b.grown hg9 (own_ne O7b A1b (by decide))
  have A2c := A2b.grown hg9 (own_ne O7b A2b (by decide))
  have BW3 : Below W.heap.size W w3 := BW2.grown hg9 BW2.size (fun k hk => (O7b.lt k hk).1)
  refine hK.out _ _ ?_ (fun hHeld => ?_)
  · exact ⟨A1c.ty, A2c.ty, (HC.out _ BW3).1, (HC.out _ BW3).2⟩
  clear hK K
  try simp only [Act.put, List.setIfInBounds_toArray, List.set_cons_zero, List.set_cons_succ]
  refine takeH (i := 16) (d := 6) v9 hq rfl rfl (by kernel_rfl) (by kernel_rfl) (by kernel_rfl) (by rfl) (fun W hSw => by (go_simp; try rfl)) hHeld ?_
  try simp only [Act.put, List.setIfInBounds_toArray, List.set_cons_zero, List.set_cons_succ]
  refine wpAnyH_done (by kernel_rfl) ?_ _
  have HR9 : Hid (w3.ownsRow W.heap.size 67 2 v9 LL.length (cCells LL)) := by
    rw [HLL.out, cCells_app]
    have e : ([(r, r')] ++ L).length = 1 + L.length := by simp; omega
    rw [e]
    exact ho9
  have HB9 : Hid (Below W.heap.size W w3) := BW3
  clear hHeld hq ho9 hg9 A1c A2c BW3 A1b A2b O7b BW2 hv hb2 B2 A1 A2 B0 O7 S0 HC IH
  obtain ⟨a9, c9, hv9⟩ := own_sl HR9.out
  subst hv9
  go_wp2_with fail
  go_ret
  exact ⟨⟨_, rfl, HR9.out⟩, HB9.out⟩
set_option maxRecDepth 100000 in
set_option maxHeartbeats 4000000 in
theorem rask_ref_true (m m' : Bool) (r r' : Int) (c d : Ch) (hlen : c.depth ≤ 48) (ih : RAsk c d true) : RAsk (.ref m r c) (.ref m' r' d) true := by
  intro F F' W h h'
  obtain ⟨g, off, cap, f, rfl, hc, ht, -, -⟩ := h.ref
  obtain ⟨g', off', cap', f', rfl, hc', ht', -, -⟩ := h'.ref
  obtain ⟨i0, hi, hz0, hz1, hz2⟩ := info_parts Tryd.info67
  obtain ⟨L, hL⟩ : ∃ L, L = asksL true c d := ⟨_, rfl⟩
  have hLl : L.length ≤ 96 := by rw [hL]; have := asksL_len true c d; omega
  have IH : Hid (∀ V, Below W.heap.size W V → Calls Tryd.prog 74 #[f.v, f'.v, .bool true] V fun e w' => (∃ v, e = .returned v ∧ w'.ownsRow V.heap.size 67 2 v L.length (cCells L)) ∧ Below V.heap.size V w') := fun V hV => by
    rw [hL]
    exact ih f f' V (ht.bel hV) (ht'.bel hV)
  have e : asksL true (.ref m r c) (.ref m' r' d) = [(r, r'), (r', r)] ++ L := by rw [hL]; simp [asksL]
  rw [e]
  obtain ⟨LL, hLL⟩ : ∃ LL, LL = [(r, r'), (r', r)] ++ L := ⟨_, rfl⟩
  rw [← hLL]
  have HLL := hid hLL
  have A1 : At (((W.alloc (tyO 4 m r 0 (some ⟨g, off, none⟩) 1 cap)).alloc (tyO 4 m' r' 0 (some ⟨g', off', none⟩) 1 cap')).alloc (.cells #[.int .i64 r, .int .i64 r'] 67)) W.heap.size (Fv.o ⟨4, m, r, 0, some ⟨g, off, none⟩, 1, cap⟩) := ((At.new W _).alloc _).alloc _
  have A2 : At (((W.alloc (tyO 4 m r 0 (some ⟨g, off, none⟩) 1 cap)).alloc (tyO 4 m' r' 0 (some ⟨g', off', none⟩) 1 cap')).alloc (.cells #[.int .i64 r, .int .i64 r'] 67)) (W.heap.size + 1) (Fv.o ⟨4, m', r', 0, some ⟨g', off', none⟩, 1, cap'⟩) := (at_snd W _ _).alloc _
  have B0 : Below W.heap.size W (((W.alloc (tyO 4 m r 0 (some ⟨g, off, none⟩) 1 cap)).alloc (tyO 4 m' r' 0 (some ⟨g', off', none⟩) 1 cap')).alloc (.cells #[.int .i64 r, .int .i64 r'] 67)) := belA (belA (belA (Below.refl _ _)))
  have A7 : At (((W.alloc (tyO 4 m r 0 (some ⟨g, off, none⟩) 1 cap)).alloc (tyO 4 m' r' 0 (some ⟨g', off', none⟩) 1 cap')).alloc (.cells #[.int .i64 r, .int .i64 r'] 67)) (W.heap.size + 1 + 1) (.cells #[.int .i64 r, .int .i64 r'] 67) := by
    have := At.new ((W.alloc (tyO 4 m r 0 (some ⟨g, off, none⟩) 1 cap)).alloc (tyO 4 m' r' 0 (some ⟨g', off', none⟩) 1 cap')) (.cells #[.int .i64 r, .int .i64 r'] 67)
    simp only [World.size_alloc] at this
    exact this
  have O7 : (((W.alloc (tyO 4 m r 0 (some ⟨g, off, none⟩) 1 cap)).alloc (tyO 4 m' r' 0 (some ⟨g', off', none⟩) 1 cap')).alloc (.cells #[.int .i64 r, .int .i64 r'] 67)).ownsRow W.heap.size 67 2 (.slice (some ⟨W.heap.size + 1 + 1, 0, none⟩) 1 1) 1 (cCells [(r, r')]) := ⟨rfl, .inr ⟨_, 1, _, rfl, by omega, A7, Nat.le_refl _, by unfold maxLen; omega, rfl, rfl⟩⟩
  have HC : Hid (∀ V, Below W.heap.size W V → C5 V g off f ∧ C5 V g' off' f') := fun V hV => ⟨hc.below hV, hc'.below hV⟩
  show Calls Tryd.prog 74 #[tyV 4 m r 0 (some ⟨g, off, none⟩) 1 cap, tyV 4 m' r' 0 (some ⟨g', off', none⟩) 1 cap', .bool true] W _
  have HA1 := hid A1
  have HA2 := hid A2
  have HB0 := hid B0
  have HO7 := hid O7
  clear h h' hc hc' ht ht' ih hL e A1 A2 A7 O7 B0 hLL
  have news : ∀ j u, ([.int .i64 r', .int .i64 r] : List Value)[j]? = some u → ((((W.alloc (tyO 4 m r 0 (some ⟨g, off, none⟩) 1 cap)).alloc (tyO 4 m' r' 0 (some ⟨g', off', none⟩) 1 cap')).alloc (.cells #[.int .i64 r, .int .i64 r'] 67)).alloc (.cells #[.int .i64 r', .int .i64 r] 67)).cell? ((⟨W.heap.size + 1 + 1 + 1, 0, none⟩ : Addr).add j) = some u := fun j u hu => by
    have hN0 := At.new (((W.alloc (tyO 4 m r 0 (some ⟨g, off, none⟩) 1 cap)).alloc (tyO 4 m' r' 0 (some ⟨g', off', none⟩) 1 cap')).alloc (.cells #[.int .i64 r, .int .i64 r'] 67)) (Two (.int .i64 r') (.int .i64 r) 67)
    simp only [World.size_alloc] at hN0
    have hN := hN0.two
    match j, hu with
    | 0, hu => simp at hu; subst hu; rw [show ((⟨W.heap.size + 1 + 1 + 1, 0, none⟩ : Addr).add 0) = ⟨W.heap.size + 1 + 1 + 1, 0, none⟩ from rfl]; exact hN.1
    | 1, hu => simp at hu; subst hu; rw [show ((⟨W.heap.size + 1 + 1 + 1, 0, none⟩ : Addr).add 1) = ⟨W.heap.size + 1 + 1 + 1, 1, none⟩ from rfl]; exact hN.2
    | j + 2, hu => simp at hu
  have ones : ∀ u ∈ ([.int .i64 r', .int .i64 r] : List Value), u.oneCell' = true := fun u hu => by simp at hu; rcases hu with rfl | rfl <;> rfl
  have hbase : W.heap.size ≤ ((((W.alloc (tyO 4 m r 0 (some ⟨g, off, none⟩) 1 cap)).alloc (tyO 4 m' r' 0 (some ⟨g', off', none⟩) 1 cap')).alloc (.cells #[.int .i64 r, .int .i64 r'] 67)).alloc (.cells #[.int .i64 r', .int .i64 r] 67)).heap.size := by simp only [World.size_alloc]; omega
  have FIN : Hid (∀ v' V, V.ownsRow W.heap.size 67 2 v' (1 + 1) (cCells [(r, r')] ++ [.int .i64 r', .int .i64 r]) → ((((W.alloc (tyO 4 m r 0 (some ⟨g, off, none⟩) 1 cap)).alloc (tyO 4 m' r' 0 (some ⟨g', off', none⟩) 1 cap')).alloc (.cells #[.int .i64 r, .int .i64 r'] 67)).alloc (.cells #[.int .i64 r', .int .i64 r] 67)).grownBy V (Value.slice (some ⟨W.heap.size + 1 + 1, 0, none⟩) 1 1).ownBlock → At V W.heap.size (Fv.o ⟨4, m, r, 0, some ⟨g, off, none⟩, 1, cap⟩) ∧ At V (W.heap.size + 1) (Fv.o ⟨4, m', r', 0, some ⟨g', off', none⟩, 1, cap'⟩) ∧ Below W.heap.size W V ∧ V.ownsRow W.heap.size 67 2 v' 2 (cCells [(r, r'), (r', r)])) := fun v' V h1 h2 =>
    ⟨(HA1.out.alloc _).grown h2 (own_ne HO7.out HA1.out (by decide)), (HA2.out.alloc _).grown h2 (own_ne HO7.out HA2.out (by decide)), (belA HB0.out).grown h2 hbase (fun k hk => (HO7.out.lt k hk).1), h1⟩
  go_enter Tryd.func74, Tryd.ntmps74
  go_wp2_with (at_builtin; refine wpList_append_own _ rfl _ _ 61 rfl W.heap.size 67 i0 (.agg #[.int .i64 0, .int .i64 0]) 2 16 Tryd.underlying61 hi hz0 hz1 hz2 rfl (by decide) _ 1 _ rfl (HO7.out.alloc _) ⟨W.heap.size + 1 + 1 + 1, 0, none⟩ 1 1 [.int .i64 r', .int .i64 r] rfl rfl news ones (by unfold maxLen; omega) (by omega) hbase ?_; intro v7 V ho hg hn; have HF := hid (FIN.out v7 V ho hg); clear ho hg hn)
  obtain ⟨A1, A2, B0, O7⟩ := HF.out
  clear HF FIN HA1 HA2 HB0 HO7 news ones hbase
  have S0 : S4 W.heap.size (W.heap.size + 1) ⟨4, m, r, 0, some ⟨g, off, none⟩, 1, cap⟩ ⟨4, m', r', 0, some ⟨g', off', none⟩, 1, cap'⟩ g off g' off' f f' V.drew := ⟨A1.drew.ty, A2.drew.ty, (HC.out _ B0.drew).1, (HC.out _ B0.drew).2⟩
  refine beginH (S := S4 W.heap.size (W.heap.size + 1) ⟨4, m, r, 0, some ⟨g, off, none⟩, 1, cap⟩ ⟨4, m', r', 0, some ⟨g', off', none⟩, 1, cap'⟩ g off g' off' f f') (fun _ _ _ _ _ h => h) (by kernel_rfl) S0 (fun hq hHeld => ?_)
  refine takeH (i := 0) (d := 40) v7 hq rfl rfl (by kernel_rfl) (by kernel_rfl) (by kernel_rfl) (by rfl) (fun W hSw => by (go_simp; try rfl)) hHeld ?_
  try simp only [Act.put, List.setIfInBounds_toArray, List.set_cons_zero, List.set_cons_succ]
  refine takeH (i := 1) (d := 41) _ hq rfl rfl (by kernel_rfl) (by kernel_rfl) (by kernel_rfl) (by rfl) (fun W hSw => by (go_simp; try rfl)) hHeld ?_
  try simp only [Act.put, List.setIfInBounds_toArray, List.set_cons_zero, List.set_cons_succ]
  refine takeH (i := 2) (d := 42) (.slice (some ⟨g, off, none⟩) 1 cap) hq rfl rfl (by kernel_rfl) (by kernel_rfl) (by kernel_rfl) (by rfl) (fun W hSw => by (obtain ⟨-, p0, p1, p2, p3, p4⟩ := hSw.a; go_simp; try rfl)) hHeld ?_
  try simp only [Act.put, List.setIfInBounds_toArray, List.set_cons_zero, List.set_cons_succ]
  refine takeH (i := 3) (d := 43) (.pointer (some ⟨g, off, none⟩)) hq rfl rfl (by kernel_rfl) (by kernel_rfl) (by kernel_rfl) (by rfl) (fun W hSw => by (go_simp; try rfl)) hHeld ?_
  try simp only [Act.put, List.setIfInBounds_toArray, List.set_cons_zero, List.set_cons_succ]
  refine takeH (i := 4) (d := 44) f.v hq rfl rfl (by kernel_rfl) (by kernel_rfl) (by kernel_rfl) (by rfl) (fun W hSw => by (obtain ⟨-, p0, p1, p2, p3, p4⟩ := hSw.c; go_simp; try rfl)) hHeld ?_
  try simp only [Act.put, List.setIfInBounds_toArray, List.set_cons_zero, List.set_cons_succ]
  refine takeH (i := 5) (d := 45) _ hq rfl rfl (by kernel_rfl) (by kernel_rfl) (by kernel_rfl) (by rfl) (fun W hSw => by (go_simp; try rfl)) hHeld ?_
  try simp only [Act.put, List.setIfInBounds_toArray, List.set_cons_zero, List.set_cons_succ]
  refine takeH (i := 6) (d := 46) (.slice (some ⟨g', off', none⟩) 1 cap') hq rfl rfl (by kernel_rfl) (by kernel_rfl) (by kernel_rfl) (by rfl) (fun W hSw => by (obtain ⟨-, p0, p1, p2, p3, p4⟩ := hSw.b; go_simp; try rfl)) hHeld ?_
  try simp only [Act.put, List.setIfInBounds_toArray, List.set_cons_zero, List.set_cons_succ]
  refine takeH (i := 7) (d := 47) (.pointer (some ⟨g', off', none⟩)) hq rfl rfl (by kernel_rfl) (by kernel_rfl) (by kernel_rfl) (by rfl) (fun W hSw => by (go_simp; try rfl)) hHeld ?_
  try simp only [Act.put, List.setIfInBounds_toArray, List.set_cons_zero, List.set_cons_succ]
  refine takeH (i := 8) (d := 48) f'.v hq rfl rfl (by kernel_rfl) (by kernel_rfl) (by kernel_rfl) (by rfl) (fun W hSw => by (obtain ⟨-, p0, p1, p2, p3, p4⟩ := hSw.d; go_simp; try rfl)) hHeld ?_
  try simp only [Act.put, List.setIfInBounds_toArray, List.set_cons_zero, List.set_cons_succ]
  refine takeH (i := 9) (d := 49) _ hq rfl rfl (by kernel_rfl) (by kernel_rfl) (by kernel_rfl) (by rfl) (fun W hSw => by (go_simp; try rfl)) hHeld ?_
  try simp only [Act.put, List.setIfInBounds_toArray, List.set_cons_zero, List.set_cons_succ]
  refine takeH (i := 10) (d := 50) _ hq rfl rfl (by kernel_rfl) (by kernel_rfl) (by kernel_rfl) (by rfl) (fun W hSw => by (go_simp; try rfl)) hHeld ?_
  try simp only [Act.put, List.setIfInBounds_toArray, List.set_cons_zero, List.set_cons_succ]
  refine skipH (i := 11) (d := 51) hq rfl rfl (by kernel_rfl) (by kernel_rfl) (by kernel_rfl) (by rfl) hHeld ?_
  try simp only [Act.put, List.setIfInBounds_toArray, List.set_cons_zero, List.set_cons_succ]
  refine skipH (i := 12) (d := 52) hq rfl rfl (by kernel_rfl) (by kernel_rfl) (by kernel_rfl) (by rfl) hHeld ?_
  try simp only [Act.put, List.setIfInBounds_toArray, List.set_cons_zero, List.set_cons_succ]
  refine takeH (i := 13) (d := 53) _ hq rfl rfl (by kernel_rfl) (by kernel_rfl) (by kernel_rfl) (by rfl) (fun W hSw => by (go_simp; try rfl)) hHeld ?_
  try simp only [Act.put, List.setIfInBounds_toArray, List.set_cons_zero, List.set_cons_succ]
  refine wpAnyH_ready (rs := [14]) (by kernel_rfl) (by simp) ?_
  refine AllReadyH.cons rfl (fun K hK => ?_) AllReadyH.nil
  go_simp
  refine (IH.out _ B0.drew).mono ?_
  rintro e w2 ⟨⟨v, rfl, hv⟩, hb2⟩
  have B2 : Below V.heap.size V w2 := undrew hb2
  have A1b := A1.below B2
  have A2b := A2.below B2
  have O7b := own_below O7 B2
  have BW2 := below_aft B0 B2
  obtain ⟨av, cv, hvv⟩ := own_sl hv
  subst hvv
  go_wp2_with fail
  refine hK.out _ _ ?_ (fun hHeld => ?_)
  · exact ⟨A1b.ty, A2b.ty, (HC.out _ BW2).1, (HC.out _ BW2).2⟩
  clear hK K
  try simp only [Act.put, List.setIfInBounds_toArray, List.set_cons_zero, List.set_cons_succ]
  refine wpAnyH_ready (rs := [15]) (by kernel_rfl) (by simp) ?_
  refine AllReadyH.cons rfl (fun K hK => ?_) AllReadyH.nil
  rw [if_pos (by rfl)]
  refine append_rows (.tmp 40) (.tmp 54) 61 rfl W.heap.size _ 67 i0 (.agg #[.int .i64 0, .int .i64 0]) 2 16 Tryd.underlying61 hi hz0 hz1 hz2 rfl (by decide) _ 2 _ rfl O7b _ L.length _ rfl hv (c_ones L) (by unfold maxLen; omega) (by omega) BW2.size ?_
  intro v9 w3 ho9 hg9
  change K (Act.put _ (some 55) v9) w3
  have A1c := A1b.grown hg9 (own_ne O7b A1b (by decide))
  have A2c := A2b.grown hg9 (own_ne O7b A2b (by decide))
  have BW3 : Below W.heap.size W w3 := BW2.grown hg9 BW2.size (fun k hk => (O7b.lt k hk).1)
  refine hK.out _ _ ?_ (fun hHeld => ?_)
  · exact ⟨A1c.ty, A2c.ty, (HC.out _ BW3).1, (HC.out _ BW3).2⟩
  clear hK K
  try simp only [Act.put, List.setIfInBounds_toArray, List.set_cons_zero, List.set_cons_succ]
  refine takeH (i := 16) (d := 6) v9 hq rfl rfl (by kernel_rfl) (by kernel_rfl) (by kernel_rfl) (by rfl) (fun W hSw => by (go_simp; try rfl)) hHeld ?_
  try simp only [Act.put, List.setIfInBounds_toArray, List.set_cons_zero, List.set_cons_succ]
  refine wpAnyH_done (by kernel_rfl) ?_ _
  have HR9 : Hid (w3.ownsRow W.heap.size 67 2 v9 LL.length (cCells LL)) := by
    rw [HLL.out, cCells_app]
    have e : ([(r, r'), (r', r)] ++ L).length = 2 + L.length := by simp; omega
    rw [e]
    exact ho9
  have HB9 : Hid (Below W.heap.size W w3) := BW3
  clear hHeld hq ho9 hg9 A1c A2c BW3 A1b A2b O7b BW2 hv hb2 B2 A1 A2 B0 O7 S0 HC IH
  obtain ⟨a9, c9, hv9⟩ := own_sl HR9.out
  subst hv9
  go_wp2_with fail
  go_ret
  exact ⟨⟨_, rfl, HR9.out⟩, HB9.out⟩
theorem rask_all : ∀ (c d : Ch) (bm : Bool), alikeB c d = true → c.depth ≤ 48 → RAsk c d bm
  | .leaf k s, d, bm, _, _ => rask_leaf k s d bm
  | .box c, .box d, bm, h, hd => rask_box c d bm (rask_all c d bm h (by simp [Ch.depth] at hd; omega))
  | .box _, .leaf _ _, _, h, _ => by simp [alikeB] at h
  | .box _, .ref _ _ _, _, h, _ => by simp [alikeB] at h
  | .ref m r c, .ref m' r' d, true, h, hd => rask_ref_true m m' r r' c d (by simp [Ch.depth] at hd; omega) (rask_all c d true (by simp [alikeB] at h; exact h.2) (by simp [Ch.depth] at hd; omega))
  | .ref m r c, .ref m' r' d, false, h, hd => rask_ref_false m m' r r' c d (by simp [Ch.depth] at hd; omega) (rask_all c d m (by simp [alikeB] at h; exact h.2) (by simp [Ch.depth] at hd; omega))
  | .ref _ _ _, .leaf _ _, _, h, _ => by simp [alikeB] at h
  | .ref _ _ _, .box _, _, h, _ => by simp [alikeB] at h
end Go.Proofs.YtjchbclkdbojpaaDoor
