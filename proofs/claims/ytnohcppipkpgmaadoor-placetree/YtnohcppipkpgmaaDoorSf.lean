import Derived.Test.YtnohcppipkpgmaaDoorSe
import Derived.Deep.DeepCutAuto
import Derived.Deep.Light
namespace Go.Proofs.YtnohcppipkpgmaaDoor
open Go.RowKit Go.Shelf
set_option linter.unusedVariables false
set_option linter.unusedSimpArgs false

/-- A list of prefixes, from a world on. -/
def PL (w' : World) (gl ga m : Nat) (l : Int) (p : List Int) : Prop := ∀ V, Below w'.heap.size w' V → ∀ i, i ≤ m → V.cell? ⟨gl, i * 2, none⟩ = some (.int .i64 l) ∧ V.cell? ⟨gl, i * 2 + 1, none⟩ = some (.slice (preA ga i) i i) ∧ PAt V (preP l ga i) (p.take i)
/-- Which places Prefix is asked of, and what it says. -/
inductive P24 (x y z : Value) (bpq bqr bpr bqp : Bool) : Array Value → Bool → Prop
  | pp : P24 x y z bpq bqr bpr bqp #[x, x] true
  | pq : P24 x y z bpq bqr bpr bqp #[x, y] bpq
  | qr : P24 x y z bpq bqr bpr bqp #[y, z] bqr
  | pr : P24 x y z bpq bqr bpr bqp #[x, z] bpr
  | qp : P24 x y z bpq bqr bpr bqp #[y, x] bqp
set_option maxRecDepth 100000 in
set_option maxHeartbeats 8000000 in
/-- PlaceTree, of places that fit. -/
theorem tree_in {w : World} {x y z : Pt} {p q r : List Int} (hP : PAt w x p) (hQ : PAt w y q) (hR : PAt w z r) (h1 : p.length ≤ 60) (h2 : q.length ≤ 60) (h3 : r.length ≤ 60) :
    Calls Tryd.prog 6 #[x.v, y.v, z.v] w fun e w' => e = .returned (.bool true) ∧ Below w.heap.size w w' := by
  have AW : Hid (∀ W, Calls Tryd.prog 10 #[] W fun e w' => e = .returned (.bool true) ∧ Below W.heap.size W w') := awake_true
  obtain ⟨l, pa, m, pcap⟩ := x
  obtain ⟨l2, qa, m2, qcap⟩ := y
  obtain ⟨l3, ra, m3, rcap⟩ := z
  have CF : Hid (Calls Tryd.prog 9 #[.slice none 0 0, .slice none 0 0, .slice (some ⟨w.heap.size + 1 + 1 + 1, 0, none⟩) 3 3] ((((w.alloc (plO l pa m pcap)).alloc (plO l2 qa m2 qcap)).alloc (plO l3 ra m3 rcap)).alloc (triO ⟨l, pa, m, pcap⟩ ⟨l2, qa, m2, qcap⟩ ⟨l3, ra, m3, rcap⟩)) fun e w' => e = .returned (.bool true) ∧ w' = ((((w.alloc (plO l pa m pcap)).alloc (plO l2 qa m2 qcap)).alloc (plO l3 ra m3 rcap)).alloc (triO ⟨l, pa, m, pcap⟩ ⟨l2, qa, m2, qcap⟩ ⟨l3, ra, m3, rcap⟩))) :=
    fits_nil (ps_tri hP hQ hR) (by simp) true ⟨fun _ x' p' hm => by simp at hm; rcases hm with ⟨-, rfl⟩ | ⟨-, rfl⟩ | ⟨-, rfl⟩ <;> assumption, fun _ => rfl⟩
  have HT0 : Hid (T3 ((((w.alloc (plO l pa m pcap)).alloc (plO l2 qa m2 qcap)).alloc (plO l3 ra m3 rcap)).alloc (triO ⟨l, pa, m, pcap⟩ ⟨l2, qa, m2, qcap⟩ ⟨l3, ra, m3, rcap⟩)) w.heap.size ⟨l, pa, m, pcap⟩ ⟨l2, qa, m2, qcap⟩ ⟨l3, ra, m3, rcap⟩ p q r) := T3.start hP hQ hR
  have HB0 : Hid (Below w.heap.size w ((((w.alloc (plO l pa m pcap)).alloc (plO l2 qa m2 qcap)).alloc (plO l3 ra m3 rcap)).alloc (triO ⟨l, pa, m, pcap⟩ ⟨l2, qa, m2, qcap⟩ ⟨l3, ra, m3, rcap⟩))) := bel4
  have hm : m = p.length := hP.row.len
  obtain ⟨bpq, hpq⟩ := bool_of (l = l2 ∧ p <+: q)
  obtain ⟨bqr, hqr⟩ := bool_of (l2 = l3 ∧ q <+: r)
  obtain ⟨bpr, hpr⟩ := bool_of (l = l3 ∧ p <+: r)
  obtain ⟨bqp, hqp⟩ := bool_of (l2 = l ∧ q <+: p)
  obtain ⟨bs, hs⟩ := bool_of (l = l2 ∧ p = q)
  obtain ⟨o1, ho1⟩ : ∃ o, o = ordP l l2 p q := ⟨_, rfl⟩
  obtain ⟨o2, ho2⟩ : ∃ o, o = ordP l2 l q p := ⟨_, rfl⟩
  obtain ⟨o3, ho3⟩ : ∃ o, o = ordP l2 l3 q r := ⟨_, rfl⟩
  obtain ⟨o4, ho4⟩ : ∃ o, o = ordP l l3 p r := ⟨_, rfl⟩
  have H21 : Hid (o2 = -o1) := (by rw [ho2, ho1]; exact ordP_anti _ _ _ _ : o2 = -o1)
  have TR := hidD (tree_pre hpq hqr hpr hqp)
  have K6 := hidD (tree_ord hpq hqp hs ho1)
  have K8P : Hid (o1 ≤ 0 → o3 ≤ 0 → o4 ≤ 0 ∧ (o4 = 0 → o1 = 0 ∧ o3 = 0)) := (by rw [ho1, ho3, ho4]; exact ordP_trans _ _ _ _ _ _ : o1 ≤ 0 → o3 ≤ 0 → o4 ≤ 0 ∧ (o4 = 0 → o1 = 0 ∧ o3 = 0))
  have O1 : Hid (o1 = -1 ∨ o1 = 0 ∨ o1 = 1) := (by rw [ho1]; exact ordP_is _ _ _ _ : o1 = -1 ∨ o1 = 0 ∨ o1 = 1)
  have O3 : Hid (o3 = -1 ∨ o3 = 0 ∨ o3 = 1) := (by rw [ho3]; exact ordP_is _ _ _ _ : o3 = -1 ∨ o3 = 0 ∨ o3 = 1)
  have O4 : Hid (o4 = -1 ∨ o4 = 0 ∨ o4 = 1) := (by rw [ho4]; exact ordP_is _ _ _ _ : o4 = -1 ∨ o4 = 0 ∨ o4 = 1)
  have HQP := hidD hqp
  have CPP : Hid (∀ V, T3 V w.heap.size ⟨l, pa, m, pcap⟩ ⟨l2, qa, m2, qcap⟩ ⟨l3, ra, m3, rcap⟩ p q r → Calls Tryd.prog 24 #[plV l pa m pcap, plV l pa m pcap] V fun e w' => e = .returned (.bool true) ∧ Below V.heap.size V w') := fun V h => Prefix_any h.p1 h.p1 true ⟨fun _ => ⟨rfl, List.prefix_refl _⟩, fun _ => rfl⟩
  have CPQ : Hid (∀ V, T3 V w.heap.size ⟨l, pa, m, pcap⟩ ⟨l2, qa, m2, qcap⟩ ⟨l3, ra, m3, rcap⟩ p q r → Calls Tryd.prog 24 #[plV l pa m pcap, plV l2 qa m2 qcap] V fun e w' => e = .returned (.bool bpq) ∧ Below V.heap.size V w') := fun V h => Prefix_any h.p1 h.p2 bpq hpq
  have CQR : Hid (∀ V, T3 V w.heap.size ⟨l, pa, m, pcap⟩ ⟨l2, qa, m2, qcap⟩ ⟨l3, ra, m3, rcap⟩ p q r → Calls Tryd.prog 24 #[plV l2 qa m2 qcap, plV l3 ra m3 rcap] V fun e w' => e = .returned (.bool bqr) ∧ Below V.heap.size V w') := fun V h => Prefix_any h.p2 h.p3 bqr hqr
  have CPR : Hid (∀ V, T3 V w.heap.size ⟨l, pa, m, pcap⟩ ⟨l2, qa, m2, qcap⟩ ⟨l3, ra, m3, rcap⟩ p q r → Calls Tryd.prog 24 #[plV l pa m pcap, plV l3 ra m3 rcap] V fun e w' => e = .returned (.bool bpr) ∧ Below V.heap.size V w') := fun V h => Prefix_any h.p1 h.p3 bpr hpr
  have CQP : Hid (∀ V, T3 V w.heap.size ⟨l, pa, m, pcap⟩ ⟨l2, qa, m2, qcap⟩ ⟨l3, ra, m3, rcap⟩ p q r → Calls Tryd.prog 24 #[plV l2 qa m2 qcap, plV l pa m pcap] V fun e w' => e = .returned (.bool bqp) ∧ Below V.heap.size V w') := fun V h => Prefix_any h.p2 h.p1 bqp hqp
  have C24 : Hid (∀ V args b, T3 V w.heap.size ⟨l, pa, m, pcap⟩ ⟨l2, qa, m2, qcap⟩ ⟨l3, ra, m3, rcap⟩ p q r → P24 (plV l pa m pcap) (plV l2 qa m2 qcap) (plV l3 ra m3 rcap) bpq bqr bpr bqp args b → Calls Tryd.prog 24 args V fun e w' => e = .returned (.bool b) ∧ Below V.heap.size V w') := fun V args b h k => by
    cases k
    · exact CPP.out V h
    · exact CPQ.out V h
    · exact CQR.out V h
    · exact CPR.out V h
    · exact CQP.out V h
  clear CPP CPQ CQR CPR
  have CS : Hid (∀ V, T3 V w.heap.size ⟨l, pa, m, pcap⟩ ⟨l2, qa, m2, qcap⟩ ⟨l3, ra, m3, rcap⟩ p q r → Calls Tryd.prog 28 #[plV l pa m pcap, plV l2 qa m2 qcap] V fun e w' => e = .returned (.bool bs) ∧ Below V.heap.size V w') := fun V h => Same_any h.p1 h.p2 bs hs
  have DPQ : Hid (∀ V, T3 V w.heap.size ⟨l, pa, m, pcap⟩ ⟨l2, qa, m2, qcap⟩ ⟨l3, ra, m3, rcap⟩ p q r → Calls Tryd.prog 26 #[plV l pa m pcap, plV l2 qa m2 qcap] V fun e w' => e = .returned (.int .i64 o1) ∧ Below V.heap.size V w') := fun V h => Order_any h.p1 h.p2 o1 ho1
  have DQP : Hid (∀ V, T3 V w.heap.size ⟨l, pa, m, pcap⟩ ⟨l2, qa, m2, qcap⟩ ⟨l3, ra, m3, rcap⟩ p q r → Calls Tryd.prog 26 #[plV l2 qa m2 qcap, plV l pa m pcap] V fun e w' => e = .returned (.int .i64 o2) ∧ Below V.heap.size V w') := fun V h => Order_any h.p2 h.p1 o2 ho2
  have DQR : Hid (∀ V, T3 V w.heap.size ⟨l, pa, m, pcap⟩ ⟨l2, qa, m2, qcap⟩ ⟨l3, ra, m3, rcap⟩ p q r → Calls Tryd.prog 26 #[plV l2 qa m2 qcap, plV l3 ra m3 rcap] V fun e w' => e = .returned (.int .i64 o3) ∧ Below V.heap.size V w') := fun V h => Order_any h.p2 h.p3 o3 ho3
  have DPR : Hid (∀ V, T3 V w.heap.size ⟨l, pa, m, pcap⟩ ⟨l2, qa, m2, qcap⟩ ⟨l3, ra, m3, rcap⟩ p q r → Calls Tryd.prog 26 #[plV l pa m pcap, plV l3 ra m3 rcap] V fun e w' => e = .returned (.int .i64 o4) ∧ Below V.heap.size V w') := fun V h => Order_any h.p1 h.p3 o4 ho4
  have CPX : Hid (∀ V, T3 V w.heap.size ⟨l, pa, m, pcap⟩ ⟨l2, qa, m2, qcap⟩ ⟨l3, ra, m3, rcap⟩ p q r → Calls Tryd.prog 31 #[plV l pa m pcap] V fun e w' => ∃ gl ga, e = .returned (.slice (some ⟨gl, 0, none⟩) (m + 1) (m + 1)) ∧ PL w' gl ga m l p ∧ Below V.heap.size V w') := fun V h => by
    refine (Prefixes_any h.p1 (by omega)).mono fun e w' k => ?_
    obtain ⟨gl, ga, e1, e2, e3⟩ := k
    refine ⟨gl, ga, by rw [e1, hm], fun V' hV' i hi => ?_, e3⟩
    exact (e2.bel hV').place ⟨h.p1.l0, h.p1.l1⟩ h.p1.row.rng (by omega) (by omega)
  have CSL : Hid (∀ V ga, T3 V w.heap.size ⟨l, pa, m, pcap⟩ ⟨l2, qa, m2, qcap⟩ ⟨l3, ra, m3, rcap⟩ p q r → PAt V (preP l ga m) (p.take m) → Calls Tryd.prog 28 #[plV l (preA ga m) m m, plV l pa m pcap] V fun e w' => e = .returned (.bool true) ∧ Below V.heap.size V w') := fun V ga h h' => Same_any h' h.p1 true (by rw [hm, List.take_length]; exact ⟨fun _ => ⟨rfl, rfl⟩, fun _ => rfl⟩)
  have CSQ : Hid (∀ V ga i b, T3 V w.heap.size ⟨l, pa, m, pcap⟩ ⟨l2, qa, m2, qcap⟩ ⟨l3, ra, m3, rcap⟩ p q r → PAt V (preP l ga i) (p.take i) → (b = true ↔ l = l2 ∧ p.take i = q) → Calls Tryd.prog 28 #[plV l (preA ga i) i i, plV l2 qa m2 qcap] V fun e w' => e = .returned (.bool b) ∧ Below V.heap.size V w') := fun V ga i b h h' hb => Same_any h' h.p2 b hb
  have CLP : Hid (∀ V ga i, T3 V w.heap.size ⟨l, pa, m, pcap⟩ ⟨l2, qa, m2, qcap⟩ ⟨l3, ra, m3, rcap⟩ p q r → PAt V (preP l ga i) (p.take i) → Calls Tryd.prog 24 #[plV l (preA ga i) i i, plV l pa m pcap] V fun e w' => e = .returned (.bool true) ∧ Below V.heap.size V w') := fun V ga i h h' => Prefix_any h' h.p1 true ⟨fun _ => ⟨rfl, List.take_prefix _ _⟩, fun _ => rfl⟩
  have CLL : Hid (∀ V ga i, PAt V (preP l ga i) (p.take i) → PAt V (preP l ga (i + 1)) (p.take (i + 1)) → Calls Tryd.prog 24 #[plV l (preA ga i) i i, plV l (preA ga (i + 1)) (i + 1) (i + 1)] V fun e w' => e = .returned (.bool true) ∧ Below V.heap.size V w') := fun V ga i h h' => Prefix_any h h' true ⟨fun _ => ⟨rfl, List.take_prefix_take_left (Nat.le_succ i)⟩, fun _ => rfl⟩
  have COL : Hid (∀ V ga i, i < m → PAt V (preP l ga i) (p.take i) → PAt V (preP l ga (i + 1)) (p.take (i + 1)) → Calls Tryd.prog 26 #[plV l (preA ga i) i i, plV l (preA ga (i + 1)) (i + 1) (i + 1)] V fun e w' => e = .returned (.int .i64 (-1)) ∧ Below V.heap.size V w') := fun V ga i hi h h' => Order_any h h' (-1) (ordP_next l p i (by omega)).symm
  show Calls Tryd.prog 6 #[plV l pa m pcap, plV l2 qa m2 qcap, plV l3 ra m3 rcap] w _
  have m60 : (m : Int) ≤ 60 := by omega
  have HM := hidD hm
  clear hP hQ hR h1 h2 h3 hm hpq hqr hpr hqp hs ho1 ho2 ho3 ho4
  go_enter Tryd.func6, Tryd.ntmps6
  go_upto_region 3 with (go_at_call 9; refine CF.out.mono ?_; rintro e w1 ⟨rfl, hw⟩; have HT : Hid (T3 w1 w.heap.size ⟨l, pa, m, pcap⟩ ⟨l2, qa, m2, qcap⟩ ⟨l3, ra, m3, rcap⟩ p q r) := (by rw [hw]; exact HT0.out); have HB : Hid (Below w.heap.size w w1) := (by rw [hw]; exact HB0.out); clear hw; obtain ⟨a0, a1, b0, b1, d0, d1⟩ := HT.out.cells)
  clear CF HT0 HB0
  go_cut [62] (fun v V => v = .bool false ∧ T3 V w.heap.size ⟨l, pa, m, pcap⟩ ⟨l2, qa, m2, qcap⟩ ⟨l3, ra, m3, rcap⟩ p q r ∧ Below w.heap.size w V)
  case first =>
    as_aux_lemma =>
      have tr := TR.out
      clear TR K6 K8P H21 O1 O3 O4 DPQ DQP DQR DPR CPX CSL CSQ CLP CLL COL CS AW HQP HM
      cases bpq <;> cases bqr <;> cases bpr <;> cases bqp
      all_goals (try (exact absurd tr (by decide)))
      all_goals clear tr
      all_goals (go_wp2_with (go_at_call 24; refine (C24.out _ _ _ HT.out (by first | exact .pp | exact .pq | exact .qr | exact .pr | exact .qp)).mono ?_; rintro e wn ⟨rfl, hbn⟩; have HT2 := hidD (HT.out.bel hbn); have HB2 := hidD (below_aft HB.out hbn); clear HT HB a0 a1 b0 b1 d0 d1 hbn; have HT := HT2; have HB := HB2; clear HT2 HB2; obtain ⟨a0, a1, b0, b1, d0, d1⟩ := HT.out.cells); go_meet; exact ⟨rfl, HT.out, HB.out⟩)
  case rest =>
  obtain ⟨rfl, hT, hB⟩ := hcut
  have HT := hidD hT
  have HB := hidD hB
  clear hT hB
  obtain ⟨a0, a1, b0, b1, d0, d1⟩ := HT.out.cells
  clear TR
  go_upto_region 5 with fail
  refine beginH (S := fun V => Below wc.heap.size wc V) (fun _ _ _ _ _ h => h) (by as_aux_lemma => kernel_rfl) (belN (Below.refl _ _) 1) (fun hq hHeld => ?_)
  refine takeH (i := 0) (d := 63) (plV l pa m pcap) hq rfl rfl (by as_aux_lemma => kernel_rfl) (by as_aux_lemma => kernel_rfl) (by as_aux_lemma => kernel_rfl) (by rfl) (fun W hSw => by (obtain ⟨z0, z1, -, -, -, -⟩ := (HT.out.bel hSw).cells; go_simp; try rfl)) hHeld ?_
  try simp only [Act.put, List.setIfInBounds_toArray, List.set_cons_zero, List.set_cons_succ]
  refine takeH (i := 1) (d := 64) (plV l2 qa m2 qcap) hq rfl rfl (by as_aux_lemma => kernel_rfl) (by as_aux_lemma => kernel_rfl) (by as_aux_lemma => kernel_rfl) (by rfl) (fun W hSw => by (obtain ⟨-, -, z0, z1, -, -⟩ := (HT.out.bel hSw).cells; go_simp; try rfl)) hHeld ?_
  try simp only [Act.put, List.setIfInBounds_toArray, List.set_cons_zero, List.set_cons_succ]
  refine takeH (i := 3) (d := 66) (plV l2 qa m2 qcap) hq rfl rfl (by as_aux_lemma => kernel_rfl) (by as_aux_lemma => kernel_rfl) (by as_aux_lemma => kernel_rfl) (by rfl) (fun W hSw => by (obtain ⟨-, -, z0, z1, -, -⟩ := (HT.out.bel hSw).cells; go_simp; try rfl)) hHeld ?_
  try simp only [Act.put, List.setIfInBounds_toArray, List.set_cons_zero, List.set_cons_succ]
  refine takeH (i := 4) (d := 67) (plV l pa m pcap) hq rfl rfl (by as_aux_lemma => kernel_rfl) (by as_aux_lemma => kernel_rfl) (by as_aux_lemma => kernel_rfl) (by rfl) (fun W hSw => by (obtain ⟨z0, z1, -, -, -, -⟩ := (HT.out.bel hSw).cells; go_simp; try rfl)) hHeld ?_
  try simp only [Act.put, List.setIfInBounds_toArray, List.set_cons_zero, List.set_cons_succ]
  refine takeH (i := 6) (d := 69) (plV l2 qa m2 qcap) hq rfl rfl (by as_aux_lemma => kernel_rfl) (by as_aux_lemma => kernel_rfl) (by as_aux_lemma => kernel_rfl) (by rfl) (fun W hSw => by (obtain ⟨-, -, z0, z1, -, -⟩ := (HT.out.bel hSw).cells; go_simp; try rfl)) hHeld ?_
  try simp only [Act.put, List.setIfInBounds_toArray, List.set_cons_zero, List.set_cons_succ]
  refine takeH (i := 7) (d := 70) (plV l3 ra m3 rcap) hq rfl rfl (by as_aux_lemma => kernel_rfl) (by as_aux_lemma => kernel_rfl) (by as_aux_lemma => kernel_rfl) (by rfl) (fun W hSw => by (obtain ⟨-, -, -, -, z0, z1⟩ := (HT.out.bel hSw).cells; go_simp; try rfl)) hHeld ?_
  try simp only [Act.put, List.setIfInBounds_toArray, List.set_cons_zero, List.set_cons_succ]
  refine takeH (i := 9) (d := 72) (plV l pa m pcap) hq rfl rfl (by as_aux_lemma => kernel_rfl) (by as_aux_lemma => kernel_rfl) (by as_aux_lemma => kernel_rfl) (by rfl) (fun W hSw => by (obtain ⟨z0, z1, -, -, -, -⟩ := (HT.out.bel hSw).cells; go_simp; try rfl)) hHeld ?_
  try simp only [Act.put, List.setIfInBounds_toArray, List.set_cons_zero, List.set_cons_succ]
  refine takeH (i := 10) (d := 73) (plV l3 ra m3 rcap) hq rfl rfl (by as_aux_lemma => kernel_rfl) (by as_aux_lemma => kernel_rfl) (by as_aux_lemma => kernel_rfl) (by rfl) (fun W hSw => by (obtain ⟨-, -, -, -, z0, z1⟩ := (HT.out.bel hSw).cells; go_simp; try rfl)) hHeld ?_
  try simp only [Act.put, List.setIfInBounds_toArray, List.set_cons_zero, List.set_cons_succ]
  refine wpAnyH_ready (rs := [2]) (by as_aux_lemma => kernel_rfl) (by simp) ?_
  refine AllReadyH.cons rfl (fun K hK => ?_) AllReadyH.nil
  go_simp
  refine (DPQ.out _ (HT.out.bel (belN (Below.refl _ _) 1))).mono ?_
  rintro e v1 ⟨rfl, hb1⟩
  have hS1 : Below wc.heap.size wc v1 := below_aft (belN (Below.refl _ _) 1) hb1
  go_wp2_with fail
  refine hK.out _ _ hS1 (fun hHeld => ?_)
  clear hK K
  try simp only [Act.put, List.setIfInBounds_toArray, List.set_cons_zero, List.set_cons_succ]
  have HS1 := hidD hS1
  clear hb1 hS1
  refine wpAnyH_ready (rs := [5]) (by as_aux_lemma => kernel_rfl) (by simp) ?_
  refine AllReadyH.cons rfl (fun K hK => ?_) AllReadyH.nil
  go_simp
  refine (DQP.out _ (HT.out.bel HS1.out)).mono ?_
  rintro e v2 ⟨rfl, hb2⟩
  have hS2 : Below wc.heap.size wc v2 := below_aft HS1.out hb2
  go_wp2_with fail
  refine hK.out _ _ hS2 (fun hHeld => ?_)
  clear hK K
  try simp only [Act.put, List.setIfInBounds_toArray, List.set_cons_zero, List.set_cons_succ]
  have HS2 := hidD hS2
  clear hb2 hS2
  refine wpAnyH_ready (rs := [8]) (by as_aux_lemma => kernel_rfl) (by simp) ?_
  refine AllReadyH.cons rfl (fun K hK => ?_) AllReadyH.nil
  go_simp
  refine (DQR.out _ (HT.out.bel HS2.out)).mono ?_
  rintro e v3 ⟨rfl, hb3⟩
  have hS3 : Below wc.heap.size wc v3 := below_aft HS2.out hb3
  go_wp2_with fail
  refine hK.out _ _ hS3 (fun hHeld => ?_)
  clear hK K
  try simp only [Act.put, List.setIfInBounds_toArray, List.set_cons_zero, List.set_cons_succ]
  have HS3 := hidD hS3
  clear hb3 hS3
  refine wpAnyH_ready (rs := [11]) (by as_aux_lemma => kernel_rfl) (by simp) ?_
  refine AllReadyH.cons rfl (fun K hK => ?_) AllReadyH.nil
  go_simp
  refine (DPR.out _ (HT.out.bel HS3.out)).mono ?_
  rintro e v4 ⟨rfl, hb4⟩
  have hS4 : Below wc.heap.size wc v4 := below_aft HS3.out hb4
  go_wp2_with fail
  refine hK.out _ _ hS4 (fun hHeld => ?_)
  clear hK K
  try simp only [Act.put, List.setIfInBounds_toArray, List.set_cons_zero, List.set_cons_succ]
  have HS4 := hidD hS4
  clear hb4 hS4
  refine takeH (i := 12) (d := 7) (.int .i64 o1) hq rfl rfl (by as_aux_lemma => kernel_rfl) (by as_aux_lemma => kernel_rfl) (by as_aux_lemma => kernel_rfl) (by rfl) (fun W hSw => by (go_simp; try rfl)) hHeld ?_
  try simp only [Act.put, List.setIfInBounds_toArray, List.set_cons_zero, List.set_cons_succ]
  refine takeH (i := 13) (d := 8) (.int .i64 o2) hq rfl rfl (by as_aux_lemma => kernel_rfl) (by as_aux_lemma => kernel_rfl) (by as_aux_lemma => kernel_rfl) (by rfl) (fun W hSw => by (go_simp; try rfl)) hHeld ?_
  try simp only [Act.put, List.setIfInBounds_toArray, List.set_cons_zero, List.set_cons_succ]
  refine takeH (i := 14) (d := 9) (.int .i64 o3) hq rfl rfl (by as_aux_lemma => kernel_rfl) (by as_aux_lemma => kernel_rfl) (by as_aux_lemma => kernel_rfl) (by rfl) (fun W hSw => by (go_simp; try rfl)) hHeld ?_
  try simp only [Act.put, List.setIfInBounds_toArray, List.set_cons_zero, List.set_cons_succ]
  refine takeH (i := 15) (d := 10) (.int .i64 o4) hq rfl rfl (by as_aux_lemma => kernel_rfl) (by as_aux_lemma => kernel_rfl) (by as_aux_lemma => kernel_rfl) (by rfl) (fun W hSw => by (go_simp; try rfl)) hHeld ?_
  try simp only [Act.put, List.setIfInBounds_toArray, List.set_cons_zero, List.set_cons_succ]
  refine wpAnyH_done (by as_aux_lemma => kernel_rfl) ?_ _
  have HT2 := hidD (HT.out.bel HS4.out)
  have HB2 := hidD (below_aft HB.out HS4.out)
  clear HT HB a0 a1 b0 b1 d0 d1 hHeld hq HS1 HS2 HS3 HS4 DPQ DQP DQR DPR
  have HT := HT2
  have HB := HB2
  clear HT2 HB2
  obtain ⟨a0, a1, b0, b1, d0, d1⟩ := HT.out.cells
  go_upto_region 6 with fail
  go_cut [108] (fun v V => v = .bool false ∧ T3 V w.heap.size ⟨l, pa, m, pcap⟩ ⟨l2, qa, m2, qcap⟩ ⟨l3, ra, m3, rcap⟩ p q r ∧ Below w.heap.size w V)
  case first =>
    as_aux_lemma =>
      have k6 := K6.out
      rcases O1.out with h | h | h
      · obtain rfl : o2 = 1 := by simp [H21.out, h]
        subst h
        clear K6 K8P H21 O1 O3 O4 CPX CSL CSQ CLP CLL COL AW HQP HM
        cases bpq <;> cases bqp <;> cases bs
        all_goals (try (exact absurd k6 (by decide)))
        all_goals clear k6
        all_goals (go_wp2_with (first | (go_at_call 24; refine (C24.out _ _ _ HT.out (by first | exact .pp | exact .pq | exact .qr | exact .pr | exact .qp)).mono ?_; rintro e wn ⟨rfl, hbn⟩; have HT2 := hidD (HT.out.bel hbn); have HB2 := hidD (below_aft HB.out hbn); clear HT HB a0 a1 b0 b1 d0 d1 hbn; have HT := HT2; have HB := HB2; clear HT2 HB2; obtain ⟨a0, a1, b0, b1, d0, d1⟩ := HT.out.cells) | (go_at_call 28; refine (CS.out _ HT.out).mono ?_; rintro e wn ⟨rfl, hbn⟩; have HT2 := hidD (HT.out.bel hbn); have HB2 := hidD (below_aft HB.out hbn); clear HT HB a0 a1 b0 b1 d0 d1 hbn; have HT := HT2; have HB := HB2; clear HT2 HB2; obtain ⟨a0, a1, b0, b1, d0, d1⟩ := HT.out.cells)); go_meet; exact ⟨rfl, HT.out, HB.out⟩)
      · obtain rfl : o2 = 0 := by simp [H21.out, h]
        subst h
        clear K6 K8P H21 O1 O3 O4 CPX CSL CSQ CLP CLL COL AW HQP HM
        cases bpq <;> cases bqp <;> cases bs
        all_goals (try (exact absurd k6 (by decide)))
        all_goals clear k6
        all_goals (go_wp2_with (first | (go_at_call 24; refine (C24.out _ _ _ HT.out (by first | exact .pp | exact .pq | exact .qr | exact .pr | exact .qp)).mono ?_; rintro e wn ⟨rfl, hbn⟩; have HT2 := hidD (HT.out.bel hbn); have HB2 := hidD (below_aft HB.out hbn); clear HT HB a0 a1 b0 b1 d0 d1 hbn; have HT := HT2; have HB := HB2; clear HT2 HB2; obtain ⟨a0, a1, b0, b1, d0, d1⟩ := HT.out.cells) | (go_at_call 28; refine (CS.out _ HT.out).mono ?_; rintro e wn ⟨rfl, hbn⟩; have HT2 := hidD (HT.out.bel hbn); have HB2 := hidD (below_aft HB.out hbn); clear HT HB a0 a1 b0 b1 d0 d1 hbn; have HT := HT2; have HB := HB2; clear HT2 HB2; obtain ⟨a0, a1, b0, b1, d0, d1⟩ := HT.out.cells)); go_meet; exact ⟨rfl, HT.out, HB.out⟩)
      · obtain rfl : o2 = -1 := by simp [H21.out, h]
        subst h
        clear K6 K8P H21 O1 O3 O4 CPX CSL CSQ CLP CLL COL AW HQP HM
        cases bpq <;> cases bqp <;> cases bs
        all_goals (try (exact absurd k6 (by decide)))
        all_goals clear k6
        all_goals (go_wp2_with (first | (go_at_call 24; refine (C24.out _ _ _ HT.out (by first | exact .pp | exact .pq | exact .qr | exact .pr | exact .qp)).mono ?_; rintro e wn ⟨rfl, hbn⟩; have HT2 := hidD (HT.out.bel hbn); have HB2 := hidD (below_aft HB.out hbn); clear HT HB a0 a1 b0 b1 d0 d1 hbn; have HT := HT2; have HB := HB2; clear HT2 HB2; obtain ⟨a0, a1, b0, b1, d0, d1⟩ := HT.out.cells) | (go_at_call 28; refine (CS.out _ HT.out).mono ?_; rintro e wn ⟨rfl, hbn⟩; have HT2 := hidD (HT.out.bel hbn); have HB2 := hidD (below_aft HB.out hbn); clear HT HB a0 a1 b0 b1 d0 d1 hbn; have HT := HT2; have HB := HB2; clear HT2 HB2; obtain ⟨a0, a1, b0, b1, d0, d1⟩ := HT.out.cells)); go_meet; exact ⟨rfl, HT.out, HB.out⟩)
  case rest =>
  obtain ⟨rfl, hT, hB⟩ := hcut
  have HT := hidD hT
  have HB := hidD hB
  clear hT hB
  obtain ⟨a0, a1, b0, b1, d0, d1⟩ := HT.out.cells
  clear K6 CS C24
  go_upto_region 8 with fail
  go_cut [130] (fun v V => v = .bool false ∧ T3 V w.heap.size ⟨l, pa, m, pcap⟩ ⟨l2, qa, m2, qcap⟩ ⟨l3, ra, m3, rcap⟩ p q r ∧ Below w.heap.size w V)
  case first =>
    as_aux_lemma =>
      have hk := K8P.out
      clear H21 O1 O3 O4 CPX CSL CSQ CLP CLL COL AW HQP HM K8P
      by_cases g1 : o1 ≤ 0
      · by_cases g2 : o3 ≤ 0
        · obtain ⟨g3, g4⟩ := hk g1 g2
          have g5 : ¬ 0 < o4 := by omega
          by_cases g6 : o4 = 0
          · obtain ⟨g7, g8⟩ := g4 g6
            have g9 : ¬ o1 < 0 := by omega
            have g10 : ¬ o3 < 0 := by omega
            clear hk g3 g4 g7 g8
            subst g6
            go_wp2_with fail
            go_meet
            exact ⟨rfl, HT.out, HB.out⟩
          · clear hk g3 g4
            go_wp2_with fail
            go_meet
            exact ⟨rfl, HT.out, HB.out⟩
        · clear hk
          go_wp2_with fail
          go_meet
          exact ⟨rfl, HT.out, HB.out⟩
      · clear hk
        go_wp2_with fail
        go_meet
        exact ⟨rfl, HT.out, HB.out⟩
  case rest =>
  obtain ⟨rfl, hT, hB⟩ := hcut
  have HT := hidD hT
  have HB := hidD hB
  clear hT hB
  obtain ⟨a0, a1, b0, b1, d0, d1⟩ := HT.out.cells
  clear K8P O1 O3 O4 H21
  go_upto_region 11 with (go_at_call 31; refine (CPX.out _ HT.out).mono ?_; rintro e w5 ⟨gl, ga, rfl, hpl, hb5⟩; have HPL := hidD hpl; have HT5 := hidD (HT.out.bel hb5); have HB5 := hidD (below_aft HB.out hb5); clear HT HB a0 a1 b0 b1 d0 d1 hb5 hpl; obtain ⟨a0, a1, b0, b1, d0, d1⟩ := HT5.out.cells)
  clear CPX
  refine beginH (S := fun V => Below w5.heap.size w5 V) (fun _ _ _ _ _ h => h) (by as_aux_lemma => kernel_rfl) (belN (Below.refl _ _) 1) (fun hq hHeld => ?_)
  refine takeH (i := 0) (d := 133) _ hq rfl rfl (by as_aux_lemma => kernel_rfl) (by as_aux_lemma => kernel_rfl) (by as_aux_lemma => kernel_rfl) (by rfl) (fun W hSw => by (go_simp; try first | rfl | (rw [IntKind.wrap_i64]; omega) | (intro hh; exfalso; omega))) hHeld ?_
  try simp only [Act.put, List.setIfInBounds_toArray, List.set_cons_zero, List.set_cons_succ]
  refine takeH (i := 1) (d := 134) (.int .i64 ((m : Int) + 1)) hq rfl rfl (by as_aux_lemma => kernel_rfl) (by as_aux_lemma => kernel_rfl) (by as_aux_lemma => kernel_rfl) (by rfl) (fun W hSw => by (go_simp; try first | rfl | (rw [IntKind.wrap_i64]; omega) | (intro hh; exfalso; omega))) hHeld ?_
  try simp only [Act.put, List.setIfInBounds_toArray, List.set_cons_zero, List.set_cons_succ]
  refine takeH (i := 2) (d := 135) _ hq rfl rfl (by as_aux_lemma => kernel_rfl) (by as_aux_lemma => kernel_rfl) (by as_aux_lemma => kernel_rfl) (by rfl) (fun W hSw => by (go_simp; try first | rfl | (rw [IntKind.wrap_i64]; omega) | (intro hh; exfalso; omega))) hHeld ?_
  try simp only [Act.put, List.setIfInBounds_toArray, List.set_cons_zero, List.set_cons_succ]
  refine takeH (i := 3) (d := 136) (.slice pa m pcap) hq rfl rfl (by as_aux_lemma => kernel_rfl) (by as_aux_lemma => kernel_rfl) (by as_aux_lemma => kernel_rfl) (by rfl) (fun W hSw => by (obtain ⟨z0, z1, -, -, -, -⟩ := (HT5.out.bel hSw).cells; go_simp; try rfl)) hHeld ?_
  try simp only [Act.put, List.setIfInBounds_toArray, List.set_cons_zero, List.set_cons_succ]
  refine takeH (i := 4) (d := 137) (.int .i64 (m : Int)) hq rfl rfl (by as_aux_lemma => kernel_rfl) (by as_aux_lemma => kernel_rfl) (by as_aux_lemma => kernel_rfl) (by rfl) (fun W hSw => by (go_simp; try first | rfl | (rw [IntKind.wrap_i64]; omega) | (intro hh; exfalso; omega))) hHeld ?_
  try simp only [Act.put, List.setIfInBounds_toArray, List.set_cons_zero, List.set_cons_succ]
  refine takeH (i := 5) (d := 138) (.int .i64 ((m : Int) + 1)) hq rfl rfl (by as_aux_lemma => kernel_rfl) (by as_aux_lemma => kernel_rfl) (by as_aux_lemma => kernel_rfl) (by rfl) (fun W hSw => by (go_simp; try first | rfl | (rw [IntKind.wrap_i64]; omega) | (intro hh; exfalso; omega))) hHeld ?_
  try simp only [Act.put, List.setIfInBounds_toArray, List.set_cons_zero, List.set_cons_succ]
  refine takeH (i := 6) (d := 139) (.bool false) hq rfl rfl (by as_aux_lemma => kernel_rfl) (by as_aux_lemma => kernel_rfl) (by as_aux_lemma => kernel_rfl) (by rfl) (fun W hSw => by (go_simp; try first | rfl | (rw [IntKind.wrap_i64]; omega) | (intro hh; exfalso; omega))) hHeld ?_
  try simp only [Act.put, List.setIfInBounds_toArray, List.set_cons_zero, List.set_cons_succ]
  refine takeH (i := 7) (d := 140) (.bool false) hq rfl rfl (by as_aux_lemma => kernel_rfl) (by as_aux_lemma => kernel_rfl) (by as_aux_lemma => kernel_rfl) (by rfl) (fun W hSw => by (go_simp; try first | rfl | (rw [IntKind.wrap_i64]; omega) | (intro hh; exfalso; omega))) hHeld ?_
  try simp only [Act.put, List.setIfInBounds_toArray, List.set_cons_zero, List.set_cons_succ]
  refine takeH (i := 8) (d := 141) _ hq rfl rfl (by as_aux_lemma => kernel_rfl) (by as_aux_lemma => kernel_rfl) (by as_aux_lemma => kernel_rfl) (by rfl) (fun W hSw => by (go_simp; try first | rfl | (rw [IntKind.wrap_i64]; omega) | (intro hh; exfalso; omega))) hHeld ?_
  try simp only [Act.put, List.setIfInBounds_toArray, List.set_cons_zero, List.set_cons_succ]
  refine takeH (i := 9) (d := 142) _ hq rfl rfl (by as_aux_lemma => kernel_rfl) (by as_aux_lemma => kernel_rfl) (by as_aux_lemma => kernel_rfl) (by rfl) (fun W hSw => by (go_simp; try first | rfl | (rw [IntKind.wrap_i64]; omega) | (intro hh; exfalso; omega))) hHeld ?_
  try simp only [Act.put, List.setIfInBounds_toArray, List.set_cons_zero, List.set_cons_succ]
  refine takeH (i := 10) (d := 143) (.int .i64 ((m : Int) + 1)) hq rfl rfl (by as_aux_lemma => kernel_rfl) (by as_aux_lemma => kernel_rfl) (by as_aux_lemma => kernel_rfl) (by rfl) (fun W hSw => by (go_simp; try first | rfl | (rw [IntKind.wrap_i64]; omega) | (intro hh; exfalso; omega))) hHeld ?_
  try simp only [Act.put, List.setIfInBounds_toArray, List.set_cons_zero, List.set_cons_succ]
  refine takeH (i := 11) (d := 144) (.int .i64 (m : Int)) hq rfl rfl (by as_aux_lemma => kernel_rfl) (by as_aux_lemma => kernel_rfl) (by as_aux_lemma => kernel_rfl) (by rfl) (fun W hSw => by (go_simp; try first | rfl | (rw [IntKind.wrap_i64]; omega) | (intro hh; exfalso; omega))) hHeld ?_
  try simp only [Act.put, List.setIfInBounds_toArray, List.set_cons_zero, List.set_cons_succ]
  refine takeH (i := 12) (d := 145) (.pointer (some ⟨gl, m * 2, none⟩)) hq rfl rfl (by as_aux_lemma => kernel_rfl) (by as_aux_lemma => kernel_rfl) (by as_aux_lemma => kernel_rfl) (by rfl) (fun W hSw => by (go_simp; try first | rfl | (rw [IntKind.wrap_i64]; omega) | (intro hh; exfalso; omega))) hHeld ?_
  try simp only [Act.put, List.setIfInBounds_toArray, List.set_cons_zero, List.set_cons_succ]
  refine takeH (i := 13) (d := 146) (plV l (preA ga m) m m) hq rfl rfl (by as_aux_lemma => kernel_rfl) (by as_aux_lemma => kernel_rfl) (by as_aux_lemma => kernel_rfl) (by rfl) (fun W hSw => by (obtain ⟨z0, z1, -⟩ := HPL.out _ hSw m (Nat.le_refl _); go_simp; try rfl)) hHeld ?_
  try simp only [Act.put, List.setIfInBounds_toArray, List.set_cons_zero, List.set_cons_succ]
  refine takeH (i := 14) (d := 147) (plV l pa m pcap) hq rfl rfl (by as_aux_lemma => kernel_rfl) (by as_aux_lemma => kernel_rfl) (by as_aux_lemma => kernel_rfl) (by rfl) (fun W hSw => by (obtain ⟨z0, z1, -, -, -, -⟩ := (HT5.out.bel hSw).cells; go_simp; try rfl)) hHeld ?_
  try simp only [Act.put, List.setIfInBounds_toArray, List.set_cons_zero, List.set_cons_succ]
  refine wpAnyH_ready (rs := [15]) (by as_aux_lemma => kernel_rfl) (by simp) ?_
  refine AllReadyH.cons rfl (fun K hK => ?_) AllReadyH.nil
  go_simp
  refine (CSL.out _ ga (HT5.out.bel (belN (Below.refl _ _) 1)) (HPL.out _ (belN (Below.refl _ _) 1) m (Nat.le_refl _)).2.2).mono ?_
  rintro e v1 ⟨rfl, hb1⟩
  have hS1 : Below w5.heap.size w5 v1 := below_aft (belN (Below.refl _ _) 1) hb1
  go_wp2_with fail
  refine hK.out _ _ hS1 (fun hHeld => ?_)
  clear hK K
  try simp only [Act.put, List.setIfInBounds_toArray, List.set_cons_zero, List.set_cons_succ]
  have HS1 := hidD hS1
  clear hb1 hS1
  refine takeH (i := 16) (d := 149) (.bool false) hq rfl rfl (by as_aux_lemma => kernel_rfl) (by as_aux_lemma => kernel_rfl) (by as_aux_lemma => kernel_rfl) (by rfl) (fun W hSw => by (go_simp; try first | rfl | (rw [IntKind.wrap_i64]; omega) | (intro hh; exfalso; omega))) hHeld ?_
  try simp only [Act.put, List.setIfInBounds_toArray, List.set_cons_zero, List.set_cons_succ]
  refine takeH (i := 17) (d := 150) (.bool false) hq rfl rfl (by as_aux_lemma => kernel_rfl) (by as_aux_lemma => kernel_rfl) (by as_aux_lemma => kernel_rfl) (by rfl) (fun W hSw => by (go_simp; try first | rfl | (rw [IntKind.wrap_i64]; omega) | (intro hh; exfalso; omega))) hHeld ?_
  try simp only [Act.put, List.setIfInBounds_toArray, List.set_cons_zero, List.set_cons_succ]
  refine wpAnyH_done (by as_aux_lemma => kernel_rfl) ?_ _
  have HT6 := hidD (HT5.out.bel HS1.out)
  have HB6 := hidD (below_aft HB5.out HS1.out)
  have HPL6 : Hid (PL v1 gl ga m l p) := fun V hV => HPL.out V (below_aft HS1.out hV)
  clear HT5 HB5 HPL HS1 hHeld hq a0 a1 b0 b1 d0 d1 CSL
  go_wp2_with fail
  go_loopw [12, 13] (fun x y V => ∃ (i : Nat) (fi : Bool), i ≤ m + 1 ∧ y = .int .i64 i ∧ x = .bool fi ∧ (fi = true ↔ ∃ j, j < i ∧ l = l2 ∧ p.take j = q) ∧ Below v1.heap.size v1 V) (fun _ y _ => m + 1 - (intOf y).toNat)
  case atStart => exact ⟨0, false, Nat.zero_le _, rfl, rfl, ⟨(fun h => by cases h), fun ⟨j, h, _⟩ => by omega⟩, Below.refl _ _⟩
  case round =>
    obtain ⟨i, fi, hi, rfl, rfl, hfi, hB⟩ := hrel
    have HF := hidD hfi
    have HBr := hidD hB
    have HTr := hidD (HT6.out.bel hB)
    have HPr : Hid (PL wr gl ga m l p) := fun V hV => HPL6.out V (below_aft hB hV)
    clear hfi hB
    by_cases hlt : i < m + 1
    · have i0 : (0 : Int) ≤ (i : Int) := by omega
      have i1 : (i : Int) < (m : Int) + 1 := by omega
      have i2 : i ≤ m := by omega
      obtain ⟨bi, hbi⟩ := bool_of (l = l2 ∧ p.take i = q)
      have HN : Hid ((fi || bi) = true ↔ ∃ j, j < i + 1 ∧ l = l2 ∧ p.take j = q) := by
        show (fi || bi) = true ↔ _
        rw [Bool.or_eq_true, HF.out, hbi]
        constructor
        · rintro (⟨j, h1, h2⟩ | h)
          · exact ⟨j, by omega, h2⟩
          · exact ⟨i, by omega, h⟩
        · rintro ⟨j, h1, h2⟩
          rcases Nat.lt_or_ge j i with h | h
          · exact .inl ⟨j, h, h2⟩
          · obtain rfl : j = i := by omega
            exact .inr h2
      have HBI := hidD hbi
      have I2 := hidD i2
      clear hbi HF
      go_upto_region 17 with fail
      cases fi with
      | true =>
        refine beginH (S := fun V => Below wr.heap.size wr V) (fun _ _ _ _ _ h => h) (by as_aux_lemma => kernel_rfl) (belN (Below.refl _ _) 1) (fun hq hHeld => ?_)
        refine takeH (i := 0) (d := 157) (.bool true) hq rfl rfl (by as_aux_lemma => kernel_rfl) (by as_aux_lemma => kernel_rfl) (by as_aux_lemma => kernel_rfl) (by rfl) (fun W hSw => by (go_simp; try first | rfl | (rw [IntKind.wrap_i64]; omega) | (intro hh; exfalso; omega))) hHeld ?_
        try simp only [Act.put, List.setIfInBounds_toArray, List.set_cons_zero, List.set_cons_succ]
        refine takeH (i := 1) (d := 158) (.bool true) hq rfl rfl (by as_aux_lemma => kernel_rfl) (by as_aux_lemma => kernel_rfl) (by as_aux_lemma => kernel_rfl) (by rfl) (fun W hSw => by (go_simp; try first | rfl | (rw [IntKind.wrap_i64]; omega) | (intro hh; exfalso; omega))) hHeld ?_
        try simp only [Act.put, List.setIfInBounds_toArray, List.set_cons_zero, List.set_cons_succ]
        refine skipH (i := 2) (d := 159) hq rfl rfl (by as_aux_lemma => kernel_rfl) (by as_aux_lemma => kernel_rfl) (by as_aux_lemma => kernel_rfl) (by rfl) hHeld ?_
        try simp only [Act.put, List.setIfInBounds_toArray, List.set_cons_zero, List.set_cons_succ]
        refine skipH (i := 3) (d := 160) hq rfl rfl (by as_aux_lemma => kernel_rfl) (by as_aux_lemma => kernel_rfl) (by as_aux_lemma => kernel_rfl) (by rfl) hHeld ?_
        try simp only [Act.put, List.setIfInBounds_toArray, List.set_cons_zero, List.set_cons_succ]
        refine skipH (i := 4) (d := 161) hq rfl rfl (by as_aux_lemma => kernel_rfl) (by as_aux_lemma => kernel_rfl) (by as_aux_lemma => kernel_rfl) (by rfl) hHeld ?_
        try simp only [Act.put, List.setIfInBounds_toArray, List.set_cons_zero, List.set_cons_succ]
        refine skipH (i := 5) (d := 162) hq rfl rfl (by as_aux_lemma => kernel_rfl) (by as_aux_lemma => kernel_rfl) (by as_aux_lemma => kernel_rfl) (by rfl) hHeld ?_
        try simp only [Act.put, List.setIfInBounds_toArray, List.set_cons_zero, List.set_cons_succ]
        refine skipH (i := 6) (d := 163) hq rfl rfl (by as_aux_lemma => kernel_rfl) (by as_aux_lemma => kernel_rfl) (by as_aux_lemma => kernel_rfl) (by rfl) hHeld ?_
        try simp only [Act.put, List.setIfInBounds_toArray, List.set_cons_zero, List.set_cons_succ]
        refine skipH (i := 7) (d := 164) hq rfl rfl (by as_aux_lemma => kernel_rfl) (by as_aux_lemma => kernel_rfl) (by as_aux_lemma => kernel_rfl) (by rfl) hHeld ?_
        try simp only [Act.put, List.setIfInBounds_toArray, List.set_cons_zero, List.set_cons_succ]
        refine takeH (i := 8) (d := 165) (.bool true) hq rfl rfl (by as_aux_lemma => kernel_rfl) (by as_aux_lemma => kernel_rfl) (by as_aux_lemma => kernel_rfl) (by rfl) (fun W hSw => by (go_simp; try first | rfl | (rw [IntKind.wrap_i64]; omega) | (intro hh; exfalso; omega))) hHeld ?_
        try simp only [Act.put, List.setIfInBounds_toArray, List.set_cons_zero, List.set_cons_succ]
        refine takeH (i := 9) (d := 12) (.bool true) hq rfl rfl (by as_aux_lemma => kernel_rfl) (by as_aux_lemma => kernel_rfl) (by as_aux_lemma => kernel_rfl) (by rfl) (fun W hSw => by (go_simp; try first | rfl | (rw [IntKind.wrap_i64]; omega) | (intro hh; exfalso; omega))) hHeld ?_
        try simp only [Act.put, List.setIfInBounds_toArray, List.set_cons_zero, List.set_cons_succ]
        refine wpAnyH_done (by as_aux_lemma => kernel_rfl) ?_ _
        clear hHeld hq
        go_upto_region 18 with fail
        rcases i with - | j
        · as_aux_lemma =>
            refine beginH (S := fun V => Below wr.heap.size wr V) (fun _ _ _ _ _ h => h) (by as_aux_lemma => kernel_rfl) (belN (Below.refl _ _) 2) (fun hq hHeld => ?_)
            refine takeH (i := 0) (d := 166) _ hq rfl rfl (by as_aux_lemma => kernel_rfl) (by as_aux_lemma => kernel_rfl) (by as_aux_lemma => kernel_rfl) (by rfl) (fun W hSw => by (go_simp; try first | rfl | (rw [IntKind.wrap_i64]; omega) | (intro hh; exfalso; omega))) hHeld ?_
            try simp only [Act.put, List.setIfInBounds_toArray, List.set_cons_zero, List.set_cons_succ]
            refine takeH (i := 1) (d := 167) _ hq rfl rfl (by as_aux_lemma => kernel_rfl) (by as_aux_lemma => kernel_rfl) (by as_aux_lemma => kernel_rfl) (by rfl) (fun W hSw => by (go_simp; try first | rfl | (rw [IntKind.wrap_i64]; omega) | (intro hh; exfalso; omega))) hHeld ?_
            try simp only [Act.put, List.setIfInBounds_toArray, List.set_cons_zero, List.set_cons_succ]
            refine takeH (i := 2) (d := 168) (.pointer (some ⟨gl, 0, none⟩)) hq rfl rfl (by as_aux_lemma => kernel_rfl) (by as_aux_lemma => kernel_rfl) (by as_aux_lemma => kernel_rfl) (by rfl) (fun W hSw => by (go_simp; try first | rfl | (rw [IntKind.wrap_i64]; omega) | (intro hh; exfalso; omega))) hHeld ?_
            try simp only [Act.put, List.setIfInBounds_toArray, List.set_cons_zero, List.set_cons_succ]
            refine takeH (i := 3) (d := 169) (plV l (preA ga 0) 0 0) hq rfl rfl (by as_aux_lemma => kernel_rfl) (by as_aux_lemma => kernel_rfl) (by as_aux_lemma => kernel_rfl) (by rfl) (fun W hSw => by (obtain ⟨z0, z1, -⟩ := HPr.out _ hSw 0 I2.out; go_simp; try rfl)) hHeld ?_
            try simp only [Act.put, List.setIfInBounds_toArray, List.set_cons_zero, List.set_cons_succ]
            refine takeH (i := 4) (d := 170) (plV l pa m pcap) hq rfl rfl (by as_aux_lemma => kernel_rfl) (by as_aux_lemma => kernel_rfl) (by as_aux_lemma => kernel_rfl) (by rfl) (fun W hSw => by (obtain ⟨z0, z1, -, -, -, -⟩ := (HTr.out.bel hSw).cells; go_simp; try rfl)) hHeld ?_
            try simp only [Act.put, List.setIfInBounds_toArray, List.set_cons_zero, List.set_cons_succ]
            refine wpAnyH_ready (rs := [5]) (by as_aux_lemma => kernel_rfl) (by simp) ?_
            refine AllReadyH.cons rfl (fun K hK => ?_) AllReadyH.nil
            go_simp
            refine (CLP.out _ ga 0 (HTr.out.bel (belN (Below.refl _ _) 2)) (HPr.out _ (belN (Below.refl _ _) 2) 0 I2.out).2.2).mono ?_
            rintro e v3 ⟨rfl, hb3⟩
            have hS3 : Below wr.heap.size wr v3 := below_aft (belN (Below.refl _ _) 2) hb3
            go_wp2_with fail
            refine hK.out _ _ hS3 (fun hHeld => ?_)
            clear hK K
            try simp only [Act.put, List.setIfInBounds_toArray, List.set_cons_zero, List.set_cons_succ]
            have HS3 := hidD hS3
            clear hb3 hS3
            refine takeH (i := 6) (d := 172) (.bool false) hq rfl rfl (by as_aux_lemma => kernel_rfl) (by as_aux_lemma => kernel_rfl) (by as_aux_lemma => kernel_rfl) (by rfl) (fun W hSw => by (go_simp; try first | rfl | (rw [IntKind.wrap_i64]; omega) | (intro hh; exfalso; omega))) hHeld ?_
            try simp only [Act.put, List.setIfInBounds_toArray, List.set_cons_zero, List.set_cons_succ]
            refine takeH (i := 7) (d := 173) (.bool false) hq rfl rfl (by as_aux_lemma => kernel_rfl) (by as_aux_lemma => kernel_rfl) (by as_aux_lemma => kernel_rfl) (by rfl) (fun W hSw => by (go_simp; try first | rfl | (rw [IntKind.wrap_i64]; omega) | (intro hh; exfalso; omega))) hHeld ?_
            try simp only [Act.put, List.setIfInBounds_toArray, List.set_cons_zero, List.set_cons_succ]
            refine takeH (i := 8) (d := 174) _ hq rfl rfl (by as_aux_lemma => kernel_rfl) (by as_aux_lemma => kernel_rfl) (by as_aux_lemma => kernel_rfl) (by rfl) (fun W hSw => by (go_simp; try first | rfl | (rw [IntKind.wrap_i64]; omega) | (intro hh; exfalso; omega))) hHeld ?_
            try simp only [Act.put, List.setIfInBounds_toArray, List.set_cons_zero, List.set_cons_succ]
            refine takeH (i := 9) (d := 175) (.bool false) hq rfl rfl (by as_aux_lemma => kernel_rfl) (by as_aux_lemma => kernel_rfl) (by as_aux_lemma => kernel_rfl) (by rfl) (fun W hSw => by (go_simp; try first | rfl | (rw [IntKind.wrap_i64]; omega) | (intro hh; exfalso; omega))) hHeld ?_
            try simp only [Act.put, List.setIfInBounds_toArray, List.set_cons_zero, List.set_cons_succ]
            refine takeH (i := 10) (d := 176) (.bool false) hq rfl rfl (by as_aux_lemma => kernel_rfl) (by as_aux_lemma => kernel_rfl) (by as_aux_lemma => kernel_rfl) (by rfl) (fun W hSw => by (go_simp; try first | rfl | (rw [IntKind.wrap_i64]; omega) | (intro hh; exfalso; omega))) hHeld ?_
            try simp only [Act.put, List.setIfInBounds_toArray, List.set_cons_zero, List.set_cons_succ]
            refine skipH (i := 11) (d := 177) hq rfl rfl (by as_aux_lemma => kernel_rfl) (by as_aux_lemma => kernel_rfl) (by as_aux_lemma => kernel_rfl) (by rfl) hHeld ?_
            try simp only [Act.put, List.setIfInBounds_toArray, List.set_cons_zero, List.set_cons_succ]
            refine skipH (i := 12) (d := 178) hq rfl rfl (by as_aux_lemma => kernel_rfl) (by as_aux_lemma => kernel_rfl) (by as_aux_lemma => kernel_rfl) (by rfl) hHeld ?_
            try simp only [Act.put, List.setIfInBounds_toArray, List.set_cons_zero, List.set_cons_succ]
            refine skipH (i := 13) (d := 179) hq rfl rfl (by as_aux_lemma => kernel_rfl) (by as_aux_lemma => kernel_rfl) (by as_aux_lemma => kernel_rfl) (by rfl) hHeld ?_
            try simp only [Act.put, List.setIfInBounds_toArray, List.set_cons_zero, List.set_cons_succ]
            refine skipH (i := 14) (d := 180) hq rfl rfl (by as_aux_lemma => kernel_rfl) (by as_aux_lemma => kernel_rfl) (by as_aux_lemma => kernel_rfl) (by rfl) hHeld ?_
            try simp only [Act.put, List.setIfInBounds_toArray, List.set_cons_zero, List.set_cons_succ]
            refine skipH (i := 15) (d := 181) hq rfl rfl (by as_aux_lemma => kernel_rfl) (by as_aux_lemma => kernel_rfl) (by as_aux_lemma => kernel_rfl) (by rfl) hHeld ?_
            try simp only [Act.put, List.setIfInBounds_toArray, List.set_cons_zero, List.set_cons_succ]
            refine skipH (i := 16) (d := 182) hq rfl rfl (by as_aux_lemma => kernel_rfl) (by as_aux_lemma => kernel_rfl) (by as_aux_lemma => kernel_rfl) (by rfl) hHeld ?_
            try simp only [Act.put, List.setIfInBounds_toArray, List.set_cons_zero, List.set_cons_succ]
            refine skipH (i := 17) (d := 183) hq rfl rfl (by as_aux_lemma => kernel_rfl) (by as_aux_lemma => kernel_rfl) (by as_aux_lemma => kernel_rfl) (by rfl) hHeld ?_
            try simp only [Act.put, List.setIfInBounds_toArray, List.set_cons_zero, List.set_cons_succ]
            refine skipH (i := 18) (d := 184) hq rfl rfl (by as_aux_lemma => kernel_rfl) (by as_aux_lemma => kernel_rfl) (by as_aux_lemma => kernel_rfl) (by rfl) hHeld ?_
            try simp only [Act.put, List.setIfInBounds_toArray, List.set_cons_zero, List.set_cons_succ]
            refine skipH (i := 19) (d := 185) hq rfl rfl (by as_aux_lemma => kernel_rfl) (by as_aux_lemma => kernel_rfl) (by as_aux_lemma => kernel_rfl) (by rfl) hHeld ?_
            try simp only [Act.put, List.setIfInBounds_toArray, List.set_cons_zero, List.set_cons_succ]
            refine skipH (i := 20) (d := 186) hq rfl rfl (by as_aux_lemma => kernel_rfl) (by as_aux_lemma => kernel_rfl) (by as_aux_lemma => kernel_rfl) (by rfl) hHeld ?_
            try simp only [Act.put, List.setIfInBounds_toArray, List.set_cons_zero, List.set_cons_succ]
            refine skipH (i := 21) (d := 187) hq rfl rfl (by as_aux_lemma => kernel_rfl) (by as_aux_lemma => kernel_rfl) (by as_aux_lemma => kernel_rfl) (by rfl) hHeld ?_
            try simp only [Act.put, List.setIfInBounds_toArray, List.set_cons_zero, List.set_cons_succ]
            refine skipH (i := 22) (d := 188) hq rfl rfl (by as_aux_lemma => kernel_rfl) (by as_aux_lemma => kernel_rfl) (by as_aux_lemma => kernel_rfl) (by rfl) hHeld ?_
            try simp only [Act.put, List.setIfInBounds_toArray, List.set_cons_zero, List.set_cons_succ]
            refine skipH (i := 23) (d := 189) hq rfl rfl (by as_aux_lemma => kernel_rfl) (by as_aux_lemma => kernel_rfl) (by as_aux_lemma => kernel_rfl) (by rfl) hHeld ?_
            try simp only [Act.put, List.setIfInBounds_toArray, List.set_cons_zero, List.set_cons_succ]
            refine skipH (i := 24) (d := 190) hq rfl rfl (by as_aux_lemma => kernel_rfl) (by as_aux_lemma => kernel_rfl) (by as_aux_lemma => kernel_rfl) (by rfl) hHeld ?_
            try simp only [Act.put, List.setIfInBounds_toArray, List.set_cons_zero, List.set_cons_succ]
            refine skipH (i := 25) (d := 191) hq rfl rfl (by as_aux_lemma => kernel_rfl) (by as_aux_lemma => kernel_rfl) (by as_aux_lemma => kernel_rfl) (by rfl) hHeld ?_
            try simp only [Act.put, List.setIfInBounds_toArray, List.set_cons_zero, List.set_cons_succ]
            refine skipH (i := 26) (d := 192) hq rfl rfl (by as_aux_lemma => kernel_rfl) (by as_aux_lemma => kernel_rfl) (by as_aux_lemma => kernel_rfl) (by rfl) hHeld ?_
            try simp only [Act.put, List.setIfInBounds_toArray, List.set_cons_zero, List.set_cons_succ]
            refine skipH (i := 27) (d := 193) hq rfl rfl (by as_aux_lemma => kernel_rfl) (by as_aux_lemma => kernel_rfl) (by as_aux_lemma => kernel_rfl) (by rfl) hHeld ?_
            try simp only [Act.put, List.setIfInBounds_toArray, List.set_cons_zero, List.set_cons_succ]
            refine skipH (i := 28) (d := 194) hq rfl rfl (by as_aux_lemma => kernel_rfl) (by as_aux_lemma => kernel_rfl) (by as_aux_lemma => kernel_rfl) (by rfl) hHeld ?_
            try simp only [Act.put, List.setIfInBounds_toArray, List.set_cons_zero, List.set_cons_succ]
            refine skipH (i := 29) (d := 195) hq rfl rfl (by as_aux_lemma => kernel_rfl) (by as_aux_lemma => kernel_rfl) (by as_aux_lemma => kernel_rfl) (by rfl) hHeld ?_
            try simp only [Act.put, List.setIfInBounds_toArray, List.set_cons_zero, List.set_cons_succ]
            refine skipH (i := 30) (d := 196) hq rfl rfl (by as_aux_lemma => kernel_rfl) (by as_aux_lemma => kernel_rfl) (by as_aux_lemma => kernel_rfl) (by rfl) hHeld ?_
            try simp only [Act.put, List.setIfInBounds_toArray, List.set_cons_zero, List.set_cons_succ]
            refine skipH (i := 31) (d := 197) hq rfl rfl (by as_aux_lemma => kernel_rfl) (by as_aux_lemma => kernel_rfl) (by as_aux_lemma => kernel_rfl) (by rfl) hHeld ?_
            try simp only [Act.put, List.setIfInBounds_toArray, List.set_cons_zero, List.set_cons_succ]
            refine skipH (i := 32) (d := 198) hq rfl rfl (by as_aux_lemma => kernel_rfl) (by as_aux_lemma => kernel_rfl) (by as_aux_lemma => kernel_rfl) (by rfl) hHeld ?_
            try simp only [Act.put, List.setIfInBounds_toArray, List.set_cons_zero, List.set_cons_succ]
            refine skipH (i := 33) (d := 199) hq rfl rfl (by as_aux_lemma => kernel_rfl) (by as_aux_lemma => kernel_rfl) (by as_aux_lemma => kernel_rfl) (by rfl) hHeld ?_
            try simp only [Act.put, List.setIfInBounds_toArray, List.set_cons_zero, List.set_cons_succ]
            refine skipH (i := 34) (d := 200) hq rfl rfl (by as_aux_lemma => kernel_rfl) (by as_aux_lemma => kernel_rfl) (by as_aux_lemma => kernel_rfl) (by rfl) hHeld ?_
            try simp only [Act.put, List.setIfInBounds_toArray, List.set_cons_zero, List.set_cons_succ]
            refine takeH (i := 35) (d := 201) (.bool false) hq rfl rfl (by as_aux_lemma => kernel_rfl) (by as_aux_lemma => kernel_rfl) (by as_aux_lemma => kernel_rfl) (by rfl) (fun W hSw => by (go_simp; try first | rfl | (rw [IntKind.wrap_i64]; omega) | (intro hh; exfalso; omega))) hHeld ?_
            try simp only [Act.put, List.setIfInBounds_toArray, List.set_cons_zero, List.set_cons_succ]
            refine takeH (i := 36) (d := 202) (.bool false) hq rfl rfl (by as_aux_lemma => kernel_rfl) (by as_aux_lemma => kernel_rfl) (by as_aux_lemma => kernel_rfl) (by rfl) (fun W hSw => by (go_simp; try first | rfl | (rw [IntKind.wrap_i64]; omega) | (intro hh; exfalso; omega))) hHeld ?_
            try simp only [Act.put, List.setIfInBounds_toArray, List.set_cons_zero, List.set_cons_succ]
            refine wpAnyH_done (by as_aux_lemma => kernel_rfl) ?_ _
            go_wp2_with fail
            refine ⟨⟨0 + 1, true, hlt, rfl, rfl, HN.out, below_aft HBr.out HS3.out⟩, ?_⟩
            show m + 1 - ((0 : Int) + 1).toNat < m + 1 - (0 : Int).toNat
            omega
        · as_aux_lemma =>
            have j0 : (0 : Int) ≤ (j : Int) := by omega
            have j1 : (j : Int) < (m : Int) := by have := I2.out; omega
            have j2 : (0 : Int) < (j : Int) + 1 := by omega
            refine beginH (S := fun V => Below wr.heap.size wr V) (fun _ _ _ _ _ h => h) (by as_aux_lemma => kernel_rfl) (belN (Below.refl _ _) 2) (fun hq hHeld => ?_)
            refine takeH (i := 0) (d := 166) _ hq rfl rfl (by as_aux_lemma => kernel_rfl) (by as_aux_lemma => kernel_rfl) (by as_aux_lemma => kernel_rfl) (by rfl) (fun W hSw => by (go_simp; try first | rfl | (rw [IntKind.wrap_i64]; omega) | (intro hh; exfalso; omega))) hHeld ?_
            try simp only [Act.put, List.setIfInBounds_toArray, List.set_cons_zero, List.set_cons_succ]
            refine takeH (i := 1) (d := 167) _ hq rfl rfl (by as_aux_lemma => kernel_rfl) (by as_aux_lemma => kernel_rfl) (by as_aux_lemma => kernel_rfl) (by rfl) (fun W hSw => by (go_simp; try first | rfl | (rw [IntKind.wrap_i64]; omega) | (intro hh; exfalso; omega))) hHeld ?_
            try simp only [Act.put, List.setIfInBounds_toArray, List.set_cons_zero, List.set_cons_succ]
            refine takeH (i := 2) (d := 168) (.pointer (some ⟨gl, (j + 1) * 2, none⟩)) hq rfl rfl (by as_aux_lemma => kernel_rfl) (by as_aux_lemma => kernel_rfl) (by as_aux_lemma => kernel_rfl) (by rfl) (fun W hSw => by (go_simp; try first | rfl | (rw [IntKind.wrap_i64]; omega) | (intro hh; exfalso; omega))) hHeld ?_
            try simp only [Act.put, List.setIfInBounds_toArray, List.set_cons_zero, List.set_cons_succ]
            refine takeH (i := 3) (d := 169) (plV l (preA ga (j + 1)) (j + 1) (j + 1)) hq rfl rfl (by as_aux_lemma => kernel_rfl) (by as_aux_lemma => kernel_rfl) (by as_aux_lemma => kernel_rfl) (by rfl) (fun W hSw => by (obtain ⟨z0, z1, -⟩ := HPr.out _ hSw (j + 1) I2.out; go_simp; try rfl)) hHeld ?_
            try simp only [Act.put, List.setIfInBounds_toArray, List.set_cons_zero, List.set_cons_succ]
            refine takeH (i := 4) (d := 170) (plV l pa m pcap) hq rfl rfl (by as_aux_lemma => kernel_rfl) (by as_aux_lemma => kernel_rfl) (by as_aux_lemma => kernel_rfl) (by rfl) (fun W hSw => by (obtain ⟨z0, z1, -, -, -, -⟩ := (HTr.out.bel hSw).cells; go_simp; try rfl)) hHeld ?_
            try simp only [Act.put, List.setIfInBounds_toArray, List.set_cons_zero, List.set_cons_succ]
            refine wpAnyH_ready (rs := [5]) (by as_aux_lemma => kernel_rfl) (by simp) ?_
            refine AllReadyH.cons rfl (fun K hK => ?_) AllReadyH.nil
            go_simp
            refine (CLP.out _ ga (j + 1) (HTr.out.bel (belN (Below.refl _ _) 2)) (HPr.out _ (belN (Below.refl _ _) 2) (j + 1) I2.out).2.2).mono ?_
            rintro e v3 ⟨rfl, hb3⟩
            have hS3 : Below wr.heap.size wr v3 := below_aft (belN (Below.refl _ _) 2) hb3
            go_wp2_with fail
            refine hK.out _ _ hS3 (fun hHeld => ?_)
            clear hK K
            try simp only [Act.put, List.setIfInBounds_toArray, List.set_cons_zero, List.set_cons_succ]
            have HS3 := hidD hS3
            clear hb3 hS3
            refine takeH (i := 6) (d := 172) (.bool false) hq rfl rfl (by as_aux_lemma => kernel_rfl) (by as_aux_lemma => kernel_rfl) (by as_aux_lemma => kernel_rfl) (by rfl) (fun W hSw => by (go_simp; try first | rfl | (rw [IntKind.wrap_i64]; omega) | (intro hh; exfalso; omega))) hHeld ?_
            try simp only [Act.put, List.setIfInBounds_toArray, List.set_cons_zero, List.set_cons_succ]
            refine takeH (i := 7) (d := 173) (.bool false) hq rfl rfl (by as_aux_lemma => kernel_rfl) (by as_aux_lemma => kernel_rfl) (by as_aux_lemma => kernel_rfl) (by rfl) (fun W hSw => by (go_simp; try first | rfl | (rw [IntKind.wrap_i64]; omega) | (intro hh; exfalso; omega))) hHeld ?_
            try simp only [Act.put, List.setIfInBounds_toArray, List.set_cons_zero, List.set_cons_succ]
            refine takeH (i := 8) (d := 174) _ hq rfl rfl (by as_aux_lemma => kernel_rfl) (by as_aux_lemma => kernel_rfl) (by as_aux_lemma => kernel_rfl) (by rfl) (fun W hSw => by (go_simp; try first | rfl | (rw [IntKind.wrap_i64]; omega) | (intro hh; exfalso; omega))) hHeld ?_
            try simp only [Act.put, List.setIfInBounds_toArray, List.set_cons_zero, List.set_cons_succ]
            refine takeH (i := 9) (d := 175) (.bool true) hq rfl rfl (by as_aux_lemma => kernel_rfl) (by as_aux_lemma => kernel_rfl) (by as_aux_lemma => kernel_rfl) (by rfl) (fun W hSw => by (go_simp; try first | rfl | (rw [IntKind.wrap_i64]; omega) | (intro hh; exfalso; omega))) hHeld ?_
            try simp only [Act.put, List.setIfInBounds_toArray, List.set_cons_zero, List.set_cons_succ]
            refine takeH (i := 10) (d := 176) (.bool true) hq rfl rfl (by as_aux_lemma => kernel_rfl) (by as_aux_lemma => kernel_rfl) (by as_aux_lemma => kernel_rfl) (by rfl) (fun W hSw => by (go_simp; try first | rfl | (rw [IntKind.wrap_i64]; omega) | (intro hh; exfalso; omega))) hHeld ?_
            try simp only [Act.put, List.setIfInBounds_toArray, List.set_cons_zero, List.set_cons_succ]
            refine takeH (i := 11) (d := 177) _ hq rfl rfl (by as_aux_lemma => kernel_rfl) (by as_aux_lemma => kernel_rfl) (by as_aux_lemma => kernel_rfl) (by rfl) (fun W hSw => by (go_simp; try first | rfl | (rw [IntKind.wrap_i64]; omega) | (intro hh; exfalso; omega))) hHeld ?_
            try simp only [Act.put, List.setIfInBounds_toArray, List.set_cons_zero, List.set_cons_succ]
            refine takeH (i := 12) (d := 178) _ hq rfl rfl (by as_aux_lemma => kernel_rfl) (by as_aux_lemma => kernel_rfl) (by as_aux_lemma => kernel_rfl) (by rfl) (fun W hSw => by (go_simp; try first | rfl | (rw [IntKind.wrap_i64]; omega) | (intro hh; exfalso; omega))) hHeld ?_
            try simp only [Act.put, List.setIfInBounds_toArray, List.set_cons_zero, List.set_cons_succ]
            refine takeH (i := 13) (d := 179) (.int .i64 (j : Int)) hq rfl rfl (by as_aux_lemma => kernel_rfl) (by as_aux_lemma => kernel_rfl) (by as_aux_lemma => kernel_rfl) (by rfl) (fun W hSw => by (go_simp; try first | rfl | (rw [IntKind.wrap_i64]; omega) | (intro hh; exfalso; omega))) hHeld ?_
            try simp only [Act.put, List.setIfInBounds_toArray, List.set_cons_zero, List.set_cons_succ]
            refine takeH (i := 14) (d := 180) (.pointer (some ⟨gl, j * 2, none⟩)) hq rfl rfl (by as_aux_lemma => kernel_rfl) (by as_aux_lemma => kernel_rfl) (by as_aux_lemma => kernel_rfl) (by rfl) (fun W hSw => by (go_simp; try first | rfl | (rw [IntKind.wrap_i64]; omega) | (intro hh; exfalso; omega))) hHeld ?_
            try simp only [Act.put, List.setIfInBounds_toArray, List.set_cons_zero, List.set_cons_succ]
            refine takeH (i := 15) (d := 181) (plV l (preA ga j) j j) hq rfl rfl (by as_aux_lemma => kernel_rfl) (by as_aux_lemma => kernel_rfl) (by as_aux_lemma => kernel_rfl) (by rfl) (fun W hSw => by (obtain ⟨z0, z1, -⟩ := HPr.out _ hSw j (Nat.le_of_succ_le I2.out); go_simp; try rfl)) hHeld ?_
            try simp only [Act.put, List.setIfInBounds_toArray, List.set_cons_zero, List.set_cons_succ]
            refine takeH (i := 16) (d := 182) _ hq rfl rfl (by as_aux_lemma => kernel_rfl) (by as_aux_lemma => kernel_rfl) (by as_aux_lemma => kernel_rfl) (by rfl) (fun W hSw => by (go_simp; try first | rfl | (rw [IntKind.wrap_i64]; omega) | (intro hh; exfalso; omega))) hHeld ?_
            try simp only [Act.put, List.setIfInBounds_toArray, List.set_cons_zero, List.set_cons_succ]
            refine takeH (i := 17) (d := 183) _ hq rfl rfl (by as_aux_lemma => kernel_rfl) (by as_aux_lemma => kernel_rfl) (by as_aux_lemma => kernel_rfl) (by rfl) (fun W hSw => by (go_simp; try first | rfl | (rw [IntKind.wrap_i64]; omega) | (intro hh; exfalso; omega))) hHeld ?_
            try simp only [Act.put, List.setIfInBounds_toArray, List.set_cons_zero, List.set_cons_succ]
            refine takeH (i := 18) (d := 184) (.pointer (some ⟨gl, (j + 1) * 2, none⟩)) hq rfl rfl (by as_aux_lemma => kernel_rfl) (by as_aux_lemma => kernel_rfl) (by as_aux_lemma => kernel_rfl) (by rfl) (fun W hSw => by (go_simp; try first | rfl | (rw [IntKind.wrap_i64]; omega) | (intro hh; exfalso; omega))) hHeld ?_
            try simp only [Act.put, List.setIfInBounds_toArray, List.set_cons_zero, List.set_cons_succ]
            refine takeH (i := 19) (d := 185) (plV l (preA ga (j + 1)) (j + 1) (j + 1)) hq rfl rfl (by as_aux_lemma => kernel_rfl) (by as_aux_lemma => kernel_rfl) (by as_aux_lemma => kernel_rfl) (by rfl) (fun W hSw => by (obtain ⟨z0, z1, -⟩ := HPr.out _ hSw (j + 1) I2.out; go_simp; try rfl)) hHeld ?_
            try simp only [Act.put, List.setIfInBounds_toArray, List.set_cons_zero, List.set_cons_succ]
            refine wpAnyH_ready (rs := [20]) (by as_aux_lemma => kernel_rfl) (by simp) ?_
            refine AllReadyH.cons rfl (fun K hK => ?_) AllReadyH.nil
            go_simp
            refine (CLL.out _ ga j (HPr.out _ HS3.out j (Nat.le_of_succ_le I2.out)).2.2 (HPr.out _ HS3.out (j + 1) I2.out).2.2).mono ?_
            rintro e v4 ⟨rfl, hb4⟩
            have hS4 : Below wr.heap.size wr v4 := below_aft HS3.out hb4
            go_wp2_with fail
            refine hK.out _ _ hS4 (fun hHeld => ?_)
            clear hK K
            try simp only [Act.put, List.setIfInBounds_toArray, List.set_cons_zero, List.set_cons_succ]
            have HS4 := hidD hS4
            clear hb4 hS4
            refine takeH (i := 21) (d := 187) (.bool false) hq rfl rfl (by as_aux_lemma => kernel_rfl) (by as_aux_lemma => kernel_rfl) (by as_aux_lemma => kernel_rfl) (by rfl) (fun W hSw => by (go_simp; try first | rfl | (rw [IntKind.wrap_i64]; omega) | (intro hh; exfalso; omega))) hHeld ?_
            try simp only [Act.put, List.setIfInBounds_toArray, List.set_cons_zero, List.set_cons_succ]
            refine takeH (i := 22) (d := 188) (.bool false) hq rfl rfl (by as_aux_lemma => kernel_rfl) (by as_aux_lemma => kernel_rfl) (by as_aux_lemma => kernel_rfl) (by rfl) (fun W hSw => by (go_simp; try first | rfl | (rw [IntKind.wrap_i64]; omega) | (intro hh; exfalso; omega))) hHeld ?_
            try simp only [Act.put, List.setIfInBounds_toArray, List.set_cons_zero, List.set_cons_succ]
            refine takeH (i := 23) (d := 189) _ hq rfl rfl (by as_aux_lemma => kernel_rfl) (by as_aux_lemma => kernel_rfl) (by as_aux_lemma => kernel_rfl) (by rfl) (fun W hSw => by (go_simp; try first | rfl | (rw [IntKind.wrap_i64]; omega) | (intro hh; exfalso; omega))) hHeld ?_
            try simp only [Act.put, List.setIfInBounds_toArray, List.set_cons_zero, List.set_cons_succ]
            refine takeH (i := 24) (d := 190) _ hq rfl rfl (by as_aux_lemma => kernel_rfl) (by as_aux_lemma => kernel_rfl) (by as_aux_lemma => kernel_rfl) (by rfl) (fun W hSw => by (go_simp; try first | rfl | (rw [IntKind.wrap_i64]; omega) | (intro hh; exfalso; omega))) hHeld ?_
            try simp only [Act.put, List.setIfInBounds_toArray, List.set_cons_zero, List.set_cons_succ]
            refine takeH (i := 25) (d := 191) (.int .i64 (j : Int)) hq rfl rfl (by as_aux_lemma => kernel_rfl) (by as_aux_lemma => kernel_rfl) (by as_aux_lemma => kernel_rfl) (by rfl) (fun W hSw => by (go_simp; try first | rfl | (rw [IntKind.wrap_i64]; omega) | (intro hh; exfalso; omega))) hHeld ?_
            try simp only [Act.put, List.setIfInBounds_toArray, List.set_cons_zero, List.set_cons_succ]
            refine takeH (i := 26) (d := 192) (.pointer (some ⟨gl, j * 2, none⟩)) hq rfl rfl (by as_aux_lemma => kernel_rfl) (by as_aux_lemma => kernel_rfl) (by as_aux_lemma => kernel_rfl) (by rfl) (fun W hSw => by (go_simp; try first | rfl | (rw [IntKind.wrap_i64]; omega) | (intro hh; exfalso; omega))) hHeld ?_
            try simp only [Act.put, List.setIfInBounds_toArray, List.set_cons_zero, List.set_cons_succ]
            refine takeH (i := 27) (d := 193) (plV l (preA ga j) j j) hq rfl rfl (by as_aux_lemma => kernel_rfl) (by as_aux_lemma => kernel_rfl) (by as_aux_lemma => kernel_rfl) (by rfl) (fun W hSw => by (obtain ⟨z0, z1, -⟩ := HPr.out _ hSw j (Nat.le_of_succ_le I2.out); go_simp; try rfl)) hHeld ?_
            try simp only [Act.put, List.setIfInBounds_toArray, List.set_cons_zero, List.set_cons_succ]
            refine takeH (i := 28) (d := 194) _ hq rfl rfl (by as_aux_lemma => kernel_rfl) (by as_aux_lemma => kernel_rfl) (by as_aux_lemma => kernel_rfl) (by rfl) (fun W hSw => by (go_simp; try first | rfl | (rw [IntKind.wrap_i64]; omega) | (intro hh; exfalso; omega))) hHeld ?_
            try simp only [Act.put, List.setIfInBounds_toArray, List.set_cons_zero, List.set_cons_succ]
            refine takeH (i := 29) (d := 195) _ hq rfl rfl (by as_aux_lemma => kernel_rfl) (by as_aux_lemma => kernel_rfl) (by as_aux_lemma => kernel_rfl) (by rfl) (fun W hSw => by (go_simp; try first | rfl | (rw [IntKind.wrap_i64]; omega) | (intro hh; exfalso; omega))) hHeld ?_
            try simp only [Act.put, List.setIfInBounds_toArray, List.set_cons_zero, List.set_cons_succ]
            refine takeH (i := 30) (d := 196) (.pointer (some ⟨gl, (j + 1) * 2, none⟩)) hq rfl rfl (by as_aux_lemma => kernel_rfl) (by as_aux_lemma => kernel_rfl) (by as_aux_lemma => kernel_rfl) (by rfl) (fun W hSw => by (go_simp; try first | rfl | (rw [IntKind.wrap_i64]; omega) | (intro hh; exfalso; omega))) hHeld ?_
            try simp only [Act.put, List.setIfInBounds_toArray, List.set_cons_zero, List.set_cons_succ]
            refine takeH (i := 31) (d := 197) (plV l (preA ga (j + 1)) (j + 1) (j + 1)) hq rfl rfl (by as_aux_lemma => kernel_rfl) (by as_aux_lemma => kernel_rfl) (by as_aux_lemma => kernel_rfl) (by rfl) (fun W hSw => by (obtain ⟨z0, z1, -⟩ := HPr.out _ hSw (j + 1) I2.out; go_simp; try rfl)) hHeld ?_
            try simp only [Act.put, List.setIfInBounds_toArray, List.set_cons_zero, List.set_cons_succ]
            refine wpAnyH_ready (rs := [32]) (by as_aux_lemma => kernel_rfl) (by simp) ?_
            refine AllReadyH.cons rfl (fun K hK => ?_) AllReadyH.nil
            go_simp
            refine (COL.out _ ga j I2.out (HPr.out _ HS4.out j (Nat.le_of_succ_le I2.out)).2.2 (HPr.out _ HS4.out (j + 1) I2.out).2.2).mono ?_
            rintro e v5 ⟨rfl, hb5⟩
            have hS5 : Below wr.heap.size wr v5 := below_aft HS4.out hb5
            go_wp2_with fail
            refine hK.out _ _ hS5 (fun hHeld => ?_)
            clear hK K
            try simp only [Act.put, List.setIfInBounds_toArray, List.set_cons_zero, List.set_cons_succ]
            have HS5 := hidD hS5
            clear hb5 hS5
            refine takeH (i := 33) (d := 199) (.bool false) hq rfl rfl (by as_aux_lemma => kernel_rfl) (by as_aux_lemma => kernel_rfl) (by as_aux_lemma => kernel_rfl) (by rfl) (fun W hSw => by (go_simp; try first | rfl | (rw [IntKind.wrap_i64]; omega) | (intro hh; exfalso; omega))) hHeld ?_
            try simp only [Act.put, List.setIfInBounds_toArray, List.set_cons_zero, List.set_cons_succ]
            refine takeH (i := 34) (d := 200) (.bool false) hq rfl rfl (by as_aux_lemma => kernel_rfl) (by as_aux_lemma => kernel_rfl) (by as_aux_lemma => kernel_rfl) (by rfl) (fun W hSw => by (go_simp; try first | rfl | (rw [IntKind.wrap_i64]; omega) | (intro hh; exfalso; omega))) hHeld ?_
            try simp only [Act.put, List.setIfInBounds_toArray, List.set_cons_zero, List.set_cons_succ]
            refine takeH (i := 35) (d := 201) (.bool false) hq rfl rfl (by as_aux_lemma => kernel_rfl) (by as_aux_lemma => kernel_rfl) (by as_aux_lemma => kernel_rfl) (by rfl) (fun W hSw => by (go_simp; try first | rfl | (rw [IntKind.wrap_i64]; omega) | (intro hh; exfalso; omega))) hHeld ?_
            try simp only [Act.put, List.setIfInBounds_toArray, List.set_cons_zero, List.set_cons_succ]
            refine takeH (i := 36) (d := 202) (.bool false) hq rfl rfl (by as_aux_lemma => kernel_rfl) (by as_aux_lemma => kernel_rfl) (by as_aux_lemma => kernel_rfl) (by rfl) (fun W hSw => by (go_simp; try first | rfl | (rw [IntKind.wrap_i64]; omega) | (intro hh; exfalso; omega))) hHeld ?_
            try simp only [Act.put, List.setIfInBounds_toArray, List.set_cons_zero, List.set_cons_succ]
            refine wpAnyH_done (by as_aux_lemma => kernel_rfl) ?_ _
            go_wp2_with fail
            refine ⟨⟨j + 1 + 1, true, hlt, rfl, rfl, HN.out, below_aft HBr.out HS5.out⟩, ?_⟩
            show m + 1 - (((j : Int) + 1 : Int) + 1).toNat < m + 1 - ((j : Int) + 1 : Int).toNat
            omega
      | false =>
        refine beginH (S := fun V => Below wr.heap.size wr V) (fun _ _ _ _ _ h => h) (by as_aux_lemma => kernel_rfl) (belN (Below.refl _ _) 1) (fun hq hHeld => ?_)
        refine takeH (i := 0) (d := 157) (.bool false) hq rfl rfl (by as_aux_lemma => kernel_rfl) (by as_aux_lemma => kernel_rfl) (by as_aux_lemma => kernel_rfl) (by rfl) (fun W hSw => by (go_simp; try first | rfl | (rw [IntKind.wrap_i64]; omega) | (intro hh; exfalso; omega))) hHeld ?_
        try simp only [Act.put, List.setIfInBounds_toArray, List.set_cons_zero, List.set_cons_succ]
        refine takeH (i := 1) (d := 158) (.bool false) hq rfl rfl (by as_aux_lemma => kernel_rfl) (by as_aux_lemma => kernel_rfl) (by as_aux_lemma => kernel_rfl) (by rfl) (fun W hSw => by (go_simp; try first | rfl | (rw [IntKind.wrap_i64]; omega) | (intro hh; exfalso; omega))) hHeld ?_
        try simp only [Act.put, List.setIfInBounds_toArray, List.set_cons_zero, List.set_cons_succ]
        refine takeH (i := 2) (d := 159) _ hq rfl rfl (by as_aux_lemma => kernel_rfl) (by as_aux_lemma => kernel_rfl) (by as_aux_lemma => kernel_rfl) (by rfl) (fun W hSw => by (go_simp; try first | rfl | (rw [IntKind.wrap_i64]; omega) | (intro hh; exfalso; omega))) hHeld ?_
        try simp only [Act.put, List.setIfInBounds_toArray, List.set_cons_zero, List.set_cons_succ]
        refine takeH (i := 3) (d := 160) _ hq rfl rfl (by as_aux_lemma => kernel_rfl) (by as_aux_lemma => kernel_rfl) (by as_aux_lemma => kernel_rfl) (by rfl) (fun W hSw => by (go_simp; try first | rfl | (rw [IntKind.wrap_i64]; omega) | (intro hh; exfalso; omega))) hHeld ?_
        try simp only [Act.put, List.setIfInBounds_toArray, List.set_cons_zero, List.set_cons_succ]
        refine takeH (i := 4) (d := 161) (.pointer (some ⟨gl, i * 2, none⟩)) hq rfl rfl (by as_aux_lemma => kernel_rfl) (by as_aux_lemma => kernel_rfl) (by as_aux_lemma => kernel_rfl) (by rfl) (fun W hSw => by (go_simp; try first | rfl | (rw [IntKind.wrap_i64]; omega) | (intro hh; exfalso; omega))) hHeld ?_
        try simp only [Act.put, List.setIfInBounds_toArray, List.set_cons_zero, List.set_cons_succ]
        refine takeH (i := 5) (d := 162) (plV l (preA ga i) i i) hq rfl rfl (by as_aux_lemma => kernel_rfl) (by as_aux_lemma => kernel_rfl) (by as_aux_lemma => kernel_rfl) (by rfl) (fun W hSw => by (obtain ⟨z0, z1, -⟩ := HPr.out _ hSw i I2.out; go_simp; try rfl)) hHeld ?_
        try simp only [Act.put, List.setIfInBounds_toArray, List.set_cons_zero, List.set_cons_succ]
        refine takeH (i := 6) (d := 163) (plV l2 qa m2 qcap) hq rfl rfl (by as_aux_lemma => kernel_rfl) (by as_aux_lemma => kernel_rfl) (by as_aux_lemma => kernel_rfl) (by rfl) (fun W hSw => by (obtain ⟨-, -, z0, z1, -, -⟩ := (HTr.out.bel hSw).cells; go_simp; try rfl)) hHeld ?_
        try simp only [Act.put, List.setIfInBounds_toArray, List.set_cons_zero, List.set_cons_succ]
        refine wpAnyH_ready (rs := [7]) (by as_aux_lemma => kernel_rfl) (by simp) ?_
        refine AllReadyH.cons rfl (fun K hK => ?_) AllReadyH.nil
        go_simp
        refine (CSQ.out _ ga i bi (HTr.out.bel (belN (Below.refl _ _) 1)) (HPr.out _ (belN (Below.refl _ _) 1) i I2.out).2.2 HBI.out).mono ?_
        rintro e v2 ⟨rfl, hb2⟩
        have hS2 : Below wr.heap.size wr v2 := below_aft (belN (Below.refl _ _) 1) hb2
        go_wp2_with fail
        refine hK.out _ _ hS2 (fun hHeld => ?_)
        clear hK K
        try simp only [Act.put, List.setIfInBounds_toArray, List.set_cons_zero, List.set_cons_succ]
        have HS2 := hidD hS2
        clear hb2 hS2
        refine takeH (i := 8) (d := 165) (.bool bi) hq rfl rfl (by as_aux_lemma => kernel_rfl) (by as_aux_lemma => kernel_rfl) (by as_aux_lemma => kernel_rfl) (by rfl) (fun W hSw => by (go_simp; try first | rfl | (rw [IntKind.wrap_i64]; omega) | (intro hh; exfalso; omega))) hHeld ?_
        try simp only [Act.put, List.setIfInBounds_toArray, List.set_cons_zero, List.set_cons_succ]
        refine takeH (i := 9) (d := 12) (.bool bi) hq rfl rfl (by as_aux_lemma => kernel_rfl) (by as_aux_lemma => kernel_rfl) (by as_aux_lemma => kernel_rfl) (by rfl) (fun W hSw => by (go_simp; try first | rfl | (rw [IntKind.wrap_i64]; omega) | (intro hh; exfalso; omega))) hHeld ?_
        try simp only [Act.put, List.setIfInBounds_toArray, List.set_cons_zero, List.set_cons_succ]
        refine wpAnyH_done (by as_aux_lemma => kernel_rfl) ?_ _
        have HTs := hidD (HTr.out.bel HS2.out)
        have HBs := hidD (below_aft HBr.out HS2.out)
        have HPs : Hid (PL v2 gl ga m l p) := fun V hV => HPr.out V (below_aft HS2.out hV)
        clear hHeld hq HS2
        go_upto_region 18 with fail
        rcases i with - | j
        · as_aux_lemma =>
            refine beginH (S := fun V => Below v2.heap.size v2 V) (fun _ _ _ _ _ h => h) (by as_aux_lemma => kernel_rfl) (belN (Below.refl _ _) 1) (fun hq hHeld => ?_)
            refine takeH (i := 0) (d := 166) _ hq rfl rfl (by as_aux_lemma => kernel_rfl) (by as_aux_lemma => kernel_rfl) (by as_aux_lemma => kernel_rfl) (by rfl) (fun W hSw => by (go_simp; try first | rfl | (rw [IntKind.wrap_i64]; omega) | (intro hh; exfalso; omega))) hHeld ?_
            try simp only [Act.put, List.setIfInBounds_toArray, List.set_cons_zero, List.set_cons_succ]
            refine takeH (i := 1) (d := 167) _ hq rfl rfl (by as_aux_lemma => kernel_rfl) (by as_aux_lemma => kernel_rfl) (by as_aux_lemma => kernel_rfl) (by rfl) (fun W hSw => by (go_simp; try first | rfl | (rw [IntKind.wrap_i64]; omega) | (intro hh; exfalso; omega))) hHeld ?_
            try simp only [Act.put, List.setIfInBounds_toArray, List.set_cons_zero, List.set_cons_succ]
            refine takeH (i := 2) (d := 168) (.pointer (some ⟨gl, 0, none⟩)) hq rfl rfl (by as_aux_lemma => kernel_rfl) (by as_aux_lemma => kernel_rfl) (by as_aux_lemma => kernel_rfl) (by rfl) (fun W hSw => by (go_simp; try first | rfl | (rw [IntKind.wrap_i64]; omega) | (intro hh; exfalso; omega))) hHeld ?_
            try simp only [Act.put, List.setIfInBounds_toArray, List.set_cons_zero, List.set_cons_succ]
            refine takeH (i := 3) (d := 169) (plV l (preA ga 0) 0 0) hq rfl rfl (by as_aux_lemma => kernel_rfl) (by as_aux_lemma => kernel_rfl) (by as_aux_lemma => kernel_rfl) (by rfl) (fun W hSw => by (obtain ⟨z0, z1, -⟩ := HPs.out _ hSw 0 I2.out; go_simp; try rfl)) hHeld ?_
            try simp only [Act.put, List.setIfInBounds_toArray, List.set_cons_zero, List.set_cons_succ]
            refine takeH (i := 4) (d := 170) (plV l pa m pcap) hq rfl rfl (by as_aux_lemma => kernel_rfl) (by as_aux_lemma => kernel_rfl) (by as_aux_lemma => kernel_rfl) (by rfl) (fun W hSw => by (obtain ⟨z0, z1, -, -, -, -⟩ := (HTs.out.bel hSw).cells; go_simp; try rfl)) hHeld ?_
            try simp only [Act.put, List.setIfInBounds_toArray, List.set_cons_zero, List.set_cons_succ]
            refine wpAnyH_ready (rs := [5]) (by as_aux_lemma => kernel_rfl) (by simp) ?_
            refine AllReadyH.cons rfl (fun K hK => ?_) AllReadyH.nil
            go_simp
            refine (CLP.out _ ga 0 (HTs.out.bel (belN (Below.refl _ _) 1)) (HPs.out _ (belN (Below.refl _ _) 1) 0 I2.out).2.2).mono ?_
            rintro e v3 ⟨rfl, hb3⟩
            have hS3 : Below v2.heap.size v2 v3 := below_aft (belN (Below.refl _ _) 1) hb3
            go_wp2_with fail
            refine hK.out _ _ hS3 (fun hHeld => ?_)
            clear hK K
            try simp only [Act.put, List.setIfInBounds_toArray, List.set_cons_zero, List.set_cons_succ]
            have HS3 := hidD hS3
            clear hb3 hS3
            refine takeH (i := 6) (d := 172) (.bool false) hq rfl rfl (by as_aux_lemma => kernel_rfl) (by as_aux_lemma => kernel_rfl) (by as_aux_lemma => kernel_rfl) (by rfl) (fun W hSw => by (go_simp; try first | rfl | (rw [IntKind.wrap_i64]; omega) | (intro hh; exfalso; omega))) hHeld ?_
            try simp only [Act.put, List.setIfInBounds_toArray, List.set_cons_zero, List.set_cons_succ]
            refine takeH (i := 7) (d := 173) (.bool false) hq rfl rfl (by as_aux_lemma => kernel_rfl) (by as_aux_lemma => kernel_rfl) (by as_aux_lemma => kernel_rfl) (by rfl) (fun W hSw => by (go_simp; try first | rfl | (rw [IntKind.wrap_i64]; omega) | (intro hh; exfalso; omega))) hHeld ?_
            try simp only [Act.put, List.setIfInBounds_toArray, List.set_cons_zero, List.set_cons_succ]
            refine takeH (i := 8) (d := 174) _ hq rfl rfl (by as_aux_lemma => kernel_rfl) (by as_aux_lemma => kernel_rfl) (by as_aux_lemma => kernel_rfl) (by rfl) (fun W hSw => by (go_simp; try first | rfl | (rw [IntKind.wrap_i64]; omega) | (intro hh; exfalso; omega))) hHeld ?_
            try simp only [Act.put, List.setIfInBounds_toArray, List.set_cons_zero, List.set_cons_succ]
            refine takeH (i := 9) (d := 175) (.bool false) hq rfl rfl (by as_aux_lemma => kernel_rfl) (by as_aux_lemma => kernel_rfl) (by as_aux_lemma => kernel_rfl) (by rfl) (fun W hSw => by (go_simp; try first | rfl | (rw [IntKind.wrap_i64]; omega) | (intro hh; exfalso; omega))) hHeld ?_
            try simp only [Act.put, List.setIfInBounds_toArray, List.set_cons_zero, List.set_cons_succ]
            refine takeH (i := 10) (d := 176) (.bool false) hq rfl rfl (by as_aux_lemma => kernel_rfl) (by as_aux_lemma => kernel_rfl) (by as_aux_lemma => kernel_rfl) (by rfl) (fun W hSw => by (go_simp; try first | rfl | (rw [IntKind.wrap_i64]; omega) | (intro hh; exfalso; omega))) hHeld ?_
            try simp only [Act.put, List.setIfInBounds_toArray, List.set_cons_zero, List.set_cons_succ]
            refine skipH (i := 11) (d := 177) hq rfl rfl (by as_aux_lemma => kernel_rfl) (by as_aux_lemma => kernel_rfl) (by as_aux_lemma => kernel_rfl) (by rfl) hHeld ?_
            try simp only [Act.put, List.setIfInBounds_toArray, List.set_cons_zero, List.set_cons_succ]
            refine skipH (i := 12) (d := 178) hq rfl rfl (by as_aux_lemma => kernel_rfl) (by as_aux_lemma => kernel_rfl) (by as_aux_lemma => kernel_rfl) (by rfl) hHeld ?_
            try simp only [Act.put, List.setIfInBounds_toArray, List.set_cons_zero, List.set_cons_succ]
            refine skipH (i := 13) (d := 179) hq rfl rfl (by as_aux_lemma => kernel_rfl) (by as_aux_lemma => kernel_rfl) (by as_aux_lemma => kernel_rfl) (by rfl) hHeld ?_
            try simp only [Act.put, List.setIfInBounds_toArray, List.set_cons_zero, List.set_cons_succ]
            refine skipH (i := 14) (d := 180) hq rfl rfl (by as_aux_lemma => kernel_rfl) (by as_aux_lemma => kernel_rfl) (by as_aux_lemma => kernel_rfl) (by rfl) hHeld ?_
            try simp only [Act.put, List.setIfInBounds_toArray, List.set_cons_zero, List.set_cons_succ]
            refine skipH (i := 15) (d := 181) hq rfl rfl (by as_aux_lemma => kernel_rfl) (by as_aux_lemma => kernel_rfl) (by as_aux_lemma => kernel_rfl) (by rfl) hHeld ?_
            try simp only [Act.put, List.setIfInBounds_toArray, List.set_cons_zero, List.set_cons_succ]
            refine skipH (i := 16) (d := 182) hq rfl rfl (by as_aux_lemma => kernel_rfl) (by as_aux_lemma => kernel_rfl) (by as_aux_lemma => kernel_rfl) (by rfl) hHeld ?_
            try simp only [Act.put, List.setIfInBounds_toArray, List.set_cons_zero, List.set_cons_succ]
            refine skipH (i := 17) (d := 183) hq rfl rfl (by as_aux_lemma => kernel_rfl) (by as_aux_lemma => kernel_rfl) (by as_aux_lemma => kernel_rfl) (by rfl) hHeld ?_
            try simp only [Act.put, List.setIfInBounds_toArray, List.set_cons_zero, List.set_cons_succ]
            refine skipH (i := 18) (d := 184) hq rfl rfl (by as_aux_lemma => kernel_rfl) (by as_aux_lemma => kernel_rfl) (by as_aux_lemma => kernel_rfl) (by rfl) hHeld ?_
            try simp only [Act.put, List.setIfInBounds_toArray, List.set_cons_zero, List.set_cons_succ]
            refine skipH (i := 19) (d := 185) hq rfl rfl (by as_aux_lemma => kernel_rfl) (by as_aux_lemma => kernel_rfl) (by as_aux_lemma => kernel_rfl) (by rfl) hHeld ?_
            try simp only [Act.put, List.setIfInBounds_toArray, List.set_cons_zero, List.set_cons_succ]
            refine skipH (i := 20) (d := 186) hq rfl rfl (by as_aux_lemma => kernel_rfl) (by as_aux_lemma => kernel_rfl) (by as_aux_lemma => kernel_rfl) (by rfl) hHeld ?_
            try simp only [Act.put, List.setIfInBounds_toArray, List.set_cons_zero, List.set_cons_succ]
            refine skipH (i := 21) (d := 187) hq rfl rfl (by as_aux_lemma => kernel_rfl) (by as_aux_lemma => kernel_rfl) (by as_aux_lemma => kernel_rfl) (by rfl) hHeld ?_
            try simp only [Act.put, List.setIfInBounds_toArray, List.set_cons_zero, List.set_cons_succ]
            refine skipH (i := 22) (d := 188) hq rfl rfl (by as_aux_lemma => kernel_rfl) (by as_aux_lemma => kernel_rfl) (by as_aux_lemma => kernel_rfl) (by rfl) hHeld ?_
            try simp only [Act.put, List.setIfInBounds_toArray, List.set_cons_zero, List.set_cons_succ]
            refine skipH (i := 23) (d := 189) hq rfl rfl (by as_aux_lemma => kernel_rfl) (by as_aux_lemma => kernel_rfl) (by as_aux_lemma => kernel_rfl) (by rfl) hHeld ?_
            try simp only [Act.put, List.setIfInBounds_toArray, List.set_cons_zero, List.set_cons_succ]
            refine skipH (i := 24) (d := 190) hq rfl rfl (by as_aux_lemma => kernel_rfl) (by as_aux_lemma => kernel_rfl) (by as_aux_lemma => kernel_rfl) (by rfl) hHeld ?_
            try simp only [Act.put, List.setIfInBounds_toArray, List.set_cons_zero, List.set_cons_succ]
            refine skipH (i := 25) (d := 191) hq rfl rfl (by as_aux_lemma => kernel_rfl) (by as_aux_lemma => kernel_rfl) (by as_aux_lemma => kernel_rfl) (by rfl) hHeld ?_
            try simp only [Act.put, List.setIfInBounds_toArray, List.set_cons_zero, List.set_cons_succ]
            refine skipH (i := 26) (d := 192) hq rfl rfl (by as_aux_lemma => kernel_rfl) (by as_aux_lemma => kernel_rfl) (by as_aux_lemma => kernel_rfl) (by rfl) hHeld ?_
            try simp only [Act.put, List.setIfInBounds_toArray, List.set_cons_zero, List.set_cons_succ]
            refine skipH (i := 27) (d := 193) hq rfl rfl (by as_aux_lemma => kernel_rfl) (by as_aux_lemma => kernel_rfl) (by as_aux_lemma => kernel_rfl) (by rfl) hHeld ?_
            try simp only [Act.put, List.setIfInBounds_toArray, List.set_cons_zero, List.set_cons_succ]
            refine skipH (i := 28) (d := 194) hq rfl rfl (by as_aux_lemma => kernel_rfl) (by as_aux_lemma => kernel_rfl) (by as_aux_lemma => kernel_rfl) (by rfl) hHeld ?_
            try simp only [Act.put, List.setIfInBounds_toArray, List.set_cons_zero, List.set_cons_succ]
            refine skipH (i := 29) (d := 195) hq rfl rfl (by as_aux_lemma => kernel_rfl) (by as_aux_lemma => kernel_rfl) (by as_aux_lemma => kernel_rfl) (by rfl) hHeld ?_
            try simp only [Act.put, List.setIfInBounds_toArray, List.set_cons_zero, List.set_cons_succ]
            refine skipH (i := 30) (d := 196) hq rfl rfl (by as_aux_lemma => kernel_rfl) (by as_aux_lemma => kernel_rfl) (by as_aux_lemma => kernel_rfl) (by rfl) hHeld ?_
            try simp only [Act.put, List.setIfInBounds_toArray, List.set_cons_zero, List.set_cons_succ]
            refine skipH (i := 31) (d := 197) hq rfl rfl (by as_aux_lemma => kernel_rfl) (by as_aux_lemma => kernel_rfl) (by as_aux_lemma => kernel_rfl) (by rfl) hHeld ?_
            try simp only [Act.put, List.setIfInBounds_toArray, List.set_cons_zero, List.set_cons_succ]
            refine skipH (i := 32) (d := 198) hq rfl rfl (by as_aux_lemma => kernel_rfl) (by as_aux_lemma => kernel_rfl) (by as_aux_lemma => kernel_rfl) (by rfl) hHeld ?_
            try simp only [Act.put, List.setIfInBounds_toArray, List.set_cons_zero, List.set_cons_succ]
            refine skipH (i := 33) (d := 199) hq rfl rfl (by as_aux_lemma => kernel_rfl) (by as_aux_lemma => kernel_rfl) (by as_aux_lemma => kernel_rfl) (by rfl) hHeld ?_
            try simp only [Act.put, List.setIfInBounds_toArray, List.set_cons_zero, List.set_cons_succ]
            refine skipH (i := 34) (d := 200) hq rfl rfl (by as_aux_lemma => kernel_rfl) (by as_aux_lemma => kernel_rfl) (by as_aux_lemma => kernel_rfl) (by rfl) hHeld ?_
            try simp only [Act.put, List.setIfInBounds_toArray, List.set_cons_zero, List.set_cons_succ]
            refine takeH (i := 35) (d := 201) (.bool false) hq rfl rfl (by as_aux_lemma => kernel_rfl) (by as_aux_lemma => kernel_rfl) (by as_aux_lemma => kernel_rfl) (by rfl) (fun W hSw => by (go_simp; try first | rfl | (rw [IntKind.wrap_i64]; omega) | (intro hh; exfalso; omega))) hHeld ?_
            try simp only [Act.put, List.setIfInBounds_toArray, List.set_cons_zero, List.set_cons_succ]
            refine takeH (i := 36) (d := 202) (.bool false) hq rfl rfl (by as_aux_lemma => kernel_rfl) (by as_aux_lemma => kernel_rfl) (by as_aux_lemma => kernel_rfl) (by rfl) (fun W hSw => by (go_simp; try first | rfl | (rw [IntKind.wrap_i64]; omega) | (intro hh; exfalso; omega))) hHeld ?_
            try simp only [Act.put, List.setIfInBounds_toArray, List.set_cons_zero, List.set_cons_succ]
            refine wpAnyH_done (by as_aux_lemma => kernel_rfl) ?_ _
            go_wp2_with fail
            refine ⟨⟨0 + 1, bi, hlt, rfl, rfl, HN.out, below_aft HBs.out HS3.out⟩, ?_⟩
            show m + 1 - ((0 : Int) + 1).toNat < m + 1 - (0 : Int).toNat
            omega
        · as_aux_lemma =>
            have j0 : (0 : Int) ≤ (j : Int) := by omega
            have j1 : (j : Int) < (m : Int) := by have := I2.out; omega
            have j2 : (0 : Int) < (j : Int) + 1 := by omega
            refine beginH (S := fun V => Below v2.heap.size v2 V) (fun _ _ _ _ _ h => h) (by as_aux_lemma => kernel_rfl) (belN (Below.refl _ _) 1) (fun hq hHeld => ?_)
            refine takeH (i := 0) (d := 166) _ hq rfl rfl (by as_aux_lemma => kernel_rfl) (by as_aux_lemma => kernel_rfl) (by as_aux_lemma => kernel_rfl) (by rfl) (fun W hSw => by (go_simp; try first | rfl | (rw [IntKind.wrap_i64]; omega) | (intro hh; exfalso; omega))) hHeld ?_
            try simp only [Act.put, List.setIfInBounds_toArray, List.set_cons_zero, List.set_cons_succ]
            refine takeH (i := 1) (d := 167) _ hq rfl rfl (by as_aux_lemma => kernel_rfl) (by as_aux_lemma => kernel_rfl) (by as_aux_lemma => kernel_rfl) (by rfl) (fun W hSw => by (go_simp; try first | rfl | (rw [IntKind.wrap_i64]; omega) | (intro hh; exfalso; omega))) hHeld ?_
            try simp only [Act.put, List.setIfInBounds_toArray, List.set_cons_zero, List.set_cons_succ]
            refine takeH (i := 2) (d := 168) (.pointer (some ⟨gl, (j + 1) * 2, none⟩)) hq rfl rfl (by as_aux_lemma => kernel_rfl) (by as_aux_lemma => kernel_rfl) (by as_aux_lemma => kernel_rfl) (by rfl) (fun W hSw => by (go_simp; try first | rfl | (rw [IntKind.wrap_i64]; omega) | (intro hh; exfalso; omega))) hHeld ?_
            try simp only [Act.put, List.setIfInBounds_toArray, List.set_cons_zero, List.set_cons_succ]
            refine takeH (i := 3) (d := 169) (plV l (preA ga (j + 1)) (j + 1) (j + 1)) hq rfl rfl (by as_aux_lemma => kernel_rfl) (by as_aux_lemma => kernel_rfl) (by as_aux_lemma => kernel_rfl) (by rfl) (fun W hSw => by (obtain ⟨z0, z1, -⟩ := HPs.out _ hSw (j + 1) I2.out; go_simp; try rfl)) hHeld ?_
            try simp only [Act.put, List.setIfInBounds_toArray, List.set_cons_zero, List.set_cons_succ]
            refine takeH (i := 4) (d := 170) (plV l pa m pcap) hq rfl rfl (by as_aux_lemma => kernel_rfl) (by as_aux_lemma => kernel_rfl) (by as_aux_lemma => kernel_rfl) (by rfl) (fun W hSw => by (obtain ⟨z0, z1, -, -, -, -⟩ := (HTs.out.bel hSw).cells; go_simp; try rfl)) hHeld ?_
            try simp only [Act.put, List.setIfInBounds_toArray, List.set_cons_zero, List.set_cons_succ]
            refine wpAnyH_ready (rs := [5]) (by as_aux_lemma => kernel_rfl) (by simp) ?_
            refine AllReadyH.cons rfl (fun K hK => ?_) AllReadyH.nil
            go_simp
            refine (CLP.out _ ga (j + 1) (HTs.out.bel (belN (Below.refl _ _) 1)) (HPs.out _ (belN (Below.refl _ _) 1) (j + 1) I2.out).2.2).mono ?_
            rintro e v3 ⟨rfl, hb3⟩
            have hS3 : Below v2.heap.size v2 v3 := below_aft (belN (Below.refl _ _) 1) hb3
            go_wp2_with fail
            refine hK.out _ _ hS3 (fun hHeld => ?_)
            clear hK K
            try simp only [Act.put, List.setIfInBounds_toArray, List.set_cons_zero, List.set_cons_succ]
            have HS3 := hidD hS3
            clear hb3 hS3
            refine takeH (i := 6) (d := 172) (.bool false) hq rfl rfl (by as_aux_lemma => kernel_rfl) (by as_aux_lemma => kernel_rfl) (by as_aux_lemma => kernel_rfl) (by rfl) (fun W hSw => by (go_simp; try first | rfl | (rw [IntKind.wrap_i64]; omega) | (intro hh; exfalso; omega))) hHeld ?_
            try simp only [Act.put, List.setIfInBounds_toArray, List.set_cons_zero, List.set_cons_succ]
            refine takeH (i := 7) (d := 173) (.bool false) hq rfl rfl (by as_aux_lemma => kernel_rfl) (by as_aux_lemma => kernel_rfl) (by as_aux_lemma => kernel_rfl) (by rfl) (fun W hSw => by (go_simp; try first | rfl | (rw [IntKind.wrap_i64]; omega) | (intro hh; exfalso; omega))) hHeld ?_
            try simp only [Act.put, List.setIfInBounds_toArray, List.set_cons_zero, List.set_cons_succ]
            refine takeH (i := 8) (d := 174) _ hq rfl rfl (by as_aux_lemma => kernel_rfl) (by as_aux_lemma => kernel_rfl) (by as_aux_lemma => kernel_rfl) (by rfl) (fun W hSw => by (go_simp; try first | rfl | (rw [IntKind.wrap_i64]; omega) | (intro hh; exfalso; omega))) hHeld ?_
            try simp only [Act.put, List.setIfInBounds_toArray, List.set_cons_zero, List.set_cons_succ]
            refine takeH (i := 9) (d := 175) (.bool true) hq rfl rfl (by as_aux_lemma => kernel_rfl) (by as_aux_lemma => kernel_rfl) (by as_aux_lemma => kernel_rfl) (by rfl) (fun W hSw => by (go_simp; try first | rfl | (rw [IntKind.wrap_i64]; omega) | (intro hh; exfalso; omega))) hHeld ?_
            try simp only [Act.put, List.setIfInBounds_toArray, List.set_cons_zero, List.set_cons_succ]
            refine takeH (i := 10) (d := 176) (.bool true) hq rfl rfl (by as_aux_lemma => kernel_rfl) (by as_aux_lemma => kernel_rfl) (by as_aux_lemma => kernel_rfl) (by rfl) (fun W hSw => by (go_simp; try first | rfl | (rw [IntKind.wrap_i64]; omega) | (intro hh; exfalso; omega))) hHeld ?_
            try simp only [Act.put, List.setIfInBounds_toArray, List.set_cons_zero, List.set_cons_succ]
            refine takeH (i := 11) (d := 177) _ hq rfl rfl (by as_aux_lemma => kernel_rfl) (by as_aux_lemma => kernel_rfl) (by as_aux_lemma => kernel_rfl) (by rfl) (fun W hSw => by (go_simp; try first | rfl | (rw [IntKind.wrap_i64]; omega) | (intro hh; exfalso; omega))) hHeld ?_
            try simp only [Act.put, List.setIfInBounds_toArray, List.set_cons_zero, List.set_cons_succ]
            refine takeH (i := 12) (d := 178) _ hq rfl rfl (by as_aux_lemma => kernel_rfl) (by as_aux_lemma => kernel_rfl) (by as_aux_lemma => kernel_rfl) (by rfl) (fun W hSw => by (go_simp; try first | rfl | (rw [IntKind.wrap_i64]; omega) | (intro hh; exfalso; omega))) hHeld ?_
            try simp only [Act.put, List.setIfInBounds_toArray, List.set_cons_zero, List.set_cons_succ]
            refine takeH (i := 13) (d := 179) (.int .i64 (j : Int)) hq rfl rfl (by as_aux_lemma => kernel_rfl) (by as_aux_lemma => kernel_rfl) (by as_aux_lemma => kernel_rfl) (by rfl) (fun W hSw => by (go_simp; try first | rfl | (rw [IntKind.wrap_i64]; omega) | (intro hh; exfalso; omega))) hHeld ?_
            try simp only [Act.put, List.setIfInBounds_toArray, List.set_cons_zero, List.set_cons_succ]
            refine takeH (i := 14) (d := 180) (.pointer (some ⟨gl, j * 2, none⟩)) hq rfl rfl (by as_aux_lemma => kernel_rfl) (by as_aux_lemma => kernel_rfl) (by as_aux_lemma => kernel_rfl) (by rfl) (fun W hSw => by (go_simp; try first | rfl | (rw [IntKind.wrap_i64]; omega) | (intro hh; exfalso; omega))) hHeld ?_
            try simp only [Act.put, List.setIfInBounds_toArray, List.set_cons_zero, List.set_cons_succ]
            refine takeH (i := 15) (d := 181) (plV l (preA ga j) j j) hq rfl rfl (by as_aux_lemma => kernel_rfl) (by as_aux_lemma => kernel_rfl) (by as_aux_lemma => kernel_rfl) (by rfl) (fun W hSw => by (obtain ⟨z0, z1, -⟩ := HPs.out _ hSw j (Nat.le_of_succ_le I2.out); go_simp; try rfl)) hHeld ?_
            try simp only [Act.put, List.setIfInBounds_toArray, List.set_cons_zero, List.set_cons_succ]
            refine takeH (i := 16) (d := 182) _ hq rfl rfl (by as_aux_lemma => kernel_rfl) (by as_aux_lemma => kernel_rfl) (by as_aux_lemma => kernel_rfl) (by rfl) (fun W hSw => by (go_simp; try first | rfl | (rw [IntKind.wrap_i64]; omega) | (intro hh; exfalso; omega))) hHeld ?_
            try simp only [Act.put, List.setIfInBounds_toArray, List.set_cons_zero, List.set_cons_succ]
            refine takeH (i := 17) (d := 183) _ hq rfl rfl (by as_aux_lemma => kernel_rfl) (by as_aux_lemma => kernel_rfl) (by as_aux_lemma => kernel_rfl) (by rfl) (fun W hSw => by (go_simp; try first | rfl | (rw [IntKind.wrap_i64]; omega) | (intro hh; exfalso; omega))) hHeld ?_
            try simp only [Act.put, List.setIfInBounds_toArray, List.set_cons_zero, List.set_cons_succ]
            refine takeH (i := 18) (d := 184) (.pointer (some ⟨gl, (j + 1) * 2, none⟩)) hq rfl rfl (by as_aux_lemma => kernel_rfl) (by as_aux_lemma => kernel_rfl) (by as_aux_lemma => kernel_rfl) (by rfl) (fun W hSw => by (go_simp; try first | rfl | (rw [IntKind.wrap_i64]; omega) | (intro hh; exfalso; omega))) hHeld ?_
            try simp only [Act.put, List.setIfInBounds_toArray, List.set_cons_zero, List.set_cons_succ]
            refine takeH (i := 19) (d := 185) (plV l (preA ga (j + 1)) (j + 1) (j + 1)) hq rfl rfl (by as_aux_lemma => kernel_rfl) (by as_aux_lemma => kernel_rfl) (by as_aux_lemma => kernel_rfl) (by rfl) (fun W hSw => by (obtain ⟨z0, z1, -⟩ := HPs.out _ hSw (j + 1) I2.out; go_simp; try rfl)) hHeld ?_
            try simp only [Act.put, List.setIfInBounds_toArray, List.set_cons_zero, List.set_cons_succ]
            refine wpAnyH_ready (rs := [20]) (by as_aux_lemma => kernel_rfl) (by simp) ?_
            refine AllReadyH.cons rfl (fun K hK => ?_) AllReadyH.nil
            go_simp
            refine (CLL.out _ ga j (HPs.out _ HS3.out j (Nat.le_of_succ_le I2.out)).2.2 (HPs.out _ HS3.out (j + 1) I2.out).2.2).mono ?_
            rintro e v4 ⟨rfl, hb4⟩
            have hS4 : Below v2.heap.size v2 v4 := below_aft HS3.out hb4
            go_wp2_with fail
            refine hK.out _ _ hS4 (fun hHeld => ?_)
            clear hK K
            try simp only [Act.put, List.setIfInBounds_toArray, List.set_cons_zero, List.set_cons_succ]
            have HS4 := hidD hS4
            clear hb4 hS4
            refine takeH (i := 21) (d := 187) (.bool false) hq rfl rfl (by as_aux_lemma => kernel_rfl) (by as_aux_lemma => kernel_rfl) (by as_aux_lemma => kernel_rfl) (by rfl) (fun W hSw => by (go_simp; try first | rfl | (rw [IntKind.wrap_i64]; omega) | (intro hh; exfalso; omega))) hHeld ?_
            try simp only [Act.put, List.setIfInBounds_toArray, List.set_cons_zero, List.set_cons_succ]
            refine takeH (i := 22) (d := 188) (.bool false) hq rfl rfl (by as_aux_lemma => kernel_rfl) (by as_aux_lemma => kernel_rfl) (by as_aux_lemma => kernel_rfl) (by rfl) (fun W hSw => by (go_simp; try first | rfl | (rw [IntKind.wrap_i64]; omega) | (intro hh; exfalso; omega))) hHeld ?_
            try simp only [Act.put, List.setIfInBounds_toArray, List.set_cons_zero, List.set_cons_succ]
            refine takeH (i := 23) (d := 189) _ hq rfl rfl (by as_aux_lemma => kernel_rfl) (by as_aux_lemma => kernel_rfl) (by as_aux_lemma => kernel_rfl) (by rfl) (fun W hSw => by (go_simp; try first | rfl | (rw [IntKind.wrap_i64]; omega) | (intro hh; exfalso; omega))) hHeld ?_
            try simp only [Act.put, List.setIfInBounds_toArray, List.set_cons_zero, List.set_cons_succ]
            refine takeH (i := 24) (d := 190) _ hq rfl rfl (by as_aux_lemma => kernel_rfl) (by as_aux_lemma => kernel_rfl) (by as_aux_lemma => kernel_rfl) (by rfl) (fun W hSw => by (go_simp; try first | rfl | (rw [IntKind.wrap_i64]; omega) | (intro hh; exfalso; omega))) hHeld ?_
            try simp only [Act.put, List.setIfInBounds_toArray, List.set_cons_zero, List.set_cons_succ]
            refine takeH (i := 25) (d := 191) (.int .i64 (j : Int)) hq rfl rfl (by as_aux_lemma => kernel_rfl) (by as_aux_lemma => kernel_rfl) (by as_aux_lemma => kernel_rfl) (by rfl) (fun W hSw => by (go_simp; try first | rfl | (rw [IntKind.wrap_i64]; omega) | (intro hh; exfalso; omega))) hHeld ?_
            try simp only [Act.put, List.setIfInBounds_toArray, List.set_cons_zero, List.set_cons_succ]
            refine takeH (i := 26) (d := 192) (.pointer (some ⟨gl, j * 2, none⟩)) hq rfl rfl (by as_aux_lemma => kernel_rfl) (by as_aux_lemma => kernel_rfl) (by as_aux_lemma => kernel_rfl) (by rfl) (fun W hSw => by (go_simp; try first | rfl | (rw [IntKind.wrap_i64]; omega) | (intro hh; exfalso; omega))) hHeld ?_
            try simp only [Act.put, List.setIfInBounds_toArray, List.set_cons_zero, List.set_cons_succ]
            refine takeH (i := 27) (d := 193) (plV l (preA ga j) j j) hq rfl rfl (by as_aux_lemma => kernel_rfl) (by as_aux_lemma => kernel_rfl) (by as_aux_lemma => kernel_rfl) (by rfl) (fun W hSw => by (obtain ⟨z0, z1, -⟩ := HPs.out _ hSw j (Nat.le_of_succ_le I2.out); go_simp; try rfl)) hHeld ?_
            try simp only [Act.put, List.setIfInBounds_toArray, List.set_cons_zero, List.set_cons_succ]
            refine takeH (i := 28) (d := 194) _ hq rfl rfl (by as_aux_lemma => kernel_rfl) (by as_aux_lemma => kernel_rfl) (by as_aux_lemma => kernel_rfl) (by rfl) (fun W hSw => by (go_simp; try first | rfl | (rw [IntKind.wrap_i64]; omega) | (intro hh; exfalso; omega))) hHeld ?_
            try simp only [Act.put, List.setIfInBounds_toArray, List.set_cons_zero, List.set_cons_succ]
            refine takeH (i := 29) (d := 195) _ hq rfl rfl (by as_aux_lemma => kernel_rfl) (by as_aux_lemma => kernel_rfl) (by as_aux_lemma => kernel_rfl) (by rfl) (fun W hSw => by (go_simp; try first | rfl | (rw [IntKind.wrap_i64]; omega) | (intro hh; exfalso; omega))) hHeld ?_
            try simp only [Act.put, List.setIfInBounds_toArray, List.set_cons_zero, List.set_cons_succ]
            refine takeH (i := 30) (d := 196) (.pointer (some ⟨gl, (j + 1) * 2, none⟩)) hq rfl rfl (by as_aux_lemma => kernel_rfl) (by as_aux_lemma => kernel_rfl) (by as_aux_lemma => kernel_rfl) (by rfl) (fun W hSw => by (go_simp; try first | rfl | (rw [IntKind.wrap_i64]; omega) | (intro hh; exfalso; omega))) hHeld ?_
            try simp only [Act.put, List.setIfInBounds_toArray, List.set_cons_zero, List.set_cons_succ]
            refine takeH (i := 31) (d := 197) (plV l (preA ga (j + 1)) (j + 1) (j + 1)) hq rfl rfl (by as_aux_lemma => kernel_rfl) (by as_aux_lemma => kernel_rfl) (by as_aux_lemma => kernel_rfl) (by rfl) (fun W hSw => by (obtain ⟨z0, z1, -⟩ := HPs.out _ hSw (j + 1) I2.out; go_simp; try rfl)) hHeld ?_
            try simp only [Act.put, List.setIfInBounds_toArray, List.set_cons_zero, List.set_cons_succ]
            refine wpAnyH_ready (rs := [32]) (by as_aux_lemma => kernel_rfl) (by simp) ?_
            refine AllReadyH.cons rfl (fun K hK => ?_) AllReadyH.nil
            go_simp
            refine (COL.out _ ga j I2.out (HPs.out _ HS4.out j (Nat.le_of_succ_le I2.out)).2.2 (HPs.out _ HS4.out (j + 1) I2.out).2.2).mono ?_
            rintro e v5 ⟨rfl, hb5⟩
            have hS5 : Below v2.heap.size v2 v5 := below_aft HS4.out hb5
            go_wp2_with fail
            refine hK.out _ _ hS5 (fun hHeld => ?_)
            clear hK K
            try simp only [Act.put, List.setIfInBounds_toArray, List.set_cons_zero, List.set_cons_succ]
            have HS5 := hidD hS5
            clear hb5 hS5
            refine takeH (i := 33) (d := 199) (.bool false) hq rfl rfl (by as_aux_lemma => kernel_rfl) (by as_aux_lemma => kernel_rfl) (by as_aux_lemma => kernel_rfl) (by rfl) (fun W hSw => by (go_simp; try first | rfl | (rw [IntKind.wrap_i64]; omega) | (intro hh; exfalso; omega))) hHeld ?_
            try simp only [Act.put, List.setIfInBounds_toArray, List.set_cons_zero, List.set_cons_succ]
            refine takeH (i := 34) (d := 200) (.bool false) hq rfl rfl (by as_aux_lemma => kernel_rfl) (by as_aux_lemma => kernel_rfl) (by as_aux_lemma => kernel_rfl) (by rfl) (fun W hSw => by (go_simp; try first | rfl | (rw [IntKind.wrap_i64]; omega) | (intro hh; exfalso; omega))) hHeld ?_
            try simp only [Act.put, List.setIfInBounds_toArray, List.set_cons_zero, List.set_cons_succ]
            refine takeH (i := 35) (d := 201) (.bool false) hq rfl rfl (by as_aux_lemma => kernel_rfl) (by as_aux_lemma => kernel_rfl) (by as_aux_lemma => kernel_rfl) (by rfl) (fun W hSw => by (go_simp; try first | rfl | (rw [IntKind.wrap_i64]; omega) | (intro hh; exfalso; omega))) hHeld ?_
            try simp only [Act.put, List.setIfInBounds_toArray, List.set_cons_zero, List.set_cons_succ]
            refine takeH (i := 36) (d := 202) (.bool false) hq rfl rfl (by as_aux_lemma => kernel_rfl) (by as_aux_lemma => kernel_rfl) (by as_aux_lemma => kernel_rfl) (by rfl) (fun W hSw => by (go_simp; try first | rfl | (rw [IntKind.wrap_i64]; omega) | (intro hh; exfalso; omega))) hHeld ?_
            try simp only [Act.put, List.setIfInBounds_toArray, List.set_cons_zero, List.set_cons_succ]
            refine wpAnyH_done (by as_aux_lemma => kernel_rfl) ?_ _
            go_wp2_with fail
            refine ⟨⟨j + 1 + 1, bi, hlt, rfl, rfl, HN.out, below_aft HBs.out HS5.out⟩, ?_⟩
            show m + 1 - (((j : Int) + 1 : Int) + 1).toNat < m + 1 - ((j : Int) + 1 : Int).toNat
            omega
    · obtain rfl : i = m + 1 := by omega
      have lt : ¬ (m : Int) + 1 < (m : Int) + 1 := by omega
      have hff : fi = bqp := by
        rw [Bool.eq_iff_iff, HF.out, HQP.out]
        constructor
        · rintro ⟨j, h1, h2, h3⟩
          exact ⟨h2.symm, h3 ▸ List.take_prefix _ _⟩
        · rintro ⟨h1, h2⟩
          obtain ⟨j, h3, h4⟩ := pre_iff.1 h2
          exact ⟨j, by have := HM.out; omega, h1.symm, h4⟩
      subst hff
      clear HF HQP
      obtain ⟨a0, a1, b0, b1, d0, d1⟩ := HTr.out.cells
      have HBw := hidD (below_aft HB6.out HBr.out)
      cases fi
      all_goals
        go_wp2_with (first
          | (go_at_call 24; refine (CQP.out _ HTr.out).mono ?_; rintro e w8 ⟨rfl, hb8⟩; have HB8 := hidD (below_aft HBw.out hb8); clear hb8)
          | (go_at_call 10; refine (AW.out _).mono ?_; rintro e w9 ⟨rfl, hb9⟩; have HB9 := hidD (below_aft HB8.out hb9); clear hb9))
        go_ret
        exact ⟨rfl, HB9.out⟩
end Go.Proofs.YtnohcppipkpgmaaDoor
