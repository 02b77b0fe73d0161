/-
  PlaceOrders returns true for every two places and every text, and leaves the places as they were: the row of 'loanwordlaw09.PlaceOrders', and its card, tied to the program's text. No condition beyond the statement's own (the library's tables laid).
-/
import Derived.Test.YtnohcppipkpgmaaDoorVb
import Derived.Test.YtnohcppipkpgmaaDoorVa
import Derived.Test.YtnohcppipkpgmaaDoorSe
import Derived.Deep.DeepCutAuto
import Derived.Deep.Light
import Derived.Test.YtnohcppipkpgmaaDoorSa
import Derived.Test.YtnohcppipkpgmaaDoorTie
import Derived.Test.YtnohcppipkpgmaaDoorCards
import Derived.ProofKit
import Derived.OpenShut
import Derived.ShutString
import Derived.ChangeOld
import Derived.ChangeMaps5
import Derived.ChangeSlices
import Derived.Below
import Derived.Lib.SmallJoins
import Derived.LaidMore
import Derived.Stop.Joined
import Derived.SevenTiedAt
import Derived.HandedShaped
import Derived.Lay
import Derived.MakeChecks
import Derived.Deep.Slices
namespace Go.Proofs.YtnohcppipkpgmaaDoor
open Go.RowKit Go.Shelf
set_option linter.unusedVariables false
set_option linter.unusedSimpArgs false

set_option maxRecDepth 100000 in
set_option maxHeartbeats 4000000 in
theorem sameT_leaf (k : Nat) (s : Int) (a1 : Option Addr) (c1 : Nat) (a2 : Option Addr) (c2 : Nat) (w : World) : Calls Tryd.prog 17 #[tyV k false 0 s a1 0 c1, tyV k false 0 s a2 0 c2] w fun e w' => e = .returned (.bool true) ∧ Below w.heap.size w w' := by
  have HB : Hid (Below w.heap.size w ((w.alloc (tyO k false 0 s a1 0 c1)).alloc (tyO k false 0 s a2 0 c2))) := bel2
  go_enter Tryd.func17, Tryd.ntmps17
  go_wp2_with fail
  go_loopw [5] (fun v V => v = .int .i64 0 ∧ V = (w.alloc (tyO k false 0 s a1 0 c1)).alloc (tyO k false 0 s a2 0 c2)) (fun v _ => 0)
  case atStart => exact ⟨rfl, rfl⟩
  case round =>
    obtain ⟨rfl, rfl⟩ := hrel
    go_wp2_with fail
    go_ret
    exact ⟨rfl, HB.out⟩
set_option maxRecDepth 100000 in
set_option maxHeartbeats 8000000 in
theorem sameT_one (k : Nat) (m : Bool) (r : Int) (a1 o1 c1 a2 o2 c2 : Nat) (f2 g2 : Fv) (w : World) (h1 : C5 w a1 o1 f2) (h2 : C5 w a2 o2 g2) (IH : ∀ W, Below w.heap.size w W → Calls Tryd.prog 17 #[f2.v, g2.v] W fun e w' => e = .returned (.bool true) ∧ Below W.heap.size W w') :
    Calls Tryd.prog 17 #[tyV k m r 0 (some ⟨a1, o1, none⟩) 1 c1, tyV k m r 0 (some ⟨a2, o2, none⟩) 1 c2] w fun e w' => e = .returned (.bool true) ∧ Below w.heap.size w w' := by
  have HI := hidD IH
  have H1 := hidD h1
  have H2 := hidD h2
  have A1 : Hid (At ((w.alloc (Fv.o ⟨k, m, r, 0, some ⟨a1, o1, none⟩, 1, c1⟩)).alloc (Fv.o ⟨k, m, r, 0, some ⟨a2, o2, none⟩, 1, c2⟩)) w.heap.size (Fv.o ⟨k, m, r, 0, some ⟨a1, o1, none⟩, 1, c1⟩)) := (At.new _ _).alloc _
  have A2 : Hid (At ((w.alloc (Fv.o ⟨k, m, r, 0, some ⟨a1, o1, none⟩, 1, c1⟩)).alloc (Fv.o ⟨k, m, r, 0, some ⟨a2, o2, none⟩, 1, c2⟩)) (w.heap.size + 1) (Fv.o ⟨k, m, r, 0, some ⟨a2, o2, none⟩, 1, c2⟩)) := at_snd _ _ _
  have HB : Hid (Below w.heap.size w ((w.alloc (Fv.o ⟨k, m, r, 0, some ⟨a1, o1, none⟩, 1, c1⟩)).alloc (Fv.o ⟨k, m, r, 0, some ⟨a2, o2, none⟩, 1, c2⟩))) := bel2
  clear h1 h2 IH
  go_enter Tryd.func17, Tryd.ntmps17
  go_wp2_with fail
  go_loopw [5] (fun v V => ∃ i : Nat, i ≤ 1 ∧ v = .int .i64 (i : Int) ∧ At V w.heap.size (Fv.o ⟨k, m, r, 0, some ⟨a1, o1, none⟩, 1, c1⟩) ∧ At V (w.heap.size + 1) (Fv.o ⟨k, m, r, 0, some ⟨a2, o2, none⟩, 1, c2⟩) ∧ Below w.heap.size w V) (fun v _ => 1 - (intOf v).toNat)
  case atStart => exact ⟨0, by omega, rfl, A1.out, A2.out, HB.out⟩
  case round =>
    clear A1 A2 HB
    obtain ⟨i, hi, rfl, hA1, hA2, hB⟩ := hrel
    have A1 := hidD hA1
    have A2 := hidD hA2
    have HB := hidD hB
    obtain ⟨-, x0, x1, x2, x3, x4⟩ := hA1.ty
    obtain ⟨-, y0, y1, y2, y3, y4⟩ := hA2.ty
    simp only [Nat.zero_add] at x0 x1 x2 x3 x4 y0 y1 y2 y3 y4
    clear hA1 hA2 hB
    have hi2 : i = 0 ∨ i = 1 := by omega
    rcases hi2 with rfl | rfl
    · clear hi
      go_upto_region 6 with fail
      refine beginH (S := fun W => Below wr.heap.size wr W) (fun _ _ _ _ _ h => h) (by kernel_rfl) (belN (Below.refl _ _) 1) (fun hq hHeld => ?_)
      refine takeH (i := 0) (d := 48) _ hq rfl rfl (by kernel_rfl) (by kernel_rfl) (by kernel_rfl) (by rfl) (fun W hSw => by (go_simp; try first | rfl | (rw [IntKind.wrap_i64]; omega) | (intro hh; exfalso; omega))) hHeld ?_
      try simp only [Act.put, List.setIfInBounds_toArray, List.set_cons_zero, List.set_cons_succ]
      refine takeH (i := 1) (d := 49) (.slice (some ⟨a1, o1, none⟩) 1 c1) hq rfl rfl (by kernel_rfl) (by kernel_rfl) (by kernel_rfl) (by rfl) (fun W hSw => by (obtain ⟨-, z0, z1, z2, z3, z4⟩ := (A1.out.below hSw).ty; simp only [Nat.zero_add] at z0 z1 z2 z3 z4; go_simp; try rfl)) hHeld ?_
      try simp only [Act.put, List.setIfInBounds_toArray, List.set_cons_zero, List.set_cons_succ]
      refine takeH (i := 2) (d := 50) _ hq rfl rfl (by kernel_rfl) (by kernel_rfl) (by kernel_rfl) (by rfl) (fun W hSw => by (go_simp; try first | rfl | (rw [IntKind.wrap_i64]; omega) | (intro hh; exfalso; omega))) hHeld ?_
      try simp only [Act.put, List.setIfInBounds_toArray, List.set_cons_zero, List.set_cons_succ]
      refine takeH (i := 3) (d := 51) (.pointer (some ⟨a1, o1, none⟩)) hq rfl rfl (by kernel_rfl) (by kernel_rfl) (by kernel_rfl) (by rfl) (fun W hSw => by (go_simp; try first | rfl | (rw [IntKind.wrap_i64]; omega) | (intro hh; exfalso; omega))) hHeld ?_
      try simp only [Act.put, List.setIfInBounds_toArray, List.set_cons_zero, List.set_cons_succ]
      refine takeH (i := 4) (d := 52) f2.v hq rfl rfl (by kernel_rfl) (by kernel_rfl) (by kernel_rfl) (by rfl) (fun W hSw => by (obtain ⟨-, z0, z1, z2, z3, z4⟩ := (H1.out.below (below_aft HB.out hSw)); go_simp; try rfl)) hHeld ?_
      try simp only [Act.put, List.setIfInBounds_toArray, List.set_cons_zero, List.set_cons_succ]
      refine takeH (i := 5) (d := 53) _ hq rfl rfl (by kernel_rfl) (by kernel_rfl) (by kernel_rfl) (by rfl) (fun W hSw => by (go_simp; try first | rfl | (rw [IntKind.wrap_i64]; omega) | (intro hh; exfalso; omega))) hHeld ?_
      try simp only [Act.put, List.setIfInBounds_toArray, List.set_cons_zero, List.set_cons_succ]
      refine takeH (i := 6) (d := 54) (.slice (some ⟨a2, o2, none⟩) 1 c2) hq rfl rfl (by kernel_rfl) (by kernel_rfl) (by kernel_rfl) (by rfl) (fun W hSw => by (obtain ⟨-, z0, z1, z2, z3, z4⟩ := (A2.out.below hSw).ty; simp only [Nat.zero_add] at z0 z1 z2 z3 z4; go_simp; try rfl)) hHeld ?_
      try simp only [Act.put, List.setIfInBounds_toArray, List.set_cons_zero, List.set_cons_succ]
      refine takeH (i := 7) (d := 55) _ hq rfl rfl (by kernel_rfl) (by kernel_rfl) (by kernel_rfl) (by rfl) (fun W hSw => by (go_simp; try first | rfl | (rw [IntKind.wrap_i64]; omega) | (intro hh; exfalso; omega))) hHeld ?_
      try simp only [Act.put, List.setIfInBounds_toArray, List.set_cons_zero, List.set_cons_succ]
      refine takeH (i := 8) (d := 56) (.pointer (some ⟨a2, o2, none⟩)) hq rfl rfl (by kernel_rfl) (by kernel_rfl) (by kernel_rfl) (by rfl) (fun W hSw => by (go_simp; try first | rfl | (rw [IntKind.wrap_i64]; omega) | (intro hh; exfalso; omega))) hHeld ?_
      try simp only [Act.put, List.setIfInBounds_toArray, List.set_cons_zero, List.set_cons_succ]
      refine takeH (i := 9) (d := 57) g2.v hq rfl rfl (by kernel_rfl) (by kernel_rfl) (by kernel_rfl) (by rfl) (fun W hSw => by (obtain ⟨-, z0, z1, z2, z3, z4⟩ := (H2.out.below (below_aft HB.out hSw)); go_simp; try rfl)) hHeld ?_
      try simp only [Act.put, List.setIfInBounds_toArray, List.set_cons_zero, List.set_cons_succ]
      refine wpAnyH_ready (rs := [10]) (by kernel_rfl) (by simp) ?_
      refine AllReadyH.cons rfl (fun K hK => ?_) AllReadyH.nil
      go_simp
      refine (HI.out _ (belN HB.out 1)).mono ?_
      rintro e v1 ⟨rfl, hb1⟩
      have hS1 : Below wr.heap.size wr v1 := below_aft (belN (Below.refl _ _) 1) hb1
      go_wp2_with fail
      refine hK.out _ _ hS1 (fun hHeld => ?_)
      clear hK K
      try simp only [Act.put, List.setIfInBounds_toArray, List.set_cons_zero, List.set_cons_succ]
      have HS1 := hidD hS1
      clear hb1 hS1
      refine takeH (i := 11) (d := 59) (.bool false) hq rfl rfl (by kernel_rfl) (by kernel_rfl) (by kernel_rfl) (by rfl) (fun W hSw => by (go_simp; try first | rfl | (rw [IntKind.wrap_i64]; omega) | (intro hh; exfalso; omega))) hHeld ?_
      try simp only [Act.put, List.setIfInBounds_toArray, List.set_cons_zero, List.set_cons_succ]
      refine wpAnyH_done (by kernel_rfl) ?_ _
      go_wp2_with fail
      exact ⟨⟨1, Nat.le_refl _, rfl, A1.out.below HS1.out, A2.out.below HS1.out, below_aft HB.out HS1.out⟩, by decide⟩
    · go_wp2_with fail
      go_ret
      exact ⟨rfl, HB.out⟩
/-- The reference's SameType, of one type twice. -/
theorem sameT_any : ∀ (c : Ch) (f g : Fv) (w : World), TyAt w f c.ty → TyAt w g c.ty → Calls Tryd.prog 17 #[f.v, g.v] w fun e w' => e = .returned (.bool true) ∧ Below w.heap.size w w'
  | .leaf k s, f, g, w, h1, h2 => by
    obtain ⟨a1, c1, rfl, -⟩ := h1.leaf
    obtain ⟨a2, c2, rfl, -⟩ := h2.leaf
    exact sameT_leaf k s a1 c1 a2 c2 w
  | .box c, f, g, w, h1, h2 => by
    obtain ⟨g1, o1, c1, f2, rfl, hc1, ht1⟩ := h1.box
    obtain ⟨g2, o2, c2, f3, rfl, hc2, ht2⟩ := h2.box
    exact sameT_one 3 false 0 g1 o1 c1 g2 o2 c2 f2 f3 w hc1 hc2 (fun W hW => sameT_any c f2 f3 W (ht1.bel hW) (ht2.bel hW))
  | .ref m r c, f, g, w, h1, h2 => by
    obtain ⟨g1, o1, c1, f2, rfl, hc1, ht1, -⟩ := h1.ref
    obtain ⟨g2, o2, c2, f3, rfl, hc2, ht2, -⟩ := h2.ref
    exact sameT_one 4 m r g1 o1 c1 g2 o2 c2 f2 f3 w hc1 hc2 (fun W hW => sameT_any c f2 f3 W (ht1.bel hW) (ht2.bel hW))
end Go.Proofs.YtnohcppipkpgmaaDoor
namespace Go.Proofs.YtnohcppipkpgmaaDoor
open Go.RowKit Go.Shelf
set_option linter.unusedVariables false
set_option linter.unusedSimpArgs false

/-- Nothing is appended: at an operation of a region. -/
theorem wp_append_none {w : World} {o : Oper} {a : Act} {K : Act → World → Prop} {Q : Exit → Act → World → Prop} (s x : Operand) (t : TypeId)
    (ho : o.op = .call { callee := .builtin .append, args := #[s, x], argTypes := #[t, t] })
    (base : Nat) (e : TypeId) (i : TypeInfo) (size : Nat) (ht : Tryd.prog.underlying t = some (.slice e)) (hi : Tryd.prog.info? e = some i)
    (v : Value) (n : Nat) (xs : List Value) (hs : a.eval s = v) (hown : w.ownsRow base e size v n xs) (hx : a.eval x = .slice none 0 0)
    (h : K (a.put o.dst v) w) : o.wp Tryd.prog a w K Q := by
  have hrun := run_append_owned_none (P := Tryd.prog) (w := w) base t o.type e i size ht hi v n xs hown
  unfold Oper.wp
  simp [execOp, ho, resolve, invoke, builtin, hs, hx, hrun, Result.andThen]
  exact h
theorem Tryd.results42 : Tryd.f42.results = #[.cell 4 26] := rfl
theorem At.set1 {w : World} {b : Nat} {l : Int} {a a' : Option Addr} {n cap n' cap' : Nat} (h : At w b (plO l a n cap)) : At (w.setCell ⟨b, 1, none⟩ (.slice a' n' cap')) b (plO l a' n' cap') := heap_setCell_same w b 1 _ 26 (.slice a' n' cap') h
set_option maxRecDepth 100000 in
set_option maxHeartbeats 8000000 in
/-- The reference's cut. -/
theorem rcut_own {w : World} {x : Pt} {p : List Int} (hP : PAt w x p) (i : Nat) (hi : i ≤ p.length) (hn : p.length ≤ 60) :
    Calls Tryd.prog 42 #[x.v, .int .i64 (i : Int)] w fun e w' => ∃ a cap, e = .returned (plV x.l a i cap) ∧ PAt w' ⟨x.l, a, i, cap⟩ (p.take i) ∧ (∀ ad, a = some ad → w.heap.size ≤ ad.block) ∧ Below w.heap.size w w' ∧ w'.ownsRow w.heap.size 62 1 (.slice a i cap) i ((p.take i).map (.int .i64)) := by
  have hm : x.n = p.length := hP.row.len
  have hcap : x.n ≤ x.cap := hP.row.le
  have hl : -9223372036854775808 ≤ x.l ∧ x.l ≤ 9223372036854775807 := ⟨hP.l0, hP.l1⟩
  have hr := hP.row.rng
  have HA0 : Hid (At (((w.alloc x.o).alloc (plO 0 none 0 0)).alloc (plO 0 none 0 0)) w.heap.size x.o) := ((At.new w x.o).alloc _).alloc _
  have HR0 : Hid (At (((w.alloc x.o).alloc (plO 0 none 0 0)).alloc (plO 0 none 0 0)) (w.heap.size + 1) (plO 0 none 0 0)) := (at_snd w x.o (plO 0 none 0 0)).alloc _
  have HO0 : Hid (At (((w.alloc x.o).alloc (plO 0 none 0 0)).alloc (plO 0 none 0 0)) (w.heap.size + 1 + 1) (plO 0 none 0 0)) := hidD (by
    have := At.new ((w.alloc x.o).alloc (plO 0 none 0 0)) (plO 0 none 0 0)
    simpa only [World.size_alloc] using this)
  have HB0 : Hid (Below w.heap.size w (((w.alloc x.o).alloc (plO 0 none 0 0)).alloc (plO 0 none 0 0))) := bel3
  have HP := hidD hP
  obtain ⟨l, pa, m, pcap⟩ := x
  obtain ⟨i62, hi62, hz62, hs62, hb62⟩ := info_parts Tryd.info62
  have hm2 : m = p.length := hm
  have hc2 : m ≤ pcap := hcap
  have k0 : (0 : Int) ≤ (i : Int) := by omega
  have k1 : (i : Int) ≤ (pcap : Int) := by omega
  have k2 : (i : Int) ≤ 60 := by omega
  have k3 : i ≤ pcap := by omega
  have HL : Hid (-9223372036854775808 ≤ l ∧ l ≤ 9223372036854775807) := hl
  have HRG := hidD hr
  have HI : Hid (i ≤ p.length ∧ p.length ≤ 60) := ⟨hi, hn⟩
  have L1 : Hid (((p.take i).map (Value.int .i64)).length = i * 1) := (by rw [List.length_map, List.length_take]; omega : ((p.take i).map (Value.int .i64)).length = i * 1)
  have O1 : Hid (∀ u ∈ (p.take i).map (Value.int .i64), u.oneCell' = true) := fun u hu => by
    obtain ⟨y, -, rfl⟩ := List.mem_map.1 hu
    rfl
  -- behind the region: what is answered
  have FIN : Hid (∀ (V : World) (a : Option Addr) (cap : Nat), V.ownsRow w.heap.size 62 1 (.slice a i cap) i ((p.take i).map (.int .i64)) → At V (w.heap.size + 1) (plO 0 none 0 0) → At V (w.heap.size + 1 + 1) (plO l none 0 0) → Below w.heap.size w V → ∀ w9, w9 = S2 (V.setCell ⟨w.heap.size + 1 + 1, 1, none⟩ (.slice a i cap)) (w.heap.size + 1) ⟨l, a, i, cap⟩ → At w9 (w.heap.size + 1) (plO l a i cap) ∧ PAt w9 ⟨l, a, i, cap⟩ (p.take i) ∧ (∀ ad, a = some ad → w.heap.size ≤ ad.block) ∧ Below w.heap.size w w9 ∧ w9.ownsRow w.heap.size 62 1 (.slice a i cap) i ((p.take i).map (.int .i64))) := fun V a cap ho h1 h2 hB w9 hw => by
    rw [hw]
    have hr1 : (V.setCell ⟨w.heap.size + 1 + 1, 1, none⟩ (.slice a i cap)).ownsRow w.heap.size 62 1 (.slice a i cap) i ((p.take i).map (.int .i64)) := own_grow ho ((But.refl (w.heap.size + 1 + 1) V).set 1 _) (fun k hk e => row62_ne (x := ⟨l, none, 0, 0⟩) ho h2 (by rw [hk, e]))
    have h1' : At (V.setCell ⟨w.heap.size + 1 + 1, 1, none⟩ (.slice a i cap)) (w.heap.size + 1) (plO 0 none 0 0) := h1.set (by show w.heap.size + 1 ≠ w.heap.size + 1 + 1; omega) _
    have hr2 := own_grow hr1 (but_s2 _ (w.heap.size + 1) ⟨l, a, i, cap⟩) (fun k hk e => row62_ne (x := ⟨0, none, 0, 0⟩) hr1 h1' (by rw [hk, e]))
    have hlen : i = (p.take i).length := by rw [List.length_take]; have := HI.out; omega
    refine ⟨h1'.set2 (x := ⟨0, none, 0, 0⟩) ⟨l, a, i, cap⟩, ⟨?_, HL.out.1, HL.out.2⟩, fun ad e => ?_, below_s2 (hB.setCell (p := ⟨w.heap.size + 1 + 1, 1, none⟩) (by show w.heap.size ≤ w.heap.size + 1 + 1; omega) _) (by omega) _, hr2⟩
    · have hT : ∀ (T : List Int) (V : World), T.length = i → (∀ x ∈ T, -9223372036854775808 ≤ x ∧ x ≤ 9223372036854775807) → V.ownsRow w.heap.size 62 1 (.slice a i cap) i (T.map (.int .i64)) → IntR V a i cap T := fun T V hl hr h => by
        subst hl
        exact row_int (n := 0) h hr
      exact hT _ _ hlen.symm (fun x hx => HRG.out x (List.mem_of_mem_take hx)) hr2
    · subst e
      rcases ho.2 with ⟨e0, -⟩ | ⟨g', cap', cur, e0, h3, -⟩
      · cases e0
      · cases e0
        exact h3
  show Calls Tryd.prog 42 #[plV l pa m pcap, .int .i64 (i : Int)] w _
  have C1 : Hid (∀ ad, pa = some ad → ∀ V, Below w.heap.size w V → ∀ j u, ((p.take i).map (Value.int .i64))[j]? = some u → V.cell? (ad.add j) = some u) := fun ad e V hV j u hu => by
    rw [List.getElem?_map, Option.map_eq_some_iff] at hu
    obtain ⟨y, hy, rfl⟩ := hu
    rw [List.getElem?_take] at hy
    split at hy
    · obtain ⟨g', off', e', hg', hc', -⟩ := HP.out.row.nth hy
      have e2 : pa = some ⟨g', off', none⟩ := e'
      rw [e] at e2
      cases e2
      rw [Addr.add_lit]
      exact (hV.cell (p := ⟨g', off' + j, none⟩) hg').trans hc'
    · cases hy
  have NIL : Hid (pa = none → i = 0 ∧ m = 0 ∧ pcap = 0 ∧ p.take i = []) := fun e => by
    have h0 : pcap = 0 := HP.out.row.nil e
    have h1 : i = 0 := by omega
    exact ⟨h1, by omega, h0, by rw [h1]; rfl⟩
  clear hP hm hcap hl hr hm2 hc2 hi hn HP
  go_enter Tryd.func42, Tryd.ntmps42
  go_upto_region 2 with (((with_reducible show wpList _ _ _ (Oper.mk none (Op.store 26 _ _) _ _ _ none :: _) _ _); refine wpl_storeP (w.heap.size + 1 + 1) ⟨0, none, 0, 0⟩ ⟨l, none, 0, 0⟩ HO0.out rfl rfl ?_; intro w1 hw1))
  have HA : Hid (At w1 w.heap.size (plO l pa m pcap)) := by rw [hw1]; exact HA0.out.S2 (by omega) _
  have HR : Hid (At w1 (w.heap.size + 1) (plO 0 none 0 0)) := by rw [hw1]; exact HR0.out.S2 (by omega) _
  have HO : Hid (At w1 (w.heap.size + 1 + 1) (plO l none 0 0)) := by rw [hw1]; exact HO0.out.set2 (x := ⟨0, none, 0, 0⟩) ⟨l, none, 0, 0⟩
  have HB : Hid (Below w.heap.size w w1) := by rw [hw1]; exact below_s2 HB0.out (by omega) _
  clear hw1 HA0 HR0 HO0 HB0
  obtain ⟨x0, x1⟩ := HA.out.pl
  obtain ⟨o0, o1⟩ := HO.out.pl
  cases pa with
  | none =>
    obtain ⟨h1, h2, h3, h4⟩ := NIL.out rfl
    subst h1 h2 h3
    clear NIL C1
    refine beginH (S := fun W => W.cell? ⟨w.heap.size, 1, none⟩ = some (.slice none 0 0)) (fun _ _ _ _ _ h => h) (by kernel_rfl) x1 (fun hq hHeld => ?_)
    refine takeH (i := 0) (d := 9) _ hq rfl rfl (by kernel_rfl) (by kernel_rfl) (by kernel_rfl) (by rfl) (fun W hSw => by (go_simp; try first | rfl | (rw [IntKind.wrap_i64]; omega) | (intro hh; exfalso; omega))) hHeld ?_
    try simp only [Act.put, List.setIfInBounds_toArray, List.set_cons_zero, List.set_cons_succ]
    refine takeH (i := 2) (d := 11) _ hq rfl rfl (by kernel_rfl) (by kernel_rfl) (by kernel_rfl) (by rfl) (fun W hSw => by (go_simp; try first | rfl | (rw [IntKind.wrap_i64]; omega) | (intro hh; exfalso; omega))) hHeld ?_
    try simp only [Act.put, List.setIfInBounds_toArray, List.set_cons_zero, List.set_cons_succ]
    refine takeH (i := 3) (d := 12) (.slice none 0 0) hq rfl rfl (by kernel_rfl) (by kernel_rfl) (by kernel_rfl) (by rfl) (fun W hSw => by (have z1 := hSw; go_simp; try rfl)) hHeld ?_
    try simp only [Act.put, List.setIfInBounds_toArray, List.set_cons_zero, List.set_cons_succ]
    refine takeH (i := 4) (d := 13) _ hq rfl rfl (by kernel_rfl) (by kernel_rfl) (by kernel_rfl) (by rfl) (fun W hSw => by (go_simp; try first | rfl | (rw [IntKind.wrap_i64]; omega) | (intro hh; exfalso; omega))) hHeld ?_
    try simp only [Act.put, List.setIfInBounds_toArray, List.set_cons_zero, List.set_cons_succ]
    refine takeH (i := 5) (d := 14) (.slice none 0 0) hq rfl rfl (by kernel_rfl) (by kernel_rfl) (by kernel_rfl) (by rfl) (fun W hSw => by (go_simp; try first | rfl | (rw [IntKind.wrap_i64]; omega) | (intro hh; exfalso; omega))) hHeld ?_
    try simp only [Act.put, List.setIfInBounds_toArray, List.set_cons_zero, List.set_cons_succ]
    refine wpAnyH_ready (rs := [1]) (by kernel_rfl) (by simp) ?_
    refine AllReadyH.cons rfl (fun K hK => ?_) AllReadyH.nil
    go_simp
    go_wp2_with fail
    refine hK.out _ _ HA.out.pl.2 (fun hHeld => ?_)
    clear hK K
    try simp only [Act.put, List.setIfInBounds_toArray, List.set_cons_zero, List.set_cons_succ]
    refine wpAnyH_ready (rs := [6]) (by kernel_rfl) (by simp) ?_
    refine AllReadyH.cons rfl (fun K hK => ?_) AllReadyH.nil
    refine wp_append_none (.tmp 10) (.tmp 14) 24 rfl w.heap.size 62 i62 1 Tryd.underlying24 hi62 (.slice none 0 0) 0 [] rfl (World.ownsRow_nil _ _ _ _) rfl ?_
    refine hK.out _ _ HA.out.pl.2 (fun hHeld => ?_)
    clear hK K
    try simp only [Act.put, List.setIfInBounds_toArray, List.set_cons_zero, List.set_cons_succ]
    have HV : Hid (w1.drew.ownsRow w.heap.size 62 1 (.slice none 0 0) 0 ((p.take 0).map (.int .i64)) ∧ At w1.drew (w.heap.size + 1) (plO 0 none 0 0) ∧ At w1.drew (w.heap.size + 1 + 1) (plO l none 0 0) ∧ Below w.heap.size w w1.drew ∧ At w1.drew w.heap.size (plO l none 0 0)) := ⟨World.ownsRow_nil _ _ _ _, HR.out.drew, HO.out.drew, belN HB.out 1, HA.out.drew⟩
    obtain ⟨w3, hw3⟩ : ∃ w3, w3 = w1.drew := ⟨_, rfl⟩
    rw [← hw3] at HV hHeld ⊢
    clear hw3
    refine takeH (i := 7) (d := 16) _ hq rfl rfl (by kernel_rfl) (by kernel_rfl) (by kernel_rfl) (by rfl) (fun W hSw => by (go_simp; try first | rfl | (rw [IntKind.wrap_i64]; omega) | (intro hh; exfalso; omega))) hHeld ?_
    try simp only [Act.put, List.setIfInBounds_toArray, List.set_cons_zero, List.set_cons_succ]
    refine wpAnyH_ready (rs := [8]) (by kernel_rfl) (by simp) ?_
    refine AllReadyH.cons rfl (fun K hK => ?_) AllReadyH.nil
    have q1 := HV.out.2.2.1.pl.2
    have f1 := HV.out.2.2.1.plF (x := ⟨l, none, 0, 0⟩) 1
    go_simp
    go_wp2_with fail
    obtain ⟨w4, hw4⟩ : ∃ w4, w4 = w3.setCell ⟨w.heap.size + 1 + 1, 1, none⟩ (.slice none 0 0) := ⟨_, rfl⟩
    rw [← hw4]
    have HO4 : Hid (At w4 (w.heap.size + 1 + 1) (plO l none 0 0)) := by rw [hw4]; exact HV.out.2.2.1.set1
    have HR4 : Hid (At w4 (w.heap.size + 1) (plO 0 none 0 0)) := by rw [hw4]; exact HV.out.2.1.set (by show w.heap.size + 1 ≠ w.heap.size + 1 + 1; omega) _
    have HA4 : Hid (At w4 w.heap.size (plO l none 0 0)) := by rw [hw4]; exact HV.out.2.2.2.2.set (by show w.heap.size ≠ w.heap.size + 1 + 1; omega) _
    refine hK.out _ _ HA4.out.pl.2 (fun hHeld => ?_)
    clear hK K q1 f1
    try simp only [Act.put, List.setIfInBounds_toArray, List.set_cons_zero, List.set_cons_succ]
    refine wpAnyH_done (by kernel_rfl) ?_ _
    obtain ⟨q0, q1⟩ := HO4.out.pl
    obtain ⟨r0, r1⟩ := HR4.out.pl
    have f0 := HR4.out.plF (x := ⟨0, none, 0, 0⟩) 0
    have f1 := HR4.out.plF (x := ⟨0, none, 0, 0⟩) 1
    have F9 := hidD (FIN.out w3 none 0 HV.out.1 HV.out.2.1 HV.out.2.2.1 HV.out.2.2.2.1 (S2 w4 (w.heap.size + 1) ⟨l, none, 0, 0⟩) (by rw [hw4]))
    clear hw4
    go_wp2_with fail
    exact bodyPost_ret (results_p1 (g := ⟨l, none, 0, 0⟩) Tryd.results42 rfl F9.out.1) rfl ⟨none, 0, rfl, F9.out.2.1, F9.out.2.2.1, F9.out.2.2.2⟩
  | some ad =>
    clear NIL
    refine beginH (S := fun W => W.cell? ⟨w.heap.size, 1, none⟩ = some (.slice (some ad) m pcap)) (fun _ _ _ _ _ h => h) (by kernel_rfl) x1 (fun hq hHeld => ?_)
    refine takeH (i := 0) (d := 9) _ hq rfl rfl (by kernel_rfl) (by kernel_rfl) (by kernel_rfl) (by rfl) (fun W hSw => by (go_simp; try first | rfl | (rw [IntKind.wrap_i64]; omega) | (intro hh; exfalso; omega))) hHeld ?_
    try simp only [Act.put, List.setIfInBounds_toArray, List.set_cons_zero, List.set_cons_succ]
    refine takeH (i := 2) (d := 11) _ hq rfl rfl (by kernel_rfl) (by kernel_rfl) (by kernel_rfl) (by rfl) (fun W hSw => by (go_simp; try first | rfl | (rw [IntKind.wrap_i64]; omega) | (intro hh; exfalso; omega))) hHeld ?_
    try simp only [Act.put, List.setIfInBounds_toArray, List.set_cons_zero, List.set_cons_succ]
    refine takeH (i := 3) (d := 12) (.slice (some ad) m pcap) hq rfl rfl (by kernel_rfl) (by kernel_rfl) (by kernel_rfl) (by rfl) (fun W hSw => by (have z1 := hSw; go_simp; try rfl)) hHeld ?_
    try simp only [Act.put, List.setIfInBounds_toArray, List.set_cons_zero, List.set_cons_succ]
    refine takeH (i := 4) (d := 13) _ hq rfl rfl (by kernel_rfl) (by kernel_rfl) (by kernel_rfl) (by rfl) (fun W hSw => by (go_simp; try first | rfl | (rw [IntKind.wrap_i64]; omega) | (intro hh; exfalso; omega))) hHeld ?_
    try simp only [Act.put, List.setIfInBounds_toArray, List.set_cons_zero, List.set_cons_succ]
    refine takeH (i := 5) (d := 14) (.slice (some ad) i pcap) hq rfl rfl (by kernel_rfl) (by kernel_rfl) (by kernel_rfl) (by rfl) (fun W hSw => by (go_simp; try first | rfl | (rw [IntKind.wrap_i64]; omega) | (intro hh; exfalso; omega))) hHeld ?_
    try simp only [Act.put, List.setIfInBounds_toArray, List.set_cons_zero, List.set_cons_succ]
    refine wpAnyH_ready (rs := [1]) (by kernel_rfl) (by simp) ?_
    refine AllReadyH.cons rfl (fun K hK => ?_) AllReadyH.nil
    go_simp
    go_wp2_with fail
    refine hK.out _ _ HA.out.pl.2 (fun hHeld => ?_)
    clear hK K
    try simp only [Act.put, List.setIfInBounds_toArray, List.set_cons_zero, List.set_cons_succ]
    refine wpAnyH_ready (rs := [6]) (by kernel_rfl) (by simp) ?_
    refine AllReadyH.cons rfl (fun K hK => ?_) AllReadyH.nil
    refine wp_append_own _ (.tmp 10) (.tmp 14) 24 rfl w.heap.size 62 i62 (.int .i64 0) 1 8 Tryd.underlying24 hi62 hz62 hs62 hb62 rfl (by omega) (.slice none 0 0) 0 [] rfl (World.ownsRow_nil _ _ _ _) ad i pcap ((p.take i).map (.int .i64)) rfl L1.out (C1.out ad rfl _ (belN HB.out 1)) O1.out (by unfold maxLen; have := HI.out; omega) (by have := HI.out; omega) (by have := HB.out.size; show _ ≤ w1.heap.size; omega) ?_
    intro v3 w3 ho3 hg3 hn3
    simp only [Nat.zero_add, List.nil_append] at ho3
    obtain ⟨a3, c3, rfl⟩ := own_sl ho3
    have HV : Hid (w3.ownsRow w.heap.size 62 1 (.slice a3 i c3) i ((p.take i).map (.int .i64)) ∧ At w3 (w.heap.size + 1) (plO 0 none 0 0) ∧ At w3 (w.heap.size + 1 + 1) (plO l none 0 0) ∧ Below w.heap.size w w3 ∧ At w3 w.heap.size (plO l (some ad) m pcap)) := ⟨ho3, HR.out.drew.grown hg3 (fun e => by cases e), HO.out.drew.grown hg3 (fun e => by cases e), grow_bel (belN HB.out 1) hg3 (by have := HB.out.size; show _ ≤ w1.heap.size; omega) (fun k e => by cases e), HA.out.drew.grown hg3 (fun e => by cases e)⟩
    clear ho3 hg3 hn3
    refine hK.out _ _ HV.out.2.2.2.2.pl.2 (fun hHeld => ?_)
    clear hK K
    try simp only [Act.put, List.setIfInBounds_toArray, List.set_cons_zero, List.set_cons_succ]
    refine takeH (i := 7) (d := 16) _ hq rfl rfl (by kernel_rfl) (by kernel_rfl) (by kernel_rfl) (by rfl) (fun W hSw => by (go_simp; try first | rfl | (rw [IntKind.wrap_i64]; omega) | (intro hh; exfalso; omega))) hHeld ?_
    try simp only [Act.put, List.setIfInBounds_toArray, List.set_cons_zero, List.set_cons_succ]
    refine wpAnyH_ready (rs := [8]) (by kernel_rfl) (by simp) ?_
    refine AllReadyH.cons rfl (fun K hK => ?_) AllReadyH.nil
    have q1 := HV.out.2.2.1.pl.2
    have f1 := HV.out.2.2.1.plF (x := ⟨l, none, 0, 0⟩) 1
    go_simp
    go_wp2_with fail
    obtain ⟨w4, hw4⟩ : ∃ w4, w4 = w3.setCell ⟨w.heap.size + 1 + 1, 1, none⟩ (.slice a3 i c3) := ⟨_, rfl⟩
    rw [← hw4]
    have HO4 : Hid (At w4 (w.heap.size + 1 + 1) (plO l a3 i c3)) := by rw [hw4]; exact HV.out.2.2.1.set1
    have HR4 : Hid (At w4 (w.heap.size + 1) (plO 0 none 0 0)) := by rw [hw4]; exact HV.out.2.1.set (by show w.heap.size + 1 ≠ w.heap.size + 1 + 1; omega) _
    have HA4 : Hid (At w4 w.heap.size (plO l (some ad) m pcap)) := by rw [hw4]; exact HV.out.2.2.2.2.set (by show w.heap.size ≠ w.heap.size + 1 + 1; omega) _
    refine hK.out _ _ HA4.out.pl.2 (fun hHeld => ?_)
    clear hK K q1 f1
    try simp only [Act.put, List.setIfInBounds_toArray, List.set_cons_zero, List.set_cons_succ]
    refine wpAnyH_done (by kernel_rfl) ?_ _
    obtain ⟨q0, q1⟩ := HO4.out.pl
    obtain ⟨r0, r1⟩ := HR4.out.pl
    have f0 := HR4.out.plF (x := ⟨0, none, 0, 0⟩) 0
    have f1 := HR4.out.plF (x := ⟨0, none, 0, 0⟩) 1
    have F9 := hidD (FIN.out w3 a3 c3 HV.out.1 HV.out.2.1 HV.out.2.2.1 HV.out.2.2.2.1 (S2 w4 (w.heap.size + 1) ⟨l, a3, i, c3⟩) (by rw [hw4]))
    clear hw4
    go_wp2_with fail
    exact bodyPost_ret (results_p1 (g := ⟨l, a3, i, c3⟩) Tryd.results42 rfl F9.out.1) rfl ⟨a3, c3, rfl, F9.out.2.1, F9.out.2.2.1, F9.out.2.2.2⟩
theorem rcut_any {w : World} {x : Pt} {p : List Int} (hP : PAt w x p) (i : Nat) (hi : i ≤ p.length) (hn : p.length ≤ 60) :
    Calls Tryd.prog 42 #[x.v, .int .i64 (i : Int)] w fun e w' => ∃ a cap, e = .returned (plV x.l a i cap) ∧ PAt w' ⟨x.l, a, i, cap⟩ (p.take i) ∧ (∀ ad, a = some ad → w.heap.size ≤ ad.block) ∧ Below w.heap.size w w' :=
  (rcut_own hP i hi hn).mono fun e w' ⟨a, cap, k1, k2, k3, k4, _⟩ => ⟨a, cap, k1, k2, k3, k4⟩
end Go.Proofs.YtnohcppipkpgmaaDoor
namespace Go.Proofs.YtnohcppipkpgmaaDoor
open Go.RowKit Go.Shelf
set_option linter.unusedVariables false
set_option linter.unusedSimpArgs false

theorem cell_but {b : Nat} {V V' : World} (k : But b V V') {g o : Nat} (hg : g < V.heap.size) (hne : g ≠ b) : V'.cell? ⟨g, o, none⟩ = V.cell? ⟨g, o, none⟩ := by
  have := k.block g hg (fun e => hne (Option.some.inj e))
  simp only [World.cell?, this]
theorem PAt.but {b : Nat} {V V' : World} {x : Pt} {p : List Int} (h : PAt V x p) (k : But b V V') (hne : ∀ ad, x.a = some ad → ad.block ≠ b) : PAt V' x p := by
  refine ⟨⟨h.row.len, h.row.le, h.row.big, fun hp => ?_, h.row.rng, h.row.nil⟩, h.l0, h.l1⟩
  obtain ⟨g, off, e, hg, hc⟩ := h.row.cells hp
  exact ⟨g, off, e, Nat.lt_of_lt_of_le hg k.size, fun i y hy => (cell_but k hg (hne _ e)).trans (hc i y hy)⟩
theorem Tryd.results20 : Tryd.f20.results = #[.cell 6 26] := rfl
theorem get_bang {l : List Int} {i : Nat} {g : Int} (h : l[i]? = some g) : l[i]! = g := by
  rw [List.getElem!_eq_getElem?_getD, h]
  rfl
set_option maxRecDepth 100000 in
set_option maxHeartbeats 8000000 in
/-- The reference's Held, of a place that may be. -/
theorem rHeld_any {w0 w : World} (hB0 : Below w0.heap.size w0 w) {a la : Option Addr} {n cap ln lcap : Nat} {ok : Bool} {fc : Nat → List Ch} {cl : List Ch} (hC : Cx w0 a la n cap ln lcap ok fc cl) (h40 : ∀ W, Below w0.heap.size w0 W → Calls Tryd.prog 40 #[.slice a n cap, .slice la ln lcap] W fun e w' => e = .returned (.bool ok) ∧ Below W.heap.size W w') {x : Pt} {p : List Int} (hP : PAt w x p) {c : Ch} {gs : List Int} (hR : wyX ok fc cl x.l p = some (c, gs)) :
    Calls Tryd.prog 20 #[.slice a n cap, .slice la ln lcap, x.v] w fun e w' => ∃ b bc, e = .returned (plV x.l b (heldN gs) bc) ∧ PAt w' ⟨x.l, b, heldN gs, bc⟩ (p.take (heldN gs)) ∧ (∀ ad, b = some ad → w.heap.size ≤ ad.block) ∧ Below w.heap.size w w' := by
  have hok := wyX_ok hC hR
  have hgl : gs.length = p.length := hok.2.2.1
  have hp8 : p.length ≤ 8 := hok.2.2.2.1
  have hrng := hok.2.2.2.2.1
  have hle := heldN_le gs
  have HA0 : Hid (At ((w.alloc x.o).alloc (plO 0 none 0 0)) w.heap.size x.o) := (At.new w x.o).alloc _
  have HR0 : Hid (At ((w.alloc x.o).alloc (plO 0 none 0 0)) (w.heap.size + 1) (plO 0 none 0 0)) := at_snd _ _ _
  have HB0 : Hid (Below w.heap.size w ((w.alloc x.o).alloc (plO 0 none 0 0))) := bel2
  have CW : Hid (Calls Tryd.prog 15 #[.slice a n cap, .slice la ln lcap, x.v] ((w.alloc x.o).alloc (plO 0 none 0 0)) fun e w' => (∃ z : Wy, e = .returned (.tuple #[z.f.v, .slice z.ga z.gn z.gcap, .bool true]) ∧ WayIs w0 ((w.alloc x.o).alloc (plO 0 none 0 0)) w' z c gs) ∧ Below ((w.alloc x.o).alloc (plO 0 none 0 0)).heap.size ((w.alloc x.o).alloc (plO 0 none 0 0)) w') := rWalk_any (below_aft hB0 bel2) hC h40 (hP.bel bel2) _ hR.symm
  have CC : Hid (∀ V, Below w.heap.size w V → Calls Tryd.prog 42 #[x.v, .int .i64 (heldN gs : Int)] V fun e w' => ∃ b bc, e = .returned (plV x.l b (heldN gs) bc) ∧ PAt w' ⟨x.l, b, heldN gs, bc⟩ (p.take (heldN gs)) ∧ (∀ ad, b = some ad → V.heap.size ≤ ad.block) ∧ Below V.heap.size V w') := fun V hV => rcut_any (hP.bel hV) (heldN gs) (by omega) (by omega)
  obtain ⟨l, pa, m, pcap⟩ := x
  have HRNG : Hid (∀ g ∈ gs, 0 ≤ g ∧ g ≤ 3) := hrng
  have HG : Hid (gs.length ≤ 8) := (by omega : gs.length ≤ 8)
  obtain ⟨hn, hhn⟩ : ∃ hn, hn = heldN gs := ⟨_, rfl⟩
  rw [← hhn] at CC hle ⊢
  have HHN := hidD hhn
  have HLE := hidD hle
  show Calls Tryd.prog 20 #[.slice a n cap, .slice la ln lcap, plV l pa m pcap] w _
  clear hok hgl hp8 hrng hC h40 hP hR hB0 hhn hle
  go_enter Tryd.func20, Tryd.ntmps20
  go_upto_region 3 with (first
    | (go_at_call 15; refine CW.out.mono ?_; rintro e w1 ⟨⟨z, rfl, hz⟩, hb1⟩; have HZ := hidD hz; have HB1 := hidD hb1; clear hz hb1)
    | ((with_reducible show wpList _ _ _ (Oper.mk none (Op.store 32 _ _) _ _ _ none :: _) _ _); refine wpl_storeT w1.heap.size zT z.f (At.new w1 _) rfl rfl ?_; intro w2 hw2))
  have HB2 : Hid (Below w1.heap.size w1 w2) := by rw [hw2]; exact below_S5 (belA (Below.refl _ _)) (Nat.le_refl _) _
  have HA : Hid (At w2 w.heap.size (plO l pa m pcap)) := (HA0.out.below HB1.out).below HB2.out
  have HR : Hid (At w2 (w.heap.size + 1) (plO 0 none 0 0)) := (HR0.out.below HB1.out).below HB2.out
  have HB : Hid (Below w.heap.size w w2) := below_aft (below_aft HB0.out HB1.out) HB2.out
  have HI : Hid (IntR w2 z.ga z.gn z.gcap gs) := by
    have h1 := HZ.out.row
    have h2 := HZ.out.gn
    rw [h2] at h1 ⊢
    exact (own_int h1 (fun g hg => by have := HRNG.out g hg; omega)).bel HB2.out
  have HZN : Hid (z.gn = gs.length) := HZ.out.gn
  obtain ⟨⟨zf, ga, gn, gcap⟩, rfl⟩ : ∃ z', z' = z := ⟨z, rfl⟩
  clear hw2 HB1 HB2 HA0 HR0 HB0 HZ CW
  go_loopw [10] (fun v V => ∃ i : Nat, i ≤ hn ∧ v = .int .i64 (i : Int) ∧ V = w2) (fun v _ => hn - (intOf v).toNat)
  case atStart => exact ⟨0, Nat.zero_le _, rfl, rfl⟩
  case round =>
    obtain ⟨i, hi, rfl, rfl⟩ := hrel
    have hzn : gn = gs.length := HZN.out
    have i0 : (0 : Int) ≤ (i : Int) := by omega
    have i2 : (i : Int) ≤ 8 := by have := HG.out; have := HLE.out; omega
    by_cases hlt : i < hn
    · have hil : i < gs.length := by have := HLE.out; omega
      obtain ⟨g, hg⟩ : ∃ g, gs[i]? = some g := ⟨_, List.getElem?_eq_getElem hil⟩
      obtain ⟨b1, off, ea, hgl, hc, -⟩ := HI.out.nth hg
      have ea2 : ga = some ⟨b1, off, none⟩ := ea
      subst ea2
      have hb := heldN_before gs i (by have := HHN.out; omega)
      rw [get_bang hg] at hb
      have hgr := HRNG.out g (List.mem_of_getElem? hg)
      have g2 : g < 2 := by
        unfold isR at hb
        simp at hb
        omega
      have i1 : (i : Int) < (gn : Int) := by omega
      have HLT := hidD hlt
      clear hg ea hb hgr hi hlt hzn hil
      go_wp2_with fail
      refine ⟨⟨i + 1, HLT.out, rfl, trivial⟩, ?_⟩
      show hn - ((i : Int) + 1).toNat < hn - (i : Int).toNat
      have := HLT.out
      omega
    · obtain rfl : i = hn := by omega
      clear hlt hi
      obtain ⟨x0, x1⟩ := HA.out.pl
      have FIN : Hid (∀ V b bc, Below wr.heap.size wr V → PAt V ⟨l, b, i, bc⟩ (p.take i) → (∀ ad, b = some ad → wr.heap.size ≤ ad.block) → (At (S2 V (w.heap.size + 1) ⟨l, b, i, bc⟩) (w.heap.size + 1) (plO l b i bc) ∧ PAt (S2 V (w.heap.size + 1) ⟨l, b, i, bc⟩) ⟨l, b, i, bc⟩ (p.take i) ∧ (∀ ad, b = some ad → w.heap.size ≤ ad.block) ∧ Below w.heap.size w (S2 V (w.heap.size + 1) ⟨l, b, i, bc⟩))) := fun V b bc hV hp hlo => by
        have hsz : w.heap.size + 1 < wr.heap.size := HR.out.lt
        exact ⟨(HR.out.below hV).set2 (x := ⟨0, none, 0, 0⟩) ⟨l, b, i, bc⟩, hp.but (but_s2 V _ _) (fun ad e => by have := hlo ad e; omega), fun ad e => by have := hlo ad e; omega, below_s2 (below_aft HB.out hV) (by omega) _⟩
      by_cases hin : i < gn
      · have hil : i < gs.length := by omega
        obtain ⟨g, hg⟩ : ∃ g, gs[i]? = some g := ⟨_, List.getElem?_eq_getElem hil⟩
        obtain ⟨b1, off, ea, hgl, hc, -⟩ := HI.out.nth hg
        have ea2 : ga = some ⟨b1, off, none⟩ := ea
        subst ea2
        have hb := heldN_at gs (by have := HHN.out; omega)
        rw [← HHN.out, get_bang hg] at hb
        have g2 : ¬ g < 2 := by
          unfold isR at hb
          simp at hb
          omega
        have i1 : (i : Int) < (gn : Int) := by omega
        clear hg ea hb hzn hil hin
        go_wp2_with (go_at_call 42; refine (CC.out _ HB.out).mono ?_; rintro e w5 ⟨b, bc, rfl, hp5, hlo5, hb5⟩; have F9 := hidD (FIN.out w5 b bc hb5 hp5 hlo5); have HR5 := hidD (HR.out.below hb5); obtain ⟨r0, r1⟩ := HR5.out.pl; have f0 := HR5.out.plF (x := ⟨0, none, 0, 0⟩) 0; have f1 := HR5.out.plF (x := ⟨0, none, 0, 0⟩) 1; clear hp5 hlo5 hb5)
        exact bodyPost_ret (results_p1 (g := ⟨l, b, i, bc⟩) Tryd.results20 rfl F9.out.1) rfl ⟨b, bc, rfl, F9.out.2.1, F9.out.2.2.1, F9.out.2.2.2⟩
      · have i1 : ¬ (i : Int) < (gn : Int) := by omega
        clear hin hzn
        go_wp2_with (go_at_call 42; refine (CC.out _ HB.out).mono ?_; rintro e w5 ⟨b, bc, rfl, hp5, hlo5, hb5⟩; have F9 := hidD (FIN.out w5 b bc hb5 hp5 hlo5); have HR5 := hidD (HR.out.below hb5); obtain ⟨r0, r1⟩ := HR5.out.pl; have f0 := HR5.out.plF (x := ⟨0, none, 0, 0⟩) 0; have f1 := HR5.out.plF (x := ⟨0, none, 0, 0⟩) 1; clear hp5 hlo5 hb5)
        exact bodyPost_ret (results_p1 (g := ⟨l, b, i, bc⟩) Tryd.results20 rfl F9.out.1) rfl ⟨b, bc, rfl, F9.out.2.1, F9.out.2.2.1, F9.out.2.2.2⟩
end Go.Proofs.YtnohcppipkpgmaaDoor
namespace Go.Proofs.YtnohcppipkpgmaaDoor
open Go.RowKit Go.Shelf
set_option linter.unusedVariables false
set_option linter.unusedSimpArgs false

/-- One more step is put behind a path that has no room: a row of one's own. -/
theorem wpl_append_full {w : World} {ops : Array Oper} {rest : List Oper} {o : Oper} {a : Act} {Q : Exit → Act → World → Prop} (hgd : o.guard = none) (s x : Operand)
    (ho : o.op = .call { callee := .builtin .append, args := #[s, x], argTypes := #[24, 24] }) (g off n : Nat) (hn : n ≤ 60) (hs : a.eval s = .slice (some ⟨g, off, none⟩) n n)
    (olds : List Value) (hlo : olds.length = n) (holds : ∀ j v, olds[j]? = some v → w.cell? ⟨g, off + j, none⟩ = some v) (ad : Addr) (c : Nat) (u : Value) (hx : a.eval x = .slice (some ad) 1 c) (hu : w.cell? (ad.add 0) = some u)
    (h : ∀ v' w', w'.ownsRow w.heap.size 62 1 v' (n + 1) (olds ++ [u]) → Below w.heap.size w w' → wpList Tryd.prog ops Q rest (a.put o.dst v') w') : wpList Tryd.prog ops Q (o :: rest) a w := by
  obtain ⟨i, hi, hz, hsz, hb⟩ := info_parts Tryd.info62
  refine wpList_plain hgd fun K hK => ?_
  have hr := run_append_grow (P := Tryd.prog) w 24 o.type 62 i (.int .i64 0) Tryd.underlying24 hi hz ⟨g, off, none⟩ n n olds (by rw [hsz, hlo]; omega) (fun j v hv => by rw [Addr.add_lit]; exact holds j v hv) ad 1 c [u] (by rw [hsz]; rfl) (fun j v hv => by
    have hj : j = 0 := by
      have := (List.getElem?_eq_some_iff.1 hv).1
      simp at this
      omega
    subst hj
    simp at hv
    subst hv
    exact hu) (by omega) (by omega) (growslice_fits (by omega) (by rw [hb]; omega))
  have hge := grownCap_ge w (n + 1) n 62
  have hcm : grownCap w (n + 1) n 62 ≤ maxLen := grownCap_le_maxLen w (n + 1) n 62 (by unfold maxLen; omega)
  unfold Oper.wp execOp
  simp only [ho, resolve, invoke, builtin, Sem.run_bind, Sem.run_pure, Result.andThen_ok, List.map_toArray, List.map_cons, List.map_nil, hs, hx, hr]
  refine hK _ _ (h _ _ ⟨by simp [hlo], .inr ⟨w.heap.size, _, _, rfl, Nat.le_refl _, heap_alloc_new w.drew _, hge, hcm, ?_, ?_⟩⟩ (belA (belN (Below.refl _ _) 1)))
  · simp only [Array.size_append, List.size_toArray, size_zeroCells, hlo]
    simp [Value.cells]
    omega
  · simp only [Array.toList_append, List.append_assoc]
    rw [← List.append_assoc, show (n + 1) * 1 = (olds ++ [u]).length by simp [hlo]]
    exact List.take_left
/-- A path that is being written over. -/
def OV (V : World) (g off n : Nat) : Prop := ∃ cur : Array Value, At V g (.cells cur 62 (0, 0)) ∧ ∀ j, j < n → ∃ x : Int, cur[off + j]? = some (.int .i64 x)
theorem OV.cell {V : World} {g off n : Nat} (h : OV V g off n) {j : Nat} (hj : j < n) : (∃ x : Int, V.cell? ⟨g, off + j, none⟩ = some (.int .i64 x)) ∧ V.frozen? ⟨g, off + j, none⟩ = false ∧ g < V.heap.size := by
  obtain ⟨cur, hA, hc⟩ := h
  obtain ⟨x, hx⟩ := hc j hj
  refine ⟨⟨x, ?_⟩, frozen_of_row V g (off + j) _ 62 hA, hA.lt⟩
  unfold At at hA
  simp [World.cell?, hA, hx]
theorem OV.set {V : World} {g off n i : Nat} (h : OV V g off n) (hi : i < n) (y : Int) : OV (V.setCell ⟨g, off + i, none⟩ (.int .i64 y)) g off n := by
  obtain ⟨cur, hA, hc⟩ := h
  refine ⟨_, heap_setCell_same V g (off + i) cur 62 (.int .i64 y) hA, fun j hj => ?_⟩
  obtain ⟨x, hx⟩ := hc j hj
  by_cases e : j = i
  · subst e
    exact ⟨y, by rw [Array.getElem?_setIfInBounds_self_of_lt (Array.getElem?_eq_some_iff.1 hx).1]⟩
  · exact ⟨x, by rw [Array.getElem?_setIfInBounds_ne (by omega)]; exact hx⟩
theorem OV.olds {V : World} {g off n : Nat} (h : OV V g off n) : ∃ olds : List Value, olds.length = n ∧ ∀ j v, olds[j]? = some v → V.cell? ⟨g, off + j, none⟩ = some v := by
  have hx : ∀ j, ∃ x : Int, j < n → V.cell? ⟨g, off + j, none⟩ = some (.int .i64 x) := fun j => by
    by_cases hj : j < n
    · obtain ⟨⟨x, hx⟩, -⟩ := h.cell hj
      exact ⟨x, fun _ => hx⟩
    · exact ⟨0, fun h => absurd h hj⟩
  refine ⟨(List.range n).map fun j => .int .i64 (Classical.choose (hx j)), by simp, fun j v hv => ?_⟩
  have hj : j < n := by simpa using (List.getElem?_eq_some_iff.1 hv).1
  rw [List.getElem?_map, List.getElem?_range hj] at hv
  cases hv
  exact Classical.choose_spec (hx j) hj
set_option maxRecDepth 100000 in
set_option maxHeartbeats 8000000 in
/-- over, of a path that has steps. -/
theorem over_any {w : World} {l : Int} {g off n : Nat} (h : OV w g off n) (hn : n ≤ 60) (h1 : 1 ≤ n) :
    Calls Tryd.prog 21 #[plV l (some ⟨g, off, none⟩) n n] w fun e w' => e = .returned (.tuple #[]) ∧ But g w w' := by
  have hgw : g < w.heap.size := (h.cell (j := 0) (by omega)).2.2
  have HA0 := hidD (At.new w (plO l (some ⟨g, off, none⟩) n n))
  have HO0 : Hid (OV (w.alloc (plO l (some ⟨g, off, none⟩) n n)) g off n) := by
    obtain ⟨cur, hA, hc⟩ := h
    exact ⟨cur, hA.alloc _, hc⟩
  have HB0 : Hid (But g w (w.alloc (plO l (some ⟨g, off, none⟩) n n))) := (But.refl g w).alloc _
  obtain ⟨i62, hi62, hz62, hs62, hb62⟩ := info_parts Tryd.info62
  have HN : Hid (n ≤ 60 ∧ 1 ≤ n) := ⟨hn, h1⟩
  have HGW := hidD hgw
  clear h hn h1
  go_enter Tryd.func21, Tryd.ntmps21
  go_wp2_with fail
  go_loopw [2] (fun v V => ∃ i : Nat, i ≤ n ∧ v = .int .i64 (i : Int) ∧ At V w.heap.size (plO l (some ⟨g, off, none⟩) n n) ∧ OV V g off n ∧ But g w V) (fun v _ => n - (intOf v).toNat)
  case atStart => exact ⟨0, Nat.zero_le _, rfl, HA0.out, HO0.out, HB0.out⟩
  case round =>
    clear HA0 HO0 HB0
    obtain ⟨i, hi, rfl, hA, hO, hB⟩ := hrel
    have HA := hidD hA
    have HO := hidD hO
    have HB := hidD hB
    obtain ⟨x0, x1⟩ := hA.pl
    clear hA hO hB
    by_cases hlt : i < n
    · obtain ⟨⟨y, hy⟩, hf, hg⟩ := HO.out.cell hlt
      have i0 : (0 : Int) ≤ (i : Int) := by omega
      have i1 : (i : Int) < (n : Int) := by omega
      have i2 : (i : Int) ≤ 60 := by have := HN.out; omega
      have nb : ¬ g = w.heap.size := by have := HGW.out; omega
      have HNX : Hid (At (wr.setCell ⟨g, off + i, none⟩ (.int .i64 (-9))) w.heap.size (plO l (some ⟨g, off, none⟩) n n) ∧ OV (wr.setCell ⟨g, off + i, none⟩ (.int .i64 (-9))) g off n ∧ But g w (wr.setCell ⟨g, off + i, none⟩ (.int .i64 (-9)))) := ⟨HA.out.set (by have := HGW.out; show w.heap.size ≠ g; omega) _, HO.out.set hlt (-9), HB.out.set (off + i) _⟩
      go_wp2_with fail
      refine ⟨⟨i + 1, hlt, rfl, HNX.out.1, HNX.out.2.1, HNX.out.2.2⟩, ?_⟩
      show n - ((i : Int) + 1).toNat < n - (i : Int).toNat
      omega
    · obtain rfl : i = n := by omega
      have z1 : ¬ ((i : Int) < (i : Int)) := by omega
      clear hlt hi
      go_wp2_with fail
      obtain ⟨wo, rfl⟩ : ∃ wo, wo = wr := ⟨_, rfl⟩
      go_loopw [3, 4] (fun u v V => ∃ k : Nat, k ≤ 3 ∧ v = .int .i64 (k : Int) ∧ Below wo.heap.size wo V ∧ (k = 0 ∧ u = .slice (some ⟨g, off, none⟩) i i ∨ ∃ xs, V.ownsRow wo.heap.size 62 1 u (i + k) xs)) (fun _ v _ => 3 - (intOf v).toNat)
      case atStart => exact ⟨0, by omega, rfl, Below.refl _ _, .inl ⟨rfl, rfl⟩⟩
      case round =>
        obtain ⟨k, hk, rfl, hBk, hu⟩ := hrel
        have HBk := hidD hBk
        clear hBk
        by_cases hk3 : k < 3
        · have k1 : (k : Int) < 3 := by omega
          have k2 : (k : Int) ≤ 3 := by omega
          have HK3 := hidD hk3
          rcases hu with ⟨rfl, rfl⟩ | ⟨xs, hx⟩
          · obtain ⟨olds, ho1, ho2⟩ := HO.out.olds
            have HO1 := hidD ho1
            have HO2 : Hid (∀ V, Below wo.heap.size wo V → ∀ j v, olds[j]? = some v → V.cell? ⟨g, off + j, none⟩ = some v) := fun V hV j v hv => (hV.cell (p := ⟨g, off + j, none⟩) (HO.out.cell (j := 0) (by have := HN.out; omega)).2.2).trans (ho2 j v hv)
            clear ho1 ho2 hk hk3
            go_wp2_with (at_builtin; refine wpl_append_full rfl (.tmp 22) (.tmp 23) rfl g off i HN.out.1 rfl olds HO1.out (HO2.out _ (belA HBk.out)) ⟨wr.heap.size, 0, none⟩ 1 (.int .i64 (-8)) rfl (by exact new1 wr (.int .i64 (-8)) 62 0 _ rfl) ?_; intro v' w' ho' hb'; have HO' := hidD (own_low ho' (show wo.heap.size ≤ _ by have := HBk.out.size; simp; omega)); have HB' := hidD (below_aft HBk.out (below1 hb')); clear ho' hb')
            refine ⟨⟨1, by omega, rfl, HB'.out, .inr ⟨_, HO'.out⟩⟩, by decide⟩
          · obtain ⟨a3, c3, rfl⟩ := own_sl hx
            have HX := hidD hx
            clear hx hk hk3
            go_wp2_with (at_builtin; refine wpList_append_own _ rfl (.tmp 22) (.tmp 23) 24 rfl wo.heap.size 62 i62 (.int .i64 0) 1 8 Tryd.underlying24 hi62 hz62 hs62 hb62 rfl (by omega) (.slice a3 (i + k) c3) (i + k) xs rfl (HX.out.alloc _) ⟨wr.heap.size, 0, none⟩ 1 1 [.int .i64 (-8)] rfl rfl (new1 _ _ _) (by intro u hu; simp at hu; subst hu; rfl) (by unfold maxLen; have := HN.out; have := HK3.out; omega) (by have := HN.out; have := HK3.out; omega) (by have := HBk.out.size; simp; omega) ?_; intro v' w' ho' hg' hn'; have HO' := hidD ho'; have HB' : Hid (Below wo.heap.size wo w') := grow_bel (belA HBk.out) hg' (by have := HBk.out.size; simp; omega) (fun q e => own_lo HX.out q (by rw [← e])); clear ho' hg' hn')
            refine ⟨⟨k + 1, by have := HK3.out; omega, rfl, HB'.out, .inr ⟨_, HO'.out⟩⟩, ?_⟩
            show 3 - ((k : Int) + 1).toNat < 3 - (k : Int).toNat
            have := HK3.out
            omega
        · obtain rfl : k = 3 := by omega
          clear hu hk3 hk
          go_wp2_with fail
          go_end0
          exact ⟨rfl, HB.out.trans (But.below HBk.out)⟩
end Go.Proofs.YtnohcppipkpgmaaDoor
namespace Go.Proofs.YtnohcppipkpgmaaDoor
open Go.RowKit Go.Shelf
set_option linter.unusedVariables false
set_option linter.unusedSimpArgs false

set_option maxRecDepth 100000 in
set_option maxHeartbeats 4000000 in
/-- The reference's Text. -/
theorem rText_any {w : World} {x : Pt} {p : List Int} (h : PAt w x p) (hn : p.length ≤ 1000) (hI : ∀ n : Int, 0 ≤ n → (n = x.l ∨ n ∈ p) → ItC w n) :
    Calls Tryd.prog 30 #[x.v] w fun e w' => e = .returned (.string (str (txP x.l p))) ∧ Below w.heap.size w w' := by
  obtain ⟨l, a, n, cap⟩ := x
  have hlen : n = p.length := h.row.len
  have l0 : -9223372036854775808 ≤ l := h.l0
  have l1 : l ≤ 9223372036854775807 := h.l1
  obtain ⟨R, hR⟩ : ∃ R, R = str (txP l p) := ⟨_, rfl⟩
  show Calls Tryd.prog 30 #[plV l a n cap] w fun e w' => e = .returned (.string (str (txP l p))) ∧ Below w.heap.size w w'
  rw [← hR]
  by_cases hl : l < 0
  · rw [txP_bad (.inl hl)] at hR
    have e : R = (⟨#[]⟩ : ByteArray) := hR
    subst e
    clear hR h hI
    go_enter Tryd.func30, Tryd.ntmps30
    go_wp2_with fail
    go_ret
    exact ⟨rfl, belA (Below.refl _ _)⟩
  · have HP := hidD h
    have HN := hidD hlen
    have HR := hidD hR
    have HA0 := hidD (At.new w (plO l a n cap))
    have CI : Hid (∀ v : Int, 0 ≤ v → (v = l ∨ v ∈ p) → ∀ W, Below w.heap.size w W → Calls Tryd.prog 51 #[.int .i64 v] W fun e w' => e = .returned (.string (str (Lib.itoa v))) ∧ Below W.heap.size W w') := fun v v0 v1 => hI v v0 v1
    obtain ⟨tl, htl⟩ : ∃ t, t = str (Lib.itoa l) := ⟨_, rfl⟩
    obtain ⟨z, hz⟩ : ∃ z, tl.size = z := ⟨_, rfl⟩
    have z20 : z ≤ 21 := by rw [← hz, htl]; exact Lib.itoa_length_le l l0 l1
    have n1 : ¬ 9223372036854775807 < 1 + z := by omega
    have C1 := hidD (CI.out l (by omega) (.inl rfl))
    rw [← htl] at C1
    have HTL : Hid ((⟨#[95]⟩ : ByteArray) ++ tl = str ([95] ++ Lib.itoa l)) := hidD (by rw [htl, ← str_app]; rfl)
    have HL := hidD hl
    clear h hI hlen hR htl z20 l0 l1
    go_enter Tryd.func30, Tryd.ntmps30
    go_wp2_with (go_at_call 51; refine (C1.out _ (belA (Below.refl _ _))).mono ?_; rintro e w1 ⟨rfl, hb1⟩; have HA1 := hidD (HA0.out.below hb1); have HB1 := hidD (below1 hb1); clear hb1)
    clear hl n1 hz C1 HA0
    go_loopw [3, 4] (fun u v V => ∃ i : Nat, i ≤ n ∧ v = .int .i64 i ∧ u = .string (str ([95] ++ Lib.itoa l ++ ((p.take i).map stT).flatten)) ∧ (∀ s ∈ p.take i, -1 ≤ s) ∧ At V w.heap.size (plO l a n cap) ∧ Below w.heap.size w V) (fun _ v _ => n - (intOf v).toNat)
    case atStart => exact ⟨0, Nat.zero_le _, rfl, by rw [HTL.out]; simp, fun s hs => by simp at hs, HA1.out, HB1.out⟩
    case round =>
      clear HA1 HB1 HTL
      obtain ⟨i, hi, rfl, rfl, hall, hA, hB⟩ := hrel
      have HALL := hidD hall
      have HA := hidD hA
      have HB := hidD hB
      obtain ⟨q0, q1⟩ := hA.pl
      clear hall hA hB
      obtain ⟨T, hT⟩ : ∃ T, T = [95] ++ Lib.itoa l ++ ((p.take i).map stT).flatten := ⟨_, rfl⟩
      obtain ⟨S, hS⟩ : ∃ S, S = str T := ⟨_, rfl⟩
      rw [← hT, ← hS]
      by_cases hlt : i < n
      · obtain ⟨x, hx⟩ : ∃ x, p[i]? = some x := ⟨_, List.getElem?_eq_getElem (by have := HN.out; omega)⟩
        obtain ⟨g, off, ea, hg, hc, x0, x1⟩ := (HP.out.row.bel HB.out).nth hx
        have ea2 : a = some ⟨g, off, none⟩ := ea
        subst ea2
        have hlen : T.length + 22 ≤ 100000 := by
          have e1 := Lib.itoa_length_le l HP.out.l0 HP.out.l1
          have e2 := flat_len (p.take i) (fun y hy => HP.out.row.rng y (List.mem_of_mem_take hy))
          have e3 : (p.take i).length ≤ p.length := by rw [List.length_take]; omega
          rw [hT, List.length_append, List.length_append]
          have e4 : ([95] : List UInt8).length = 1 := rfl
          omega
        obtain ⟨zs, hzs⟩ : ∃ zs, S.size = zs := ⟨_, rfl⟩
        have zsl : zs ≤ 100000 := by rw [← hzs, hS, str_size]; omega
        have mem : Hid (x ∈ p) := List.mem_of_getElem? hx
        have NX : Hid (([95] ++ Lib.itoa l ++ ((p.take (i + 1)).map stT).flatten) = T ++ stT x) := by
          show ([95] ++ Lib.itoa l ++ ((p.take (i + 1)).map stT).flatten) = T ++ stT x
          rw [flat_next hx, hT, ← List.append_assoc]
        have AX : Hid (-1 ≤ x → ∀ s ∈ p.take (i + 1), -1 ≤ s) := fun hx1 s hs => by
          rw [List.take_add_one, hx] at hs
          rcases List.mem_append.1 hs with hs | hs
          · exact HALL.out s hs
          · simp at hs
            omega
        have HS := hidD hS
        have j0 : (0 : Int) ≤ (i : Int) := by omega
        have j1 : (i : Int) < (n : Int) := by omega
        have j2 : (i : Int) ≤ 1000 := by have := HN.out; omega
        clear hx ea hT hS hlen
        by_cases b1 : x < -1
        · have hr : R = (⟨#[]⟩ : ByteArray) := by
            have := HR.out
            rw [txP_bad (.inr ⟨x, mem.out, b1⟩)] at this
            exact this
          subst hr
          clear x0 x1
          go_wp2_with fail
          go_ret
          exact ⟨rfl, HB.out⟩
        · by_cases b2 : x = -1
          · subst b2
            have n1 : ¬ 9223372036854775807 < zs + 2 := by omega
            clear x0 x1 b1
            go_wp2_with fail
            refine ⟨⟨i + 1, hlt, rfl, ?_, AX.out (by omega), HA.out, HB.out⟩, ?_⟩
            · rw [NX.out, HS.out, show stT (-1) = [46, 42] from rfl, ← str_app]
              rfl
            · show n - ((i : Int) + 1).toNat < n - (i : Int).toNat
              omega
          · have e1 : stT x = [46] ++ Lib.itoa x := if_neg b2
            obtain ⟨tx, htx⟩ : ∃ t, t = str (Lib.itoa x) := ⟨_, rfl⟩
            obtain ⟨z, hz⟩ : ∃ z, tx.size = z := ⟨_, rfl⟩
            have z20 : z ≤ 21 := by rw [← hz, htx]; exact Lib.itoa_length_le x x0 x1
            have n1 : ¬ 9223372036854775807 < zs + 1 := by omega
            have n2 : ¬ 9223372036854775807 < zs + 1 + z := by omega
            have C1 := hidD (CI.out x (by omega) (.inr mem.out) wr HB.out)
            rw [← htx] at C1
            have HX1 : Hid (-1 ≤ x) := by show -1 ≤ x; omega
            have HE : Hid ((S ++ (⟨#[46]⟩ : ByteArray)) ++ tx = str (T ++ stT x)) := hidD (by
              rw [HS.out, htx, e1, ← List.append_assoc, ← str_app, ← str_app]
              rfl)
            clear x0 x1 htx e1 z20
            go_wp2_with (go_at_call 51; refine C1.out.mono ?_; rintro e w2 ⟨rfl, hb2⟩)
            refine ⟨⟨i + 1, hlt, rfl, ?_, AX.out HX1.out, HA.out.below hb2, below_aft HB.out hb2⟩, ?_⟩
            · rw [NX.out, ← HE.out]
            · show n - ((i : Int) + 1).toNat < n - (i : Int).toNat
              omega
      · obtain rfl : i = n := by omega
        have lt : ¬ (i : Int) < (i : Int) := by omega
        have hr : R = S := by
          have e := HALL.out
          have e2 := HN.out
          rw [e2, List.take_length] at e hT
          rw [HR.out, hS, hT, txP_ok]
          · rfl
          · rintro (h1 | ⟨s, hs, h1⟩)
            · have := HL.out
              omega
            · have := e s hs
              omega
        subst hr
        clear hS hT
        go_wp2_with fail
        go_ret
        exact ⟨rfl, HB.out⟩
end Go.Proofs.YtnohcppipkpgmaaDoor
namespace Go.Proofs.YtnohcppipkpgmaaDoor
open Go.RowKit Go.Shelf
set_option linter.unusedVariables false
set_option linter.unusedSimpArgs false

/-- What the reference's digits tells. -/
def DigPost (S : List UInt8) (R : Option (Int × List UInt8)) (e : Ending) : Prop := match R with
  | some x => e = .returned (.tuple #[.int .i64 x.1, .int .i64 ((S.length - x.2.length : Nat) : Int)])
  | none => e = .returned (.tuple #[.int .i64 0, .int .i64 0])
set_option maxRecDepth 100000 in
set_option maxHeartbeats 4000000 in
/-- The reference's digits. -/
theorem digits_any (S : List UInt8) (hS : S.length ≤ 100000) (w : World) (R : Option (Int × List UInt8)) (hR : R = dgs 0 0 S) :
    Calls Tryd.prog 55 #[.string (str S)] w fun e w' => DigPost S R e ∧ w' = w := by
  have hsz : (str S).size = S.length := str_size S
  have HR := hidD hR
  clear hR
  go_enter Tryd.func55, Tryd.ntmps55
  go_wp2_with fail
  go_loopw [4, 5] (fun y x V => ∃ (n : Int) (k : Nat), x = .int .i64 n ∧ y = .int .i64 (k : Int) ∧ k ≤ S.length ∧ 0 ≤ n ∧ n ≤ 9223372036854775807 ∧ (k = 0 → n = 0) ∧ (k = 1 → ∀ c, S[0]? = some c → n = (c.toNat : Int) - 48) ∧ (2 ≤ k → 0 < n) ∧ R = dgs n k (S.drop k) ∧ V = w) (fun y _ _ => S.length - (intOf y).toNat)
  case atStart => exact ⟨0, 0, rfl, rfl, Nat.zero_le _, by omega, by omega, fun _ => rfl, fun h => by omega, fun h => by omega, HR.out, rfl⟩
  case round =>
    obtain ⟨n, k, rfl, rfl, hk, hn0, hn1, hk0, hk1, hk2, hE, rfl⟩ := hrel
    have HE := hidD hE
    have HK0 := hidD hk0
    have HK1 := hidD hk1
    have HK2 := hidD hk2
    clear hE HR hk0 hk1 hk2
    have END : Hid (dgs n k (S.drop k) = (if 0 < k then some (n, S.drop k) else none) → DigPost S R (.returned (.tuple #[.int .i64 n, .int .i64 (k : Int)]))) := fun he => by
      have e := HE.out
      rw [he] at e
      by_cases h0 : 0 < k
      · rw [if_pos h0] at e
        rw [e]
        show Ending.returned _ = Ending.returned _
        rw [List.length_drop, show S.length - (S.length - k) = k by omega]
      · rw [if_neg h0] at e
        rw [e]
        have hk0 : k = 0 := by omega
        rw [HK0.out hk0, hk0]
        rfl
    have g0 : (0 : Int) ≤ (k : Int) := by omega
    have HK := hidD hk
    have HN0 := hidD hn0
    have HN1 := hidD hn1
    clear hk hn0 hn1
    by_cases hlt : k < S.length
    · obtain ⟨c, hcl⟩ : ∃ c, c = S[k] := ⟨_, rfl⟩
      have hc : (str S)[k]'(by rw [hsz]; exact hlt) = c := by rw [hcl]; rfl
      have hdr : S.drop k = c :: S.drop (k + 1) := by rw [hcl]; exact List.drop_eq_getElem_cons hlt
      have hck : S[k]? = some c := by rw [hcl]; exact List.getElem?_eq_getElem hlt
      have HCK := hidD hck
      have g1 : (k : Int) < (S.length : Int) := by omega
      have c255 : c.toNat < 256 := c.toNat_lt
      have st : dgs n k (S.drop k) = if 48 ≤ c.toNat ∧ c.toNat ≤ 57 then (if (0 < k ∧ n = 0) ∨ (9223372036854775807 - ((c.toNat : Int) - 48)).tdiv 10 < n then none else dgs (n * 10 + ((c.toNat : Int) - 48)) (k + 1) (S.drop (k + 1))) else if 0 < k then some (n, S.drop k) else none := by
        rw [hdr, dgs]
      have ST := hidD st
      clear hcl hdr st hck
      by_cases hd : 48 ≤ c.toNat ∧ c.toNat ≤ 57
      · have e1 := ST.out
        rw [if_pos hd] at e1
        have u1 : 48 ≤ (c.toNat : Int) := by omega
        have u2 : (c.toNat : Int) ≤ 57 := by omega
        obtain ⟨D, hD⟩ : ∃ D : Int, (c.toNat : Int) - 48 = D := ⟨_, rfl⟩
        obtain ⟨Q, hQ⟩ : ∃ Q : Int, (9223372036854775807 - D).tdiv 10 = Q := ⟨_, rfl⟩
        have D0 : 0 ≤ D := by omega
        have D9 : D ≤ 9 := by omega
        have q0 : (9223372036854775807 - D) / 10 = Q := by rw [← hQ, Int.tdiv_eq_ediv_of_nonneg (by omega)]
        have q1 : 0 ≤ Q := by omega
        have q2 : Q ≤ 922337203685477580 := by omega
        have q3 : 10 * Q ≤ 9223372036854775807 - D := by omega
        have wD : IntKind.u8.wrap D = D := by
          have h10 : D = 0 ∨ D = 1 ∨ D = 2 ∨ D = 3 ∨ D = 4 ∨ D = 5 ∨ D = 6 ∨ D = 7 ∨ D = 8 ∨ D = 9 := by omega
          rcases h10 with h | h | h | h | h | h | h | h | h | h <;> rw [h] <;> decide
        rw [hD, hQ] at e1
        by_cases hb : (0 < k ∧ n = 0) ∨ Q < n
        · rw [if_pos hb] at e1
          have hRn : R = none := HE.out.trans e1
          subst hRn
          clear e1 ST HE END hd
          by_cases hq : Q < n
          · clear hb
            go_wp2_with fail
            go_ret2
            exact ⟨rfl, rfl⟩
          · have hk1 : k = 1 := by
              rcases hb with h | h
              · rcases Nat.lt_or_ge k 2 with h2 | h2
                · omega
                · have := HK2.out h2
                  omega
              · exact absurd h hq
            have hn0 : n = 0 := by rcases hb with h | h; exact h.2; exact absurd h hq
            subst hk1 hn0
            obtain ⟨c0, hc0⟩ : ∃ c0, c0 = S[0] := ⟨_, rfl⟩
            have h0 : (str S)[0]'(by rw [hsz]; omega) = c0 := by rw [hc0]; rfl
            have v0 : c0.toNat = 48 := by
              have := HK1.out rfl c0 (by rw [hc0]; exact List.getElem?_eq_getElem (by omega))
              omega
            have v1 : (c0.toNat : Int) = 48 := by omega
            clear hb hc0
            go_wp2_with fail
            go_ret2
            exact ⟨rfl, rfl⟩
        · rw [if_neg hb] at e1
          have HG := hidD (HE.out.trans e1)
          have fit : n * 10 + D ≤ 9223372036854775807 := quo_fits HN0.out D0 (by omega) (by rw [hQ]; exact fun h => hb (.inr h))
          obtain ⟨M, hM⟩ : ∃ M : Int, n * 10 = M := ⟨_, rfl⟩
          obtain ⟨E, hE⟩ : ∃ E : Int, M + D = E := ⟨_, rfl⟩
          have f1 : M ≤ 9223372036854775807 := by omega
          have f2 : 0 ≤ M := by have := HN0.out; omega
          have f3 : 0 ≤ E := by omega
          have f4 : E ≤ 9223372036854775807 := by omega
          rw [hM, hE] at HG
          have hq : ¬ Q < n := fun h => hb (.inr h)
          have k1 : (k : Int) ≤ 100000 := by omega
          have NEXT : Hid (k + 1 ≤ S.length ∧ 0 ≤ E ∧ E ≤ 9223372036854775807 ∧ (k + 1 = 0 → E = 0) ∧ (k + 1 = 1 → ∀ c, S[0]? = some c → E = (c.toNat : Int) - 48) ∧ (2 ≤ k + 1 → 0 < E)) := by
            refine ⟨hlt, f3, f4, fun h => by omega, fun h c' hc' => ?_, fun h => ?_⟩
            · have hk0 : k = 0 := by omega
              have hn := HK0.out hk0
              have := HCK.out
              rw [hk0, hc'] at this
              cases this
              omega
            · have hk0 : 0 < k := by omega
              have hn0 : ¬ n = 0 := fun h => hb (.inl ⟨hk0, h⟩)
              have := HN0.out
              omega
          clear e1 ST HE END q0 hd fit
          by_cases hk1 : k = 1
          · have hn0 : ¬ n = 0 := fun h => hb (.inl ⟨by omega, h⟩)
            subst hk1
            obtain ⟨c0, hc0⟩ : ∃ c0, c0 = S[0] := ⟨_, rfl⟩
            have h0 : (str S)[0]'(by rw [hsz]; omega) = c0 := by rw [hc0]; rfl
            have v0 : ¬ (c0.toNat : Int) = 48 := by
              have := HK1.out rfl c0 (by rw [hc0]; exact List.getElem?_eq_getElem (by omega))
              omega
            clear hb hc0
            go_wp2_with fail
            refine ⟨⟨E, 2, rfl, rfl, NEXT.out.1, NEXT.out.2.1, NEXT.out.2.2.1, NEXT.out.2.2.2.1, NEXT.out.2.2.2.2.1, NEXT.out.2.2.2.2.2, HG.out, trivial⟩, ?_⟩
            show S.length - ((1 : Int) + 1).toNat < S.length - (1 : Int).toNat
            have := NEXT.out.1
            omega
          · have k2 : ¬ (k : Int) = 1 := by omega
            clear hb
            go_wp2_with fail
            refine ⟨⟨E, k + 1, rfl, rfl, NEXT.out.1, NEXT.out.2.1, NEXT.out.2.2.1, NEXT.out.2.2.2.1, NEXT.out.2.2.2.2.1, NEXT.out.2.2.2.2.2, HG.out, trivial⟩, ?_⟩
            show S.length - ((k : Int) + 1).toNat < S.length - (k : Int).toNat
            have := NEXT.out.1
            omega
      · have e1 := ST.out
        rw [if_neg hd] at e1
        have HF := hidD (END.out e1)
        clear e1 ST HE END
        by_cases h48 : 48 ≤ c.toNat
        · have u1 : 48 ≤ (c.toNat : Int) := by omega
          have u2 : ¬ (c.toNat : Int) ≤ 57 := by omega
          clear hd
          go_wp2_with fail
          go_ret2
          exact ⟨HF.out, rfl⟩
        · have u1 : ¬ 48 ≤ (c.toNat : Int) := by omega
          clear hd
          go_wp2_with fail
          go_ret2
          exact ⟨HF.out, rfl⟩
    · have e1 : S.drop k = [] := List.drop_eq_nil_of_le (by omega)
      have HF := hidD (END.out (by rw [e1, dgs]))
      have g1 : ¬ (k : Int) < (S.length : Int) := by omega
      clear e1 HE END
      go_wp2_with fail
      go_ret2
      exact ⟨HF.out, rfl⟩
end Go.Proofs.YtnohcppipkpgmaaDoor
namespace Go.Proofs.YtnohcppipkpgmaaDoor
open Go.RowKit Go.Shelf
set_option linter.unusedVariables false
set_option linter.unusedSimpArgs false

theorem Tryd.results34 : Tryd.f34.results = #[.cell 2 26, .tmp 3] := rfl
theorem ext_drop (T : List UInt8) (k : Nat) : (str T).extract k T.length = str (T.drop k) := by rw [str_ext, List.take_of_length_le (Nat.le_refl _)]
theorem rd_fail {R : Option (Int × List Int)} (hn : R = none) (w W' : World) : ReadPost R w W' (.returned (.tuple #[plV 0 none 0 0, .int .i64 90])) := ⟨⟨0, none, 0, 0⟩, [], 90, rfl, ⟨⟨rfl, Nat.le_refl _, by simp, fun h => absurd rfl h, fun x hx => by simp at hx, fun _ => rfl⟩, by show (-9223372036854775808 : Int) ≤ 0; omega, by show (0 : Int) ≤ 9223372036854775807; omega⟩, .inr ⟨hn, rfl, rfl, rfl⟩, fun ad h => by cases h⟩
theorem dgs_len {S : List UInt8} {v : Int} {r : List UInt8} (h : dgs 0 0 S = some (v, r)) : 0 ≤ v ∧ v ≤ 9223372036854775807 ∧ r.length < S.length ∧ S.drop (S.length - r.length) = r := by
  obtain ⟨h1, h2, -, h3⟩ := dgs_text h
  have h4 := dig_len v.toNat
  rw [← itoa_nn h1] at h4
  have h5 : S.length = (Lib.itoa v).length + r.length := by rw [h3, List.length_append]
  refine ⟨h1, h2, by omega, ?_⟩
  rw [show S.length - r.length = (Lib.itoa v).length by omega]
  rw [h3]
  exact List.drop_left
end Go.Proofs.YtnohcppipkpgmaaDoor
namespace Go.Proofs.YtnohcppipkpgmaaDoor
open Go.RowKit Go.Shelf
set_option linter.unusedVariables false
set_option linter.unusedSimpArgs false

set_option maxRecDepth 100000 in
set_option maxHeartbeats 8000000 in
/-- The reference's Read of no text. -/
theorem rRead_nil (w : World) :
    Calls Tryd.prog 34 #[.string (str [])] w fun e w' => ReadPost none w w' e ∧ Below w.heap.size w w' := by
  obtain ⟨w0, hw0⟩ : ∃ w0, w0 = S2 ((w.alloc (plO 0 none 0 0)).alloc (plO 0 none 0 0)) (w.heap.size + 1) ⟨0, none, 0, 0⟩ := ⟨_, rfl⟩
  have HR0 : Hid (At w0 w.heap.size (plO 0 none 0 0)) := by rw [hw0]; exact ((At.new w (plO 0 none 0 0)).alloc _).S2 (by omega) _
  have HN0 : Hid (At w0 (w.heap.size + 1) (plO 0 none 0 0)) := by rw [hw0]; exact (at_snd w (plO 0 none 0 0) (plO 0 none 0 0)).set2 (x := ⟨0, none, 0, 0⟩) ⟨0, none, 0, 0⟩
  have HB0 : Hid (Below w.heap.size w w0) := by rw [hw0]; exact below_s2 bel2 (by omega) _
  have HAN : Hid (At ((w.alloc (plO 0 none 0 0)).alloc (plO 0 none 0 0)) (w.heap.size + 1) (plO 0 none 0 0)) := at_snd _ _ _
  obtain ⟨x0, x1⟩ := HN0.out.pl
  obtain ⟨y0, y1⟩ := HR0.out.pl
  have f0 := HR0.out.plF (x := ⟨0, none, 0, 0⟩) 0
  have f1 := HR0.out.plF (x := ⟨0, none, 0, 0⟩) 1
  have hsz : (str []).size = ([] : List UInt8).length := str_size []
  have t0 : (str []).toList = [] := str_toList []
  go_enter Tryd.func34, Tryd.ntmps34
  go_upto_region 2 with (((with_reducible show wpList _ _ _ (Oper.mk none (Op.store 26 _ _) _ _ _ none :: _) _ _); refine wpl_storeP (w.heap.size + 1) ⟨0, none, 0, 0⟩ ⟨0, none, 0, 0⟩ HAN.out rfl rfl ?_; intro w1 hs_))
  rw [← hw0] at hs_
  subst hs_
  clear hw0 HAN
  go_wp2_with (((with_reducible show wpList _ _ _ (Oper.mk none (Op.store 26 _ _) _ _ _ none :: _) _ _); refine wpl_storeP w.heap.size ⟨0, none, 0, 0⟩ ⟨0, none, 0, 0⟩ HR0.out rfl rfl ?_; intro w2 hs2_; subst hs2_))
  exact bodyPost_ret (results_p2 (g := ⟨0, none, 0, 0⟩) Tryd.results34 rfl rfl (HR0.out.set2 (x := ⟨0, none, 0, 0⟩) ⟨0, none, 0, 0⟩)) rfl ⟨rd_fail rfl _ _, below_s2 HB0.out (Nat.le_refl _) ⟨0, none, 0, 0⟩⟩


set_option maxRecDepth 100000 in
set_option maxHeartbeats 8000000 in
/-- The reference's Read of a text that begins with another sign. -/
theorem rRead_other (S : List UInt8) (c : UInt8) (hE : S.isEmpty = false) (hp : 0 < S.length) (hc : ∀ h, (str S)[0]'h = c) (h95 : ¬ c = 95) (w : World) :
    Calls Tryd.prog 34 #[.string (str S)] w fun e w' => ReadPost none w w' e ∧ Below w.heap.size w w' := by
  obtain ⟨w0, hw0⟩ : ∃ w0, w0 = S2 ((w.alloc (plO 0 none 0 0)).alloc (plO 0 none 0 0)) (w.heap.size + 1) ⟨0, none, 0, 0⟩ := ⟨_, rfl⟩
  have HR0 : Hid (At w0 w.heap.size (plO 0 none 0 0)) := by rw [hw0]; exact ((At.new w (plO 0 none 0 0)).alloc _).S2 (by omega) _
  have HN0 : Hid (At w0 (w.heap.size + 1) (plO 0 none 0 0)) := by rw [hw0]; exact (at_snd w (plO 0 none 0 0) (plO 0 none 0 0)).set2 (x := ⟨0, none, 0, 0⟩) ⟨0, none, 0, 0⟩
  have HB0 : Hid (Below w.heap.size w w0) := by rw [hw0]; exact below_s2 bel2 (by omega) _
  have HAN : Hid (At ((w.alloc (plO 0 none 0 0)).alloc (plO 0 none 0 0)) (w.heap.size + 1) (plO 0 none 0 0)) := at_snd _ _ _
  obtain ⟨x0, x1⟩ := HN0.out.pl
  obtain ⟨y0, y1⟩ := HR0.out.pl
  have f0 := HR0.out.plF (x := ⟨0, none, 0, 0⟩) 0
  have f1 := HR0.out.plF (x := ⟨0, none, 0, 0⟩) 1
  have hsz : (str S).size = S.length := str_size _
  have t0 : (str S).toList = S := str_toList _
  have g1 : (0 : Int) < ((S.length : Nat) : Int) := by omega
  have h95i : ¬ (c.toNat : Int) = 95 := fun e => h95 (UInt8.toNat_inj.1 (by show c.toNat = 95; omega))
  clear h95
  go_enter Tryd.func34, Tryd.ntmps34
  go_upto_region 2 with (((with_reducible show wpList _ _ _ (Oper.mk none (Op.store 26 _ _) _ _ _ none :: _) _ _); refine wpl_storeP (w.heap.size + 1) ⟨0, none, 0, 0⟩ ⟨0, none, 0, 0⟩ HAN.out rfl rfl ?_; intro w1 hs_))
  rw [← hw0] at hs_
  subst hs_
  clear hw0 HAN
  go_wp2_with (((with_reducible show wpList _ _ _ (Oper.mk none (Op.store 26 _ _) _ _ _ none :: _) _ _); refine wpl_storeP w.heap.size ⟨0, none, 0, 0⟩ ⟨0, none, 0, 0⟩ HR0.out rfl rfl ?_; intro w2 hs2_; subst hs2_))
  exact bodyPost_ret (results_p2 (g := ⟨0, none, 0, 0⟩) Tryd.results34 rfl rfl (HR0.out.set2 (x := ⟨0, none, 0, 0⟩) ⟨0, none, 0, 0⟩)) rfl ⟨rd_fail rfl _ _, below_s2 HB0.out (Nat.le_refl _) ⟨0, none, 0, 0⟩⟩

set_option maxRecDepth 100000 in
set_option maxHeartbeats 8000000 in
/-- The reference's Read of a text that has no number behind its first sign. -/
theorem rRead_nodig (S T : List UInt8) (hE : S.isEmpty = false) (hp : 0 < S.length) (hc : ∀ h, (str S)[0]'h = 95) (HX : Hid ((str S).extract 1 S.length = str T)) (hT : T.length ≤ 100000) (hd : dgs 0 0 T = none) (w : World) :
    Calls Tryd.prog 34 #[.string (str S)] w fun e w' => ReadPost none w w' e ∧ Below w.heap.size w w' := by
  obtain ⟨w0, hw0⟩ : ∃ w0, w0 = S2 ((w.alloc (plO 0 none 0 0)).alloc (plO 0 none 0 0)) (w.heap.size + 1) ⟨0, none, 0, 0⟩ := ⟨_, rfl⟩
  have HR0 : Hid (At w0 w.heap.size (plO 0 none 0 0)) := by rw [hw0]; exact ((At.new w (plO 0 none 0 0)).alloc _).S2 (by omega) _
  have HN0 : Hid (At w0 (w.heap.size + 1) (plO 0 none 0 0)) := by rw [hw0]; exact (at_snd w (plO 0 none 0 0) (plO 0 none 0 0)).set2 (x := ⟨0, none, 0, 0⟩) ⟨0, none, 0, 0⟩
  have HB0 : Hid (Below w.heap.size w w0) := by rw [hw0]; exact below_s2 bel2 (by omega) _
  have HAN : Hid (At ((w.alloc (plO 0 none 0 0)).alloc (plO 0 none 0 0)) (w.heap.size + 1) (plO 0 none 0 0)) := at_snd _ _ _
  obtain ⟨x0, x1⟩ := HN0.out.pl
  obtain ⟨y0, y1⟩ := HR0.out.pl
  have f0 := HR0.out.plF (x := ⟨0, none, 0, 0⟩) 0
  have f1 := HR0.out.plF (x := ⟨0, none, 0, 0⟩) 1
  have hsz : (str S).size = S.length := str_size _
  have t0 : (str S).toList = S := str_toList _
  have g1 : (0 : Int) < ((S.length : Nat) : Int) := by omega
  have CD : Hid (∀ W, Calls Tryd.prog 55 #[.string (str T)] W fun e w' => e = .returned (.tuple #[.int .i64 0, .int .i64 0]) ∧ w' = W) := fun W => by
    have := digits_any T hT W _ rfl
    rw [hd] at this
    exact this
  have hx := HX.out
  clear hd hT HX
  go_enter Tryd.func34, Tryd.ntmps34
  go_upto_region 2 with (((with_reducible show wpList _ _ _ (Oper.mk none (Op.store 26 _ _) _ _ _ none :: _) _ _); refine wpl_storeP (w.heap.size + 1) ⟨0, none, 0, 0⟩ ⟨0, none, 0, 0⟩ HAN.out rfl rfl ?_; intro w1 hs_))
  rw [← hw0] at hs_
  subst hs_
  clear hw0 HAN
  go_wp2_with (first | (go_at_call 55; refine (CD.out _).mono ?_; rintro _ _ ⟨rfl, rfl⟩) | ((with_reducible show wpList _ _ _ (Oper.mk none (Op.store 26 _ _) _ _ _ none :: _) _ _); refine wpl_storeP w.heap.size ⟨0, none, 0, 0⟩ ⟨0, none, 0, 0⟩ HR0.out rfl rfl ?_; intro w2 hs2_; subst hs2_))
  exact bodyPost_ret (results_p2 (g := ⟨0, none, 0, 0⟩) Tryd.results34 rfl rfl (HR0.out.set2 (x := ⟨0, none, 0, 0⟩) ⟨0, none, 0, 0⟩)) rfl ⟨rd_fail rfl _ _, below_s2 HB0.out (Nat.le_refl _) ⟨0, none, 0, 0⟩⟩
end Go.Proofs.YtnohcppipkpgmaaDoor
namespace Go.Proofs.YtnohcppipkpgmaaDoor
open Go.RowKit Go.Shelf
set_option linter.unusedVariables false
set_option linter.unusedSimpArgs false

theorem RdS.keep {w V V2 : World} {b1 b : Nat} {l s : Int} {q : List Int} {a a' : Option Addr} {cap cap' : Nat} (h : RdS w V b1 l q a cap) (hb : At V b (plO 0 none 0 0)) (hne : b ≠ b1) (hg : (V.alloc (.cells #[.int .i64 s] 62)).grownBy V2 (Value.slice a q.length cap).ownBlock) : At (V2.setCell ⟨b1, 1, none⟩ (.slice a' (q.length + 1) cap')) b (plO 0 none 0 0) :=
  ((hb.alloc _).grown hg (row_ne h.row (x := ⟨0, none, 0, 0⟩) hb)).set hne _
theorem rdR_first {R : Option (Int × List Int)} {l : Int} {r : List UInt8} (hR : R = (stsR 8 r).map fun p => (l, p)) (hr : r.length ≤ 100000) (hl : 0 ≤ l ∧ l ≤ 9223372036854775807) : RdR R l [] r := ⟨by simp, hr, by rw [hR]; simp, fun s hs => by simp at hs, hl.1, hl.2⟩
theorem rdR_no {R : Option (Int × List Int)} {l : Int} {q : List Int} {T : List UInt8} (h : RdR R l q T) (hT : ¬ T = []) (hs : stR T = none) : R = none := by
  by_cases hq : q.length < 8
  · exact h.stuck hq hT hs
  · exact h.full (by have := h.1; omega) hT
set_option maxRecDepth 100000 in
set_option maxHeartbeats 8000000 in
/-- The reference's Read of a text that has no number behind its first sign. -/
theorem rRead_yes (S T r : List UInt8) (l : Int) (R : Option (Int × List Int)) (hE : S.isEmpty = false) (hp : 0 < S.length) (hc : ∀ h, (str S)[0]'h = 95) (HX : Hid ((str S).extract 1 S.length = str T)) (hT : T.length ≤ 100000) (hd : dgs 0 0 T = some (l, r)) (hR : R = (stsR 8 r).map fun p => (l, p)) (HY : Hid ((str S).extract (1 + (T.length - r.length)) S.length = str r)) (hST : S.length = T.length + 1) (w : World) :
    Calls Tryd.prog 34 #[.string (str S)] w fun e w' => ReadPost R w w' e ∧ Below w.heap.size w w' := by
  obtain ⟨w0, hw0⟩ : ∃ w0, w0 = S2 ((w.alloc (plO 0 none 0 0)).alloc (plO 0 none 0 0)) (w.heap.size + 1) ⟨0, none, 0, 0⟩ := ⟨_, rfl⟩
  have HR0 : Hid (At w0 w.heap.size (plO 0 none 0 0)) := by rw [hw0]; exact ((At.new w (plO 0 none 0 0)).alloc _).S2 (by omega) _
  have HN0 : Hid (At w0 (w.heap.size + 1) (plO 0 none 0 0)) := by rw [hw0]; exact (at_snd w (plO 0 none 0 0) (plO 0 none 0 0)).set2 (x := ⟨0, none, 0, 0⟩) ⟨0, none, 0, 0⟩
  have HB0 : Hid (Below w.heap.size w w0) := by rw [hw0]; exact below_s2 bel2 (by omega) _
  have HAN : Hid (At ((w.alloc (plO 0 none 0 0)).alloc (plO 0 none 0 0)) (w.heap.size + 1) (plO 0 none 0 0)) := at_snd _ _ _
  obtain ⟨x0, x1⟩ := HN0.out.pl
  obtain ⟨y0, y1⟩ := HR0.out.pl
  have f0 := HR0.out.plF (x := ⟨0, none, 0, 0⟩) 0
  have f1 := HR0.out.plF (x := ⟨0, none, 0, 0⟩) 1
  have hsz : (str S).size = S.length := str_size _
  have t0 : (str S).toList = S := str_toList _
  have g1 : (0 : Int) < ((S.length : Nat) : Int) := by omega
  obtain ⟨n, hn⟩ : ∃ n, n = T.length - r.length := ⟨_, rfl⟩
  obtain ⟨hl0, hl1, hlr, hdr⟩ := dgs_len hd
  have hn0 : 0 < n := by omega
  have hSL : S.length ≤ 100001 := by omega
  have hnS : 1 + n ≤ S.length := by omega
  have hY := HY.out
  rw [← hn] at hY
  have HHR := hidD hR
  have HL : Hid (0 ≤ l ∧ l ≤ 9223372036854775807) := ⟨hl0, hl1⟩
  have HRL : Hid (r.length ≤ 100000) := by show r.length ≤ 100000; omega
  have CD : Hid (∀ W, Calls Tryd.prog 55 #[.string (str T)] W fun e w' => e = .returned (.tuple #[.int .i64 l, .int .i64 ((n : Nat) : Int)]) ∧ w' = W) := fun W => by
    have := digits_any T hT W _ rfl
    rw [hd] at this
    rw [hn]
    exact this
  have hx := HX.out
  have HNL : Hid (n ≤ T.length ∧ T.length ≤ 100000) := ⟨by omega, hT⟩
  clear hd hT HX HY hR hdr hn hlr hl0 hl1 hST
  have hnZ : ¬ ((n : Nat) : Int) = 0 := by omega
  go_enter Tryd.func34, Tryd.ntmps34
  go_upto_region 2 with (((with_reducible show wpList _ _ _ (Oper.mk none (Op.store 26 _ _) _ _ _ none :: _) _ _); refine wpl_storeP (w.heap.size + 1) ⟨0, none, 0, 0⟩ ⟨0, none, 0, 0⟩ HAN.out rfl rfl ?_; intro w1 hs_))
  rw [← hw0] at hs_
  cases hs_
  clear hw0 HAN
  go_upto_region 7 with ((go_at_call 55; refine (CD.out _).mono ?_; rintro _ w5 ⟨rfl, rfl⟩))
  clear hx CD hc HNL hnZ y0 y1 f0 f1 x0 x1
  go_upto_region 8 with (((with_reducible show wpList _ _ _ (Oper.mk none (Op.store 26 _ _) _ _ _ none :: _) _ _); refine wpl_storeP w5.heap.size ⟨0, none, 0, 0⟩ ⟨l, none, 0, 0⟩ (At.new w5 (plO 0 none 0 0)) rfl rfl ?_; intro w2 hw2; have HS2 : Hid (RdS w w2 w5.heap.size l [] none 0 ∧ At w2 (w.heap.size + 1) (plO 0 none 0 0) ∧ w.heap.size + 1 < w5.heap.size) := (by rw [hw2]; exact ⟨RdS.init HB0.out HR0.out, (HN0.out.alloc _).S2 (by have := HN0.out.lt; omega) _, HN0.out.lt⟩); clear hw2))
  obtain ⟨b1, hb1⟩ : ∃ b1, b1 = w5.heap.size := ⟨_, rfl⟩
  rw [← hb1] at HS2 ⊢
  clear hb1 HB0 HR0 HN0
  have hmx : ((S.length : Nat) : Int) ≤ 9223372036854775807 := by omega
  go_upto_region 9 with fail
  rw [hY]
  have hb0 : (((n : Nat) : Int) == 0) = false := by simp; omega
  rw [hb0]
  clear hb0
  have HI := hidD (rdR_first HHR.out HRL.out HL.out)
  clear hY HHR HL HRL hE hp hsz t0 g1 hn0 hSL hnS hmx
  obtain ⟨i62, hi62, hz62, hs62, hb62⟩ := info_parts Tryd.info62
  go_loopw [0, 8, 9] (fun x y z V => ∃ (q : List Int) (U : List UInt8) (a : Option Addr) (cap : Nat), x = .string (str U) ∧ RdR R l q U ∧ RdS w V b1 l q a cap ∧ At V (w.heap.size + 1) (plO 0 none 0 0) ∧ w.heap.size + 1 < b1) (fun _ _ _ V => 9 - qlen b1 V)
  case atStart => exact ⟨[], r, none, 0, rfl, HI.out, HS2.out⟩
  case round =>
    clear HI HS2
    obtain ⟨q, U, a, cap, rfl, hI, hS, hN, hlt⟩ := hrel
    have HR := hidD hS
    have HN := hidD hN
    have HRR := hidD hI
    clear hS hN hI
    obtain ⟨c0, c1⟩ := HR.out.var.pl
    obtain ⟨d0, d1⟩ := HR.out.res.pl
    obtain ⟨e0, e1⟩ := HN.out.pl
    have f2 := HR.out.var.plF (x := ⟨l, a, q.length, cap⟩) 1
    have nb : ¬ b1 = w.heap.size := by omega
    have t1 : (str U).toList = U := str_toList U
    have hsz : (str U).size = U.length := str_size U
    by_cases hT : U = []
    · subst hT
      have HD := hidD HRR.out.done
      go_wp2_with (((with_reducible show wpList _ _ _ (Oper.mk none (Op.store 26 _ _) _ _ _ none :: _) _ _); refine wpl_storeP w.heap.size ⟨0, none, 0, 0⟩ ⟨l, a, q.length, cap⟩ HR.out.res rfl rfl ?_; intro w7 hs7_; subst hs7_))
      exact bodyPost_ret (results_p2 (g := ⟨l, a, q.length, cap⟩) Tryd.results34 rfl rfl (HR.out.res.set2 (x := ⟨0, none, 0, 0⟩) ⟨l, a, q.length, cap⟩)) rfl ⟨⟨_, q, 0, rfl, HR.out.fin HRR.out.2.2.2.1 HRR.out.2.2.2.2 ⟨l, a, q.length, cap⟩, .inl ⟨HD.out, rfl⟩, HR.out.low⟩, below_s2 HR.out.bel (Nat.le_refl _) ⟨l, a, q.length, cap⟩⟩
    · obtain ⟨c, U', hcU⟩ : ∃ c U', U = c :: U' := by
        cases U with
        | nil => exact absurd rfl hT
        | cons c U' => exact ⟨c, U', rfl⟩
      have hE : U.isEmpty = false := by rw [hcU]; rfl
      have hp : 0 < U.length := by rw [hcU]; simp
      have hc : ∀ h, (str U)[0]'h = c := by intro h; subst hcU; rfl
      have g1 : (0 : Int) < ((U.length : Nat) : Int) := by omega
      have HcU := hidD hcU
      by_cases h46 : c = 46
      · by_cases h2 : U.length < 2
        · have HNO : Hid (R = none) := rdR_no HRR.out hT (by
            have e0 : U' = [] := by
              cases U' with
              | nil => rfl
              | cons d U' => rw [hcU] at h2; simp at h2; omega
            rw [hcU, e0, h46]; rfl)
          have h2i : ((U.length : Nat) : Int) < 2 := by omega
          have h46b : ∀ h, (str U)[0]'h = 46 := by rw [← h46]; exact hc
          clear hc h46 hcU HcU HRR hT
          go_wp2_with (((with_reducible show wpList _ _ _ (Oper.mk none (Op.store 26 _ _) _ _ _ none :: _) _ _); refine wpl_storeP w.heap.size ⟨0, none, 0, 0⟩ ⟨0, none, 0, 0⟩ HR.out.res rfl rfl ?_; intro w7 hs7_; subst hs7_))
          exact bodyPost_ret (results_p2 (g := ⟨0, none, 0, 0⟩) Tryd.results34 rfl rfl (HR.out.res.set2 (x := ⟨0, none, 0, 0⟩) ⟨0, none, 0, 0⟩)) rfl ⟨rd_fail HNO.out _ _, below_s2 HR.out.bel (Nat.le_refl _) ⟨0, none, 0, 0⟩⟩
        have h2i : ¬ ((U.length : Nat) : Int) < 2 := by omega
        have h46b : ∀ h, (str U)[0]'h = 46 := by rw [← h46]; exact hc
        by_cases hq0 : 8 ≤ q.length
        · have HNO : Hid (R = none) := HRR.out.full (by have := HRR.out.1; omega) hT
          have q1 : (8 : Int) ≤ ((q.length : Nat) : Int) := by omega
          have q3 : ¬ ((q.length : Nat) : Int) < 8 := by omega
          clear hc h46 hcU HcU HRR hT
          go_wp2_with (((with_reducible show wpList _ _ _ (Oper.mk none (Op.store 26 _ _) _ _ _ none :: _) _ _); refine wpl_storeP w.heap.size ⟨0, none, 0, 0⟩ ⟨0, none, 0, 0⟩ HR.out.res rfl rfl ?_; intro w7 hs7_; subst hs7_))
          exact bodyPost_ret (results_p2 (g := ⟨0, none, 0, 0⟩) Tryd.results34 rfl rfl (HR.out.res.set2 (x := ⟨0, none, 0, 0⟩) ⟨0, none, 0, 0⟩)) rfl ⟨rd_fail HNO.out _ _, below_s2 HR.out.bel (Nat.le_refl _) ⟨0, none, 0, 0⟩⟩
        have hq : q.length < 8 := by omega
        have q1 : ((q.length : Nat) : Int) < 8 := by omega
        clear hq0
        obtain ⟨d, U2, hdU⟩ : ∃ d U2, U' = d :: U2 := by
          cases U' with
          | nil => rw [hcU] at h2; simp at h2
          | cons d U2 => exact ⟨d, U2, rfl⟩
        have hc2 : ∀ h, (str U)[1]'h = d := by intro h; subst hcU; subst hdU; rfl
        have HX1 : Hid ((str U).extract 1 U.length = str U') := by
          have := ext_drop U 1
          rw [hcU] at this ⊢
          exact this
        have HX2 : Hid ((str U).extract 2 U.length = str U2) := by
          have := ext_drop U 2
          rw [hcU, hdU] at this ⊢
          exact this
        have HUL : Hid (U.length ≤ 100000) := HRR.out.2.1
        by_cases h42 : d = 42
        · have HNX : Hid (RdR R l (q ++ [-1]) U2) := HRR.out.step hq hT (by rw [hcU, hdU, h46, h42]; rfl)
          have h42b : ∀ h, (str U)[1]'h = 42 := by rw [← h42]; exact hc2
          have hx := HX2.out
          have HQ := hidD hq
          obtain ⟨m, hm⟩ : ∃ m, m = q.length := ⟨_, rfl⟩
          have HM := hidD hm
          have hrow := HR.out.row
          rw [← hm] at c1 q1 hrow
          have HO := hidD hrow
          have q2 : m < 8 := by omega
          have hUl := HUL.out
          clear hc hc2 h46 hcU HcU HRR hT hdU h42 HX1 HX2 HUL hq hm hrow
          go_wp2_with ((at_builtin; (refine wpList_append_own _ rfl (.tmp 55) (.tmp 56) 24 rfl w.heap.size 62 i62 (.int .i64 0) 1 8 Tryd.underlying24 hi62 hz62 hs62 hb62 rfl (by omega) (.slice a m cap) m (q.map (.int .i64)) rfl (HO.out.alloc _) ⟨wr.heap.size, 0, none⟩ 1 1 [.int .i64 (-1)] rfl rfl (new1 _ _ _) (by intro u hu; simp at hu; subst hu; rfl) (by unfold maxLen; omega) (by omega) (by have := HR.out.bel.size; simp; omega) ?_); intro v3 w3 ho3 hg3 hn3; obtain ⟨a3, cap3, rfl⟩ := own_sl ho3; rw [HM.out] at ho3 hg3; have HN3 := hidD (HR.out.next ho3 hg3); have HK3 := hidD (HR.out.keep (a' := a3) (cap' := cap3) HN.out (by omega) hg3); have HV3 := hidD ((HR.out.var.alloc _).grown hg3 (row_ne HR.out.row (x := ⟨l, a, q.length, cap⟩) HR.out.var)); clear ho3 hg3 hn3; obtain ⟨k0, k1⟩ := HV3.out.pl; have f3 := HV3.out.plF (x := ⟨l, a, q.length, cap⟩) 1))
          have eM := HM.out
          subst eM
          first
            | refine ⟨⟨q ++ [-1], U2, rfl, HNX.out, ⟨a3, cap3, HN3.out⟩, HK3.out⟩, ?_⟩
            | refine ⟨⟨q ++ [-1], U2, a3, cap3, rfl, HNX.out, HN3.out, HK3.out, hlt⟩, ?_⟩
            | (rw [hx]; refine ⟨⟨q ++ [-1], U2, a3, cap3, rfl, HNX.out, HN3.out, HK3.out, hlt⟩, ?_⟩)
          rw [HN3.out.qlen, HR.out.qlen, List.length_append]
          have := HQ.out
          show 9 - (q.length + 1) < 9 - q.length
          omega
        · have hst : stR U = dgs 0 0 U' := by
            unfold stR
            rw [hcU, h46, if_pos (by rfl)]
            show (if U'.head? = some 42 then _ else dgs 0 0 U') = _
            rw [if_neg]
            rw [hdU]
            simpa using h42
          have h42i : ¬ (d.toNat : Int) = 42 := fun e => h42 (UInt8.toNat_inj.1 (by show d.toNat = 42; omega))
          have hUU : U.length = U'.length + 1 := by rw [hcU]; simp
          have hx := HX1.out
          cases hd : dgs 0 0 U' with
          | none =>
            have HNO : Hid (R = none) := rdR_no HRR.out hT (by rw [hst, hd])
            have CD : Hid (∀ W, Calls Tryd.prog 55 #[.string (str U')] W fun e w' => e = .returned (.tuple #[.int .i64 0, .int .i64 0]) ∧ w' = W) := fun W => by
              have := digits_any U' (by have := HUL.out; omega) W _ rfl
              rw [hd] at this
              exact this
            have hUl := HUL.out
            clear hc h46 hcU HcU HRR hT hdU h42 HX1 HX2 HUL hq hst hd hUU
            go_wp2_with (first | (go_at_call 55; refine (CD.out _).mono ?_; rintro _ w6 ⟨rfl, h6⟩; have h7 := h6.symm; clear h6; subst h7) | ((with_reducible show wpList _ _ _ (Oper.mk none (Op.store 26 _ _) _ _ _ none :: _) _ _); refine wpl_storeP w.heap.size ⟨0, none, 0, 0⟩ ⟨0, none, 0, 0⟩ HR.out.res rfl rfl ?_; intro w7 hs7_; subst hs7_))
            exact bodyPost_ret (results_p2 (g := ⟨0, none, 0, 0⟩) Tryd.results34 rfl rfl (HR.out.res.set2 (x := ⟨0, none, 0, 0⟩) ⟨0, none, 0, 0⟩)) rfl ⟨rd_fail HNO.out _ _, below_s2 HR.out.bel (Nat.le_refl _) ⟨0, none, 0, 0⟩⟩
          | some z =>
            obtain ⟨s, r2⟩ := z
            obtain ⟨hl0, hl1, hlr, hdr⟩ := dgs_len hd
            have HNX : Hid (RdR R l (q ++ [s]) r2) := HRR.out.step hq hT (by rw [hst, hd])
            obtain ⟨n2, hn2⟩ : ∃ n2, n2 = U'.length - r2.length := ⟨_, rfl⟩
            have HY : Hid ((str U).extract (1 + n2) U.length = str r2) := by
              have := ext_drop U (1 + n2)
              refine hidD (this.trans ?_)
              rw [hcU, Nat.add_comm 1 n2, List.drop_succ_cons, hn2, hdr]
            have CD : Hid (∀ W, Calls Tryd.prog 55 #[.string (str U')] W fun e w' => e = .returned (.tuple #[.int .i64 s, .int .i64 ((n2 : Nat) : Int)]) ∧ w' = W) := fun W => by
              have := digits_any U' (by have := HUL.out; omega) W _ rfl
              rw [hd] at this
              rw [hn2]
              exact this
            have hy := HY.out
            have n20 : 0 < n2 := by omega
            have n2S : 1 + n2 ≤ U.length := by omega
            have n2Z : ¬ ((n2 : Nat) : Int) = 0 := by omega
            have HQ := hidD hq
            obtain ⟨m, hm⟩ : ∃ m, m = q.length := ⟨_, rfl⟩
            have HM := hidD hm
            have hrow := HR.out.row
            rw [← hm] at c1 q1 hrow
            have HO := hidD hrow
            have q2 : m < 8 := by omega
            have hUl := HUL.out
            clear hc h46 hcU HcU HRR hT hdU h42 HX1 HX2 HUL hq hm hrow hst hd hUU hl0 hl1 hlr hdr hn2 HY
            go_wp2_with (first | (go_at_call 55; refine (CD.out _).mono ?_; rintro _ w6 ⟨rfl, h6⟩; have h7 := h6.symm; clear h6; subst h7) | (at_builtin; (refine wpList_append_own _ rfl (.tmp 71) (.tmp 73) 24 rfl w.heap.size 62 i62 (.int .i64 0) 1 8 Tryd.underlying24 hi62 hz62 hs62 hb62 rfl (by omega) (.slice a m cap) m (q.map (.int .i64)) rfl (HO.out.alloc _) ⟨wr.heap.size, 0, none⟩ 1 1 [.int .i64 s] rfl rfl (new1 _ _ _) (by intro u hu; simp at hu; subst hu; rfl) (by unfold maxLen; omega) (by omega) (by have := HR.out.bel.size; simp; omega) ?_); intro v3 w3 ho3 hg3 hn3; obtain ⟨a3, cap3, rfl⟩ := own_sl ho3; rw [HM.out] at ho3 hg3; have HN3 := hidD (HR.out.next ho3 hg3); have HK3 := hidD (HR.out.keep (a' := a3) (cap' := cap3) HN.out (by omega) hg3); have HV3 := hidD ((HR.out.var.alloc _).grown hg3 (row_ne HR.out.row (x := ⟨l, a, q.length, cap⟩) HR.out.var)); clear ho3 hg3 hn3; obtain ⟨k0, k1⟩ := HV3.out.pl; have f3 := HV3.out.plF (x := ⟨l, a, q.length, cap⟩) 1))
            have eM := HM.out
            subst eM
            first
              | refine ⟨⟨q ++ [s], r2, rfl, HNX.out, ⟨a3, cap3, HN3.out⟩, HK3.out⟩, ?_⟩
              | (rw [hy]; refine ⟨⟨q ++ [s], r2, a3, cap3, rfl, HNX.out, HN3.out, HK3.out, hlt⟩, ?_⟩)
              | (rw [hy]; refine ⟨⟨_, _, _, _, _, _, _, _, _, _, _, _, _, _, _, _, _, _, _, _, _, _, _, _, _, _, _, _, _, _, _, _, _, _, _, _, _, _, _, _, _, _, _, _, _, _, _, _, _, _, ⟨q ++ [s], r2, a3, cap3, rfl, HNX.out, HN3.out, HK3.out, hlt⟩, rfl⟩, ?_⟩)
            rw [HN3.out.qlen, HR.out.qlen, List.length_append]
            have := HQ.out
            show 9 - (q.length + 1) < 9 - q.length
            omega
      · have HNO : Hid (R = none) := rdR_no HRR.out hT (by unfold stR; rw [hcU, if_neg (by simpa using h46)])
        have h46i : ¬ (c.toNat : Int) = 46 := fun e => h46 (UInt8.toNat_inj.1 (by show c.toNat = 46; omega))
        clear h46 hcU HcU HRR hT
        go_wp2_with (((with_reducible show wpList _ _ _ (Oper.mk none (Op.store 26 _ _) _ _ _ none :: _) _ _); refine wpl_storeP w.heap.size ⟨0, none, 0, 0⟩ ⟨0, none, 0, 0⟩ HR.out.res rfl rfl ?_; intro w7 hs7_; subst hs7_))
        exact bodyPost_ret (results_p2 (g := ⟨0, none, 0, 0⟩) Tryd.results34 rfl rfl (HR.out.res.set2 (x := ⟨0, none, 0, 0⟩) ⟨0, none, 0, 0⟩)) rfl ⟨rd_fail HNO.out _ _, below_s2 HR.out.bel (Nat.le_refl _) ⟨0, none, 0, 0⟩⟩
end Go.Proofs.YtnohcppipkpgmaaDoor
namespace Go.Proofs.YtnohcppipkpgmaaDoor
open Go.RowKit Go.Shelf
set_option linter.unusedVariables false
set_option linter.unusedSimpArgs false

/-- The reference's Read. -/
theorem rRead_any (S : List UInt8) (hS : S.length ≤ 100000) (w : World) (R : Option (Int × List Int)) (hR : R = rdP S) :
    Calls Tryd.prog 34 #[.string (str S)] w fun e w' => ReadPost R w w' e ∧ Below w.heap.size w w' := by
  subst hR
  cases S with
  | nil =>
    rw [show rdP [] = none by simp [rdP]]
    exact rRead_nil w
  | cons c T =>
    have hT : T.length ≤ 100000 := by simp at hS; omega
    by_cases h95 : c = 95
    · subst h95
      have HX : Hid ((str (95 :: T)).extract 1 (95 :: T).length = str T) := hidD (ext_drop (95 :: T) 1)
      cases hd : dgs 0 0 T with
      | none =>
        rw [show rdP (95 :: T) = none by simp [rdP, hd]]
        exact rRead_nodig (95 :: T) T rfl (by simp) (fun _ => rfl) HX hT hd w
      | some z =>
        obtain ⟨l, r⟩ := z
        obtain ⟨-, -, hlr, hdr⟩ := dgs_len hd
        have HY : Hid ((str (95 :: T)).extract (1 + (T.length - r.length)) (95 :: T).length = str r) := by
          refine hidD ((ext_drop (95 :: T) (1 + (T.length - r.length))).trans ?_)
          rw [Nat.add_comm 1, List.drop_succ_cons, hdr]
        exact rRead_yes (95 :: T) T r l _ rfl (by simp) (fun _ => rfl) HX hT hd (by simp [rdP, hd]) HY (by simp) w
    · rw [show rdP (c :: T) = none by simp [rdP, h95]]
      exact rRead_other (c :: T) c rfl (by simp) (fun _ => rfl) h95 w
/-- A path that is being written over. -/
def OK (c0 : Array Value) (V : World) (g off n : Nat) : Prop := ∃ cur : Array Value, At V g (.cells cur 62 (0, 0)) ∧ (∀ j, j < n → ∃ x : Int, cur[off + j]? = some (.int .i64 x)) ∧ ∀ j, j < off ∨ off + n ≤ j → cur[j]? = c0[j]?
theorem OK.cell {c0 : Array Value} {V : World} {g off n : Nat} (h : OK c0 V g off n) {j : Nat} (hj : j < n) : (∃ x : Int, V.cell? ⟨g, off + j, none⟩ = some (.int .i64 x)) ∧ V.frozen? ⟨g, off + j, none⟩ = false ∧ g < V.heap.size := by
  obtain ⟨cur, hA, hc, hk⟩ := h
  obtain ⟨x, hx⟩ := hc j hj
  refine ⟨⟨x, ?_⟩, frozen_of_row V g (off + j) _ 62 hA, hA.lt⟩
  unfold At at hA
  simp [World.cell?, hA, hx]
theorem OK.set {c0 : Array Value} {V : World} {g off n i : Nat} (h : OK c0 V g off n) (hi : i < n) (y : Int) : OK c0 (V.setCell ⟨g, off + i, none⟩ (.int .i64 y)) g off n := by
  obtain ⟨cur, hA, hc, hk⟩ := h
  refine ⟨_, heap_setCell_same V g (off + i) cur 62 (.int .i64 y) hA, fun j hj => ?_, fun j hj => by rw [Array.getElem?_setIfInBounds_ne (by omega)]; exact hk j hj⟩
  obtain ⟨x, hx⟩ := hc j hj
  by_cases e : j = i
  · subst e
    exact ⟨y, by rw [Array.getElem?_setIfInBounds_self_of_lt (Array.getElem?_eq_some_iff.1 hx).1]⟩
  · exact ⟨x, by rw [Array.getElem?_setIfInBounds_ne (by omega)]; exact hx⟩
theorem OK.bel {c0 : Array Value} {V V' : World} {g off n : Nat} (h : OK c0 V g off n) (hb : Below V.heap.size V V') : OK c0 V' g off n := by
  obtain ⟨cur, hA, hc, hk⟩ := h
  exact ⟨cur, hA.below hb, hc, hk⟩
theorem OK.olds {c0 : Array Value} {V : World} {g off n : Nat} (h : OK c0 V g off n) : ∃ olds : List Value, olds.length = n ∧ ∀ j v, olds[j]? = some v → V.cell? ⟨g, off + j, none⟩ = some v := by
  have hx : ∀ j, ∃ x : Int, j < n → V.cell? ⟨g, off + j, none⟩ = some (.int .i64 x) := fun j => by
    by_cases hj : j < n
    · obtain ⟨⟨x, hx⟩, -⟩ := h.cell hj
      exact ⟨x, fun _ => hx⟩
    · exact ⟨0, fun h => absurd h hj⟩
  refine ⟨(List.range n).map fun j => .int .i64 (Classical.choose (hx j)), by simp, fun j v hv => ?_⟩
  have hj : j < n := by simpa using (List.getElem?_eq_some_iff.1 hv).1
  rw [List.getElem?_map, List.getElem?_range hj] at hv
  cases hv
  exact Classical.choose_spec (hx j) hj
set_option maxRecDepth 100000 in
set_option maxHeartbeats 8000000 in
/-- over, of a path that has steps. -/
theorem over_own {c0 : Array Value} {w : World} {l : Int} {g off n : Nat} (h : OK c0 w g off n) (hn : n ≤ 60) (h1 : 1 ≤ n) :
    Calls Tryd.prog 21 #[plV l (some ⟨g, off, none⟩) n n] w fun e w' => e = .returned (.tuple #[]) ∧ But g w w' ∧ OK c0 w' g off n := by
  have hgw : g < w.heap.size := (h.cell (j := 0) (by omega)).2.2
  have HA0 := hidD (At.new w (plO l (some ⟨g, off, none⟩) n n))
  have HO0 : Hid (OK c0 (w.alloc (plO l (some ⟨g, off, none⟩) n n)) g off n) := by
    obtain ⟨cur, hA, hc, hk⟩ := h
    exact ⟨cur, hA.alloc _, hc, hk⟩
  have HB0 : Hid (But g w (w.alloc (plO l (some ⟨g, off, none⟩) n n))) := (But.refl g w).alloc _
  obtain ⟨i62, hi62, hz62, hs62, hb62⟩ := info_parts Tryd.info62
  have HN : Hid (n ≤ 60 ∧ 1 ≤ n) := ⟨hn, h1⟩
  have HGW := hidD hgw
  clear h hn h1
  go_enter Tryd.func21, Tryd.ntmps21
  go_wp2_with fail
  go_loopw [2] (fun v V => ∃ i : Nat, i ≤ n ∧ v = .int .i64 (i : Int) ∧ At V w.heap.size (plO l (some ⟨g, off, none⟩) n n) ∧ OK c0 V g off n ∧ But g w V) (fun v _ => n - (intOf v).toNat)
  case atStart => exact ⟨0, Nat.zero_le _, rfl, HA0.out, HO0.out, HB0.out⟩
  case round =>
    clear HA0 HO0 HB0
    obtain ⟨i, hi, rfl, hA, hO, hB⟩ := hrel
    have HA := hidD hA
    have HO := hidD hO
    have HB := hidD hB
    obtain ⟨x0, x1⟩ := hA.pl
    clear hA hO hB
    by_cases hlt : i < n
    · obtain ⟨⟨y, hy⟩, hf, hg⟩ := HO.out.cell hlt
      have i0 : (0 : Int) ≤ (i : Int) := by omega
      have i1 : (i : Int) < (n : Int) := by omega
      have i2 : (i : Int) ≤ 60 := by have := HN.out; omega
      have nb : ¬ g = w.heap.size := by have := HGW.out; omega
      have HNX : Hid (At (wr.setCell ⟨g, off + i, none⟩ (.int .i64 (-9))) w.heap.size (plO l (some ⟨g, off, none⟩) n n) ∧ OK c0 (wr.setCell ⟨g, off + i, none⟩ (.int .i64 (-9))) g off n ∧ But g w (wr.setCell ⟨g, off + i, none⟩ (.int .i64 (-9)))) := ⟨HA.out.set (by have := HGW.out; show w.heap.size ≠ g; omega) _, HO.out.set hlt (-9), HB.out.set (off + i) _⟩
      go_wp2_with fail
      refine ⟨⟨i + 1, hlt, rfl, HNX.out.1, HNX.out.2.1, HNX.out.2.2⟩, ?_⟩
      show n - ((i : Int) + 1).toNat < n - (i : Int).toNat
      omega
    · obtain rfl : i = n := by omega
      have z1 : ¬ ((i : Int) < (i : Int)) := by omega
      clear hlt hi
      go_wp2_with fail
      obtain ⟨wo, rfl⟩ : ∃ wo, wo = wr := ⟨_, rfl⟩
      go_loopw [3, 4] (fun u v V => ∃ k : Nat, k ≤ 3 ∧ v = .int .i64 (k : Int) ∧ Below wo.heap.size wo V ∧ (k = 0 ∧ u = .slice (some ⟨g, off, none⟩) i i ∨ ∃ xs, V.ownsRow wo.heap.size 62 1 u (i + k) xs)) (fun _ v _ => 3 - (intOf v).toNat)
      case atStart => exact ⟨0, by omega, rfl, Below.refl _ _, .inl ⟨rfl, rfl⟩⟩
      case round =>
        obtain ⟨k, hk, rfl, hBk, hu⟩ := hrel
        have HBk := hidD hBk
        clear hBk
        by_cases hk3 : k < 3
        · have k1 : (k : Int) < 3 := by omega
          have k2 : (k : Int) ≤ 3 := by omega
          have HK3 := hidD hk3
          rcases hu with ⟨rfl, rfl⟩ | ⟨xs, hx⟩
          · obtain ⟨olds, ho1, ho2⟩ := HO.out.olds
            have HO1 := hidD ho1
            have HO2 : Hid (∀ V, Below wo.heap.size wo V → ∀ j v, olds[j]? = some v → V.cell? ⟨g, off + j, none⟩ = some v) := fun V hV j v hv => (hV.cell (p := ⟨g, off + j, none⟩) (HO.out.cell (j := 0) (by have := HN.out; omega)).2.2).trans (ho2 j v hv)
            clear ho1 ho2 hk hk3
            go_wp2_with (at_builtin; refine wpl_append_full rfl (.tmp 22) (.tmp 23) rfl g off i HN.out.1 rfl olds HO1.out (HO2.out _ (belA HBk.out)) ⟨wr.heap.size, 0, none⟩ 1 (.int .i64 (-8)) rfl (by exact new1 wr (.int .i64 (-8)) 62 0 _ rfl) ?_; intro v' w' ho' hb'; have HO' := hidD (own_low ho' (show wo.heap.size ≤ _ by have := HBk.out.size; simp; omega)); have HB' := hidD (below_aft HBk.out (below1 hb')); clear ho' hb')
            refine ⟨⟨1, by omega, rfl, HB'.out, .inr ⟨_, HO'.out⟩⟩, by decide⟩
          · obtain ⟨a3, c3, rfl⟩ := own_sl hx
            have HX := hidD hx
            clear hx hk hk3
            go_wp2_with (at_builtin; refine wpList_append_own _ rfl (.tmp 22) (.tmp 23) 24 rfl wo.heap.size 62 i62 (.int .i64 0) 1 8 Tryd.underlying24 hi62 hz62 hs62 hb62 rfl (by omega) (.slice a3 (i + k) c3) (i + k) xs rfl (HX.out.alloc _) ⟨wr.heap.size, 0, none⟩ 1 1 [.int .i64 (-8)] rfl rfl (new1 _ _ _) (by intro u hu; simp at hu; subst hu; rfl) (by unfold maxLen; have := HN.out; have := HK3.out; omega) (by have := HN.out; have := HK3.out; omega) (by have := HBk.out.size; simp; omega) ?_; intro v' w' ho' hg' hn'; have HO' := hidD ho'; have HB' : Hid (Below wo.heap.size wo w') := grow_bel (belA HBk.out) hg' (by have := HBk.out.size; simp; omega) (fun q e => own_lo HX.out q (by rw [← e])); clear ho' hg' hn')
            refine ⟨⟨k + 1, by have := HK3.out; omega, rfl, HB'.out, .inr ⟨_, HO'.out⟩⟩, ?_⟩
            show 3 - ((k : Int) + 1).toNat < 3 - (k : Int).toNat
            have := HK3.out
            omega
        · obtain rfl : k = 3 := by omega
          clear hu hk3 hk
          go_wp2_with fail
          go_end0
          exact ⟨rfl, HB.out.trans (But.below HBk.out), HO.out.bel HBk.out⟩
end Go.Proofs.YtnohcppipkpgmaaDoor
namespace Go.Proofs.YtnohcppipkpgmaaDoor
open Go.RowKit Go.Shelf
set_option linter.unusedVariables false
set_option linter.unusedSimpArgs false

/-- The cells of the reference's list of prefixes. -/
def wC (l : Int) : Nat → List (Option Addr × Nat) → List Value
  | _, [] => []
  | k, z :: r => .int .i64 l :: .slice z.1 k z.2 :: wC l (k + 1) r
theorem wC_snoc (l : Int) (z : Option Addr × Nat) : ∀ (k : Nat) (zs : List (Option Addr × Nat)), wC l k (zs ++ [z]) = wC l k zs ++ [.int .i64 l, .slice z.1 (k + zs.length) z.2]
  | k, [] => rfl
  | k, y :: r => by
    show .int .i64 l :: .slice y.1 k y.2 :: wC l (k + 1) (r ++ [z]) = .int .i64 l :: .slice y.1 k y.2 :: (wC l (k + 1) r ++ _)
    rw [wC_snoc l z (k + 1) r, show k + 1 + r.length = k + (y :: r).length by simp; omega]
theorem wC_at (l : Int) : ∀ (zs : List (Option Addr × Nat)) (k i : Nat) (z : Option Addr × Nat), zs[i]? = some z → (wC l k zs)[i * 2]? = some (.int .i64 l) ∧ (wC l k zs)[i * 2 + 1]? = some (.slice z.1 (k + i) z.2)
  | [], k, i, z, h => by simp at h
  | y :: r, k, 0, z, h => by
    simp at h
    subst h
    exact ⟨rfl, rfl⟩
  | y :: r, k, i + 1, z, h => by
    have ih := wC_at l r (k + 1) i z (by simpa using h)
    rw [show (i + 1) * 2 = i * 2 + 1 + 1 by omega, show k + (i + 1) = k + 1 + i by omega]
    exact ih
/-- The reference's list of prefixes, in memory of its own. -/
structure RfR (B : Nat) (V : World) (wa : Option Addr) (n cap : Nat) (l : Int) (p : List Int) (zs : List (Option Addr × Nat)) : Prop where
  len : zs.length = n
  row : V.ownsRow B 26 2 (.slice wa n cap) n (wC l 0 zs)
  pth : ∀ i z, zs[i]? = some z → V.ownsRow B 62 1 (.slice z.1 i z.2) i ((p.take i).map (.int .i64))
theorem RfR.bel {B n cap : Nat} {V V' : World} {wa : Option Addr} {l : Int} {p : List Int} {zs : List (Option Addr × Nat)} (h : RfR B V wa n cap l p zs) (hb : Below V.heap.size V V') : RfR B V' wa n cap l p zs := ⟨h.len, own_bel h.row hb, fun i z hz => own_bel (h.pth i z hz) hb⟩
theorem RfR.but {B n cap b : Nat} {V V' : World} {wa : Option Addr} {l : Int} {p : List Int} {zs : List (Option Addr × Nat)} (h : RfR B V wa n cap l p zs) (k : But b V V') (hb : b < B) : RfR B V' wa n cap l p zs :=
  ⟨h.len, own_grow h.row k (fun g hg e => by have := own_lo h.row g hg; cases e; omega), fun i z hz => own_grow (h.pth i z hz) k (fun g hg e => by have := own_lo (h.pth i z hz) g hg; cases e; omega)⟩
theorem RfR.low {B B' n cap : Nat} {V : World} {wa : Option Addr} {l : Int} {p : List Int} {zs : List (Option Addr × Nat)} (h : RfR B V wa n cap l p zs) (hB : B' ≤ B) : RfR B' V wa n cap l p zs := ⟨h.len, own_low h.row hB, fun i z hz => own_low (h.pth i z hz) hB⟩
theorem ownBlock_ne {V : World} {B B' n m c c' : Nat} {a a' : Option Addr} {xs ys : List Value} (h : V.ownsRow B 26 2 (.slice a n c) n xs) (k : V.ownsRow B' 62 1 (.slice a' m c') m ys) : ∀ g, (Value.slice a' m c').ownBlock = some g → some g ≠ (Value.slice a n c).ownBlock := fun g hg => by
  rcases k.2 with ⟨e0, -⟩ | ⟨g', cap', cur, e0, -, hgk, -⟩
  · cases e0; cases hg
  · cases e0
    cases hg
    exact own_ne h (t := 62) hgk (by decide)
theorem RfR.place {B n cap : Nat} {V : World} {wa : Option Addr} {l : Int} {p : List Int} {zs : List (Option Addr × Nat)} (h : RfR B V wa n cap l p zs) (hl : -9223372036854775808 ≤ l ∧ l ≤ 9223372036854775807) (hr : ∀ x ∈ p, -9223372036854775808 ≤ x ∧ x ≤ 9223372036854775807) {i : Nat} (hi : i < n) (hp : i ≤ p.length) :
    ∃ gw a c, wa = some ⟨gw, 0, none⟩ ∧ V.cell? ⟨gw, i * 2, none⟩ = some (.int .i64 l) ∧ V.cell? ⟨gw, i * 2 + 1, none⟩ = some (.slice a i c) ∧ PAt V ⟨l, a, i, c⟩ (p.take i) ∧ gw < V.heap.size := by
  obtain ⟨z, hz⟩ : ∃ z, zs[i]? = some z := ⟨_, List.getElem?_eq_getElem (by rw [h.len]; exact hi)⟩
  obtain ⟨c0, c1⟩ := wC_at l zs 0 i z hz
  rw [Nat.zero_add] at c1
  rcases h.row.2 with ⟨e0, en, -⟩ | ⟨g', cap', cur, e0, -⟩
  · cases e0; omega
  · cases e0
    refine ⟨g', z.1, z.2, rfl, (own_cell h.row c0).1, (own_cell h.row c1).1, ⟨?_, hl.1, hl.2⟩, (own_cell h.row c1).2⟩
    have hT : ∀ (T : List Int), T.length = i → (∀ x ∈ T, -9223372036854775808 ≤ x ∧ x ≤ 9223372036854775807) → V.ownsRow B 62 1 (.slice z.1 i z.2) i (T.map (.int .i64)) → IntR V z.1 i z.2 T := fun T hl hr h => by
      subst hl
      exact row_int (n := 0) h hr
    exact hT _ (by rw [List.length_take]; omega) (fun x hx => hr x (List.mem_of_mem_take hx)) (h.pth i z hz)
set_option maxRecDepth 100000 in
set_option maxHeartbeats 8000000 in
/-- The reference's Prefixes. -/
theorem rPrefixes_any {w : World} {x : Pt} {p : List Int} (hP : PAt w x p) (hn : p.length ≤ 60) :
    Calls Tryd.prog 32 #[x.v] w fun e w' => ∃ wa cap zs, e = .returned (.slice wa (p.length + 1) cap) ∧ RfR w.heap.size w' wa (p.length + 1) cap x.l p zs ∧ Below w.heap.size w w' := by
  have hm : x.n = p.length := hP.row.len
  have HA0 : Hid (At (w.alloc x.o) w.heap.size x.o) := At.new w x.o
  have HB0 : Hid (Below w.heap.size w (w.alloc x.o)) := belA (Below.refl _ _)
  obtain ⟨i26, hi26, hz26, hs26, hb26⟩ := info_parts Tryd.info26
  have C42 : Hid (∀ (V : World) (i : Nat), i ≤ p.length → Below w.heap.size w V → w.heap.size < V.heap.size → Calls Tryd.prog 42 #[x.v, .int .i64 (i : Int)] V fun e w' => ∃ a cap, e = .returned (plV x.l a i cap) ∧ Below V.heap.size V w' ∧ w'.ownsRow (w.heap.size + 1) 62 1 (.slice a i cap) i ((p.take i).map (.int .i64))) := fun V i hi hV hlt =>
    (rcut_own (hP.bel hV) i hi hn).mono fun e w' ⟨a, cap, k1, k2, k3, k4, k5⟩ => ⟨a, cap, k1, k4, own_low k5 hlt⟩
  obtain ⟨l, pa, m, pcap⟩ := x
  have hm2 : m = p.length := hm
  subst hm2
  obtain ⟨n, hN⟩ : ∃ n, n = p.length := ⟨_, rfl⟩
  have HN := hidD hN
  show Calls Tryd.prog 32 #[plV l pa p.length pcap] w _
  rw [← hN] at hn ⊢
  have HN6 := hidD hn
  have HA0 : Hid (At (w.alloc (plO l pa n pcap)) w.heap.size (plO l pa n pcap)) := hidD (by have := HA0.out; rw [← hN] at this; exact this)
  have HB0 : Hid (Below w.heap.size w (w.alloc (plO l pa n pcap))) := hidD (by have := HB0.out; rw [← hN] at this; exact this)
  have C42 : Hid (∀ (V : World) (i : Nat), i ≤ n → Below w.heap.size w V → w.heap.size < V.heap.size → Calls Tryd.prog 42 #[plV l pa n pcap, .int .i64 (i : Int)] V fun e w' => ∃ a cap, e = .returned (plV l a i cap) ∧ Below V.heap.size V w' ∧ w'.ownsRow (w.heap.size + 1) 62 1 (.slice a i cap) i ((p.take i).map (.int .i64))) := hidD (by have := C42.out; rw [← hN] at this; exact this)
  clear hP hm hN hn
  go_enter Tryd.func32, Tryd.ntmps32
  go_wp2_with fail
  go_loopw [3, 4] (fun u v V => ∃ (k : Nat) (wa : Option Addr) (cap : Nat) (zs : List (Option Addr × Nat)), k ≤ n + 1 ∧ u = .slice wa k cap ∧ v = .int .i64 (k : Int) ∧ RfR (w.heap.size + 1) V wa k cap l p zs ∧ At V w.heap.size (plO l pa n pcap) ∧ Below w.heap.size w V) (fun _ v _ => n + 1 - (intOf v).toNat)
  case atStart => exact ⟨0, none, 0, [], by omega, rfl, rfl, ⟨rfl, World.ownsRow_nil _ _ _ _, fun i z hz => by simp at hz⟩, HA0.out, HB0.out⟩
  case round =>
    clear HA0 HB0
    obtain ⟨k, wa, cap, zs, hk, rfl, rfl, hR, hA, hB⟩ := hrel
    have HR := hidD hR
    have HA := hidD hA
    have HB := hidD hB
    obtain ⟨x0, x1⟩ := hA.pl
    clear hR hA hB
    by_cases hlt : k ≤ n
    · have i0 : (k : Int) ≤ (n : Int) := by omega
      have i2 : (k : Int) ≤ 60 := by have := HN6.out; omega
      have HK : Hid (k ≤ n ∧ n ≤ 60) := ⟨hlt, HN6.out⟩
      clear hlt hk
      go_wp2_with (first
        | (go_at_call 42; refine (C42.out wr k HK.out.1 HB.out HA.out.lt).mono ?_; rintro e w1 ⟨a, c, rfl, hb1, ho1⟩; have HR1 := hidD (HR.out.bel hb1); have HA1 := hidD (HA.out.below hb1); have HB1 := hidD (below_aft HB.out hb1); have HO1 := hidD ho1; clear hb1 ho1)
        | (at_builtin; refine wpList_append_own _ rfl (.tmp 12) (.tmp 16) 54 rfl (w.heap.size + 1) 26 i26 (.agg #[.int .i64 0, .slice none 0 0]) 2 32 Tryd.underlying54 hi26 hz26 hs26 hb26 rfl (by omega) (.slice wa k cap) k (wC l 0 zs) rfl (HR1.out.bel (belA (Below.refl _ _))).row ⟨w1.heap.size, 0, none⟩ 1 1 [.int .i64 l, .slice a k c] rfl rfl (new2 _ _ _ _) (by intro u hu; simp at hu; rcases hu with rfl | rfl <;> rfl) (by unfold maxLen; have := HK.out; omega) (by have := HK.out; omega) (by have := HA1.out.lt; simp; omega) ?_; intro v3 w3 ho3 hg3 hn3; obtain ⟨a3, cap3, rfl⟩ := own_sl ho3; have HO3 := hidD ho3; have HG3 := hidD hg3; clear ho3 hg3 hn3))
      have H26 : World.ownsRow (w1.alloc (.cells #[.int .i64 l, .slice a k c] 26 (0, 0))) (w.heap.size + 1) 26 2 (.slice wa k cap) k (wC l 0 zs) := own_bel HR1.out.row (belA (Below.refl _ _))
      have HAl : At (w1.alloc (.cells #[.int .i64 l, .slice a k c] 26 (0, 0))) w.heap.size (plO l pa n pcap) := HA1.out.alloc _
      have hAn : some w.heap.size ≠ (Value.slice wa k cap).ownBlock := fun e => by
        have h1 := own_lo HR1.out.row _ e.symm
        omega
      refine ⟨⟨k + 1, a3, cap3, zs ++ [(a, c)], by have := HK.out; omega, rfl, rfl, ⟨by simp [HR.out.len], ?_, fun i z hz => ?_⟩, HAl.grown HG3.out hAn, grow_bel (belA HB1.out) HG3.out (by have := HB1.out.size; simp; omega) (fun g e => by have := own_lo HR1.out.row g (by rw [← e]); omega)⟩, ?_⟩
      · rw [wC_snoc, Nat.zero_add, HR.out.len]
        exact HO3.out
      · have hold : World.ownsRow (w1.alloc (.cells #[.int .i64 l, .slice a k c] 26 (0, 0))) (w.heap.size + 1) 62 1 (.slice z.1 i z.2) i ((p.take i).map (.int .i64)) := by
          rcases Nat.lt_trichotomy i k with hik | hik | hik
          · rw [List.getElem?_append_left (by rw [HR.out.len]; exact hik)] at hz
            exact own_bel (HR1.out.pth i z hz) (belA (Below.refl _ _))
          · subst hik
            rw [List.getElem?_append_right (by rw [HR.out.len]; exact Nat.le_refl _), HR.out.len, Nat.sub_self] at hz
            cases hz
            exact own_bel HO1.out (belA (Below.refl _ _))
          · rw [List.getElem?_append_right (by rw [HR.out.len]; omega), HR.out.len] at hz
            have : i - k = (i - k - 1) + 1 := by omega
            rw [this] at hz
            simp at hz
        exact own_grow hold HG3.out (ownBlock_ne H26 hold)
      · show n + 1 - ((k : Int) + 1).toNat < n + 1 - (k : Int).toNat
        have := HK.out
        omega
    · obtain rfl : k = n + 1 := by omega
      have z1 : ¬ ((n + 1 : Nat) : Int) ≤ (n : Int) := by omega
      clear hlt hk
      go_wp2_with fail
      go_ret
      exact ⟨wa, cap, rfl, ⟨zs, HR.out.low (B := w.heap.size + 1) (by omega)⟩, HB.out⟩
end Go.Proofs.YtnohcppipkpgmaaDoor
namespace Go.Proofs.YtnohcppipkpgmaaDoor
open Go.RowKit Go.Shelf
set_option linter.unusedVariables false
set_option linter.unusedSimpArgs false

theorem tri_pos2 {k : Nat} (h : 1 ≤ k) : tri (k - 1) + k = tri k := by
  obtain ⟨j, rfl⟩ : ∃ j, k = j + 1 := ⟨k - 1, by omega⟩
  rfl
/-- The two lists of prefixes and the reference's, while the first one's are written over from the first on. -/
structure OI (wc V : World) (gl ga gl' ga' : Nat) (wa : Option Addr) (wcap : Nat) (zs : List (Option Addr × Nat)) (l : Int) (p : List Int) (i : Nat) : Prop where
  bel : Below wc.heap.size wc V
  r1 : V.ownsRow wc.heap.size 26 2 (.slice (some ⟨gl, 0, none⟩) (p.length + 1) (p.length + 1)) (p.length + 1) (preC l ga (p.length + 1))
  ne : gl ≠ ga
  lo : wc.heap.size ≤ ga
  cur : ∃ cur : Array Value, At V ga (.cells cur 62 (0, 0)) ∧ ∀ j x, tri (i - 1) ≤ j → (pthC p p.length)[j]? = some x → cur[j]? = some (.int .i64 x)
  b : ∃ wm : World, ga < wm.heap.size ∧ PRow wm V gl' ga' l p
  w : ∃ B, ga < B ∧ RfR B V wa (p.length + 1) wcap l p zs
theorem OI.aft {wc V V' : World} {gl ga gl' ga' wcap i : Nat} {wa : Option Addr} {zs : List (Option Addr × Nat)} {l : Int} {p : List Int} (h : OI wc V gl ga gl' ga' wa wcap zs l p i) (hb : Below V.heap.size V V') : OI wc V' gl ga gl' ga' wa wcap zs l p i := by
  obtain ⟨cur, hA, hc⟩ := h.cur
  obtain ⟨wm, h1, h2⟩ := h.b
  obtain ⟨B, h3, h4⟩ := h.w
  exact ⟨below_aft h.bel hb, own_bel h.r1 hb, h.ne, h.lo, ⟨cur, hA.below hb, hc⟩, ⟨wm, h1, h2.bel hb⟩, ⟨B, h3, h4.bel hb⟩⟩
theorem OI.start {wc w0 w1 V : World} {gl ga gl' ga' wcap B : Nat} {wa : Option Addr} {zs : List (Option Addr × Nat)} {l : Int} {p : List Int} (h0 : wc.heap.size ≤ w0.heap.size) (hb : Below wc.heap.size wc V) (h1 : PRow w0 V gl ga l p) (h2 : PRow w1 V gl' ga' l p) (h3 : ga < w1.heap.size) (h4 : ga < B) (h5 : RfR B V wa (p.length + 1) wcap l p zs) : OI wc V gl ga gl' ga' wa wcap zs l p 0 := by
  refine ⟨hb, own_low h1.r1 h0, h1.ne, Nat.le_trans h0 h1.lo2, ?_, ⟨w1, h3, h2⟩, ⟨B, h4, h5⟩⟩
  rcases h1.r2.2 with ⟨e, -⟩ | ⟨g', cap', cur, e, hb, hg, h6, h7, h8, ht⟩
  · cases e
  · cases e
    refine ⟨cur, hg, fun j x _ hx => ?_⟩
    have h9 : ((pthC p p.length).map (Value.int .i64))[j]? = some (.int .i64 x) := by rw [List.getElem?_map, hx]; rfl
    rw [← ht, List.getElem?_take] at h9
    split at h9
    · simpa using h9
    · cases h9
theorem OI.place {wc V : World} {gl ga gl' ga' wcap i : Nat} {wa : Option Addr} {zs : List (Option Addr × Nat)} {l : Int} {p : List Int} (h : OI wc V gl ga gl' ga' wa wcap zs l p i) (hl : -9223372036854775808 ≤ l ∧ l ≤ 9223372036854775807) (hr : ∀ x ∈ p, -9223372036854775808 ≤ x ∧ x ≤ 9223372036854775807) (hn : p.length ≤ 60) (hi : i ≤ p.length) :
    V.cell? ⟨gl, i * 2, none⟩ = some (.int .i64 l) ∧ V.cell? ⟨gl, i * 2 + 1, none⟩ = some (.slice (preA ga i) i i) ∧ PAt V (preP l ga i) (p.take i) := by
  obtain ⟨c0, c1⟩ := preC_at l ga (p.length + 1) i (by omega)
  obtain ⟨cur, hA, hc⟩ := h.cur
  refine ⟨(own_cell h.r1 c0).1, (own_cell h.r1 c1).1, ⟨⟨?_, Nat.le_refl _, ?_, fun hne => ?_, fun x hx => hr x (List.mem_of_mem_take hx), fun e => ?_⟩, hl.1, hl.2⟩⟩
  · show i = (p.take i).length
    rw [List.length_take]
    omega
  · show i ≤ maxLen
    unfold maxLen
    omega
  · have h0 : ¬ i = 0 := fun e => hne (by rw [e]; rfl)
    refine ⟨ga, tri (i - 1), by show preA ga i = _; unfold preA; rw [if_neg h0], hA.lt, fun j x hx => ?_⟩
    have h1 := hc (tri (i - 1) + j) x (by omega) (pthC_at p p.length (Nat.le_refl _) i (by omega) hi j x hx)
    unfold At at hA
    simp [World.cell?, hA, h1]
  · show i = 0
    have e1 : preA ga i = none := e
    unfold preA at e1
    split at e1
    · assumption
    · cases e1
theorem OI.over {wc V V' : World} {gl ga gl' ga' wcap i : Nat} {wa : Option Addr} {zs : List (Option Addr × Nat)} {l : Int} {p : List Int} (h : OI wc V gl ga gl' ga' wa wcap zs l p i) (h1 : 1 ≤ i) {cur : Array Value} (hc : ∀ j x, tri (i - 1) ≤ j → (pthC p p.length)[j]? = some x → cur[j]? = some (.int .i64 x)) (k : But ga V V') (o : OK cur V' ga (tri (i - 1)) i) : OI wc V' gl ga gl' ga' wa wcap zs l p (i + 1) := by
  obtain ⟨cur', hA', -, hk⟩ := o
  obtain ⟨wm, h2, h3⟩ := h.b
  obtain ⟨B, h4, h5⟩ := h.w
  refine ⟨grow_bel h.bel k h.bel.size (fun g e => by cases e; exact h.lo), own_other h.r1 k (fun e => h.ne (Option.some.inj e).symm), h.ne, h.lo, ⟨cur', hA', fun j x hj hx => ?_⟩, ⟨wm, h2, h3.but k (by have := h3.lo1; omega) (by have := h3.lo2; omega)⟩, ⟨B, h4, h5.but k h4⟩⟩
  have e := tri_pos2 h1
  rw [Nat.add_sub_cancel] at hj
  rw [hk j (.inr (by omega))]
  exact hc j x (by omega) hx
set_option maxRecDepth 100000 in
set_option maxHeartbeats 8000000 in
theorem over_none (w : World) (l : Int) : Calls Tryd.prog 21 #[plV l none 0 0] w fun e w' => e = .returned (.tuple #[]) ∧ Below w.heap.size w w' := by
  have HA0 := hidD (At.new w (plO l none 0 0))
  obtain ⟨i62, hi62, hz62, hs62, hb62⟩ := info_parts Tryd.info62
  go_enter Tryd.func21, Tryd.ntmps21
  go_wp2_with fail
  go_loopw [2] (fun v V => v = .int .i64 0 ∧ V = w.alloc (plO l none 0 0)) (fun v _ => 0)
  case atStart => exact ⟨rfl, rfl⟩
  case round =>
    obtain ⟨rfl, rfl⟩ := hrel
    go_wp2_with fail
    go_loopw [3, 4] (fun u v V => ∃ k : Nat, k ≤ 3 ∧ v = .int .i64 (k : Int) ∧ Below w.heap.size w V ∧ ∃ xs, V.ownsRow w.heap.size 62 1 u k xs) (fun _ v _ => 3 - (intOf v).toNat)
    case atStart => exact ⟨0, by omega, rfl, belA (Below.refl _ _), [], World.ownsRow_nil _ _ _ _⟩
    case round =>
      obtain ⟨k, hk, rfl, hBk, xs, hx⟩ := hrel
      have HBk := hidD hBk
      clear hBk
      by_cases hk3 : k < 3
      · have k1 : (k : Int) < 3 := by omega
        have k2 : (k : Int) ≤ 3 := by omega
        have HK3 := hidD hk3
        obtain ⟨a3, c3, rfl⟩ := own_sl hx
        have HX := hidD hx
        clear hx hk hk3
        go_wp2_with (at_builtin; refine wpList_append_own _ rfl (.tmp 22) (.tmp 23) 24 rfl w.heap.size 62 i62 (.int .i64 0) 1 8 Tryd.underlying24 hi62 hz62 hs62 hb62 rfl (by omega) (.slice a3 k c3) k xs rfl (HX.out.alloc _) ⟨wr.heap.size, 0, none⟩ 1 1 [.int .i64 (-8)] rfl rfl (new1 _ _ _) (by intro u hu; simp at hu; subst hu; rfl) (by unfold maxLen; have := HK3.out; omega) (by have := HK3.out; omega) (by have := HBk.out.size; simp; omega) ?_; intro v' w' ho' hg' hn'; have HO' := hidD ho'; have HB' : Hid (Below w.heap.size w w') := grow_bel (belA HBk.out) hg' (by have := HBk.out.size; simp; omega) (fun q e => own_lo HX.out q (by rw [← e])); clear ho' hg' hn')
        refine ⟨⟨k + 1, by have := HK3.out; omega, rfl, HB'.out, _, HO'.out⟩, ?_⟩
        show 3 - ((k : Int) + 1).toNat < 3 - (k : Int).toNat
        have := HK3.out
        omega
      · obtain rfl : k = 3 := by omega
        clear hk3 hk hx
        go_wp2_with fail
        go_end0
        exact ⟨rfl, HBk.out⟩
/-- over, of one of the prefixes. -/
theorem OI.call {wc V : World} {gl ga gl' ga' wcap i : Nat} {wa : Option Addr} {zs : List (Option Addr × Nat)} {l : Int} {p : List Int} (h : OI wc V gl ga gl' ga' wa wcap zs l p i) (hn : p.length ≤ 60) (hi : i ≤ p.length) :
    Calls Tryd.prog 21 #[plV l (preA ga i) i i] V fun e w' => e = .returned (.tuple #[]) ∧ OI wc w' gl ga gl' ga' wa wcap zs l p (i + 1) := by
  by_cases h0 : i = 0
  · subst h0
    refine (over_none V l).mono fun e w' k => ⟨k.1, ?_⟩
    have h1 := h.aft k.2
    exact ⟨h1.bel, h1.r1, h1.ne, h1.lo, h1.cur, h1.b, h1.w⟩
  · have h1 : 1 ≤ i := by omega
    obtain ⟨cur, hA, hc⟩ := h.cur
    have hO : OK cur V ga (tri (i - 1)) i := by
      refine ⟨cur, hA, fun j hj => ?_, fun _ _ => rfl⟩
      have hk : tri (i - 1) + j < tri p.length := by
        have := tri_pos2 h1
        have := tri_mono hi
        omega
      have hlen : (pthC p p.length).length = tri p.length := pthC_len p _ (Nat.le_refl _)
      obtain ⟨x, hx⟩ : ∃ x, (pthC p p.length)[tri (i - 1) + j]? = some x := ⟨_, List.getElem?_eq_getElem (by omega)⟩
      exact ⟨x, hc _ x (by omega) hx⟩
    have e1 : preA ga i = some ⟨ga, tri (i - 1), none⟩ := by unfold preA; rw [if_neg h0]
    rw [e1]
    exact (over_own (l := l) hO (by omega) h1).mono fun e w' k => ⟨k.1, h.over h1 hc k.2.1 k.2.2⟩
end Go.Proofs.YtnohcppipkpgmaaDoor
namespace Go.Proofs.YtnohcppipkpgmaaDoor
open Go.RowKit Go.Shelf
set_option linter.unusedVariables false
set_option linter.unusedSimpArgs false

theorem rText_tab {w W : World} (hT : TabOk w) (hW : Below w.heap.size w W) {x : Pt} {p : List Int} (h : PAt W x p) (hn : p.length ≤ 1000) : Calls Tryd.prog 30 #[x.v] W fun e w' => e = .returned (.string (str (txP x.l p))) ∧ Below W.heap.size W w' :=
  rText_any h hn (fun n h0 hn => it_tab (hT.bel hW) (by omega) (by
    rcases hn with rfl | hn
    · exact h.l1
    · exact (h.row.rng n hn).2))
/-- What both read out of a text. -/
theorem read_ex (S : List UInt8) (hS : S.length ≤ 100000) : ∃ (rl : Int) (rp : List Int) (er : Int), ∀ f, f = 33 ∨ f = 34 → ∀ W, Calls Tryd.prog f #[.string (str S)] W fun e w' => ∃ a n cap, e = .returned (.tuple #[plV rl a n cap, .int .i64 er]) ∧ PAt w' ⟨rl, a, n, cap⟩ rp ∧ Below W.heap.size W w' := by
  have key : ∀ R : Option (Int × List Int), R = rdP S → ∀ f, f = 33 ∨ f = 34 → ∀ W, Calls Tryd.prog f #[.string (str S)] W fun e w' => ReadPost R W w' e ∧ Below W.heap.size W w' := fun R hR f hf W => by
    rcases hf with rfl | rfl
    · exact Read_any S hS W R hR
    · exact rRead_any S hS W R hR
  cases hR : rdP S with
  | none =>
    refine ⟨0, [], 90, fun f hf W => (key _ hR.symm f hf W).mono fun e w' k => ?_⟩
    obtain ⟨⟨x, p, er, h1, h2, h3, -⟩, hb⟩ := k
    rcases h3 with ⟨h3, -⟩ | ⟨-, rfl, rfl, rfl⟩
    · cases h3
    · exact ⟨none, 0, 0, h1, h2, hb⟩
  | some z =>
    obtain ⟨rl, rp⟩ := z
    refine ⟨rl, rp, 0, fun f hf W => (key _ hR.symm f hf W).mono fun e w' k => ?_⟩
    obtain ⟨⟨x, p, er, h1, h2, h3, -⟩, hb⟩ := k
    rcases h3 with ⟨h3, rfl⟩ | ⟨h3, -⟩
    · cases h3
      exact ⟨x.a, x.n, x.cap, h1, h2, hb⟩
    · cases h3
set_option maxRecDepth 100000 in
set_option maxHeartbeats 16000000 in
/-- PlaceOrders. -/
theorem orders_walk {w : World} (hT : TabOk w) {x y : Pt} {p q : List Int} (hP : PAt w x p) (hQ : PAt w y q) (S : List UInt8) (hS : S.length ≤ maxLen) :
    Calls Tryd.prog 5 #[x.v, y.v, .string (str S)] w fun e w' => e = .returned (.bool true) ∧ Below w.heap.size w w' := by
  have AW : Hid (∀ W, Calls Tryd.prog 10 #[] W fun e w' => e = .returned (.bool true) ∧ Below W.heap.size W w') := awake_true
  have hsz : (str S).size = S.length := str_size S
  obtain ⟨bf, hbf⟩ := bool_of (p.length ≤ 60 ∧ q.length ≤ 60)
  have hm : x.n = p.length := hP.row.len
  have hln : S.length ≤ 9223372036854775807 := by unfold maxLen at hS; omega
  obtain ⟨l, pa, m, pcap⟩ := x
  obtain ⟨l2, qa, m2, qcap⟩ := y
  have hm2 : m = p.length := hm
  have CF : Hid (Calls Tryd.prog 9 #[.slice none 0 0, .slice none 0 0, .slice (some ⟨w.heap.size + 1 + 1, 0, none⟩) 2 2] (((w.alloc (plO l pa m pcap)).alloc (plO l2 qa m2 qcap)).alloc (twoO ⟨l, pa, m, pcap⟩ ⟨l2, qa, m2, qcap⟩)) fun e w' => e = .returned (.bool bf) ∧ w' = (((w.alloc (plO l pa m pcap)).alloc (plO l2 qa m2 qcap)).alloc (twoO ⟨l, pa, m, pcap⟩ ⟨l2, qa, m2, qcap⟩))) :=
    fits_nil (ps_two hP hQ) (by simp) bf (hbf.trans ⟨fun hh x' p' hmm => by simp at hmm; rcases hmm with ⟨-, rfl⟩ | ⟨-, rfl⟩; exact hh.1; exact hh.2, fun hh => ⟨hh ⟨l, pa, m, pcap⟩ p (by simp), hh ⟨l2, qa, m2, qcap⟩ q (by simp)⟩⟩)
  have HT0 : Hid (T2 (((w.alloc (plO l pa m pcap)).alloc (plO l2 qa m2 qcap)).alloc (twoO ⟨l, pa, m, pcap⟩ ⟨l2, qa, m2, qcap⟩)) w.heap.size ⟨l, pa, m, pcap⟩ ⟨l2, qa, m2, qcap⟩ p q) := (T2.start hP hQ).bel (belA (Below.refl _ _))
  have HB0 : Hid (Below w.heap.size w (((w.alloc (plO l pa m pcap)).alloc (plO l2 qa m2 qcap)).alloc (twoO ⟨l, pa, m, pcap⟩ ⟨l2, qa, m2, qcap⟩))) := bel3
  have hl1 : -9223372036854775808 ≤ l ∧ l ≤ 9223372036854775807 := ⟨hP.l0, hP.l1⟩
  have hl2 : -9223372036854775808 ≤ l2 ∧ l2 ≤ 9223372036854775807 := ⟨hQ.l0, hQ.l1⟩
  have hr1 := hP.row.rng
  have hr2 := hQ.row.rng
  show Calls Tryd.prog 5 #[plV l pa m pcap, plV l2 qa m2 qcap, .string (str S)] w _
  by_cases h60 : p.length ≤ 60 ∧ q.length ≤ 60
  rotate_left
  · have e1 : bf = false := by
      cases hh : bf with
      | false => rfl
      | true => exact absurd (hbf.1 hh) h60
    subst e1
    clear hbf h60 hT hP hQ hl1 hl2 hr1 hr2 hm hm2 hS
    go_enter Tryd.func5, Tryd.ntmps5
    go_wp2_with (first
      | (go_at_call 9; refine CF.out.mono ?_; rintro e w1 ⟨rfl, hw⟩; have HB : Hid (Below w.heap.size w w1) := (by rw [hw]; exact HB0.out); clear hw)
      | (go_at_call 10; refine (AW.out _).mono ?_; rintro e w8 ⟨rfl, hb8⟩; have HB8 := hidD (below_aft HB.out hb8); clear hb8))
    go_ret
    exact ⟨rfl, HB8.out⟩
  have e1 : bf = true := hbf.2 h60
  subst e1
  by_cases h4096 : S.length ≤ 4096
  rotate_left
  · have s1 : (4096 : Int) < (S.length : Int) := by omega
    clear hbf h60 hT hP hQ hl1 hl2 hr1 hr2 hm hm2 hS h4096
    go_enter Tryd.func5, Tryd.ntmps5
    go_wp2_with (first
      | (go_at_call 9; refine CF.out.mono ?_; rintro e w1 ⟨rfl, hw⟩; have HB : Hid (Below w.heap.size w w1) := (by rw [hw]; exact HB0.out); clear hw)
      | (go_at_call 10; refine (AW.out _).mono ?_; rintro e w8 ⟨rfl, hb8⟩; have HB8 := hidD (below_aft HB.out hb8); clear hb8))
    go_ret
    exact ⟨rfl, HB8.out⟩
  have s1 : ¬ (4096 : Int) < (S.length : Int) := by omega
  obtain ⟨rl, rp, er, hrd⟩ := read_ex S (by omega)
  have C33 : Hid (∀ W, Calls Tryd.prog 33 #[.string (str S)] W fun e w' => ∃ a n cap, e = .returned (.tuple #[plV rl a n cap, .int .i64 er]) ∧ PAt w' ⟨rl, a, n, cap⟩ rp ∧ Below W.heap.size W w') := hrd 33 (.inl rfl)
  have C34 : Hid (∀ W, Calls Tryd.prog 34 #[.string (str S)] W fun e w' => ∃ a n cap, e = .returned (.tuple #[plV rl a n cap, .int .i64 er]) ∧ PAt w' ⟨rl, a, n, cap⟩ rp ∧ Below W.heap.size W w') := hrd 34 (.inr rfl)
  obtain ⟨bpq, hpq⟩ := bool_of (l = l2 ∧ p <+: q)
  obtain ⟨bs, hs⟩ := bool_of (l = l2 ∧ p = q)
  obtain ⟨o1, ho1⟩ : ∃ o, o = ordP l l2 p q := ⟨_, rfl⟩
  obtain ⟨T, hTT⟩ : ∃ T, T = txP l p := ⟨_, rfl⟩
  have C24 : Hid (∀ V b1 b2 g1 k1 g2 k2, L2 w V b1 b2 g1 k1 g2 k2 ⟨l, pa, m, pcap⟩ ⟨l2, qa, m2, qcap⟩ p q → Calls Tryd.prog 24 #[(plV l (some ⟨g1, 0, none⟩) p.length k1), (plV l2 (some ⟨g2, 0, none⟩) q.length k2)] V fun e w' => e = .returned (.bool bpq) ∧ Below V.heap.size V w') := fun V b1 b2 g1 k1 g2 k2 h => Prefix_any (x := ⟨l, some ⟨g1, 0, none⟩, p.length, k1⟩) (y := ⟨l2, some ⟨g2, 0, none⟩, q.length, k2⟩) (h.l1.pat hl1 hr1) (h.l2.pat hl2 hr2) bpq hpq
  have C25 : Hid (∀ V b1 b2 g1 k1 g2 k2, L2 w V b1 b2 g1 k1 g2 k2 ⟨l, pa, m, pcap⟩ ⟨l2, qa, m2, qcap⟩ p q → Calls Tryd.prog 25 #[(plV l pa m pcap), (plV l2 qa m2 qcap)] V fun e w' => e = .returned (.bool bpq) ∧ Below V.heap.size V w') := fun V b1 b2 g1 k1 g2 k2 h => rPrefix_any h.t.p1 h.t.p2 bpq hpq
  have C26 : Hid (∀ V b1 b2 g1 k1 g2 k2, L2 w V b1 b2 g1 k1 g2 k2 ⟨l, pa, m, pcap⟩ ⟨l2, qa, m2, qcap⟩ p q → Calls Tryd.prog 26 #[(plV l (some ⟨g1, 0, none⟩) p.length k1), (plV l2 (some ⟨g2, 0, none⟩) q.length k2)] V fun e w' => e = .returned (.int .i64 o1) ∧ Below V.heap.size V w') := fun V b1 b2 g1 k1 g2 k2 h => Order_any (x := ⟨l, some ⟨g1, 0, none⟩, p.length, k1⟩) (y := ⟨l2, some ⟨g2, 0, none⟩, q.length, k2⟩) (h.l1.pat hl1 hr1) (h.l2.pat hl2 hr2) o1 ho1
  have C27 : Hid (∀ V b1 b2 g1 k1 g2 k2, L2 w V b1 b2 g1 k1 g2 k2 ⟨l, pa, m, pcap⟩ ⟨l2, qa, m2, qcap⟩ p q → Calls Tryd.prog 27 #[(plV l pa m pcap), (plV l2 qa m2 qcap)] V fun e w' => e = .returned (.int .i64 o1) ∧ Below V.heap.size V w') := fun V b1 b2 g1 k1 g2 k2 h => rOrder_any h.t.p1 h.t.p2 o1 ho1
  have C28 : Hid (∀ V b1 b2 g1 k1 g2 k2, L2 w V b1 b2 g1 k1 g2 k2 ⟨l, pa, m, pcap⟩ ⟨l2, qa, m2, qcap⟩ p q → Calls Tryd.prog 28 #[(plV l (some ⟨g1, 0, none⟩) p.length k1), (plV l2 (some ⟨g2, 0, none⟩) q.length k2)] V fun e w' => e = .returned (.bool bs) ∧ Below V.heap.size V w') := fun V b1 b2 g1 k1 g2 k2 h => Same_any (x := ⟨l, some ⟨g1, 0, none⟩, p.length, k1⟩) (y := ⟨l2, some ⟨g2, 0, none⟩, q.length, k2⟩) (h.l1.pat hl1 hr1) (h.l2.pat hl2 hr2) bs hs
  have C18 : Hid (∀ V b1 b2 g1 k1 g2 k2, L2 w V b1 b2 g1 k1 g2 k2 ⟨l, pa, m, pcap⟩ ⟨l2, qa, m2, qcap⟩ p q → Calls Tryd.prog 18 #[(plV l pa m pcap), (plV l2 qa m2 qcap)] V fun e w' => e = .returned (.bool bs) ∧ Below V.heap.size V w') := fun V b1 b2 g1 k1 g2 k2 h => rSame_any h.t.p1 h.t.p2 bs hs
  have C29 : Hid (∀ V b1 b2 g1 k1 g2 k2, L2 w V b1 b2 g1 k1 g2 k2 ⟨l, pa, m, pcap⟩ ⟨l2, qa, m2, qcap⟩ p q → Calls Tryd.prog 29 #[(plV l (some ⟨g1, 0, none⟩) p.length k1)] V fun e w' => e = .returned (.string (str T)) ∧ Below V.heap.size V w') := fun V b1 b2 g1 k1 g2 k2 h => by rw [hTT]; exact Text_tab hT h.b (x := ⟨l, some ⟨g1, 0, none⟩, p.length, k1⟩) (h.l1.pat hl1 hr1) (by omega)
  have C30 : Hid (∀ V b1 b2 g1 k1 g2 k2, L2 w V b1 b2 g1 k1 g2 k2 ⟨l, pa, m, pcap⟩ ⟨l2, qa, m2, qcap⟩ p q → Calls Tryd.prog 30 #[(plV l pa m pcap)] V fun e w' => e = .returned (.string (str T)) ∧ Below V.heap.size V w') := fun V b1 b2 g1 k1 g2 k2 h => by rw [hTT]; exact rText_tab hT h.b h.t.p1 (by omega)
  have CPX : Hid (∀ V b1 b2 g1 k1 g2 k2, L2 w V b1 b2 g1 k1 g2 k2 ⟨l, pa, m, pcap⟩ ⟨l2, qa, m2, qcap⟩ p q → Calls Tryd.prog 31 #[(plV l (some ⟨g1, 0, none⟩) p.length k1)] V fun e w' => ∃ gl ga, e = .returned (.slice (some ⟨gl, 0, none⟩) (m + 1) (m + 1)) ∧ PRow V w' gl ga l p ∧ Below V.heap.size V w') := fun V b1 b2 g1 k1 g2 k2 h => by
    rw [hm2]
    exact Prefixes_any (x := ⟨l, some ⟨g1, 0, none⟩, p.length, k1⟩) (h.l1.pat hl1 hr1) (by omega)
  have CW : Hid (∀ V, T2 V w.heap.size ⟨l, pa, m, pcap⟩ ⟨l2, qa, m2, qcap⟩ p q → Calls Tryd.prog 32 #[(plV l pa m pcap)] V fun e w' => ∃ wa cap zs, e = .returned (.slice wa (m + 1) cap) ∧ RfR V.heap.size w' wa (p.length + 1) cap l p zs ∧ Below V.heap.size V w') := fun V h => by
    refine (rPrefixes_any h.p1 h60.1).mono fun e w' k => ?_
    obtain ⟨wa, cap, zs, k1, k2⟩ := k
    exact ⟨wa, cap, zs, by rw [k1, hm2], k2⟩
  have CSA : Hid (∀ V wc gl ga gl' ga' wa wcap zs i, OI wc V gl ga gl' ga' wa wcap zs l p i → i ≤ m → ∃ gw a c, wa = some ⟨gw, 0, none⟩ ∧ (∀ W, Below V.heap.size V W → W.cell? ⟨gl, i * 2, none⟩ = some (.int .i64 l) ∧ W.cell? ⟨gl, i * 2 + 1, none⟩ = some (.slice (preA ga i) i i) ∧ W.cell? ⟨gw, i * 2, none⟩ = some (.int .i64 l) ∧ W.cell? ⟨gw, i * 2 + 1, none⟩ = some (.slice a i c) ∧ Calls Tryd.prog 18 #[plV l (preA ga i) i i, plV l a i c] W fun e w' => e = .returned (.bool true) ∧ Below W.heap.size W w')) := fun V wc gl ga gl' ga' wa wcap zs i h hi => by
    obtain ⟨B, h3, h4⟩ := h.w
    obtain ⟨gw, a, c, e1, -⟩ := h4.place hl1 hr1 (i := i) (by omega) (by omega)
    obtain ⟨gw', a', c', e1', hc1, hc2, hc3, hc4⟩ := h4.place hl1 hr1 (i := i) (by omega) (by omega)
    refine ⟨gw', a', c', e1', fun W hW => ?_⟩
    have h' := h.aft hW
    obtain ⟨d1, d2, d3⟩ := h'.place hl1 hr1 h60.1 (by omega)
    exact ⟨d1, d2, (hW.cell (p := ⟨gw', i * 2, none⟩) hc4).trans hc1, (hW.cell (p := ⟨gw', i * 2 + 1, none⟩) hc4).trans hc2, rSame_any (x := preP l ga i) (y := ⟨l, a', i, c'⟩) d3 (hc3.bel hW) true ⟨fun _ => ⟨rfl, rfl⟩, fun _ => rfl⟩⟩
  have CSB : Hid (∀ V wc gl ga gl' ga' wa wcap zs k i, OI wc V gl ga gl' ga' wa wcap zs l p k → i ≤ m → ∃ gw a c, wa = some ⟨gw, 0, none⟩ ∧ (∀ W, Below V.heap.size V W → W.cell? ⟨gl', i * 2, none⟩ = some (.int .i64 l) ∧ W.cell? ⟨gl', i * 2 + 1, none⟩ = some (.slice (preA ga' i) i i) ∧ W.cell? ⟨gw, i * 2, none⟩ = some (.int .i64 l) ∧ W.cell? ⟨gw, i * 2 + 1, none⟩ = some (.slice a i c) ∧ Calls Tryd.prog 18 #[plV l (preA ga' i) i i, plV l a i c] W fun e w' => e = .returned (.bool true) ∧ Below W.heap.size W w')) := fun V wc gl ga gl' ga' wa wcap zs k i h hi => by
    obtain ⟨B, h3, h4⟩ := h.w
    obtain ⟨wm, -, h5⟩ := h.b
    obtain ⟨gw', a', c', e1', hc1, hc2, hc3, hc4⟩ := h4.place hl1 hr1 (i := i) (by omega) (by omega)
    refine ⟨gw', a', c', e1', fun W hW => ?_⟩
    obtain ⟨d1, d2, d3⟩ := (h5.bel hW).place hl1 hr1 (by omega) (i := i) (by omega)
    exact ⟨d1, d2, (hW.cell (p := ⟨gw', i * 2, none⟩) hc4).trans hc1, (hW.cell (p := ⟨gw', i * 2 + 1, none⟩) hc4).trans hc2, rSame_any (x := preP l ga' i) (y := ⟨l, a', i, c'⟩) d3 (hc3.bel hW) true ⟨fun _ => ⟨rfl, rfl⟩, fun _ => rfl⟩⟩
  have C21 : Hid (∀ V wc gl ga gl' ga' wa wcap zs i, OI wc V gl ga gl' ga' wa wcap zs l p i → i ≤ m → Calls Tryd.prog 21 #[plV l (preA ga i) i i] V fun e w' => e = .returned (.tuple #[]) ∧ OI wc w' gl ga gl' ga' wa wcap zs l p (i + 1)) := fun V wc gl ga gl' ga' wa wcap zs i h hi => h.call h60.1 (by omega)
  have D1 : Hid (∀ V, T2 V w.heap.size ⟨l, pa, m, pcap⟩ ⟨l2, qa, m2, qcap⟩ p q → Below w.heap.size w V → Calls Tryd.prog 11 #[(plV l pa m pcap)] V fun e w' => ∃ g c, e = .returned (plV l (some ⟨g, 0, none⟩) p.length c) ∧ Lnt w' w.heap.size g c p ∧ Below V.heap.size V w') := fun V h hV => (lent_any (x := ⟨l, pa, m, pcap⟩) h.p1 h60.1).mono fun e w' k => by obtain ⟨g, c, e1, e2, e3⟩ := k; exact ⟨g, c, e1, own_low e2 hV.size, e3⟩
  have D2 : Hid (∀ V, T2 V w.heap.size ⟨l, pa, m, pcap⟩ ⟨l2, qa, m2, qcap⟩ p q → Below w.heap.size w V → Calls Tryd.prog 11 #[(plV l2 qa m2 qcap)] V fun e w' => ∃ g c, e = .returned (plV l2 (some ⟨g, 0, none⟩) q.length c) ∧ Lnt w' w.heap.size g c q ∧ Below V.heap.size V w') := fun V h hV => (lent_any (x := ⟨l2, qa, m2, qcap⟩) h.p2 h60.2).mono fun e w' k => by obtain ⟨g, c, e1, e2, e3⟩ := k; exact ⟨g, c, e1, own_low e2 hV.size, e3⟩
  have D19 : Hid (∀ V args b1 b2 g1 k1 g2 k2, L2 w V b1 b2 g1 k1 g2 k2 ⟨l, pa, m, pcap⟩ ⟨l2, qa, m2, qcap⟩ p q → P19 (plV l pa m pcap) (plV l2 qa m2 qcap) (plV l (some ⟨g1, 0, none⟩) p.length k1) (plV l2 (some ⟨g2, 0, none⟩) q.length k2) args → Calls Tryd.prog 19 args V fun e w' => e = .returned (.bool true) ∧ Below V.heap.size V w') := fun V args b1 b2 g1 k1 g2 k2 h k => by
    cases k
    · exact kept_any (x := ⟨l, pa, m, pcap⟩) h.t.p1 h60.1 h.l1
    · exact kept_any (x := ⟨l2, qa, m2, qcap⟩) h.t.p2 h60.2 h.l2
  have CSR : Hid (∀ V a n cap a' n' cap', PAt V ⟨rl, a, n, cap⟩ rp → PAt V ⟨rl, a', n', cap'⟩ rp → Calls Tryd.prog 18 #[plV rl a n cap, plV rl a' n' cap'] V fun e w' => e = .returned (.bool true) ∧ Below V.heap.size V w') := fun V a n cap a' n' cap' h h' => rSame_any (x := ⟨rl, a, n, cap⟩) (y := ⟨rl, a', n', cap'⟩) h h' true ⟨fun _ => ⟨rfl, rfl⟩, fun _ => rfl⟩
  have HM : Hid (m = p.length ∧ p.length ≤ 60) := ⟨hm2, h60.1⟩
  clear hbf h60 hT hP hQ hl1 hl2 hr1 hr2 hm hm2 hS h4096 hrd hpq hs ho1 hTT
  go_enter Tryd.func5, Tryd.ntmps5
  go_upto_region 3 with (go_at_call 9; refine CF.out.mono ?_; rintro e w1 ⟨rfl, hw⟩; have HT : Hid (T2 w1 w.heap.size ⟨l, pa, m, pcap⟩ ⟨l2, qa, m2, qcap⟩ p q) := (by rw [hw]; exact HT0.out); have HB : Hid (Below w.heap.size w w1) := (by rw [hw]; exact HB0.out); clear hw; obtain ⟨a0, a1, c0, c1⟩ := HT.out.cells)
  clear CF HT0 HB0
  go_cut [7, 8] (fun v u V => ∃ b1 b2 g1 k1 g2 k2, v = .pointer (some ⟨b1, 0, none⟩) ∧ u = .pointer (some ⟨b2, 0, none⟩) ∧ L2 w V b1 b2 g1 k1 g2 k2 ⟨l, pa, m, pcap⟩ ⟨l2, qa, m2, qcap⟩ p q)
  case first =>
    clear AW C24 C25 C26 C27 C28 C18 C29 C30 CPX CW CSA CSB C21 D19 CSR C33 C34 HM
    refine beginH (S := fun W => Below w1.heap.size w1 W) (fun _ _ _ _ _ h => h) (by kernel_rfl) (belN (Below.refl _ _) 1) (fun hq hHeld => ?_)
    refine takeH (i := 0) (d := 29) (plV l pa m pcap) hq rfl rfl (by kernel_rfl) (by kernel_rfl) (by kernel_rfl) (by rfl) (fun W hSw => by (obtain ⟨z0, z1, z2, z3⟩ := (HT.out.bel hSw).cells; go_simp; try rfl)) hHeld ?_
    try simp only [Act.put, List.setIfInBounds_toArray, List.set_cons_zero, List.set_cons_succ]
    refine takeH (i := 2) (d := 31) (plV l2 qa m2 qcap) hq rfl rfl (by kernel_rfl) (by kernel_rfl) (by kernel_rfl) (by rfl) (fun W hSw => by (obtain ⟨z0, z1, z2, z3⟩ := (HT.out.bel hSw).cells; go_simp; try rfl)) hHeld ?_
    try simp only [Act.put, List.setIfInBounds_toArray, List.set_cons_zero, List.set_cons_succ]
    refine wpAnyH_ready (rs := [1, 4, 5]) (by kernel_rfl) (by simp) ?_
    refine AllReadyH.cons rfl (fun K hK => ?_) (AllReadyH.cons rfl (fun K hK => ?_) (AllReadyH.cons rfl (fun K hK => ?_) AllReadyH.nil))
    · go_simp
      refine (D1.out _ (HT.out.bel (belN (Below.refl _ _) 1)) (below_aft HB.out (belN (Below.refl _ _) 1))).mono ?_
      rintro e v1 ⟨g1, k1, rfl, hl, hbn⟩
      go_wp2_with fail
      have hS : Below w1.heap.size w1 v1 := below_aft (belN (Below.refl _ _) 1) hbn
      refine hK.out _ _ hS (fun hHeld => ?_)
      clear hK K
      try simp only [Act.put, List.setIfInBounds_toArray, List.set_cons_zero, List.set_cons_succ]
      have HL1 := hidD hl
      have HS := hidD hS
      clear hl hbn hS
      refine wpAnyH_ready (rs := [3, 4, 5]) (by kernel_rfl) (by simp) ?_
      refine AllReadyH.cons rfl (fun K hK => ?_) (AllReadyH.cons rfl (fun K hK => ?_) (AllReadyH.cons rfl (fun K hK => ?_) AllReadyH.nil))
      · go_simp
        refine (D2.out _ (HT.out.bel HS.out) (below_aft HB.out HS.out)).mono ?_
        rintro e v2 ⟨g2, k2, rfl, hl, hbn⟩
        go_wp2_with fail
        have hS : Below w1.heap.size w1 v2 := below_aft HS.out hbn
        refine hK.out _ _ hS (fun hHeld => ?_)
        clear hK K
        try simp only [Act.put, List.setIfInBounds_toArray, List.set_cons_zero, List.set_cons_succ]
        have HL1 := hidD (HL1.out.bel hbn)
        have HL2 := hidD hl
        have HS := hidD hS
        clear hl hbn hS
        refine wpAnyH_ready (rs := [4, 5]) (by kernel_rfl) (by simp) ?_
        refine AllReadyH.cons rfl (fun K hK => ?_) (AllReadyH.cons rfl (fun K hK => ?_) AllReadyH.nil)
        · go_simp
          go_wp2_with fail
          obtain ⟨b11, hb11⟩ : ∃ b, b = (v2).heap.size := ⟨_, rfl⟩
          rw [← hb11]
          obtain ⟨v3, hvn⟩ : ∃ u, u = (v2).alloc (plO 0 none 0 0) := ⟨_, rfl⟩
          show K _ ((v2).alloc (plO 0 none 0 0))
          rw [← hvn]
          have hbn : Below (v2).heap.size (v2) v3 := by rw [hvn]; exact belA (Below.refl _ _)
          have hS : Below w1.heap.size w1 v3 := below_aft HS.out hbn
          refine hK.out _ _ hS (fun hHeld => ?_)
          clear hK K
          try simp only [Act.put, List.setIfInBounds_toArray, List.set_cons_zero, List.set_cons_succ]
          have HL1 := hidD (HL1.out.bel hbn)
          have HL2 := hidD (HL2.out.bel hbn)
          have HA1 : Hid (At v3 b11 (plO 0 none 0 0)) := (by rw [hvn, hb11]; exact At.new _ _ : At v3 b11 (plO 0 none 0 0))
          have HLO1 : Hid (w1.heap.size ≤ b11) := (by have := (show Below w1.heap.size w1 (v2) from HS.out).size; omega : w1.heap.size ≤ b11)
          have HS := hidD hS
          clear hbn hS hvn hb11
          refine wpAnyH_ready (rs := [5]) (by kernel_rfl) (by simp) ?_
          refine AllReadyH.cons rfl (fun K hK => ?_) AllReadyH.nil
          go_simp
          go_wp2_with fail
          obtain ⟨b12, hb12⟩ : ∃ b, b = (v3).heap.size := ⟨_, rfl⟩
          rw [← hb12]
          obtain ⟨v4, hvn⟩ : ∃ u, u = (v3).alloc (plO 0 none 0 0) := ⟨_, rfl⟩
          show K _ ((v3).alloc (plO 0 none 0 0))
          rw [← hvn]
          have hbn : Below (v3).heap.size (v3) v4 := by rw [hvn]; exact belA (Below.refl _ _)
          have hS : Below w1.heap.size w1 v4 := below_aft HS.out hbn
          refine hK.out _ _ hS (fun hHeld => ?_)
          clear hK K
          try simp only [Act.put, List.setIfInBounds_toArray, List.set_cons_zero, List.set_cons_succ]
          have NE : Hid (b11 ≠ b12) := (by have := HA1.out.lt; omega : b11 ≠ b12)
          have HL1 := hidD (HL1.out.bel hbn)
          have HL2 := hidD (HL2.out.bel hbn)
          have HA1 := hidD (HA1.out.below hbn)
          have HA2 : Hid (At v4 b12 (plO 0 none 0 0)) := (by rw [hvn, hb12]; exact At.new _ _ : At v4 b12 (plO 0 none 0 0))
          have HLO2 : Hid (w1.heap.size ≤ b12) := (by have := (show Below w1.heap.size w1 (v3) from HS.out).size; omega : w1.heap.size ≤ b12)
          have HS := hidD hS
          clear hbn hS hvn hb12
          refine wpAnyH_ready (rs := [6]) (by kernel_rfl) (by simp) ?_
          refine AllReadyH.cons rfl (fun K hK => ?_) AllReadyH.nil
          refine wp_storeP26 b11 ⟨0, none, 0, 0⟩ ⟨l, some ⟨g1, 0, none⟩, p.length, k1⟩ rfl rfl HA1.out rfl rfl ?_
          have hS : Below w1.heap.size w1 (S2 v4 b11 ⟨l, some ⟨g1, 0, none⟩, p.length, k1⟩) := S2_low HS.out HLO1.out
          have HL1' := hidD (Lnt.S2 (y := ⟨l, some ⟨g1, 0, none⟩, p.length, k1⟩) HL1.out (x := ⟨0, none, 0, 0⟩) HA1.out)
          have HL2' := hidD (Lnt.S2 (y := ⟨l, some ⟨g1, 0, none⟩, p.length, k1⟩) HL2.out (x := ⟨0, none, 0, 0⟩) HA1.out)
          have HA2' := hidD (HA2.out.S2 (b := b11) (fun e => NE.out e.symm) ⟨l, some ⟨g1, 0, none⟩, p.length, k1⟩)
          have HA1' := hidD (HA1.out.set2 (x := ⟨0, none, 0, 0⟩) ⟨l, some ⟨g1, 0, none⟩, p.length, k1⟩)
          obtain ⟨v5, hvn⟩ : ∃ u, u = S2 v4 b11 ⟨l, some ⟨g1, 0, none⟩, p.length, k1⟩ := ⟨_, rfl⟩
          rw [← hvn] at hS HL1' HL2' HA1' HA2' ⊢
          clear hvn
          refine hK.out _ _ hS (fun hHeld => ?_)
          clear hK K
          try simp only [Act.put, List.setIfInBounds_toArray, List.set_cons_zero, List.set_cons_succ]
          have HL1 := HL1'
          have HL2 := HL2'
          have HA1 := HA1'
          have HA2 := HA2'
          have HS := hidD hS
          clear hS
          refine wpAnyH_ready (rs := [7]) (by kernel_rfl) (by simp) ?_
          refine AllReadyH.cons rfl (fun K hK => ?_) AllReadyH.nil
          refine wp_storeP26 b12 ⟨0, none, 0, 0⟩ ⟨l2, some ⟨g2, 0, none⟩, q.length, k2⟩ rfl rfl HA2.out rfl rfl ?_
          have hS : Below w1.heap.size w1 (S2 v5 b12 ⟨l2, some ⟨g2, 0, none⟩, q.length, k2⟩) := S2_low HS.out HLO2.out
          have HL1' := hidD (Lnt.S2 (y := ⟨l2, some ⟨g2, 0, none⟩, q.length, k2⟩) HL1.out (x := ⟨0, none, 0, 0⟩) HA2.out)
          have HL2' := hidD (Lnt.S2 (y := ⟨l2, some ⟨g2, 0, none⟩, q.length, k2⟩) HL2.out (x := ⟨0, none, 0, 0⟩) HA2.out)
          have HA1' := hidD (HA1.out.S2 (b := b12) NE.out ⟨l2, some ⟨g2, 0, none⟩, q.length, k2⟩)
          have HA2' := hidD (HA2.out.set2 (x := ⟨0, none, 0, 0⟩) ⟨l2, some ⟨g2, 0, none⟩, q.length, k2⟩)
          obtain ⟨v6, hvn⟩ : ∃ u, u = S2 v5 b12 ⟨l2, some ⟨g2, 0, none⟩, q.length, k2⟩ := ⟨_, rfl⟩
          rw [← hvn] at hS HL1' HL2' HA2' HA1' ⊢
          clear hvn
          refine hK.out _ _ hS (fun hHeld => ?_)
          clear hK K
          try simp only [Act.put, List.setIfInBounds_toArray, List.set_cons_zero, List.set_cons_succ]
          have HL1 := HL1'
          have HL2 := HL2'
          have HA2 := HA2'
          have HA1 := HA1'
          have HS := hidD hS
          clear hS
          refine wpAnyH_done (by kernel_rfl) ?_ _
          go_wp2_with fail
          go_meet
          exact ⟨b11, b12, g1, k1, g2, k2, rfl, rfl, HT.out.bel HS.out, HA1.out, HA2.out, HL1.out, HL2.out, below_aft HB.out HS.out⟩
        · go_simp
          go_wp2_with fail
          obtain ⟨b12, hb12⟩ : ∃ b, b = (v2).heap.size := ⟨_, rfl⟩
          rw [← hb12]
          obtain ⟨v3, hvn⟩ : ∃ u, u = (v2).alloc (plO 0 none 0 0) := ⟨_, rfl⟩
          show K _ ((v2).alloc (plO 0 none 0 0))
          rw [← hvn]
          have hbn : Below (v2).heap.size (v2) v3 := by rw [hvn]; exact belA (Below.refl _ _)
          have hS : Below w1.heap.size w1 v3 := below_aft HS.out hbn
          refine hK.out _ _ hS (fun hHeld => ?_)
          clear hK K
          try simp only [Act.put, List.setIfInBounds_toArray, List.set_cons_zero, List.set_cons_succ]
          have HL1 := hidD (HL1.out.bel hbn)
          have HL2 := hidD (HL2.out.bel hbn)
          have HA2 : Hid (At v3 b12 (plO 0 none 0 0)) := (by rw [hvn, hb12]; exact At.new _ _ : At v3 b12 (plO 0 none 0 0))
          have HLO2 : Hid (w1.heap.size ≤ b12) := (by have := (show Below w1.heap.size w1 (v2) from HS.out).size; omega : w1.heap.size ≤ b12)
          have HS := hidD hS
          clear hbn hS hvn hb12
          refine wpAnyH_ready (rs := [4]) (by kernel_rfl) (by simp) ?_
          refine AllReadyH.cons rfl (fun K hK => ?_) AllReadyH.nil
          go_simp
          go_wp2_with fail
          obtain ⟨b11, hb11⟩ : ∃ b, b = (v3).heap.size := ⟨_, rfl⟩
          rw [← hb11]
          obtain ⟨v4, hvn⟩ : ∃ u, u = (v3).alloc (plO 0 none 0 0) := ⟨_, rfl⟩
          show K _ ((v3).alloc (plO 0 none 0 0))
          rw [← hvn]
          have hbn : Below (v3).heap.size (v3) v4 := by rw [hvn]; exact belA (Below.refl _ _)
          have hS : Below w1.heap.size w1 v4 := below_aft HS.out hbn
          refine hK.out _ _ hS (fun hHeld => ?_)
          clear hK K
          try simp only [Act.put, List.setIfInBounds_toArray, List.set_cons_zero, List.set_cons_succ]
          have NE : Hid (b11 ≠ b12) := (by have := HA2.out.lt; omega : b11 ≠ b12)
          have HL1 := hidD (HL1.out.bel hbn)
          have HL2 := hidD (HL2.out.bel hbn)
          have HA2 := hidD (HA2.out.below hbn)
          have HA1 : Hid (At v4 b11 (plO 0 none 0 0)) := (by rw [hvn, hb11]; exact At.new _ _ : At v4 b11 (plO 0 none 0 0))
          have HLO1 : Hid (w1.heap.size ≤ b11) := (by have := (show Below w1.heap.size w1 (v3) from HS.out).size; omega : w1.heap.size ≤ b11)
          have HS := hidD hS
          clear hbn hS hvn hb11
          refine wpAnyH_ready (rs := [6]) (by kernel_rfl) (by simp) ?_
          refine AllReadyH.cons rfl (fun K hK => ?_) AllReadyH.nil
          refine wp_storeP26 b11 ⟨0, none, 0, 0⟩ ⟨l, some ⟨g1, 0, none⟩, p.length, k1⟩ rfl rfl HA1.out rfl rfl ?_
          have hS : Below w1.heap.size w1 (S2 v4 b11 ⟨l, some ⟨g1, 0, none⟩, p.length, k1⟩) := S2_low HS.out HLO1.out
          have HL1' := hidD (Lnt.S2 (y := ⟨l, some ⟨g1, 0, none⟩, p.length, k1⟩) HL1.out (x := ⟨0, none, 0, 0⟩) HA1.out)
          have HL2' := hidD (Lnt.S2 (y := ⟨l, some ⟨g1, 0, none⟩, p.length, k1⟩) HL2.out (x := ⟨0, none, 0, 0⟩) HA1.out)
          have HA2' := hidD (HA2.out.S2 (b := b11) (fun e => NE.out e.symm) ⟨l, some ⟨g1, 0, none⟩, p.length, k1⟩)
          have HA1' := hidD (HA1.out.set2 (x := ⟨0, none, 0, 0⟩) ⟨l, some ⟨g1, 0, none⟩, p.length, k1⟩)
          obtain ⟨v5, hvn⟩ : ∃ u, u = S2 v4 b11 ⟨l, some ⟨g1, 0, none⟩, p.length, k1⟩ := ⟨_, rfl⟩
          rw [← hvn] at hS HL1' HL2' HA1' HA2' ⊢
          clear hvn
          refine hK.out _ _ hS (fun hHeld => ?_)
          clear hK K
          try simp only [Act.put, List.setIfInBounds_toArray, List.set_cons_zero, List.set_cons_succ]
          have HL1 := HL1'
          have HL2 := HL2'
          have HA1 := HA1'
          have HA2 := HA2'
          have HS := hidD hS
          clear hS
          refine wpAnyH_ready (rs := [7]) (by kernel_rfl) (by simp) ?_
          refine AllReadyH.cons rfl (fun K hK => ?_) AllReadyH.nil
          refine wp_storeP26 b12 ⟨0, none, 0, 0⟩ ⟨l2, some ⟨g2, 0, none⟩, q.length, k2⟩ rfl rfl HA2.out rfl rfl ?_
          have hS : Below w1.heap.size w1 (S2 v5 b12 ⟨l2, some ⟨g2, 0, none⟩, q.length, k2⟩) := S2_low HS.out HLO2.out
          have HL1' := hidD (Lnt.S2 (y := ⟨l2, some ⟨g2, 0, none⟩, q.length, k2⟩) HL1.out (x := ⟨0, none, 0, 0⟩) HA2.out)
          have HL2' := hidD (Lnt.S2 (y := ⟨l2, some ⟨g2, 0, none⟩, q.length, k2⟩) HL2.out (x := ⟨0, none, 0, 0⟩) HA2.out)
          have HA1' := hidD (HA1.out.S2 (b := b12) NE.out ⟨l2, some ⟨g2, 0, none⟩, q.length, k2⟩)
          have HA2' := hidD (HA2.out.set2 (x := ⟨0, none, 0, 0⟩) ⟨l2, some ⟨g2, 0, none⟩, q.length, k2⟩)
          obtain ⟨v6, hvn⟩ : ∃ u, u = S2 v5 b12 ⟨l2, some ⟨g2, 0, none⟩, q.length, k2⟩ := ⟨_, rfl⟩
          rw [← hvn] at hS HL1' HL2' HA2' HA1' ⊢
          clear hvn
          refine hK.out _ _ hS (fun hHeld => ?_)
          clear hK K
          try simp only [Act.put, List.setIfInBounds_toArray, List.set_cons_zero, List.set_cons_succ]
          have HL1 := HL1'
          have HL2 := HL2'
          have HA2 := HA2'
          have HA1 := HA1'
          have HS := hidD hS
          clear hS
          refine wpAnyH_done (by kernel_rfl) ?_ _
          go_wp2_with fail
          go_meet
          exact ⟨b11, b12, g1, k1, g2, k2, rfl, rfl, HT.out.bel HS.out, HA1.out, HA2.out, HL1.out, HL2.out, below_aft HB.out HS.out⟩
      · go_simp
        go_wp2_with fail
        obtain ⟨b11, hb11⟩ : ∃ b, b = (v1).heap.size := ⟨_, rfl⟩
        rw [← hb11]
        obtain ⟨v2, hvn⟩ : ∃ u, u = (v1).alloc (plO 0 none 0 0) := ⟨_, rfl⟩
        show K _ ((v1).alloc (plO 0 none 0 0))
        rw [← hvn]
        have hbn : Below (v1).heap.size (v1) v2 := by rw [hvn]; exact belA (Below.refl _ _)
        have hS : Below w1.heap.size w1 v2 := below_aft HS.out hbn
        refine hK.out _ _ hS (fun hHeld => ?_)
        clear hK K
        try simp only [Act.put, List.setIfInBounds_toArray, List.set_cons_zero, List.set_cons_succ]
        have HL1 := hidD (HL1.out.bel hbn)
        have HA1 : Hid (At v2 b11 (plO 0 none 0 0)) := (by rw [hvn, hb11]; exact At.new _ _ : At v2 b11 (plO 0 none 0 0))
        have HLO1 : Hid (w1.heap.size ≤ b11) := (by have := (show Below w1.heap.size w1 (v1) from HS.out).size; omega : w1.heap.size ≤ b11)
        have HS := hidD hS
        clear hbn hS hvn hb11
        refine wpAnyH_ready (rs := [3, 5]) (by kernel_rfl) (by simp) ?_
        refine AllReadyH.cons rfl (fun K hK => ?_) (AllReadyH.cons rfl (fun K hK => ?_) AllReadyH.nil)
        · go_simp
          refine (D2.out _ (HT.out.bel HS.out) (below_aft HB.out HS.out)).mono ?_
          rintro e v3 ⟨g2, k2, rfl, hl, hbn⟩
          go_wp2_with fail
          have hS : Below w1.heap.size w1 v3 := below_aft HS.out hbn
          refine hK.out _ _ hS (fun hHeld => ?_)
          clear hK K
          try simp only [Act.put, List.setIfInBounds_toArray, List.set_cons_zero, List.set_cons_succ]
          have HL1 := hidD (HL1.out.bel hbn)
          have HA1 := hidD (HA1.out.below hbn)
          have HL2 := hidD hl
          have HS := hidD hS
          clear hl hbn hS
          refine wpAnyH_ready (rs := [5]) (by kernel_rfl) (by simp) ?_
          refine AllReadyH.cons rfl (fun K hK => ?_) AllReadyH.nil
          go_simp
          go_wp2_with fail
          obtain ⟨b12, hb12⟩ : ∃ b, b = (v3).heap.size := ⟨_, rfl⟩
          rw [← hb12]
          obtain ⟨v4, hvn⟩ : ∃ u, u = (v3).alloc (plO 0 none 0 0) := ⟨_, rfl⟩
          show K _ ((v3).alloc (plO 0 none 0 0))
          rw [← hvn]
          have hbn : Below (v3).heap.size (v3) v4 := by rw [hvn]; exact belA (Below.refl _ _)
          have hS : Below w1.heap.size w1 v4 := below_aft HS.out hbn
          refine hK.out _ _ hS (fun hHeld => ?_)
          clear hK K
          try simp only [Act.put, List.setIfInBounds_toArray, List.set_cons_zero, List.set_cons_succ]
          have NE : Hid (b11 ≠ b12) := (by have := HA1.out.lt; omega : b11 ≠ b12)
          have HL1 := hidD (HL1.out.bel hbn)
          have HL2 := hidD (HL2.out.bel hbn)
          have HA1 := hidD (HA1.out.below hbn)
          have HA2 : Hid (At v4 b12 (plO 0 none 0 0)) := (by rw [hvn, hb12]; exact At.new _ _ : At v4 b12 (plO 0 none 0 0))
          have HLO2 : Hid (w1.heap.size ≤ b12) := (by have := (show Below w1.heap.size w1 (v3) from HS.out).size; omega : w1.heap.size ≤ b12)
          have HS := hidD hS
          clear hbn hS hvn hb12
          refine wpAnyH_ready (rs := [6]) (by kernel_rfl) (by simp) ?_
          refine AllReadyH.cons rfl (fun K hK => ?_) AllReadyH.nil
          refine wp_storeP26 b11 ⟨0, none, 0, 0⟩ ⟨l, some ⟨g1, 0, none⟩, p.length, k1⟩ rfl rfl HA1.out rfl rfl ?_
          have hS : Below w1.heap.size w1 (S2 v4 b11 ⟨l, some ⟨g1, 0, none⟩, p.length, k1⟩) := S2_low HS.out HLO1.out
          have HL1' := hidD (Lnt.S2 (y := ⟨l, some ⟨g1, 0, none⟩, p.length, k1⟩) HL1.out (x := ⟨0, none, 0, 0⟩) HA1.out)
          have HL2' := hidD (Lnt.S2 (y := ⟨l, some ⟨g1, 0, none⟩, p.length, k1⟩) HL2.out (x := ⟨0, none, 0, 0⟩) HA1.out)
          have HA2' := hidD (HA2.out.S2 (b := b11) (fun e => NE.out e.symm) ⟨l, some ⟨g1, 0, none⟩, p.length, k1⟩)
          have HA1' := hidD (HA1.out.set2 (x := ⟨0, none, 0, 0⟩) ⟨l, some ⟨g1, 0, none⟩, p.length, k1⟩)
          obtain ⟨v5, hvn⟩ : ∃ u, u = S2 v4 b11 ⟨l, some ⟨g1, 0, none⟩, p.length, k1⟩ := ⟨_, rfl⟩
          rw [← hvn] at hS HL1' HL2' HA1' HA2' ⊢
          clear hvn
          refine hK.out _ _ hS (fun hHeld => ?_)
          clear hK K
          try simp only [Act.put, List.setIfInBounds_toArray, List.set_cons_zero, List.set_cons_succ]
          have HL1 := HL1'
          have HL2 := HL2'
          have HA1 := HA1'
          have HA2 := HA2'
          have HS := hidD hS
          clear hS
          refine wpAnyH_ready (rs := [7]) (by kernel_rfl) (by simp) ?_
          refine AllReadyH.cons rfl (fun K hK => ?_) AllReadyH.nil
          refine wp_storeP26 b12 ⟨0, none, 0, 0⟩ ⟨l2, some ⟨g2, 0, none⟩, q.length, k2⟩ rfl rfl HA2.out rfl rfl ?_
          have hS : Below w1.heap.size w1 (S2 v5 b12 ⟨l2, some ⟨g2, 0, none⟩, q.length, k2⟩) := S2_low HS.out HLO2.out
          have HL1' := hidD (Lnt.S2 (y := ⟨l2, some ⟨g2, 0, none⟩, q.length, k2⟩) HL1.out (x := ⟨0, none, 0, 0⟩) HA2.out)
          have HL2' := hidD (Lnt.S2 (y := ⟨l2, some ⟨g2, 0, none⟩, q.length, k2⟩) HL2.out (x := ⟨0, none, 0, 0⟩) HA2.out)
          have HA1' := hidD (HA1.out.S2 (b := b12) NE.out ⟨l2, some ⟨g2, 0, none⟩, q.length, k2⟩)
          have HA2' := hidD (HA2.out.set2 (x := ⟨0, none, 0, 0⟩) ⟨l2, some ⟨g2, 0, none⟩, q.length, k2⟩)
          obtain ⟨v6, hvn⟩ : ∃ u, u = S2 v5 b12 ⟨l2, some ⟨g2, 0, none⟩, q.length, k2⟩ := ⟨_, rfl⟩
          rw [← hvn] at hS HL1' HL2' HA2' HA1' ⊢
          clear hvn
          refine hK.out _ _ hS (fun hHeld => ?_)
          clear hK K
          try simp only [Act.put, List.setIfInBounds_toArray, List.set_cons_zero, List.set_cons_succ]
          have HL1 := HL1'
          have HL2 := HL2'
          have HA2 := HA2'
          have HA1 := HA1'
          have HS := hidD hS
          clear hS
          refine wpAnyH_done (by kernel_rfl) ?_ _
          go_wp2_with fail
          go_meet
          exact ⟨b11, b12, g1, k1, g2, k2, rfl, rfl, HT.out.bel HS.out, HA1.out, HA2.out, HL1.out, HL2.out, below_aft HB.out HS.out⟩
        · go_simp
          go_wp2_with fail
          obtain ⟨b12, hb12⟩ : ∃ b, b = (v2).heap.size := ⟨_, rfl⟩
          rw [← hb12]
          obtain ⟨v3, hvn⟩ : ∃ u, u = (v2).alloc (plO 0 none 0 0) := ⟨_, rfl⟩
          show K _ ((v2).alloc (plO 0 none 0 0))
          rw [← hvn]
          have hbn : Below (v2).heap.size (v2) v3 := by rw [hvn]; exact belA (Below.refl _ _)
          have hS : Below w1.heap.size w1 v3 := below_aft HS.out hbn
          refine hK.out _ _ hS (fun hHeld => ?_)
          clear hK K
          try simp only [Act.put, List.setIfInBounds_toArray, List.set_cons_zero, List.set_cons_succ]
          have NE : Hid (b11 ≠ b12) := (by have := HA1.out.lt; omega : b11 ≠ b12)
          have HL1 := hidD (HL1.out.bel hbn)
          have HA1 := hidD (HA1.out.below hbn)
          have HA2 : Hid (At v3 b12 (plO 0 none 0 0)) := (by rw [hvn, hb12]; exact At.new _ _ : At v3 b12 (plO 0 none 0 0))
          have HLO2 : Hid (w1.heap.size ≤ b12) := (by have := (show Below w1.heap.size w1 (v2) from HS.out).size; omega : w1.heap.size ≤ b12)
          have HS := hidD hS
          clear hbn hS hvn hb12
          refine wpAnyH_ready (rs := [3]) (by kernel_rfl) (by simp) ?_
          refine AllReadyH.cons rfl (fun K hK => ?_) AllReadyH.nil
          go_simp
          refine (D2.out _ (HT.out.bel HS.out) (below_aft HB.out HS.out)).mono ?_
          rintro e v4 ⟨g2, k2, rfl, hl, hbn⟩
          go_wp2_with fail
          have hS : Below w1.heap.size w1 v4 := below_aft HS.out hbn
          refine hK.out _ _ hS (fun hHeld => ?_)
          clear hK K
          try simp only [Act.put, List.setIfInBounds_toArray, List.set_cons_zero, List.set_cons_succ]
          have HL1 := hidD (HL1.out.bel hbn)
          have HA1 := hidD (HA1.out.below hbn)
          have HA2 := hidD (HA2.out.below hbn)
          have HL2 := hidD hl
          have HS := hidD hS
          clear hl hbn hS
          refine wpAnyH_ready (rs := [6]) (by kernel_rfl) (by simp) ?_
          refine AllReadyH.cons rfl (fun K hK => ?_) AllReadyH.nil
          refine wp_storeP26 b11 ⟨0, none, 0, 0⟩ ⟨l, some ⟨g1, 0, none⟩, p.length, k1⟩ rfl rfl HA1.out rfl rfl ?_
          have hS : Below w1.heap.size w1 (S2 v4 b11 ⟨l, some ⟨g1, 0, none⟩, p.length, k1⟩) := S2_low HS.out HLO1.out
          have HL1' := hidD (Lnt.S2 (y := ⟨l, some ⟨g1, 0, none⟩, p.length, k1⟩) HL1.out (x := ⟨0, none, 0, 0⟩) HA1.out)
          have HL2' := hidD (Lnt.S2 (y := ⟨l, some ⟨g1, 0, none⟩, p.length, k1⟩) HL2.out (x := ⟨0, none, 0, 0⟩) HA1.out)
          have HA2' := hidD (HA2.out.S2 (b := b11) (fun e => NE.out e.symm) ⟨l, some ⟨g1, 0, none⟩, p.length, k1⟩)
          have HA1' := hidD (HA1.out.set2 (x := ⟨0, none, 0, 0⟩) ⟨l, some ⟨g1, 0, none⟩, p.length, k1⟩)
          obtain ⟨v5, hvn⟩ : ∃ u, u = S2 v4 b11 ⟨l, some ⟨g1, 0, none⟩, p.length, k1⟩ := ⟨_, rfl⟩
          rw [← hvn] at hS HL1' HL2' HA1' HA2' ⊢
          clear hvn
          refine hK.out _ _ hS (fun hHeld => ?_)
          clear hK K
          try simp only [Act.put, List.setIfInBounds_toArray, List.set_cons_zero, List.set_cons_succ]
          have HL1 := HL1'
          have HL2 := HL2'
          have HA1 := HA1'
          have HA2 := HA2'
          have HS := hidD hS
          clear hS
          refine wpAnyH_ready (rs := [7]) (by kernel_rfl) (by simp) ?_
          refine AllReadyH.cons rfl (fun K hK => ?_) AllReadyH.nil
          refine wp_storeP26 b12 ⟨0, none, 0, 0⟩ ⟨l2, some ⟨g2, 0, none⟩, q.length, k2⟩ rfl rfl HA2.out rfl rfl ?_
          have hS : Below w1.heap.size w1 (S2 v5 b12 ⟨l2, some ⟨g2, 0, none⟩, q.length, k2⟩) := S2_low HS.out HLO2.out
          have HL1' := hidD (Lnt.S2 (y := ⟨l2, some ⟨g2, 0, none⟩, q.length, k2⟩) HL1.out (x := ⟨0, none, 0, 0⟩) HA2.out)
          have HL2' := hidD (Lnt.S2 (y := ⟨l2, some ⟨g2, 0, none⟩, q.length, k2⟩) HL2.out (x := ⟨0, none, 0, 0⟩) HA2.out)
          have HA1' := hidD (HA1.out.S2 (b := b12) NE.out ⟨l2, some ⟨g2, 0, none⟩, q.length, k2⟩)
          have HA2' := hidD (HA2.out.set2 (x := ⟨0, none, 0, 0⟩) ⟨l2, some ⟨g2, 0, none⟩, q.length, k2⟩)
          obtain ⟨v6, hvn⟩ : ∃ u, u = S2 v5 b12 ⟨l2, some ⟨g2, 0, none⟩, q.length, k2⟩ := ⟨_, rfl⟩
          rw [← hvn] at hS HL1' HL2' HA2' HA1' ⊢
          clear hvn
          refine hK.out _ _ hS (fun hHeld => ?_)
          clear hK K
          try simp only [Act.put, List.setIfInBounds_toArray, List.set_cons_zero, List.set_cons_succ]
          have HL1 := HL1'
          have HL2 := HL2'
          have HA2 := HA2'
          have HA1 := HA1'
          have HS := hidD hS
          clear hS
          refine wpAnyH_done (by kernel_rfl) ?_ _
          go_wp2_with fail
          go_meet
          exact ⟨b11, b12, g1, k1, g2, k2, rfl, rfl, HT.out.bel HS.out, HA1.out, HA2.out, HL1.out, HL2.out, below_aft HB.out HS.out⟩
      · go_simp
        go_wp2_with fail
        obtain ⟨b12, hb12⟩ : ∃ b, b = (v1).heap.size := ⟨_, rfl⟩
        rw [← hb12]
        obtain ⟨v2, hvn⟩ : ∃ u, u = (v1).alloc (plO 0 none 0 0) := ⟨_, rfl⟩
        show K _ ((v1).alloc (plO 0 none 0 0))
        rw [← hvn]
        have hbn : Below (v1).heap.size (v1) v2 := by rw [hvn]; exact belA (Below.refl _ _)
        have hS : Below w1.heap.size w1 v2 := below_aft HS.out hbn
        refine hK.out _ _ hS (fun hHeld => ?_)
        clear hK K
        try simp only [Act.put, List.setIfInBounds_toArray, List.set_cons_zero, List.set_cons_succ]
        have HL1 := hidD (HL1.out.bel hbn)
        have HA2 : Hid (At v2 b12 (plO 0 none 0 0)) := (by rw [hvn, hb12]; exact At.new _ _ : At v2 b12 (plO 0 none 0 0))
        have HLO2 : Hid (w1.heap.size ≤ b12) := (by have := (show Below w1.heap.size w1 (v1) from HS.out).size; omega : w1.heap.size ≤ b12)
        have HS := hidD hS
        clear hbn hS hvn hb12
        refine wpAnyH_ready (rs := [3, 4]) (by kernel_rfl) (by simp) ?_
        refine AllReadyH.cons rfl (fun K hK => ?_) (AllReadyH.cons rfl (fun K hK => ?_) AllReadyH.nil)
        · go_simp
          refine (D2.out _ (HT.out.bel HS.out) (below_aft HB.out HS.out)).mono ?_
          rintro e v3 ⟨g2, k2, rfl, hl, hbn⟩
          go_wp2_with fail
          have hS : Below w1.heap.size w1 v3 := below_aft HS.out hbn
          refine hK.out _ _ hS (fun hHeld => ?_)
          clear hK K
          try simp only [Act.put, List.setIfInBounds_toArray, List.set_cons_zero, List.set_cons_succ]
          have HL1 := hidD (HL1.out.bel hbn)
          have HA2 := hidD (HA2.out.below hbn)
          have HL2 := hidD hl
          have HS := hidD hS
          clear hl hbn hS
          refine wpAnyH_ready (rs := [4]) (by kernel_rfl) (by simp) ?_
          refine AllReadyH.cons rfl (fun K hK => ?_) AllReadyH.nil
          go_simp
          go_wp2_with fail
          obtain ⟨b11, hb11⟩ : ∃ b, b = (v3).heap.size := ⟨_, rfl⟩
          rw [← hb11]
          obtain ⟨v4, hvn⟩ : ∃ u, u = (v3).alloc (plO 0 none 0 0) := ⟨_, rfl⟩
          show K _ ((v3).alloc (plO 0 none 0 0))
          rw [← hvn]
          have hbn : Below (v3).heap.size (v3) v4 := by rw [hvn]; exact belA (Below.refl _ _)
          have hS : Below w1.heap.size w1 v4 := below_aft HS.out hbn
          refine hK.out _ _ hS (fun hHeld => ?_)
          clear hK K
          try simp only [Act.put, List.setIfInBounds_toArray, List.set_cons_zero, List.set_cons_succ]
          have NE : Hid (b11 ≠ b12) := (by have := HA2.out.lt; omega : b11 ≠ b12)
          have HL1 := hidD (HL1.out.bel hbn)
          have HL2 := hidD (HL2.out.bel hbn)
          have HA2 := hidD (HA2.out.below hbn)
          have HA1 : Hid (At v4 b11 (plO 0 none 0 0)) := (by rw [hvn, hb11]; exact At.new _ _ : At v4 b11 (plO 0 none 0 0))
          have HLO1 : Hid (w1.heap.size ≤ b11) := (by have := (show Below w1.heap.size w1 (v3) from HS.out).size; omega : w1.heap.size ≤ b11)
          have HS := hidD hS
          clear hbn hS hvn hb11
          refine wpAnyH_ready (rs := [6]) (by kernel_rfl) (by simp) ?_
          refine AllReadyH.cons rfl (fun K hK => ?_) AllReadyH.nil
          refine wp_storeP26 b11 ⟨0, none, 0, 0⟩ ⟨l, some ⟨g1, 0, none⟩, p.length, k1⟩ rfl rfl HA1.out rfl rfl ?_
          have hS : Below w1.heap.size w1 (S2 v4 b11 ⟨l, some ⟨g1, 0, none⟩, p.length, k1⟩) := S2_low HS.out HLO1.out
          have HL1' := hidD (Lnt.S2 (y := ⟨l, some ⟨g1, 0, none⟩, p.length, k1⟩) HL1.out (x := ⟨0, none, 0, 0⟩) HA1.out)
          have HL2' := hidD (Lnt.S2 (y := ⟨l, some ⟨g1, 0, none⟩, p.length, k1⟩) HL2.out (x := ⟨0, none, 0, 0⟩) HA1.out)
          have HA2' := hidD (HA2.out.S2 (b := b11) (fun e => NE.out e.symm) ⟨l, some ⟨g1, 0, none⟩, p.length, k1⟩)
          have HA1' := hidD (HA1.out.set2 (x := ⟨0, none, 0, 0⟩) ⟨l, some ⟨g1, 0, none⟩, p.length, k1⟩)
          obtain ⟨v5, hvn⟩ : ∃ u, u = S2 v4 b11 ⟨l, some ⟨g1, 0, none⟩, p.length, k1⟩ := ⟨_, rfl⟩
          rw [← hvn] at hS HL1' HL2' HA1' HA2' ⊢
          clear hvn
          refine hK.out _ _ hS (fun hHeld => ?_)
          clear hK K
          try simp only [Act.put, List.setIfInBounds_toArray, List.set_cons_zero, List.set_cons_succ]
          have HL1 := HL1'
          have HL2 := HL2'
          have HA1 := HA1'
          have HA2 := HA2'
          have HS := hidD hS
          clear hS
          refine wpAnyH_ready (rs := [7]) (by kernel_rfl) (by simp) ?_
          refine AllReadyH.cons rfl (fun K hK => ?_) AllReadyH.nil
          refine wp_storeP26 b12 ⟨0, none, 0, 0⟩ ⟨l2, some ⟨g2, 0, none⟩, q.length, k2⟩ rfl rfl HA2.out rfl rfl ?_
          have hS : Below w1.heap.size w1 (S2 v5 b12 ⟨l2, some ⟨g2, 0, none⟩, q.length, k2⟩) := S2_low HS.out HLO2.out
          have HL1' := hidD (Lnt.S2 (y := ⟨l2, some ⟨g2, 0, none⟩, q.length, k2⟩) HL1.out (x := ⟨0, none, 0, 0⟩) HA2.out)
          have HL2' := hidD (Lnt.S2 (y := ⟨l2, some ⟨g2, 0, none⟩, q.length, k2⟩) HL2.out (x := ⟨0, none, 0, 0⟩) HA2.out)
          have HA1' := hidD (HA1.out.S2 (b := b12) NE.out ⟨l2, some ⟨g2, 0, none⟩, q.length, k2⟩)
          have HA2' := hidD (HA2.out.set2 (x := ⟨0, none, 0, 0⟩) ⟨l2, some ⟨g2, 0, none⟩, q.length, k2⟩)
          obtain ⟨v6, hvn⟩ : ∃ u, u = S2 v5 b12 ⟨l2, some ⟨g2, 0, none⟩, q.length, k2⟩ := ⟨_, rfl⟩
          rw [← hvn] at hS HL1' HL2' HA2' HA1' ⊢
          clear hvn
          refine hK.out _ _ hS (fun hHeld => ?_)
          clear hK K
          try simp only [Act.put, List.setIfInBounds_toArray, List.set_cons_zero, List.set_cons_succ]
          have HL1 := HL1'
          have HL2 := HL2'
          have HA2 := HA2'
          have HA1 := HA1'
          have HS := hidD hS
          clear hS
          refine wpAnyH_done (by kernel_rfl) ?_ _
          go_wp2_with fail
          go_meet
          exact ⟨b11, b12, g1, k1, g2, k2, rfl, rfl, HT.out.bel HS.out, HA1.out, HA2.out, HL1.out, HL2.out, below_aft HB.out HS.out⟩
        · go_simp
          go_wp2_with fail
          obtain ⟨b11, hb11⟩ : ∃ b, b = (v2).heap.size := ⟨_, rfl⟩
          rw [← hb11]
          obtain ⟨v3, hvn⟩ : ∃ u, u = (v2).alloc (plO 0 none 0 0) := ⟨_, rfl⟩
          show K _ ((v2).alloc (plO 0 none 0 0))
          rw [← hvn]
          have hbn : Below (v2).heap.size (v2) v3 := by rw [hvn]; exact belA (Below.refl _ _)
          have hS : Below w1.heap.size w1 v3 := below_aft HS.out hbn
          refine hK.out _ _ hS (fun hHeld => ?_)
          clear hK K
          try simp only [Act.put, List.setIfInBounds_toArray, List.set_cons_zero, List.set_cons_succ]
          have NE : Hid (b11 ≠ b12) := (by have := HA2.out.lt; omega : b11 ≠ b12)
          have HL1 := hidD (HL1.out.bel hbn)
          have HA2 := hidD (HA2.out.below hbn)
          have HA1 : Hid (At v3 b11 (plO 0 none 0 0)) := (by rw [hvn, hb11]; exact At.new _ _ : At v3 b11 (plO 0 none 0 0))
          have HLO1 : Hid (w1.heap.size ≤ b11) := (by have := (show Below w1.heap.size w1 (v2) from HS.out).size; omega : w1.heap.size ≤ b11)
          have HS := hidD hS
          clear hbn hS hvn hb11
          refine wpAnyH_ready (rs := [3]) (by kernel_rfl) (by simp) ?_
          refine AllReadyH.cons rfl (fun K hK => ?_) AllReadyH.nil
          go_simp
          refine (D2.out _ (HT.out.bel HS.out) (below_aft HB.out HS.out)).mono ?_
          rintro e v4 ⟨g2, k2, rfl, hl, hbn⟩
          go_wp2_with fail
          have hS : Below w1.heap.size w1 v4 := below_aft HS.out hbn
          refine hK.out _ _ hS (fun hHeld => ?_)
          clear hK K
          try simp only [Act.put, List.setIfInBounds_toArray, List.set_cons_zero, List.set_cons_succ]
          have HL1 := hidD (HL1.out.bel hbn)
          have HA1 := hidD (HA1.out.below hbn)
          have HA2 := hidD (HA2.out.below hbn)
          have HL2 := hidD hl
          have HS := hidD hS
          clear hl hbn hS
          refine wpAnyH_ready (rs := [6]) (by kernel_rfl) (by simp) ?_
          refine AllReadyH.cons rfl (fun K hK => ?_) AllReadyH.nil
          refine wp_storeP26 b11 ⟨0, none, 0, 0⟩ ⟨l, some ⟨g1, 0, none⟩, p.length, k1⟩ rfl rfl HA1.out rfl rfl ?_
          have hS : Below w1.heap.size w1 (S2 v4 b11 ⟨l, some ⟨g1, 0, none⟩, p.length, k1⟩) := S2_low HS.out HLO1.out
          have HL1' := hidD (Lnt.S2 (y := ⟨l, some ⟨g1, 0, none⟩, p.length, k1⟩) HL1.out (x := ⟨0, none, 0, 0⟩) HA1.out)
          have HL2' := hidD (Lnt.S2 (y := ⟨l, some ⟨g1, 0, none⟩, p.length, k1⟩) HL2.out (x := ⟨0, none, 0, 0⟩) HA1.out)
          have HA2' := hidD (HA2.out.S2 (b := b11) (fun e => NE.out e.symm) ⟨l, some ⟨g1, 0, none⟩, p.length, k1⟩)
          have HA1' := hidD (HA1.out.set2 (x := ⟨0, none, 0, 0⟩) ⟨l, some ⟨g1, 0, none⟩, p.length, k1⟩)
          obtain ⟨v5, hvn⟩ : ∃ u, u = S2 v4 b11 ⟨l, some ⟨g1, 0, none⟩, p.length, k1⟩ := ⟨_, rfl⟩
          rw [← hvn] at hS HL1' HL2' HA1' HA2' ⊢
          clear hvn
          refine hK.out _ _ hS (fun hHeld => ?_)
          clear hK K
          try simp only [Act.put, List.setIfInBounds_toArray, List.set_cons_zero, List.set_cons_succ]
          have HL1 := HL1'
          have HL2 := HL2'
          have HA1 := HA1'
          have HA2 := HA2'
          have HS := hidD hS
          clear hS
          refine wpAnyH_ready (rs := [7]) (by kernel_rfl) (by simp) ?_
          refine AllReadyH.cons rfl (fun K hK => ?_) AllReadyH.nil
          refine wp_storeP26 b12 ⟨0, none, 0, 0⟩ ⟨l2, some ⟨g2, 0, none⟩, q.length, k2⟩ rfl rfl HA2.out rfl rfl ?_
          have hS : Below w1.heap.size w1 (S2 v5 b12 ⟨l2, some ⟨g2, 0, none⟩, q.length, k2⟩) := S2_low HS.out HLO2.out
          have HL1' := hidD (Lnt.S2 (y := ⟨l2, some ⟨g2, 0, none⟩, q.length, k2⟩) HL1.out (x := ⟨0, none, 0, 0⟩) HA2.out)
          have HL2' := hidD (Lnt.S2 (y := ⟨l2, some ⟨g2, 0, none⟩, q.length, k2⟩) HL2.out (x := ⟨0, none, 0, 0⟩) HA2.out)
          have HA1' := hidD (HA1.out.S2 (b := b12) NE.out ⟨l2, some ⟨g2, 0, none⟩, q.length, k2⟩)
          have HA2' := hidD (HA2.out.set2 (x := ⟨0, none, 0, 0⟩) ⟨l2, some ⟨g2, 0, none⟩, q.length, k2⟩)
          obtain ⟨v6, hvn⟩ : ∃ u, u = S2 v5 b12 ⟨l2, some ⟨g2, 0, none⟩, q.length, k2⟩ := ⟨_, rfl⟩
          rw [← hvn] at hS HL1' HL2' HA2' HA1' ⊢
          clear hvn
          refine hK.out _ _ hS (fun hHeld => ?_)
          clear hK K
          try simp only [Act.put, List.setIfInBounds_toArray, List.set_cons_zero, List.set_cons_succ]
          have HL1 := HL1'
          have HL2 := HL2'
          have HA2 := HA2'
          have HA1 := HA1'
          have HS := hidD hS
          clear hS
          refine wpAnyH_done (by kernel_rfl) ?_ _
          go_wp2_with fail
          go_meet
          exact ⟨b11, b12, g1, k1, g2, k2, rfl, rfl, HT.out.bel HS.out, HA1.out, HA2.out, HL1.out, HL2.out, below_aft HB.out HS.out⟩
    · go_simp
      go_wp2_with fail
      obtain ⟨b11, hb11⟩ : ∃ b, b = (w1.drew).heap.size := ⟨_, rfl⟩
      have hb11' : b11 = w1.heap.size := hb11
      rw [← hb11']
      obtain ⟨v1, hvn⟩ : ∃ u, u = (w1.drew).alloc (plO 0 none 0 0) := ⟨_, rfl⟩
      show K _ ((w1.drew).alloc (plO 0 none 0 0))
      rw [← hvn]
      have hbn : Below (w1.drew).heap.size (w1.drew) v1 := by rw [hvn]; exact belA (Below.refl _ _)
      have hS : Below w1.heap.size w1 v1 := below_aft (belN (Below.refl _ _) 1) hbn
      refine hK.out _ _ hS (fun hHeld => ?_)
      clear hK K
      try simp only [Act.put, List.setIfInBounds_toArray, List.set_cons_zero, List.set_cons_succ]
      have HA1 : Hid (At v1 b11 (plO 0 none 0 0)) := (by rw [hvn, hb11]; exact At.new _ _ : At v1 b11 (plO 0 none 0 0))
      have HLO1 : Hid (w1.heap.size ≤ b11) := (by have := (show Below w1.heap.size w1 (w1.drew) from (belN (Below.refl _ _) 1)).size; omega : w1.heap.size ≤ b11)
      have HS := hidD hS
      clear hbn hS hvn hb11 hb11'
      refine wpAnyH_ready (rs := [1, 5]) (by kernel_rfl) (by simp) ?_
      refine AllReadyH.cons rfl (fun K hK => ?_) (AllReadyH.cons rfl (fun K hK => ?_) AllReadyH.nil)
      · go_simp
        refine (D1.out _ (HT.out.bel HS.out) (below_aft HB.out HS.out)).mono ?_
        rintro e v2 ⟨g1, k1, rfl, hl, hbn⟩
        go_wp2_with fail
        have hS : Below w1.heap.size w1 v2 := below_aft HS.out hbn
        refine hK.out _ _ hS (fun hHeld => ?_)
        clear hK K
        try simp only [Act.put, List.setIfInBounds_toArray, List.set_cons_zero, List.set_cons_succ]
        have HA1 := hidD (HA1.out.below hbn)
        have HL1 := hidD hl
        have HS := hidD hS
        clear hl hbn hS
        refine wpAnyH_ready (rs := [3, 5]) (by kernel_rfl) (by simp) ?_
        refine AllReadyH.cons rfl (fun K hK => ?_) (AllReadyH.cons rfl (fun K hK => ?_) AllReadyH.nil)
        · go_simp
          refine (D2.out _ (HT.out.bel HS.out) (below_aft HB.out HS.out)).mono ?_
          rintro e v3 ⟨g2, k2, rfl, hl, hbn⟩
          go_wp2_with fail
          have hS : Below w1.heap.size w1 v3 := below_aft HS.out hbn
          refine hK.out _ _ hS (fun hHeld => ?_)
          clear hK K
          try simp only [Act.put, List.setIfInBounds_toArray, List.set_cons_zero, List.set_cons_succ]
          have HL1 := hidD (HL1.out.bel hbn)
          have HA1 := hidD (HA1.out.below hbn)
          have HL2 := hidD hl
          have HS := hidD hS
          clear hl hbn hS
          refine wpAnyH_ready (rs := [5]) (by kernel_rfl) (by simp) ?_
          refine AllReadyH.cons rfl (fun K hK => ?_) AllReadyH.nil
          go_simp
          go_wp2_with fail
          obtain ⟨b12, hb12⟩ : ∃ b, b = (v3).heap.size := ⟨_, rfl⟩
          rw [← hb12]
          obtain ⟨v4, hvn⟩ : ∃ u, u = (v3).alloc (plO 0 none 0 0) := ⟨_, rfl⟩
          show K _ ((v3).alloc (plO 0 none 0 0))
          rw [← hvn]
          have hbn : Below (v3).heap.size (v3) v4 := by rw [hvn]; exact belA (Below.refl _ _)
          have hS : Below w1.heap.size w1 v4 := below_aft HS.out hbn
          refine hK.out _ _ hS (fun hHeld => ?_)
          clear hK K
          try simp only [Act.put, List.setIfInBounds_toArray, List.set_cons_zero, List.set_cons_succ]
          have NE : Hid (b11 ≠ b12) := (by have := HA1.out.lt; omega : b11 ≠ b12)
          have HL1 := hidD (HL1.out.bel hbn)
          have HL2 := hidD (HL2.out.bel hbn)
          have HA1 := hidD (HA1.out.below hbn)
          have HA2 : Hid (At v4 b12 (plO 0 none 0 0)) := (by rw [hvn, hb12]; exact At.new _ _ : At v4 b12 (plO 0 none 0 0))
          have HLO2 : Hid (w1.heap.size ≤ b12) := (by have := (show Below w1.heap.size w1 (v3) from HS.out).size; omega : w1.heap.size ≤ b12)
          have HS := hidD hS
          clear hbn hS hvn hb12
          refine wpAnyH_ready (rs := [6]) (by kernel_rfl) (by simp) ?_
          refine AllReadyH.cons rfl (fun K hK => ?_) AllReadyH.nil
          refine wp_storeP26 b11 ⟨0, none, 0, 0⟩ ⟨l, some ⟨g1, 0, none⟩, p.length, k1⟩ rfl rfl HA1.out rfl rfl ?_
          have hS : Below w1.heap.size w1 (S2 v4 b11 ⟨l, some ⟨g1, 0, none⟩, p.length, k1⟩) := S2_low HS.out HLO1.out
          have HL1' := hidD (Lnt.S2 (y := ⟨l, some ⟨g1, 0, none⟩, p.length, k1⟩) HL1.out (x := ⟨0, none, 0, 0⟩) HA1.out)
          have HL2' := hidD (Lnt.S2 (y := ⟨l, some ⟨g1, 0, none⟩, p.length, k1⟩) HL2.out (x := ⟨0, none, 0, 0⟩) HA1.out)
          have HA2' := hidD (HA2.out.S2 (b := b11) (fun e => NE.out e.symm) ⟨l, some ⟨g1, 0, none⟩, p.length, k1⟩)
          have HA1' := hidD (HA1.out.set2 (x := ⟨0, none, 0, 0⟩) ⟨l, some ⟨g1, 0, none⟩, p.length, k1⟩)
          obtain ⟨v5, hvn⟩ : ∃ u, u = S2 v4 b11 ⟨l, some ⟨g1, 0, none⟩, p.length, k1⟩ := ⟨_, rfl⟩
          rw [← hvn] at hS HL1' HL2' HA1' HA2' ⊢
          clear hvn
          refine hK.out _ _ hS (fun hHeld => ?_)
          clear hK K
          try simp only [Act.put, List.setIfInBounds_toArray, List.set_cons_zero, List.set_cons_succ]
          have HL1 := HL1'
          have HL2 := HL2'
          have HA1 := HA1'
          have HA2 := HA2'
          have HS := hidD hS
          clear hS
          refine wpAnyH_ready (rs := [7]) (by kernel_rfl) (by simp) ?_
          refine AllReadyH.cons rfl (fun K hK => ?_) AllReadyH.nil
          refine wp_storeP26 b12 ⟨0, none, 0, 0⟩ ⟨l2, some ⟨g2, 0, none⟩, q.length, k2⟩ rfl rfl HA2.out rfl rfl ?_
          have hS : Below w1.heap.size w1 (S2 v5 b12 ⟨l2, some ⟨g2, 0, none⟩, q.length, k2⟩) := S2_low HS.out HLO2.out
          have HL1' := hidD (Lnt.S2 (y := ⟨l2, some ⟨g2, 0, none⟩, q.length, k2⟩) HL1.out (x := ⟨0, none, 0, 0⟩) HA2.out)
          have HL2' := hidD (Lnt.S2 (y := ⟨l2, some ⟨g2, 0, none⟩, q.length, k2⟩) HL2.out (x := ⟨0, none, 0, 0⟩) HA2.out)
          have HA1' := hidD (HA1.out.S2 (b := b12) NE.out ⟨l2, some ⟨g2, 0, none⟩, q.length, k2⟩)
          have HA2' := hidD (HA2.out.set2 (x := ⟨0, none, 0, 0⟩) ⟨l2, some ⟨g2, 0, none⟩, q.length, k2⟩)
          obtain ⟨v6, hvn⟩ : ∃ u, u = S2 v5 b12 ⟨l2, some ⟨g2, 0, none⟩, q.length, k2⟩ := ⟨_, rfl⟩
          rw [← hvn] at hS HL1' HL2' HA2' HA1' ⊢
          clear hvn
          refine hK.out _ _ hS (fun hHeld => ?_)
          clear hK K
          try simp only [Act.put, List.setIfInBounds_toArray, List.set_cons_zero, List.set_cons_succ]
          have HL1 := HL1'
          have HL2 := HL2'
          have HA2 := HA2'
          have HA1 := HA1'
          have HS := hidD hS
          clear hS
          refine wpAnyH_done (by kernel_rfl) ?_ _
          go_wp2_with fail
          go_meet
          exact ⟨b11, b12, g1, k1, g2, k2, rfl, rfl, HT.out.bel HS.out, HA1.out, HA2.out, HL1.out, HL2.out, below_aft HB.out HS.out⟩
        · go_simp
          go_wp2_with fail
          obtain ⟨b12, hb12⟩ : ∃ b, b = (v2).heap.size := ⟨_, rfl⟩
          rw [← hb12]
          obtain ⟨v3, hvn⟩ : ∃ u, u = (v2).alloc (plO 0 none 0 0) := ⟨_, rfl⟩
          show K _ ((v2).alloc (plO 0 none 0 0))
          rw [← hvn]
          have hbn : Below (v2).heap.size (v2) v3 := by rw [hvn]; exact belA (Below.refl _ _)
          have hS : Below w1.heap.size w1 v3 := below_aft HS.out hbn
          refine hK.out _ _ hS (fun hHeld => ?_)
          clear hK K
          try simp only [Act.put, List.setIfInBounds_toArray, List.set_cons_zero, List.set_cons_succ]
          have NE : Hid (b11 ≠ b12) := (by have := HA1.out.lt; omega : b11 ≠ b12)
          have HL1 := hidD (HL1.out.bel hbn)
          have HA1 := hidD (HA1.out.below hbn)
          have HA2 : Hid (At v3 b12 (plO 0 none 0 0)) := (by rw [hvn, hb12]; exact At.new _ _ : At v3 b12 (plO 0 none 0 0))
          have HLO2 : Hid (w1.heap.size ≤ b12) := (by have := (show Below w1.heap.size w1 (v2) from HS.out).size; omega : w1.heap.size ≤ b12)
          have HS := hidD hS
          clear hbn hS hvn hb12
          refine wpAnyH_ready (rs := [3]) (by kernel_rfl) (by simp) ?_
          refine AllReadyH.cons rfl (fun K hK => ?_) AllReadyH.nil
          go_simp
          refine (D2.out _ (HT.out.bel HS.out) (below_aft HB.out HS.out)).mono ?_
          rintro e v4 ⟨g2, k2, rfl, hl, hbn⟩
          go_wp2_with fail
          have hS : Below w1.heap.size w1 v4 := below_aft HS.out hbn
          refine hK.out _ _ hS (fun hHeld => ?_)
          clear hK K
          try simp only [Act.put, List.setIfInBounds_toArray, List.set_cons_zero, List.set_cons_succ]
          have HL1 := hidD (HL1.out.bel hbn)
          have HA1 := hidD (HA1.out.below hbn)
          have HA2 := hidD (HA2.out.below hbn)
          have HL2 := hidD hl
          have HS := hidD hS
          clear hl hbn hS
          refine wpAnyH_ready (rs := [6]) (by kernel_rfl) (by simp) ?_
          refine AllReadyH.cons rfl (fun K hK => ?_) AllReadyH.nil
          refine wp_storeP26 b11 ⟨0, none, 0, 0⟩ ⟨l, some ⟨g1, 0, none⟩, p.length, k1⟩ rfl rfl HA1.out rfl rfl ?_
          have hS : Below w1.heap.size w1 (S2 v4 b11 ⟨l, some ⟨g1, 0, none⟩, p.length, k1⟩) := S2_low HS.out HLO1.out
          have HL1' := hidD (Lnt.S2 (y := ⟨l, some ⟨g1, 0, none⟩, p.length, k1⟩) HL1.out (x := ⟨0, none, 0, 0⟩) HA1.out)
          have HL2' := hidD (Lnt.S2 (y := ⟨l, some ⟨g1, 0, none⟩, p.length, k1⟩) HL2.out (x := ⟨0, none, 0, 0⟩) HA1.out)
          have HA2' := hidD (HA2.out.S2 (b := b11) (fun e => NE.out e.symm) ⟨l, some ⟨g1, 0, none⟩, p.length, k1⟩)
          have HA1' := hidD (HA1.out.set2 (x := ⟨0, none, 0, 0⟩) ⟨l, some ⟨g1, 0, none⟩, p.length, k1⟩)
          obtain ⟨v5, hvn⟩ : ∃ u, u = S2 v4 b11 ⟨l, some ⟨g1, 0, none⟩, p.length, k1⟩ := ⟨_, rfl⟩
          rw [← hvn] at hS HL1' HL2' HA1' HA2' ⊢
          clear hvn
          refine hK.out _ _ hS (fun hHeld => ?_)
          clear hK K
          try simp only [Act.put, List.setIfInBounds_toArray, List.set_cons_zero, List.set_cons_succ]
          have HL1 := HL1'
          have HL2 := HL2'
          have HA1 := HA1'
          have HA2 := HA2'
          have HS := hidD hS
          clear hS
          refine wpAnyH_ready (rs := [7]) (by kernel_rfl) (by simp) ?_
          refine AllReadyH.cons rfl (fun K hK => ?_) AllReadyH.nil
          refine wp_storeP26 b12 ⟨0, none, 0, 0⟩ ⟨l2, some ⟨g2, 0, none⟩, q.length, k2⟩ rfl rfl HA2.out rfl rfl ?_
          have hS : Below w1.heap.size w1 (S2 v5 b12 ⟨l2, some ⟨g2, 0, none⟩, q.length, k2⟩) := S2_low HS.out HLO2.out
          have HL1' := hidD (Lnt.S2 (y := ⟨l2, some ⟨g2, 0, none⟩, q.length, k2⟩) HL1.out (x := ⟨0, none, 0, 0⟩) HA2.out)
          have HL2' := hidD (Lnt.S2 (y := ⟨l2, some ⟨g2, 0, none⟩, q.length, k2⟩) HL2.out (x := ⟨0, none, 0, 0⟩) HA2.out)
          have HA1' := hidD (HA1.out.S2 (b := b12) NE.out ⟨l2, some ⟨g2, 0, none⟩, q.length, k2⟩)
          have HA2' := hidD (HA2.out.set2 (x := ⟨0, none, 0, 0⟩) ⟨l2, some ⟨g2, 0, none⟩, q.length, k2⟩)
          obtain ⟨v6, hvn⟩ : ∃ u, u = S2 v5 b12 ⟨l2, some ⟨g2, 0, none⟩, q.length, k2⟩ := ⟨_, rfl⟩
          rw [← hvn] at hS HL1' HL2' HA2' HA1' ⊢
          clear hvn
          refine hK.out _ _ hS (fun hHeld => ?_)
          clear hK K
          try simp only [Act.put, List.setIfInBounds_toArray, List.set_cons_zero, List.set_cons_succ]
          have HL1 := HL1'
          have HL2 := HL2'
          have HA2 := HA2'
          have HA1 := HA1'
          have HS := hidD hS
          clear hS
          refine wpAnyH_done (by kernel_rfl) ?_ _
          go_wp2_with fail
          go_meet
          exact ⟨b11, b12, g1, k1, g2, k2, rfl, rfl, HT.out.bel HS.out, HA1.out, HA2.out, HL1.out, HL2.out, below_aft HB.out HS.out⟩
      · go_simp
        go_wp2_with fail
        obtain ⟨b12, hb12⟩ : ∃ b, b = (v1).heap.size := ⟨_, rfl⟩
        rw [← hb12]
        obtain ⟨v2, hvn⟩ : ∃ u, u = (v1).alloc (plO 0 none 0 0) := ⟨_, rfl⟩
        show K _ ((v1).alloc (plO 0 none 0 0))
        rw [← hvn]
        have hbn : Below (v1).heap.size (v1) v2 := by rw [hvn]; exact belA (Below.refl _ _)
        have hS : Below w1.heap.size w1 v2 := below_aft HS.out hbn
        refine hK.out _ _ hS (fun hHeld => ?_)
        clear hK K
        try simp only [Act.put, List.setIfInBounds_toArray, List.set_cons_zero, List.set_cons_succ]
        have NE : Hid (b11 ≠ b12) := (by have := HA1.out.lt; omega : b11 ≠ b12)
        have HA1 := hidD (HA1.out.below hbn)
        have HA2 : Hid (At v2 b12 (plO 0 none 0 0)) := (by rw [hvn, hb12]; exact At.new _ _ : At v2 b12 (plO 0 none 0 0))
        have HLO2 : Hid (w1.heap.size ≤ b12) := (by have := (show Below w1.heap.size w1 (v1) from HS.out).size; omega : w1.heap.size ≤ b12)
        have HS := hidD hS
        clear hbn hS hvn hb12
        refine wpAnyH_ready (rs := [1]) (by kernel_rfl) (by simp) ?_
        refine AllReadyH.cons rfl (fun K hK => ?_) AllReadyH.nil
        go_simp
        refine (D1.out _ (HT.out.bel HS.out) (below_aft HB.out HS.out)).mono ?_
        rintro e v3 ⟨g1, k1, rfl, hl, hbn⟩
        go_wp2_with fail
        have hS : Below w1.heap.size w1 v3 := below_aft HS.out hbn
        refine hK.out _ _ hS (fun hHeld => ?_)
        clear hK K
        try simp only [Act.put, List.setIfInBounds_toArray, List.set_cons_zero, List.set_cons_succ]
        have HA1 := hidD (HA1.out.below hbn)
        have HA2 := hidD (HA2.out.below hbn)
        have HL1 := hidD hl
        have HS := hidD hS
        clear hl hbn hS
        refine wpAnyH_ready (rs := [3]) (by kernel_rfl) (by simp) ?_
        refine AllReadyH.cons rfl (fun K hK => ?_) AllReadyH.nil
        go_simp
        refine (D2.out _ (HT.out.bel HS.out) (below_aft HB.out HS.out)).mono ?_
        rintro e v4 ⟨g2, k2, rfl, hl, hbn⟩
        go_wp2_with fail
        have hS : Below w1.heap.size w1 v4 := below_aft HS.out hbn
        refine hK.out _ _ hS (fun hHeld => ?_)
        clear hK K
        try simp only [Act.put, List.setIfInBounds_toArray, List.set_cons_zero, List.set_cons_succ]
        have HL1 := hidD (HL1.out.bel hbn)
        have HA1 := hidD (HA1.out.below hbn)
        have HA2 := hidD (HA2.out.below hbn)
        have HL2 := hidD hl
        have HS := hidD hS
        clear hl hbn hS
        refine wpAnyH_ready (rs := [6]) (by kernel_rfl) (by simp) ?_
        refine AllReadyH.cons rfl (fun K hK => ?_) AllReadyH.nil
        refine wp_storeP26 b11 ⟨0, none, 0, 0⟩ ⟨l, some ⟨g1, 0, none⟩, p.length, k1⟩ rfl rfl HA1.out rfl rfl ?_
        have hS : Below w1.heap.size w1 (S2 v4 b11 ⟨l, some ⟨g1, 0, none⟩, p.length, k1⟩) := S2_low HS.out HLO1.out
        have HL1' := hidD (Lnt.S2 (y := ⟨l, some ⟨g1, 0, none⟩, p.length, k1⟩) HL1.out (x := ⟨0, none, 0, 0⟩) HA1.out)
        have HL2' := hidD (Lnt.S2 (y := ⟨l, some ⟨g1, 0, none⟩, p.length, k1⟩) HL2.out (x := ⟨0, none, 0, 0⟩) HA1.out)
        have HA2' := hidD (HA2.out.S2 (b := b11) (fun e => NE.out e.symm) ⟨l, some ⟨g1, 0, none⟩, p.length, k1⟩)
        have HA1' := hidD (HA1.out.set2 (x := ⟨0, none, 0, 0⟩) ⟨l, some ⟨g1, 0, none⟩, p.length, k1⟩)
        obtain ⟨v5, hvn⟩ : ∃ u, u = S2 v4 b11 ⟨l, some ⟨g1, 0, none⟩, p.length, k1⟩ := ⟨_, rfl⟩
        rw [← hvn] at hS HL1' HL2' HA1' HA2' ⊢
        clear hvn
        refine hK.out _ _ hS (fun hHeld => ?_)
        clear hK K
        try simp only [Act.put, List.setIfInBounds_toArray, List.set_cons_zero, List.set_cons_succ]
        have HL1 := HL1'
        have HL2 := HL2'
        have HA1 := HA1'
        have HA2 := HA2'
        have HS := hidD hS
        clear hS
        refine wpAnyH_ready (rs := [7]) (by kernel_rfl) (by simp) ?_
        refine AllReadyH.cons rfl (fun K hK => ?_) AllReadyH.nil
        refine wp_storeP26 b12 ⟨0, none, 0, 0⟩ ⟨l2, some ⟨g2, 0, none⟩, q.length, k2⟩ rfl rfl HA2.out rfl rfl ?_
        have hS : Below w1.heap.size w1 (S2 v5 b12 ⟨l2, some ⟨g2, 0, none⟩, q.length, k2⟩) := S2_low HS.out HLO2.out
        have HL1' := hidD (Lnt.S2 (y := ⟨l2, some ⟨g2, 0, none⟩, q.length, k2⟩) HL1.out (x := ⟨0, none, 0, 0⟩) HA2.out)
        have HL2' := hidD (Lnt.S2 (y := ⟨l2, some ⟨g2, 0, none⟩, q.length, k2⟩) HL2.out (x := ⟨0, none, 0, 0⟩) HA2.out)
        have HA1' := hidD (HA1.out.S2 (b := b12) NE.out ⟨l2, some ⟨g2, 0, none⟩, q.length, k2⟩)
        have HA2' := hidD (HA2.out.set2 (x := ⟨0, none, 0, 0⟩) ⟨l2, some ⟨g2, 0, none⟩, q.length, k2⟩)
        obtain ⟨v6, hvn⟩ : ∃ u, u = S2 v5 b12 ⟨l2, some ⟨g2, 0, none⟩, q.length, k2⟩ := ⟨_, rfl⟩
        rw [← hvn] at hS HL1' HL2' HA2' HA1' ⊢
        clear hvn
        refine hK.out _ _ hS (fun hHeld => ?_)
        clear hK K
        try simp only [Act.put, List.setIfInBounds_toArray, List.set_cons_zero, List.set_cons_succ]
        have HL1 := HL1'
        have HL2 := HL2'
        have HA2 := HA2'
        have HA1 := HA1'
        have HS := hidD hS
        clear hS
        refine wpAnyH_done (by kernel_rfl) ?_ _
        go_wp2_with fail
        go_meet
        exact ⟨b11, b12, g1, k1, g2, k2, rfl, rfl, HT.out.bel HS.out, HA1.out, HA2.out, HL1.out, HL2.out, below_aft HB.out HS.out⟩
    · go_simp
      go_wp2_with fail
      obtain ⟨b12, hb12⟩ : ∃ b, b = (w1.drew).heap.size := ⟨_, rfl⟩
      have hb12' : b12 = w1.heap.size := hb12
      rw [← hb12']
      obtain ⟨v1, hvn⟩ : ∃ u, u = (w1.drew).alloc (plO 0 none 0 0) := ⟨_, rfl⟩
      show K _ ((w1.drew).alloc (plO 0 none 0 0))
      rw [← hvn]
      have hbn : Below (w1.drew).heap.size (w1.drew) v1 := by rw [hvn]; exact belA (Below.refl _ _)
      have hS : Below w1.heap.size w1 v1 := below_aft (belN (Below.refl _ _) 1) hbn
      refine hK.out _ _ hS (fun hHeld => ?_)
      clear hK K
      try simp only [Act.put, List.setIfInBounds_toArray, List.set_cons_zero, List.set_cons_succ]
      have HA2 : Hid (At v1 b12 (plO 0 none 0 0)) := (by rw [hvn, hb12]; exact At.new _ _ : At v1 b12 (plO 0 none 0 0))
      have HLO2 : Hid (w1.heap.size ≤ b12) := (by have := (show Below w1.heap.size w1 (w1.drew) from (belN (Below.refl _ _) 1)).size; omega : w1.heap.size ≤ b12)
      have HS := hidD hS
      clear hbn hS hvn hb12 hb12'
      refine wpAnyH_ready (rs := [1, 4]) (by kernel_rfl) (by simp) ?_
      refine AllReadyH.cons rfl (fun K hK => ?_) (AllReadyH.cons rfl (fun K hK => ?_) AllReadyH.nil)
      · go_simp
        refine (D1.out _ (HT.out.bel HS.out) (below_aft HB.out HS.out)).mono ?_
        rintro e v2 ⟨g1, k1, rfl, hl, hbn⟩
        go_wp2_with fail
        have hS : Below w1.heap.size w1 v2 := below_aft HS.out hbn
        refine hK.out _ _ hS (fun hHeld => ?_)
        clear hK K
        try simp only [Act.put, List.setIfInBounds_toArray, List.set_cons_zero, List.set_cons_succ]
        have HA2 := hidD (HA2.out.below hbn)
        have HL1 := hidD hl
        have HS := hidD hS
        clear hl hbn hS
        refine wpAnyH_ready (rs := [3, 4]) (by kernel_rfl) (by simp) ?_
        refine AllReadyH.cons rfl (fun K hK => ?_) (AllReadyH.cons rfl (fun K hK => ?_) AllReadyH.nil)
        · go_simp
          refine (D2.out _ (HT.out.bel HS.out) (below_aft HB.out HS.out)).mono ?_
          rintro e v3 ⟨g2, k2, rfl, hl, hbn⟩
          go_wp2_with fail
          have hS : Below w1.heap.size w1 v3 := below_aft HS.out hbn
          refine hK.out _ _ hS (fun hHeld => ?_)
          clear hK K
          try simp only [Act.put, List.setIfInBounds_toArray, List.set_cons_zero, List.set_cons_succ]
          have HL1 := hidD (HL1.out.bel hbn)
          have HA2 := hidD (HA2.out.below hbn)
          have HL2 := hidD hl
          have HS := hidD hS
          clear hl hbn hS
          refine wpAnyH_ready (rs := [4]) (by kernel_rfl) (by simp) ?_
          refine AllReadyH.cons rfl (fun K hK => ?_) AllReadyH.nil
          go_simp
          go_wp2_with fail
          obtain ⟨b11, hb11⟩ : ∃ b, b = (v3).heap.size := ⟨_, rfl⟩
          rw [← hb11]
          obtain ⟨v4, hvn⟩ : ∃ u, u = (v3).alloc (plO 0 none 0 0) := ⟨_, rfl⟩
          show K _ ((v3).alloc (plO 0 none 0 0))
          rw [← hvn]
          have hbn : Below (v3).heap.size (v3) v4 := by rw [hvn]; exact belA (Below.refl _ _)
          have hS : Below w1.heap.size w1 v4 := below_aft HS.out hbn
          refine hK.out _ _ hS (fun hHeld => ?_)
          clear hK K
          try simp only [Act.put, List.setIfInBounds_toArray, List.set_cons_zero, List.set_cons_succ]
          have NE : Hid (b11 ≠ b12) := (by have := HA2.out.lt; omega : b11 ≠ b12)
          have HL1 := hidD (HL1.out.bel hbn)
          have HL2 := hidD (HL2.out.bel hbn)
          have HA2 := hidD (HA2.out.below hbn)
          have HA1 : Hid (At v4 b11 (plO 0 none 0 0)) := (by rw [hvn, hb11]; exact At.new _ _ : At v4 b11 (plO 0 none 0 0))
          have HLO1 : Hid (w1.heap.size ≤ b11) := (by have := (show Below w1.heap.size w1 (v3) from HS.out).size; omega : w1.heap.size ≤ b11)
          have HS := hidD hS
          clear hbn hS hvn hb11
          refine wpAnyH_ready (rs := [6]) (by kernel_rfl) (by simp) ?_
          refine AllReadyH.cons rfl (fun K hK => ?_) AllReadyH.nil
          refine wp_storeP26 b11 ⟨0, none, 0, 0⟩ ⟨l, some ⟨g1, 0, none⟩, p.length, k1⟩ rfl rfl HA1.out rfl rfl ?_
          have hS : Below w1.heap.size w1 (S2 v4 b11 ⟨l, some ⟨g1, 0, none⟩, p.length, k1⟩) := S2_low HS.out HLO1.out
          have HL1' := hidD (Lnt.S2 (y := ⟨l, some ⟨g1, 0, none⟩, p.length, k1⟩) HL1.out (x := ⟨0, none, 0, 0⟩) HA1.out)
          have HL2' := hidD (Lnt.S2 (y := ⟨l, some ⟨g1, 0, none⟩, p.length, k1⟩) HL2.out (x := ⟨0, none, 0, 0⟩) HA1.out)
          have HA2' := hidD (HA2.out.S2 (b := b11) (fun e => NE.out e.symm) ⟨l, some ⟨g1, 0, none⟩, p.length, k1⟩)
          have HA1' := hidD (HA1.out.set2 (x := ⟨0, none, 0, 0⟩) ⟨l, some ⟨g1, 0, none⟩, p.length, k1⟩)
          obtain ⟨v5, hvn⟩ : ∃ u, u = S2 v4 b11 ⟨l, some ⟨g1, 0, none⟩, p.length, k1⟩ := ⟨_, rfl⟩
          rw [← hvn] at hS HL1' HL2' HA1' HA2' ⊢
          clear hvn
          refine hK.out _ _ hS (fun hHeld => ?_)
          clear hK K
          try simp only [Act.put, List.setIfInBounds_toArray, List.set_cons_zero, List.set_cons_succ]
          have HL1 := HL1'
          have HL2 := HL2'
          have HA1 := HA1'
          have HA2 := HA2'
          have HS := hidD hS
          clear hS
          refine wpAnyH_ready (rs := [7]) (by kernel_rfl) (by simp) ?_
          refine AllReadyH.cons rfl (fun K hK => ?_) AllReadyH.nil
          refine wp_storeP26 b12 ⟨0, none, 0, 0⟩ ⟨l2, some ⟨g2, 0, none⟩, q.length, k2⟩ rfl rfl HA2.out rfl rfl ?_
          have hS : Below w1.heap.size w1 (S2 v5 b12 ⟨l2, some ⟨g2, 0, none⟩, q.length, k2⟩) := S2_low HS.out HLO2.out
          have HL1' := hidD (Lnt.S2 (y := ⟨l2, some ⟨g2, 0, none⟩, q.length, k2⟩) HL1.out (x := ⟨0, none, 0, 0⟩) HA2.out)
          have HL2' := hidD (Lnt.S2 (y := ⟨l2, some ⟨g2, 0, none⟩, q.length, k2⟩) HL2.out (x := ⟨0, none, 0, 0⟩) HA2.out)
          have HA1' := hidD (HA1.out.S2 (b := b12) NE.out ⟨l2, some ⟨g2, 0, none⟩, q.length, k2⟩)
          have HA2' := hidD (HA2.out.set2 (x := ⟨0, none, 0, 0⟩) ⟨l2, some ⟨g2, 0, none⟩, q.length, k2⟩)
          obtain ⟨v6, hvn⟩ : ∃ u, u = S2 v5 b12 ⟨l2, some ⟨g2, 0, none⟩, q.length, k2⟩ := ⟨_, rfl⟩
          rw [← hvn] at hS HL1' HL2' HA2' HA1' ⊢
          clear hvn
          refine hK.out _ _ hS (fun hHeld => ?_)
          clear hK K
          try simp only [Act.put, List.setIfInBounds_toArray, List.set_cons_zero, List.set_cons_succ]
          have HL1 := HL1'
          have HL2 := HL2'
          have HA2 := HA2'
          have HA1 := HA1'
          have HS := hidD hS
          clear hS
          refine wpAnyH_done (by kernel_rfl) ?_ _
          go_wp2_with fail
          go_meet
          exact ⟨b11, b12, g1, k1, g2, k2, rfl, rfl, HT.out.bel HS.out, HA1.out, HA2.out, HL1.out, HL2.out, below_aft HB.out HS.out⟩
        · go_simp
          go_wp2_with fail
          obtain ⟨b11, hb11⟩ : ∃ b, b = (v2).heap.size := ⟨_, rfl⟩
          rw [← hb11]
          obtain ⟨v3, hvn⟩ : ∃ u, u = (v2).alloc (plO 0 none 0 0) := ⟨_, rfl⟩
          show K _ ((v2).alloc (plO 0 none 0 0))
          rw [← hvn]
          have hbn : Below (v2).heap.size (v2) v3 := by rw [hvn]; exact belA (Below.refl _ _)
          have hS : Below w1.heap.size w1 v3 := below_aft HS.out hbn
          refine hK.out _ _ hS (fun hHeld => ?_)
          clear hK K
          try simp only [Act.put, List.setIfInBounds_toArray, List.set_cons_zero, List.set_cons_succ]
          have NE : Hid (b11 ≠ b12) := (by have := HA2.out.lt; omega : b11 ≠ b12)
          have HL1 := hidD (HL1.out.bel hbn)
          have HA2 := hidD (HA2.out.below hbn)
          have HA1 : Hid (At v3 b11 (plO 0 none 0 0)) := (by rw [hvn, hb11]; exact At.new _ _ : At v3 b11 (plO 0 none 0 0))
          have HLO1 : Hid (w1.heap.size ≤ b11) := (by have := (show Below w1.heap.size w1 (v2) from HS.out).size; omega : w1.heap.size ≤ b11)
          have HS := hidD hS
          clear hbn hS hvn hb11
          refine wpAnyH_ready (rs := [3]) (by kernel_rfl) (by simp) ?_
          refine AllReadyH.cons rfl (fun K hK => ?_) AllReadyH.nil
          go_simp
          refine (D2.out _ (HT.out.bel HS.out) (below_aft HB.out HS.out)).mono ?_
          rintro e v4 ⟨g2, k2, rfl, hl, hbn⟩
          go_wp2_with fail
          have hS : Below w1.heap.size w1 v4 := below_aft HS.out hbn
          refine hK.out _ _ hS (fun hHeld => ?_)
          clear hK K
          try simp only [Act.put, List.setIfInBounds_toArray, List.set_cons_zero, List.set_cons_succ]
          have HL1 := hidD (HL1.out.bel hbn)
          have HA1 := hidD (HA1.out.below hbn)
          have HA2 := hidD (HA2.out.below hbn)
          have HL2 := hidD hl
          have HS := hidD hS
          clear hl hbn hS
          refine wpAnyH_ready (rs := [6]) (by kernel_rfl) (by simp) ?_
          refine AllReadyH.cons rfl (fun K hK => ?_) AllReadyH.nil
          refine wp_storeP26 b11 ⟨0, none, 0, 0⟩ ⟨l, some ⟨g1, 0, none⟩, p.length, k1⟩ rfl rfl HA1.out rfl rfl ?_
          have hS : Below w1.heap.size w1 (S2 v4 b11 ⟨l, some ⟨g1, 0, none⟩, p.length, k1⟩) := S2_low HS.out HLO1.out
          have HL1' := hidD (Lnt.S2 (y := ⟨l, some ⟨g1, 0, none⟩, p.length, k1⟩) HL1.out (x := ⟨0, none, 0, 0⟩) HA1.out)
          have HL2' := hidD (Lnt.S2 (y := ⟨l, some ⟨g1, 0, none⟩, p.length, k1⟩) HL2.out (x := ⟨0, none, 0, 0⟩) HA1.out)
          have HA2' := hidD (HA2.out.S2 (b := b11) (fun e => NE.out e.symm) ⟨l, some ⟨g1, 0, none⟩, p.length, k1⟩)
          have HA1' := hidD (HA1.out.set2 (x := ⟨0, none, 0, 0⟩) ⟨l, some ⟨g1, 0, none⟩, p.length, k1⟩)
          obtain ⟨v5, hvn⟩ : ∃ u, u = S2 v4 b11 ⟨l, some ⟨g1, 0, none⟩, p.length, k1⟩ := ⟨_, rfl⟩
          rw [← hvn] at hS HL1' HL2' HA1' HA2' ⊢
          clear hvn
          refine hK.out _ _ hS (fun hHeld => ?_)
          clear hK K
          try simp only [Act.put, List.setIfInBounds_toArray, List.set_cons_zero, List.set_cons_succ]
          have HL1 := HL1'
          have HL2 := HL2'
          have HA1 := HA1'
          have HA2 := HA2'
          have HS := hidD hS
          clear hS
          refine wpAnyH_ready (rs := [7]) (by kernel_rfl) (by simp) ?_
          refine AllReadyH.cons rfl (fun K hK => ?_) AllReadyH.nil
          refine wp_storeP26 b12 ⟨0, none, 0, 0⟩ ⟨l2, some ⟨g2, 0, none⟩, q.length, k2⟩ rfl rfl HA2.out rfl rfl ?_
          have hS : Below w1.heap.size w1 (S2 v5 b12 ⟨l2, some ⟨g2, 0, none⟩, q.length, k2⟩) := S2_low HS.out HLO2.out
          have HL1' := hidD (Lnt.S2 (y := ⟨l2, some ⟨g2, 0, none⟩, q.length, k2⟩) HL1.out (x := ⟨0, none, 0, 0⟩) HA2.out)
          have HL2' := hidD (Lnt.S2 (y := ⟨l2, some ⟨g2, 0, none⟩, q.length, k2⟩) HL2.out (x := ⟨0, none, 0, 0⟩) HA2.out)
          have HA1' := hidD (HA1.out.S2 (b := b12) NE.out ⟨l2, some ⟨g2, 0, none⟩, q.length, k2⟩)
          have HA2' := hidD (HA2.out.set2 (x := ⟨0, none, 0, 0⟩) ⟨l2, some ⟨g2, 0, none⟩, q.length, k2⟩)
          obtain ⟨v6, hvn⟩ : ∃ u, u = S2 v5 b12 ⟨l2, some ⟨g2, 0, none⟩, q.length, k2⟩ := ⟨_, rfl⟩
          rw [← hvn] at hS HL1' HL2' HA2' HA1' ⊢
          clear hvn
          refine hK.out _ _ hS (fun hHeld => ?_)
          clear hK K
          try simp only [Act.put, List.setIfInBounds_toArray, List.set_cons_zero, List.set_cons_succ]
          have HL1 := HL1'
          have HL2 := HL2'
          have HA2 := HA2'
          have HA1 := HA1'
          have HS := hidD hS
          clear hS
          refine wpAnyH_done (by kernel_rfl) ?_ _
          go_wp2_with fail
          go_meet
          exact ⟨b11, b12, g1, k1, g2, k2, rfl, rfl, HT.out.bel HS.out, HA1.out, HA2.out, HL1.out, HL2.out, below_aft HB.out HS.out⟩
      · go_simp
        go_wp2_with fail
        obtain ⟨b11, hb11⟩ : ∃ b, b = (v1).heap.size := ⟨_, rfl⟩
        rw [← hb11]
        obtain ⟨v2, hvn⟩ : ∃ u, u = (v1).alloc (plO 0 none 0 0) := ⟨_, rfl⟩
        show K _ ((v1).alloc (plO 0 none 0 0))
        rw [← hvn]
        have hbn : Below (v1).heap.size (v1) v2 := by rw [hvn]; exact belA (Below.refl _ _)
        have hS : Below w1.heap.size w1 v2 := below_aft HS.out hbn
        refine hK.out _ _ hS (fun hHeld => ?_)
        clear hK K
        try simp only [Act.put, List.setIfInBounds_toArray, List.set_cons_zero, List.set_cons_succ]
        have NE : Hid (b11 ≠ b12) := (by have := HA2.out.lt; omega : b11 ≠ b12)
        have HA2 := hidD (HA2.out.below hbn)
        have HA1 : Hid (At v2 b11 (plO 0 none 0 0)) := (by rw [hvn, hb11]; exact At.new _ _ : At v2 b11 (plO 0 none 0 0))
        have HLO1 : Hid (w1.heap.size ≤ b11) := (by have := (show Below w1.heap.size w1 (v1) from HS.out).size; omega : w1.heap.size ≤ b11)
        have HS := hidD hS
        clear hbn hS hvn hb11
        refine wpAnyH_ready (rs := [1]) (by kernel_rfl) (by simp) ?_
        refine AllReadyH.cons rfl (fun K hK => ?_) AllReadyH.nil
        go_simp
        refine (D1.out _ (HT.out.bel HS.out) (below_aft HB.out HS.out)).mono ?_
        rintro e v3 ⟨g1, k1, rfl, hl, hbn⟩
        go_wp2_with fail
        have hS : Below w1.heap.size w1 v3 := below_aft HS.out hbn
        refine hK.out _ _ hS (fun hHeld => ?_)
        clear hK K
        try simp only [Act.put, List.setIfInBounds_toArray, List.set_cons_zero, List.set_cons_succ]
        have HA1 := hidD (HA1.out.below hbn)
        have HA2 := hidD (HA2.out.below hbn)
        have HL1 := hidD hl
        have HS := hidD hS
        clear hl hbn hS
        refine wpAnyH_ready (rs := [3]) (by kernel_rfl) (by simp) ?_
        refine AllReadyH.cons rfl (fun K hK => ?_) AllReadyH.nil
        go_simp
        refine (D2.out _ (HT.out.bel HS.out) (below_aft HB.out HS.out)).mono ?_
        rintro e v4 ⟨g2, k2, rfl, hl, hbn⟩
        go_wp2_with fail
        have hS : Below w1.heap.size w1 v4 := below_aft HS.out hbn
        refine hK.out _ _ hS (fun hHeld => ?_)
        clear hK K
        try simp only [Act.put, List.setIfInBounds_toArray, List.set_cons_zero, List.set_cons_succ]
        have HL1 := hidD (HL1.out.bel hbn)
        have HA1 := hidD (HA1.out.below hbn)
        have HA2 := hidD (HA2.out.below hbn)
        have HL2 := hidD hl
        have HS := hidD hS
        clear hl hbn hS
        refine wpAnyH_ready (rs := [6]) (by kernel_rfl) (by simp) ?_
        refine AllReadyH.cons rfl (fun K hK => ?_) AllReadyH.nil
        refine wp_storeP26 b11 ⟨0, none, 0, 0⟩ ⟨l, some ⟨g1, 0, none⟩, p.length, k1⟩ rfl rfl HA1.out rfl rfl ?_
        have hS : Below w1.heap.size w1 (S2 v4 b11 ⟨l, some ⟨g1, 0, none⟩, p.length, k1⟩) := S2_low HS.out HLO1.out
        have HL1' := hidD (Lnt.S2 (y := ⟨l, some ⟨g1, 0, none⟩, p.length, k1⟩) HL1.out (x := ⟨0, none, 0, 0⟩) HA1.out)
        have HL2' := hidD (Lnt.S2 (y := ⟨l, some ⟨g1, 0, none⟩, p.length, k1⟩) HL2.out (x := ⟨0, none, 0, 0⟩) HA1.out)
        have HA2' := hidD (HA2.out.S2 (b := b11) (fun e => NE.out e.symm) ⟨l, some ⟨g1, 0, none⟩, p.length, k1⟩)
        have HA1' := hidD (HA1.out.set2 (x := ⟨0, none, 0, 0⟩) ⟨l, some ⟨g1, 0, none⟩, p.length, k1⟩)
        obtain ⟨v5, hvn⟩ : ∃ u, u = S2 v4 b11 ⟨l, some ⟨g1, 0, none⟩, p.length, k1⟩ := ⟨_, rfl⟩
        rw [← hvn] at hS HL1' HL2' HA1' HA2' ⊢
        clear hvn
        refine hK.out _ _ hS (fun hHeld => ?_)
        clear hK K
        try simp only [Act.put, List.setIfInBounds_toArray, List.set_cons_zero, List.set_cons_succ]
        have HL1 := HL1'
        have HL2 := HL2'
        have HA1 := HA1'
        have HA2 := HA2'
        have HS := hidD hS
        clear hS
        refine wpAnyH_ready (rs := [7]) (by kernel_rfl) (by simp) ?_
        refine AllReadyH.cons rfl (fun K hK => ?_) AllReadyH.nil
        refine wp_storeP26 b12 ⟨0, none, 0, 0⟩ ⟨l2, some ⟨g2, 0, none⟩, q.length, k2⟩ rfl rfl HA2.out rfl rfl ?_
        have hS : Below w1.heap.size w1 (S2 v5 b12 ⟨l2, some ⟨g2, 0, none⟩, q.length, k2⟩) := S2_low HS.out HLO2.out
        have HL1' := hidD (Lnt.S2 (y := ⟨l2, some ⟨g2, 0, none⟩, q.length, k2⟩) HL1.out (x := ⟨0, none, 0, 0⟩) HA2.out)
        have HL2' := hidD (Lnt.S2 (y := ⟨l2, some ⟨g2, 0, none⟩, q.length, k2⟩) HL2.out (x := ⟨0, none, 0, 0⟩) HA2.out)
        have HA1' := hidD (HA1.out.S2 (b := b12) NE.out ⟨l2, some ⟨g2, 0, none⟩, q.length, k2⟩)
        have HA2' := hidD (HA2.out.set2 (x := ⟨0, none, 0, 0⟩) ⟨l2, some ⟨g2, 0, none⟩, q.length, k2⟩)
        obtain ⟨v6, hvn⟩ : ∃ u, u = S2 v5 b12 ⟨l2, some ⟨g2, 0, none⟩, q.length, k2⟩ := ⟨_, rfl⟩
        rw [← hvn] at hS HL1' HL2' HA2' HA1' ⊢
        clear hvn
        refine hK.out _ _ hS (fun hHeld => ?_)
        clear hK K
        try simp only [Act.put, List.setIfInBounds_toArray, List.set_cons_zero, List.set_cons_succ]
        have HL1 := HL1'
        have HL2 := HL2'
        have HA2 := HA2'
        have HA1 := HA1'
        have HS := hidD hS
        clear hS
        refine wpAnyH_done (by kernel_rfl) ?_ _
        go_wp2_with fail
        go_meet
        exact ⟨b11, b12, g1, k1, g2, k2, rfl, rfl, HT.out.bel HS.out, HA1.out, HA2.out, HL1.out, HL2.out, below_aft HB.out HS.out⟩
  case rest =>
  obtain ⟨b1, b2, g1, k1, g2, k2, rfl, rfl, hL⟩ := hcut
  have H := hidD hL
  clear hL D1 D2 a0 a1 c0 c1 HT HB
  go_upto_region 4 with fail
  go_cut [64] (fun v V => v = .bool false ∧ L2 w V b1 b2 g1 k1 g2 k2 ⟨l, pa, m, pcap⟩ ⟨l2, qa, m2, qcap⟩ p q)
  case first =>
    clear AW CPX CW CSA CSB C21 D19 CSR C33 C34 HM
    refine beginH (S := fun V => Below wc.heap.size wc V) (fun _ _ _ _ _ h => h) (by kernel_rfl) (belN (Below.refl _ _) 1) (fun hq hHeld => ?_)
    refine takeH (i := 0) (d := 33) (plV l (some ⟨g1, 0, none⟩) p.length k1) hq rfl rfl (by kernel_rfl) (by kernel_rfl) (by kernel_rfl) (by rfl) (fun W hSw => by (obtain ⟨⟨y0, y1, y2, y3⟩, z0, z1, z2, z3⟩ := (H.out.bel hSw).cells; go_simp; try rfl)) hHeld ?_
    try simp only [Act.put, List.setIfInBounds_toArray, List.set_cons_zero, List.set_cons_succ]
    refine takeH (i := 1) (d := 34) (plV l2 (some ⟨g2, 0, none⟩) q.length k2) hq rfl rfl (by kernel_rfl) (by kernel_rfl) (by kernel_rfl) (by rfl) (fun W hSw => by (obtain ⟨⟨y0, y1, y2, y3⟩, z0, z1, z2, z3⟩ := (H.out.bel hSw).cells; go_simp; try rfl)) hHeld ?_
    try simp only [Act.put, List.setIfInBounds_toArray, List.set_cons_zero, List.set_cons_succ]
    refine takeH (i := 3) (d := 36) (plV l pa m pcap) hq rfl rfl (by kernel_rfl) (by kernel_rfl) (by kernel_rfl) (by rfl) (fun W hSw => by (obtain ⟨⟨y0, y1, y2, y3⟩, z0, z1, z2, z3⟩ := (H.out.bel hSw).cells; go_simp; try rfl)) hHeld ?_
    try simp only [Act.put, List.setIfInBounds_toArray, List.set_cons_zero, List.set_cons_succ]
    refine takeH (i := 4) (d := 37) (plV l2 qa m2 qcap) hq rfl rfl (by kernel_rfl) (by kernel_rfl) (by kernel_rfl) (by rfl) (fun W hSw => by (obtain ⟨⟨y0, y1, y2, y3⟩, z0, z1, z2, z3⟩ := (H.out.bel hSw).cells; go_simp; try rfl)) hHeld ?_
    try simp only [Act.put, List.setIfInBounds_toArray, List.set_cons_zero, List.set_cons_succ]
    refine wpAnyH_ready (rs := [2]) (by kernel_rfl) (by simp) ?_
    refine AllReadyH.cons rfl (fun K hK => ?_) AllReadyH.nil
    go_simp
    refine (C24.out _ b1 b2 g1 k1 g2 k2 (H.out.bel (belN (Below.refl _ _) 1))).mono ?_
    rintro e v1 ⟨rfl, hb1⟩
    have hS1 : Below wc.heap.size wc v1 := below_aft (belN (Below.refl _ _) 1) hb1
    go_wp2_with fail
    refine hK.out _ _ hS1 (fun hHeld => ?_)
    clear hK K
    try simp only [Act.put, List.setIfInBounds_toArray, List.set_cons_zero, List.set_cons_succ]
    have HS1 := hidD hS1
    clear hb1 hS1
    refine wpAnyH_ready (rs := [5]) (by kernel_rfl) (by simp) ?_
    refine AllReadyH.cons rfl (fun K hK => ?_) AllReadyH.nil
    go_simp
    refine (C25.out _ b1 b2 g1 k1 g2 k2 (H.out.bel HS1.out)).mono ?_
    rintro e v2 ⟨rfl, hb2⟩
    have hS2 : Below wc.heap.size wc v2 := below_aft HS1.out hb2
    go_wp2_with fail
    refine hK.out _ _ hS2 (fun hHeld => ?_)
    clear hK K
    try simp only [Act.put, List.setIfInBounds_toArray, List.set_cons_zero, List.set_cons_succ]
    have HS2 := hidD hS2
    clear hb2 hS2
    refine takeH (i := 6) (d := 39) (.bool false) hq rfl rfl (by kernel_rfl) (by kernel_rfl) (by kernel_rfl) (by rfl) (fun W hSw => by (go_simp; try first | rfl | (rw [IntKind.wrap_i64]; omega) | (intro hh; exfalso; omega))) hHeld ?_
    try simp only [Act.put, List.setIfInBounds_toArray, List.set_cons_zero, List.set_cons_succ]
    refine takeH (i := 7) (d := 40) (.bool false) hq rfl rfl (by kernel_rfl) (by kernel_rfl) (by kernel_rfl) (by rfl) (fun W hSw => by (go_simp; try first | rfl | (rw [IntKind.wrap_i64]; omega) | (intro hh; exfalso; omega))) hHeld ?_
    try simp only [Act.put, List.setIfInBounds_toArray, List.set_cons_zero, List.set_cons_succ]
    refine takeH (i := 8) (d := 41) (plV l (some ⟨g1, 0, none⟩) p.length k1) hq rfl rfl (by kernel_rfl) (by kernel_rfl) (by kernel_rfl) (by rfl) (fun W hSw => by (obtain ⟨⟨y0, y1, y2, y3⟩, z0, z1, z2, z3⟩ := (H.out.bel hSw).cells; go_simp; try rfl)) hHeld ?_
    try simp only [Act.put, List.setIfInBounds_toArray, List.set_cons_zero, List.set_cons_succ]
    refine takeH (i := 9) (d := 42) (plV l2 (some ⟨g2, 0, none⟩) q.length k2) hq rfl rfl (by kernel_rfl) (by kernel_rfl) (by kernel_rfl) (by rfl) (fun W hSw => by (obtain ⟨⟨y0, y1, y2, y3⟩, z0, z1, z2, z3⟩ := (H.out.bel hSw).cells; go_simp; try rfl)) hHeld ?_
    try simp only [Act.put, List.setIfInBounds_toArray, List.set_cons_zero, List.set_cons_succ]
    refine takeH (i := 11) (d := 44) (plV l pa m pcap) hq rfl rfl (by kernel_rfl) (by kernel_rfl) (by kernel_rfl) (by rfl) (fun W hSw => by (obtain ⟨⟨y0, y1, y2, y3⟩, z0, z1, z2, z3⟩ := (H.out.bel hSw).cells; go_simp; try rfl)) hHeld ?_
    try simp only [Act.put, List.setIfInBounds_toArray, List.set_cons_zero, List.set_cons_succ]
    refine takeH (i := 12) (d := 45) (plV l2 qa m2 qcap) hq rfl rfl (by kernel_rfl) (by kernel_rfl) (by kernel_rfl) (by rfl) (fun W hSw => by (obtain ⟨⟨y0, y1, y2, y3⟩, z0, z1, z2, z3⟩ := (H.out.bel hSw).cells; go_simp; try rfl)) hHeld ?_
    try simp only [Act.put, List.setIfInBounds_toArray, List.set_cons_zero, List.set_cons_succ]
    refine wpAnyH_ready (rs := [10]) (by kernel_rfl) (by simp) ?_
    refine AllReadyH.cons rfl (fun K hK => ?_) AllReadyH.nil
    go_simp
    refine (C26.out _ b1 b2 g1 k1 g2 k2 (H.out.bel HS2.out)).mono ?_
    rintro e v3 ⟨rfl, hb3⟩
    have hS3 : Below wc.heap.size wc v3 := below_aft HS2.out hb3
    go_wp2_with fail
    refine hK.out _ _ hS3 (fun hHeld => ?_)
    clear hK K
    try simp only [Act.put, List.setIfInBounds_toArray, List.set_cons_zero, List.set_cons_succ]
    have HS3 := hidD hS3
    clear hb3 hS3
    refine wpAnyH_ready (rs := [13]) (by kernel_rfl) (by simp) ?_
    refine AllReadyH.cons rfl (fun K hK => ?_) AllReadyH.nil
    go_simp
    refine (C27.out _ b1 b2 g1 k1 g2 k2 (H.out.bel HS3.out)).mono ?_
    rintro e v4 ⟨rfl, hb4⟩
    have hS4 : Below wc.heap.size wc v4 := below_aft HS3.out hb4
    go_wp2_with fail
    refine hK.out _ _ hS4 (fun hHeld => ?_)
    clear hK K
    try simp only [Act.put, List.setIfInBounds_toArray, List.set_cons_zero, List.set_cons_succ]
    have HS4 := hidD hS4
    clear hb4 hS4
    refine takeH (i := 14) (d := 47) (.bool false) hq rfl rfl (by kernel_rfl) (by kernel_rfl) (by kernel_rfl) (by rfl) (fun W hSw => by (go_simp; try first | rfl | (rw [IntKind.wrap_i64]; omega) | (intro hh; exfalso; omega))) hHeld ?_
    try simp only [Act.put, List.setIfInBounds_toArray, List.set_cons_zero, List.set_cons_succ]
    refine takeH (i := 15) (d := 48) (.bool false) hq rfl rfl (by kernel_rfl) (by kernel_rfl) (by kernel_rfl) (by rfl) (fun W hSw => by (go_simp; try first | rfl | (rw [IntKind.wrap_i64]; omega) | (intro hh; exfalso; omega))) hHeld ?_
    try simp only [Act.put, List.setIfInBounds_toArray, List.set_cons_zero, List.set_cons_succ]
    refine takeH (i := 16) (d := 49) (.bool false) hq rfl rfl (by kernel_rfl) (by kernel_rfl) (by kernel_rfl) (by rfl) (fun W hSw => by (go_simp; try first | rfl | (rw [IntKind.wrap_i64]; omega) | (intro hh; exfalso; omega))) hHeld ?_
    try simp only [Act.put, List.setIfInBounds_toArray, List.set_cons_zero, List.set_cons_succ]
    refine takeH (i := 17) (d := 50) (plV l (some ⟨g1, 0, none⟩) p.length k1) hq rfl rfl (by kernel_rfl) (by kernel_rfl) (by kernel_rfl) (by rfl) (fun W hSw => by (obtain ⟨⟨y0, y1, y2, y3⟩, z0, z1, z2, z3⟩ := (H.out.bel hSw).cells; go_simp; try rfl)) hHeld ?_
    try simp only [Act.put, List.setIfInBounds_toArray, List.set_cons_zero, List.set_cons_succ]
    refine takeH (i := 18) (d := 51) (plV l2 (some ⟨g2, 0, none⟩) q.length k2) hq rfl rfl (by kernel_rfl) (by kernel_rfl) (by kernel_rfl) (by rfl) (fun W hSw => by (obtain ⟨⟨y0, y1, y2, y3⟩, z0, z1, z2, z3⟩ := (H.out.bel hSw).cells; go_simp; try rfl)) hHeld ?_
    try simp only [Act.put, List.setIfInBounds_toArray, List.set_cons_zero, List.set_cons_succ]
    refine takeH (i := 20) (d := 53) (plV l pa m pcap) hq rfl rfl (by kernel_rfl) (by kernel_rfl) (by kernel_rfl) (by rfl) (fun W hSw => by (obtain ⟨⟨y0, y1, y2, y3⟩, z0, z1, z2, z3⟩ := (H.out.bel hSw).cells; go_simp; try rfl)) hHeld ?_
    try simp only [Act.put, List.setIfInBounds_toArray, List.set_cons_zero, List.set_cons_succ]
    refine takeH (i := 21) (d := 54) (plV l2 qa m2 qcap) hq rfl rfl (by kernel_rfl) (by kernel_rfl) (by kernel_rfl) (by rfl) (fun W hSw => by (obtain ⟨⟨y0, y1, y2, y3⟩, z0, z1, z2, z3⟩ := (H.out.bel hSw).cells; go_simp; try rfl)) hHeld ?_
    try simp only [Act.put, List.setIfInBounds_toArray, List.set_cons_zero, List.set_cons_succ]
    refine wpAnyH_ready (rs := [19]) (by kernel_rfl) (by simp) ?_
    refine AllReadyH.cons rfl (fun K hK => ?_) AllReadyH.nil
    go_simp
    refine (C28.out _ b1 b2 g1 k1 g2 k2 (H.out.bel HS4.out)).mono ?_
    rintro e v5 ⟨rfl, hb5⟩
    have hS5 : Below wc.heap.size wc v5 := below_aft HS4.out hb5
    go_wp2_with fail
    refine hK.out _ _ hS5 (fun hHeld => ?_)
    clear hK K
    try simp only [Act.put, List.setIfInBounds_toArray, List.set_cons_zero, List.set_cons_succ]
    have HS5 := hidD hS5
    clear hb5 hS5
    refine wpAnyH_ready (rs := [22]) (by kernel_rfl) (by simp) ?_
    refine AllReadyH.cons rfl (fun K hK => ?_) AllReadyH.nil
    go_simp
    refine (C18.out _ b1 b2 g1 k1 g2 k2 (H.out.bel HS5.out)).mono ?_
    rintro e v6 ⟨rfl, hb6⟩
    have hS6 : Below wc.heap.size wc v6 := below_aft HS5.out hb6
    go_wp2_with fail
    refine hK.out _ _ hS6 (fun hHeld => ?_)
    clear hK K
    try simp only [Act.put, List.setIfInBounds_toArray, List.set_cons_zero, List.set_cons_succ]
    have HS6 := hidD hS6
    clear hb6 hS6
    refine takeH (i := 23) (d := 56) (.bool false) hq rfl rfl (by kernel_rfl) (by kernel_rfl) (by kernel_rfl) (by rfl) (fun W hSw => by (go_simp; try first | rfl | (rw [IntKind.wrap_i64]; omega) | (intro hh; exfalso; omega))) hHeld ?_
    try simp only [Act.put, List.setIfInBounds_toArray, List.set_cons_zero, List.set_cons_succ]
    refine takeH (i := 24) (d := 57) (.bool false) hq rfl rfl (by kernel_rfl) (by kernel_rfl) (by kernel_rfl) (by rfl) (fun W hSw => by (go_simp; try first | rfl | (rw [IntKind.wrap_i64]; omega) | (intro hh; exfalso; omega))) hHeld ?_
    try simp only [Act.put, List.setIfInBounds_toArray, List.set_cons_zero, List.set_cons_succ]
    refine takeH (i := 25) (d := 58) (.bool false) hq rfl rfl (by kernel_rfl) (by kernel_rfl) (by kernel_rfl) (by rfl) (fun W hSw => by (go_simp; try first | rfl | (rw [IntKind.wrap_i64]; omega) | (intro hh; exfalso; omega))) hHeld ?_
    try simp only [Act.put, List.setIfInBounds_toArray, List.set_cons_zero, List.set_cons_succ]
    refine takeH (i := 26) (d := 59) (plV l (some ⟨g1, 0, none⟩) p.length k1) hq rfl rfl (by kernel_rfl) (by kernel_rfl) (by kernel_rfl) (by rfl) (fun W hSw => by (obtain ⟨⟨y0, y1, y2, y3⟩, z0, z1, z2, z3⟩ := (H.out.bel hSw).cells; go_simp; try rfl)) hHeld ?_
    try simp only [Act.put, List.setIfInBounds_toArray, List.set_cons_zero, List.set_cons_succ]
    refine takeH (i := 28) (d := 61) (plV l pa m pcap) hq rfl rfl (by kernel_rfl) (by kernel_rfl) (by kernel_rfl) (by rfl) (fun W hSw => by (obtain ⟨⟨y0, y1, y2, y3⟩, z0, z1, z2, z3⟩ := (H.out.bel hSw).cells; go_simp; try rfl)) hHeld ?_
    try simp only [Act.put, List.setIfInBounds_toArray, List.set_cons_zero, List.set_cons_succ]
    refine wpAnyH_ready (rs := [27]) (by kernel_rfl) (by simp) ?_
    refine AllReadyH.cons rfl (fun K hK => ?_) AllReadyH.nil
    go_simp
    refine (C29.out _ b1 b2 g1 k1 g2 k2 (H.out.bel HS6.out)).mono ?_
    rintro e v7 ⟨rfl, hb7⟩
    have hS7 : Below wc.heap.size wc v7 := below_aft HS6.out hb7
    go_wp2_with fail
    refine hK.out _ _ hS7 (fun hHeld => ?_)
    clear hK K
    try simp only [Act.put, List.setIfInBounds_toArray, List.set_cons_zero, List.set_cons_succ]
    have HS7 := hidD hS7
    clear hb7 hS7
    refine wpAnyH_ready (rs := [29]) (by kernel_rfl) (by simp) ?_
    refine AllReadyH.cons rfl (fun K hK => ?_) AllReadyH.nil
    go_simp
    refine (C30.out _ b1 b2 g1 k1 g2 k2 (H.out.bel HS7.out)).mono ?_
    rintro e v8 ⟨rfl, hb8⟩
    have hS8 : Below wc.heap.size wc v8 := below_aft HS7.out hb8
    go_wp2_with fail
    refine hK.out _ _ hS8 (fun hHeld => ?_)
    clear hK K
    try simp only [Act.put, List.setIfInBounds_toArray, List.set_cons_zero, List.set_cons_succ]
    have HS8 := hidD hS8
    clear hb8 hS8
    refine takeH (i := 30) (d := 63) (.bool false) hq rfl rfl (by kernel_rfl) (by kernel_rfl) (by kernel_rfl) (by rfl) (fun W hSw => by (go_simp; try first | rfl | (rw [IntKind.wrap_i64]; omega) | (intro hh; exfalso; omega))) hHeld ?_
    try simp only [Act.put, List.setIfInBounds_toArray, List.set_cons_zero, List.set_cons_succ]
    refine takeH (i := 31) (d := 64) (.bool false) hq rfl rfl (by kernel_rfl) (by kernel_rfl) (by kernel_rfl) (by rfl) (fun W hSw => by (go_simp; try first | rfl | (rw [IntKind.wrap_i64]; omega) | (intro hh; exfalso; omega))) hHeld ?_
    try simp only [Act.put, List.setIfInBounds_toArray, List.set_cons_zero, List.set_cons_succ]
    refine wpAnyH_done (by kernel_rfl) ?_ _
    go_wp2_with fail
    go_meet
    exact ⟨rfl, H.out.bel HS8.out⟩
  case rest =>
  obtain ⟨rfl, hL⟩ := hcut
  clear H
  have H := hidD hL
  clear hL C24 C25 C26 C27 C28 C18 C29 C30
  go_upto_region 6 with fail
  refine beginH (S := fun V => Below wc.heap.size wc V) (fun _ _ _ _ _ h => h) (by kernel_rfl) (belN (Below.refl _ _) 1) (fun hq hHeld => ?_)
  refine takeH (i := 0) (d := 65) (plV l (some ⟨g1, 0, none⟩) p.length k1) hq rfl rfl (by kernel_rfl) (by kernel_rfl) (by kernel_rfl) (by rfl) (fun W hSw => by (obtain ⟨⟨y0, y1, y2, y3⟩, z0, z1, z2, z3⟩ := (H.out.bel hSw).cells; go_simp; try rfl)) hHeld ?_
  try simp only [Act.put, List.setIfInBounds_toArray, List.set_cons_zero, List.set_cons_succ]
  refine takeH (i := 2) (d := 67) (plV l (some ⟨g1, 0, none⟩) p.length k1) hq rfl rfl (by kernel_rfl) (by kernel_rfl) (by kernel_rfl) (by rfl) (fun W hSw => by (obtain ⟨⟨y0, y1, y2, y3⟩, z0, z1, z2, z3⟩ := (H.out.bel hSw).cells; go_simp; try rfl)) hHeld ?_
  try simp only [Act.put, List.setIfInBounds_toArray, List.set_cons_zero, List.set_cons_succ]
  refine wpAnyH_ready (rs := [1]) (by kernel_rfl) (by simp) ?_
  refine AllReadyH.cons rfl (fun K hK => ?_) AllReadyH.nil
  go_simp
  refine (CPX.out _ b1 b2 g1 k1 g2 k2 (H.out.bel (belN (Below.refl _ _) 1))).mono ?_
  rintro e v1 ⟨gl, ga, rfl, hp1, hb1⟩
  have hS1 : Below wc.heap.size wc v1 := below_aft (belN (Below.refl _ _) 1) hb1
  go_wp2_with fail
  refine hK.out _ _ hS1 (fun hHeld => ?_)
  clear hK K
  try simp only [Act.put, List.setIfInBounds_toArray, List.set_cons_zero, List.set_cons_succ]
  have HS1 := hidD hS1
  have HP1 := hidD hp1
  clear hp1
  clear hb1 hS1
  refine wpAnyH_ready (rs := [3]) (by kernel_rfl) (by simp) ?_
  refine AllReadyH.cons rfl (fun K hK => ?_) AllReadyH.nil
  go_simp
  refine (CPX.out _ b1 b2 g1 k1 g2 k2 (H.out.bel HS1.out)).mono ?_
  rintro e v2 ⟨gl2, ga2, rfl, hp2, hb2⟩
  have hS2 : Below wc.heap.size wc v2 := below_aft HS1.out hb2
  go_wp2_with fail
  refine hK.out _ _ hS2 (fun hHeld => ?_)
  clear hK K
  try simp only [Act.put, List.setIfInBounds_toArray, List.set_cons_zero, List.set_cons_succ]
  have HS2 := hidD hS2
  have HP2 := hidD hp2
  have HP12 := hidD (HP1.out.bel hb2)
  clear hp2
  clear hb2 hS2
  refine takeH (i := 4) (d := 9) (.slice (some ⟨gl, 0, none⟩) (m + 1) (m + 1)) hq rfl rfl (by kernel_rfl) (by kernel_rfl) (by kernel_rfl) (by rfl) (fun W hSw => by (go_simp; try first | rfl | (rw [IntKind.wrap_i64]; omega) | (intro hh; exfalso; omega))) hHeld ?_
  try simp only [Act.put, List.setIfInBounds_toArray, List.set_cons_zero, List.set_cons_succ]
  refine takeH (i := 5) (d := 10) (.slice (some ⟨gl2, 0, none⟩) (m + 1) (m + 1)) hq rfl rfl (by kernel_rfl) (by kernel_rfl) (by kernel_rfl) (by rfl) (fun W hSw => by (go_simp; try first | rfl | (rw [IntKind.wrap_i64]; omega) | (intro hh; exfalso; omega))) hHeld ?_
  try simp only [Act.put, List.setIfInBounds_toArray, List.set_cons_zero, List.set_cons_succ]
  refine wpAnyH_done (by kernel_rfl) ?_ _
  have HGA : Hid (ga < v1.heap.size) := hidD (by
    rcases HP1.out.r2.2 with ⟨e, -⟩ | ⟨g', cap', cur, e, -, hg, -⟩
    · cases e
    · cases e
      exact lt_of_block hg)
  have HS12 : Hid (v1.heap.size ≤ v2.heap.size) := hidD (by
    have h1 := HP2.out.lo1
    rcases HP2.out.r1.2 with ⟨e, -⟩ | ⟨g', cap', cur, e, -, hg, -⟩
    · cases e
    · cases e
      have := lt_of_block hg
      omega)
  obtain ⟨⟨a0, a1, c0, c1⟩, z0, z1, z2, z3⟩ := (H.out.bel HS2.out).cells
  clear hHeld hq HP1 HS1 CPX
  go_upto_region 10 with (go_at_call 32; (refine (CW.out _ (H.out.bel HS2.out).t).mono ?_; rintro e v3 ⟨wa, wcap, zs, rfl, hrw, hb3⟩; have HO : Hid (OI wc v3 gl ga gl2 ga2 wa wcap zs l p 0) := OI.start (w0 := wc.drewN 1) (Nat.le_refl _) (below_aft HS2.out hb3) (HP12.out.bel hb3) (HP2.out.bel hb3) HGA.out (Nat.lt_of_lt_of_le HGA.out HS12.out) hrw; clear hrw hb3))
  clear CW HP12 HP2 HGA HS12 HS2 a0 a1 c0 c1 z0 z1 z2 z3
  have m60 : (m : Int) ≤ 60 := by have := HM.out; omega
  go_wp2_with fail
  go_loopw [12] (fun v V => ∃ i : Nat, i ≤ m + 1 ∧ v = .int .i64 (i : Int) ∧ OI wc V gl ga gl2 ga2 wa wcap zs l p i) (fun v _ => m + 1 - (intOf v).toNat)
  case atStart => exact ⟨0, Nat.zero_le _, rfl, HO.out⟩
  case round =>
    clear HO
    obtain ⟨i, hi, rfl, hO⟩ := hrel
    have HO := hidD hO
    clear hO
    by_cases hlt : i < m + 1
    · have i0 : (0 : Int) ≤ (i : Int) := by omega
      have i1 : (i : Int) < (m : Int) + 1 := by omega
      have I2 : Hid (i ≤ m) := hidD (by omega)
      clear CSB C33 C34 CSR D19 AW hi
      obtain ⟨gw, a, c, e1, hC⟩ := CSA.out _ _ _ _ _ _ _ _ _ _ HO.out I2.out
      subst e1
      have HC := hidD hC
      clear hC CSA
      go_upto_region 13 with fail
      refine beginH (S := fun V => Below wr.heap.size wr V) (fun _ _ _ _ _ h => h) (by kernel_rfl) (belN (Below.refl _ _) 1) (fun hq hHeld => ?_)
      refine takeH (i := 0) (d := 89) _ hq rfl rfl (by kernel_rfl) (by kernel_rfl) (by kernel_rfl) (by rfl) (fun W hSw => by (go_simp; try first | rfl | (rw [IntKind.wrap_i64]; omega) | (intro hh; exfalso; omega))) hHeld ?_
      try simp only [Act.put, List.setIfInBounds_toArray, List.set_cons_zero, List.set_cons_succ]
      refine takeH (i := 1) (d := 90) _ hq rfl rfl (by kernel_rfl) (by kernel_rfl) (by kernel_rfl) (by rfl) (fun W hSw => by (go_simp; try first | rfl | (rw [IntKind.wrap_i64]; omega) | (intro hh; exfalso; omega))) hHeld ?_
      try simp only [Act.put, List.setIfInBounds_toArray, List.set_cons_zero, List.set_cons_succ]
      refine takeH (i := 2) (d := 91) (.pointer (some ⟨gl, i * 2, none⟩)) hq rfl rfl (by kernel_rfl) (by kernel_rfl) (by kernel_rfl) (by rfl) (fun W hSw => by (go_simp; try first | rfl | (rw [IntKind.wrap_i64]; omega) | (intro hh; exfalso; omega))) hHeld ?_
      try simp only [Act.put, List.setIfInBounds_toArray, List.set_cons_zero, List.set_cons_succ]
      refine takeH (i := 3) (d := 92) (plV l (preA ga i) i i) hq rfl rfl (by kernel_rfl) (by kernel_rfl) (by kernel_rfl) (by rfl) (fun W hSw => by (obtain ⟨z0, z1, z2, z3, -⟩ := HC.out _ hSw; go_simp; try rfl)) hHeld ?_
      try simp only [Act.put, List.setIfInBounds_toArray, List.set_cons_zero, List.set_cons_succ]
      refine takeH (i := 4) (d := 93) _ hq rfl rfl (by kernel_rfl) (by kernel_rfl) (by kernel_rfl) (by rfl) (fun W hSw => by (go_simp; try first | rfl | (rw [IntKind.wrap_i64]; omega) | (intro hh; exfalso; omega))) hHeld ?_
      try simp only [Act.put, List.setIfInBounds_toArray, List.set_cons_zero, List.set_cons_succ]
      refine takeH (i := 5) (d := 94) _ hq rfl rfl (by kernel_rfl) (by kernel_rfl) (by kernel_rfl) (by rfl) (fun W hSw => by (go_simp; try first | rfl | (rw [IntKind.wrap_i64]; omega) | (intro hh; exfalso; omega))) hHeld ?_
      try simp only [Act.put, List.setIfInBounds_toArray, List.set_cons_zero, List.set_cons_succ]
      refine takeH (i := 6) (d := 95) (.pointer (some ⟨gw, i * 2, none⟩)) hq rfl rfl (by kernel_rfl) (by kernel_rfl) (by kernel_rfl) (by rfl) (fun W hSw => by (go_simp; try first | rfl | (rw [IntKind.wrap_i64]; omega) | (intro hh; exfalso; omega))) hHeld ?_
      try simp only [Act.put, List.setIfInBounds_toArray, List.set_cons_zero, List.set_cons_succ]
      refine takeH (i := 7) (d := 96) (plV l a i c) hq rfl rfl (by kernel_rfl) (by kernel_rfl) (by kernel_rfl) (by rfl) (fun W hSw => by (obtain ⟨z0, z1, z2, z3, -⟩ := HC.out _ hSw; go_simp; try rfl)) hHeld ?_
      try simp only [Act.put, List.setIfInBounds_toArray, List.set_cons_zero, List.set_cons_succ]
      refine wpAnyH_ready (rs := [8]) (by kernel_rfl) (by simp) ?_
      refine AllReadyH.cons rfl (fun K hK => ?_) AllReadyH.nil
      go_simp
      refine ((HC.out _ (belN (Below.refl _ _) 1)).2.2.2.2).mono ?_
      rintro e v1 ⟨rfl, hb1⟩
      have hS1 : Below wr.heap.size wr v1 := below_aft (belN (Below.refl _ _) 1) hb1
      go_wp2_with fail
      refine hK.out _ _ hS1 (fun hHeld => ?_)
      clear hK K
      try simp only [Act.put, List.setIfInBounds_toArray, List.set_cons_zero, List.set_cons_succ]
      have HS1 := hidD hS1
      clear hb1 hS1
      refine takeH (i := 9) (d := 98) (.bool false) hq rfl rfl (by kernel_rfl) (by kernel_rfl) (by kernel_rfl) (by rfl) (fun W hSw => by (go_simp; try first | rfl | (rw [IntKind.wrap_i64]; omega) | (intro hh; exfalso; omega))) hHeld ?_
      try simp only [Act.put, List.setIfInBounds_toArray, List.set_cons_zero, List.set_cons_succ]
      refine wpAnyH_done (by kernel_rfl) ?_ _
      have HO1 := hidD (HO.out.aft HS1.out)
      obtain ⟨z0, z1, -, -, -⟩ := HC.out _ HS1.out
      clear hHeld hq HO HS1
      go_wp2_with (go_at_call 21; refine (C21.out _ _ _ _ _ _ _ _ _ _ HO1.out I2.out).mono ?_; rintro e v4 ⟨rfl, hO4⟩; have HO4 := hidD hO4; clear hO4)
      refine ⟨⟨i + 1, hlt, rfl, HO4.out⟩, ?_⟩
      show m + 1 - ((i : Int) + 1).toNat < m + 1 - (i : Int).toNat
      omega
    · obtain rfl : i = m + 1 := by omega
      have lt : ¬ (m : Int) + 1 < (m : Int) + 1 := by omega
      clear hlt hi CSA C21
      rw [show ((m + 1 : Nat) : Int) = (m : Int) + 1 by omega]
      go_upto_region 16 with fail
      obtain ⟨wo, hwo⟩ : ∃ wo, wo = wr := ⟨_, rfl⟩
      rw [← hwo] at HO ⊢
      clear hwo lt
      go_wp2_with fail
      go_loopw [13] (fun v V => ∃ i : Nat, i ≤ m + 1 ∧ v = .int .i64 (i : Int) ∧ Below wo.heap.size wo V) (fun v _ => m + 1 - (intOf v).toNat)
      case atStart => exact ⟨0, Nat.zero_le _, rfl, Below.refl _ _⟩
      case round =>
        obtain ⟨i, hi, rfl, hB⟩ := hrel
        have HBr := hidD hB
        clear hB
        by_cases hlt : i < m + 1
        · have i0 : (0 : Int) ≤ (i : Int) := by omega
          have i1 : (i : Int) < (m : Int) + 1 := by omega
          have I2 : Hid (i ≤ m) := hidD (by omega)
          clear C33 C34 CSR D19 AW hi
          obtain ⟨gw, a, c, e1, hC⟩ := CSB.out _ _ _ _ _ _ _ _ _ _ i (HO.out.aft HBr.out) I2.out
          subst e1
          have HC := hidD hC
          clear hC CSB
          go_upto_region 19 with fail
          refine beginH (S := fun V => Below wr.heap.size wr V) (fun _ _ _ _ _ h => h) (by kernel_rfl) (belN (Below.refl _ _) 1) (fun hq hHeld => ?_)
          refine takeH (i := 0) (d := 110) _ hq rfl rfl (by kernel_rfl) (by kernel_rfl) (by kernel_rfl) (by rfl) (fun W hSw => by (go_simp; try first | rfl | (rw [IntKind.wrap_i64]; omega) | (intro hh; exfalso; omega))) hHeld ?_
          try simp only [Act.put, List.setIfInBounds_toArray, List.set_cons_zero, List.set_cons_succ]
          refine takeH (i := 1) (d := 111) _ hq rfl rfl (by kernel_rfl) (by kernel_rfl) (by kernel_rfl) (by rfl) (fun W hSw => by (go_simp; try first | rfl | (rw [IntKind.wrap_i64]; omega) | (intro hh; exfalso; omega))) hHeld ?_
          try simp only [Act.put, List.setIfInBounds_toArray, List.set_cons_zero, List.set_cons_succ]
          refine takeH (i := 2) (d := 112) (.pointer (some ⟨gl2, i * 2, none⟩)) hq rfl rfl (by kernel_rfl) (by kernel_rfl) (by kernel_rfl) (by rfl) (fun W hSw => by (go_simp; try first | rfl | (rw [IntKind.wrap_i64]; omega) | (intro hh; exfalso; omega))) hHeld ?_
          try simp only [Act.put, List.setIfInBounds_toArray, List.set_cons_zero, List.set_cons_succ]
          refine takeH (i := 3) (d := 113) (plV l (preA ga2 i) i i) hq rfl rfl (by kernel_rfl) (by kernel_rfl) (by kernel_rfl) (by rfl) (fun W hSw => by (obtain ⟨z0, z1, z2, z3, -⟩ := HC.out _ hSw; go_simp; try rfl)) hHeld ?_
          try simp only [Act.put, List.setIfInBounds_toArray, List.set_cons_zero, List.set_cons_succ]
          refine takeH (i := 4) (d := 114) _ hq rfl rfl (by kernel_rfl) (by kernel_rfl) (by kernel_rfl) (by rfl) (fun W hSw => by (go_simp; try first | rfl | (rw [IntKind.wrap_i64]; omega) | (intro hh; exfalso; omega))) hHeld ?_
          try simp only [Act.put, List.setIfInBounds_toArray, List.set_cons_zero, List.set_cons_succ]
          refine takeH (i := 5) (d := 115) _ hq rfl rfl (by kernel_rfl) (by kernel_rfl) (by kernel_rfl) (by rfl) (fun W hSw => by (go_simp; try first | rfl | (rw [IntKind.wrap_i64]; omega) | (intro hh; exfalso; omega))) hHeld ?_
          try simp only [Act.put, List.setIfInBounds_toArray, List.set_cons_zero, List.set_cons_succ]
          refine takeH (i := 6) (d := 116) (.pointer (some ⟨gw, i * 2, none⟩)) hq rfl rfl (by kernel_rfl) (by kernel_rfl) (by kernel_rfl) (by rfl) (fun W hSw => by (go_simp; try first | rfl | (rw [IntKind.wrap_i64]; omega) | (intro hh; exfalso; omega))) hHeld ?_
          try simp only [Act.put, List.setIfInBounds_toArray, List.set_cons_zero, List.set_cons_succ]
          refine takeH (i := 7) (d := 117) (plV l a i c) hq rfl rfl (by kernel_rfl) (by kernel_rfl) (by kernel_rfl) (by rfl) (fun W hSw => by (obtain ⟨z0, z1, z2, z3, -⟩ := HC.out _ hSw; go_simp; try rfl)) hHeld ?_
          try simp only [Act.put, List.setIfInBounds_toArray, List.set_cons_zero, List.set_cons_succ]
          refine wpAnyH_ready (rs := [8]) (by kernel_rfl) (by simp) ?_
          refine AllReadyH.cons rfl (fun K hK => ?_) AllReadyH.nil
          go_simp
          refine ((HC.out _ (belN (Below.refl _ _) 1)).2.2.2.2).mono ?_
          rintro e v1 ⟨rfl, hb1⟩
          have hS1 : Below wr.heap.size wr v1 := below_aft (belN (Below.refl _ _) 1) hb1
          go_wp2_with fail
          refine hK.out _ _ hS1 (fun hHeld => ?_)
          clear hK K
          try simp only [Act.put, List.setIfInBounds_toArray, List.set_cons_zero, List.set_cons_succ]
          have HS1 := hidD hS1
          clear hb1 hS1
          refine takeH (i := 9) (d := 119) (.bool false) hq rfl rfl (by kernel_rfl) (by kernel_rfl) (by kernel_rfl) (by rfl) (fun W hSw => by (go_simp; try first | rfl | (rw [IntKind.wrap_i64]; omega) | (intro hh; exfalso; omega))) hHeld ?_
          try simp only [Act.put, List.setIfInBounds_toArray, List.set_cons_zero, List.set_cons_succ]
          refine wpAnyH_done (by kernel_rfl) ?_ _
          have HB1 := hidD (below_aft HBr.out HS1.out)
          clear hHeld hq HS1 HBr
          go_wp2_with fail
          refine ⟨⟨i + 1, hlt, rfl, HB1.out⟩, ?_⟩
          show m + 1 - ((i : Int) + 1).toNat < m + 1 - (i : Int).toNat
          omega
        · obtain rfl : i = m + 1 := by omega
          have lt : ¬ (m : Int) + 1 < (m : Int) + 1 := by omega
          clear hlt hi CSB
          have H2 := hidD (H.out.bel (HO.out.aft HBr.out).bel)
          clear H HO HBr
          have H := H2
          clear H2
          obtain ⟨⟨a0, a1, c0, c1⟩, z0, z1, z2, z3⟩ := H.out.cells
          go_upto_region 22 with (first
            | (go_at_call 33; refine (C33.out _).mono ?_; rintro e wn ⟨sa, sn, sc, rfl, hpn, hbn⟩; have H2 := hidD (H.out.bel hbn); clear H a0 a1 c0 c1 z0 z1 z2 z3; have H := H2; clear H2; obtain ⟨⟨a0, a1, c0, c1⟩, z0, z1, z2, z3⟩ := H.out.cells;  have EP := hidD hpn; clear hbn hpn)
            | ((with_reducible show wpList _ _ _ (Oper.mk none (Op.store 26 _ _) _ _ _ none :: _) _ _); refine wpl_storeP wn.heap.size ⟨0, none, 0, 0⟩ ⟨rl, sa, sn, sc⟩ (At.new wn _) rfl rfl ?_; intro wm hwm; have hbn : Below wn.heap.size wn wm := (by rw [hwm]; exact below_s2 (belA (Below.refl _ _)) (Nat.le_refl _) _); have HA9 : Hid (At wm wn.heap.size (plO rl sa sn sc)) := (by rw [hwm]; exact (At.new wn _).set2 (x := ⟨0, none, 0, 0⟩) ⟨rl, sa, sn, sc⟩); clear hwm; have HP9 := hidD (EP.out.bel hbn); have H2 := hidD (H.out.bel hbn); clear H a0 a1 c0 c1 z0 z1 z2 z3; have H := H2; clear H2; obtain ⟨⟨a0, a1, c0, c1⟩, z0, z1, z2, z3⟩ := H.out.cells;  clear hbn EP))
          obtain ⟨be, hbe⟩ : ∃ b, b = wn.heap.size := ⟨_, rfl⟩
          rw [← hbe] at HA9 ⊢
          clear hbe
          have EA := HA9
          have EP := HP9
          clear HA9 HP9
          go_upto_region 23 with (first
            | (go_at_call 34; refine (C34.out _).mono ?_; rintro e wn ⟨ra, rn, rc, rfl, hpn, hbn⟩; have H2 := hidD (H.out.bel hbn); clear H a0 a1 c0 c1 z0 z1 z2 z3; have H := H2; clear H2; obtain ⟨⟨a0, a1, c0, c1⟩, z0, z1, z2, z3⟩ := H.out.cells; have EA2 := hidD (EA.out.below hbn); have EP2 := hidD (EP.out.bel hbn); clear EA EP; have EA := EA2; have EP := EP2; clear EA2 EP2; have FP := hidD hpn; clear hbn hpn)
            | ((with_reducible show wpList _ _ _ (Oper.mk none (Op.store 26 _ _) _ _ _ none :: _) _ _); refine wpl_storeP wn.heap.size ⟨0, none, 0, 0⟩ ⟨rl, ra, rn, rc⟩ (At.new wn _) rfl rfl ?_; intro wm hwm; have hbn : Below wn.heap.size wn wm := (by rw [hwm]; exact below_s2 (belA (Below.refl _ _)) (Nat.le_refl _) _); have HA9 : Hid (At wm wn.heap.size (plO rl ra rn rc)) := (by rw [hwm]; exact (At.new wn _).set2 (x := ⟨0, none, 0, 0⟩) ⟨rl, ra, rn, rc⟩); clear hwm; have HP9 := hidD (FP.out.bel hbn); have H2 := hidD (H.out.bel hbn); clear H a0 a1 c0 c1 z0 z1 z2 z3; have H := H2; clear H2; obtain ⟨⟨a0, a1, c0, c1⟩, z0, z1, z2, z3⟩ := H.out.cells; have EA2 := hidD (EA.out.below hbn); have EP2 := hidD (EP.out.bel hbn); clear EA EP; have EA := EA2; have EP := EP2; clear EA2 EP2; clear hbn FP))
          obtain ⟨bq, hbq⟩ : ∃ b, b = wn.heap.size := ⟨_, rfl⟩
          rw [← hbq] at HA9 ⊢
          clear hbq
          have FA := HA9
          have FP := HP9
          clear HA9 HP9
          obtain ⟨x0, x1⟩ := EA.out.pl
          obtain ⟨y0, y1⟩ := FA.out.pl
          go_wp2_with (first
            | (go_at_call 18; refine (CSR.out _ _ _ _ _ _ _ EP.out FP.out).mono ?_; rintro e wn ⟨rfl, hbn⟩; have H2 := hidD (H.out.bel hbn); clear H a0 a1 c0 c1 z0 z1 z2 z3; have H := H2; clear H2; obtain ⟨⟨a0, a1, c0, c1⟩, z0, z1, z2, z3⟩ := H.out.cells; clear hbn)
            | (go_at_call 19; refine (D19.out _ _ b1 b2 g1 k1 g2 k2 H.out (by first | exact .p | exact .q)).mono ?_; rintro e wn ⟨rfl, hbn⟩; have H2 := hidD (H.out.bel hbn); clear H a0 a1 c0 c1 z0 z1 z2 z3; have H := H2; clear H2; obtain ⟨⟨a0, a1, c0, c1⟩, z0, z1, z2, z3⟩ := H.out.cells; clear hbn)
            | (go_at_call 10; refine (AW.out _).mono ?_; rintro e w8 ⟨rfl, hb8⟩; have HB8 := hidD (below_aft H.out.b hb8); clear hb8))
          go_ret
          exact ⟨rfl, HB8.out⟩
end Go.Proofs.YtnohcppipkpgmaaDoor
namespace Go.Proofs.YtnohcppipkpgmaaDoor
open Go.ChangeShapes Go.WideShapes Go.ChangeAt Go.RowKit Go.Joins Go.Shelf Go.WideElems Go.Maps
set_option linter.unusedVariables false
set_option linter.unusedSimpArgs false

theorem own : ownKnob Tryd.prog.godebug = none := by kernel_rfl
theorem laidOut : laidOutB Tryd.prog = true := by kernel_rfl
/-- A row with listed variables, out of a contract that is also told the world's shape. -/
theorem lift_shaped {H : Type} {enc : TypeId × Value → H} {a : Assume} {C : Checked} {os : Os} {f : FuncId} {fn : Func} {s : ChangeSpec} {conds : List PathCond} {apart fresh handsOn again : Bool} {X : World → Array Value → Prop}
    (hX : ∀ (w w' : World) (args : Array Value), w.heap = w'.heap → X w args → X w' args)
    (own : ownKnob C.prog.godebug = none) (started : os.Started) (noInit : C.prog.inits.idxOf? f = none) (hfn : C.prog.funcs[f]? = some fn)
    (witness : ∃ (w : World) (tape : Tape) (i : Input), w.os = os ∧ (w.forCall tape i).Shaped C.prog ∧ i.vars = [] ∧ Input.okWide C.prog (w.forCall tape i) .any w.heap.size f i ∧
      ((s.pre enc C.prog fn conds apart (w.forCall tape i).memory i.args ∧ X (w.forCall tape i).memory i.args) ∧ sizedMet enc C.prog fn (OpenSpec.ofChange s) apart (w.forCall tape i).memory i.args) ∧ a.holds C.prog (lone (Frame.enter C.prog f i.args .normal) [] (w.forCall tape i)))
    (contract : ∀ (W : World) (base : Nat) (args : Array Value) (ds gs : List (DataW H)) (before : List MemPlace),
      (∀ (j : Nat) t v, fn.params[j]? = some t → args[j]? = some v → Value.okWide C.prog W .any base t v) →
      DataW.Whole enc C.prog fn.params.toList s.vars apart W args.toList ds gs before → X W args → W.ShapedOpen C.prog →
      Calls C.prog f args W fun e W' => ∃ v, e = .returned v ∧ s.post enc C.prog fn apart fresh handsOn again W args v W') :
    ReturnsInHanded a C os f .any (fun w args => (s.pre enc C.prog fn conds apart w args ∧ X w args) ∧ sizedMet enc C.prog fn (OpenSpec.ofChange s) apart w args) (s.post enc C.prog fn apart fresh handsOn again) := by
  apply returnsInHanded_of_calls own started noInit witness
  rintro w tape i - shape - ok ⟨⟨⟨ds, gs, before, whole, -⟩, x⟩, -⟩ -
  obtain ⟨_, _, _, fn', is, _, _, _, _, vals⟩ := ok
  cases Option.some.inj (is.symm.trans hfn)
  refine (contract (w.forCall tape i) w.heap.size i.args ds gs before vals (whole.of_heap (w' := w.forCall tape i) (by rfl)) (hX _ _ _ (by rfl) x) shape).mono ?_
  rintro e W' ⟨v, rfl, post⟩
  exact ChangeSpec.post_blind post
abbrev laidT : List (String × DataW Unit) := [("math/bits.deBruijn32tab", Rows.laid_math_bits_deBruijn32tab), ("math/bits.deBruijn64tab", Rows.laid_math_bits_deBruijn64tab), ("internal/strconv.uint64pow10", Rows.laid_internal_strconv_uint64pow10)]
set_option maxRecDepth 100000 in
theorem door_metT (os : Os) (args : Array Value) : laidMetH Tryd.prog laidT ((World.laidAll Tryd.prog os laidT).forCall (fun _ _ => 0) ⟨#[], args, []⟩).memory := by
  rw [MakeChecks.laidMetH_plain _ _ _ (by kernel_rfl)]
  exact laidMet_laidAll _ (by kernel_rfl) (by kernel_rfl)
theorem lt_of_cell0 {w : World} {b off : Nat} {v : Value} (h : w.cell? ⟨b, off, none⟩ = some v) : b < w.heap.size := by
  rcases Nat.lt_or_ge b w.heap.size with h1 | h1
  · exact h1
  · rw [World.cell?] at h
    simp [Array.getElem?_eq_none h1] at h
theorem trod_struct2 {H : Type} {enc : TypeId × Value → H} {P : Program} {w : World} {base : Nat} {spare : Nat → Bool} {held : Bool} {t : TypeId} {f0 f1 : Field} {fuel : Nat} {cs : List Value} {x : DataW H × List MemPlace} (ht : P.underlying t = some (.struct #[f0, f1])) (h : DataW.trod enc P w base spare held fuel t cs = some x) :
    ∃ y0 y1 n, fuel = n + 1 ∧ cs.length = P.cellsOf t ∧ DataW.trod enc P w base spare held n f0.type ((cs.drop f0.offset).take (P.cellsOf f0.type)) = some y0 ∧ DataW.trod enc P w base spare held n f1.type ((cs.drop f1.offset).take (P.cellsOf f1.type)) = some y1 := by
  obtain ⟨xs, n, hfu, rfl, hl, hlen, hf⟩ := DataW.trod_struct ht h
  match xs, hlen with
  | [y0, y1], _ => exact ⟨y0, y1, n, hfu, hl, by simpa using hf 0 f0 rfl, by simpa using hf 1 f1 rfl⟩
theorem two26 : ∃ f0 f1, Tryd.prog.underlying 26 = some (.struct #[f0, f1]) ∧ f0.type = 3 ∧ f1.type = 24 ∧ f0.offset = 0 ∧ f1.offset = 1 := ⟨_, _, Tryd.underlying26, rfl, rfl, rfl, rfl⟩
theorem ones26 : Tryd.prog.cellsOf 3 = 1 ∧ Tryd.prog.cellsOf 24 = 1 ∧ Tryd.prog.cellsOf 26 = 2 ∧ Tryd.prog.cellsOf 62 = 1 := ⟨by kernel_rfl, by kernel_rfl, by kernel_rfl, by kernel_rfl⟩
set_option maxRecDepth 100000 in
/-- A path opened. -/
theorem open_path {H : Type} {enc : TypeId × Value → H} {W : World} {base : Nat} {sp : Nat → Bool} {held : Bool} (n : Nat) (cs : List Value) (x : DataW H × List MemPlace) (h : DataW.trod enc Tryd.prog W base sp held n 24 cs = some x) :
    ∃ a n cap X, cs = [.slice a n cap] ∧ IntR W a n cap X := by
  rcases DataW.trod_slice Tryd.underlying24 h with ⟨hcs, _⟩ | ⟨a, len0, cap0, elems, rest, m2, hm2, hcs, _, hb, hl, hc, hel, hx, _, _⟩
  · exact ⟨none, 0, 0, [], hcs, ⟨rfl, Nat.le_refl _, by simp, fun hne => absurd rfl hne, fun x hx => by simp at hx, fun _ => rfl⟩⟩
  · rw [ones26.2.2.2] at hx
    have each : ∀ i, i < len0 → ∃ x : Int, W.cell? (a.add i) = some (.int .i64 x) ∧ (-9223372036854775808 ≤ x ∧ x ≤ 9223372036854775807) := fun i hi => by
      have hxi := hx i hi
      rw [List.getElem?_eq_getElem (by omega), Option.bind_eq_some_iff] at hxi
      obtain ⟨cs', hc1, hc2⟩ := hxi
      obtain ⟨x, q0, _, w0⟩ := DataW.trod_int Tryd.underlying62 hc2
      subst q0
      obtain ⟨_, hln, hcell⟩ := World.cells?_some hc1
      have g0 := hcell 0 (by omega)
      simp [Lit.wf, IntKind.min, IntKind.max, IntKind.signed, IntKind.bits] at w0
      refine ⟨x, by simpa [Addr.add] using g0, by omega⟩
    obtain ⟨q, hq⟩ := Deep.choose_lt each
    refine ⟨some a, len0, cap0, (List.range len0).map q, hcs, ⟨by simp, by omega, by omega, fun hne => ?_, fun x hx => ?_, fun e => by cases e⟩⟩
    · have hpos : 0 < len0 := by
        rcases Nat.eq_zero_or_pos len0 with h | h
        · subst h; exact absurd rfl hne
        · exact h
      obtain ⟨b, off, spot⟩ := a
      have hc0 := (hq 0 hpos).1
      have hspot : spot = none := by simpa [Addr.add] using World.cell?_spot hc0
      subst hspot
      refine ⟨b, off, rfl, ?_, fun i x hxi => ?_⟩
      · have := (hq 0 hpos).1
        rw [Addr.add_lit] at this
        exact lt_of_cell0 this
      · have hi : i < len0 := by simpa using (List.getElem?_eq_some_iff.1 hxi).1
        rw [List.getElem?_map, List.getElem?_range hi] at hxi
        cases hxi
        have := (hq i hi).1
        rw [Addr.add_lit] at this
        exact this
    · simp at hx
      obtain ⟨i, hi, rfl⟩ := hx
      exact (hq i hi).2
set_option maxRecDepth 100000 in
/-- A place opened. -/
theorem open_place {H : Type} {enc : TypeId × Value → H} {W : World} {r : Reach} {b0 base : Nat} {v : Value} {d : DataW H} {p : List MemPlace} {held : Bool} (hval : Value.okWide Tryd.prog W r b0 26 v) (h : DataW.Trod enc Tryd.prog W base (fun _ => true) held 26 v d p) :
    ∃ (x : Pt) (q : List Int), v = x.v ∧ PAt W x q := by
  obtain ⟨cs, rfl, hsz⟩ := okWide_struct Tryd.underlying26 hval
  rw [ones26.2.2.1] at hsz
  obtain ⟨fuel, hf⟩ := h
  obtain ⟨f0, f1, hu, e0, e1, o0, o1⟩ := two26
  obtain ⟨y0, y1, m, hm, hlen, h0, h1⟩ := trod_struct2 hu hf
  obtain ⟨l⟩ := cs
  match l, hsz with
  | [c0, c1], _ =>
    rw [o0, e0, ones26.1] at h0
    rw [o1, e1, ones26.2.1] at h1
    simp [Value.cells] at h0 h1
    obtain ⟨x, q0, _, w0⟩ := DataW.trod_int Tryd.underlying3 h0
    simp [Lit.wf, IntKind.min, IntKind.max, IntKind.signed, IntKind.bits] at w0
    obtain ⟨a, n, cap, X, q1, hX⟩ := open_path _ _ _ h1
    simp at q0 q1
    subst q0 q1
    exact ⟨⟨x, a, n, cap⟩, X, rfl, ⟨hX, by show (-9223372036854775808 : Int) ≤ x; omega, by show x ≤ (9223372036854775807 : Int); omega⟩⟩
theorem laid_pow : (Rows.laid_internal_strconv_uint64pow10 : DataW Unit) = Lib.tabData .u64 Lib.pow10Tab := by kernel_rfl
theorem laidMet_tail {P : Program} {x : String × DataW Unit} {l : List (String × DataW Unit)} {W : World} (h : laidMet P (x :: l) W) : laidMet P l W := by
  obtain ⟨ps, ⟨g', t', cs, fuel, p, q, hg', ht', hvar, hd, hrest, e⟩, hnd, hcell⟩ := h
  subst e
  exact ⟨q, hrest, (List.nodup_append.1 hnd).2.1, fun b off hm => hcell b off (List.mem_append_right _ hm)⟩
theorem pow_of_laid {W : World} (hL : laidMetH Tryd.prog laidT W) : Lib.TabIs Tryd.prog W "internal/strconv.uint64pow10" .u64 Lib.pow10Tab := by
  have h : laidMet Tryd.prog laidT W := hL
  have h' := laidMet_tail (laidMet_tail h)
  rw [laid_pow] at h'
  exact Lib.tabIs_of_head (g := 0) (t := 145) (e := 132) (n := 20) (by kernel_rfl) (by kernel_rfl) Tryd.underlying145 Tryd.underlying132 (by kernel_rfl) (by kernel_rfl) h'
theorem tab_of_laid {W : World} (hL : laidMetH Tryd.prog laidT W) : TabOk W := fun W' hW' => tab_stays (by kernel_rfl : Tryd.prog.globalNamed "internal/strconv.uint64pow10" = some 0) (pow_of_laid hL) hW' (Nat.le_refl _)
end Go.Proofs.YtnohcppipkpgmaaDoor
namespace Go.Proofs.YtnohcppipkpgmaaDoor
open Go.ChangeShapes Go.WideShapes Go.ChangeAt Go.RowKit Go.Joins Go.Shelf Go.WideElems Go.Maps
set_option linter.unusedVariables false
set_option linter.unusedSimpArgs false

set_option maxRecDepth 100000 in
theorem placeOrders_lifted (os : Os) (started : os.Started) (H : Type) (enc : TypeId × Value → H) :
    ReturnsInHanded {} Tryd.checked os 5 .any (fun w args => (Rows.placeOrdersSpec.pre enc Tryd.prog Tryd.f5 [] false w args ∧ laidMetH Tryd.prog laidT w) ∧ sizedMet enc Tryd.prog Tryd.f5 (OpenSpec.ofChange Rows.placeOrdersSpec) false w args)
      (Rows.placeOrdersSpec.post enc Tryd.prog Tryd.f5 false true false false) := by
  refine lift_shaped (C := Tryd.checked) (X := fun w _ => laidMetH Tryd.prog laidT w) (fun _ _ _ hh h => h.of_heap hh) own started (by kernel_rfl) Tryd.func5
    (ChangeSpec.witness_shaped (enc := enc) (C := Tryd.checked) (os := os) (X := fun w _ => laidMetH Tryd.prog laidT w) false (World.laidAll Tryd.prog os laidT) #[.agg #[.int .i64 0, .slice none 0 0], .agg #[.int .i64 0, .slice none 0 0], .string ⟨#[]⟩] 8 (World.laidAll_os _ _ _) (World.shaped_of_ZipB (by kernel_rfl) (by kernel_rfl)) (by kernel_rfl) (by kernel_rfl) (by kernel_rfl) (door_metT os _)) ?_
  intro W base args ds gs before hval0 hW hL hsh
  have hval : ∀ (j : Nat) t v, Tryd.f5.params[j]? = some t → args[j]? = some v → Value.okWide Tryd.prog W .any base t v := hval0
  have hW' := hW
  obtain ⟨p, q, hA0, hV, rfl, hfz, hnd⟩ := hW
  have hA : DataW.TrodAll enc Tryd.prog W 0 (fun _ => true) true Tryd.f5.params.toList args.toList ds p := hA0
  rw [Tryd.params5] at hA hval
  obtain ⟨v0, vs0, d0, ds0, p0, q0, hargs, rfl, rfl, h0, r0⟩ := trodAll_cons hA
  obtain ⟨v1, vs1, d1, ds1, p1, q1, rfl, rfl, rfl, h1, r1⟩ := trodAll_cons r0
  obtain ⟨v2, vs2, d2, ds2, p2, q2, rfl, rfl, rfl, h2, r2⟩ := trodAll_cons r1
  obtain ⟨rfl, rfl, rfl⟩ := trodAll_nil r2
  obtain rfl : args = #[v0, v1, v2] := by cases args; simp_all
  obtain ⟨rfl, rfl⟩ := trodVars_none hV
  have k0 := h0
  have k1 := h1
  have lt0 : ∀ x ∈ p0, x.block < W.heap.size := by obtain ⟨m, hm⟩ := k0; exact DataW.trod_lt m _ _ _ hm
  have lt1 : ∀ x ∈ p1, x.block < W.heap.size := by obtain ⟨m, hm⟩ := k1; exact DataW.trod_lt m _ _ _ hm
  obtain ⟨x, X, rfl, hP⟩ := open_place (hval 0 26 v0 rfl rfl) h0
  obtain ⟨y, Y, rfl, hQ⟩ := open_place (hval 1 26 v1 rfl rfl) h1
  obtain ⟨s, rfl, rfl, rfl, hs⟩ := Go.ChangeMaps.open_string Tryd.underlying9 (hval 2 9 v2 rfl rfl) h2
  clear hA0 hval0
  refine (orders_walk (tab_of_laid hL) hP hQ s.data.toList (by simpa using hs)).mono fun e W' ⟨he, bel⟩ => ?_
  subst he
  exact ⟨_, rfl, _, _, _, [], _, [], hW', trodAll_mk1 (shut_bool Tryd.underlying4 _), (trodAll_cons_mk (Below.trod laidOut (by kernel_rfl) (of_decide_eq_true (by kernel_rfl)) k0 bel lt0) (trodAll_cons_mk (Below.trod laidOut (by kernel_rfl) (of_decide_eq_true (by kernel_rfl)) k1 bel lt1) (trodAll_cons_mk (Go.ChangeMaps.shut_string Tryd.underlying9 hs) trodAll_mk0))), rfl, bel.frame _, fun h => by cases h⟩
theorem placeOrders_row : Rows.PlaceOrdersSaid :=
  OpenClaim.holds_of_wide 5 Tryd.f5 rfl rfl rfl rfl rfl rfl rfl ⟨rfl, rfl, rfl, rfl, rfl⟩ rfl rfl rfl rfl rfl (by kernel_rfl) Tryd.func5 (by kernel_rfl)
    (of_decide_eq_true (by kernel_rfl)) (by unfold Func.isWrapper; first | (rw [if_pos (by decide +kernel)]; kernel_rfl) | (rw [if_neg (by decide +kernel)]; exact ⟨rfl, rfl⟩))
    (fun os started H enc _ => placeOrders_lifted os started H enc)
theorem placeOrders_holds : Rows.PlaceOrdersCardSaid :=
  Claim7.holds_tied_plain_at .later [] [.data, .data, .data] true (true, "ee7dc7c804ac4f745a5ba83d8aed6ecd8a7da634523cecb06dd4055cc8e0ae99") false
    placeOrders_row (fun _ h => by cases h) (by kernel_rfl) (fun _ h => by cases h) placeOrders_row_tie rfl ⟨rfl, rfl⟩ (by kernel_rfl) rfl
    (fun f fn hf hfn => by
      obtain rfl : f = 5 := Option.some.inj ((show Tryd.prog.funcNamed "loanword/loanwordlaw09.PlaceOrders" = some 5 by kernel_rfl).symm.trans hf) |>.symm
      obtain rfl : fn = Tryd.f5 := (Option.some.inj (Tryd.func5.symm.trans hfn)).symm
      exact ⟨by kernel_rfl, fun j t ht => by
        rw [Tryd.params5] at ht
        have hm : t ∈ [26, 9] := by simpa using Array.mem_of_getElem? ht
        have hall : ([26, 9].all fun u => !Tryd.prog.wantsStandIn u) = true := by kernel_rfl
        exact (show Tryd.prog.wantsStandIn t = false by simpa using List.all_eq_true.1 hall t hm)⟩)
    (by kernel_rfl)
#print axioms placeOrders_holds
end Go.Proofs.YtnohcppipkpgmaaDoor
