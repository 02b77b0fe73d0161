/-
  PlaceTypes returns true for all structs, all locals and every place, and leaves them as they were: the row of 'loanwordlaw09.PlaceTypes', and its card, tied to the program's text. No condition beyond the statement's own (the library's tables laid).
-/
import Derived.Test.YtnohcppipkpgmaaDoorVb
import Derived.Deep.DeepCutAuto
import Derived.Deep.Light
import Derived.Test.YtnohcppipkpgmaaDoorSa
import Derived.Test.YtnohcppipkpgmaaDoorTie
import Derived.Test.YtnohcppipkpgmaaDoorCards
import Derived.ProofKit
import Derived.OpenShut
import Derived.ShutString
import Derived.ChangeOld
import Derived.ChangeMaps5
import Derived.ChangeSlices
import Derived.Below
import Derived.Lib.SmallJoins
import Derived.LaidMore
import Derived.Stop.Joined
import Derived.SevenTiedAt
import Derived.HandedShaped
import Derived.Lay
import Derived.MakeChecks
import Derived.Deep.Slices
namespace Go.Proofs.YtnohcppipkpgmaaDoor
open Go.RowKit Go.Shelf
set_option linter.unusedVariables false
set_option linter.unusedSimpArgs false

set_option maxRecDepth 100000 in
set_option maxHeartbeats 4000000 in
theorem sameT_leaf (k : Nat) (s : Int) (a1 : Option Addr) (c1 : Nat) (a2 : Option Addr) (c2 : Nat) (w : World) : Calls Tryd.prog 17 #[tyV k false 0 s a1 0 c1, tyV k false 0 s a2 0 c2] w fun e w' => e = .returned (.bool true) ∧ Below w.heap.size w w' := by
  have HB : Hid (Below w.heap.size w ((w.alloc (tyO k false 0 s a1 0 c1)).alloc (tyO k false 0 s a2 0 c2))) := bel2
  go_enter Tryd.func17, Tryd.ntmps17
  go_wp2_with fail
  go_loopw [5] (fun v V => v = .int .i64 0 ∧ V = (w.alloc (tyO k false 0 s a1 0 c1)).alloc (tyO k false 0 s a2 0 c2)) (fun v _ => 0)
  case atStart => exact ⟨rfl, rfl⟩
  case round =>
    obtain ⟨rfl, rfl⟩ := hrel
    go_wp2_with fail
    go_ret
    exact ⟨rfl, HB.out⟩
set_option maxRecDepth 100000 in
set_option maxHeartbeats 8000000 in
theorem sameT_one (k : Nat) (m : Bool) (r : Int) (a1 o1 c1 a2 o2 c2 : Nat) (f2 g2 : Fv) (w : World) (h1 : C5 w a1 o1 f2) (h2 : C5 w a2 o2 g2) (IH : ∀ W, Below w.heap.size w W → Calls Tryd.prog 17 #[f2.v, g2.v] W fun e w' => e = .returned (.bool true) ∧ Below W.heap.size W w') :
    Calls Tryd.prog 17 #[tyV k m r 0 (some ⟨a1, o1, none⟩) 1 c1, tyV k m r 0 (some ⟨a2, o2, none⟩) 1 c2] w fun e w' => e = .returned (.bool true) ∧ Below w.heap.size w w' := by
  have HI := hidD IH
  have H1 := hidD h1
  have H2 := hidD h2
  have A1 : Hid (At ((w.alloc (Fv.o ⟨k, m, r, 0, some ⟨a1, o1, none⟩, 1, c1⟩)).alloc (Fv.o ⟨k, m, r, 0, some ⟨a2, o2, none⟩, 1, c2⟩)) w.heap.size (Fv.o ⟨k, m, r, 0, some ⟨a1, o1, none⟩, 1, c1⟩)) := (At.new _ _).alloc _
  have A2 : Hid (At ((w.alloc (Fv.o ⟨k, m, r, 0, some ⟨a1, o1, none⟩, 1, c1⟩)).alloc (Fv.o ⟨k, m, r, 0, some ⟨a2, o2, none⟩, 1, c2⟩)) (w.heap.size + 1) (Fv.o ⟨k, m, r, 0, some ⟨a2, o2, none⟩, 1, c2⟩)) := at_snd _ _ _
  have HB : Hid (Below w.heap.size w ((w.alloc (Fv.o ⟨k, m, r, 0, some ⟨a1, o1, none⟩, 1, c1⟩)).alloc (Fv.o ⟨k, m, r, 0, some ⟨a2, o2, none⟩, 1, c2⟩))) := bel2
  clear h1 h2 IH
  go_enter Tryd.func17, Tryd.ntmps17
  go_wp2_with fail
  go_loopw [5] (fun v V => ∃ i : Nat, i ≤ 1 ∧ v = .int .i64 (i : Int) ∧ At V w.heap.size (Fv.o ⟨k, m, r, 0, some ⟨a1, o1, none⟩, 1, c1⟩) ∧ At V (w.heap.size + 1) (Fv.o ⟨k, m, r, 0, some ⟨a2, o2, none⟩, 1, c2⟩) ∧ Below w.heap.size w V) (fun v _ => 1 - (intOf v).toNat)
  case atStart => exact ⟨0, by omega, rfl, A1.out, A2.out, HB.out⟩
  case round =>
    clear A1 A2 HB
    obtain ⟨i, hi, rfl, hA1, hA2, hB⟩ := hrel
    have A1 := hidD hA1
    have A2 := hidD hA2
    have HB := hidD hB
    obtain ⟨-, x0, x1, x2, x3, x4⟩ := hA1.ty
    obtain ⟨-, y0, y1, y2, y3, y4⟩ := hA2.ty
    simp only [Nat.zero_add] at x0 x1 x2 x3 x4 y0 y1 y2 y3 y4
    clear hA1 hA2 hB
    have hi2 : i = 0 ∨ i = 1 := by omega
    rcases hi2 with rfl | rfl
    · clear hi
      go_upto_region 6 with fail
      refine beginH (S := fun W => Below wr.heap.size wr W) (fun _ _ _ _ _ h => h) (by kernel_rfl) (belN (Below.refl _ _) 1) (fun hq hHeld => ?_)
      refine takeH (i := 0) (d := 48) _ hq rfl rfl (by kernel_rfl) (by kernel_rfl) (by kernel_rfl) (by rfl) (fun W hSw => by (go_simp; try first | rfl | (rw [IntKind.wrap_i64]; omega) | (intro hh; exfalso; omega))) hHeld ?_
      try simp only [Act.put, List.setIfInBounds_toArray, List.set_cons_zero, List.set_cons_succ]
      refine takeH (i := 1) (d := 49) (.slice (some ⟨a1, o1, none⟩) 1 c1) hq rfl rfl (by kernel_rfl) (by kernel_rfl) (by kernel_rfl) (by rfl) (fun W hSw => by (obtain ⟨-, z0, z1, z2, z3, z4⟩ := (A1.out.below hSw).ty; simp only [Nat.zero_add] at z0 z1 z2 z3 z4; go_simp; try rfl)) hHeld ?_
      try simp only [Act.put, List.setIfInBounds_toArray, List.set_cons_zero, List.set_cons_succ]
      refine takeH (i := 2) (d := 50) _ hq rfl rfl (by kernel_rfl) (by kernel_rfl) (by kernel_rfl) (by rfl) (fun W hSw => by (go_simp; try first | rfl | (rw [IntKind.wrap_i64]; omega) | (intro hh; exfalso; omega))) hHeld ?_
      try simp only [Act.put, List.setIfInBounds_toArray, List.set_cons_zero, List.set_cons_succ]
      refine takeH (i := 3) (d := 51) (.pointer (some ⟨a1, o1, none⟩)) hq rfl rfl (by kernel_rfl) (by kernel_rfl) (by kernel_rfl) (by rfl) (fun W hSw => by (go_simp; try first | rfl | (rw [IntKind.wrap_i64]; omega) | (intro hh; exfalso; omega))) hHeld ?_
      try simp only [Act.put, List.setIfInBounds_toArray, List.set_cons_zero, List.set_cons_succ]
      refine takeH (i := 4) (d := 52) f2.v hq rfl rfl (by kernel_rfl) (by kernel_rfl) (by kernel_rfl) (by rfl) (fun W hSw => by (obtain ⟨-, z0, z1, z2, z3, z4⟩ := (H1.out.below (below_aft HB.out hSw)); go_simp; try rfl)) hHeld ?_
      try simp only [Act.put, List.setIfInBounds_toArray, List.set_cons_zero, List.set_cons_succ]
      refine takeH (i := 5) (d := 53) _ hq rfl rfl (by kernel_rfl) (by kernel_rfl) (by kernel_rfl) (by rfl) (fun W hSw => by (go_simp; try first | rfl | (rw [IntKind.wrap_i64]; omega) | (intro hh; exfalso; omega))) hHeld ?_
      try simp only [Act.put, List.setIfInBounds_toArray, List.set_cons_zero, List.set_cons_succ]
      refine takeH (i := 6) (d := 54) (.slice (some ⟨a2, o2, none⟩) 1 c2) hq rfl rfl (by kernel_rfl) (by kernel_rfl) (by kernel_rfl) (by rfl) (fun W hSw => by (obtain ⟨-, z0, z1, z2, z3, z4⟩ := (A2.out.below hSw).ty; simp only [Nat.zero_add] at z0 z1 z2 z3 z4; go_simp; try rfl)) hHeld ?_
      try simp only [Act.put, List.setIfInBounds_toArray, List.set_cons_zero, List.set_cons_succ]
      refine takeH (i := 7) (d := 55) _ hq rfl rfl (by kernel_rfl) (by kernel_rfl) (by kernel_rfl) (by rfl) (fun W hSw => by (go_simp; try first | rfl | (rw [IntKind.wrap_i64]; omega) | (intro hh; exfalso; omega))) hHeld ?_
      try simp only [Act.put, List.setIfInBounds_toArray, List.set_cons_zero, List.set_cons_succ]
      refine takeH (i := 8) (d := 56) (.pointer (some ⟨a2, o2, none⟩)) hq rfl rfl (by kernel_rfl) (by kernel_rfl) (by kernel_rfl) (by rfl) (fun W hSw => by (go_simp; try first | rfl | (rw [IntKind.wrap_i64]; omega) | (intro hh; exfalso; omega))) hHeld ?_
      try simp only [Act.put, List.setIfInBounds_toArray, List.set_cons_zero, List.set_cons_succ]
      refine takeH (i := 9) (d := 57) g2.v hq rfl rfl (by kernel_rfl) (by kernel_rfl) (by kernel_rfl) (by rfl) (fun W hSw => by (obtain ⟨-, z0, z1, z2, z3, z4⟩ := (H2.out.below (below_aft HB.out hSw)); go_simp; try rfl)) hHeld ?_
      try simp only [Act.put, List.setIfInBounds_toArray, List.set_cons_zero, List.set_cons_succ]
      refine wpAnyH_ready (rs := [10]) (by kernel_rfl) (by simp) ?_
      refine AllReadyH.cons rfl (fun K hK => ?_) AllReadyH.nil
      go_simp
      refine (HI.out _ (belN HB.out 1)).mono ?_
      rintro e v1 ⟨rfl, hb1⟩
      have hS1 : Below wr.heap.size wr v1 := below_aft (belN (Below.refl _ _) 1) hb1
      go_wp2_with fail
      refine hK.out _ _ hS1 (fun hHeld => ?_)
      clear hK K
      try simp only [Act.put, List.setIfInBounds_toArray, List.set_cons_zero, List.set_cons_succ]
      have HS1 := hidD hS1
      clear hb1 hS1
      refine takeH (i := 11) (d := 59) (.bool false) hq rfl rfl (by kernel_rfl) (by kernel_rfl) (by kernel_rfl) (by rfl) (fun W hSw => by (go_simp; try first | rfl | (rw [IntKind.wrap_i64]; omega) | (intro hh; exfalso; omega))) hHeld ?_
      try simp only [Act.put, List.setIfInBounds_toArray, List.set_cons_zero, List.set_cons_succ]
      refine wpAnyH_done (by kernel_rfl) ?_ _
      go_wp2_with fail
      exact ⟨⟨1, Nat.le_refl _, rfl, A1.out.below HS1.out, A2.out.below HS1.out, below_aft HB.out HS1.out⟩, by decide⟩
    · go_wp2_with fail
      go_ret
      exact ⟨rfl, HB.out⟩
/-- The reference's SameType, of one type twice. -/
theorem sameT_any : ∀ (c : Ch) (f g : Fv) (w : World), TyAt w f c.ty → TyAt w g c.ty → Calls Tryd.prog 17 #[f.v, g.v] w fun e w' => e = .returned (.bool true) ∧ Below w.heap.size w w'
  | .leaf k s, f, g, w, h1, h2 => by
    obtain ⟨a1, c1, rfl, -⟩ := h1.leaf
    obtain ⟨a2, c2, rfl, -⟩ := h2.leaf
    exact sameT_leaf k s a1 c1 a2 c2 w
  | .box c, f, g, w, h1, h2 => by
    obtain ⟨g1, o1, c1, f2, rfl, hc1, ht1⟩ := h1.box
    obtain ⟨g2, o2, c2, f3, rfl, hc2, ht2⟩ := h2.box
    exact sameT_one 3 false 0 g1 o1 c1 g2 o2 c2 f2 f3 w hc1 hc2 (fun W hW => sameT_any c f2 f3 W (ht1.bel hW) (ht2.bel hW))
  | .ref m r c, f, g, w, h1, h2 => by
    obtain ⟨g1, o1, c1, f2, rfl, hc1, ht1, -⟩ := h1.ref
    obtain ⟨g2, o2, c2, f3, rfl, hc2, ht2, -⟩ := h2.ref
    exact sameT_one 4 m r g1 o1 c1 g2 o2 c2 f2 f3 w hc1 hc2 (fun W hW => sameT_any c f2 f3 W (ht1.bel hW) (ht2.bel hW))
end Go.Proofs.YtnohcppipkpgmaaDoor
namespace Go.Proofs.YtnohcppipkpgmaaDoor
open Go.RowKit Go.Shelf
set_option linter.unusedVariables false
set_option linter.unusedSimpArgs false

/-- Nothing is appended: at an operation of a region. -/
theorem wp_append_none {w : World} {o : Oper} {a : Act} {K : Act → World → Prop} {Q : Exit → Act → World → Prop} (s x : Operand) (t : TypeId)
    (ho : o.op = .call { callee := .builtin .append, args := #[s, x], argTypes := #[t, t] })
    (base : Nat) (e : TypeId) (i : TypeInfo) (size : Nat) (ht : Tryd.prog.underlying t = some (.slice e)) (hi : Tryd.prog.info? e = some i)
    (v : Value) (n : Nat) (xs : List Value) (hs : a.eval s = v) (hown : w.ownsRow base e size v n xs) (hx : a.eval x = .slice none 0 0)
    (h : K (a.put o.dst v) w) : o.wp Tryd.prog a w K Q := by
  have hrun := run_append_owned_none (P := Tryd.prog) (w := w) base t o.type e i size ht hi v n xs hown
  unfold Oper.wp
  simp [execOp, ho, resolve, invoke, builtin, hs, hx, hrun, Result.andThen]
  exact h
theorem Tryd.results42 : Tryd.f42.results = #[.cell 4 26] := rfl
theorem At.set1 {w : World} {b : Nat} {l : Int} {a a' : Option Addr} {n cap n' cap' : Nat} (h : At w b (plO l a n cap)) : At (w.setCell ⟨b, 1, none⟩ (.slice a' n' cap')) b (plO l a' n' cap') := heap_setCell_same w b 1 _ 26 (.slice a' n' cap') h
set_option maxRecDepth 100000 in
set_option maxHeartbeats 8000000 in
/-- The reference's cut. -/
theorem rcut_any {w : World} {x : Pt} {p : List Int} (hP : PAt w x p) (i : Nat) (hi : i ≤ p.length) (hn : p.length ≤ 60) :
    Calls Tryd.prog 42 #[x.v, .int .i64 (i : Int)] w fun e w' => ∃ a cap, e = .returned (plV x.l a i cap) ∧ PAt w' ⟨x.l, a, i, cap⟩ (p.take i) ∧ (∀ ad, a = some ad → w.heap.size ≤ ad.block) ∧ Below w.heap.size w w' := by
  have hm : x.n = p.length := hP.row.len
  have hcap : x.n ≤ x.cap := hP.row.le
  have hl : -9223372036854775808 ≤ x.l ∧ x.l ≤ 9223372036854775807 := ⟨hP.l0, hP.l1⟩
  have hr := hP.row.rng
  have HA0 : Hid (At (((w.alloc x.o).alloc (plO 0 none 0 0)).alloc (plO 0 none 0 0)) w.heap.size x.o) := ((At.new w x.o).alloc _).alloc _
  have HR0 : Hid (At (((w.alloc x.o).alloc (plO 0 none 0 0)).alloc (plO 0 none 0 0)) (w.heap.size + 1) (plO 0 none 0 0)) := (at_snd w x.o (plO 0 none 0 0)).alloc _
  have HO0 : Hid (At (((w.alloc x.o).alloc (plO 0 none 0 0)).alloc (plO 0 none 0 0)) (w.heap.size + 1 + 1) (plO 0 none 0 0)) := hidD (by
    have := At.new ((w.alloc x.o).alloc (plO 0 none 0 0)) (plO 0 none 0 0)
    simpa only [World.size_alloc] using this)
  have HB0 : Hid (Below w.heap.size w (((w.alloc x.o).alloc (plO 0 none 0 0)).alloc (plO 0 none 0 0))) := bel3
  have HP := hidD hP
  obtain ⟨l, pa, m, pcap⟩ := x
  obtain ⟨i62, hi62, hz62, hs62, hb62⟩ := info_parts Tryd.info62
  have hm2 : m = p.length := hm
  have hc2 : m ≤ pcap := hcap
  have k0 : (0 : Int) ≤ (i : Int) := by omega
  have k1 : (i : Int) ≤ (pcap : Int) := by omega
  have k2 : (i : Int) ≤ 60 := by omega
  have k3 : i ≤ pcap := by omega
  have HL : Hid (-9223372036854775808 ≤ l ∧ l ≤ 9223372036854775807) := hl
  have HRG := hidD hr
  have HI : Hid (i ≤ p.length ∧ p.length ≤ 60) := ⟨hi, hn⟩
  have L1 : Hid (((p.take i).map (Value.int .i64)).length = i * 1) := (by rw [List.length_map, List.length_take]; omega : ((p.take i).map (Value.int .i64)).length = i * 1)
  have O1 : Hid (∀ u ∈ (p.take i).map (Value.int .i64), u.oneCell' = true) := fun u hu => by
    obtain ⟨y, -, rfl⟩ := List.mem_map.1 hu
    rfl
  -- behind the region: what is answered
  have FIN : Hid (∀ (V : World) (a : Option Addr) (cap : Nat), V.ownsRow w.heap.size 62 1 (.slice a i cap) i ((p.take i).map (.int .i64)) → At V (w.heap.size + 1) (plO 0 none 0 0) → At V (w.heap.size + 1 + 1) (plO l none 0 0) → Below w.heap.size w V → ∀ w9, w9 = S2 (V.setCell ⟨w.heap.size + 1 + 1, 1, none⟩ (.slice a i cap)) (w.heap.size + 1) ⟨l, a, i, cap⟩ → At w9 (w.heap.size + 1) (plO l a i cap) ∧ PAt w9 ⟨l, a, i, cap⟩ (p.take i) ∧ (∀ ad, a = some ad → w.heap.size ≤ ad.block) ∧ Below w.heap.size w w9) := fun V a cap ho h1 h2 hB w9 hw => by
    rw [hw]
    have hr1 : (V.setCell ⟨w.heap.size + 1 + 1, 1, none⟩ (.slice a i cap)).ownsRow w.heap.size 62 1 (.slice a i cap) i ((p.take i).map (.int .i64)) := own_grow ho ((But.refl (w.heap.size + 1 + 1) V).set 1 _) (fun k hk e => row62_ne (x := ⟨l, none, 0, 0⟩) ho h2 (by rw [hk, e]))
    have h1' : At (V.setCell ⟨w.heap.size + 1 + 1, 1, none⟩ (.slice a i cap)) (w.heap.size + 1) (plO 0 none 0 0) := h1.set (by show w.heap.size + 1 ≠ w.heap.size + 1 + 1; omega) _
    have hr2 := own_grow hr1 (but_s2 _ (w.heap.size + 1) ⟨l, a, i, cap⟩) (fun k hk e => row62_ne (x := ⟨0, none, 0, 0⟩) hr1 h1' (by rw [hk, e]))
    have hlen : i = (p.take i).length := by rw [List.length_take]; have := HI.out; omega
    refine ⟨h1'.set2 (x := ⟨0, none, 0, 0⟩) ⟨l, a, i, cap⟩, ⟨?_, HL.out.1, HL.out.2⟩, fun ad e => ?_, below_s2 (hB.setCell (p := ⟨w.heap.size + 1 + 1, 1, none⟩) (by show w.heap.size ≤ w.heap.size + 1 + 1; omega) _) (by omega) _⟩
    · have hT : ∀ (T : List Int) (V : World), T.length = i → (∀ x ∈ T, -9223372036854775808 ≤ x ∧ x ≤ 9223372036854775807) → V.ownsRow w.heap.size 62 1 (.slice a i cap) i (T.map (.int .i64)) → IntR V a i cap T := fun T V hl hr h => by
        subst hl
        exact row_int (n := 0) h hr
      exact hT _ _ hlen.symm (fun x hx => HRG.out x (List.mem_of_mem_take hx)) hr2
    · subst e
      rcases ho.2 with ⟨e0, -⟩ | ⟨g', cap', cur, e0, h3, -⟩
      · cases e0
      · cases e0
        exact h3
  show Calls Tryd.prog 42 #[plV l pa m pcap, .int .i64 (i : Int)] w _
  have C1 : Hid (∀ ad, pa = some ad → ∀ V, Below w.heap.size w V → ∀ j u, ((p.take i).map (Value.int .i64))[j]? = some u → V.cell? (ad.add j) = some u) := fun ad e V hV j u hu => by
    rw [List.getElem?_map, Option.map_eq_some_iff] at hu
    obtain ⟨y, hy, rfl⟩ := hu
    rw [List.getElem?_take] at hy
    split at hy
    · obtain ⟨g', off', e', hg', hc', -⟩ := HP.out.row.nth hy
      have e2 : pa = some ⟨g', off', none⟩ := e'
      rw [e] at e2
      cases e2
      rw [Addr.add_lit]
      exact (hV.cell (p := ⟨g', off' + j, none⟩) hg').trans hc'
    · cases hy
  have NIL : Hid (pa = none → i = 0 ∧ m = 0 ∧ pcap = 0 ∧ p.take i = []) := fun e => by
    have h0 : pcap = 0 := HP.out.row.nil e
    have h1 : i = 0 := by omega
    exact ⟨h1, by omega, h0, by rw [h1]; rfl⟩
  clear hP hm hcap hl hr hm2 hc2 hi hn HP
  go_enter Tryd.func42, Tryd.ntmps42
  go_upto_region 2 with (((with_reducible show wpList _ _ _ (Oper.mk none (Op.store 26 _ _) _ _ _ none :: _) _ _); refine wpl_storeP (w.heap.size + 1 + 1) ⟨0, none, 0, 0⟩ ⟨l, none, 0, 0⟩ HO0.out rfl rfl ?_; intro w1 hw1))
  have HA : Hid (At w1 w.heap.size (plO l pa m pcap)) := by rw [hw1]; exact HA0.out.S2 (by omega) _
  have HR : Hid (At w1 (w.heap.size + 1) (plO 0 none 0 0)) := by rw [hw1]; exact HR0.out.S2 (by omega) _
  have HO : Hid (At w1 (w.heap.size + 1 + 1) (plO l none 0 0)) := by rw [hw1]; exact HO0.out.set2 (x := ⟨0, none, 0, 0⟩) ⟨l, none, 0, 0⟩
  have HB : Hid (Below w.heap.size w w1) := by rw [hw1]; exact below_s2 HB0.out (by omega) _
  clear hw1 HA0 HR0 HO0 HB0
  obtain ⟨x0, x1⟩ := HA.out.pl
  obtain ⟨o0, o1⟩ := HO.out.pl
  cases pa with
  | none =>
    obtain ⟨h1, h2, h3, h4⟩ := NIL.out rfl
    subst h1 h2 h3
    clear NIL C1
    refine beginH (S := fun W => W.cell? ⟨w.heap.size, 1, none⟩ = some (.slice none 0 0)) (fun _ _ _ _ _ h => h) (by kernel_rfl) x1 (fun hq hHeld => ?_)
    refine takeH (i := 0) (d := 9) _ hq rfl rfl (by kernel_rfl) (by kernel_rfl) (by kernel_rfl) (by rfl) (fun W hSw => by (go_simp; try first | rfl | (rw [IntKind.wrap_i64]; omega) | (intro hh; exfalso; omega))) hHeld ?_
    try simp only [Act.put, List.setIfInBounds_toArray, List.set_cons_zero, List.set_cons_succ]
    refine takeH (i := 2) (d := 11) _ hq rfl rfl (by kernel_rfl) (by kernel_rfl) (by kernel_rfl) (by rfl) (fun W hSw => by (go_simp; try first | rfl | (rw [IntKind.wrap_i64]; omega) | (intro hh; exfalso; omega))) hHeld ?_
    try simp only [Act.put, List.setIfInBounds_toArray, List.set_cons_zero, List.set_cons_succ]
    refine takeH (i := 3) (d := 12) (.slice none 0 0) hq rfl rfl (by kernel_rfl) (by kernel_rfl) (by kernel_rfl) (by rfl) (fun W hSw => by (have z1 := hSw; go_simp; try rfl)) hHeld ?_
    try simp only [Act.put, List.setIfInBounds_toArray, List.set_cons_zero, List.set_cons_succ]
    refine takeH (i := 4) (d := 13) _ hq rfl rfl (by kernel_rfl) (by kernel_rfl) (by kernel_rfl) (by rfl) (fun W hSw => by (go_simp; try first | rfl | (rw [IntKind.wrap_i64]; omega) | (intro hh; exfalso; omega))) hHeld ?_
    try simp only [Act.put, List.setIfInBounds_toArray, List.set_cons_zero, List.set_cons_succ]
    refine takeH (i := 5) (d := 14) (.slice none 0 0) hq rfl rfl (by kernel_rfl) (by kernel_rfl) (by kernel_rfl) (by rfl) (fun W hSw => by (go_simp; try first | rfl | (rw [IntKind.wrap_i64]; omega) | (intro hh; exfalso; omega))) hHeld ?_
    try simp only [Act.put, List.setIfInBounds_toArray, List.set_cons_zero, List.set_cons_succ]
    refine wpAnyH_ready (rs := [1]) (by kernel_rfl) (by simp) ?_
    refine AllReadyH.cons rfl (fun K hK => ?_) AllReadyH.nil
    go_simp
    go_wp2_with fail
    refine hK.out _ _ HA.out.pl.2 (fun hHeld => ?_)
    clear hK K
    try simp only [Act.put, List.setIfInBounds_toArray, List.set_cons_zero, List.set_cons_succ]
    refine wpAnyH_ready (rs := [6]) (by kernel_rfl) (by simp) ?_
    refine AllReadyH.cons rfl (fun K hK => ?_) AllReadyH.nil
    refine wp_append_none (.tmp 10) (.tmp 14) 24 rfl w.heap.size 62 i62 1 Tryd.underlying24 hi62 (.slice none 0 0) 0 [] rfl (World.ownsRow_nil _ _ _ _) rfl ?_
    refine hK.out _ _ HA.out.pl.2 (fun hHeld => ?_)
    clear hK K
    try simp only [Act.put, List.setIfInBounds_toArray, List.set_cons_zero, List.set_cons_succ]
    have HV : Hid (w1.drew.ownsRow w.heap.size 62 1 (.slice none 0 0) 0 ((p.take 0).map (.int .i64)) ∧ At w1.drew (w.heap.size + 1) (plO 0 none 0 0) ∧ At w1.drew (w.heap.size + 1 + 1) (plO l none 0 0) ∧ Below w.heap.size w w1.drew ∧ At w1.drew w.heap.size (plO l none 0 0)) := ⟨World.ownsRow_nil _ _ _ _, HR.out.drew, HO.out.drew, belN HB.out 1, HA.out.drew⟩
    obtain ⟨w3, hw3⟩ : ∃ w3, w3 = w1.drew := ⟨_, rfl⟩
    rw [← hw3] at HV hHeld ⊢
    clear hw3
    refine takeH (i := 7) (d := 16) _ hq rfl rfl (by kernel_rfl) (by kernel_rfl) (by kernel_rfl) (by rfl) (fun W hSw => by (go_simp; try first | rfl | (rw [IntKind.wrap_i64]; omega) | (intro hh; exfalso; omega))) hHeld ?_
    try simp only [Act.put, List.setIfInBounds_toArray, List.set_cons_zero, List.set_cons_succ]
    refine wpAnyH_ready (rs := [8]) (by kernel_rfl) (by simp) ?_
    refine AllReadyH.cons rfl (fun K hK => ?_) AllReadyH.nil
    have q1 := HV.out.2.2.1.pl.2
    have f1 := HV.out.2.2.1.plF (x := ⟨l, none, 0, 0⟩) 1
    go_simp
    go_wp2_with fail
    obtain ⟨w4, hw4⟩ : ∃ w4, w4 = w3.setCell ⟨w.heap.size + 1 + 1, 1, none⟩ (.slice none 0 0) := ⟨_, rfl⟩
    rw [← hw4]
    have HO4 : Hid (At w4 (w.heap.size + 1 + 1) (plO l none 0 0)) := by rw [hw4]; exact HV.out.2.2.1.set1
    have HR4 : Hid (At w4 (w.heap.size + 1) (plO 0 none 0 0)) := by rw [hw4]; exact HV.out.2.1.set (by show w.heap.size + 1 ≠ w.heap.size + 1 + 1; omega) _
    have HA4 : Hid (At w4 w.heap.size (plO l none 0 0)) := by rw [hw4]; exact HV.out.2.2.2.2.set (by show w.heap.size ≠ w.heap.size + 1 + 1; omega) _
    refine hK.out _ _ HA4.out.pl.2 (fun hHeld => ?_)
    clear hK K q1 f1
    try simp only [Act.put, List.setIfInBounds_toArray, List.set_cons_zero, List.set_cons_succ]
    refine wpAnyH_done (by kernel_rfl) ?_ _
    obtain ⟨q0, q1⟩ := HO4.out.pl
    obtain ⟨r0, r1⟩ := HR4.out.pl
    have f0 := HR4.out.plF (x := ⟨0, none, 0, 0⟩) 0
    have f1 := HR4.out.plF (x := ⟨0, none, 0, 0⟩) 1
    have F9 := hidD (FIN.out w3 none 0 HV.out.1 HV.out.2.1 HV.out.2.2.1 HV.out.2.2.2.1 (S2 w4 (w.heap.size + 1) ⟨l, none, 0, 0⟩) (by rw [hw4]))
    clear hw4
    go_wp2_with fail
    exact bodyPost_ret (results_p1 (g := ⟨l, none, 0, 0⟩) Tryd.results42 rfl F9.out.1) rfl ⟨none, 0, rfl, F9.out.2.1, F9.out.2.2.1, F9.out.2.2.2⟩
  | some ad =>
    clear NIL
    refine beginH (S := fun W => W.cell? ⟨w.heap.size, 1, none⟩ = some (.slice (some ad) m pcap)) (fun _ _ _ _ _ h => h) (by kernel_rfl) x1 (fun hq hHeld => ?_)
    refine takeH (i := 0) (d := 9) _ hq rfl rfl (by kernel_rfl) (by kernel_rfl) (by kernel_rfl) (by rfl) (fun W hSw => by (go_simp; try first | rfl | (rw [IntKind.wrap_i64]; omega) | (intro hh; exfalso; omega))) hHeld ?_
    try simp only [Act.put, List.setIfInBounds_toArray, List.set_cons_zero, List.set_cons_succ]
    refine takeH (i := 2) (d := 11) _ hq rfl rfl (by kernel_rfl) (by kernel_rfl) (by kernel_rfl) (by rfl) (fun W hSw => by (go_simp; try first | rfl | (rw [IntKind.wrap_i64]; omega) | (intro hh; exfalso; omega))) hHeld ?_
    try simp only [Act.put, List.setIfInBounds_toArray, List.set_cons_zero, List.set_cons_succ]
    refine takeH (i := 3) (d := 12) (.slice (some ad) m pcap) hq rfl rfl (by kernel_rfl) (by kernel_rfl) (by kernel_rfl) (by rfl) (fun W hSw => by (have z1 := hSw; go_simp; try rfl)) hHeld ?_
    try simp only [Act.put, List.setIfInBounds_toArray, List.set_cons_zero, List.set_cons_succ]
    refine takeH (i := 4) (d := 13) _ hq rfl rfl (by kernel_rfl) (by kernel_rfl) (by kernel_rfl) (by rfl) (fun W hSw => by (go_simp; try first | rfl | (rw [IntKind.wrap_i64]; omega) | (intro hh; exfalso; omega))) hHeld ?_
    try simp only [Act.put, List.setIfInBounds_toArray, List.set_cons_zero, List.set_cons_succ]
    refine takeH (i := 5) (d := 14) (.slice (some ad) i pcap) hq rfl rfl (by kernel_rfl) (by kernel_rfl) (by kernel_rfl) (by rfl) (fun W hSw => by (go_simp; try first | rfl | (rw [IntKind.wrap_i64]; omega) | (intro hh; exfalso; omega))) hHeld ?_
    try simp only [Act.put, List.setIfInBounds_toArray, List.set_cons_zero, List.set_cons_succ]
    refine wpAnyH_ready (rs := [1]) (by kernel_rfl) (by simp) ?_
    refine AllReadyH.cons rfl (fun K hK => ?_) AllReadyH.nil
    go_simp
    go_wp2_with fail
    refine hK.out _ _ HA.out.pl.2 (fun hHeld => ?_)
    clear hK K
    try simp only [Act.put, List.setIfInBounds_toArray, List.set_cons_zero, List.set_cons_succ]
    refine wpAnyH_ready (rs := [6]) (by kernel_rfl) (by simp) ?_
    refine AllReadyH.cons rfl (fun K hK => ?_) AllReadyH.nil
    refine wp_append_own _ (.tmp 10) (.tmp 14) 24 rfl w.heap.size 62 i62 (.int .i64 0) 1 8 Tryd.underlying24 hi62 hz62 hs62 hb62 rfl (by omega) (.slice none 0 0) 0 [] rfl (World.ownsRow_nil _ _ _ _) ad i pcap ((p.take i).map (.int .i64)) rfl L1.out (C1.out ad rfl _ (belN HB.out 1)) O1.out (by unfold maxLen; have := HI.out; omega) (by have := HI.out; omega) (by have := HB.out.size; show _ ≤ w1.heap.size; omega) ?_
    intro v3 w3 ho3 hg3 hn3
    simp only [Nat.zero_add, List.nil_append] at ho3
    obtain ⟨a3, c3, rfl⟩ := own_sl ho3
    have HV : Hid (w3.ownsRow w.heap.size 62 1 (.slice a3 i c3) i ((p.take i).map (.int .i64)) ∧ At w3 (w.heap.size + 1) (plO 0 none 0 0) ∧ At w3 (w.heap.size + 1 + 1) (plO l none 0 0) ∧ Below w.heap.size w w3 ∧ At w3 w.heap.size (plO l (some ad) m pcap)) := ⟨ho3, HR.out.drew.grown hg3 (fun e => by cases e), HO.out.drew.grown hg3 (fun e => by cases e), grow_bel (belN HB.out 1) hg3 (by have := HB.out.size; show _ ≤ w1.heap.size; omega) (fun k e => by cases e), HA.out.drew.grown hg3 (fun e => by cases e)⟩
    clear ho3 hg3 hn3
    refine hK.out _ _ HV.out.2.2.2.2.pl.2 (fun hHeld => ?_)
    clear hK K
    try simp only [Act.put, List.setIfInBounds_toArray, List.set_cons_zero, List.set_cons_succ]
    refine takeH (i := 7) (d := 16) _ hq rfl rfl (by kernel_rfl) (by kernel_rfl) (by kernel_rfl) (by rfl) (fun W hSw => by (go_simp; try first | rfl | (rw [IntKind.wrap_i64]; omega) | (intro hh; exfalso; omega))) hHeld ?_
    try simp only [Act.put, List.setIfInBounds_toArray, List.set_cons_zero, List.set_cons_succ]
    refine wpAnyH_ready (rs := [8]) (by kernel_rfl) (by simp) ?_
    refine AllReadyH.cons rfl (fun K hK => ?_) AllReadyH.nil
    have q1 := HV.out.2.2.1.pl.2
    have f1 := HV.out.2.2.1.plF (x := ⟨l, none, 0, 0⟩) 1
    go_simp
    go_wp2_with fail
    obtain ⟨w4, hw4⟩ : ∃ w4, w4 = w3.setCell ⟨w.heap.size + 1 + 1, 1, none⟩ (.slice a3 i c3) := ⟨_, rfl⟩
    rw [← hw4]
    have HO4 : Hid (At w4 (w.heap.size + 1 + 1) (plO l a3 i c3)) := by rw [hw4]; exact HV.out.2.2.1.set1
    have HR4 : Hid (At w4 (w.heap.size + 1) (plO 0 none 0 0)) := by rw [hw4]; exact HV.out.2.1.set (by show w.heap.size + 1 ≠ w.heap.size + 1 + 1; omega) _
    have HA4 : Hid (At w4 w.heap.size (plO l (some ad) m pcap)) := by rw [hw4]; exact HV.out.2.2.2.2.set (by show w.heap.size ≠ w.heap.size + 1 + 1; omega) _
    refine hK.out _ _ HA4.out.pl.2 (fun hHeld => ?_)
    clear hK K q1 f1
    try simp only [Act.put, List.setIfInBounds_toArray, List.set_cons_zero, List.set_cons_succ]
    refine wpAnyH_done (by kernel_rfl) ?_ _
    obtain ⟨q0, q1⟩ := HO4.out.pl
    obtain ⟨r0, r1⟩ := HR4.out.pl
    have f0 := HR4.out.plF (x := ⟨0, none, 0, 0⟩) 0
    have f1 := HR4.out.plF (x := ⟨0, none, 0, 0⟩) 1
    have F9 := hidD (FIN.out w3 a3 c3 HV.out.1 HV.out.2.1 HV.out.2.2.1 HV.out.2.2.2.1 (S2 w4 (w.heap.size + 1) ⟨l, a3, i, c3⟩) (by rw [hw4]))
    clear hw4
    go_wp2_with fail
    exact bodyPost_ret (results_p1 (g := ⟨l, a3, i, c3⟩) Tryd.results42 rfl F9.out.1) rfl ⟨a3, c3, rfl, F9.out.2.1, F9.out.2.2.1, F9.out.2.2.2⟩
end Go.Proofs.YtnohcppipkpgmaaDoor
namespace Go.Proofs.YtnohcppipkpgmaaDoor
open Go.RowKit Go.Shelf
set_option linter.unusedVariables false
set_option linter.unusedSimpArgs false

theorem cell_but {b : Nat} {V V' : World} (k : But b V V') {g o : Nat} (hg : g < V.heap.size) (hne : g ≠ b) : V'.cell? ⟨g, o, none⟩ = V.cell? ⟨g, o, none⟩ := by
  have := k.block g hg (fun e => hne (Option.some.inj e))
  simp only [World.cell?, this]
theorem PAt.but {b : Nat} {V V' : World} {x : Pt} {p : List Int} (h : PAt V x p) (k : But b V V') (hne : ∀ ad, x.a = some ad → ad.block ≠ b) : PAt V' x p := by
  refine ⟨⟨h.row.len, h.row.le, h.row.big, fun hp => ?_, h.row.rng, h.row.nil⟩, h.l0, h.l1⟩
  obtain ⟨g, off, e, hg, hc⟩ := h.row.cells hp
  exact ⟨g, off, e, Nat.lt_of_lt_of_le hg k.size, fun i y hy => (cell_but k hg (hne _ e)).trans (hc i y hy)⟩
theorem Tryd.results20 : Tryd.f20.results = #[.cell 6 26] := rfl
theorem get_bang {l : List Int} {i : Nat} {g : Int} (h : l[i]? = some g) : l[i]! = g := by
  rw [List.getElem!_eq_getElem?_getD, h]
  rfl
set_option maxRecDepth 100000 in
set_option maxHeartbeats 8000000 in
/-- The reference's Held, of a place that may be. -/
theorem rHeld_any {w0 w : World} (hB0 : Below w0.heap.size w0 w) {a la : Option Addr} {n cap ln lcap : Nat} {ok : Bool} {fc : Nat → List Ch} {cl : List Ch} (hC : Cx w0 a la n cap ln lcap ok fc cl) (h40 : ∀ W, Below w0.heap.size w0 W → Calls Tryd.prog 40 #[.slice a n cap, .slice la ln lcap] W fun e w' => e = .returned (.bool ok) ∧ Below W.heap.size W w') {x : Pt} {p : List Int} (hP : PAt w x p) {c : Ch} {gs : List Int} (hR : wyX ok fc cl x.l p = some (c, gs)) :
    Calls Tryd.prog 20 #[.slice a n cap, .slice la ln lcap, x.v] w fun e w' => ∃ b bc, e = .returned (plV x.l b (heldN gs) bc) ∧ PAt w' ⟨x.l, b, heldN gs, bc⟩ (p.take (heldN gs)) ∧ (∀ ad, b = some ad → w.heap.size ≤ ad.block) ∧ Below w.heap.size w w' := by
  have hok := wyX_ok hC hR
  have hgl : gs.length = p.length := hok.2.2.1
  have hp8 : p.length ≤ 8 := hok.2.2.2.1
  have hrng := hok.2.2.2.2.1
  have hle := heldN_le gs
  have HA0 : Hid (At ((w.alloc x.o).alloc (plO 0 none 0 0)) w.heap.size x.o) := (At.new w x.o).alloc _
  have HR0 : Hid (At ((w.alloc x.o).alloc (plO 0 none 0 0)) (w.heap.size + 1) (plO 0 none 0 0)) := at_snd _ _ _
  have HB0 : Hid (Below w.heap.size w ((w.alloc x.o).alloc (plO 0 none 0 0))) := bel2
  have CW : Hid (Calls Tryd.prog 15 #[.slice a n cap, .slice la ln lcap, x.v] ((w.alloc x.o).alloc (plO 0 none 0 0)) fun e w' => (∃ z : Wy, e = .returned (.tuple #[z.f.v, .slice z.ga z.gn z.gcap, .bool true]) ∧ WayIs w0 ((w.alloc x.o).alloc (plO 0 none 0 0)) w' z c gs) ∧ Below ((w.alloc x.o).alloc (plO 0 none 0 0)).heap.size ((w.alloc x.o).alloc (plO 0 none 0 0)) w') := rWalk_any (below_aft hB0 bel2) hC h40 (hP.bel bel2) _ hR.symm
  have CC : Hid (∀ V, Below w.heap.size w V → Calls Tryd.prog 42 #[x.v, .int .i64 (heldN gs : Int)] V fun e w' => ∃ b bc, e = .returned (plV x.l b (heldN gs) bc) ∧ PAt w' ⟨x.l, b, heldN gs, bc⟩ (p.take (heldN gs)) ∧ (∀ ad, b = some ad → V.heap.size ≤ ad.block) ∧ Below V.heap.size V w') := fun V hV => rcut_any (hP.bel hV) (heldN gs) (by omega) (by omega)
  obtain ⟨l, pa, m, pcap⟩ := x
  have HRNG : Hid (∀ g ∈ gs, 0 ≤ g ∧ g ≤ 3) := hrng
  have HG : Hid (gs.length ≤ 8) := (by omega : gs.length ≤ 8)
  obtain ⟨hn, hhn⟩ : ∃ hn, hn = heldN gs := ⟨_, rfl⟩
  rw [← hhn] at CC hle ⊢
  have HHN := hidD hhn
  have HLE := hidD hle
  show Calls Tryd.prog 20 #[.slice a n cap, .slice la ln lcap, plV l pa m pcap] w _
  clear hok hgl hp8 hrng hC h40 hP hR hB0 hhn hle
  go_enter Tryd.func20, Tryd.ntmps20
  go_upto_region 3 with (first
    | (go_at_call 15; refine CW.out.mono ?_; rintro e w1 ⟨⟨z, rfl, hz⟩, hb1⟩; have HZ := hidD hz; have HB1 := hidD hb1; clear hz hb1)
    | ((with_reducible show wpList _ _ _ (Oper.mk none (Op.store 32 _ _) _ _ _ none :: _) _ _); refine wpl_storeT w1.heap.size zT z.f (At.new w1 _) rfl rfl ?_; intro w2 hw2))
  have HB2 : Hid (Below w1.heap.size w1 w2) := by rw [hw2]; exact below_S5 (belA (Below.refl _ _)) (Nat.le_refl _) _
  have HA : Hid (At w2 w.heap.size (plO l pa m pcap)) := (HA0.out.below HB1.out).below HB2.out
  have HR : Hid (At w2 (w.heap.size + 1) (plO 0 none 0 0)) := (HR0.out.below HB1.out).below HB2.out
  have HB : Hid (Below w.heap.size w w2) := below_aft (below_aft HB0.out HB1.out) HB2.out
  have HI : Hid (IntR w2 z.ga z.gn z.gcap gs) := by
    have h1 := HZ.out.row
    have h2 := HZ.out.gn
    rw [h2] at h1 ⊢
    exact (own_int h1 (fun g hg => by have := HRNG.out g hg; omega)).bel HB2.out
  have HZN : Hid (z.gn = gs.length) := HZ.out.gn
  obtain ⟨⟨zf, ga, gn, gcap⟩, rfl⟩ : ∃ z', z' = z := ⟨z, rfl⟩
  clear hw2 HB1 HB2 HA0 HR0 HB0 HZ CW
  go_loopw [10] (fun v V => ∃ i : Nat, i ≤ hn ∧ v = .int .i64 (i : Int) ∧ V = w2) (fun v _ => hn - (intOf v).toNat)
  case atStart => exact ⟨0, Nat.zero_le _, rfl, rfl⟩
  case round =>
    obtain ⟨i, hi, rfl, rfl⟩ := hrel
    have hzn : gn = gs.length := HZN.out
    have i0 : (0 : Int) ≤ (i : Int) := by omega
    have i2 : (i : Int) ≤ 8 := by have := HG.out; have := HLE.out; omega
    by_cases hlt : i < hn
    · have hil : i < gs.length := by have := HLE.out; omega
      obtain ⟨g, hg⟩ : ∃ g, gs[i]? = some g := ⟨_, List.getElem?_eq_getElem hil⟩
      obtain ⟨b1, off, ea, hgl, hc, -⟩ := HI.out.nth hg
      have ea2 : ga = some ⟨b1, off, none⟩ := ea
      subst ea2
      have hb := heldN_before gs i (by have := HHN.out; omega)
      rw [get_bang hg] at hb
      have hgr := HRNG.out g (List.mem_of_getElem? hg)
      have g2 : g < 2 := by
        unfold isR at hb
        simp at hb
        omega
      have i1 : (i : Int) < (gn : Int) := by omega
      have HLT := hidD hlt
      clear hg ea hb hgr hi hlt hzn hil
      go_wp2_with fail
      refine ⟨⟨i + 1, HLT.out, rfl, trivial⟩, ?_⟩
      show hn - ((i : Int) + 1).toNat < hn - (i : Int).toNat
      have := HLT.out
      omega
    · obtain rfl : i = hn := by omega
      clear hlt hi
      obtain ⟨x0, x1⟩ := HA.out.pl
      have FIN : Hid (∀ V b bc, Below wr.heap.size wr V → PAt V ⟨l, b, i, bc⟩ (p.take i) → (∀ ad, b = some ad → wr.heap.size ≤ ad.block) → (At (S2 V (w.heap.size + 1) ⟨l, b, i, bc⟩) (w.heap.size + 1) (plO l b i bc) ∧ PAt (S2 V (w.heap.size + 1) ⟨l, b, i, bc⟩) ⟨l, b, i, bc⟩ (p.take i) ∧ (∀ ad, b = some ad → w.heap.size ≤ ad.block) ∧ Below w.heap.size w (S2 V (w.heap.size + 1) ⟨l, b, i, bc⟩))) := fun V b bc hV hp hlo => by
        have hsz : w.heap.size + 1 < wr.heap.size := HR.out.lt
        exact ⟨(HR.out.below hV).set2 (x := ⟨0, none, 0, 0⟩) ⟨l, b, i, bc⟩, hp.but (but_s2 V _ _) (fun ad e => by have := hlo ad e; omega), fun ad e => by have := hlo ad e; omega, below_s2 (below_aft HB.out hV) (by omega) _⟩
      by_cases hin : i < gn
      · have hil : i < gs.length := by omega
        obtain ⟨g, hg⟩ : ∃ g, gs[i]? = some g := ⟨_, List.getElem?_eq_getElem hil⟩
        obtain ⟨b1, off, ea, hgl, hc, -⟩ := HI.out.nth hg
        have ea2 : ga = some ⟨b1, off, none⟩ := ea
        subst ea2
        have hb := heldN_at gs (by have := HHN.out; omega)
        rw [← HHN.out, get_bang hg] at hb
        have g2 : ¬ g < 2 := by
          unfold isR at hb
          simp at hb
          omega
        have i1 : (i : Int) < (gn : Int) := by omega
        clear hg ea hb hzn hil hin
        go_wp2_with (go_at_call 42; refine (CC.out _ HB.out).mono ?_; rintro e w5 ⟨b, bc, rfl, hp5, hlo5, hb5⟩; have F9 := hidD (FIN.out w5 b bc hb5 hp5 hlo5); have HR5 := hidD (HR.out.below hb5); obtain ⟨r0, r1⟩ := HR5.out.pl; have f0 := HR5.out.plF (x := ⟨0, none, 0, 0⟩) 0; have f1 := HR5.out.plF (x := ⟨0, none, 0, 0⟩) 1; clear hp5 hlo5 hb5)
        exact bodyPost_ret (results_p1 (g := ⟨l, b, i, bc⟩) Tryd.results20 rfl F9.out.1) rfl ⟨b, bc, rfl, F9.out.2.1, F9.out.2.2.1, F9.out.2.2.2⟩
      · have i1 : ¬ (i : Int) < (gn : Int) := by omega
        clear hin hzn
        go_wp2_with (go_at_call 42; refine (CC.out _ HB.out).mono ?_; rintro e w5 ⟨b, bc, rfl, hp5, hlo5, hb5⟩; have F9 := hidD (FIN.out w5 b bc hb5 hp5 hlo5); have HR5 := hidD (HR.out.below hb5); obtain ⟨r0, r1⟩ := HR5.out.pl; have f0 := HR5.out.plF (x := ⟨0, none, 0, 0⟩) 0; have f1 := HR5.out.plF (x := ⟨0, none, 0, 0⟩) 1; clear hp5 hlo5 hb5)
        exact bodyPost_ret (results_p1 (g := ⟨l, b, i, bc⟩) Tryd.results20 rfl F9.out.1) rfl ⟨b, bc, rfl, F9.out.2.1, F9.out.2.2.1, F9.out.2.2.2⟩
end Go.Proofs.YtnohcppipkpgmaaDoor
namespace Go.Proofs.YtnohcppipkpgmaaDoor
open Go.RowKit Go.Shelf
set_option linter.unusedVariables false
set_option linter.unusedSimpArgs false

/-- One more step is put behind a path that has no room: a row of one's own. -/
theorem wpl_append_full {w : World} {ops : Array Oper} {rest : List Oper} {o : Oper} {a : Act} {Q : Exit → Act → World → Prop} (hgd : o.guard = none) (s x : Operand)
    (ho : o.op = .call { callee := .builtin .append, args := #[s, x], argTypes := #[24, 24] }) (g off n : Nat) (hn : n ≤ 60) (hs : a.eval s = .slice (some ⟨g, off, none⟩) n n)
    (olds : List Value) (hlo : olds.length = n) (holds : ∀ j v, olds[j]? = some v → w.cell? ⟨g, off + j, none⟩ = some v) (ad : Addr) (c : Nat) (u : Value) (hx : a.eval x = .slice (some ad) 1 c) (hu : w.cell? (ad.add 0) = some u)
    (h : ∀ v' w', w'.ownsRow w.heap.size 62 1 v' (n + 1) (olds ++ [u]) → Below w.heap.size w w' → wpList Tryd.prog ops Q rest (a.put o.dst v') w') : wpList Tryd.prog ops Q (o :: rest) a w := by
  obtain ⟨i, hi, hz, hsz, hb⟩ := info_parts Tryd.info62
  refine wpList_plain hgd fun K hK => ?_
  have hr := run_append_grow (P := Tryd.prog) w 24 o.type 62 i (.int .i64 0) Tryd.underlying24 hi hz ⟨g, off, none⟩ n n olds (by rw [hsz, hlo]; omega) (fun j v hv => by rw [Addr.add_lit]; exact holds j v hv) ad 1 c [u] (by rw [hsz]; rfl) (fun j v hv => by
    have hj : j = 0 := by
      have := (List.getElem?_eq_some_iff.1 hv).1
      simp at this
      omega
    subst hj
    simp at hv
    subst hv
    exact hu) (by omega) (by omega) (growslice_fits (by omega) (by rw [hb]; omega))
  have hge := grownCap_ge w (n + 1) n 62
  have hcm : grownCap w (n + 1) n 62 ≤ maxLen := grownCap_le_maxLen w (n + 1) n 62 (by unfold maxLen; omega)
  unfold Oper.wp execOp
  simp only [ho, resolve, invoke, builtin, Sem.run_bind, Sem.run_pure, Result.andThen_ok, List.map_toArray, List.map_cons, List.map_nil, hs, hx, hr]
  refine hK _ _ (h _ _ ⟨by simp [hlo], .inr ⟨w.heap.size, _, _, rfl, Nat.le_refl _, heap_alloc_new w.drew _, hge, hcm, ?_, ?_⟩⟩ (belA (belN (Below.refl _ _) 1)))
  · simp only [Array.size_append, List.size_toArray, size_zeroCells, hlo]
    simp [Value.cells]
    omega
  · simp only [Array.toList_append, List.append_assoc]
    rw [← List.append_assoc, show (n + 1) * 1 = (olds ++ [u]).length by simp [hlo]]
    exact List.take_left
/-- A path that is being written over. -/
def OV (V : World) (g off n : Nat) : Prop := ∃ cur : Array Value, At V g (.cells cur 62 (0, 0)) ∧ ∀ j, j < n → ∃ x : Int, cur[off + j]? = some (.int .i64 x)
theorem OV.cell {V : World} {g off n : Nat} (h : OV V g off n) {j : Nat} (hj : j < n) : (∃ x : Int, V.cell? ⟨g, off + j, none⟩ = some (.int .i64 x)) ∧ V.frozen? ⟨g, off + j, none⟩ = false ∧ g < V.heap.size := by
  obtain ⟨cur, hA, hc⟩ := h
  obtain ⟨x, hx⟩ := hc j hj
  refine ⟨⟨x, ?_⟩, frozen_of_row V g (off + j) _ 62 hA, hA.lt⟩
  unfold At at hA
  simp [World.cell?, hA, hx]
theorem OV.set {V : World} {g off n i : Nat} (h : OV V g off n) (hi : i < n) (y : Int) : OV (V.setCell ⟨g, off + i, none⟩ (.int .i64 y)) g off n := by
  obtain ⟨cur, hA, hc⟩ := h
  refine ⟨_, heap_setCell_same V g (off + i) cur 62 (.int .i64 y) hA, fun j hj => ?_⟩
  obtain ⟨x, hx⟩ := hc j hj
  by_cases e : j = i
  · subst e
    exact ⟨y, by rw [Array.getElem?_setIfInBounds_self_of_lt (Array.getElem?_eq_some_iff.1 hx).1]⟩
  · exact ⟨x, by rw [Array.getElem?_setIfInBounds_ne (by omega)]; exact hx⟩
theorem OV.olds {V : World} {g off n : Nat} (h : OV V g off n) : ∃ olds : List Value, olds.length = n ∧ ∀ j v, olds[j]? = some v → V.cell? ⟨g, off + j, none⟩ = some v := by
  have hx : ∀ j, ∃ x : Int, j < n → V.cell? ⟨g, off + j, none⟩ = some (.int .i64 x) := fun j => by
    by_cases hj : j < n
    · obtain ⟨⟨x, hx⟩, -⟩ := h.cell hj
      exact ⟨x, fun _ => hx⟩
    · exact ⟨0, fun h => absurd h hj⟩
  refine ⟨(List.range n).map fun j => .int .i64 (Classical.choose (hx j)), by simp, fun j v hv => ?_⟩
  have hj : j < n := by simpa using (List.getElem?_eq_some_iff.1 hv).1
  rw [List.getElem?_map, List.getElem?_range hj] at hv
  cases hv
  exact Classical.choose_spec (hx j) hj
set_option maxRecDepth 100000 in
set_option maxHeartbeats 8000000 in
/-- over, of a path that has steps. -/
theorem over_any {w : World} {l : Int} {g off n : Nat} (h : OV w g off n) (hn : n ≤ 60) (h1 : 1 ≤ n) :
    Calls Tryd.prog 21 #[plV l (some ⟨g, off, none⟩) n n] w fun e w' => e = .returned (.tuple #[]) ∧ But g w w' := by
  have hgw : g < w.heap.size := (h.cell (j := 0) (by omega)).2.2
  have HA0 := hidD (At.new w (plO l (some ⟨g, off, none⟩) n n))
  have HO0 : Hid (OV (w.alloc (plO l (some ⟨g, off, none⟩) n n)) g off n) := by
    obtain ⟨cur, hA, hc⟩ := h
    exact ⟨cur, hA.alloc _, hc⟩
  have HB0 : Hid (But g w (w.alloc (plO l (some ⟨g, off, none⟩) n n))) := (But.refl g w).alloc _
  obtain ⟨i62, hi62, hz62, hs62, hb62⟩ := info_parts Tryd.info62
  have HN : Hid (n ≤ 60 ∧ 1 ≤ n) := ⟨hn, h1⟩
  have HGW := hidD hgw
  clear h hn h1
  go_enter Tryd.func21, Tryd.ntmps21
  go_wp2_with fail
  go_loopw [2] (fun v V => ∃ i : Nat, i ≤ n ∧ v = .int .i64 (i : Int) ∧ At V w.heap.size (plO l (some ⟨g, off, none⟩) n n) ∧ OV V g off n ∧ But g w V) (fun v _ => n - (intOf v).toNat)
  case atStart => exact ⟨0, Nat.zero_le _, rfl, HA0.out, HO0.out, HB0.out⟩
  case round =>
    clear HA0 HO0 HB0
    obtain ⟨i, hi, rfl, hA, hO, hB⟩ := hrel
    have HA := hidD hA
    have HO := hidD hO
    have HB := hidD hB
    obtain ⟨x0, x1⟩ := hA.pl
    clear hA hO hB
    by_cases hlt : i < n
    · obtain ⟨⟨y, hy⟩, hf, hg⟩ := HO.out.cell hlt
      have i0 : (0 : Int) ≤ (i : Int) := by omega
      have i1 : (i : Int) < (n : Int) := by omega
      have i2 : (i : Int) ≤ 60 := by have := HN.out; omega
      have nb : ¬ g = w.heap.size := by have := HGW.out; omega
      have HNX : Hid (At (wr.setCell ⟨g, off + i, none⟩ (.int .i64 (-9))) w.heap.size (plO l (some ⟨g, off, none⟩) n n) ∧ OV (wr.setCell ⟨g, off + i, none⟩ (.int .i64 (-9))) g off n ∧ But g w (wr.setCell ⟨g, off + i, none⟩ (.int .i64 (-9)))) := ⟨HA.out.set (by have := HGW.out; show w.heap.size ≠ g; omega) _, HO.out.set hlt (-9), HB.out.set (off + i) _⟩
      go_wp2_with fail
      refine ⟨⟨i + 1, hlt, rfl, HNX.out.1, HNX.out.2.1, HNX.out.2.2⟩, ?_⟩
      show n - ((i : Int) + 1).toNat < n - (i : Int).toNat
      omega
    · obtain rfl : i = n := by omega
      have z1 : ¬ ((i : Int) < (i : Int)) := by omega
      clear hlt hi
      go_wp2_with fail
      obtain ⟨wo, rfl⟩ : ∃ wo, wo = wr := ⟨_, rfl⟩
      go_loopw [3, 4] (fun u v V => ∃ k : Nat, k ≤ 3 ∧ v = .int .i64 (k : Int) ∧ Below wo.heap.size wo V ∧ (k = 0 ∧ u = .slice (some ⟨g, off, none⟩) i i ∨ ∃ xs, V.ownsRow wo.heap.size 62 1 u (i + k) xs)) (fun _ v _ => 3 - (intOf v).toNat)
      case atStart => exact ⟨0, by omega, rfl, Below.refl _ _, .inl ⟨rfl, rfl⟩⟩
      case round =>
        obtain ⟨k, hk, rfl, hBk, hu⟩ := hrel
        have HBk := hidD hBk
        clear hBk
        by_cases hk3 : k < 3
        · have k1 : (k : Int) < 3 := by omega
          have k2 : (k : Int) ≤ 3 := by omega
          have HK3 := hidD hk3
          rcases hu with ⟨rfl, rfl⟩ | ⟨xs, hx⟩
          · obtain ⟨olds, ho1, ho2⟩ := HO.out.olds
            have HO1 := hidD ho1
            have HO2 : Hid (∀ V, Below wo.heap.size wo V → ∀ j v, olds[j]? = some v → V.cell? ⟨g, off + j, none⟩ = some v) := fun V hV j v hv => (hV.cell (p := ⟨g, off + j, none⟩) (HO.out.cell (j := 0) (by have := HN.out; omega)).2.2).trans (ho2 j v hv)
            clear ho1 ho2 hk hk3
            go_wp2_with (at_builtin; refine wpl_append_full rfl (.tmp 22) (.tmp 23) rfl g off i HN.out.1 rfl olds HO1.out (HO2.out _ (belA HBk.out)) ⟨wr.heap.size, 0, none⟩ 1 (.int .i64 (-8)) rfl (by exact new1 wr (.int .i64 (-8)) 62 0 _ rfl) ?_; intro v' w' ho' hb'; have HO' := hidD (own_low ho' (show wo.heap.size ≤ _ by have := HBk.out.size; simp; omega)); have HB' := hidD (below_aft HBk.out (below1 hb')); clear ho' hb')
            refine ⟨⟨1, by omega, rfl, HB'.out, .inr ⟨_, HO'.out⟩⟩, by decide⟩
          · obtain ⟨a3, c3, rfl⟩ := own_sl hx
            have HX := hidD hx
            clear hx hk hk3
            go_wp2_with (at_builtin; refine wpList_append_own _ rfl (.tmp 22) (.tmp 23) 24 rfl wo.heap.size 62 i62 (.int .i64 0) 1 8 Tryd.underlying24 hi62 hz62 hs62 hb62 rfl (by omega) (.slice a3 (i + k) c3) (i + k) xs rfl (HX.out.alloc _) ⟨wr.heap.size, 0, none⟩ 1 1 [.int .i64 (-8)] rfl rfl (new1 _ _ _) (by intro u hu; simp at hu; subst hu; rfl) (by unfold maxLen; have := HN.out; have := HK3.out; omega) (by have := HN.out; have := HK3.out; omega) (by have := HBk.out.size; simp; omega) ?_; intro v' w' ho' hg' hn'; have HO' := hidD ho'; have HB' : Hid (Below wo.heap.size wo w') := grow_bel (belA HBk.out) hg' (by have := HBk.out.size; simp; omega) (fun q e => own_lo HX.out q (by rw [← e])); clear ho' hg' hn')
            refine ⟨⟨k + 1, by have := HK3.out; omega, rfl, HB'.out, .inr ⟨_, HO'.out⟩⟩, ?_⟩
            show 3 - ((k : Int) + 1).toNat < 3 - (k : Int).toNat
            have := HK3.out
            omega
        · obtain rfl : k = 3 := by omega
          clear hu hk3 hk
          go_wp2_with fail
          go_end0
          exact ⟨rfl, HB.out.trans (But.below HBk.out)⟩
end Go.Proofs.YtnohcppipkpgmaaDoor
namespace Go.Proofs.YtnohcppipkpgmaaDoor
open Go.RowKit Go.Shelf
set_option linter.unusedVariables false
set_option linter.unusedSimpArgs false

/-- A place in a variable, and lent. -/
structure L1 (w V : World) (b1 g1 c1 : Nat) (x : Pt) (p : List Int) : Prop where
  a0 : At V w.heap.size x.o
  p0 : PAt V x p
  a1 : At V b1 (plO x.l (some ⟨g1, 0, none⟩) p.length c1)
  l1 : Lnt V w.heap.size g1 c1 p
  b : Below w.heap.size w V
theorem L1.bel {w V V' : World} {b1 g1 c1 : Nat} {x : Pt} {p : List Int} (h : L1 w V b1 g1 c1 x p) (hb : Below V.heap.size V V') : L1 w V' b1 g1 c1 x p := ⟨h.a0.below hb, h.p0.bel hb, h.a1.below hb, h.l1.bel hb, below_aft h.b hb⟩
theorem L1.cells {w V : World} {b1 g1 c1 : Nat} {x : Pt} {p : List Int} (h : L1 w V b1 g1 c1 x p) : V.cell? ⟨w.heap.size, 0, none⟩ = some (.int .i64 x.l) ∧ V.cell? ⟨w.heap.size, 1, none⟩ = some (.slice x.a x.n x.cap) ∧ V.cell? ⟨b1, 0, none⟩ = some (.int .i64 x.l) ∧ V.cell? ⟨b1, 1, none⟩ = some (.slice (some ⟨g1, 0, none⟩) p.length c1) := ⟨h.a0.pl.1, h.a0.pl.2, h.a1.pl.1, h.a1.pl.2⟩
def cR (R : Option (Ch × List Int)) : Ch := match R with | some z => z.1 | none => .leaf 0 0
def gR (R : Option (Ch × List Int)) : List Int := match R with | some z => z.2 | none => []
def eR (R : Option (Ch × List Int)) : Int := match R with | some _ => 0 | none => 2
/-- What is held: a place of its own, its path full. -/
structure HPt (B : Nat) (w' : World) (A : Pt) (la : Int) (q : List Int) : Prop where
  pt : PAt w' A q
  l : A.l = la
  k : (A.a = none ∧ A.n = 0 ∧ A.cap = 0) ∨ ∃ g off, A.a = some ⟨g, off, none⟩ ∧ A.cap = A.n ∧ 1 ≤ A.n ∧ B ≤ g ∧ OV w' g off A.n
def hR (R : Option (Ch × List Int)) (p : List Int) : List Int := match R with | some z => p.take (heldN z.2) | none => []
def lR (R : Option (Ch × List Int)) (l : Int) : Int := match R with | some _ => l | none => 0
theorem type_all {w W : World} (hW : Below w.heap.size w W) {a la : Option Addr} {n cap ln lcap : Nat} {ok : Bool} {fc : Nat → List Ch} {cl : List Ch} (hC : Cx w a la n cap ln lcap ok fc cl) {x : Pt} {p : List Int} (hP : PAt W x p) (R : Option (Ch × List Int)) (hR : R = wyX ok fc cl x.l p) (hd : ∀ z, R = some z → z.1.depth ≤ 48) :
    Calls Tryd.prog 12 #[.slice a n cap, .slice la ln lcap, x.v] W fun e w' => (∃ f : Fv, e = .returned (.tuple #[f.v, .int .i64 (eR R)]) ∧ OwnL w' W.heap.size w'.heap.size f (cR R)) ∧ Below W.heap.size W w' := by
  refine (Type_any hW hC hP R hR hd).mono fun e w' k => ⟨?_, k.2⟩
  have k1 := k.1
  cases R with
  | none => exact ⟨zT, k1, .leaf 0 0 none 0⟩
  | some z =>
    obtain ⟨f, h1, h2⟩ := k1
    exact ⟨f, h1, h2.own⟩
theorem goes_all {w W : World} (hW : Below w.heap.size w W) {a la : Option Addr} {n cap ln lcap : Nat} {ok : Bool} {fc : Nat → List Ch} {cl : List Ch} (hC : Cx w a la n cap ln lcap ok fc cl) {x : Pt} {p : List Int} (hP : PAt W x p) (R : Option (Ch × List Int)) (hR : R = wyX ok fc cl x.l p) :
    Calls Tryd.prog 13 #[.slice a n cap, .slice la ln lcap, x.v] W fun e w' => (∃ ga gcap, e = .returned (.tuple #[.slice ga (gR R).length gcap, .int .i64 (eR R)]) ∧ w'.ownsRow W.heap.size 3 1 (.slice ga (gR R).length gcap) (gR R).length (iCells (gR R))) ∧ Below W.heap.size W w' := by
  refine (Goes_any hW hC hP R hR).mono fun e w' k => ⟨?_, k.2⟩
  have k1 := k.1
  cases R with
  | none => exact ⟨none, 0, k1, World.ownsRow_nil _ _ _ _⟩
  | some z =>
    obtain ⟨v, h1, h2⟩ := k1
    obtain ⟨ga, gcap, rfl⟩ := own_sl h2
    exact ⟨ga, gcap, h1, h2⟩
theorem tri_pos {k : Nat} (h : 1 ≤ k) : tri (k - 1) + k = tri k := by
  obtain ⟨j, rfl⟩ : ∃ j, k = j + 1 := ⟨k - 1, by omega⟩
  rfl
theorem PRow.ov {w0 W : World} {gl ga : Nat} {l : Int} {p : List Int} (h : PRow w0 W gl ga l p) {i : Nat} (hi : i ≤ p.length) (h1 : 1 ≤ i) : OV W ga (tri (i - 1)) i := by
  rcases h.r2.2 with ⟨e, -⟩ | ⟨g', cap', cur, e, hb, hg, h2, h3, h4, ht⟩
  · cases e
  · cases e
    refine ⟨cur, hg, fun j hj => ?_⟩
    have hk : tri (i - 1) + j < tri p.length := by
      have := tri_pos h1
      have := tri_mono hi
      omega
    have hlen : (pthC p p.length).length = tri p.length := pthC_len p _ (Nat.le_refl _)
    obtain ⟨x, hx⟩ : ∃ x, (pthC p p.length)[tri (i - 1) + j]? = some x := ⟨_, List.getElem?_eq_getElem (by omega)⟩
    refine ⟨x, ?_⟩
    have h5 : ((pthC p p.length).map (Value.int .i64))[tri (i - 1) + j]? = some (.int .i64 x) := by rw [List.getElem?_map, hx]; rfl
    rw [← ht, List.getElem?_take] at h5
    split at h5
    · simpa using h5
    · cases h5
theorem held_all {w W : World} (hW : Below w.heap.size w W) {a la : Option Addr} {n cap ln lcap : Nat} {ok : Bool} {fc : Nat → List Ch} {cl : List Ch} (hC : Cx w a la n cap ln lcap ok fc cl) {x : Pt} {p : List Int} (hP : PAt W x p) (hn : p.length ≤ 60) (R : Option (Ch × List Int)) (hRR : R = wyX ok fc cl x.l p) :
    Calls Tryd.prog 14 #[.slice a n cap, .slice la ln lcap, x.v] W fun e w' => (∃ A : Pt, e = .returned (.tuple #[A.v, .int .i64 (eR R)]) ∧ HPt W.heap.size w' A (lR R x.l) (hR R p)) ∧ Below W.heap.size W w' := by
  have hl : -9223372036854775808 ≤ x.l ∧ x.l ≤ 9223372036854775807 := ⟨hP.l0, hP.l1⟩
  have hr := hP.row.rng
  refine (Held_any hW hC hP R hRR).mono fun e w' k => ⟨?_, k.2⟩
  have k1 := k.1
  cases R with
  | none => exact ⟨⟨0, none, 0, 0⟩, k1, ⟨⟨⟨rfl, Nat.le_refl _, by simp, fun h => absurd rfl h, fun x hx => by simp [hR] at hx, fun _ => rfl⟩, by show (-9223372036854775808 : Int) ≤ 0; omega, by show (0 : Int) ≤ 9223372036854775807; omega⟩, rfl, .inl ⟨rfl, rfl, rfl⟩⟩⟩
  | some z =>
    obtain ⟨gl, ga, h1, h2⟩ := k1
    have hlen := (wyX_ok hC hRR.symm).2.2.1
    have hle := heldN_le z.2
    refine ⟨preP x.l ga (heldN z.2), h1, (h2.place hl hr (by omega) (i := heldN z.2) (by omega)).2.2, rfl, ?_⟩
    by_cases h0 : heldN z.2 = 0
    · left
      refine ⟨?_, h0, h0⟩
      show preA ga (heldN z.2) = none
      unfold preA
      rw [if_pos h0]
    · right
      refine ⟨ga, tri (heldN z.2 - 1), ?_, rfl, ?_, h2.lo2, h2.ov (by omega) (by omega)⟩
      · show preA ga (heldN z.2) = _
        unfold preA
        rw [if_neg h0]
      · show 1 ≤ heldN z.2
        omega
theorem walk_all {w0 w : World} (hB0 : Below w0.heap.size w0 w) {a la : Option Addr} {n cap ln lcap : Nat} {ok : Bool} {fc : Nat → List Ch} {cl : List Ch} (hC : Cx w0 a la n cap ln lcap ok fc cl) (h40 : ∀ W, Below w0.heap.size w0 W → Calls Tryd.prog 40 #[.slice a n cap, .slice la ln lcap] W fun e w' => e = .returned (.bool ok) ∧ Below W.heap.size W w') {x : Pt} {p : List Int} (hP : PAt w x p) (R : Option (Ch × List Int)) (hR : R = wyX ok fc cl x.l p) :
    Calls Tryd.prog 15 #[.slice a n cap, .slice la ln lcap, x.v] w fun e w' => (∃ (f : Fv) (ga : Option Addr) (gcap : Nat), e = .returned (.tuple #[f.v, .slice ga (gR R).length gcap, .bool R.isSome]) ∧ TyAt w0 f (cR R).ty ∧ w'.ownsRow w.heap.size 3 1 (.slice ga (gR R).length gcap) (gR R).length (iCells (gR R))) ∧ Below w.heap.size w w' := by
  refine (rWalk_any hB0 hC h40 hP R hR).mono fun e w' k => ⟨?_, k.2⟩
  have k1 := k.1
  cases R with
  | none => exact ⟨zT, none, 0, k1, TyAt.mkLeaf 0 0 (by omega) (by omega) (by omega) none 0, World.ownsRow_nil _ _ _ _⟩
  | some z =>
    obtain ⟨y, h1, h2, h3, h4⟩ := k1
    rw [h3] at h1 h4
    exact ⟨y.f, y.ga, y.gcap, h1, h2, h4⟩
set_option maxRecDepth 100000 in
set_option maxHeartbeats 4000000 in
/-- over, of a path without steps. -/
theorem over_nil (w : World) (l : Int) : Calls Tryd.prog 21 #[plV l none 0 0] w fun e w' => e = .returned (.tuple #[]) ∧ Below w.heap.size w w' := by
  have HA0 := hidD (At.new w (plO l none 0 0))
  obtain ⟨i62, hi62, hz62, hs62, hb62⟩ := info_parts Tryd.info62
  go_enter Tryd.func21, Tryd.ntmps21
  go_wp2_with fail
  go_loopw [2] (fun v V => v = .int .i64 0 ∧ V = w.alloc (plO l none 0 0)) (fun v _ => 0)
  case atStart => exact ⟨rfl, rfl⟩
  case round =>
    obtain ⟨rfl, rfl⟩ := hrel
    go_wp2_with fail
    go_loopw [3, 4] (fun u v V => ∃ k : Nat, k ≤ 3 ∧ v = .int .i64 (k : Int) ∧ Below w.heap.size w V ∧ ∃ xs, V.ownsRow w.heap.size 62 1 u k xs) (fun _ v _ => 3 - (intOf v).toNat)
    case atStart => exact ⟨0, by omega, rfl, belA (Below.refl _ _), [], World.ownsRow_nil _ _ _ _⟩
    case round =>
      obtain ⟨k, hk, rfl, hBk, xs, hx⟩ := hrel
      have HBk := hidD hBk
      clear hBk
      by_cases hk3 : k < 3
      · have k1 : (k : Int) < 3 := by omega
        have k2 : (k : Int) ≤ 3 := by omega
        have HK3 := hidD hk3
        obtain ⟨a3, c3, rfl⟩ := own_sl hx
        have HX := hidD hx
        clear hx hk hk3
        go_wp2_with (at_builtin; refine wpList_append_own _ rfl (.tmp 22) (.tmp 23) 24 rfl w.heap.size 62 i62 (.int .i64 0) 1 8 Tryd.underlying24 hi62 hz62 hs62 hb62 rfl (by omega) (.slice a3 k c3) k xs rfl (HX.out.alloc _) ⟨wr.heap.size, 0, none⟩ 1 1 [.int .i64 (-8)] rfl rfl (new1 _ _ _) (by intro u hu; simp at hu; subst hu; rfl) (by unfold maxLen; have := HK3.out; omega) (by have := HK3.out; omega) (by have := HBk.out.size; simp; omega) ?_; intro v' w' ho' hg' hn'; have HO' := hidD ho'; have HB' : Hid (Below w.heap.size w w') := grow_bel (belA HBk.out) hg' (by have := HBk.out.size; simp; omega) (fun q e => own_lo HX.out q (by rw [← e])); clear ho' hg' hn')
        refine ⟨⟨k + 1, by have := HK3.out; omega, rfl, HB'.out, _, HO'.out⟩, ?_⟩
        show 3 - ((k : Int) + 1).toNat < 3 - (k : Int).toNat
        have := HK3.out
        omega
      · obtain rfl : k = 3 := by omega
        clear hk3 hk hx
        go_wp2_with fail
        go_end0
        exact ⟨rfl, HBk.out⟩
end Go.Proofs.YtnohcppipkpgmaaDoor
namespace Go.Proofs.YtnohcppipkpgmaaDoor
open Go.RowKit Go.Shelf
set_option linter.unusedVariables false
set_option linter.unusedSimpArgs false

theorem HPt.bel {B : Nat} {V V' : World} {A : Pt} {la : Int} {q : List Int} (h : HPt B V A la q) (hb : Below V.heap.size V V') : HPt B V' A la q := ⟨h.pt.bel hb, h.l, h.k.imp id fun ⟨g, off, e1, e2, e3, e4, cur, hA, hc⟩ => ⟨g, off, e1, e2, e3, e4, cur, hA.below hb, hc⟩⟩
theorem At.butO {g b : Nat} {V V' : World} {o : Obj} (h : At V b o) (k : But g V V') (hne : b ≠ g) : At V' b o := (k.block b h.lt (fun e => hne (Option.some.inj e))).trans h
theorem ov_ne {V : World} {g off n b e : Nat} {cs : Array Value} (h : OV V g off n) (hA : At V b (.cells cs e (0, 0))) (he : e ≠ 62) : b ≠ g := fun e2 => by
  obtain ⟨cur, hg, -⟩ := h
  subst e2
  unfold At at hA hg
  rw [hA] at hg
  simp at hg
  exact he hg.2
theorem OwnL.kind {V : World} {lo hi : Nat} {f : Fv} {c : Ch} (h : OwnL V lo hi f c) : f.n = 0 ∨ f.n = 1 ∧ ∃ g f', f.a = some ⟨g, 0, none⟩ ∧ lo ≤ g ∧ g < hi ∧ At V g (Fv.o f') := by
  cases h with
  | leaf k s a cap => exact .inl rfl
  | box g f c hg hh h hc => exact .inr ⟨rfl, g, f, rfl, hg, hh, h⟩
  | ref m r g f c hg hh h hc => exact .inr ⟨rfl, g, f, rfl, hg, hh, h⟩
/-- All that PlaceTypes keeps in variables. -/
structure TS (w V : World) (b7 g0 c0 b8 b10 b14 b16 b18 lo1 hi1 lo2 hi2 B1 B2 : Nat) (f1 f2 f3 : Fv) (A1 A2 : Pt) (x : Pt) (p : List Int) (R : Option (Ch × List Int)) : Prop where
  h : L1 w V b7 g0 c0 x p
  a8 : At V b8 f1.o
  o8 : OwnL V lo1 hi1 f1 (cR R)
  a10 : At V b10 f2.o
  o10 : OwnL V lo2 hi2 f2 (cR R)
  a14 : At V b14 A1.o
  p14 : HPt B1 V A1 (lR R x.l) (hR R p)
  a16 : At V b16 A2.o
  p16 : HPt B2 V A2 (lR R x.l) (hR R p)
  a18 : At V b18 f3.o
  t18 : TyAt w f3 (cR R).ty
  lo : w.heap.size < b7 ∧ b7 < lo1 ∧ g0 < lo1 ∧ lo1 ≤ hi1 ∧ hi1 ≤ b8 ∧ b8 < lo2 ∧ lo2 ≤ hi2 ∧ hi2 ≤ b10 ∧ b10 < B1 ∧ B1 ≤ b14 ∧ b14 < B2 ∧ B2 ≤ b16 ∧ b16 < b18
  gg : ∀ g off, A1.a = some ⟨g, off, none⟩ → g < B2
theorem TS.bel {w V V' : World} {b7 g0 c0 b8 b10 b14 b16 b18 lo1 hi1 lo2 hi2 B1 B2 : Nat} {f1 f2 f3 : Fv} {A1 A2 x : Pt} {p : List Int} {R : Option (Ch × List Int)} (h : TS w V b7 g0 c0 b8 b10 b14 b16 b18 lo1 hi1 lo2 hi2 B1 B2 f1 f2 f3 A1 A2 x p R) (hb : Below V.heap.size V V') : TS w V' b7 g0 c0 b8 b10 b14 b16 b18 lo1 hi1 lo2 hi2 B1 B2 f1 f2 f3 A1 A2 x p R :=
  ⟨h.h.bel hb, h.a8.below hb, h.o8.bel hb, h.a10.below hb, h.o10.bel hb, h.a14.below hb, h.p14.bel hb, h.a16.below hb, h.p16.bel hb, h.a18.below hb, h.t18, h.lo, h.gg⟩
/-- What is left of it behind over and the emptied type. -/
structure TE (w V : World) (b7 g0 c0 b10 b16 b18 : Nat) (f2 f3 : Fv) (A2 : Pt) (x : Pt) (p : List Int) (R : Option (Ch × List Int)) : Prop where
  h : L1 w V b7 g0 c0 x p
  a10 : At V b10 f2.o
  t10 : TyAt V f2 (cR R).ty
  a16 : At V b16 A2.o
  p16 : PAt V A2 (hR R p)
  a18 : At V b18 f3.o
  t18 : TyAt w f3 (cR R).ty
theorem TE.bel {w V V' : World} {b7 g0 c0 b10 b16 b18 : Nat} {f2 f3 : Fv} {A2 x : Pt} {p : List Int} {R : Option (Ch × List Int)} (h : TE w V b7 g0 c0 b10 b16 b18 f2 f3 A2 x p R) (hb : Below V.heap.size V V') : TE w V' b7 g0 c0 b10 b16 b18 f2 f3 A2 x p R :=
  ⟨h.h.bel hb, h.a10.below hb, h.t10.bel hb, h.a16.below hb, h.p16.bel hb, h.a18.below hb, h.t18⟩
/-- Behind over: everything but the path of the first that is held. -/
theorem TS.over {w V V' : World} {b7 g0 c0 b8 b10 b14 b16 b18 lo1 hi1 lo2 hi2 B1 B2 : Nat} {f1 f2 f3 : Fv} {A1 A2 x : Pt} {p : List Int} {R : Option (Ch × List Int)} {g off n : Nat} (h : TS w V b7 g0 c0 b8 b10 b14 b16 b18 lo1 hi1 lo2 hi2 B1 B2 f1 f2 f3 A1 A2 x p R) (hP0 : PAt w x p) (ho : OV V g off n) (hB : B1 ≤ g) (hg2 : g < B2) (k : But g V V') :
    L1 w V' b7 g0 c0 x p ∧ At V' b8 f1.o ∧ OwnL V' lo1 hi1 f1 (cR R) ∧ At V' b10 f2.o ∧ OwnL V' lo2 hi2 f2 (cR R) ∧ At V' b16 A2.o ∧ PAt V' A2 (hR R p) ∧ At V' b18 f3.o := by
  obtain ⟨e1, e2, e3, e4, e5, e6, e7, e8, e9, e10, e11, e12, e13⟩ := h.lo
  have hwb : w.heap.size ≤ g := by omega
  have kp : ∀ b (f : Fv), At V b f.o → At V' b f.o := fun b f hA => hA.butO k (ov_ne ho hA (by decide))
  have kq : ∀ b (y : Pt), At V b y.o → At V' b y.o := fun b y hA => hA.butO k (ov_ne ho hA (by decide))
  have hbel : Below w.heap.size w V' := h.h.b.grown k h.h.b.size (fun q e => by cases e; exact hwb)
  have hx : PAt V' x p := hP0.bel hbel
  refine ⟨⟨kq _ _ h.h.a0, hx, kq _ ⟨x.l, some ⟨g0, 0, none⟩, p.length, c0⟩ h.h.a1, own_grow h.h.l1 k (fun q hq e => ?_), hbel⟩, kp _ _ h.a8, h.o8.keep fun b o h1 h2 hA => ?_, kp _ _ h.a10, h.o10.keep fun b o h1 h2 hA => ?_, kq _ _ h.a16, h.p16.pt.but k (fun ad e => ?_), kp _ _ h.a18⟩
  · have : g0 = q := by simpa [Value.ownBlock] using hq
    have := Option.some.inj e
    omega
  · exact hA.butO k (by omega)
  · exact hA.butO k (by omega)
  · rcases h.p16.k with ⟨h0, -⟩ | ⟨g2, off2, h1, -, -, h4, -⟩
    · rw [h0] at e; cases e
    · rw [h1] at e
      cases e
      show g2 ≠ g
      omega
theorem own_lt {W W' : World} {lo B e s n g cap : Nat} {xs : List Value} (h : W.ownsRow B e s (.slice (some ⟨g, 0, none⟩) n cap) n xs) (hg : g < lo) (k : Below lo W W') : W'.ownsRow B e s (.slice (some ⟨g, 0, none⟩) n cap) n xs := by
  refine ⟨h.1, ?_⟩
  rcases h.2 with ⟨e0, -⟩ | ⟨g', cap', cur, e0, h1, hb, h2⟩
  · cases e0
  · cases e0
    exact .inr ⟨g, cap, cur, rfl, h1, (k.block g hg).trans hb, h2⟩
theorem PAt.out {lo hi : Nat} {V V' : World} {x : Pt} {p : List Int} (h : PAt V x p) (k : Out lo hi V V') (hne : ∀ ad, x.a = some ad → hi ≤ ad.block) : PAt V' x p := by
  refine ⟨⟨h.row.len, h.row.le, h.row.big, fun hp => ?_, h.row.rng, h.row.nil⟩, h.l0, h.l1⟩
  obtain ⟨g, off, e, hg, hc⟩ := h.row.cells hp
  refine ⟨g, off, e, Nat.lt_of_lt_of_le hg k.bel.size, fun i y hy => ?_⟩
  have hb := k.hi g (hne _ e) hg
  have : V'.cell? ⟨g, off + i, none⟩ = V.cell? ⟨g, off + i, none⟩ := by simp only [World.cell?, hb]
  exact this.trans (hc i y hy)
/-- Behind the emptied type. -/
theorem te_of {w V V' : World} {b7 g0 c0 b10 b16 b18 lo1 hi1 lo2 hi2 : Nat} {f2 f3 : Fv} {A2 x : Pt} {p : List Int} {R : Option (Ch × List Int)} (hP0 : PAt w x p) (h : L1 w V b7 g0 c0 x p) (h10 : At V b10 f2.o) (o10 : OwnL V lo2 hi2 f2 (cR R)) (h16 : At V b16 A2.o) (p16 : PAt V A2 (hR R p)) (h18 : At V b18 f3.o) (t18 : TyAt w f3 (cR R).ty) (hrg : (cR R).rg) (k : Out lo1 hi1 V V') (hlo : w.heap.size < lo1 ∧ b7 < lo1 ∧ g0 < lo1 ∧ hi1 ≤ lo2 ∧ hi1 ≤ b10 ∧ hi1 ≤ b16 ∧ hi1 ≤ b18) (hA2 : ∀ ad, A2.a = some ad → hi1 ≤ ad.block) : TE w V' b7 g0 c0 b10 b16 b18 f2 f3 A2 x p R := by
  obtain ⟨e1, e2, e3, e4, e5, e6, e7⟩ := hlo
  have hb : Below w.heap.size w V' := h.b.trans (k.bel.mono (by omega))
  exact ⟨⟨k.at h.a0 (.inl e1), hP0.bel hb, k.at h.a1 (.inl e2), own_lt h.l1 e3 k.bel, hb⟩, k.at h10 (.inr e5), (o10.out k (.inr e4)).ty hrg, k.at h16 (.inr e6), p16.out k hA2, k.at h18 (.inr e7), t18⟩
end Go.Proofs.YtnohcppipkpgmaaDoor
namespace Go.Proofs.YtnohcppipkpgmaaDoor
open Go.RowKit Go.Shelf
set_option linter.unusedVariables false
set_option linter.unusedSimpArgs false

theorem rg_of : ∀ (c : Ch) {w : World} {f : Fv}, TyAt w f c.ty → c.rg
  | .leaf k s, w, f, h => by
    simp only [Ch.ty] at h
    cases h with
    | mk k m r s a n cap of V hn hl hk r0 r1 s0 s1 h1 h2 => exact ⟨hk, s0, s1⟩
  | .box c, w, f, h => by
    simp only [Ch.ty] at h
    cases h with
    | mk k m r s a n cap of V hn hl hk r0 r1 s0 s1 h1 h2 => exact rg_of c (h2 0 _ rfl)
  | .ref m r c, w, f, h => by
    simp only [Ch.ty] at h
    cases h with
    | mk k m r s a n cap of V hn hl hk r0 r1 s0 s1 h1 h2 => exact ⟨⟨r0, r1⟩, rg_of c (h2 0 _ rfl)⟩
theorem hR_len (R : Option (Ch × List Int)) (p : List Int) : (hR R p).length ≤ p.length := by
  cases R with
  | none => simp [hR]
  | some z => simp [hR]; omega
set_option maxRecDepth 100000 in
set_option maxHeartbeats 16000000 in
/-- PlaceTypes. -/
theorem types_walk {w : World} {a la : Option Addr} {n cap ln lcap : Nat} {ok : Bool} {fc : Nat → List Ch} {cl : List Ch} (hC : Cx w a la n cap ln lcap ok fc cl) (h40 : ∀ W, Below w.heap.size w W → Calls Tryd.prog 40 #[.slice a n cap, .slice la ln lcap] W fun e w' => e = .returned (.bool ok) ∧ Below W.heap.size W w') {x : Pt} {p : List Int} (hP : PAt w x p) {bf : Bool} (hf : FitA a n cap la ln lcap [p] bf w) (h60 : bf = true → p.length ≤ 60) (R : Option (Ch × List Int)) (hRR : R = wyX ok fc cl x.l p) (hdp : ∀ z, R = some z → z.1.depth ≤ 48) :
    Calls Tryd.prog 3 #[.slice a n cap, .slice la ln lcap, x.v] w fun e w' => e = .returned (.bool true) ∧ Below w.heap.size w w' := by
  have AW : Hid (∀ W, Calls Tryd.prog 10 #[] W fun e w' => e = .returned (.bool true) ∧ Below W.heap.size W w') := awake_true
  have CF := hidD (hf _ _ _ bel2 (ps_one hP) rfl)
  have HX0 : Hid (At ((w.alloc x.o).alloc x.o) w.heap.size x.o) := (At.new w x.o).alloc _
  have HB0 : Hid (Below w.heap.size w ((w.alloc x.o).alloc x.o)) := bel2
  have hl1 : -9223372036854775808 ≤ x.l ∧ x.l ≤ 9223372036854775807 := ⟨hP.l0, hP.l1⟩
  have hr1 := hP.row.rng
  have HP0 := hidD hP
  have CL : Hid (bf = true → ∀ V, Below w.heap.size w V → Calls Tryd.prog 11 #[x.v] V fun e w' => ∃ g c, e = .returned (plV x.l (some ⟨g, 0, none⟩) p.length c) ∧ Lnt w' w.heap.size g c p ∧ Below V.heap.size V w') := fun hb V hV => (lent_any (hP.bel hV) (h60 hb)).mono fun e w' k => by obtain ⟨g, c, e1, e2, e3⟩ := k; exact ⟨g, c, e1, own_low e2 hV.size, e3⟩
  have OP : Hid (∀ V b7 g0 c0, L1 w V b7 g0 c0 x p → PAt V ⟨x.l, some ⟨g0, 0, none⟩, p.length, c0⟩ p) := fun V b7 g0 c0 h => h.l1.pat hl1 hr1
  have C12 : Hid (∀ V b7 g0 c0, L1 w V b7 g0 c0 x p → Calls Tryd.prog 12 #[.slice a n cap, .slice la ln lcap, plV x.l (some ⟨g0, 0, none⟩) p.length c0] V fun e w' => (∃ f : Fv, e = .returned (.tuple #[f.v, .int .i64 (eR R)]) ∧ OwnL w' V.heap.size w'.heap.size f (cR R)) ∧ Below V.heap.size V w') := fun V b7 g0 c0 h => type_all (x := ⟨x.l, some ⟨g0, 0, none⟩, p.length, c0⟩) h.b hC (OP.out V b7 g0 c0 h) R hRR hdp
  have C13 : Hid (∀ V b7 g0 c0, L1 w V b7 g0 c0 x p → Calls Tryd.prog 13 #[.slice a n cap, .slice la ln lcap, plV x.l (some ⟨g0, 0, none⟩) p.length c0] V fun e w' => (∃ ga gcap, e = .returned (.tuple #[.slice ga (gR R).length gcap, .int .i64 (eR R)]) ∧ w'.ownsRow V.heap.size 3 1 (.slice ga (gR R).length gcap) (gR R).length (iCells (gR R))) ∧ Below V.heap.size V w') := fun V b7 g0 c0 h => goes_all (x := ⟨x.l, some ⟨g0, 0, none⟩, p.length, c0⟩) h.b hC (OP.out V b7 g0 c0 h) R hRR
  have C14 : Hid (bf = true → ∀ V b7 g0 c0, L1 w V b7 g0 c0 x p → Calls Tryd.prog 14 #[.slice a n cap, .slice la ln lcap, plV x.l (some ⟨g0, 0, none⟩) p.length c0] V fun e w' => (∃ A : Pt, e = .returned (.tuple #[A.v, .int .i64 (eR R)]) ∧ HPt V.heap.size w' A (lR R x.l) (hR R p)) ∧ Below V.heap.size V w') := fun hb V b7 g0 c0 h => held_all (x := ⟨x.l, some ⟨g0, 0, none⟩, p.length, c0⟩) h.b hC (OP.out V b7 g0 c0 h) (h60 hb) R hRR
  have C15 : Hid (∀ V b7 g0 c0, L1 w V b7 g0 c0 x p → Calls Tryd.prog 15 #[.slice a n cap, .slice la ln lcap, x.v] V fun e w' => (∃ (f : Fv) (ga : Option Addr) (gcap : Nat), e = .returned (.tuple #[f.v, .slice ga (gR R).length gcap, .bool R.isSome]) ∧ TyAt w f (cR R).ty ∧ w'.ownsRow V.heap.size 3 1 (.slice ga (gR R).length gcap) (gR R).length (iCells (gR R))) ∧ Below V.heap.size V w') := fun V b7 g0 c0 h => walk_all h.b hC h40 h.p0 R hRR
  have C16 : Hid (∀ V b7 g0 c0, L1 w V b7 g0 c0 x p → Calls Tryd.prog 16 #[.slice a n cap, .slice la ln lcap, plV x.l (some ⟨g0, 0, none⟩) p.length c0] V fun e w' => e = .returned (.bool R.isSome) ∧ Below V.heap.size V w') := fun V b7 g0 c0 h => May_any (x := ⟨x.l, some ⟨g0, 0, none⟩, p.length, c0⟩) h.b hC (OP.out V b7 g0 c0 h) _ (by rw [hRR])
  have C19 : Hid (bf = true → ∀ V b7 g0 c0, L1 w V b7 g0 c0 x p → Calls Tryd.prog 19 #[plV x.l (some ⟨g0, 0, none⟩) p.length c0, x.v] V fun e w' => e = .returned (.bool true) ∧ Below V.heap.size V w') := fun hb V b7 g0 c0 h => kept_any h.p0 (h60 hb) h.l1
  have C20 : Hid (R.isSome = true → ∀ V b7 g0 c0, L1 w V b7 g0 c0 x p → Calls Tryd.prog 20 #[.slice a n cap, .slice la ln lcap, x.v] V fun e w' => (∃ A : Pt, e = .returned A.v ∧ A.l = lR R x.l ∧ PAt w' A (hR R p)) ∧ Below V.heap.size V w') := fun hs V b7 g0 c0 h => by
    obtain ⟨⟨c, gs⟩, hz⟩ := Option.isSome_iff_exists.1 hs
    refine (rHeld_any h.b hC h40 h.p0 (by rw [← hRR]; exact hz)).mono fun e w' k => ?_
    obtain ⟨b, bc, e1, e2, e3, e4⟩ := k
    rw [hz]
    exact ⟨⟨⟨x.l, b, heldN gs, bc⟩, e1, rfl, e2⟩, e4⟩
  have hgl : (gR R).length ≤ 60 ∧ ∀ g ∈ gR R, -9223372036854775808 ≤ g ∧ g ≤ 9223372036854775807 := by
    cases R with
    | none => exact ⟨by simp [gR], fun g hg => by simp [gR] at hg⟩
    | some z =>
      have := wyX_ok hC hRR.symm
      exact ⟨by show z.2.length ≤ 60; omega, fun g hg => by have := this.2.2.2.2.1 g hg; omega⟩
  have HGL := hidD hgl
  obtain ⟨rs, hrs⟩ : ∃ b, b = R.isSome := ⟨_, rfl⟩
  obtain ⟨er, her⟩ : ∃ e, e = eR R := ⟨_, rfl⟩
  rw [← hrs] at C15 C16 C20
  rw [← her] at C12 C13 C14
  have HRS : Hid (rs = false → er = 2 ∧ lR R x.l = 0 ∧ hR R p = []) := by
    intro h
    cases R with
    | none => exact ⟨her, rfl, rfl⟩
    | some z => rw [h] at hrs; cases hrs
  have HRT : Hid (rs = true → er = 0) := by
    intro h
    cases R with
    | none => rw [h] at hrs; cases hrs
    | some z => exact her
  clear hrs her
  obtain ⟨l, pa, m, pcap⟩ := x
  show Calls Tryd.prog 3 #[.slice a n cap, .slice la ln lcap, plV l pa m pcap] w _
  clear hC h40 hP hf hl1 hr1 hRR hdp OP hgl
  cases bf with
  | false =>
    clear CL C12 C13 C14 C15 C16 C19 C20
    go_enter Tryd.func3, Tryd.ntmps3
    go_wp2_with (first
      | (go_at_call 9; refine CF.out.mono ?_; rintro e w1 ⟨rfl, hb1⟩; have HB := hidD (below_aft HB0.out hb1); clear hb1)
      | (go_at_call 10; refine (AW.out _).mono ?_; rintro e w8 ⟨rfl, hb8⟩; have HB8 := hidD (below_aft HB.out hb8); clear hb8))
    go_ret
    exact ⟨rfl, HB8.out⟩
  | true =>
    have DL := hidD (CL.out rfl)
    have D14 := hidD (C14.out rfl)
    have D19 := hidD (C19.out rfl)
    have H60 : Hid (p.length ≤ 60) := h60 rfl
    clear CL C14 C19 h60
    go_enter Tryd.func3, Tryd.ntmps3
    go_upto_region 4 with (first
      | (go_at_call 9; refine CF.out.mono ?_; rintro e w1 ⟨rfl, hb1⟩; have HB := hidD (below_aft HB0.out hb1); have HX := hidD (HX0.out.below hb1); clear hb1; obtain ⟨x0, x1⟩ := HX.out.pl)
      | (go_at_call 11; refine (DL.out _ HB.out).mono ?_; rintro e w2 ⟨g0, c0, rfl, hl, hb2⟩; have HL2 := hidD hl; have HB2 := hidD hb2; clear hl hb2)
      | ((with_reducible show wpList _ _ _ (Oper.mk none (Op.store 26 _ _) _ _ _ none :: _) _ _); refine wpl_storeP w2.heap.size ⟨0, none, 0, 0⟩ ⟨l, some ⟨g0, 0, none⟩, p.length, c0⟩ (At.new w2 _) rfl rfl ?_; intro w2s hs_))
    have hb0 : Below w2.heap.size w2 w2s := by rw [hs_]; exact S2_low (belA (Below.refl _ _)) (Nat.le_refl _)
    have HA7 : Hid (At w2s w2.heap.size (plO l (some ⟨g0, 0, none⟩) p.length c0)) := by rw [hs_]; exact (At.new w2 (plO 0 none 0 0)).set2 (x := ⟨0, none, 0, 0⟩) ⟨l, some ⟨g0, 0, none⟩, p.length, c0⟩
    obtain ⟨b7, hb7⟩ : ∃ b, b = w2.heap.size := ⟨_, rfl⟩
    have H : Hid (L1 w w2s b7 g0 c0 ⟨l, pa, m, pcap⟩ p) := by
      rw [hb7]
      have hbb : Below w.heap.size w w2s := below_aft (below_aft HB.out HB2.out) hb0
      exact ⟨(HX.out.below HB2.out).below hb0, HP0.out.bel hbb, HA7.out, HL2.out.bel hb0, hbb⟩
    have N7 : Hid (w.heap.size < b7 ∧ b7 < w2s.heap.size ∧ g0 < w2s.heap.size) := ⟨by rw [hb7]; exact (HX.out.below HB2.out).lt, by rw [hb7]; exact HA7.out.lt, (HL2.out.bel hb0).mark.2⟩
    rw [← hb7]
    clear hs_ hb0 HA7 hb7 HL2 HB2 HX HB CF HX0 HB0 DL x0 x1
    obtain ⟨x0, x1, y0, y1⟩ := H.out.cells
    go_upto_region 5 with (first
      | (go_at_call 12; refine (C12.out _ b7 g0 c0 H.out).mono ?_; rintro e wA ⟨⟨f1, rfl, ho⟩, hb⟩; have HO_ := hidD ho; have HB_ := hidD hb; clear ho hb)
      | ((with_reducible show wpList _ _ _ (Oper.mk none (Op.store 32 _ _) _ _ _ none :: _) _ _); refine wpl_storeT wA.heap.size zT f1 (At.new wA _) rfl rfl ?_; intro wAs hs_))
    have hb0 : Below wA.heap.size wA wAs := by rw [hs_]; exact below_S5 (belA (Below.refl _ _)) (Nat.le_refl _) _
    have B8A : Hid (At wAs wA.heap.size f1.o) := by rw [hs_]; exact (At.new wA zT.o).set5 f1
    have hbt : Below w2s.heap.size w2s wAs := below_aft HB_.out hb0
    have Nb8 : Hid (w2s.heap.size ≤ wA.heap.size ∧ wA.heap.size < wAs.heap.size) := ⟨HB_.out.size, B8A.out.lt⟩
    obtain ⟨b8, hb8⟩ : ∃ b, b = wA.heap.size := ⟨_, rfl⟩
    rw [← hb8] at B8A Nb8 ⊢
    have O8 : Hid (OwnL wAs w2s.heap.size b8 f1 (cR R)) := by rw [hb8]; exact HO_.out.bel hb0
    clear HO_
    have H := hidD (H.out.bel hbt)
    clear hs_ hb0 hbt hb8 HB_ x0 x1 y0 y1
    obtain ⟨x0, x1, y0, y1⟩ := H.out.cells
    go_upto_region 6 with (first
      | (go_at_call 12; refine (C12.out _ b7 g0 c0 H.out).mono ?_; rintro e wB ⟨⟨f2, rfl, ho⟩, hb⟩; have HO_ := hidD ho; have HB_ := hidD hb; clear ho hb)
      | ((with_reducible show wpList _ _ _ (Oper.mk none (Op.store 32 _ _) _ _ _ none :: _) _ _); refine wpl_storeT wB.heap.size zT f2 (At.new wB _) rfl rfl ?_; intro wBs hs_))
    have hb0 : Below wB.heap.size wB wBs := by rw [hs_]; exact below_S5 (belA (Below.refl _ _)) (Nat.le_refl _) _
    have B10A : Hid (At wBs wB.heap.size f2.o) := by rw [hs_]; exact (At.new wB zT.o).set5 f2
    have hbt : Below wAs.heap.size wAs wBs := below_aft HB_.out hb0
    have Nb10 : Hid (wAs.heap.size ≤ wB.heap.size ∧ wB.heap.size < wBs.heap.size) := ⟨HB_.out.size, B10A.out.lt⟩
    obtain ⟨b10, hb10⟩ : ∃ b, b = wB.heap.size := ⟨_, rfl⟩
    rw [← hb10] at B10A Nb10 ⊢
    have O10 : Hid (OwnL wBs wAs.heap.size b10 f2 (cR R)) := by rw [hb10]; exact HO_.out.bel hb0
    clear HO_
    have B8A := hidD (B8A.out.below hbt)
    have O8 := hidD (O8.out.bel hbt)
    have H := hidD (H.out.bel hbt)
    clear hs_ hb0 hbt hb10 HB_ x0 x1 y0 y1
    obtain ⟨x0, x1, y0, y1⟩ := H.out.cells
    go_upto_region 7 with (go_at_call 13; refine (C13.out _ b7 g0 c0 H.out).mono ?_; rintro e wC ⟨⟨ga, gcap, rfl, hrow⟩, hb⟩; have R12 := hidD hrow; have HB_ := hidD hb; clear hrow hb)
    have hbt : Below wBs.heap.size wBs wC := HB_.out
    have NC : Hid (wBs.heap.size ≤ wC.heap.size) := hbt.size
    have B8A := hidD (B8A.out.below hbt)
    have O8 := hidD (O8.out.bel hbt)
    have B10A := hidD (B10A.out.below hbt)
    have O10 := hidD (O10.out.bel hbt)
    have H := hidD (H.out.bel hbt)
    clear hbt HB_ x0 x1 y0 y1
    obtain ⟨x0, x1, y0, y1⟩ := H.out.cells
    go_upto_region 8 with (first
      | (go_at_call 14; refine (D14.out _ b7 g0 c0 H.out).mono ?_; rintro e wD ⟨⟨A1, rfl, ho⟩, hb⟩; have HO_ := hidD ho; have HB_ := hidD hb; clear ho hb)
      | ((with_reducible show wpList _ _ _ (Oper.mk none (Op.store 26 _ _) _ _ _ none :: _) _ _); refine wpl_storeP wD.heap.size ⟨0, none, 0, 0⟩ A1 (At.new wD _) rfl rfl ?_; intro wDs hs_))
    have hb0 : Below wD.heap.size wD wDs := by rw [hs_]; exact S2_low (belA (Below.refl _ _)) (Nat.le_refl _)
    have B14A : Hid (At wDs wD.heap.size A1.o) := by rw [hs_]; exact (At.new wD (plO 0 none 0 0)).set2 (x := ⟨0, none, 0, 0⟩) A1
    have P14 : Hid (HPt wC.heap.size wDs A1 (lR R l) (hR R p)) := HO_.out.bel hb0
    have Gb14 : Hid (∀ g off, A1.a = some ⟨g, off, none⟩ → g < wD.heap.size) := fun g off e => by
      rcases HO_.out.k with ⟨h0, -⟩ | ⟨g', off', h1, -, h3, -, h5⟩
      · rw [h0] at e; cases e
      · rw [h1] at e
        cases e
        exact (h5.cell (j := 0) (by omega)).2.2
    clear HO_
    have R12 := hidD (own_bel (own_bel R12.out HB_.out) hb0)
    have hbt : Below wC.heap.size wC wDs := below_aft HB_.out hb0
    have Nb14 : Hid (wC.heap.size ≤ wD.heap.size ∧ wD.heap.size < wDs.heap.size) := ⟨HB_.out.size, B14A.out.lt⟩
    obtain ⟨b14, hb14⟩ : ∃ b, b = wD.heap.size := ⟨_, rfl⟩
    rw [← hb14] at B14A Nb14 ⊢
    rw [← hb14] at Gb14
    have B8A := hidD (B8A.out.below hbt)
    have O8 := hidD (O8.out.bel hbt)
    have B10A := hidD (B10A.out.below hbt)
    have O10 := hidD (O10.out.bel hbt)
    have H := hidD (H.out.bel hbt)
    clear hs_ hb0 hbt hb14 HB_ x0 x1 y0 y1
    obtain ⟨x0, x1, y0, y1⟩ := H.out.cells
    go_upto_region 9 with (first
      | (go_at_call 14; refine (D14.out _ b7 g0 c0 H.out).mono ?_; rintro e wE ⟨⟨A2, rfl, ho⟩, hb⟩; have HO_ := hidD ho; have HB_ := hidD hb; clear ho hb)
      | ((with_reducible show wpList _ _ _ (Oper.mk none (Op.store 26 _ _) _ _ _ none :: _) _ _); refine wpl_storeP wE.heap.size ⟨0, none, 0, 0⟩ A2 (At.new wE _) rfl rfl ?_; intro wEs hs_))
    have hb0 : Below wE.heap.size wE wEs := by rw [hs_]; exact S2_low (belA (Below.refl _ _)) (Nat.le_refl _)
    have B16A : Hid (At wEs wE.heap.size A2.o) := by rw [hs_]; exact (At.new wE (plO 0 none 0 0)).set2 (x := ⟨0, none, 0, 0⟩) A2
    have P16 : Hid (HPt wDs.heap.size wEs A2 (lR R l) (hR R p)) := HO_.out.bel hb0
    have Gb16 : Hid (∀ g off, A2.a = some ⟨g, off, none⟩ → g < wE.heap.size) := fun g off e => by
      rcases HO_.out.k with ⟨h0, -⟩ | ⟨g', off', h1, -, h3, -, h5⟩
      · rw [h0] at e; cases e
      · rw [h1] at e
        cases e
        exact (h5.cell (j := 0) (by omega)).2.2
    clear HO_
    have R12 := hidD (own_bel (own_bel R12.out HB_.out) hb0)
    have hbt : Below wDs.heap.size wDs wEs := below_aft HB_.out hb0
    have Nb16 : Hid (wDs.heap.size ≤ wE.heap.size ∧ wE.heap.size < wEs.heap.size) := ⟨HB_.out.size, B16A.out.lt⟩
    obtain ⟨b16, hb16⟩ : ∃ b, b = wE.heap.size := ⟨_, rfl⟩
    rw [← hb16] at B16A Nb16 ⊢
    have B8A := hidD (B8A.out.below hbt)
    have O8 := hidD (O8.out.bel hbt)
    have B10A := hidD (B10A.out.below hbt)
    have O10 := hidD (O10.out.bel hbt)
    have B14A := hidD (B14A.out.below hbt)
    have P14 := hidD (P14.out.bel hbt)
    have H := hidD (H.out.bel hbt)
    clear hs_ hb0 hbt hb16 HB_ x0 x1 y0 y1
    obtain ⟨x0, x1, y0, y1⟩ := H.out.cells
    go_upto_region 10 with (first
      | (go_at_call 15; refine (C15.out _ b7 g0 c0 H.out).mono ?_; rintro e wF ⟨⟨f3, ga3, gcap3, rfl, ht3, hrow⟩, hb⟩; have T18 := hidD ht3; have R19 := hidD hrow; have HB_ := hidD hb; clear ht3 hrow hb)
      | ((with_reducible show wpList _ _ _ (Oper.mk none (Op.store 32 _ _) _ _ _ none :: _) _ _); refine wpl_storeT wF.heap.size zT f3 (At.new wF _) rfl rfl ?_; intro wFs hs_))
    have hb0 : Below wF.heap.size wF wFs := by rw [hs_]; exact below_S5 (belA (Below.refl _ _)) (Nat.le_refl _) _
    have B18A : Hid (At wFs wF.heap.size f3.o) := by rw [hs_]; exact (At.new wF zT.o).set5 f3
    have R12 := hidD (own_bel (own_bel R12.out HB_.out) hb0)
    have R19 := hidD (own_bel R19.out hb0)
    have hbt : Below wEs.heap.size wEs wFs := below_aft HB_.out hb0
    have Nb18 : Hid (wEs.heap.size ≤ wF.heap.size ∧ wF.heap.size < wFs.heap.size) := ⟨HB_.out.size, B18A.out.lt⟩
    obtain ⟨b18, hb18⟩ : ∃ b, b = wF.heap.size := ⟨_, rfl⟩
    rw [← hb18] at B18A Nb18 ⊢
    have B8A := hidD (B8A.out.below hbt)
    have O8 := hidD (O8.out.bel hbt)
    have B10A := hidD (B10A.out.below hbt)
    have O10 := hidD (O10.out.bel hbt)
    have B14A := hidD (B14A.out.below hbt)
    have P14 := hidD (P14.out.bel hbt)
    have B16A := hidD (B16A.out.below hbt)
    have P16 := hidD (P16.out.bel hbt)
    have H := hidD (H.out.bel hbt)
    clear hs_ hb0 hbt hb18 HB_ x0 x1 y0 y1
    obtain ⟨x0, x1, y0, y1⟩ := H.out.cells
    have S : Hid (TS w wFs b7 g0 c0 b8 b10 b14 b16 b18 w2s.heap.size b8 wAs.heap.size b10 wC.heap.size wDs.heap.size f1 f2 f3 A1 A2 ⟨l, pa, m, pcap⟩ p R) := by
      have n1 := N7.out
      have n2 := Nb8.out
      have n3 := Nb10.out
      have n4 := NC.out
      have n5 := Nb14.out
      have n6 := Nb16.out
      have n7 := Nb18.out
      exact ⟨H.out, B8A.out, O8.out, B10A.out, O10.out, B14A.out, P14.out, B16A.out, P16.out, B18A.out, T18.out, by omega, fun g off e => by have := Gb14.out g off e; omega⟩
    clear N7 Nb8 Nb10 NC Nb14 Nb16 Nb18 Gb14 Gb16 B8A O8 B10A O10 B14A P14 B16A P16 B18A H C12 C13 C15 D14 x0 x1 y0 y1
    obtain ⟨l1, a1, n1, k1⟩ := A1
    obtain ⟨l2, a2, n2, k2⟩ := A2
    have C17 : Hid (∀ V, TS w V b7 g0 c0 b8 b10 b14 b16 b18 w2s.heap.size b8 wAs.heap.size b10 wC.heap.size wDs.heap.size f1 f2 f3 ⟨l1, a1, n1, k1⟩ ⟨l2, a2, n2, k2⟩ ⟨l, pa, m, pcap⟩ p R → Calls Tryd.prog 17 #[f1.v, f3.v] V fun e w' => e = .returned (.bool true) ∧ Below V.heap.size V w') := fun V h => sameT_any (cR R) f1 f3 V (h.o8.ty (rg_of _ h.t18)) (h.t18.bel h.h.b)
    obtain ⟨LO, hLO⟩ : ∃ LO : Nat × Nat × Nat × Nat, LO = (w2s.heap.size, wAs.heap.size, wC.heap.size, wDs.heap.size) := ⟨_, rfl⟩
    obtain ⟨lo1, lo2, B1, B2⟩ := LO
    injection hLO with q1 q2
    injection q2 with q2 q3
    injection q3 with q3 q4
    rw [← q1, ← q2, ← q3, ← q4] at C17 S
    clear q1 q2 q3 q4
    obtain ⟨x0, x1, y0, y1⟩ := S.out.h.cells; obtain ⟨-, t0, t1, t2, t3, t4⟩ := S.out.a8.ty; obtain ⟨-, u0, u1, u2, u3, u4⟩ := S.out.a18.ty; obtain ⟨m0, m1⟩ := S.out.a14.pl; simp only [Nat.zero_add] at t0 t1 t2 t3 t4 u0 u1 u2 u3 u4
    cases rs with
    | false =>
      obtain ⟨r1, r2, r3⟩ := HRS.out rfl
      have C18 : Hid (∀ V, TS w V b7 g0 c0 b8 b10 b14 b16 b18 lo1 b8 lo2 b10 B1 B2 f1 f2 f3 ⟨l1, a1, n1, k1⟩ ⟨l2, a2, n2, k2⟩ ⟨l, pa, m, pcap⟩ p R → Calls Tryd.prog 18 #[plV l1 a1 n1 k1, plV 0 none 0 0] V fun e w' => e = .returned (.bool true) ∧ Below V.heap.size V w') := fun V h => by
        have e1 : l1 = 0 := by have := h.p14.l; rw [r2] at this; exact this
        have h2 := h.p14.pt
        rw [r3] at h2
        exact rSame_any h2 (y := ⟨0, none, 0, 0⟩) (q := []) ⟨⟨rfl, Nat.le_refl _, by simp, fun h => absurd rfl h, fun x hx => by simp at hx, fun _ => rfl⟩, by show (-9223372036854775808 : Int) ≤ 0; omega, by show (0 : Int) ≤ 9223372036854775807; omega⟩ true ⟨fun _ => ⟨e1, rfl⟩, fun _ => rfl⟩
      clear r2 r3 HRS HRT C20
      subst r1
      go_wp2_with (first
        | (go_at_call 16; refine (C16.out _ b7 g0 c0 S.out.h).mono ?_; rintro e wn ⟨rfl, hbn⟩; have S2_ := hidD (S.out.bel hbn); clear S x0 x1 y0 y1 t0 t1 t2 t3 t4 u0 u1 u2 u3 u4 m0 m1 hbn; have S := S2_; clear S2_; obtain ⟨x0, x1, y0, y1⟩ := S.out.h.cells; obtain ⟨-, t0, t1, t2, t3, t4⟩ := S.out.a8.ty; obtain ⟨-, u0, u1, u2, u3, u4⟩ := S.out.a18.ty; obtain ⟨m0, m1⟩ := S.out.a14.pl; simp only [Nat.zero_add] at t0 t1 t2 t3 t4 u0 u1 u2 u3 u4)
        | (go_at_call 17; refine (C17.out _ S.out).mono ?_; rintro e wn ⟨rfl, hbn⟩; have S2_ := hidD (S.out.bel hbn); clear S x0 x1 y0 y1 t0 t1 t2 t3 t4 u0 u1 u2 u3 u4 m0 m1 hbn; have S := S2_; clear S2_; obtain ⟨x0, x1, y0, y1⟩ := S.out.h.cells; obtain ⟨-, t0, t1, t2, t3, t4⟩ := S.out.a8.ty; obtain ⟨-, u0, u1, u2, u3, u4⟩ := S.out.a18.ty; obtain ⟨m0, m1⟩ := S.out.a14.pl; simp only [Nat.zero_add] at t0 t1 t2 t3 t4 u0 u1 u2 u3 u4)
        | (go_at_call 18; refine (C18.out _ S.out).mono ?_; rintro e wn ⟨rfl, hbn⟩; have S2_ := hidD (S.out.bel hbn); clear S x0 x1 y0 y1 t0 t1 t2 t3 t4 u0 u1 u2 u3 u4 m0 m1 hbn; have S := S2_; clear S2_; obtain ⟨x0, x1, y0, y1⟩ := S.out.h.cells; obtain ⟨-, t0, t1, t2, t3, t4⟩ := S.out.a8.ty; obtain ⟨-, u0, u1, u2, u3, u4⟩ := S.out.a18.ty; obtain ⟨m0, m1⟩ := S.out.a14.pl; simp only [Nat.zero_add] at t0 t1 t2 t3 t4 u0 u1 u2 u3 u4)
        | (go_at_call 19; refine (D19.out _ b7 g0 c0 S.out.h).mono ?_; rintro e wn ⟨rfl, hbn⟩; have S2_ := hidD (S.out.bel hbn); clear S x0 x1 y0 y1 t0 t1 t2 t3 t4 u0 u1 u2 u3 u4 m0 m1 hbn; have S := S2_; clear S2_; obtain ⟨x0, x1, y0, y1⟩ := S.out.h.cells; obtain ⟨-, t0, t1, t2, t3, t4⟩ := S.out.a8.ty; obtain ⟨-, u0, u1, u2, u3, u4⟩ := S.out.a18.ty; obtain ⟨m0, m1⟩ := S.out.a14.pl; simp only [Nat.zero_add] at t0 t1 t2 t3 t4 u0 u1 u2 u3 u4)
        | (go_at_call 10; refine (AW.out _).mono ?_; rintro e w8 ⟨rfl, hb8⟩; have HB8 := hidD (below_aft S.out.h.b hb8); clear hb8))
      go_ret
      exact ⟨rfl, HB8.out⟩
    | true =>
      have r1 := HRT.out rfl
      subst r1
      have D20 := hidD (C20.out rfl)
      clear HRS HRT C20
      go_upto_region 15 with (first
        | (go_at_call 16; refine (C16.out _ b7 g0 c0 S.out.h).mono ?_; rintro e wn ⟨rfl, hbn⟩; have R12 := hidD (own_bel R12.out hbn); have R19 := hidD (own_bel R19.out hbn); have S2_ := hidD (S.out.bel hbn); clear S x0 x1 y0 y1 t0 t1 t2 t3 t4 u0 u1 u2 u3 u4 m0 m1 hbn; have S := S2_; clear S2_; obtain ⟨x0, x1, y0, y1⟩ := S.out.h.cells; obtain ⟨-, t0, t1, t2, t3, t4⟩ := S.out.a8.ty; obtain ⟨-, u0, u1, u2, u3, u4⟩ := S.out.a18.ty; obtain ⟨m0, m1⟩ := S.out.a14.pl; simp only [Nat.zero_add] at t0 t1 t2 t3 t4 u0 u1 u2 u3 u4)
        | (go_at_call 17; refine (C17.out _ S.out).mono ?_; rintro e wn ⟨rfl, hbn⟩; have R12 := hidD (own_bel R12.out hbn); have R19 := hidD (own_bel R19.out hbn); have S2_ := hidD (S.out.bel hbn); clear S x0 x1 y0 y1 t0 t1 t2 t3 t4 u0 u1 u2 u3 u4 m0 m1 hbn; have S := S2_; clear S2_; obtain ⟨x0, x1, y0, y1⟩ := S.out.h.cells; obtain ⟨-, t0, t1, t2, t3, t4⟩ := S.out.a8.ty; obtain ⟨-, u0, u1, u2, u3, u4⟩ := S.out.a18.ty; obtain ⟨m0, m1⟩ := S.out.a14.pl; simp only [Nat.zero_add] at t0 t1 t2 t3 t4 u0 u1 u2 u3 u4))
      clear C16 C17
      obtain ⟨N, hN⟩ : ∃ N, N = (gR R).length := ⟨_, rfl⟩
      have I12 : Hid (IntR wn ga N gcap (gR R)) := by rw [hN]; exact own_int R12.out HGL.out.2
      have I19 : Hid (IntR wn ga3 N gcap3 (gR R)) := by rw [hN]; exact own_int R19.out HGL.out.2
      have HN : Hid (N = (gR R).length ∧ N ≤ 60) := ⟨hN, by rw [hN]; exact HGL.out.1⟩
      rw [← hN]
      clear R12 R19 HGL hN
      go_loopw [21] (fun v V => ∃ k d : Nat, k ≤ N ∧ v = .int .i64 (k : Int) ∧ V = wn.drewN d) (fun v _ => N - (intOf v).toNat)
      case atStart => exact ⟨0, 0, Nat.zero_le _, rfl, rfl⟩
      case round =>
        obtain ⟨k, d, hk, rfl, rfl⟩ := hrel
        by_cases hlt : k < N
        · obtain ⟨g, hg⟩ : ∃ g, (gR R)[k]? = some g := ⟨_, List.getElem?_eq_getElem (by have := HN.out; omega)⟩
          obtain ⟨q1, o1, ea, hq1, hc1, -⟩ := I12.out.nth hg
          obtain ⟨q2, o2, eb, hq2, hc2, -⟩ := I19.out.nth hg
          subst ea eb
          have j0 : (0 : Int) ≤ (k : Int) := by omega
          have j1 : (k : Int) < (N : Int) := by omega
          have j2 : (k : Int) ≤ 60 := by have := HN.out; omega
          clear hg
          go_wp2_with fail
          go_quiet (fail)
          go_wp2_with fail
          refine ⟨⟨k + 1, _, hlt, rfl, rfl⟩, ?_⟩
          show N - ((k : Int) + 1).toNat < N - (k : Int).toNat
          omega
        · obtain rfl : k = N := by omega
          have z1 : ¬ ((k : Int) < (k : Int)) := by omega
          have S := hidD (S.out.bel (belN (Below.refl _ _) d))
          clear hlt hk I12 I19
          go_upto_region 19 with fail
          obtain ⟨v0, hv0⟩ : ∃ v0, v0 = wn.drewN d := ⟨_, rfl⟩
          rw [← hv0] at S ⊢
          clear hv0
          refine beginH (S := fun W => Below v0.heap.size v0 W) (fun _ _ _ _ _ h => h) (by kernel_rfl) (belN (Below.refl _ _) 1) (fun hq hHeld => ?_)
          refine takeH (i := 0) (d := 144) (.int .i64 0) hq rfl rfl (by kernel_rfl) (by kernel_rfl) (by kernel_rfl) (by rfl) (fun W hSw => by (go_simp; try first | rfl | (rw [IntKind.wrap_i64]; omega) | (intro hh; exfalso; omega))) hHeld ?_
          try simp only [Act.put, List.setIfInBounds_toArray, List.set_cons_zero, List.set_cons_succ]
          refine takeH (i := 1) (d := 145) (.bool false) hq rfl rfl (by kernel_rfl) (by kernel_rfl) (by kernel_rfl) (by rfl) (fun W hSw => by (go_simp; try first | rfl | (rw [IntKind.wrap_i64]; omega) | (intro hh; exfalso; omega))) hHeld ?_
          try simp only [Act.put, List.setIfInBounds_toArray, List.set_cons_zero, List.set_cons_succ]
          refine takeH (i := 2) (d := 146) (.bool false) hq rfl rfl (by kernel_rfl) (by kernel_rfl) (by kernel_rfl) (by rfl) (fun W hSw => by (go_simp; try first | rfl | (rw [IntKind.wrap_i64]; omega) | (intro hh; exfalso; omega))) hHeld ?_
          try simp only [Act.put, List.setIfInBounds_toArray, List.set_cons_zero, List.set_cons_succ]
          refine takeH (i := 3) (d := 147) (.int .i64 0) hq rfl rfl (by kernel_rfl) (by kernel_rfl) (by kernel_rfl) (by rfl) (fun W hSw => by (go_simp; try first | rfl | (rw [IntKind.wrap_i64]; omega) | (intro hh; exfalso; omega))) hHeld ?_
          try simp only [Act.put, List.setIfInBounds_toArray, List.set_cons_zero, List.set_cons_succ]
          refine takeH (i := 4) (d := 148) (.bool false) hq rfl rfl (by kernel_rfl) (by kernel_rfl) (by kernel_rfl) (by rfl) (fun W hSw => by (go_simp; try first | rfl | (rw [IntKind.wrap_i64]; omega) | (intro hh; exfalso; omega))) hHeld ?_
          try simp only [Act.put, List.setIfInBounds_toArray, List.set_cons_zero, List.set_cons_succ]
          refine takeH (i := 5) (d := 149) (.bool false) hq rfl rfl (by kernel_rfl) (by kernel_rfl) (by kernel_rfl) (by rfl) (fun W hSw => by (go_simp; try first | rfl | (rw [IntKind.wrap_i64]; omega) | (intro hh; exfalso; omega))) hHeld ?_
          try simp only [Act.put, List.setIfInBounds_toArray, List.set_cons_zero, List.set_cons_succ]
          refine takeH (i := 6) (d := 150) (.bool false) hq rfl rfl (by kernel_rfl) (by kernel_rfl) (by kernel_rfl) (by rfl) (fun W hSw => by (go_simp; try first | rfl | (rw [IntKind.wrap_i64]; omega) | (intro hh; exfalso; omega))) hHeld ?_
          try simp only [Act.put, List.setIfInBounds_toArray, List.set_cons_zero, List.set_cons_succ]
          refine takeH (i := 7) (d := 151) (.int .i64 0) hq rfl rfl (by kernel_rfl) (by kernel_rfl) (by kernel_rfl) (by rfl) (fun W hSw => by (go_simp; try first | rfl | (rw [IntKind.wrap_i64]; omega) | (intro hh; exfalso; omega))) hHeld ?_
          try simp only [Act.put, List.setIfInBounds_toArray, List.set_cons_zero, List.set_cons_succ]
          refine takeH (i := 8) (d := 152) (.bool false) hq rfl rfl (by kernel_rfl) (by kernel_rfl) (by kernel_rfl) (by rfl) (fun W hSw => by (go_simp; try first | rfl | (rw [IntKind.wrap_i64]; omega) | (intro hh; exfalso; omega))) hHeld ?_
          try simp only [Act.put, List.setIfInBounds_toArray, List.set_cons_zero, List.set_cons_succ]
          refine takeH (i := 9) (d := 153) (.bool false) hq rfl rfl (by kernel_rfl) (by kernel_rfl) (by kernel_rfl) (by rfl) (fun W hSw => by (go_simp; try first | rfl | (rw [IntKind.wrap_i64]; omega) | (intro hh; exfalso; omega))) hHeld ?_
          try simp only [Act.put, List.setIfInBounds_toArray, List.set_cons_zero, List.set_cons_succ]
          refine takeH (i := 10) (d := 154) (.bool false) hq rfl rfl (by kernel_rfl) (by kernel_rfl) (by kernel_rfl) (by rfl) (fun W hSw => by (go_simp; try first | rfl | (rw [IntKind.wrap_i64]; omega) | (intro hh; exfalso; omega))) hHeld ?_
          try simp only [Act.put, List.setIfInBounds_toArray, List.set_cons_zero, List.set_cons_succ]
          refine takeH (i := 11) (d := 155) (plV l1 a1 n1 k1) hq rfl rfl (by kernel_rfl) (by kernel_rfl) (by kernel_rfl) (by rfl) (fun W hSw => by (obtain ⟨e0, e1⟩ := (S.out.a14.below hSw).pl; go_simp; try rfl)) hHeld ?_
          try simp only [Act.put, List.setIfInBounds_toArray, List.set_cons_zero, List.set_cons_succ]
          refine takeH (i := 12) (d := 156) _ hq rfl rfl (by kernel_rfl) (by kernel_rfl) (by kernel_rfl) (by rfl) (fun W hSw => by (go_simp; try first | rfl | (rw [IntKind.wrap_i64]; omega) | (intro hh; exfalso; omega))) hHeld ?_
          try simp only [Act.put, List.setIfInBounds_toArray, List.set_cons_zero, List.set_cons_succ]
          refine takeH (i := 13) (d := 157) _ hq rfl rfl (by kernel_rfl) (by kernel_rfl) (by kernel_rfl) (by rfl) (fun W hSw => by (go_simp; try first | rfl | (rw [IntKind.wrap_i64]; omega) | (intro hh; exfalso; omega))) hHeld ?_
          try simp only [Act.put, List.setIfInBounds_toArray, List.set_cons_zero, List.set_cons_succ]
          refine takeH (i := 14) (d := 158) (plV l pa m pcap) hq rfl rfl (by kernel_rfl) (by kernel_rfl) (by kernel_rfl) (by rfl) (fun W hSw => by (obtain ⟨e0, e1⟩ := (S.out.h.a0.below hSw).pl; go_simp; try rfl)) hHeld ?_
          try simp only [Act.put, List.setIfInBounds_toArray, List.set_cons_zero, List.set_cons_succ]
          refine wpAnyH_ready (rs := [15]) (by kernel_rfl) (by simp) ?_
          refine AllReadyH.cons rfl (fun K hK => ?_) AllReadyH.nil
          go_simp
          refine (D20.out _ b7 g0 c0 (S.out.bel (belN (Below.refl _ _) 1)).h).mono ?_
          rintro e v1 ⟨⟨A, rfl, hAl, hAp⟩, hbn⟩
          have hS_ : Below v0.heap.size v0 v1 := below_aft (belN (Below.refl _ _) 1) hbn
          go_wp2_with fail
          refine hK.out _ _ hS_ (fun hHeld => ?_)
          clear hK K
          try simp only [Act.put, List.setIfInBounds_toArray, List.set_cons_zero, List.set_cons_succ]
          have HAl := hidD hAl
          have HAp := hidD hAp
          clear hAl hAp
          have HS := hidD hS_
          clear hbn hS_
          refine wpAnyH_ready (rs := [16]) (by kernel_rfl) (by simp) ?_
          refine AllReadyH.cons rfl (fun K hK => ?_) AllReadyH.nil
          go_simp
          refine (rSame_any (S.out.bel HS.out).p14.pt HAp.out true ⟨fun _ => ⟨by rw [HAl.out]; exact S.out.p14.l, rfl⟩, fun _ => rfl⟩).mono ?_
          rintro e v2 ⟨rfl, hbn⟩
          have hS_ : Below v0.heap.size v0 v2 := below_aft HS.out hbn
          go_wp2_with fail
          refine hK.out _ _ hS_ (fun hHeld => ?_)
          clear hK K
          try simp only [Act.put, List.setIfInBounds_toArray, List.set_cons_zero, List.set_cons_succ]
          have HS := hidD hS_
          clear hbn hS_
          refine takeH (i := 17) (d := 161) (.bool false) hq rfl rfl (by kernel_rfl) (by kernel_rfl) (by kernel_rfl) (by rfl) (fun W hSw => by (go_simp; try first | rfl | (rw [IntKind.wrap_i64]; omega) | (intro hh; exfalso; omega))) hHeld ?_
          try simp only [Act.put, List.setIfInBounds_toArray, List.set_cons_zero, List.set_cons_succ]
          refine takeH (i := 18) (d := 162) (.bool false) hq rfl rfl (by kernel_rfl) (by kernel_rfl) (by kernel_rfl) (by rfl) (fun W hSw => by (go_simp; try first | rfl | (rw [IntKind.wrap_i64]; omega) | (intro hh; exfalso; omega))) hHeld ?_
          try simp only [Act.put, List.setIfInBounds_toArray, List.set_cons_zero, List.set_cons_succ]
          refine wpAnyH_done (by kernel_rfl) ?_ _
          have S := hidD (S.out.bel HS.out)
          have CO : Hid (∀ V, TS w V b7 g0 c0 b8 b10 b14 b16 b18 lo1 b8 lo2 b10 B1 B2 f1 f2 f3 ⟨l1, a1, n1, k1⟩ ⟨l2, a2, n2, k2⟩ ⟨l, pa, m, pcap⟩ p R → Calls Tryd.prog 21 #[plV l1 a1 n1 k1] V fun e w' => e = .returned (.tuple #[]) ∧ (L1 w w' b7 g0 c0 ⟨l, pa, m, pcap⟩ p ∧ At w' b8 f1.o ∧ OwnL w' lo1 b8 f1 (cR R) ∧ At w' b10 f2.o ∧ OwnL w' lo2 b10 f2 (cR R) ∧ At w' b16 (plO l2 a2 n2 k2) ∧ PAt w' ⟨l2, a2, n2, k2⟩ (hR R p) ∧ At w' b18 f3.o)) := fun V h => by
            rcases h.p14.k with ⟨h1, h2, h3⟩ | ⟨g, off, h1, h2, h3, h4, h5⟩
            · have e1 : a1 = none := h1
              have e2 : n1 = 0 := h2
              have e3 : k1 = 0 := h3
              rw [e1, e2, e3]
              refine (over_nil V l1).mono fun e w' k => ⟨k.1, ?_⟩
              have h' := h.bel k.2
              exact ⟨h'.h, h'.a8, h'.o8, h'.a10, h'.o10, h'.a16, h'.p16.pt, h'.a18⟩
            · have e1 : a1 = some ⟨g, off, none⟩ := h1
              have e2 : k1 = n1 := h2
              have hlen : n1 = (hR R p).length := h.p14.pt.row.len
              rw [e1, e2]
              refine (over_any h5 (by have := hR_len R p; have := H60.out; show n1 ≤ 60; omega) h3).mono fun e w' k => ⟨k.1, ?_⟩
              exact h.over HP0.out h5 h4 (h.gg g off h1) k.2
          have L2l : Hid (l2 = lR R l) := S.out.p16.l
          have A2b : Hid (∀ ad, a2 = some ad → b8 ≤ ad.block) := fun ad e => by
            have hlo := S.out.lo
            rcases S.out.p16.k with ⟨h0, -⟩ | ⟨g2, off2, h1, -, -, h4, -⟩
            · have h0' : a2 = none := h0
              rw [h0'] at e
              cases e
            · have h1' : a2 = some ⟨g2, off2, none⟩ := h1
              rw [h1'] at e
              cases e
              show b8 ≤ g2
              omega
          have LO := hidD S.out.lo
          have T18 := hidD S.out.t18
          clear x0 x1 y0 y1 t0 t1 t2 t3 t4 u0 u1 u2 u3 u4 m0 m1 HAl HAp HS
          obtain ⟨m0, m1⟩ := S.out.a14.pl
          go_upto_region 23 with (go_at_call 21; refine (CO.out _ S.out).mono ?_; rintro e v3 ⟨rfl, hfo⟩; have F := hidD hfo; clear hfo)
          clear CO S m0 m1
          have KD := F.out.2.2.1.kind
          go_loopw [22] (fun v V => ∃ k : Nat, k ≤ f1.n ∧ v = .int .i64 (k : Int) ∧ Out lo1 b8 v3 V) (fun v _ => f1.n - (intOf v).toNat)
          case atStart => exact ⟨0, Nat.zero_le _, rfl, Out.refl _ _ _⟩
          case round =>
            obtain ⟨k, hk, rfl, hO⟩ := hrel
            have HO := hidD hO
            have hA8 := hO.at F.out.2.1 (.inr (Nat.le_refl _))
            obtain ⟨-, t0, t1, t2, t3, t4⟩ := hA8.ty
            simp only [Nat.zero_add] at t0 t1 t2 t3 t4
            have hl8 := hA8.lt
            clear hA8 hO
            by_cases hlt : k < f1.n
            · rcases KD with h0 | ⟨h1, gt, f', ha, hg1, hg2, hAt⟩
              · omega
              · obtain rfl : k = 0 := by omega
                obtain ⟨f'', hA''⟩ := HO.out.form gt f' hAt
                have HG := hidD hA''
                have HNX : Hid (Out lo1 b8 v3 (S5 wr gt zT)) := HO.out.S5 hg1 hg2 hA'' zT
                rw [ha, h1] at t4
                rw [h1]
                clear hA'' hAt hlt hk
                go_wp2_with (((with_reducible show wpList _ _ _ (Oper.mk none (Op.store 32 _ _) _ _ _ none :: _) _ _); refine wpl_storeT gt f'' zT HG.out rfl rfl ?_; intro w9 hw9; have HN9 : Hid (Out lo1 b8 v3 w9) := (by rw [hw9]; exact HNX.out); clear hw9))
                exact ⟨⟨1, by omega, rfl, HN9.out⟩, by decide⟩
            · obtain rfl : k = f1.n := by omega
              have z1 : ¬ ((f1.n : Int) < (f1.n : Int)) := by omega
              obtain ⟨hL, hA8, hO8, hA10, hO10, hA16, hP16, hA18⟩ := F.out
              have hlo := LO.out
              have E : Hid (TE w wr b7 g0 c0 b10 b16 b18 f2 f3 ⟨l2, a2, n2, k2⟩ ⟨l, pa, m, pcap⟩ p R) := te_of HP0.out hL hA10 hO10 hA16 hP16 hA18 T18.out (rg_of _ T18.out) HO.out (by omega) A2b.out
              clear hL hA8 hO8 hA10 hO10 hA16 hP16 hA18 hlo KD F HO hlt hk A2b LO
              go_upto_region 26 with fail
              refine beginH (S := fun W => Below wr.heap.size wr W) (fun _ _ _ _ _ h => h) (by kernel_rfl) (belN (Below.refl _ _) 1) (fun hq hHeld => ?_)
              refine takeH (i := 0) (d := 177) (plV l2 a2 n2 k2) hq rfl rfl (by kernel_rfl) (by kernel_rfl) (by kernel_rfl) (by rfl) (fun W hSw => by (obtain ⟨e0, e1⟩ := (E.out.a16.below hSw).pl; go_simp; try rfl)) hHeld ?_
              try simp only [Act.put, List.setIfInBounds_toArray, List.set_cons_zero, List.set_cons_succ]
              refine takeH (i := 1) (d := 178) _ hq rfl rfl (by kernel_rfl) (by kernel_rfl) (by kernel_rfl) (by rfl) (fun W hSw => by (go_simp; try first | rfl | (rw [IntKind.wrap_i64]; omega) | (intro hh; exfalso; omega))) hHeld ?_
              try simp only [Act.put, List.setIfInBounds_toArray, List.set_cons_zero, List.set_cons_succ]
              refine takeH (i := 2) (d := 179) _ hq rfl rfl (by kernel_rfl) (by kernel_rfl) (by kernel_rfl) (by rfl) (fun W hSw => by (go_simp; try first | rfl | (rw [IntKind.wrap_i64]; omega) | (intro hh; exfalso; omega))) hHeld ?_
              try simp only [Act.put, List.setIfInBounds_toArray, List.set_cons_zero, List.set_cons_succ]
              refine takeH (i := 3) (d := 180) (plV l pa m pcap) hq rfl rfl (by kernel_rfl) (by kernel_rfl) (by kernel_rfl) (by rfl) (fun W hSw => by (obtain ⟨e0, e1⟩ := (E.out.h.a0.below hSw).pl; go_simp; try rfl)) hHeld ?_
              try simp only [Act.put, List.setIfInBounds_toArray, List.set_cons_zero, List.set_cons_succ]
              refine wpAnyH_ready (rs := [4]) (by kernel_rfl) (by simp) ?_
              refine AllReadyH.cons rfl (fun K hK => ?_) AllReadyH.nil
              go_simp
              refine (D20.out _ b7 g0 c0 (E.out.bel (belN (Below.refl _ _) 1)).h).mono ?_
              rintro e y1 ⟨⟨A, rfl, hAl, hAp⟩, hbn⟩
              have hS_ : Below wr.heap.size wr y1 := below_aft (belN (Below.refl _ _) 1) hbn
              go_wp2_with fail
              refine hK.out _ _ hS_ (fun hHeld => ?_)
              clear hK K
              try simp only [Act.put, List.setIfInBounds_toArray, List.set_cons_zero, List.set_cons_succ]
              have HAl := hidD hAl
              have HAp := hidD hAp
              clear hAl hAp
              have HS := hidD hS_
              clear hbn hS_
              refine wpAnyH_ready (rs := [5]) (by kernel_rfl) (by simp) ?_
              refine AllReadyH.cons rfl (fun K hK => ?_) AllReadyH.nil
              go_simp
              refine (rSame_any (E.out.bel HS.out).p16 HAp.out true ⟨fun _ => ⟨by rw [HAl.out]; exact L2l.out, rfl⟩, fun _ => rfl⟩).mono ?_
              rintro e y2 ⟨rfl, hbn⟩
              have hS_ : Below wr.heap.size wr y2 := below_aft HS.out hbn
              go_wp2_with fail
              refine hK.out _ _ hS_ (fun hHeld => ?_)
              clear hK K
              try simp only [Act.put, List.setIfInBounds_toArray, List.set_cons_zero, List.set_cons_succ]
              have HS := hidD hS_
              clear hbn hS_
              refine takeH (i := 6) (d := 183) (.bool true) hq rfl rfl (by kernel_rfl) (by kernel_rfl) (by kernel_rfl) (by rfl) (fun W hSw => by (go_simp; try first | rfl | (rw [IntKind.wrap_i64]; omega) | (intro hh; exfalso; omega))) hHeld ?_
              try simp only [Act.put, List.setIfInBounds_toArray, List.set_cons_zero, List.set_cons_succ]
              refine takeH (i := 7) (d := 184) f2.v hq rfl rfl (by kernel_rfl) (by kernel_rfl) (by kernel_rfl) (by rfl) (fun W hSw => by (obtain ⟨-, e0, e1, e2, e3, e4⟩ := (E.out.a10.below hSw).ty; simp only [Nat.zero_add] at e0 e1 e2 e3 e4; go_simp; try rfl)) hHeld ?_
              try simp only [Act.put, List.setIfInBounds_toArray, List.set_cons_zero, List.set_cons_succ]
              refine takeH (i := 8) (d := 185) f3.v hq rfl rfl (by kernel_rfl) (by kernel_rfl) (by kernel_rfl) (by rfl) (fun W hSw => by (obtain ⟨-, e0, e1, e2, e3, e4⟩ := (E.out.a18.below hSw).ty; simp only [Nat.zero_add] at e0 e1 e2 e3 e4; go_simp; try rfl)) hHeld ?_
              try simp only [Act.put, List.setIfInBounds_toArray, List.set_cons_zero, List.set_cons_succ]
              refine wpAnyH_ready (rs := [9]) (by kernel_rfl) (by simp) ?_
              refine AllReadyH.cons rfl (fun K hK => ?_) AllReadyH.nil
              go_simp
              refine (sameT_any (cR R) f2 f3 _ (E.out.bel HS.out).t10 (T18.out.bel (E.out.bel HS.out).h.b)).mono ?_
              rintro e y3 ⟨rfl, hbn⟩
              have hS_ : Below wr.heap.size wr y3 := below_aft HS.out hbn
              go_wp2_with fail
              refine hK.out _ _ hS_ (fun hHeld => ?_)
              clear hK K
              try simp only [Act.put, List.setIfInBounds_toArray, List.set_cons_zero, List.set_cons_succ]
              have HS := hidD hS_
              clear hbn hS_
              refine takeH (i := 10) (d := 187) (.bool true) hq rfl rfl (by kernel_rfl) (by kernel_rfl) (by kernel_rfl) (by rfl) (fun W hSw => by (go_simp; try first | rfl | (rw [IntKind.wrap_i64]; omega) | (intro hh; exfalso; omega))) hHeld ?_
              try simp only [Act.put, List.setIfInBounds_toArray, List.set_cons_zero, List.set_cons_succ]
              refine takeH (i := 11) (d := 188) (.bool true) hq rfl rfl (by kernel_rfl) (by kernel_rfl) (by kernel_rfl) (by rfl) (fun W hSw => by (go_simp; try first | rfl | (rw [IntKind.wrap_i64]; omega) | (intro hh; exfalso; omega))) hHeld ?_
              try simp only [Act.put, List.setIfInBounds_toArray, List.set_cons_zero, List.set_cons_succ]
              refine takeH (i := 12) (d := 189) (plV l (some ⟨g0, 0, none⟩) p.length c0) hq rfl rfl (by kernel_rfl) (by kernel_rfl) (by kernel_rfl) (by rfl) (fun W hSw => by (obtain ⟨e0, e1⟩ := (E.out.h.a1.below hSw).pl; go_simp; try rfl)) hHeld ?_
              try simp only [Act.put, List.setIfInBounds_toArray, List.set_cons_zero, List.set_cons_succ]
              refine takeH (i := 13) (d := 190) (plV l pa m pcap) hq rfl rfl (by kernel_rfl) (by kernel_rfl) (by kernel_rfl) (by rfl) (fun W hSw => by (obtain ⟨e0, e1⟩ := (E.out.h.a0.below hSw).pl; go_simp; try rfl)) hHeld ?_
              try simp only [Act.put, List.setIfInBounds_toArray, List.set_cons_zero, List.set_cons_succ]
              refine wpAnyH_ready (rs := [14]) (by kernel_rfl) (by simp) ?_
              refine AllReadyH.cons rfl (fun K hK => ?_) AllReadyH.nil
              go_simp
              refine (D19.out _ b7 g0 c0 (E.out.bel HS.out).h).mono ?_
              rintro e y4 ⟨rfl, hbn⟩
              have hS_ : Below wr.heap.size wr y4 := below_aft HS.out hbn
              go_wp2_with fail
              refine hK.out _ _ hS_ (fun hHeld => ?_)
              clear hK K
              try simp only [Act.put, List.setIfInBounds_toArray, List.set_cons_zero, List.set_cons_succ]
              have HS := hidD hS_
              clear hbn hS_
              refine takeH (i := 15) (d := 192) (.bool true) hq rfl rfl (by kernel_rfl) (by kernel_rfl) (by kernel_rfl) (by rfl) (fun W hSw => by (go_simp; try first | rfl | (rw [IntKind.wrap_i64]; omega) | (intro hh; exfalso; omega))) hHeld ?_
              try simp only [Act.put, List.setIfInBounds_toArray, List.set_cons_zero, List.set_cons_succ]
              refine takeH (i := 16) (d := 193) (.bool true) hq rfl rfl (by kernel_rfl) (by kernel_rfl) (by kernel_rfl) (by rfl) (fun W hSw => by (go_simp; try first | rfl | (rw [IntKind.wrap_i64]; omega) | (intro hh; exfalso; omega))) hHeld ?_
              try simp only [Act.put, List.setIfInBounds_toArray, List.set_cons_zero, List.set_cons_succ]
              refine wpAnyH_ready (rs := [17]) (by kernel_rfl) (by simp) ?_
              refine AllReadyH.cons rfl (fun K hK => ?_) AllReadyH.nil
              go_simp
              refine (AW.out _).mono ?_
              rintro e y5 ⟨rfl, hbn⟩
              have hS_ : Below wr.heap.size wr y5 := below_aft HS.out hbn
              go_wp2_with fail
              refine hK.out _ _ hS_ (fun hHeld => ?_)
              clear hK K
              try simp only [Act.put, List.setIfInBounds_toArray, List.set_cons_zero, List.set_cons_succ]
              have HS := hidD hS_
              clear hbn hS_
              refine takeH (i := 18) (d := 195) (.bool true) hq rfl rfl (by kernel_rfl) (by kernel_rfl) (by kernel_rfl) (by rfl) (fun W hSw => by (go_simp; try first | rfl | (rw [IntKind.wrap_i64]; omega) | (intro hh; exfalso; omega))) hHeld ?_
              try simp only [Act.put, List.setIfInBounds_toArray, List.set_cons_zero, List.set_cons_succ]
              refine takeH (i := 19) (d := 6) (.bool true) hq rfl rfl (by kernel_rfl) (by kernel_rfl) (by kernel_rfl) (by rfl) (fun W hSw => by (go_simp; try first | rfl | (rw [IntKind.wrap_i64]; omega) | (intro hh; exfalso; omega))) hHeld ?_
              try simp only [Act.put, List.setIfInBounds_toArray, List.set_cons_zero, List.set_cons_succ]
              refine wpAnyH_done (by kernel_rfl) ?_ _
              go_wp2_with fail
              go_ret
              exact ⟨rfl, below_aft E.out.h.b HS.out⟩
end Go.Proofs.YtnohcppipkpgmaaDoor
namespace Go.Proofs.YtnohcppipkpgmaaDoor
open Go.ChangeShapes Go.WideShapes Go.ChangeAt Go.RowKit Go.Joins Go.Shelf Go.WideElems Go.Maps
set_option linter.unusedVariables false
set_option linter.unusedSimpArgs false

theorem own : ownKnob Tryd.prog.godebug = none := by kernel_rfl
theorem laidOut : laidOutB Tryd.prog = true := by kernel_rfl
/-- A row with listed variables, out of a contract that is also told the world's shape. -/
theorem lift_shaped {H : Type} {enc : TypeId × Value → H} {a : Assume} {C : Checked} {os : Os} {f : FuncId} {fn : Func} {s : ChangeSpec} {conds : List PathCond} {apart fresh handsOn again : Bool} {X : World → Array Value → Prop}
    (hX : ∀ (w w' : World) (args : Array Value), w.heap = w'.heap → X w args → X w' args)
    (own : ownKnob C.prog.godebug = none) (started : os.Started) (noInit : C.prog.inits.idxOf? f = none) (hfn : C.prog.funcs[f]? = some fn)
    (witness : ∃ (w : World) (tape : Tape) (i : Input), w.os = os ∧ (w.forCall tape i).Shaped C.prog ∧ i.vars = [] ∧ Input.okWide C.prog (w.forCall tape i) .any w.heap.size f i ∧
      ((s.pre enc C.prog fn conds apart (w.forCall tape i).memory i.args ∧ X (w.forCall tape i).memory i.args) ∧ sizedMet enc C.prog fn (OpenSpec.ofChange s) apart (w.forCall tape i).memory i.args) ∧ a.holds C.prog (lone (Frame.enter C.prog f i.args .normal) [] (w.forCall tape i)))
    (contract : ∀ (W : World) (base : Nat) (args : Array Value) (ds gs : List (DataW H)) (before : List MemPlace),
      (∀ (j : Nat) t v, fn.params[j]? = some t → args[j]? = some v → Value.okWide C.prog W .any base t v) →
      DataW.Whole enc C.prog fn.params.toList s.vars apart W args.toList ds gs before → X W args → W.ShapedOpen C.prog →
      Calls C.prog f args W fun e W' => ∃ v, e = .returned v ∧ s.post enc C.prog fn apart fresh handsOn again W args v W') :
    ReturnsInHanded a C os f .any (fun w args => (s.pre enc C.prog fn conds apart w args ∧ X w args) ∧ sizedMet enc C.prog fn (OpenSpec.ofChange s) apart w args) (s.post enc C.prog fn apart fresh handsOn again) := by
  apply returnsInHanded_of_calls own started noInit witness
  rintro w tape i - shape - ok ⟨⟨⟨ds, gs, before, whole, -⟩, x⟩, -⟩ -
  obtain ⟨_, _, _, fn', is, _, _, _, _, vals⟩ := ok
  cases Option.some.inj (is.symm.trans hfn)
  refine (contract (w.forCall tape i) w.heap.size i.args ds gs before vals (whole.of_heap (w' := w.forCall tape i) (by rfl)) (hX _ _ _ (by rfl) x) shape).mono ?_
  rintro e W' ⟨v, rfl, post⟩
  exact ChangeSpec.post_blind post
abbrev laidT : List (String × DataW Unit) := [("math/bits.deBruijn32tab", Rows.laid_math_bits_deBruijn32tab), ("math/bits.deBruijn64tab", Rows.laid_math_bits_deBruijn64tab), ("internal/strconv.uint64pow10", Rows.laid_internal_strconv_uint64pow10)]
set_option maxRecDepth 100000 in
theorem door_metT (os : Os) (args : Array Value) : laidMetH Tryd.prog laidT ((World.laidAll Tryd.prog os laidT).forCall (fun _ _ => 0) ⟨#[], args, []⟩).memory := by
  rw [MakeChecks.laidMetH_plain _ _ _ (by kernel_rfl)]
  exact laidMet_laidAll _ (by kernel_rfl) (by kernel_rfl)
theorem lt_of_cell0 {w : World} {b off : Nat} {v : Value} (h : w.cell? ⟨b, off, none⟩ = some v) : b < w.heap.size := by
  rcases Nat.lt_or_ge b w.heap.size with h1 | h1
  · exact h1
  · rw [World.cell?] at h
    simp [Array.getElem?_eq_none h1] at h
theorem trod_struct2 {H : Type} {enc : TypeId × Value → H} {P : Program} {w : World} {base : Nat} {spare : Nat → Bool} {held : Bool} {t : TypeId} {f0 f1 : Field} {fuel : Nat} {cs : List Value} {x : DataW H × List MemPlace} (ht : P.underlying t = some (.struct #[f0, f1])) (h : DataW.trod enc P w base spare held fuel t cs = some x) :
    ∃ y0 y1 n, fuel = n + 1 ∧ cs.length = P.cellsOf t ∧ DataW.trod enc P w base spare held n f0.type ((cs.drop f0.offset).take (P.cellsOf f0.type)) = some y0 ∧ DataW.trod enc P w base spare held n f1.type ((cs.drop f1.offset).take (P.cellsOf f1.type)) = some y1 := by
  obtain ⟨xs, n, hfu, rfl, hl, hlen, hf⟩ := DataW.trod_struct ht h
  match xs, hlen with
  | [y0, y1], _ => exact ⟨y0, y1, n, hfu, hl, by simpa using hf 0 f0 rfl, by simpa using hf 1 f1 rfl⟩
theorem two26 : ∃ f0 f1, Tryd.prog.underlying 26 = some (.struct #[f0, f1]) ∧ f0.type = 3 ∧ f1.type = 24 ∧ f0.offset = 0 ∧ f1.offset = 1 := ⟨_, _, Tryd.underlying26, rfl, rfl, rfl, rfl⟩
theorem ones26 : Tryd.prog.cellsOf 3 = 1 ∧ Tryd.prog.cellsOf 24 = 1 ∧ Tryd.prog.cellsOf 26 = 2 ∧ Tryd.prog.cellsOf 62 = 1 := ⟨by kernel_rfl, by kernel_rfl, by kernel_rfl, by kernel_rfl⟩
set_option maxRecDepth 100000 in
/-- A path opened. -/
theorem open_path {H : Type} {enc : TypeId × Value → H} {W : World} {base : Nat} {sp : Nat → Bool} {held : Bool} (n : Nat) (cs : List Value) (x : DataW H × List MemPlace) (h : DataW.trod enc Tryd.prog W base sp held n 24 cs = some x) :
    ∃ a n cap X, cs = [.slice a n cap] ∧ IntR W a n cap X := by
  rcases DataW.trod_slice Tryd.underlying24 h with ⟨hcs, _⟩ | ⟨a, len0, cap0, elems, rest, m2, hm2, hcs, _, hb, hl, hc, hel, hx, _, _⟩
  · exact ⟨none, 0, 0, [], hcs, ⟨rfl, Nat.le_refl _, by simp, fun hne => absurd rfl hne, fun x hx => by simp at hx, fun _ => rfl⟩⟩
  · rw [ones26.2.2.2] at hx
    have each : ∀ i, i < len0 → ∃ x : Int, W.cell? (a.add i) = some (.int .i64 x) ∧ (-9223372036854775808 ≤ x ∧ x ≤ 9223372036854775807) := fun i hi => by
      have hxi := hx i hi
      rw [List.getElem?_eq_getElem (by omega), Option.bind_eq_some_iff] at hxi
      obtain ⟨cs', hc1, hc2⟩ := hxi
      obtain ⟨x, q0, _, w0⟩ := DataW.trod_int Tryd.underlying62 hc2
      subst q0
      obtain ⟨_, hln, hcell⟩ := World.cells?_some hc1
      have g0 := hcell 0 (by omega)
      simp [Lit.wf, IntKind.min, IntKind.max, IntKind.signed, IntKind.bits] at w0
      refine ⟨x, by simpa [Addr.add] using g0, by omega⟩
    obtain ⟨q, hq⟩ := Deep.choose_lt each
    refine ⟨some a, len0, cap0, (List.range len0).map q, hcs, ⟨by simp, by omega, by omega, fun hne => ?_, fun x hx => ?_, fun e => by cases e⟩⟩
    · have hpos : 0 < len0 := by
        rcases Nat.eq_zero_or_pos len0 with h | h
        · subst h; exact absurd rfl hne
        · exact h
      obtain ⟨b, off, spot⟩ := a
      have hc0 := (hq 0 hpos).1
      have hspot : spot = none := by simpa [Addr.add] using World.cell?_spot hc0
      subst hspot
      refine ⟨b, off, rfl, ?_, fun i x hxi => ?_⟩
      · have := (hq 0 hpos).1
        rw [Addr.add_lit] at this
        exact lt_of_cell0 this
      · have hi : i < len0 := by simpa using (List.getElem?_eq_some_iff.1 hxi).1
        rw [List.getElem?_map, List.getElem?_range hi] at hxi
        cases hxi
        have := (hq i hi).1
        rw [Addr.add_lit] at this
        exact this
    · simp at hx
      obtain ⟨i, hi, rfl⟩ := hx
      exact (hq i hi).2
set_option maxRecDepth 100000 in
/-- A place opened. -/
theorem open_place {H : Type} {enc : TypeId × Value → H} {W : World} {r : Reach} {b0 base : Nat} {v : Value} {d : DataW H} {p : List MemPlace} {held : Bool} (hval : Value.okWide Tryd.prog W r b0 26 v) (h : DataW.Trod enc Tryd.prog W base (fun _ => true) held 26 v d p) :
    ∃ (x : Pt) (q : List Int), v = x.v ∧ PAt W x q := by
  obtain ⟨cs, rfl, hsz⟩ := okWide_struct Tryd.underlying26 hval
  rw [ones26.2.2.1] at hsz
  obtain ⟨fuel, hf⟩ := h
  obtain ⟨f0, f1, hu, e0, e1, o0, o1⟩ := two26
  obtain ⟨y0, y1, m, hm, hlen, h0, h1⟩ := trod_struct2 hu hf
  obtain ⟨l⟩ := cs
  match l, hsz with
  | [c0, c1], _ =>
    rw [o0, e0, ones26.1] at h0
    rw [o1, e1, ones26.2.1] at h1
    simp [Value.cells] at h0 h1
    obtain ⟨x, q0, _, w0⟩ := DataW.trod_int Tryd.underlying3 h0
    simp [Lit.wf, IntKind.min, IntKind.max, IntKind.signed, IntKind.bits] at w0
    obtain ⟨a, n, cap, X, q1, hX⟩ := open_path _ _ _ h1
    simp at q0 q1
    subst q0 q1
    exact ⟨⟨x, a, n, cap⟩, X, rfl, ⟨hX, by show (-9223372036854775808 : Int) ≤ x; omega, by show x ≤ (9223372036854775807 : Int); omega⟩⟩
theorem laid_pow : (Rows.laid_internal_strconv_uint64pow10 : DataW Unit) = Lib.tabData .u64 Lib.pow10Tab := by kernel_rfl
theorem laidMet_tail {P : Program} {x : String × DataW Unit} {l : List (String × DataW Unit)} {W : World} (h : laidMet P (x :: l) W) : laidMet P l W := by
  obtain ⟨ps, ⟨g', t', cs, fuel, p, q, hg', ht', hvar, hd, hrest, e⟩, hnd, hcell⟩ := h
  subst e
  exact ⟨q, hrest, (List.nodup_append.1 hnd).2.1, fun b off hm => hcell b off (List.mem_append_right _ hm)⟩
theorem pow_of_laid {W : World} (hL : laidMetH Tryd.prog laidT W) : Lib.TabIs Tryd.prog W "internal/strconv.uint64pow10" .u64 Lib.pow10Tab := by
  have h : laidMet Tryd.prog laidT W := hL
  have h' := laidMet_tail (laidMet_tail h)
  rw [laid_pow] at h'
  exact Lib.tabIs_of_head (g := 0) (t := 145) (e := 132) (n := 20) (by kernel_rfl) (by kernel_rfl) Tryd.underlying145 Tryd.underlying132 (by kernel_rfl) (by kernel_rfl) h'
theorem tab_of_laid {W : World} (hL : laidMetH Tryd.prog laidT W) : TabOk W := fun W' hW' => tab_stays (by kernel_rfl : Tryd.prog.globalNamed "internal/strconv.uint64pow10" = some 0) (pow_of_laid hL) hW' (Nat.le_refl _)
end Go.Proofs.YtnohcppipkpgmaaDoor
namespace Go.Proofs.YtnohcppipkpgmaaDoor
open Go.ChangeShapes Go.WideShapes Go.ChangeAt Go.RowKit Go.Joins Go.Shelf Go.WideElems Go.Maps
set_option linter.unusedVariables false
set_option linter.unusedSimpArgs false

theorem one32 : ∃ f0 f1 f2 f3 f4, Tryd.prog.underlying 32 = some (.struct #[f0, f1, f2, f3, f4]) ∧ f0.type = 30 ∧ f1.type = 4 ∧ f2.type = 3 ∧ f3.type = 3 ∧ f4.type = 23 ∧ f0.offset = 0 ∧ f1.offset = 1 ∧ f2.offset = 2 ∧ f3.offset = 3 ∧ f4.offset = 4 := ⟨_, _, _, _, _, Tryd.underlying32, rfl, rfl, rfl, rfl, rfl, rfl, rfl, rfl, rfl, rfl⟩
theorem ones32 : Tryd.prog.cellsOf 30 = 1 ∧ Tryd.prog.cellsOf 4 = 1 ∧ Tryd.prog.cellsOf 3 = 1 ∧ Tryd.prog.cellsOf 23 = 1 ∧ Tryd.prog.cellsOf 32 = 5 := ⟨by kernel_rfl, by kernel_rfl, by kernel_rfl, by kernel_rfl, by kernel_rfl⟩
theorem trod_struct5 {H : Type} {enc : TypeId × Value → H} {P : Program} {w : World} {base : Nat} {spare : Nat → Bool} {held : Bool} {t : TypeId} {f0 f1 f2 f3 f4 : Field} {fuel : Nat} {cs : List Value} {x : DataW H × List MemPlace} (ht : P.underlying t = some (.struct #[f0, f1, f2, f3, f4])) (h : DataW.trod enc P w base spare held fuel t cs = some x) :
    ∃ y0 y1 y2 y3 y4 n, fuel = n + 1 ∧ cs.length = P.cellsOf t ∧ DataW.trod enc P w base spare held n f0.type ((cs.drop f0.offset).take (P.cellsOf f0.type)) = some y0 ∧
      DataW.trod enc P w base spare held n f1.type ((cs.drop f1.offset).take (P.cellsOf f1.type)) = some y1 ∧ DataW.trod enc P w base spare held n f2.type ((cs.drop f2.offset).take (P.cellsOf f2.type)) = some y2 ∧
      DataW.trod enc P w base spare held n f3.type ((cs.drop f3.offset).take (P.cellsOf f3.type)) = some y3 ∧ DataW.trod enc P w base spare held n f4.type ((cs.drop f4.offset).take (P.cellsOf f4.type)) = some y4 := by
  obtain ⟨xs, n, hfu, rfl, hl, hlen, hf⟩ := DataW.trod_struct ht h
  match xs, hlen with
  | [y0, y1, y2, y3, y4], _ => exact ⟨y0, y1, y2, y3, y4, n, hfu, hl, by simpa using hf 0 f0 rfl, by simpa using hf 1 f1 rfl, by simpa using hf 2 f2 rfl, by simpa using hf 3 f3 rfl, by simpa using hf 4 f4 rfl⟩
set_option maxRecDepth 100000 in
theorem open_ty {H : Type} {enc : TypeId × Value → H} {W : World} {base : Nat} {sp : Nat → Bool} {held : Bool} : ∀ (n : Nat) (cs : List Value) (x : DataW H × List MemPlace), DataW.trod enc Tryd.prog W base sp held n 32 cs = some x →
    ∃ (f : Fv) (t : Ty), cs = [.int .u8 (f.k : Int), .bool f.m, .int .i64 f.r, .int .i64 f.s, .slice f.a f.n f.cap] ∧ TyAt W f t := by
  intro n
  induction n using Nat.strongRecOn with
  | ind n ih =>
    intro cs x h
    obtain ⟨f0, f1, f2, f3, f4, hu, e0, e1, e2, e3, e4, o0, o1, o2, o3, o4⟩ := one32
    obtain ⟨k0, k1, k2, k3, k4⟩ := ones32
    obtain ⟨y0, y1, y2, y3, y4, m, hm, hlen, h0, h1, h2, h3, h4⟩ := trod_struct5 hu h
    rw [k4] at hlen
    match cs, hlen with
    | [c0, c1, c2, c3, c4], _ =>
      rw [o0, e0, k0] at h0
      rw [o1, e1, k1] at h1
      rw [o2, e2, k2] at h2
      rw [o3, e3, k2] at h3
      rw [o4, e4, k3] at h4
      obtain ⟨k, q0, _, w0⟩ := DataW.trod_int Tryd.underlying30 h0
      obtain ⟨mb, q1, _⟩ := DataW.trod_bool Tryd.underlying4 h1
      obtain ⟨r, q2, _, w2⟩ := DataW.trod_int Tryd.underlying3 h2
      obtain ⟨s, q3, _, w3⟩ := DataW.trod_int Tryd.underlying3 h3
      simp at q0 q1 q2 q3
      subst q0 q1 q2 q3
      simp [Lit.wf, IntKind.min, IntKind.max, IntKind.signed, IntKind.bits] at w0 w2 w3
      have hk : ((k.toNat : Nat) : Int) = k := by omega
      simp at h4
      rcases DataW.trod_slice Tryd.underlying23 h4 with ⟨hcs, _⟩ | ⟨a, len, cap, elems, rest, m2, hm2, hcs, _, hb, hl, hc, hel, hx, _, _⟩
      · simp at hcs
        subst hcs
        exact ⟨⟨k.toNat, mb, r, s, none, 0, 0⟩, .mk k.toNat mb r s [], by simp only [hk], .mk _ _ _ _ none 0 0 [] (fun _ => ⟨0, false, 0, 0, none, 0, 0⟩) rfl (by simp) (by omega) (by omega) (by omega) (by omega) (by omega) (fun hh => absurd rfl hh) (fun i t ht => by simp at ht)⟩
      · simp at hcs
        subst hcs
        rw [k4] at hx
        have each : ∀ i, i < len → ∃ ft : Fv × Ty, TyAt W ft.1 ft.2 ∧ W.cell? (a.add (i * 5)) = some (.int .u8 (ft.1.k : Int)) ∧ W.cell? (a.add (i * 5 + 1)) = some (.bool ft.1.m) ∧ W.cell? (a.add (i * 5 + 2)) = some (.int .i64 ft.1.r) ∧ W.cell? (a.add (i * 5 + 3)) = some (.int .i64 ft.1.s) ∧ W.cell? (a.add (i * 5 + 4)) = some (.slice ft.1.a ft.1.n ft.1.cap) := fun i hi => by
          have hxi := hx i hi
          rw [List.getElem?_eq_getElem (by omega), Option.bind_eq_some_iff] at hxi
          obtain ⟨cs', hc1, hc2⟩ := hxi
          obtain ⟨f', t', hcs', ht'⟩ := ih m2 (by omega) cs' _ hc2
          subst hcs'
          obtain ⟨_, hln, hcell⟩ := World.cells?_some hc1
          have g0 := hcell 0 (by omega)
          have g1 := hcell 1 (by omega)
          have g2 := hcell 2 (by omega)
          have g3 := hcell 3 (by omega)
          have g4 := hcell 4 (by omega)
          rw [Deep.add_add] at g1 g2 g3 g4
          exact ⟨(f', t'), ht', by simpa [Addr.add] using g0, by simpa using g1, by simpa using g2, by simpa using g3, by simpa using g4⟩
        haveI : Inhabited (Fv × Ty) := ⟨(⟨0, false, 0, 0, none, 0, 0⟩, .mk 0 false 0 0 [])⟩
        obtain ⟨q, hq⟩ := Deep.choose_lt each
        refine ⟨⟨k.toNat, mb, r, s, some a, len, cap⟩, .mk k.toNat mb r s ((List.range len).map fun i => (q i).2), by simp only [hk], .mk _ _ _ _ (some a) len cap _ (fun i => (q i).1) (by simp) (by omega) (by omega) (by omega) (by omega) (by omega) (by omega) (fun hne => ?_) (fun i t ht => ?_)⟩
        · have hpos : 0 < len := by
            rcases Nat.eq_zero_or_pos len with h | h
            · subst h; exact absurd rfl hne
            · exact h
          obtain ⟨b, off, spot⟩ := a
          have hc0 := (hq 0 hpos).2.1
          have hspot : spot = none := by simpa [Addr.add] using World.cell?_spot hc0
          subst hspot
          refine ⟨b, off, rfl, fun i hi => ?_⟩
          simp at hi
          obtain ⟨_, g0, g1, g2, g3, g4⟩ := hq i hi
          rw [Addr.add_lit] at g0 g1 g2 g3 g4
          exact ⟨lt_of_cell0 g0, g0, g1, g2, g3, g4⟩
        · rw [List.getElem?_map] at ht
          rcases Nat.lt_or_ge i len with hi | hi
          · rw [List.getElem?_range hi] at ht
            cases ht
            exact (hq i hi).1
          · rw [List.getElem?_eq_none (by simpa using hi)] at ht
            cases ht
theorem two69 : ∃ f0 f1, Tryd.prog.underlying 69 = some (.struct #[f0, f1]) ∧ f0.type = 9 ∧ f1.type = 32 ∧ f0.offset = 0 ∧ f1.offset = 1 := ⟨_, _, Tryd.underlying69, rfl, rfl, rfl, rfl⟩
theorem two66 : ∃ f0 f1, Tryd.prog.underlying 66 = some (.struct #[f0, f1]) ∧ f0.type = 9 ∧ f1.type = 64 ∧ f0.offset = 0 ∧ f1.offset = 1 := ⟨_, _, Tryd.underlying66, rfl, rfl, rfl, rfl⟩
theorem ones69 : Tryd.prog.cellsOf 9 = 1 ∧ Tryd.prog.cellsOf 64 = 1 ∧ Tryd.prog.cellsOf 66 = 2 ∧ Tryd.prog.cellsOf 69 = 6 := ⟨by kernel_rfl, by kernel_rfl, by kernel_rfl, by kernel_rfl⟩
set_option maxRecDepth 100000 in
theorem open_field {H : Type} {enc : TypeId × Value → H} {W : World} {base : Nat} {sp : Nat → Bool} {held : Bool} (n : Nat) (cs : List Value) (x : DataW H × List MemPlace) (h : DataW.trod enc Tryd.prog W base sp held n 69 cs = some x) :
    ∃ (nm : ByteArray) (f : Fv) (t : Ty), cs = [.string nm, .int .u8 (f.k : Int), .bool f.m, .int .i64 f.r, .int .i64 f.s, .slice f.a f.n f.cap] ∧ TyAt W f t := by
  obtain ⟨f0, f1, hu, e0, e1, o0, o1⟩ := two69
  obtain ⟨k0, -, -, k3⟩ := ones69
  obtain ⟨y0, y1, m, hm, hlen, h0, h1⟩ := trod_struct2 hu h
  rw [k3] at hlen
  match cs, hlen with
  | [c0, c1, c2, c3, c4, c5], _ =>
    rw [o0, e0, k0] at h0
    rw [o1, e1, ones32.2.2.2.2] at h1
    obtain ⟨nm, q0, -⟩ := DataW.trod_string Tryd.underlying9 h0
    obtain ⟨f, t, q1, ht⟩ := open_ty _ _ _ h1
    simp at q0 q1
    obtain ⟨r1, r2, r3, r4, r5⟩ := q1
    exact ⟨nm, f, t, by rw [q0, r1, r2, r3, r4, r5], ht⟩
set_option maxRecDepth 100000 in
theorem open_fields {H : Type} {enc : TypeId × Value → H} {W : World} {base : Nat} {sp : Nat → Bool} {held : Bool} (n : Nat) (cs : List Value) (x : DataW H × List MemPlace) (h : DataW.trod enc Tryd.prog W base sp held n 64 cs = some x) :
    ∃ (fa : Option Addr) (fcap : Nat) (fs : List Ty), cs = [.slice fa fs.length fcap] ∧ FdAt W fa fs := by
  rcases DataW.trod_slice Tryd.underlying64 h with ⟨hcs, _⟩ | ⟨a, len, cap, elems, rest, m2, hm2, hcs, _, hb, hl, hc, hel, hx, _, _⟩
  · exact ⟨none, 0, [], hcs, by simp, fun hne => absurd rfl hne⟩
  · rw [ones69.2.2.2] at hx
    have each : ∀ i, i < len → ∃ q : ByteArray × Fv × Ty, TyAt W q.2.1 q.2.2 ∧ W.cell? (a.add (i * 6)) = some (.string q.1) ∧ W.cell? (a.add (i * 6 + 1)) = some (.int .u8 (q.2.1.k : Int)) ∧ W.cell? (a.add (i * 6 + 2)) = some (.bool q.2.1.m) ∧ W.cell? (a.add (i * 6 + 3)) = some (.int .i64 q.2.1.r) ∧ W.cell? (a.add (i * 6 + 4)) = some (.int .i64 q.2.1.s) ∧ W.cell? (a.add (i * 6 + 5)) = some (.slice q.2.1.a q.2.1.n q.2.1.cap) := fun i hi => by
      have hxi := hx i hi
      rw [List.getElem?_eq_getElem (by omega), Option.bind_eq_some_iff] at hxi
      obtain ⟨cs', hc1, hc2⟩ := hxi
      obtain ⟨nm, f', t', hcs', ht'⟩ := open_field m2 cs' _ hc2
      subst hcs'
      obtain ⟨_, hln, hcell⟩ := World.cells?_some hc1
      have g0 := hcell 0 (by omega)
      have g1 := hcell 1 (by omega)
      have g2 := hcell 2 (by omega)
      have g3 := hcell 3 (by omega)
      have g4 := hcell 4 (by omega)
      have g5 := hcell 5 (by omega)
      rw [Deep.add_add] at g1 g2 g3 g4 g5
      exact ⟨(nm, f', t'), ht', by simpa [Addr.add] using g0, by simpa using g1, by simpa using g2, by simpa using g3, by simpa using g4, by simpa using g5⟩
    haveI : Inhabited (ByteArray × Fv × Ty) := ⟨(⟨#[]⟩, ⟨0, false, 0, 0, none, 0, 0⟩, .mk 0 false 0 0 [])⟩
    obtain ⟨q, hq⟩ := Deep.choose_lt each
    refine ⟨some a, cap, (List.range len).map fun i => (q i).2.2, by simpa using hcs, by simp; omega, fun hne => ?_⟩
    have hpos : 0 < len := by
      rcases Nat.eq_zero_or_pos len with h | h
      · subst h; exact absurd rfl hne
      · exact h
    obtain ⟨b, off, spot⟩ := a
    have hc0 := (hq 0 hpos).2.1
    have hspot : spot = none := by simpa [Addr.add] using World.cell?_spot hc0
    subst hspot
    refine ⟨b, off, rfl, fun i t hi => ?_⟩
    have hil : i < len := by simpa using (List.getElem?_eq_some_iff.1 hi).1
    rw [List.getElem?_map, List.getElem?_range hil] at hi
    cases hi
    obtain ⟨g6, g0, g1, g2, g3, g4, g5⟩ := hq i hil
    rw [Addr.add_lit] at g0 g1 g2 g3 g4 g5
    exact ⟨(q i).2.1, (q i).1, g0, ⟨lt_of_cell0 g0, g1, g2, g3, g4, g5⟩, g6⟩
set_option maxRecDepth 100000 in
/-- A list of structs opened. -/
theorem open_structs {H : Type} {enc : TypeId × Value → H} {W : World} {r : Reach} {b0 base : Nat} {v : Value} {d : DataW H} {p : List MemPlace} {held : Bool} (hval : Value.okWide Tryd.prog W r b0 22 v) (h : DataW.Trod enc Tryd.prog W base (fun _ => true) held 22 v d p) :
    ∃ a n cap ss, v = .slice a n cap ∧ StAt W a n cap ss := by
  obtain ⟨a0, len0, cap0, rfl⟩ := okWide_slice Tryd.underlying22 hval
  obtain ⟨fuel, hf⟩ := h
  rcases DataW.trod_slice Tryd.underlying22 hf with ⟨hcs, _⟩ | ⟨a, len, cap, elems, rest, m2, hm2, hcs, _, hb, hl, hc, hel, hx, _, _⟩
  · simp [Value.cells] at hcs
    obtain ⟨rfl, rfl, rfl⟩ := hcs
    exact ⟨none, 0, 0, [], rfl, ⟨rfl, by simp, fun hne => absurd rfl hne⟩⟩
  · simp [Value.cells] at hcs
    obtain ⟨rfl, rfl, rfl⟩ := hcs
    rw [ones69.2.2.1] at hx
    have each : ∀ i, i < len0 → ∃ q : List Ty, (∃ nm, W.cell? (a.add (i * 2)) = some (.string nm)) ∧ ∃ fa fcap, W.cell? (a.add (i * 2 + 1)) = some (.slice fa q.length fcap) ∧ FdAt W fa q := fun i hi => by
      have hxi := hx i hi
      rw [List.getElem?_eq_getElem (by omega), Option.bind_eq_some_iff] at hxi
      obtain ⟨cs', hc1, hc2⟩ := hxi
      obtain ⟨f0, f1, hu, e0, e1, o0, o1⟩ := two66
      obtain ⟨y0, y1, m, hm, hlen, h0, h1⟩ := trod_struct2 hu hc2
      rw [ones69.2.2.1] at hlen
      match cs', hlen with
      | [c0, c1], _ =>
        rw [o0, e0, ones69.1] at h0
        rw [o1, e1, ones69.2.1] at h1
        obtain ⟨nm, q0, -⟩ := DataW.trod_string Tryd.underlying9 h0
        obtain ⟨fa, fcap, fs, q1, hF⟩ := open_fields _ _ _ h1
        simp at q0 q1
        subst q0 q1
        obtain ⟨_, hln, hcell⟩ := World.cells?_some hc1
        have g0 := hcell 0 (by omega)
        have g1 := hcell 1 (by omega)
        rw [Deep.add_add] at g1
        exact ⟨fs, ⟨nm, by simpa [Addr.add] using g0⟩, fa, fcap, by simpa using g1, hF⟩
    obtain ⟨q, hq⟩ := Deep.choose_lt each
    refine ⟨some a, len0, cap0, (List.range len0).map q, rfl, ⟨by simp, by omega, fun hne => ?_⟩⟩
    have hpos : 0 < len0 := by
      rcases Nat.eq_zero_or_pos len0 with h | h
      · subst h; exact absurd rfl hne
      · exact h
    obtain ⟨b, off, spot⟩ := a
    obtain ⟨nm0, hc0⟩ := (hq 0 hpos).1
    have hspot : spot = none := by simpa [Addr.add] using World.cell?_spot hc0
    subst hspot
    rw [Addr.add_lit] at hc0
    refine ⟨b, off, rfl, lt_of_cell0 hc0, fun i fs hi => ?_⟩
    have hil : i < len0 := by simpa using (List.getElem?_eq_some_iff.1 hi).1
    rw [List.getElem?_map, List.getElem?_range hil] at hi
    cases hi
    obtain ⟨-, fa, fcap, g1, hF⟩ := hq i hil
    rw [Addr.add_lit] at g1
    exact ⟨fa, fcap, g1, hF⟩
set_option maxRecDepth 100000 in
/-- A list of types opened. -/
theorem open_locals {H : Type} {enc : TypeId × Value → H} {W : World} {r : Reach} {b0 base : Nat} {v : Value} {d : DataW H} {p : List MemPlace} {held : Bool} (hval : Value.okWide Tryd.prog W r b0 23 v) (h : DataW.Trod enc Tryd.prog W base (fun _ => true) held 23 v d p) :
    ∃ a n cap ts, v = .slice a n cap ∧ LcAt W a n cap ts := by
  obtain ⟨a0, len0, cap0, rfl⟩ := okWide_slice Tryd.underlying23 hval
  obtain ⟨fuel, hf⟩ := h
  rcases DataW.trod_slice Tryd.underlying23 hf with ⟨hcs, _⟩ | ⟨a, len, cap, elems, rest, m2, hm2, hcs, _, hb, hl, hc, hel, hx, _, _⟩
  · simp [Value.cells] at hcs
    obtain ⟨rfl, rfl, rfl⟩ := hcs
    exact ⟨none, 0, 0, [], rfl, ⟨rfl, by simp, fun hne => absurd rfl hne⟩⟩
  · simp [Value.cells] at hcs
    obtain ⟨rfl, rfl, rfl⟩ := hcs
    rw [ones32.2.2.2.2] at hx
    have each : ∀ i, i < len0 → ∃ ft : Fv × Ty, TyAt W ft.1 ft.2 ∧ W.cell? (a.add (i * 5)) = some (.int .u8 (ft.1.k : Int)) ∧ W.cell? (a.add (i * 5 + 1)) = some (.bool ft.1.m) ∧ W.cell? (a.add (i * 5 + 2)) = some (.int .i64 ft.1.r) ∧ W.cell? (a.add (i * 5 + 3)) = some (.int .i64 ft.1.s) ∧ W.cell? (a.add (i * 5 + 4)) = some (.slice ft.1.a ft.1.n ft.1.cap) := fun i hi => by
      have hxi := hx i hi
      rw [List.getElem?_eq_getElem (by omega), Option.bind_eq_some_iff] at hxi
      obtain ⟨cs', hc1, hc2⟩ := hxi
      obtain ⟨f', t', hcs', ht'⟩ := open_ty m2 cs' _ hc2
      subst hcs'
      obtain ⟨_, hln, hcell⟩ := World.cells?_some hc1
      have g0 := hcell 0 (by omega)
      have g1 := hcell 1 (by omega)
      have g2 := hcell 2 (by omega)
      have g3 := hcell 3 (by omega)
      have g4 := hcell 4 (by omega)
      rw [Deep.add_add] at g1 g2 g3 g4
      exact ⟨(f', t'), ht', by simpa [Addr.add] using g0, by simpa using g1, by simpa using g2, by simpa using g3, by simpa using g4⟩
    haveI : Inhabited (Fv × Ty) := ⟨(⟨0, false, 0, 0, none, 0, 0⟩, .mk 0 false 0 0 [])⟩
    obtain ⟨q, hq⟩ := Deep.choose_lt each
    refine ⟨some a, len0, cap0, (List.range len0).map fun i => (q i).2, rfl, ⟨by simp, by omega, fun hne => ?_⟩⟩
    have hpos : 0 < len0 := by
      rcases Nat.eq_zero_or_pos len0 with h | h
      · subst h; exact absurd rfl hne
      · exact h
    obtain ⟨b, off, spot⟩ := a
    have hc0 := (hq 0 hpos).2.1
    have hspot : spot = none := by simpa [Addr.add] using World.cell?_spot hc0
    subst hspot
    refine ⟨b, off, rfl, fun i t hi => ?_⟩
    have hil : i < len0 := by simpa using (List.getElem?_eq_some_iff.1 hi).1
    rw [List.getElem?_map, List.getElem?_range hil] at hi
    cases hi
    obtain ⟨g6, g0, g1, g2, g3, g4⟩ := hq i hil
    rw [Addr.add_lit] at g0 g1 g2 g3 g4
    exact ⟨(q i).1, ⟨lt_of_cell0 g0, g0, g1, g2, g3, g4⟩, g6⟩
end Go.Proofs.YtnohcppipkpgmaaDoor
namespace Go.Proofs.YtnohcppipkpgmaaDoor
section
open Go.RowKit Go.Shelf
set_option linter.unusedVariables false
set_option linter.unusedSimpArgs false

/-- PlaceTypes, whatever is handed in. -/
theorem types_all {w : World} {a la : Option Addr} {n cap ln lcap : Nat} {ss : List (List Ty)} {ts : List Ty} (hS : StAt w a n cap ss) (hL : LcAt w la ln lcap ts) {x : Pt} {p : List Int} (hP : PAt w x p) :
    Calls Tryd.prog 3 #[.slice a n cap, .slice la ln lcap, x.v] w fun e w' => e = .returned (.bool true) ∧ Below w.heap.size w w' := by
  obtain ⟨f1, f2, f3, hb⟩ := flt_ex ss
  obtain ⟨fc, cl, hC, hdeep⟩ := cx_of hS hL hb
  obtain ⟨ok, hok⟩ : ∃ ok, ok = mayL n (decide ((stRes n f1 f2 f3).2 = 0)) ts := ⟨_, rfl⟩
  rw [← hok] at hC hdeep
  obtain ⟨bf, hf, h60⟩ := fitA_ex hS hL [p] (by simp)
  refine types_walk hC (fun W hW => rTypes_any (hS.bel hW) (hL.bel hW) hb ok hok) hP hf (fun e => (h60 e).2.2.2 p (by simp)) _ rfl (fun z hz => ?_)
  unfold wyX at hz
  split at hz
  · rename_i hk
    obtain ⟨-, hd1, hd2⟩ := hdeep hk
    unfold wayP at hz
    split at hz
    · rw [Option.bind_eq_some_iff] at hz
      obtain ⟨c, h1, h2⟩ := hz
      have hm := List.mem_of_getElem? h1
      exact wayC_deep (hC.sf hk) (fun j hj => (hd2 j hj).2) p c z.1 z.2 ((hC.lf hk).ok c hm) (hd1 c hm) h2
    · cases hz
  · cases hz
end
open Go.ChangeShapes Go.WideShapes Go.ChangeAt Go.RowKit Go.Joins Go.Shelf Go.WideElems Go.Maps
set_option linter.unusedVariables false
set_option linter.unusedSimpArgs false

set_option maxRecDepth 100000 in
theorem placeTypes_lifted (os : Os) (started : os.Started) (H : Type) (enc : TypeId × Value → H) :
    ReturnsInHanded {} Tryd.checked os 3 .any (fun w args => (Rows.placeTypesSpec.pre enc Tryd.prog Tryd.f3 [] false w args ∧ laidMetH Tryd.prog laidT w) ∧ sizedMet enc Tryd.prog Tryd.f3 (OpenSpec.ofChange Rows.placeTypesSpec) false w args)
      (Rows.placeTypesSpec.post enc Tryd.prog Tryd.f3 false true false false) := by
  refine lift_shaped (C := Tryd.checked) (X := fun w _ => laidMetH Tryd.prog laidT w) (fun _ _ _ hh h => h.of_heap hh) own started (by kernel_rfl) Tryd.func3
    (ChangeSpec.witness_shaped (enc := enc) (C := Tryd.checked) (os := os) (X := fun w _ => laidMetH Tryd.prog laidT w) false (World.laidAll Tryd.prog os laidT) #[.slice none 0 0, .slice none 0 0, .agg #[.int .i64 0, .slice none 0 0]] 8 (World.laidAll_os _ _ _) (World.shaped_of_ZipB (by kernel_rfl) (by kernel_rfl)) (by kernel_rfl) (by kernel_rfl) (by kernel_rfl) (door_metT os _)) ?_
  intro W base args ds gs before hval0 hW hL hsh
  have hval : ∀ (j : Nat) t v, Tryd.f3.params[j]? = some t → args[j]? = some v → Value.okWide Tryd.prog W .any base t v := hval0
  have hW' := hW
  obtain ⟨p, q, hA0, hV, rfl, hfz, hnd⟩ := hW
  have hA : DataW.TrodAll enc Tryd.prog W 0 (fun _ => true) true Tryd.f3.params.toList args.toList ds p := hA0
  rw [Tryd.params3] at hA hval
  obtain ⟨v0, vs0, d0, ds0, p0, q0, hargs, rfl, rfl, h0, r0⟩ := trodAll_cons hA
  obtain ⟨v1, vs1, d1, ds1, p1, q1, rfl, rfl, rfl, h1, r1⟩ := trodAll_cons r0
  obtain ⟨v2, vs2, d2, ds2, p2, q2, rfl, rfl, rfl, h2, r2⟩ := trodAll_cons r1
  obtain ⟨rfl, rfl, rfl⟩ := trodAll_nil r2
  obtain rfl : args = #[v0, v1, v2] := by cases args; simp_all
  obtain ⟨rfl, rfl⟩ := trodVars_none hV
  have k0 := h0
  have k1 := h1
  have k2 := h2
  have lt0 : ∀ x ∈ p0, x.block < W.heap.size := by obtain ⟨m, hm⟩ := k0; exact DataW.trod_lt m _ _ _ hm
  have lt1 : ∀ x ∈ p1, x.block < W.heap.size := by obtain ⟨m, hm⟩ := k1; exact DataW.trod_lt m _ _ _ hm
  have lt2 : ∀ x ∈ p2, x.block < W.heap.size := by obtain ⟨m, hm⟩ := k2; exact DataW.trod_lt m _ _ _ hm
  obtain ⟨sa, sn, scap, ss, rfl, hS⟩ := open_structs (hval 0 22 v0 rfl rfl) h0
  obtain ⟨la, ln, lcap, ts, rfl, hL2⟩ := open_locals (hval 1 23 v1 rfl rfl) h1
  obtain ⟨x, X, rfl, hP⟩ := open_place (hval 2 26 v2 rfl rfl) h2
  clear hA0 hval0
  refine (types_all hS hL2 hP).mono fun e W' ⟨he, bel⟩ => ?_
  subst he
  exact ⟨_, rfl, _, _, _, [], _, [], hW', trodAll_mk1 (shut_bool Tryd.underlying4 _), (trodAll_cons_mk (Below.trod laidOut (by kernel_rfl) (of_decide_eq_true (by kernel_rfl)) k0 bel lt0) (trodAll_cons_mk (Below.trod laidOut (by kernel_rfl) (of_decide_eq_true (by kernel_rfl)) k1 bel lt1) (trodAll_cons_mk (Below.trod laidOut (by kernel_rfl) (of_decide_eq_true (by kernel_rfl)) k2 bel lt2) trodAll_mk0))), rfl, bel.frame _, fun h => by cases h⟩
theorem placeTypes_row : Rows.PlaceTypesSaid :=
  OpenClaim.holds_of_wide 3 Tryd.f3 rfl rfl rfl rfl rfl rfl rfl ⟨rfl, rfl, rfl, rfl, rfl⟩ rfl rfl rfl rfl rfl (by kernel_rfl) Tryd.func3 (by kernel_rfl)
    (of_decide_eq_true (by kernel_rfl)) (by unfold Func.isWrapper; first | (rw [if_pos (by decide +kernel)]; kernel_rfl) | (rw [if_neg (by decide +kernel)]; exact ⟨rfl, rfl⟩))
    (fun os started H enc _ => placeTypes_lifted os started H enc)
theorem placeTypes_holds : Rows.PlaceTypesCardSaid :=
  Claim7.holds_tied_plain_at .later [] [.data, .data, .data] true (true, "ee7dc7c804ac4f745a5ba83d8aed6ecd8a7da634523cecb06dd4055cc8e0ae99") false
    placeTypes_row (fun _ h => by cases h) (by kernel_rfl) (fun _ h => by cases h) placeTypes_row_tie rfl ⟨rfl, rfl⟩ (by kernel_rfl) rfl
    (fun f fn hf hfn => by
      obtain rfl : f = 3 := Option.some.inj ((show Tryd.prog.funcNamed "loanword/loanwordlaw09.PlaceTypes" = some 3 by kernel_rfl).symm.trans hf) |>.symm
      obtain rfl : fn = Tryd.f3 := (Option.some.inj (Tryd.func3.symm.trans hfn)).symm
      exact ⟨by kernel_rfl, fun j t ht => by
        rw [Tryd.params3] at ht
        have hm : t ∈ [22, 23, 26] := by simpa using Array.mem_of_getElem? ht
        have hall : ([22, 23, 26].all fun u => !Tryd.prog.wantsStandIn u) = true := by kernel_rfl
        exact (show Tryd.prog.wantsStandIn t = false by simpa using List.all_eq_true.1 hall t hm)⟩)
    (by kernel_rfl)
#print axioms placeTypes_holds
end Go.Proofs.YtnohcppipkpgmaaDoor
