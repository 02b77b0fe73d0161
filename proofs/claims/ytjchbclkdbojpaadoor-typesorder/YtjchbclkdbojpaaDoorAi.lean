import Derived.Test.YtjchbclkdbojpaaDoorAh
import Derived.Test.YtjchbclkdbojpaaDoorPx
namespace Go.Proofs.YtjchbclkdbojpaaDoor
open Go.RowKit Go.Shelf
set_option linter.unusedVariables false
set_option linter.unusedSimpArgs false

/-- What is out so far, and the list that came in, each in its row. -/
structure Rch (w : World) (B : Nat) (a : Option Addr) (cap : Nat) (l out : List (Int × Int)) (v : Value) (W : World) : Prop where
  row : W.ownsRow w.heap.size 67 2 v out.length (cCells out)
  src : W.ownsRow B 67 2 (.slice a l.length cap) l.length (cCells l)
  low : ∀ k, (Value.slice a l.length cap).ownBlock = some k → k < w.heap.size
  bel : Below w.heap.size w W
theorem Rch.below {w : World} {B : Nat} {a : Option Addr} {cap : Nat} {l out : List (Int × Int)} {v : Value} {W W' : World} (h : Rch w B a cap l out v W) (k : Below W.heap.size W W') : Rch w B a cap l out v W' := ⟨own_below h.row k, own_below h.src k, h.low, below_aft h.bel k⟩
theorem Rch.grown {w : World} {B : Nat} {a : Option Addr} {cap : Nat} {l out out' : List (Int × Int)} {v v' : Value} {W W' : World} (h : Rch w B a cap l out v W) (hg : W.grownBy W' v.ownBlock) (hr : W'.ownsRow w.heap.size 67 2 v' out'.length (cCells out')) : Rch w B a cap l out' v' W' :=
  ⟨hr, h.src.kept hg (by
    cases e : (Value.slice a l.length cap).ownBlock with
    | none => exact .inl rfl
    | some k => exact .inr (fun e2 => by have h1 := h.low k e; have h2 := (h.row.lt k e2.symm).1; omega)), h.low, h.bel.grown hg h.bel.size (fun k hk => (h.row.lt k hk).1)⟩
set_option maxRecDepth 100000 in
set_option maxHeartbeats 8000000 in
theorem reach_any (l : List (Int × Int)) (v : Value) (B : Nat) (w : World) (h : w.ownsRow B 67 2 v l.length (cCells l)) (hl : l.length ≤ 200) :
    Calls Tryd.prog 44 #[v] w fun e w' => (∃ (out : List (Int × Int)) (v' : Value), e = .returned v' ∧ RI l out out.length 0 ∧ w'.ownsRow w.heap.size 67 2 v' out.length (cCells out)) ∧ Below w.heap.size w w' := by
  obtain ⟨a, cap, rfl⟩ := own_sl h
  have HO := hid h
  have H0 : Hid (w.ownsRow w.heap.size 67 2 (.slice none 0 0) 0 []) := hid (World.ownsRow_nil _ _ _ _)
  have HC : Hid (∀ u ∈ cCells l, u.oneCell' = true) := hid (c_ones l)
  have HP0 : Hid (Rch w B a cap l [] (.slice none 0 0) w) := hid ⟨H0.out, h, fun k hk => (h.lt k hk).2, Below.refl _ _⟩
  obtain ⟨i0, hi, hz0, hz1, hz2⟩ := info_parts Tryd.info67
  obtain ⟨N, hN⟩ : ∃ N, N = l.length + l.length * l.length := ⟨_, rfl⟩
  have HN := hid hN
  have hN2 : N ≤ 40200 := by
    have : l.length * l.length ≤ 200 * 200 := Nat.mul_le_mul hl hl
    omega
  clear h hN
  go_enter Tryd.func44, Tryd.ntmps44
  go_wp2_with (at_builtin; refine wpl_append_rows rfl _ _ 61 rfl w.heap.size _ 67 i0 (.agg #[.int .i64 0, .int .i64 0]) 2 16 Tryd.underlying61 hi hz0 hz1 hz2 rfl (by decide) _ 0 _ rfl H0.out _ l.length _ rfl HO.out HC.out (by unfold maxLen; omega) (by omega) (Nat.le_refl _) ?_; intro v4 w4 ho4 hg4)
  have HP : Hid (Rch w B a cap l l v4 w4) := hid (HP0.out.grown hg4 (by simpa using ho4))
  clear ho4 hg4 HP0 HO H0 HC
  go_loopw [3, 4] (fun o i W => ∃ (j : Nat) (out : List (Int × Int)), j ≤ out.length ∧ i = .int .i64 j ∧ RI l out j 0 ∧ Rch w B a cap l out o W) (fun _ i _ => N - (intOf i).toNat)
  case atStart => exact ⟨0, l, Nat.zero_le _, rfl, RI.start l, HP.out⟩
  case round =>
    obtain ⟨j, out, hj, rfl, hRI, hR⟩ := hrel
    obtain ⟨a3, c3, rfl⟩ := own_sl hR.row
    have HI := hid hRI
    have HR := hid hR
    have hlen : out.length ≤ N := by rw [HN.out]; exact hRI.len
    clear hRI hR HP
    by_cases hlt : j < out.length
    · have k0 : (0 : Int) ≤ (j : Int) := by omega
      have k1 : (j : Int) < (out.length : Int) := by omega
      have w9 : IntKind.i64.wrap ((j : Int) + 1) = (j : Int) + 1 := by rw [IntKind.wrap_i64]; omega
      go_wp2_with fail
      go_loopw [3, 5] (fun o k W => ∃ (t : Nat) (ot : List (Int × Int)), t ≤ l.length ∧ k = .int .i64 t ∧ j < ot.length ∧ RI l ot j t ∧ Rch w B a cap l ot o W) (fun _ k _ => l.length - (intOf k).toNat)
      case atStart => exact ⟨0, out, Nat.zero_le _, rfl, hlt, HI.out, HR.out⟩
      case round =>
        obtain ⟨t, ot, ht, rfl, hjo, hRI, hR⟩ := hrel
        obtain ⟨a4, c4, rfl⟩ := own_sl hR.row
        have HJ := hid hRI
        have HS := hid hR
        have hlen2 : ot.length ≤ N := by rw [HN.out]; exact hRI.len
        clear hRI hR HI HR k1
        by_cases htl : t < l.length
        · obtain ⟨⟨xa, xb⟩, hx⟩ : ∃ x, ot[j]? = some x := ⟨_, List.getElem?_eq_getElem hjo⟩
          obtain ⟨⟨ya, yb⟩, hy⟩ : ∃ y, l[t]? = some y := ⟨_, List.getElem?_eq_getElem htl⟩
          obtain ⟨g3, rfl, hB3, hg3, x1, x2⟩ := row_pair HS.out.row rfl hx
          obtain ⟨g, rfl, hBg, hg, y1, y2⟩ := row_pair HS.out.src rfl hy
          have HX := hid hx
          have HY := hid hy
          have k1 : (j : Int) < (ot.length : Int) := by omega
          have t0 : (0 : Int) ≤ (t : Int) := by omega
          have t1 : (t : Int) < (l.length : Int) := by omega
          have w8 : IntKind.i64.wrap ((t : Int) + 1) = (t : Int) + 1 := by rw [IntKind.wrap_i64]; omega
          clear hx hy hB3 hBg
          simp only at x1 x2 y1 y2
          go_wp2_with fail
          refine beginH (S := fun W' => Below wr.heap.size wr W') (fun _ _ _ _ _ h => h) (by kernel_rfl) (Below.refl _ _).drew (fun hq hHeld => ?_)
          refine takeH (i := 0) (d := 22) _ hq rfl rfl (by kernel_rfl) (by kernel_rfl) (by kernel_rfl) (by rfl) (fun W hSw => by (go_simp; try rfl)) hHeld ?_
          try simp only [Act.put, List.setIfInBounds_toArray, List.set_cons_zero, List.set_cons_succ]
          refine takeH (i := 1) (d := 23) _ hq rfl rfl (by kernel_rfl) (by kernel_rfl) (by kernel_rfl) (by rfl) (fun W hSw => by (go_simp; try rfl)) hHeld ?_
          try simp only [Act.put, List.setIfInBounds_toArray, List.set_cons_zero, List.set_cons_succ]
          refine takeH (i := 2) (d := 24) _ hq rfl rfl (by kernel_rfl) (by kernel_rfl) (by kernel_rfl) (by rfl) (fun W hSw => by (go_simp; try rfl)) hHeld ?_
          try simp only [Act.put, List.setIfInBounds_toArray, List.set_cons_zero, List.set_cons_succ]
          refine takeH (i := 3) (d := 25) _ hq rfl rfl (by kernel_rfl) (by kernel_rfl) (by kernel_rfl) (by rfl) (fun W hSw => by (go_simp; try rfl)) hHeld ?_
          try simp only [Act.put, List.setIfInBounds_toArray, List.set_cons_zero, List.set_cons_succ]
          refine takeH (i := 4) (d := 26) (.int .i64 xa) hq rfl rfl (by kernel_rfl) (by kernel_rfl) (by kernel_rfl) (by rfl) (fun W hSw => by (have l3' : g3 < W.heap.size := Nat.lt_of_lt_of_le hg3 hSw.size; have l1' : g < W.heap.size := Nat.lt_of_lt_of_le hg hSw.size; have x1' : W.cell? ⟨g3, j * 2, none⟩ = some (.int .i64 xa) := (hSw.cell hg3).trans x1; have x2' : W.cell? ⟨g3, j * 2 + 1, none⟩ = some (.int .i64 xb) := (hSw.cell hg3).trans x2; have y1' : W.cell? ⟨g, t * 2, none⟩ = some (.int .i64 ya) := (hSw.cell hg).trans y1; have y2' : W.cell? ⟨g, t * 2 + 1, none⟩ = some (.int .i64 yb) := (hSw.cell hg).trans y2; go_simp; try rfl)) hHeld ?_
          try simp only [Act.put, List.setIfInBounds_toArray, List.set_cons_zero, List.set_cons_succ]
          refine takeH (i := 5) (d := 27) _ hq rfl rfl (by kernel_rfl) (by kernel_rfl) (by kernel_rfl) (by rfl) (fun W hSw => by (go_simp; try rfl)) hHeld ?_
          try simp only [Act.put, List.setIfInBounds_toArray, List.set_cons_zero, List.set_cons_succ]
          refine takeH (i := 6) (d := 28) _ hq rfl rfl (by kernel_rfl) (by kernel_rfl) (by kernel_rfl) (by rfl) (fun W hSw => by (go_simp; try rfl)) hHeld ?_
          try simp only [Act.put, List.setIfInBounds_toArray, List.set_cons_zero, List.set_cons_succ]
          refine takeH (i := 7) (d := 29) _ hq rfl rfl (by kernel_rfl) (by kernel_rfl) (by kernel_rfl) (by rfl) (fun W hSw => by (go_simp; try rfl)) hHeld ?_
          try simp only [Act.put, List.setIfInBounds_toArray, List.set_cons_zero, List.set_cons_succ]
          refine takeH (i := 8) (d := 30) _ hq rfl rfl (by kernel_rfl) (by kernel_rfl) (by kernel_rfl) (by rfl) (fun W hSw => by (go_simp; try rfl)) hHeld ?_
          try simp only [Act.put, List.setIfInBounds_toArray, List.set_cons_zero, List.set_cons_succ]
          refine takeH (i := 9) (d := 31) (.int .i64 yb) hq rfl rfl (by kernel_rfl) (by kernel_rfl) (by kernel_rfl) (by rfl) (fun W hSw => by (have l3' : g3 < W.heap.size := Nat.lt_of_lt_of_le hg3 hSw.size; have l1' : g < W.heap.size := Nat.lt_of_lt_of_le hg hSw.size; have x1' : W.cell? ⟨g3, j * 2, none⟩ = some (.int .i64 xa) := (hSw.cell hg3).trans x1; have x2' : W.cell? ⟨g3, j * 2 + 1, none⟩ = some (.int .i64 xb) := (hSw.cell hg3).trans x2; have y1' : W.cell? ⟨g, t * 2, none⟩ = some (.int .i64 ya) := (hSw.cell hg).trans y1; have y2' : W.cell? ⟨g, t * 2 + 1, none⟩ = some (.int .i64 yb) := (hSw.cell hg).trans y2; go_simp; try rfl)) hHeld ?_
          try simp only [Act.put, List.setIfInBounds_toArray, List.set_cons_zero, List.set_cons_succ]
          refine takeH (i := 10) (d := 32) _ hq rfl rfl (by kernel_rfl) (by kernel_rfl) (by kernel_rfl) (by rfl) (fun W hSw => by (go_simp; try rfl)) hHeld ?_
          try simp only [Act.put, List.setIfInBounds_toArray, List.set_cons_zero, List.set_cons_succ]
          refine wpAnyH_ready (rs := [11]) (by kernel_rfl) (by simp) ?_
          refine AllReadyH.cons rfl (fun K hK => ?_) AllReadyH.nil
          go_simp
          go_wp2_with fail
          refine hK.out _ _ (belA (Below.refl _ _)).drew (fun hHeld => ?_)
          clear hK K
          try simp only [Act.put, List.setIfInBounds_toArray, List.set_cons_zero, List.set_cons_succ]
          refine wpAnyH_ready (rs := [12]) (by kernel_rfl) (by simp) ?_
          refine AllReadyH.cons rfl (fun K hK => ?_) AllReadyH.nil
          go_simp
          go_wp2_with fail
          refine hK.out _ _ (belA (Below.refl _ _)).drew (fun hHeld => ?_)
          clear hK K
          try simp only [Act.put, List.setIfInBounds_toArray, List.set_cons_zero, List.set_cons_succ]
          refine wpAnyH_done (by kernel_rfl) ?_ _
          go_wp2_with fail
          obtain ⟨wq, hwq⟩ : ∃ wq, wq = (wr.alloc (Obj.cells #[Value.int IntKind.i64 xa, Value.int IntKind.i64 yb] 67)).drew := ⟨_, rfl⟩
          have KQ : Below wr.heap.size wr wq := by rw [hwq]; exact (belA (Below.refl _ _)).drew
          have HT : Hid (At wq wr.heap.size (.cells #[.int .i64 xa, .int .i64 yb] 67)) := hid (by rw [hwq]; exact (At.new wr _).drew)
          have HQ := hid (HS.out.below KQ)
          rw [← hwq]
          obtain ⟨bq, hbq⟩ : ∃ bq, bq = wr.heap.size := ⟨_, rfl⟩
          rw [← hbq] at HT ⊢
          have x1q := (KQ.cell (p := ⟨g3, j * 2, none⟩) hg3).trans x1
          have x2q := (KQ.cell (p := ⟨g3, j * 2 + 1, none⟩) hg3).trans x2
          have y1q := (KQ.cell (p := ⟨g, t * 2, none⟩) hg).trans y1
          have y2q := (KQ.cell (p := ⟨g, t * 2 + 1, none⟩) hg).trans y2
          have hg3q := Nat.lt_of_lt_of_le hg3 KQ.size
          have hgq := Nat.lt_of_lt_of_le hg KQ.size
          obtain ⟨hbl, z1, z2⟩ := HT.out.pair
          clear x1 x2 y1 y2 hg3 hg KQ hwq hbq HS
          obtain ⟨hb, hhb⟩ : ∃ hb, hb = decide ((xa, yb) ∈ ot) := ⟨_, rfl⟩
          have CH : Hid (∀ W, Below wq.heap.size wq W → Calls Tryd.prog 45 #[.slice (some ⟨g3, 0, none⟩) ot.length c4, .agg #[.int .i64 xa, .int .i64 yb]] W fun e w' => e = .returned (.bool hb) ∧ Below W.heap.size W w') := hid (fun W hW => by rw [hhb]; exact has_any ot _ _ xa yb W (own_below HQ.out.row hW) (by omega))
          have HHB := hid hhb
          clear hhb
          by_cases he : ya = xb
          · subst he
            cases hb with
            | true =>
              refine beginH (S := fun W' => Below wq.heap.size wq W') (fun _ _ _ _ _ h => h) (by kernel_rfl) (Below.refl _ _).drew (fun hq hHeld => ?_)
              refine takeH (i := 0) (d := 33) _ hq rfl rfl (by kernel_rfl) (by kernel_rfl) (by kernel_rfl) (by rfl) (fun W hSw => by (go_simp; try rfl)) hHeld ?_
              try simp only [Act.put, List.setIfInBounds_toArray, List.set_cons_zero, List.set_cons_succ]
              refine takeH (i := 1) (d := 34) _ hq rfl rfl (by kernel_rfl) (by kernel_rfl) (by kernel_rfl) (by rfl) (fun W hSw => by (go_simp; try rfl)) hHeld ?_
              try simp only [Act.put, List.setIfInBounds_toArray, List.set_cons_zero, List.set_cons_succ]
              refine takeH (i := 2) (d := 35) _ hq rfl rfl (by kernel_rfl) (by kernel_rfl) (by kernel_rfl) (by rfl) (fun W hSw => by (go_simp; try rfl)) hHeld ?_
              try simp only [Act.put, List.setIfInBounds_toArray, List.set_cons_zero, List.set_cons_succ]
              refine takeH (i := 3) (d := 36) _ hq rfl rfl (by kernel_rfl) (by kernel_rfl) (by kernel_rfl) (by rfl) (fun W hSw => by (go_simp; try rfl)) hHeld ?_
              try simp only [Act.put, List.setIfInBounds_toArray, List.set_cons_zero, List.set_cons_succ]
              refine takeH (i := 4) (d := 37) (.int .i64 ya) hq rfl rfl (by kernel_rfl) (by kernel_rfl) (by kernel_rfl) (by rfl) (fun W hSw => by (have l3' : g3 < W.heap.size := Nat.lt_of_lt_of_le hg3q hSw.size; have l1' : g < W.heap.size := Nat.lt_of_lt_of_le hgq hSw.size; have lb' : bq < W.heap.size := Nat.lt_of_lt_of_le hbl hSw.size; have x2' : W.cell? ⟨g3, j * 2 + 1, none⟩ = some (.int .i64 ya) := (hSw.cell hg3q).trans x2q; have y1' : W.cell? ⟨g, t * 2, none⟩ = some (.int .i64 ya) := (hSw.cell hgq).trans y1q; have z1' : W.cell? ⟨bq, 0, none⟩ = some (.int .i64 xa) := (hSw.cell hbl).trans z1; have z2' : W.cell? ⟨bq, 1, none⟩ = some (.int .i64 yb) := (hSw.cell hbl).trans z2; go_simp; try rfl)) hHeld ?_
              try simp only [Act.put, List.setIfInBounds_toArray, List.set_cons_zero, List.set_cons_succ]
              refine takeH (i := 5) (d := 38) _ hq rfl rfl (by kernel_rfl) (by kernel_rfl) (by kernel_rfl) (by rfl) (fun W hSw => by (go_simp; try rfl)) hHeld ?_
              try simp only [Act.put, List.setIfInBounds_toArray, List.set_cons_zero, List.set_cons_succ]
              refine takeH (i := 6) (d := 39) _ hq rfl rfl (by kernel_rfl) (by kernel_rfl) (by kernel_rfl) (by rfl) (fun W hSw => by (go_simp; try rfl)) hHeld ?_
              try simp only [Act.put, List.setIfInBounds_toArray, List.set_cons_zero, List.set_cons_succ]
              refine takeH (i := 7) (d := 40) _ hq rfl rfl (by kernel_rfl) (by kernel_rfl) (by kernel_rfl) (by rfl) (fun W hSw => by (go_simp; try rfl)) hHeld ?_
              try simp only [Act.put, List.setIfInBounds_toArray, List.set_cons_zero, List.set_cons_succ]
              refine takeH (i := 8) (d := 41) _ hq rfl rfl (by kernel_rfl) (by kernel_rfl) (by kernel_rfl) (by rfl) (fun W hSw => by (go_simp; try rfl)) hHeld ?_
              try simp only [Act.put, List.setIfInBounds_toArray, List.set_cons_zero, List.set_cons_succ]
              refine takeH (i := 9) (d := 42) (.int .i64 ya) hq rfl rfl (by kernel_rfl) (by kernel_rfl) (by kernel_rfl) (by rfl) (fun W hSw => by (have l3' : g3 < W.heap.size := Nat.lt_of_lt_of_le hg3q hSw.size; have l1' : g < W.heap.size := Nat.lt_of_lt_of_le hgq hSw.size; have lb' : bq < W.heap.size := Nat.lt_of_lt_of_le hbl hSw.size; have x2' : W.cell? ⟨g3, j * 2 + 1, none⟩ = some (.int .i64 ya) := (hSw.cell hg3q).trans x2q; have y1' : W.cell? ⟨g, t * 2, none⟩ = some (.int .i64 ya) := (hSw.cell hgq).trans y1q; have z1' : W.cell? ⟨bq, 0, none⟩ = some (.int .i64 xa) := (hSw.cell hbl).trans z1; have z2' : W.cell? ⟨bq, 1, none⟩ = some (.int .i64 yb) := (hSw.cell hbl).trans z2; go_simp; try rfl)) hHeld ?_
              try simp only [Act.put, List.setIfInBounds_toArray, List.set_cons_zero, List.set_cons_succ]
              refine takeH (i := 10) (d := 43) (.bool true) hq rfl rfl (by kernel_rfl) (by kernel_rfl) (by kernel_rfl) (by rfl) (fun W hSw => by (go_simp; try rfl)) hHeld ?_
              try simp only [Act.put, List.setIfInBounds_toArray, List.set_cons_zero, List.set_cons_succ]
              refine takeH (i := 11) (d := 44) _ hq rfl rfl (by kernel_rfl) (by kernel_rfl) (by kernel_rfl) (by rfl) (fun W hSw => by (go_simp; try rfl)) hHeld ?_
              try simp only [Act.put, List.setIfInBounds_toArray, List.set_cons_zero, List.set_cons_succ]
              refine takeH (i := 12) (d := 45) _ hq rfl rfl (by kernel_rfl) (by kernel_rfl) (by kernel_rfl) (by rfl) (fun W hSw => by (go_simp; try rfl)) hHeld ?_
              try simp only [Act.put, List.setIfInBounds_toArray, List.set_cons_zero, List.set_cons_succ]
              refine takeH (i := 13) (d := 46) (.agg #[.int .i64 xa, .int .i64 yb]) hq rfl rfl (by kernel_rfl) (by kernel_rfl) (by kernel_rfl) (by rfl) (fun W hSw => by (have l3' : g3 < W.heap.size := Nat.lt_of_lt_of_le hg3q hSw.size; have l1' : g < W.heap.size := Nat.lt_of_lt_of_le hgq hSw.size; have lb' : bq < W.heap.size := Nat.lt_of_lt_of_le hbl hSw.size; have x2' : W.cell? ⟨g3, j * 2 + 1, none⟩ = some (.int .i64 ya) := (hSw.cell hg3q).trans x2q; have y1' : W.cell? ⟨g, t * 2, none⟩ = some (.int .i64 ya) := (hSw.cell hgq).trans y1q; have z1' : W.cell? ⟨bq, 0, none⟩ = some (.int .i64 xa) := (hSw.cell hbl).trans z1; have z2' : W.cell? ⟨bq, 1, none⟩ = some (.int .i64 yb) := (hSw.cell hbl).trans z2; go_simp; try rfl)) hHeld ?_
              try simp only [Act.put, List.setIfInBounds_toArray, List.set_cons_zero, List.set_cons_succ]
              refine wpAnyH_ready (rs := [14]) (by kernel_rfl) (by simp) ?_
              refine AllReadyH.cons rfl (fun K hK => ?_) AllReadyH.nil
              go_simp
              refine (CH.out _ hHeld).mono ?_; rintro e w2 ⟨rfl, hb2⟩; have B2 := below_aft hHeld hb2
              go_wp2_with fail
              refine hK.out _ _ B2 (fun hHeld => ?_)
              clear hK K
              try simp only [Act.put, List.setIfInBounds_toArray, List.set_cons_zero, List.set_cons_succ]
              refine takeH (i := 15) (d := 48) (.bool false) hq rfl rfl (by kernel_rfl) (by kernel_rfl) (by kernel_rfl) (by rfl) (fun W hSw => by (go_simp; try rfl)) hHeld ?_
              try simp only [Act.put, List.setIfInBounds_toArray, List.set_cons_zero, List.set_cons_succ]
              refine takeH (i := 16) (d := 49) (.bool false) hq rfl rfl (by kernel_rfl) (by kernel_rfl) (by kernel_rfl) (by rfl) (fun W hSw => by (go_simp; try rfl)) hHeld ?_
              try simp only [Act.put, List.setIfInBounds_toArray, List.set_cons_zero, List.set_cons_succ]
              refine wpAnyH_done (by kernel_rfl) ?_ _
              go_wp2_with fail
              refine ⟨⟨t + 1, ot, htl, rfl, hjo, HJ.out.skip HX.out HY.out (fun _ => of_decide_eq_true HHB.out.symm), HQ.out.below B2⟩, ?_⟩
              show l.length - ((t : Int) + 1).toNat < l.length - (t : Int).toNat
              omega
            | false =>
              refine beginH (S := fun W' => Below wq.heap.size wq W') (fun _ _ _ _ _ h => h) (by kernel_rfl) (Below.refl _ _).drew (fun hq hHeld => ?_)
              refine takeH (i := 0) (d := 33) _ hq rfl rfl (by kernel_rfl) (by kernel_rfl) (by kernel_rfl) (by rfl) (fun W hSw => by (go_simp; try rfl)) hHeld ?_
              try simp only [Act.put, List.setIfInBounds_toArray, List.set_cons_zero, List.set_cons_succ]
              refine takeH (i := 1) (d := 34) _ hq rfl rfl (by kernel_rfl) (by kernel_rfl) (by kernel_rfl) (by rfl) (fun W hSw => by (go_simp; try rfl)) hHeld ?_
              try simp only [Act.put, List.setIfInBounds_toArray, List.set_cons_zero, List.set_cons_succ]
              refine takeH (i := 2) (d := 35) _ hq rfl rfl (by kernel_rfl) (by kernel_rfl) (by kernel_rfl) (by rfl) (fun W hSw => by (go_simp; try rfl)) hHeld ?_
              try simp only [Act.put, List.setIfInBounds_toArray, List.set_cons_zero, List.set_cons_succ]
              refine takeH (i := 3) (d := 36) _ hq rfl rfl (by kernel_rfl) (by kernel_rfl) (by kernel_rfl) (by rfl) (fun W hSw => by (go_simp; try rfl)) hHeld ?_
              try simp only [Act.put, List.setIfInBounds_toArray, List.set_cons_zero, List.set_cons_succ]
              refine takeH (i := 4) (d := 37) (.int .i64 ya) hq rfl rfl (by kernel_rfl) (by kernel_rfl) (by kernel_rfl) (by rfl) (fun W hSw => by (have l3' : g3 < W.heap.size := Nat.lt_of_lt_of_le hg3q hSw.size; have l1' : g < W.heap.size := Nat.lt_of_lt_of_le hgq hSw.size; have lb' : bq < W.heap.size := Nat.lt_of_lt_of_le hbl hSw.size; have x2' : W.cell? ⟨g3, j * 2 + 1, none⟩ = some (.int .i64 ya) := (hSw.cell hg3q).trans x2q; have y1' : W.cell? ⟨g, t * 2, none⟩ = some (.int .i64 ya) := (hSw.cell hgq).trans y1q; have z1' : W.cell? ⟨bq, 0, none⟩ = some (.int .i64 xa) := (hSw.cell hbl).trans z1; have z2' : W.cell? ⟨bq, 1, none⟩ = some (.int .i64 yb) := (hSw.cell hbl).trans z2; go_simp; try rfl)) hHeld ?_
              try simp only [Act.put, List.setIfInBounds_toArray, List.set_cons_zero, List.set_cons_succ]
              refine takeH (i := 5) (d := 38) _ hq rfl rfl (by kernel_rfl) (by kernel_rfl) (by kernel_rfl) (by rfl) (fun W hSw => by (go_simp; try rfl)) hHeld ?_
              try simp only [Act.put, List.setIfInBounds_toArray, List.set_cons_zero, List.set_cons_succ]
              refine takeH (i := 6) (d := 39) _ hq rfl rfl (by kernel_rfl) (by kernel_rfl) (by kernel_rfl) (by rfl) (fun W hSw => by (go_simp; try rfl)) hHeld ?_
              try simp only [Act.put, List.setIfInBounds_toArray, List.set_cons_zero, List.set_cons_succ]
              refine takeH (i := 7) (d := 40) _ hq rfl rfl (by kernel_rfl) (by kernel_rfl) (by kernel_rfl) (by rfl) (fun W hSw => by (go_simp; try rfl)) hHeld ?_
              try simp only [Act.put, List.setIfInBounds_toArray, List.set_cons_zero, List.set_cons_succ]
              refine takeH (i := 8) (d := 41) _ hq rfl rfl (by kernel_rfl) (by kernel_rfl) (by kernel_rfl) (by rfl) (fun W hSw => by (go_simp; try rfl)) hHeld ?_
              try simp only [Act.put, List.setIfInBounds_toArray, List.set_cons_zero, List.set_cons_succ]
              refine takeH (i := 9) (d := 42) (.int .i64 ya) hq rfl rfl (by kernel_rfl) (by kernel_rfl) (by kernel_rfl) (by rfl) (fun W hSw => by (have l3' : g3 < W.heap.size := Nat.lt_of_lt_of_le hg3q hSw.size; have l1' : g < W.heap.size := Nat.lt_of_lt_of_le hgq hSw.size; have lb' : bq < W.heap.size := Nat.lt_of_lt_of_le hbl hSw.size; have x2' : W.cell? ⟨g3, j * 2 + 1, none⟩ = some (.int .i64 ya) := (hSw.cell hg3q).trans x2q; have y1' : W.cell? ⟨g, t * 2, none⟩ = some (.int .i64 ya) := (hSw.cell hgq).trans y1q; have z1' : W.cell? ⟨bq, 0, none⟩ = some (.int .i64 xa) := (hSw.cell hbl).trans z1; have z2' : W.cell? ⟨bq, 1, none⟩ = some (.int .i64 yb) := (hSw.cell hbl).trans z2; go_simp; try rfl)) hHeld ?_
              try simp only [Act.put, List.setIfInBounds_toArray, List.set_cons_zero, List.set_cons_succ]
              refine takeH (i := 10) (d := 43) (.bool true) hq rfl rfl (by kernel_rfl) (by kernel_rfl) (by kernel_rfl) (by rfl) (fun W hSw => by (go_simp; try rfl)) hHeld ?_
              try simp only [Act.put, List.setIfInBounds_toArray, List.set_cons_zero, List.set_cons_succ]
              refine takeH (i := 11) (d := 44) _ hq rfl rfl (by kernel_rfl) (by kernel_rfl) (by kernel_rfl) (by rfl) (fun W hSw => by (go_simp; try rfl)) hHeld ?_
              try simp only [Act.put, List.setIfInBounds_toArray, List.set_cons_zero, List.set_cons_succ]
              refine takeH (i := 12) (d := 45) _ hq rfl rfl (by kernel_rfl) (by kernel_rfl) (by kernel_rfl) (by rfl) (fun W hSw => by (go_simp; try rfl)) hHeld ?_
              try simp only [Act.put, List.setIfInBounds_toArray, List.set_cons_zero, List.set_cons_succ]
              refine takeH (i := 13) (d := 46) (.agg #[.int .i64 xa, .int .i64 yb]) hq rfl rfl (by kernel_rfl) (by kernel_rfl) (by kernel_rfl) (by rfl) (fun W hSw => by (have l3' : g3 < W.heap.size := Nat.lt_of_lt_of_le hg3q hSw.size; have l1' : g < W.heap.size := Nat.lt_of_lt_of_le hgq hSw.size; have lb' : bq < W.heap.size := Nat.lt_of_lt_of_le hbl hSw.size; have x2' : W.cell? ⟨g3, j * 2 + 1, none⟩ = some (.int .i64 ya) := (hSw.cell hg3q).trans x2q; have y1' : W.cell? ⟨g, t * 2, none⟩ = some (.int .i64 ya) := (hSw.cell hgq).trans y1q; have z1' : W.cell? ⟨bq, 0, none⟩ = some (.int .i64 xa) := (hSw.cell hbl).trans z1; have z2' : W.cell? ⟨bq, 1, none⟩ = some (.int .i64 yb) := (hSw.cell hbl).trans z2; go_simp; try rfl)) hHeld ?_
              try simp only [Act.put, List.setIfInBounds_toArray, List.set_cons_zero, List.set_cons_succ]
              refine wpAnyH_ready (rs := [14]) (by kernel_rfl) (by simp) ?_
              refine AllReadyH.cons rfl (fun K hK => ?_) AllReadyH.nil
              go_simp
              refine (CH.out _ hHeld).mono ?_; rintro e w2 ⟨rfl, hb2⟩; have B2 := below_aft hHeld hb2
              go_wp2_with fail
              refine hK.out _ _ B2 (fun hHeld => ?_)
              clear hK K
              try simp only [Act.put, List.setIfInBounds_toArray, List.set_cons_zero, List.set_cons_succ]
              refine takeH (i := 15) (d := 48) (.bool true) hq rfl rfl (by kernel_rfl) (by kernel_rfl) (by kernel_rfl) (by rfl) (fun W hSw => by (go_simp; try rfl)) hHeld ?_
              try simp only [Act.put, List.setIfInBounds_toArray, List.set_cons_zero, List.set_cons_succ]
              refine takeH (i := 16) (d := 49) (.bool true) hq rfl rfl (by kernel_rfl) (by kernel_rfl) (by kernel_rfl) (by rfl) (fun W hSw => by (go_simp; try rfl)) hHeld ?_
              try simp only [Act.put, List.setIfInBounds_toArray, List.set_cons_zero, List.set_cons_succ]
              refine wpAnyH_done (by kernel_rfl) ?_ _
              have z1' : w2.cell? ⟨bq, 0, none⟩ = some (.int .i64 xa) := (B2.cell hbl).trans z1
              have z2' : w2.cell? ⟨bq, 1, none⟩ = some (.int .i64 yb) := (B2.cell hbl).trans z2
              have lb' : bq < w2.heap.size := Nat.lt_of_lt_of_le hbl B2.size
              have HQ2 := hid (HQ.out.below B2)
              have news : ∀ j u, ([.int .i64 xa, .int .i64 yb] : List Value)[j]? = some u → (w2.alloc (.cells #[.int .i64 xa, .int .i64 yb] 67)).cell? ((⟨w2.heap.size, 0, none⟩ : Addr).add j) = some u := fun j u hu => by
                have hN := (At.new w2 (Two (.int .i64 xa) (.int .i64 yb) 67)).two
                match j, hu with
                | 0, hu => simp at hu; subst hu; simp [Addr.add, hN.1]
                | 1, hu => simp at hu; subst hu; simp [Addr.add, hN.2]
                | j + 2, hu => simp at hu
              have ones : ∀ u ∈ ([.int .i64 xa, .int .i64 yb] : List Value), u.oneCell' = true := fun u hu => by simp at hu; rcases hu with rfl | rfl <;> rfl
              have NW := hid news
              have ON := hid ones
              have hbase : w.heap.size ≤ (w2.alloc (.cells #[.int .i64 xa, .int .i64 yb] 67)).heap.size := by simp only [World.size_alloc]; have := HQ2.out.bel.size; omega
              clear news ones z1 z2
              go_wp2_with (at_builtin; refine wpList_append_own _ rfl _ _ 61 rfl w.heap.size 67 i0 (.agg #[.int .i64 0, .int .i64 0]) 2 16 Tryd.underlying61 hi hz0 hz1 hz2 rfl (by decide) _ ot.length _ rfl (HQ2.out.row.alloc _) ⟨w2.heap.size, 0, none⟩ 1 1 [.int .i64 xa, .int .i64 yb] rfl rfl NW.out ON.out (by unfold maxLen; omega) (by omega) hbase ?_; intro v' w5 ho hg5 hn5)
              refine ⟨⟨t + 1, ot ++ [(xa, yb)], htl, rfl, by simp; omega, HJ.out.add HX.out HY.out (of_decide_eq_false HHB.out.symm), (HQ2.out.below (belA (Below.refl _ _))).grown hg5 (by rw [cCells_app]; simpa [cCells] using ho)⟩, ?_⟩
              show l.length - ((t : Int) + 1).toNat < l.length - (t : Int).toNat
              omega
          · have HNE := hid he
            refine beginH (S := fun W' => Below wq.heap.size wq W') (fun _ _ _ _ _ h => h) (by kernel_rfl) (Below.refl _ _).drew (fun hq hHeld => ?_)
            refine takeH (i := 0) (d := 33) _ hq rfl rfl (by kernel_rfl) (by kernel_rfl) (by kernel_rfl) (by rfl) (fun W hSw => by (go_simp; try rfl)) hHeld ?_
            try simp only [Act.put, List.setIfInBounds_toArray, List.set_cons_zero, List.set_cons_succ]
            refine takeH (i := 1) (d := 34) _ hq rfl rfl (by kernel_rfl) (by kernel_rfl) (by kernel_rfl) (by rfl) (fun W hSw => by (go_simp; try rfl)) hHeld ?_
            try simp only [Act.put, List.setIfInBounds_toArray, List.set_cons_zero, List.set_cons_succ]
            refine takeH (i := 2) (d := 35) _ hq rfl rfl (by kernel_rfl) (by kernel_rfl) (by kernel_rfl) (by rfl) (fun W hSw => by (go_simp; try rfl)) hHeld ?_
            try simp only [Act.put, List.setIfInBounds_toArray, List.set_cons_zero, List.set_cons_succ]
            refine takeH (i := 3) (d := 36) _ hq rfl rfl (by kernel_rfl) (by kernel_rfl) (by kernel_rfl) (by rfl) (fun W hSw => by (go_simp; try rfl)) hHeld ?_
            try simp only [Act.put, List.setIfInBounds_toArray, List.set_cons_zero, List.set_cons_succ]
            refine takeH (i := 4) (d := 37) (.int .i64 ya) hq rfl rfl (by kernel_rfl) (by kernel_rfl) (by kernel_rfl) (by rfl) (fun W hSw => by (have l3' : g3 < W.heap.size := Nat.lt_of_lt_of_le hg3q hSw.size; have l1' : g < W.heap.size := Nat.lt_of_lt_of_le hgq hSw.size; have lb' : bq < W.heap.size := Nat.lt_of_lt_of_le hbl hSw.size; have x2' : W.cell? ⟨g3, j * 2 + 1, none⟩ = some (.int .i64 xb) := (hSw.cell hg3q).trans x2q; have y1' : W.cell? ⟨g, t * 2, none⟩ = some (.int .i64 ya) := (hSw.cell hgq).trans y1q; have z1' : W.cell? ⟨bq, 0, none⟩ = some (.int .i64 xa) := (hSw.cell hbl).trans z1; have z2' : W.cell? ⟨bq, 1, none⟩ = some (.int .i64 yb) := (hSw.cell hbl).trans z2; go_simp; try rfl)) hHeld ?_
            try simp only [Act.put, List.setIfInBounds_toArray, List.set_cons_zero, List.set_cons_succ]
            refine takeH (i := 5) (d := 38) _ hq rfl rfl (by kernel_rfl) (by kernel_rfl) (by kernel_rfl) (by rfl) (fun W hSw => by (go_simp; try rfl)) hHeld ?_
            try simp only [Act.put, List.setIfInBounds_toArray, List.set_cons_zero, List.set_cons_succ]
            refine takeH (i := 6) (d := 39) _ hq rfl rfl (by kernel_rfl) (by kernel_rfl) (by kernel_rfl) (by rfl) (fun W hSw => by (go_simp; try rfl)) hHeld ?_
            try simp only [Act.put, List.setIfInBounds_toArray, List.set_cons_zero, List.set_cons_succ]
            refine takeH (i := 7) (d := 40) _ hq rfl rfl (by kernel_rfl) (by kernel_rfl) (by kernel_rfl) (by rfl) (fun W hSw => by (go_simp; try rfl)) hHeld ?_
            try simp only [Act.put, List.setIfInBounds_toArray, List.set_cons_zero, List.set_cons_succ]
            refine takeH (i := 8) (d := 41) _ hq rfl rfl (by kernel_rfl) (by kernel_rfl) (by kernel_rfl) (by rfl) (fun W hSw => by (go_simp; try rfl)) hHeld ?_
            try simp only [Act.put, List.setIfInBounds_toArray, List.set_cons_zero, List.set_cons_succ]
            refine takeH (i := 9) (d := 42) (.int .i64 xb) hq rfl rfl (by kernel_rfl) (by kernel_rfl) (by kernel_rfl) (by rfl) (fun W hSw => by (have l3' : g3 < W.heap.size := Nat.lt_of_lt_of_le hg3q hSw.size; have l1' : g < W.heap.size := Nat.lt_of_lt_of_le hgq hSw.size; have lb' : bq < W.heap.size := Nat.lt_of_lt_of_le hbl hSw.size; have x2' : W.cell? ⟨g3, j * 2 + 1, none⟩ = some (.int .i64 xb) := (hSw.cell hg3q).trans x2q; have y1' : W.cell? ⟨g, t * 2, none⟩ = some (.int .i64 ya) := (hSw.cell hgq).trans y1q; have z1' : W.cell? ⟨bq, 0, none⟩ = some (.int .i64 xa) := (hSw.cell hbl).trans z1; have z2' : W.cell? ⟨bq, 1, none⟩ = some (.int .i64 yb) := (hSw.cell hbl).trans z2; go_simp; try rfl)) hHeld ?_
            try simp only [Act.put, List.setIfInBounds_toArray, List.set_cons_zero, List.set_cons_succ]
            refine takeH (i := 10) (d := 43) (.bool false) hq rfl rfl (by kernel_rfl) (by kernel_rfl) (by kernel_rfl) (by rfl) (fun W hSw => by (go_simp; try rfl)) hHeld ?_
            try simp only [Act.put, List.setIfInBounds_toArray, List.set_cons_zero, List.set_cons_succ]
            refine takeH (i := 11) (d := 44) _ hq rfl rfl (by kernel_rfl) (by kernel_rfl) (by kernel_rfl) (by rfl) (fun W hSw => by (go_simp; try rfl)) hHeld ?_
            try simp only [Act.put, List.setIfInBounds_toArray, List.set_cons_zero, List.set_cons_succ]
            refine skipH (i := 12) (d := 45) hq rfl rfl (by kernel_rfl) (by kernel_rfl) (by kernel_rfl) (by rfl) hHeld ?_
            try simp only [Act.put, List.setIfInBounds_toArray, List.set_cons_zero, List.set_cons_succ]
            refine skipH (i := 13) (d := 46) hq rfl rfl (by kernel_rfl) (by kernel_rfl) (by kernel_rfl) (by rfl) hHeld ?_
            try simp only [Act.put, List.setIfInBounds_toArray, List.set_cons_zero, List.set_cons_succ]
            refine skipH (i := 14) (d := 47) hq rfl rfl (by kernel_rfl) (by kernel_rfl) (by kernel_rfl) (by rfl) hHeld ?_
            try simp only [Act.put, List.setIfInBounds_toArray, List.set_cons_zero, List.set_cons_succ]
            refine skipH (i := 15) (d := 48) hq rfl rfl (by kernel_rfl) (by kernel_rfl) (by kernel_rfl) (by rfl) hHeld ?_
            try simp only [Act.put, List.setIfInBounds_toArray, List.set_cons_zero, List.set_cons_succ]
            refine takeH (i := 16) (d := 49) (.bool false) hq rfl rfl (by kernel_rfl) (by kernel_rfl) (by kernel_rfl) (by rfl) (fun W hSw => by (go_simp; try rfl)) hHeld ?_
            try simp only [Act.put, List.setIfInBounds_toArray, List.set_cons_zero, List.set_cons_succ]
            refine wpAnyH_done (by kernel_rfl) ?_ _
            go_wp2_with fail
            refine ⟨⟨t + 1, ot, htl, rfl, hjo, HJ.out.skip HX.out HY.out (fun e => absurd e HNE.out), HQ.out.below (Below.refl _ _).drew⟩, ?_⟩
            show l.length - ((t : Int) + 1).toNat < l.length - (t : Int).toNat
            omega
        · obtain rfl : t = l.length := by omega
          go_wp2_with fail
          refine ⟨⟨j + 1, ot, hjo, rfl, HJ.out.row, HS.out⟩, ?_⟩
          show N - ((j : Int) + 1).toNat < N - (j : Int).toNat
          omega
    · obtain rfl : j = out.length := by omega
      go_wp2_with fail
      go_ret
      exact ⟨⟨out, _, rfl, HI.out, HR.out.row⟩, HR.out.bel⟩
end Go.Proofs.YtjchbclkdbojpaaDoor
