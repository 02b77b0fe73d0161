import Derived.Test.YtnohcppipkpgmaaDoorRk
namespace Go.Proofs.YtnohcppipkpgmaaDoor
open Go.RowKit Go.Shelf
set_option linter.unusedVariables false
set_option linter.unusedSimpArgs false

def c6 (y : Wy) : List Value := [.int .u8 (y.f.k : Int), .bool y.f.m, .int .i64 y.f.r, .int .i64 y.f.s, .slice y.f.a y.f.n y.f.cap, .slice y.ga y.gn y.gcap]
def wCells : List Wy → List Value
  | [] => []
  | y :: l => c6 y ++ wCells l
theorem wCells_len : ∀ l : List Wy, (wCells l).length = l.length * 6
  | [] => rfl
  | y :: l => by
    have := wCells_len l
    simp [wCells, c6, this]
    omega
theorem wCells_snoc : ∀ (l : List Wy) (y : Wy), wCells (l ++ [y]) = wCells l ++ c6 y
  | [], y => by simp [wCells]
  | x :: l, y => by simp [wCells, wCells_snoc l y]
theorem wCells_at : ∀ (l : List Wy) (i : Nat) (y : Wy), l[i]? = some y → ∀ k, k < 6 → (wCells l)[i * 6 + k]? = (c6 y)[k]?
  | [], i, y, h, k, hk => by simp at h
  | x :: l, 0, y, h, k, hk => by
    simp at h
    subst h
    simp only [wCells]
    rw [List.getElem?_append_left (by simp [c6]; omega)]
    simp
  | x :: l, i + 1, y, h, k, hk => by
    have ih := wCells_at l i y (by simpa using h) k hk
    simp only [wCells]
    rw [List.getElem?_append_right (by simp [c6]; omega), show (i + 1) * 6 + k - (c6 x).length = i * 6 + k by simp [c6]; omega]
    exact ih
theorem c6_ones (y : Wy) : ∀ u ∈ c6 y, u.oneCell' = true := fun u hu => by
  simp [c6] at hu
  rcases hu with rfl | rfl | rfl | rfl | rfl | rfl <;> rfl
theorem c6_new (W : World) (y : Wy) : ∀ j u, (c6 y)[j]? = some u → (W.alloc y.o).cell? ((⟨W.heap.size, 0, none⟩ : Addr).add j) = some u := fun j u hu => by
  rw [Addr.add_lit, Nat.zero_add]
  have hA : At (W.alloc y.o) W.heap.size y.o := At.new _ _
  generalize W.alloc y.o = W' at hA ⊢
  unfold At at hA
  have : W'.cell? ⟨W.heap.size, j, none⟩ = (c6 y).toArray[j]? := by simp [World.cell?, hA, c6]
  rw [this]
  simpa using hu
theorem own_low {W : World} {B B' e s n : Nat} {v : Value} {xs : List Value} (h : W.ownsRow B e s v n xs) (hB : B' ≤ B) : W.ownsRow B' e s v n xs := by
  refine ⟨h.1, ?_⟩
  rcases h.2 with h0 | ⟨g, cap, cur, e0, h1, h2⟩
  · exact .inl h0
  · exact .inr ⟨g, cap, cur, e0, Nat.le_trans hB h1, h2⟩
theorem own_apart {W : World} {B B' e e' s s' n n' : Nat} {v v' : Value} {xs xs' : List Value} (he : e ≠ e') (h : W.ownsRow B e s v n xs) (h' : W.ownsRow B' e' s' v' n' xs') : ∀ g, v.ownBlock = some g → some g ≠ v'.ownBlock := fun g hg e1 => by
  rcases h.2 with ⟨e0, -⟩ | ⟨g1, cap1, cur1, e0, -, h1, -⟩
  · subst e0
    simp [Value.ownBlock] at hg
  · subst e0
    rcases h'.2 with ⟨e2, -⟩ | ⟨g2, cap2, cur2, e2, -, h2, -⟩
    · subst e2
      simp [Value.ownBlock] at e1
    · subst e2
      have a1 : g1 = g := by simpa [Value.ownBlock] using hg
      have a2 : g = g2 := by simpa [Value.ownBlock] using e1
      subst a1 a2
      rw [h1] at h2
      simp at h2
      exact he h2.2
theorem own_lo {W : World} {B e s n : Nat} {v : Value} {xs : List Value} (h : W.ownsRow B e s v n xs) : ∀ g, v.ownBlock = some g → B ≤ g := fun g hg => by
  rcases h.2 with ⟨e0, -⟩ | ⟨g1, cap1, cur1, e0, hb, -⟩
  · subst e0
    simp [Value.ownBlock] at hg
  · subst e0
    have a1 : g1 = g := by simpa [Value.ownBlock] using hg
    omega
theorem WayIs.bel {w0 w V V' : World} {y : Wy} {c : Ch} {gs : List Int} (h : WayIs w0 w V y c gs) (k : Below V.heap.size V V') : WayIs w0 w V' y c gs := ⟨h.ty, h.gn, own_bel h.row k⟩
theorem WayIs.low {w0 w w2 V : World} {y : Wy} {c : Ch} {gs : List Int} (h : WayIs w0 w V y c gs) (k : w2.heap.size ≤ w.heap.size) : WayIs w0 w2 V y c gs := ⟨h.ty, h.gn, own_low h.row k⟩
theorem WayIs.grow {w0 w V V' : World} {y : Wy} {c : Ch} {gs : List Int} {B n : Nat} {v : Value} {xs : List Value} (h : WayIs w0 w V y c gs) (hr : V.ownsRow B 75 6 v n xs) (k : V.grownBy V' v.ownBlock) : WayIs w0 w V' y c gs := ⟨h.ty, h.gn, own_grow h.row k (own_apart (by decide) h.row hr)⟩
/-- Some places in a row. -/
structure PsAt (w : World) (g : Nat) (xs : List (Pt × List Int)) : Prop where
  lt : g < w.heap.size
  cells : ∀ (i : Nat) (x : Pt) (p : List Int), xs[i]? = some (x, p) → w.cell? ⟨g, i * 2, none⟩ = some (.int .i64 x.l) ∧ w.cell? ⟨g, i * 2 + 1, none⟩ = some (.slice x.a x.n x.cap) ∧ PAt w x p
theorem PsAt.bel {w w' : World} {g : Nat} {xs : List (Pt × List Int)} (h : PsAt w g xs) (hb : Below w.heap.size w w') : PsAt w' g xs where
  lt := Nat.lt_of_lt_of_le h.lt hb.size
  cells := fun i x p hi => by
    obtain ⟨h1, h2, h3⟩ := h.cells i x p hi
    exact ⟨(hb.cell (p := ⟨g, i * 2, none⟩) h.lt).trans h1, (hb.cell (p := ⟨g, i * 2 + 1, none⟩) h.lt).trans h2, h3.bel hb⟩
/-- The ways of some places. -/
structure FoIs (w0 w V : World) (v : Value) (xs : List (Pt × List Int)) (fc : Nat → List Ch) (cl : List Ch) (ys : List Wy) : Prop where
  len : ys.length = xs.length
  row : V.ownsRow w.heap.size 75 6 v ys.length (wCells ys)
  way : ∀ (i : Nat) (x : Pt) (p : List Int), xs[i]? = some (x, p) → ∃ (y : Wy) (c : Ch) (gs : List Int), ys[i]? = some y ∧ wayP fc cl x.l p = some (c, gs) ∧ WayIs w0 w V y c gs
theorem FoIs.bel {w0 w V V' : World} {v : Value} {xs : List (Pt × List Int)} {fc : Nat → List Ch} {cl : List Ch} {ys : List Wy} (h : FoIs w0 w V v xs fc cl ys) (k : Below V.heap.size V V') : FoIs w0 w V' v xs fc cl ys where
  len := h.len
  row := own_bel h.row k
  way := fun i x p hi => by
    obtain ⟨y, c, gs, h1, h2, h3⟩ := h.way i x p hi
    exact ⟨y, c, gs, h1, h2, h3.bel k⟩
theorem FoIs.next {w0 w V V' : World} {v v' : Value} {xs : List (Pt × List Int)} {fc : Nat → List Ch} {cl : List Ch} {ys : List Wy} (h : FoIs w0 w V v xs fc cl ys) {y : Wy} {x : Pt} {p : List Int} {c : Ch} {gs : List Int} (hw : wayP fc cl x.l p = some (c, gs)) (hy : WayIs w0 w V y c gs) (ho : V'.ownsRow w.heap.size 75 6 v' (ys.length + 1) (wCells ys ++ c6 y)) (hg : V.grownBy V' v.ownBlock) : FoIs w0 w V' v' (xs ++ [(x, p)]) fc cl (ys ++ [y]) where
  len := by simp [h.len]
  row := by
    rw [wCells_snoc, show (ys ++ [y]).length = ys.length + 1 by simp]
    exact ho
  way := fun i x' p' hi => by
    rcases Nat.lt_or_ge i xs.length with hl | hl
    · rw [List.getElem?_append_left hl] at hi
      obtain ⟨y', c', gs', h1, h2, h3⟩ := h.way i x' p' hi
      refine ⟨y', c', gs', ?_, h2, h3.grow h.row hg⟩
      rw [List.getElem?_append_left (by rw [h.len]; exact hl)]
      exact h1
    · rw [List.getElem?_append_right hl] at hi
      have hi0 : i - xs.length = 0 := by
        have := (List.getElem?_eq_some_iff.1 hi).1
        simp at this
        omega
      rw [hi0] at hi
      simp at hi
      obtain ⟨rfl, rfl⟩ := hi
      refine ⟨y, c, gs, ?_, hw, hy.grow h.row hg⟩
      rw [List.getElem?_append_right (by rw [h.len]; exact hl), h.len, hi0]
      rfl
theorem Tryd.info75 : (Tryd.prog.info? 75).map (fun i => (i.zero, i.size, i.bytes)) = some (some (.agg #[.int .u8 0, .bool false, .int .i64 0, .int .i64 0, .slice none 0 0, .slice none 0 0]), 6, 72) := by kernel_rfl
/-- What follow tells: the ways of all places, or that one may not be. -/
def FoPost (w0 w V : World) (xs : List (Pt × List Int)) (fc : Nat → List Ch) (cl : List Ch) (e : Ending) : Prop :=
  (∃ v ys, e = .returned (.tuple #[v, .int .i64 0]) ∧ FoIs w0 w V v xs fc cl ys) ∨ e = .returned (.tuple #[.slice none 0 0, .int .i64 2]) ∧ ∃ x p, (x, p) ∈ xs ∧ wayP fc cl x.l p = none
set_option maxRecDepth 100000 in
set_option maxHeartbeats 8000000 in
/-- follow, where the structs and the locals may be. -/
theorem follow_yes {w0 w : World} (hB0 : Below w0.heap.size w0 w) {a la : Option Addr} {n cap ln lcap : Nat} {fc : Nat → List Ch} {cl : List Ch} (hC : Calls Tryd.prog 56 #[.slice a n cap, .slice la ln lcap] w fun e w' => e = .returned (.bool true) ∧ Below w.heap.size w w') (hS : SF w0 a n cap fc) (hL : LF w0 la ln lcap n cl) {g : Nat} {xs : List (Pt × List Int)} (hX : PsAt w g xs) (hk : xs.length ≤ 10) :
    Calls Tryd.prog 36 #[.slice a n cap, .slice la ln lcap, .slice (some ⟨g, 0, none⟩) xs.length xs.length] w fun e w' => FoPost w0 w w' xs fc cl e ∧ Below w.heap.size w w' := by
  obtain ⟨k, hkk⟩ : ∃ k, k = xs.length := ⟨_, rfl⟩
  rw [← hkk] at hk ⊢
  have HK := hidD hkk
  have HC := hidD hC
  have HX := hidD hX
  have HB0 := hidD hB0
  have HS := hidD hS
  have HL := hidD hL
  obtain ⟨i75, hi75, hz75, hs75, hb75⟩ := info_parts Tryd.info75
  clear hC hX hB0 hS hL hkk
  go_enter Tryd.func36, Tryd.ntmps36
  go_wp2_with (go_at_call 56; refine HC.out.mono ?_; rintro e w1 ⟨rfl, hb1⟩)
  have HB1 := hidD hb1
  clear hb1 HC
  go_loopw [8, 19] (fun v z V => ∃ (i : Nat) (ys : List Wy), i ≤ k ∧ z = .int .i64 i ∧ FoIs w0 w V v (xs.take i) fc cl ys ∧ Below w.heap.size w V) (fun _ z _ => k - (intOf z).toNat)
  case atStart => exact ⟨0, [], Nat.zero_le _, rfl, ⟨rfl, World.ownsRow_nil _ _ _ _, fun i x p hi => by simp at hi⟩, HB1.out⟩
  case round =>
    obtain ⟨i, ys, hi, rfl, hF, hB⟩ := hrel
    have HF := hidD hF
    have HB := hidD hB
    clear hF hB HB1
    obtain ⟨av, cv, hv⟩ := own_sl HF.out.row
    subst hv
    by_cases hlt : i < k
    · obtain ⟨⟨x, p⟩, hx⟩ : ∃ x, xs[i]? = some x := ⟨_, List.getElem?_eq_getElem (by have := HK.out; omega)⟩
      obtain ⟨c0, c1, hP⟩ := (HX.out.bel HB.out).cells i x p hx
      have hgl := (HX.out.bel HB.out).lt
      have HXX := hidD hx
      have i0 : (0 : Int) ≤ (i : Int) := by omega
      have i1 : (i : Int) < (k : Int) := by omega
      have i2 : (i : Int) ≤ 10 := by omega
      have C := hidD (wayOf_any (below_aft HB0.out (belA HB.out : Below w.heap.size w (wr.alloc x.o))) HS.out HL.out (hP.bel (belA (Below.refl _ _) : Below wr.heap.size wr (wr.alloc x.o))) _ rfl)
      obtain ⟨l, pa, m, pcap⟩ := x
      clear hx hP
      cases hR : wayP fc cl l p with
      | none =>
        have C2 : Hid (Calls Tryd.prog 57 #[.slice a n cap, .slice la ln lcap, plV l pa m pcap] (wr.alloc (plO l pa m pcap)) fun e w' => e = .returned (.tuple #[zW.v, .bool false]) ∧ Below (wr.alloc (plO l pa m pcap)).heap.size (wr.alloc (plO l pa m pcap)) w') := by
          have := C.out
          show Calls _ _ _ _ _
          have e : wayP fc cl (⟨l, pa, m, pcap⟩ : Pt).l p = none := hR
          rw [e] at this
          exact this
        have HN : Hid (∃ x p, (x, p) ∈ xs ∧ wayP fc cl x.l p = none) := ⟨_, p, List.mem_of_getElem? HXX.out, hR⟩
        clear C hR
        go_wp2_with (go_at_call 57; refine C2.out.mono ?_; rintro e w2 ⟨rfl, hb2⟩)
        go_ret2
        exact ⟨.inr ⟨rfl, HN.out⟩, belA (below_aft HB.out (below1 hb2))⟩
      | some z =>
        obtain ⟨c, gs⟩ := z
        have C2 : Hid (Calls Tryd.prog 57 #[.slice a n cap, .slice la ln lcap, plV l pa m pcap] (wr.alloc (plO l pa m pcap)) fun e w' => (∃ y : Wy, e = .returned (.tuple #[y.v, .bool true]) ∧ WayIs w0 (wr.alloc (plO l pa m pcap)) w' y c gs) ∧ Below (wr.alloc (plO l pa m pcap)).heap.size (wr.alloc (plO l pa m pcap)) w') := by
          have := C.out
          show Calls _ _ _ _ _
          have e : wayP fc cl (⟨l, pa, m, pcap⟩ : Pt).l p = some (c, gs) := hR
          rw [e] at this
          exact this
        have HR := hidD hR
        clear C hR
        have hyl : ys.length ≤ 10 := by
          have := HF.out.len
          rw [List.length_take] at this
          omega
        go_wp2_with (first
          | (go_at_call 57; refine C2.out.mono ?_; rintro e w2 ⟨⟨y, rfl, hy⟩, hb2⟩; have HB2 := hidD (below1 hb2); have HY : Hid (WayIs w0 w ((w2.alloc y.o).alloc y.o) y c gs) := ((hy.bel (belA (belA (Below.refl _ _)))).low (by have := HB.out.size; simp; omega)); have HFp : Hid (FoIs w0 w ((w2.alloc y.o).alloc y.o) (.slice av ys.length cv) (xs.take i) fc cl ys) := (HF.out.bel (belA (belA HB2.out))); clear hb2 hy)
          | (at_builtin; refine wpList_append_own _ rfl (.tmp 32) (.tmp 34) 70 rfl w.heap.size 75 i75 (.agg #[.int .u8 0, .bool false, .int .i64 0, .int .i64 0, .slice none 0 0, .slice none 0 0]) 6 72 Tryd.underlying70 hi75 hz75 hs75 hb75 rfl (by omega) (.slice av ys.length cv) ys.length (wCells ys) rfl HFp.out.row ⟨w2.heap.size + 1, 0, none⟩ 1 1 (c6 y) rfl rfl (by have := c6_new (w2.alloc y.o) y; simpa only [World.size_alloc] using this) (c6_ones y) (by unfold maxLen; omega) (by omega) (by have := HB.out.size; have := HB2.out.size; simp; omega) ?_; intro v3 w3 ho3 hg3 hn3; have HN3 := hidD (HFp.out.next (x := ⟨l, pa, m, pcap⟩) (p := p) HR.out HY.out ho3 hg3); have HB3 := hidD ((below_aft HB.out (belA (belA HB2.out)) : Below w.heap.size w ((w2.alloc y.o).alloc y.o)).grown hg3 (by have := HB.out.size; have := HB2.out.size; simp; omega) (own_lo HFp.out.row)); clear ho3 hg3 hn3))
        refine ⟨⟨i + 1, ys ++ [y], hlt, rfl, ?_, HB3.out⟩, ?_⟩
        · have e := HN3.out
          rw [List.take_add_one, HXX.out]
          exact e
        · show k - ((i : Int) + 1).toNat < k - (i : Int).toNat
          omega
    · obtain rfl : i = k := by omega
      have lt : ¬ (i : Int) < (i : Int) := by omega
      go_wp2_with fail
      go_ret2
      refine ⟨.inl ⟨_, ys, rfl, ?_⟩, HB.out⟩
      have e := HF.out
      rw [HK.out, List.take_length] at e
      exact e
/-- follow, where the structs or the locals may not be. -/
theorem follow_no {w : World} {a la pa : Option Addr} {n cap ln lcap pn pcap : Nat} (hC : Calls Tryd.prog 56 #[.slice a n cap, .slice la ln lcap] w fun e w' => e = .returned (.bool false) ∧ Below w.heap.size w w') :
    Calls Tryd.prog 36 #[.slice a n cap, .slice la ln lcap, .slice pa pn pcap] w fun e w' => e = .returned (.tuple #[.slice none 0 0, .int .i64 2]) ∧ Below w.heap.size w w' := by
  have HC := hidD hC
  clear hC
  go_enter Tryd.func36, Tryd.ntmps36
  go_wp2_with (go_at_call 56; refine HC.out.mono ?_; rintro e w1 ⟨rfl, hb1⟩)
  go_ret2
  exact ⟨rfl, hb1⟩
end Go.Proofs.YtnohcppipkpgmaaDoor
