import Derived.Test.YtjchbclkdbojpaaDoorDk
import Derived.Test.YtjchbclkdbojpaaDoorAv
namespace Go.Proofs.YtjchbclkdbojpaaDoor
open Go.RowKit Go.Shelf
set_option linter.unusedVariables false
set_option linter.unusedSimpArgs false

theorem append_where {P : Program} (w : World) (base : Nat) (t ty e : TypeId) (i : TypeInfo) (z : Value) (size bytes : Nat) (ht : P.underlying t = some (.slice e)) (hi : P.info? e = some i) (hz : i.zero = some z)
    (hsize : i.size = size) (hby : i.bytes = bytes) (v : Value) (n : Nat) (xs : List Value) (hown : w.ownsRow base e size v n xs)
    (a : Addr) (m c : Nat) (news : List Value) (hm : 0 < m) (hl : news.length = m * size) (hnews : ∀ j u, news[j]? = some u → w.cell? (a.add j) = some u) (h1 : ∀ u ∈ news, u.oneCell' = true)
    (h63 : n + m ≤ maxLen) (hbytes : (n + m) * bytes ≤ 140737488355328) {v' : Value} {w' : World} (hrun : (Builtin.append_ #[t, t] ty #[v, .slice (some a) m c]).run P w = .ok v' w') :
    ∀ b, v'.ownBlock = some b → v.ownBlock = some b ∨ b = w.heap.size := by
  subst hsize
  subst hby
  have hsmall : n + m ≤ 9223372036854775807 := by simp only [maxLen] at h63; omega
  rcases hown.2 with ⟨rfl, rfl⟩ | ⟨g, cap, cur, rfl, hbg, hg, hnc, hcm, hcs, htake⟩
  · have hr := run_append_nil (P := P) w t ty e i z ht hi hz a m c news hl hnews (by omega) (by omega) (by have hb := hbytes; simp only [Nat.zero_add] at hb; omega)
    rw [hr] at hrun
    cases hrun
    intro b e
    right
    simpa [Value.ownBlock] using e.symm
  · by_cases hroom : n + m ≤ cap
    · have hfit : n * i.size + news.length ≤ cur.size := by rw [hl, hcs, ← Nat.add_mul]; exact Nat.mul_le_mul_right _ hroom
      have hr := run_append_room (P := P) w t ty e i ht hi g n cap cur hg a m c news hl hnews h1 hroom hfit
      rw [hr] at hrun
      cases hrun
      intro b e
      left
      exact e
    · have hr := run_append_grow (P := P) w t ty e i z ht hi hz ⟨g, 0, none⟩ n cap xs hown.1 (hown.cells (g := g) rfl) a m c news hl hnews (by omega) (by omega) (growslice_fits (by omega) hbytes)
      rw [hr] at hrun
      cases hrun
      intro b e
      right
      simpa [Value.ownBlock] using e.symm
theorem wpList_append_two {P : Program} (w : World) {ops : Array Oper} {rest : List Oper} {o : Oper} {a : Act} {Q : Exit → Act → World → Prop} (hgd : o.guard = none) (s x : Operand) (t : TypeId)
    (ho : o.op = Op.call { callee := Callee.builtin Builtin.append, args := #[s, x], argTypes := #[t, t] })
    (base : Nat) (e : TypeId) (i : TypeInfo) (z : Value) (size bytes : Nat) (ht : P.underlying t = some (.slice e)) (hi : P.info? e = some i) (hz : i.zero = some z)
    (hsize : i.size = size) (hby : i.bytes = bytes) (hzs : z.cells.size = size) (hsz : 0 < size)
    (v : Value) (n : Nat) (xs : List Value) (hs : a.eval s = v) (hown : w.ownsRow base e size v n xs)
    (ad : Addr) (m c : Nat) (news : List Value) (hm : 0 < m) (hx : a.eval x = .slice (some ad) m c) (hl : news.length = m * size) (hnews : ∀ j u, news[j]? = some u → w.cell? (ad.add j) = some u) (h1 : ∀ u ∈ news, u.oneCell' = true)
    (h63 : n + m ≤ maxLen) (hbytes : (n + m) * bytes ≤ 140737488355328) (hbase : base ≤ w.heap.size)
    (h : ∀ v' w', w'.ownsRow base e size v' (n + m) (xs ++ news) → w.grownBy w' v.ownBlock → (∀ b, v'.ownBlock = some b → v.ownBlock = some b ∨ b = w.heap.size) → wpList P ops Q rest (a.put o.dst v') w') : wpList P ops Q (o :: rest) a w := by
  refine wpList_plain hgd fun K hK => ?_
  obtain ⟨v', w', hr, h2, h3, h4⟩ := run_append_own (P := P) w base t o.type e i z size bytes ht hi hz hsize hby hzs hsz v n xs hown ad m c news hl hnews h1 h63 hbytes hbase
  have h5 := append_where (P := P) w base t o.type e i z size bytes ht hi hz hsize hby v n xs hown ad m c news hm hl hnews h1 h63 hbytes hr
  unfold Oper.wp
  simp [execOp, ho, resolve, invoke, builtin, hs, hx, hr, Result.andThen]
  exact hK _ _ (h v' w' h2 h3 h5)
def c5 (f : Fv) : List Value := [.int .u8 (f.k : Int), .bool f.m, .int .i64 f.r, .int .i64 f.s, .slice f.a f.n f.cap]
/-- Types in a row, five cells each. -/
def tCells : List Fv → List Value
  | [] => []
  | f :: l => c5 f ++ tCells l
theorem tCells_len : ∀ l : List Fv, (tCells l).length = l.length * 5
  | [] => rfl
  | f :: l => by
    have := tCells_len l
    simp only [tCells, List.length_append, this, List.length_cons]
    show 5 + l.length * 5 = _
    omega
theorem tCells_snoc : ∀ (l : List Fv) (f : Fv), tCells (l ++ [f]) = tCells l ++ c5 f
  | [], f => by simp [tCells]
  | g :: l, f => by
    have := tCells_snoc l f
    simp only [List.cons_append, tCells, this, List.append_assoc]
theorem tCells_at : ∀ (l : List Fv) (i : Nat) (f : Fv), l[i]? = some f → ∀ k, k < 5 → (tCells l)[i * 5 + k]? = (c5 f)[k]?
  | [], i, f, h, _, _ => by simp at h
  | g :: l, 0, f, h, k, hk => by
    simp at h
    subst h
    simp only [tCells, Nat.zero_mul, Nat.zero_add]
    exact List.getElem?_append_left (by simpa [c5] using hk)
  | g :: l, i + 1, f, h, k, hk => by
    have := tCells_at l i f (by simpa using h) k hk
    simp only [tCells]
    rw [List.getElem?_append_right (by simp [c5]; omega)]
    rw [show (i + 1) * 5 + k - (c5 g).length = i * 5 + k by simp [c5]; omega]
    exact this
theorem c5_ones (f : Fv) : ∀ u ∈ c5 f, u.oneCell' = true := fun u hu => by
  simp only [c5, List.mem_cons, List.not_mem_nil, or_false] at hu
  rcases hu with rfl | rfl | rfl | rfl | rfl <;> rfl
theorem c5_new {W : World} {b : Nat} {f : Fv} (h : At W b f.o) : ∀ j u, (c5 f)[j]? = some u → W.cell? ((⟨b, 0, none⟩ : Addr).add j) = some u := fun j u hu => by
  unfold At at h
  match j, hu with
  | 0, hu => simp [c5] at hu; subst hu; simp [Addr.add, World.cell?, h]
  | 1, hu => simp [c5] at hu; subst hu; simp [Addr.add, World.cell?, h]
  | 2, hu => simp [c5] at hu; subst hu; simp [Addr.add, World.cell?, h]
  | 3, hu => simp [c5] at hu; subst hu; simp [Addr.add, World.cell?, h]
  | 4, hu => simp [c5] at hu; subst hu; simp [Addr.add, World.cell?, h]
  | j + 5, hu => simp [c5] at hu
/-- A row of types of one's own, each in blocks of its own. -/
structure FRow (W : World) (B : Nat) (v : Value) (cs : List Ch) (fl : List Fv) (lo hi : Nat → Nat) : Prop where
  len : fl.length = cs.length
  row : W.ownsRow B 26 5 v cs.length (tCells fl)
  own : ∀ i c f, cs[i]? = some c → fl[i]? = some f → OwnL W (lo i) (hi i) f c
  rng : ∀ i, i < cs.length → B ≤ lo i ∧ lo i ≤ hi i ∧ hi i ≤ W.heap.size ∧ ∀ b, v.ownBlock = some b → b < lo i ∨ hi i ≤ b
  ord : ∀ i j, i < j → j < cs.length → hi i ≤ lo j
theorem FRow.nil (W : World) (B : Nat) (lo hi : Nat → Nat) : FRow W B (.slice none 0 0) [] [] lo hi := ⟨rfl, World.ownsRow_nil _ _ _ _, fun i c f h => by simp at h, fun i h => by simp at h, fun i j _ h => by simp at h⟩
theorem FRow.bel {W W' : World} {B : Nat} {v : Value} {cs : List Ch} {fl : List Fv} {lo hi : Nat → Nat} (h : FRow W B v cs fl lo hi) (k : Below W.heap.size W W') : FRow W' B v cs fl lo hi :=
  ⟨h.len, h.row.kept (row := none) ⟨k.os, k.tape, k.output, k.size, fun i hi _ => k.block i hi⟩ (by cases e : v.ownBlock <;> simp), fun i c f h1 h2 => (h.own i c f h1 h2).bel k, fun i hi => ⟨(h.rng i hi).1, (h.rng i hi).2.1, Nat.le_trans (h.rng i hi).2.2.1 k.size, (h.rng i hi).2.2.2⟩, h.ord⟩
/-- One type more. -/
theorem FRow.snoc {W Wa w1 w2 : World} {B : Nat} {v v' : Value} {cs : List Ch} {fl : List Fv} {lo hi : Nat → Nat} (h : FRow W B v cs fl lo hi) (hB : B ≤ W.heap.size) (ka : Below W.heap.size W Wa) {c : Ch} {f : Fv} (ho : Own w1 Wa.heap.size f c) (k1 : Below Wa.heap.size Wa w1) (hr : w2.ownsRow B 26 5 v' (cs.length + 1) (tCells fl ++ c5 f)) (hg : (w1.alloc f.o).grownBy w2 v.ownBlock)
    (hw : ∀ b, v'.ownBlock = some b → v.ownBlock = some b ∨ b = (w1.alloc f.o).heap.size) : FRow w2 B v' (cs ++ [c]) (fl ++ [f]) (upd lo cs.length Wa.heap.size) (upd hi cs.length w1.heap.size) := by
  have s0 := ka.size
  have s1 := k1.size
  have s2 : w1.heap.size + 1 ≤ w2.heap.size := by have := hg.size; simpa using this
  have hv := fun b e => (h.row.lt b e).2
  have kk : Below W.heap.size W w1 := ka.trans (k1.mono s0)
  refine ⟨by simp [h.len], by rw [tCells_snoc]; simpa using hr, fun i c' f' h1 h2 => ?_, fun i hi' => ?_, fun i j hij hj => ?_⟩
  · by_cases e : i = cs.length
    · subst e
      rw [upd_same, upd_same]
      rw [List.getElem?_append_right (Nat.le_refl _), Nat.sub_self] at h1
      rw [List.getElem?_append_right (by rw [h.len]; exact Nat.le_refl _), h.len, Nat.sub_self] at h2
      simp at h1 h2
      subst h1 h2
      refine ho.toL.keep fun g o hg1 hg2 hA => (hA.alloc _).grown hg (fun e => ?_)
      have := hv g e.symm
      omega
    · have hl : i < cs.length := by
        have := (List.getElem?_eq_some_iff.1 h1).1
        rw [List.length_append] at this
        simp at this
        omega
      rw [upd_other _ _ e, upd_other _ _ e]
      rw [List.getElem?_append_left hl] at h1
      rw [List.getElem?_append_left (by rw [h.len]; exact hl)] at h2
      have hrn := (h.rng i hl).2.2.2
      refine ((h.own i c' f' h1 h2).bel kk).keep fun g o hg1 hg2 hA => (hA.alloc _).grown hg (fun e => ?_)
      have := hrn g e.symm
      omega
  · by_cases e : i = cs.length
    · subst e
      rw [upd_same, upd_same]
      refine ⟨by omega, s1, by omega, fun b hb => ?_⟩
      rcases hw b hb with h' | h'
      · have := hv b h'
        omega
      · simp at h'
        omega
    · have hl : i < cs.length := by
        rw [List.length_append] at hi'
        simp at hi'
        omega
      rw [upd_other _ _ e, upd_other _ _ e]
      obtain ⟨r1, r2, r3, r4⟩ := h.rng i hl
      refine ⟨r1, r2, by omega, fun b hb => ?_⟩
      rcases hw b hb with h' | h'
      · exact r4 b h'
      · simp at h'
        omega
  · rw [List.length_append] at hj
    simp at hj
    by_cases e : j = cs.length
    · subst e
      rw [upd_same, upd_other _ _ (by omega)]
      have := (h.rng i (by omega)).2.2.1
      omega
    · rw [upd_other _ _ (by omega), upd_other _ _ (by omega)]
      exact h.ord i j hij (by omega)
/-- A type of the row. -/
theorem FRow.at {W : World} {B n : Nat} {v : Value} {cs : List Ch} {fl : List Fv} {lo hi : Nat → Nat} (h : FRow W B v cs fl lo hi) {i : Nat} (hl : i < cs.length) : ∃ g cap c f, v = .slice (some ⟨g, 0, none⟩) cs.length cap ∧ g < W.heap.size ∧ B ≤ g ∧ cs[i]? = some c ∧ fl[i]? = some f ∧ C5 W g (i * 5) f ∧ OwnL W (lo i) (hi i) f c := by
  obtain ⟨g, cap, rfl⟩ := own_is h.row (by omega)
  obtain ⟨c, hc⟩ : ∃ c, cs[i]? = some c := ⟨_, List.getElem?_eq_getElem hl⟩
  obtain ⟨f, hf⟩ : ∃ f, fl[i]? = some f := ⟨_, List.getElem?_eq_getElem (by rw [h.len]; exact hl)⟩
  have hg := h.row.lt g rfl
  have key : ∀ k, k < 5 → W.cell? ⟨g, i * 5 + k, none⟩ = (c5 f)[k]? := fun k hk => by
    rw [h.row.cellAt (i * 5 + k) (by omega)]
    exact tCells_at fl i f hf k hk
  exact ⟨g, cap, c, f, rfl, hg.2, hg.1, hc, hf, ⟨hg.2, key 0 (by omega), key 1 (by omega), key 2 (by omega), key 3 (by omega), key 4 (by omega)⟩, h.own i c f hc hf⟩
theorem Tryd.info26 : (Tryd.prog.info? 26).map (fun i => (i.zero, i.size, i.bytes)) = some (some (.agg #[.int .u8 0, .bool false, .int .i64 0, .int .i64 0, .slice none 0 0]), 5, 48) := by kernel_rfl
end Go.Proofs.YtjchbclkdbojpaaDoor
namespace Go.Proofs.YtjchbclkdbojpaaDoor
open Go.RowKit Go.Shelf
set_option linter.unusedVariables false
set_option linter.unusedSimpArgs false

set_option maxRecDepth 100000 in
set_option maxHeartbeats 2000000 in
theorem Fields_no (a : Option Addr) (n cap : Nat) (ss : List (List Ty)) (w : World) (h : StAt w a n cap ss) (b1 b2 b3 : Nat → Bool) (hb : Flt ss b1 b2 b3) (t : Ty) (f : Fv) (ht : TyAt w f t) (hx : ¬ (f.k : Int) = 5 ∨ mayS n b1 b2 b3 t = false) :
    Calls Tryd.prog 22 #[.slice a n cap, f.v] w fun e w' => e = .returned (.tuple #[.slice none 0 0, .int .i64 2]) ∧ Below w.heap.size w w' := by
  by_cases hk : (f.k : Int) = 5
  · have hx2 : mayS n b1 b2 b3 t = false := by
      rcases hx with h' | h'
      · exact absurd hk h'
      · exact h'
    have CM : Hid (Calls Tryd.prog 14 #[.slice a n cap, f.v] (w.alloc f.o) fun e w' => e = .returned (.bool false) ∧ Below (w.alloc f.o).heap.size (w.alloc f.o) w') := hidD (May_any a n cap ss _ (h.bel (belA (Below.refl _ _))) b1 b2 b3 hb t f (ht.bel (belA (Below.refl _ _))) false hx2.symm)
    obtain ⟨k, m, r, s, aa, nn, cc⟩ := f
    obtain rfl : k = 5 := by have : (k : Int) = 5 := hk; omega
    show Calls Tryd.prog 22 #[.slice a n cap, tyV 5 m r s aa nn cc] w _
    clear h hb ht hx hx2 hk
    go_enter Tryd.func22, Tryd.ntmps22
    go_wp2_with (go_at_call 14; refine CM.out.mono ?_; rintro e w1 ⟨rfl, hb1⟩)
    go_ret2
    exact ⟨rfl, below1 hb1⟩
  · obtain ⟨k, m, r, s, aa, nn, cc⟩ := f
    have k5 : ¬ (k : Int) = 5 := hk
    show Calls Tryd.prog 22 #[.slice a n cap, tyV k m r s aa nn cc] w _
    clear h hb ht hx hk
    go_enter Tryd.func22, Tryd.ntmps22
    go_wp2_with fail
    go_ret2
    exact ⟨rfl, belA (Below.refl _ _)⟩
theorem own_bel {W W' : World} {B e s n : Nat} {v : Value} {xs : List Value} (h : W.ownsRow B e s v n xs) (k : Below W.heap.size W W') : W'.ownsRow B e s v n xs :=
  h.kept (row := none) ⟨k.os, k.tape, k.output, k.size, fun i hi _ => k.block i hi⟩ (by cases e : v.ownBlock <;> simp)
/-- The fields' types as chains. -/
theorem chains_ex {n : Nat} : ∀ (fs : List Ty), (∀ t ∈ fs, PlainT n t) → ∃ cs : List Ch, fs = cs.map Ch.ty ∧ ∀ c ∈ cs, c.ok n ∧ c.depth ≤ 48 ∧ c.regs = []
  | [], _ => ⟨[], rfl, fun c h => by cases h⟩
  | t :: fs, h => by
    obtain ⟨c, rfl, h1⟩ := h t List.mem_cons_self
    obtain ⟨cs, rfl, h2⟩ := chains_ex fs (fun t ht => h t (List.mem_cons_of_mem _ ht))
    refine ⟨c :: cs, rfl, fun d hd => ?_⟩
    rcases List.mem_cons.1 hd with rfl | hd
    · exact h1
    · exact h2 d hd
set_option maxRecDepth 100000 in
set_option maxHeartbeats 4000000 in
theorem Fields_yes (a : Option Addr) (n cap : Nat) (ss : List (List Ty)) (w : World) (h : StAt w a n cap ss) (b1 b2 b3 : Nat → Bool) (hb : Flt ss b1 b2 b3) (t : Ty) (f : Fv) (ht : TyAt w f t) (hx : mayS n b1 b2 b3 t = true) (j : Nat) (hk : f.k = 5) (hs : f.s = (j : Int)) (hj : j < n) (cs : List Ch) (hcs : fld ss j = cs.map Ch.ty) (hok : ∀ c ∈ cs, c.ok n ∧ c.depth ≤ 48 ∧ c.regs = []) :
    Calls Tryd.prog 22 #[.slice a n cap, f.v] w fun e w' => ∃ v fl lo hi, e = .returned (.tuple #[v, .int .i64 0]) ∧ FRow w' w.heap.size v cs fl lo hi ∧ Below w.heap.size w w' := by
  have CM : Hid (Calls Tryd.prog 14 #[.slice a n cap, f.v] (w.alloc f.o) fun e w' => e = .returned (.bool true) ∧ Below (w.alloc f.o).heap.size (w.alloc f.o) w') := hidD (May_any a n cap ss _ (h.bel (belA (Below.refl _ _))) b1 b2 b3 hb t f (ht.bel (belA (Below.refl _ _))) true hx.symm)
  obtain ⟨hW, hmb⟩ := well_of h hb hx
  have A0 : At (w.alloc f.o) w.heap.size f.o := At.new _ _
  obtain ⟨fs, hfs⟩ : ∃ fs, ss[j]? = some fs := ⟨_, List.getElem?_eq_getElem (by have := hW.len; omega)⟩
  have hfl := fld_of hfs
  obtain ⟨f1, f2, f3⟩ := hW.fine j fs hfs
  have hn32 := hW.le
  obtain ⟨k, m, r, s, aa, nn, cc⟩ := f
  simp only at hk hs
  subst hk
  subst hs
  show Calls Tryd.prog 22 #[.slice a n cap, tyV 5 m r (j : Int) aa nn cc] w _
  have HST := hidD h
  have HFS := hidD hfs
  have HFC : Hid (fs = cs.map Ch.ty) := hidD (hfl.symm.trans hcs)
  have HOK := hidD hok
  obtain ⟨i0, hi, hz0, hz1, hz2⟩ := info_parts Tryd.info26
  have q0 : (0 : Int) ≤ (j : Int) := by omega
  have q2 : (j : Int) < (n : Int) := by omega
  obtain ⟨l, hl⟩ : ∃ l, l = fs.length := ⟨_, rfl⟩
  have l8 : l ≤ 8 := by omega
  have HL := hidD hl
  have HLC : Hid (l = cs.length) := hidD (by rw [hl, HFC.out]; simp)
  clear h hb ht hx hW hmb hfs hfl hcs hok f1 f2 f3 hj
  go_enter Tryd.func22, Tryd.ntmps22
  obtain ⟨g, off, fa, fcap, hag, hg, hcell, hFd⟩ := HST.out.one HFS.out
  subst hag
  have HFd := hidD hFd
  have HCELL : Hid (∀ W, Below w.heap.size w W → W.cell? ⟨g, off + j * 2 + 1, none⟩ = some (.slice fa l fcap) ∧ g < W.heap.size) := hidD (fun W hB => ⟨by rw [hl]; exact (hB.cell (p := ⟨g, off + j * 2 + 1, none⟩) hg).trans hcell, Nat.lt_of_lt_of_le hg hB.size⟩)
  clear hFd hcell hl
  go_wp2_with (go_at_call 14; refine CM.out.mono ?_; rintro e w1 ⟨rfl, hb1⟩; obtain ⟨hl1, p0, p1, p2, p3, p4⟩ := (A0.below hb1).ty; have HB1 := hidD (below1 hb1); obtain ⟨c0, hg1⟩ := HCELL.out w1 (below1 hb1); clear hb1)
  go_loopw [6, 25] (fun v6 v25 Z => ∃ (k : Nat) (fl : List Fv) (lo hi : Nat → Nat), k ≤ l ∧ v25 = .int .i64 k ∧ FRow Z w.heap.size v6 (cs.take k) fl lo hi ∧ Below w.heap.size w Z) (fun _ v25 _ => l - (intOf v25).toNat)
  case atStart => exact ⟨0, [], fun _ => 0, fun _ => 0, Nat.zero_le _, rfl, FRow.nil _ _ _ _, HB1.out⟩
  case round =>
    obtain ⟨k, fl, lo, hi', hk, rfl, hR, hBZ⟩ := hrel
    obtain ⟨ra, rcap, hvv⟩ := own_sl hR.row
    subst hvv
    have HR := hidD hR
    have HBZ := hidD hBZ
    clear hR hBZ
    by_cases hlk : k < l
    · obtain ⟨c, hc⟩ : ∃ c, cs[k]? = some c := ⟨_, List.getElem?_eq_getElem (by have := HLC.out; omega)⟩
      have htk : fs[k]? = some c.ty := by rw [HFC.out, List.getElem?_map, hc]; rfl
      have hlen : (cs.take k).length = k := by rw [List.length_take]; have := HLC.out; omega
      obtain ⟨g', off', hfa, hkk⟩ := (HFd.out.bel HBZ.out).2 (fun e => by subst e; simp at htk)
      obtain ⟨V, nm, hnm, hV5, hVt⟩ := hkk k c.ty htk
      have HVT := hidD hVt
      have HC := hidD hc
      have HLN := hidD hlen
      obtain ⟨hl5, p0', p1', p2', p3', p4'⟩ := hV5
      subst hfa
      have e0 : (0 : Int) ≤ (k : Int) := by omega
      have e1 : (k : Int) < (l : Int) := by omega
      have e2 : (k : Int) ≤ 1000 := by omega
      have hcok := HOK.out c (List.mem_of_getElem? hc)
      have CO : Hid (∀ o, Calls Tryd.prog 60 #[V.v] (wr.alloc o) fun e w' => ∃ f' : Fv, e = .returned f'.v ∧ Own w' (wr.alloc o).heap.size f' c ∧ Below (wr.alloc o).heap.size (wr.alloc o) w') := hidD (fun o => owned_any c V _ (Ch.ok_mono (by omega) c hcok.1) (HVT.out.bel (belA (Below.refl _ _))))
      have HRW : Hid (wr.ownsRow w.heap.size 26 5 (.slice ra k rcap) k (tCells fl)) := hidD (by have := HR.out.row; rw [hlen] at this; exact this)
      rw [hlen]
      clear hkk hVt hc hcok hlen htk
      go_wp2_with (first
        | (go_at_call 60; refine (CO.out _).mono ?_; rintro e w2 ⟨f', rfl, hO, hb2⟩; have HO := hidD hO; have HB2 := hidD hb2; have HRW2 := hidD (own_bel HRW.out (below1 hb2)); have HBS := hidD (Nat.le_trans HBZ.out.size (below1 hb2).size); clear hO hb2)
        | (at_builtin; refine wpList_append_two _ rfl _ _ 24 rfl w.heap.size 26 i0 (.agg #[.int .u8 0, .bool false, .int .i64 0, .int .i64 0, .slice none 0 0]) 5 48 Tryd.underlying24 hi hz0 hz1 hz2 rfl (by decide) (.slice ra k rcap) k (tCells fl) rfl (HRW2.out.alloc f'.o) ⟨w2.heap.size, 0, none⟩ 1 1 (c5 f') (by decide) rfl rfl (c5_new (At.new w2 f'.o)) (c5_ones f') (by unfold maxLen; omega) (by omega) (by have := HBS.out; simp; omega) ?_; intro v' w3 ho hg3 hwh; have HO3 := hidD ho; have HG3 := hidD hg3; have HW3 := hidD hwh; clear ho hg3 hwh))
      have s0 : (cs.take k).length = k := HLN.out
      have FS := FRow.snoc (v' := v') (w2 := w3) HR.out HBZ.out.size (belA (o := fdO nm V) (Below.refl _ _)) HO.out HB2.out (by rw [s0]; exact HO3.out) (by rw [s0]; exact HG3.out) (by rw [s0]; exact HW3.out)
      have e9 : cs.take (k + 1) = cs.take k ++ [c] := by rw [List.take_add_one, HC.out]; rfl
      rw [← e9] at FS
      refine ⟨⟨k + 1, _, _, _, hlk, by go_num, FS, ?_⟩, ?_⟩
      · have h1 : Below w.heap.size w w2 := HBZ.out.trans ((below1 HB2.out).mono HBZ.out.size)
        refine (belA h1).grown HG3.out (by have := HBS.out; simp; omega) (fun q hq => (HRW.out.lt q hq).1)
      · show l - ((k : Int) + 1).toNat < l - (k : Int).toNat
        omega
    · obtain rfl : k = l := by omega
      have z1 : ¬ ((k : Int) < (k : Int)) := by omega
      have e : cs.take k = cs := List.take_of_length_le (by have := HLC.out; omega)
      rw [e] at HR ⊢
      have HFR := HR
      obtain ⟨q, hq⟩ : ∃ q, q = cs.length := ⟨_, rfl⟩
      rw [← hq] at HFR ⊢
      clear HR hq
      go_wp2_with fail
      go_ret2
      exact ⟨_, rfl, ⟨fl, lo, hi', HFR.out⟩, HBZ.out⟩
end Go.Proofs.YtjchbclkdbojpaaDoor
