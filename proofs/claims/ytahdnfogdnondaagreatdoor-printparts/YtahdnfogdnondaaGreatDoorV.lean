import Derived.Test.YtahdnfogdnondaaGreatDoorU
namespace Go.Proofs.YtahdnfogdnondaaGreatDoor
open Go.RowKit Go.Shelf
attribute [local go_sem] Oper.semAt_some
set_option linter.unusedVariables false
set_option linter.unusedSimpArgs false

/-- Numbers as cells; the first k of them, noughts behind. -/
def iCells (l : List Int) : List Value := l.map fun v => .int .i64 v
def part (L : List Int) (z : Int) (k : Nat) : List Value := iCells (L.take k) ++ List.replicate (L.length - k) (.int .i64 z)
theorem part_get {L : List Int} {z : Int} {k j : Nat} {v : Int} (hj : j < k) (h : L[j]? = some v) : (part L z k)[j]? = some (.int .i64 v) := by
  have hl := (List.getElem?_eq_some_iff.1 h).1
  unfold part iCells
  rw [List.getElem?_append_left (by simp; omega), List.getElem?_map, List.getElem?_take, if_pos hj, h]
  rfl
theorem part_len (L : List Int) (z : Int) (k : Nat) : (part L z k).length = L.length := by simp [part, iCells]; omega
theorem part_set {L : List Int} {z : Int} {k : Nat} {v : Int} (h : L[k]? = some v) : (part L z k).set k (.int .i64 v) = part L z (k + 1) := by
  have hk := (List.getElem?_eq_some_iff.1 h).1
  unfold part iCells
  rw [show L.length - k = (L.length - (k + 1)) + 1 by omega, List.replicate_succ, List.set_append, if_neg (by simp; omega)]
  rw [show k - (List.map (fun v => Value.int .i64 v) (List.take k L)).length = 0 by simp; omega]
  rw [List.set_cons_zero, List.take_add_one, h]
  simp
theorem part_full {L : List Int} {z : Int} {k : Nat} (h : L.length ≤ k) : part L z k = iCells L := by
  unfold part
  rw [List.take_of_length_le h, show L.length - k = 0 by omega]
  simp
theorem deep_le (g : Fo) : g.deep ≤ g.size := by
  induction g with
  | nil => exact Nat.le_refl _
  | cons x c r ihc ihr => simp only [Fo.deep, Fo.size]; omega
theorem wpListIn_make_full {F : Fence} {n : Nat} {P : Program} (w : World) {ops : Array Oper} {rest : List Oper} {o : Oper} {a : Act} {Q : Exit → Act → World → Prop}
    (hg : o.guard = none) (l c : Operand) (t : TypeId) (hop : o.op = Op.makeSlice t l c)
    (base : Nat) (e : TypeId) (i : TypeInfo) (z : Value) (size : Nat) (h1 : P.underlying t = some (.slice e)) (h2 : P.info? e = some i) (h3 : i.zero = some z) (h4 : i.size = size)
    (kl kc : IntKind) (L C : Int) (m : Nat) (hl : a.eval l = .int kl L) (hc : a.eval c = .int kc C) (hL : L = (m : Int)) (hC : C = (m : Int)) (b2 : i.bytes * m ≤ 281474976710656) (b3 : m ≤ maxLen) (b4 : base ≤ w.heap.size)
    (hK : ∀ w', w'.ownsRow base e size (.slice (some ⟨w.heap.size, 0, none⟩) m m) m (madeCells z.cells (m * size)).toList → w.grownBy w' none → wpListIn F n P ops Q rest (a.put o.dst (.slice (some ⟨w.heap.size, 0, none⟩) m m)) w') :
    wpListIn F n P ops Q (o :: rest) a w := by
  refine wpListIn_plain hg fun K hK' => ?_
  obtain ⟨w', hrun, r1, r2⟩ := run_make_full (P := P) w base t e i z size h1 h2 h3 h4 kl kc m b2 b3 b4
  subst hL
  subst hC
  unfold Oper.wpIn
  refine ⟨?_, ?_⟩
  · simp [Oper.about, hop]
  · rw [Oper.semAt_plain F _ _ (by rw [hop]; intro c hc'; cases hc')]
    simp [execOp, hop, hl, hc, hrun, Result.andThen]
    exact hK' _ _ (hK w' r1 r2)
/-- Levels as Go's numbers. -/
def lvI (x : Nx) (c : Fo) : List Int := (Fo.lv 0 (.cons x c .nil)).map fun v => ((v : Nat) : Int)
theorem lvI_len (x : Nx) (c : Fo) : (lvI x c).length = 1 + c.size := by simp [lvI, Fo.len_lv, Fo.size]
theorem lvI_step {x : Nx} {c : Fo} {i p : Nat} (h : (c.ups 0 1)[i]? = some (p : Int)) : p ≤ i ∧ ∃ v : Nat, (lvI x c)[p]? = some (v : Int) ∧ (lvI x c)[i + 1]? = some ((v + 1 : Nat) : Int) ∧ v < 1 + c.size := by
  obtain ⟨j, v, e1, e2, e3, e4⟩ := Fo.lv_step x c i _ h
  obtain rfl : p = j := by omega
  refine ⟨e2, v, by simp [lvI, e3], by simp [lvI, e4], ?_⟩
  have := (Fo.lv_bound _ _ v (List.mem_of_getElem? e3)).2
  have h2 := deep_le (.cons x c .nil)
  simp only [Fo.size] at h2
  omega
/-- What holds between two rounds of levels. -/
structure VI (w : World) (a : Option Addr) (n cap bv bx : Nat) (L : List Int) (i : Nat) (W : World) : Prop where
  t : At W w.heap.size (Tro a n cap)
  r : Rw W (w.heap.size + 1) 3 (part L 0 (i + 1))
  v : At W bv (One (.slice (some ⟨w.heap.size + 1, 0, none⟩) n n) 42)
  b : At W bx (Tro a n cap)
  bel : Below w.heap.size w W
theorem vi_bears (w : World) (a : Option Addr) (n cap bv bx : Nat) (L : List Int) (B : Nat) (hB : w.heap.size + 2 ≤ B) (hbv : bv < B) (hbx : bx < B) : Bears B (VI w a n cap bv bx L) := by
  rintro i W W' row ⟨h1, h2, h3, h4, h5⟩ hg hrow
  have ne : ∀ b, b < B → some b ≠ row := fun b hb e => by have := hrow b e.symm; omega
  exact ⟨h1.grown hg (ne _ (by omega)), h2.grown hg (ne _ (by omega)), h3.grown hg (ne _ hbv), h4.grown hg (ne _ hbx), h5.grown hg h5.size (fun k e => by have := hrow k e; omega)⟩
theorem none_own (B : Nat) : OwnFrom B (fun (_ : Nat × Nat) (_ : World) => False) := fun _ _ _ _ h _ _ => h
set_option maxRecDepth 100000 in
set_option maxHeartbeats 4000000 in
theorem levels_n (x : Nx) (c : Fo) (n : Nat) (hn : n = 1 + c.size) (a : Option Addr) (cap : Nat) (w : World) (hT : TAt w a ((Fo.cons x c .nil).flat 0)) (hS : Sm ((Fo.cons x c .nil).flat 0)) :
    Calls Tryz.prog 73 #[trV a n cap] w fun e w' => ∃ g, e = .returned (.slice (some ⟨g, 0, none⟩) n n) ∧ Rw w' g 3 (iCells (lvI x c)) ∧ w.heap.size ≤ g ∧ Below w.heap.size w w' := by
  obtain ⟨i0, hi, hz0, hz1, hz2⟩ := info_parts Tryz.info3
  have hTl : ((Fo.cons x c .nil).flat 0).length = n := by rw [Fo.len_flat, hn]; simp [Fo.size]
  have hTn := hS.n
  rw [hTl] at hTn
  have hT0 : (Fo.cons x c .nil).flat 0 ≠ [] := by simp [Fo.flat]
  have hLl : (lvI x c).length = n := by rw [lvI_len, hn]
  obtain ⟨T, hTT⟩ : ∃ T, T = (Fo.cons x c .nil).flat 0 := ⟨_, rfl⟩
  have htold : ∀ {i p : Nat} {d : Int} {s s' : List (Nat × Nat)}, stAt T i = some s → nxt T s = some ((p, d), s') → i < c.size ∧ d = ((i + 1 : Nat) : Int) ∧ (c.ups 0 1)[i]? = some (p : Int) := by
    intro i p d s s' h1 h2
    rw [hTT] at h1 h2
    exact told_whole h1 h2
  have hend : ∀ {i : Nat}, Ended T i → i = c.size := by
    intro i h
    rw [hTT] at h
    exact ended_size h
  rw [← hTT] at hT hS hTl hT0
  have HTT : Hid (T = (Fo.cons x c .nil).flat 0) := hTT
  obtain ⟨L, hL⟩ : ∃ L, L = lvI x c := ⟨_, rfl⟩
  have hstep : ∀ {i p : Nat}, (c.ups 0 1)[i]? = some (p : Int) → p ≤ i ∧ ∃ v : Nat, L[p]? = some (v : Int) ∧ L[i + 1]? = some ((v + 1 : Nat) : Int) ∧ v < n := by
    intro i p h
    rw [hL, hn]
    exact lvI_step h
  have hL0 : L[0]? = some 0 := by rw [hL]; rfl
  rw [← hL] at hLl ⊢
  have HLl : Hid (L.length = n) := hLl
  have HTl : Hid (T.length = n) := hTl
  have HN : Hid (n = 1 + c.size) := hn
  have HSTEP : Hid (∀ {i p : Nat}, (c.ups 0 1)[i]? = some (p : Int) → p ≤ i ∧ ∃ v : Nat, L[p]? = some (v : Int) ∧ L[i + 1]? = some ((v + 1 : Nat) : Int) ∧ v < n) := hstep
  have HTOLD : Hid (∀ {i p : Nat} {d : Int} {s s' : List (Nat × Nat)}, stAt T i = some s → nxt T s = some ((p, d), s') → i < c.size ∧ d = ((i + 1 : Nat) : Int) ∧ (c.ups 0 1)[i]? = some (p : Int)) := htold
  have HEND : Hid (∀ {i : Nat}, Ended T i → i = c.size) := hend
  clear hTT hL hLl hTl hn hstep htold hend
  refine (callsIn_wide (n := 3)).1 ?_
  refine callsIn_of_wp_marks Tryz.func73 rfl trivial ?_ rfl
  simp only [Tryz.ntmps73, List.size_toArray, List.length_cons, List.length_nil, Nat.reduceAdd, Nat.reduceSub, Array.replicate_succ, Array.replicate_zero, List.push_toArray, List.append_toArray, List.nil_append, List.cons_append]
  have A1 := At.new w (Tro a n cap)
  obtain ⟨c0, f0⟩ := A1.one
  gi_wp2_with (first
    | (gi_at_make; refine wpListIn_make_full _ rfl _ _ 42 rfl (w.heap.size + 1) 3 i0 (.int .i64 0) 1 Tryz.underlying42 hi hz0 hz1 .i64 .i64 _ _ n rfl rfl rfl rfl (by rw [hz2]; omega) (by unfold maxLen; omega) (by simp) ?_; intro w1 hown1 hgrow1; have HM := rw_made rfl hown1; have hb1 := below_of_grown hgrow1; clear hown1 hgrow1; have A2 := A1.below hb1; have hs1 : w.heap.size + 1 < w1.heap.size := (by simpa using HM.lt); have hs0 : w.heap.size < w1.heap.size := (by omega); obtain ⟨c1, f1⟩ := A2.one)
    | (refine ⟨trivial, ?_⟩; gi_at_call 94; refine (callsIn_wide.2 (meets_any _ a n cap)).mono ?_; rintro e w2 ⟨bx, rfl, hbx, hlbx, hb2⟩))
  have HM' : Rw w1 (w.heap.size + 1) 3 (part L 0 (0 + 1)) := by
    rw [World.size_alloc] at HM
    have e : part L 0 (0 + 1) = List.replicate n (.int .i64 0) := by
      rw [← part_set hL0]
      unfold part iCells
      rw [HLl.out]
      simp
    rw [e]
    exact HM
  have a1 : At w2 w.heap.size (Tro a n cap) := (A2.alloc _).below hb2
  have a2 : Rw w2 (w.heap.size + 1) 3 (part L 0 (0 + 1)) := (HM'.alloc _).below hb2
  have a3 : At w2 w1.heap.size (One (.slice (some ⟨w.heap.size + 1, 0, none⟩) n n) 42) := (At.new w1 _).below hb2
  have hB2 : Below w.heap.size w w2 := below_aft (belA (below_aft (belA (Below.refl _ _)) hb1)) hb2
  have hs2 : w1.heap.size < w2.heap.size := a3.lt
  have hbl := hbx.lt
  have hlb : w1.heap.size < bx := by simp at hlbx; omega
  clear hb2 hlbx hb1 HM HM' c0 f0 c1 f1 A1 A2
  obtain ⟨bv, hbv⟩ : ∃ bv, bv = w1.heap.size := ⟨_, rfl⟩
  rw [← hbv] at a3 hs1 hs0 hlb hs2 ⊢
  clear hbv
  have HTELL : Tells Fence.wide 2 Tryz.prog 116 #[.pointer (some ⟨bx, 0, none⟩)] T (fun W => TAt W a T ∧ At W bx (Tro a n cap)) w2 := by
    have := meets1_tells 2 bx (by omega) T a cap hS hT0 w2
    rw [HTl.out] at this
    exact this
  refine range_tells (T := T) rfl (by omega) (gf := 116) (lb := #[.pointer (some ⟨bx, 0, none⟩)]) rfl trivial (enters_of Tryz.func116 (by kernel_rfl) rfl)
    HTELL (Below.refl _ _) rfl
    (VI w a n cap bv bx L) (fun _ _ => False) (vi_bears w a n cap bv bx L _ (by omega) hs2 hbl) (fun i W h => ⟨hT.below h.bel, h.b⟩) (none_own _)
    ⟨a1, a2, a3, hbx, hB2⟩
    (fun p d => { tmps := #[trV a n cap, .pointer (some ⟨w.heap.size, 0, none⟩), .slice none 0 0, .pointer (some ⟨bv, 0, none⟩), .int .i64 (p : Int), .int .i64 d, .pointer (some ⟨w.heap.size, 0, none⟩), .slice a n cap, .int .i64 (n : Int), .slice (some ⟨w.heap.size + 1, 0, none⟩) n n, .agg #[.slice a n cap], .func (.func 116) #[] #[.pointer (some ⟨bx, 0, none⟩)], .int .i64 (p : Int), .int .i64 d, undef, undef, undef, undef, undef, undef, undef, undef, undef], defers := [] }) ?assign ?body ?done ?stop
  case assign =>
    intro l p c W K hK
    gi_wp2
    exact hK
  case body =>
    rintro l i p d s s' W ⟨h1, h2, h3, h4, h5⟩ hst hnx
    obtain ⟨hi1, rfl, hup⟩ := HTOLD.out hst hnx
    obtain ⟨hpi, v, hv1, hv2, hv3⟩ := HSTEP.out hup
    have hin : i + 1 < n := by have := HN.out; omega
    obtain ⟨y0, yf⟩ := h3.one
    have u0 := h2.cell (part_get (z := 0) (show p < i + 1 by omega) hv1)
    have uf := h2.free (i + 1)
    have hset := h2.set (i + 1) (.int .i64 ((v + 1 : Nat) : Int))
    rw [part_set hv2] at hset
    obtain ⟨v0, hv0⟩ : ∃ v0, (part L 0 (i + 1))[i + 1]? = some v0 := ⟨_, List.getElem?_eq_getElem (by rw [part_len, HLl.out]; exact hin)⟩
    have ucell := h2.cell hv0
    have e1 : IntKind.i64.wrap ((v : Int) + 1) = (v : Int) + 1 := by rw [IntKind.wrap_i64]; omega
    have e2 : (0 : Int) ≤ (p : Int) := by omega
    have e3 : (p : Int) < (n : Int) := by omega
    have e4 : (0 : Int) ≤ (i : Int) + 1 := by omega
    have e5 : (i : Int) + 1 < (n : Int) := by omega
    have HSET : Hid (Rw (W.setCell ⟨w.heap.size + 1, i + 1, none⟩ (.int .i64 ((v + 1 : Nat) : Int))) (w.heap.size + 1) 3 (part L 0 (i + 1 + 1))) := hset
    have HST : Hid (stAt T i = some s) := hst
    clear hset hst hnx hup hv1 hv2 hv0
    gi_wp2
    gi_region
    all_goals gi_wp2
    all_goals exact ⟨(KeepsOthers.setCell _ _ _).trans (KeepsOthers.drew _), ⟨by simp [World.drew], fun k e1 e2 => Below.heap_setCell _ _ _ k (by simp; omega)⟩, ⟨(h1.set (by simp) _).drew, HSET.out, (h3.set (by simp; omega) _).drew, (h4.set (by simp; omega) _).drew, (h5.setCell (by simp) _).drew⟩, rfl, by rw [HTl.out]; exact hin⟩
  case done =>
    rintro D i s W hD hst hnx ⟨h1, h2, h3, h4, h5⟩ hK
    have hic := HEND.out ⟨s, hst, hnx⟩
    rw [part_full (by have := HLl.out; have := HN.out; omega)] at h2
    obtain ⟨y0, yf⟩ := h3.one
    clear hst hnx
    gi_wp2
    refine ⟨by simp, .inl ⟨_, _, rfl, run_takeDeferred hK, ?_⟩⟩
    have hg := grownBy_putObj' W D (.deferred none)
    refine ⟨.slice (some ⟨w.heap.size + 1, 0, none⟩) n n, ?_, w.heap.size + 1, rfl, h2.grown hg (by simp; omega), by omega, h5.grown hg h5.size (fun k e => by cases e; omega)⟩
    simp [results, Tryz.results73, go_sem]
  case stop => exact fun _ _ _ _ h _ => h.elim
theorem levels_any (x : Nx) (c : Fo) (a : Option Addr) (cap : Nat) (w : World) (hT : TAt w a ((Fo.cons x c .nil).flat 0)) (hS : Sm ((Fo.cons x c .nil).flat 0)) :
    Calls Tryz.prog 73 #[trV a (1 + c.size) cap] w fun e w' => ∃ g, e = .returned (.slice (some ⟨g, 0, none⟩) (1 + c.size) (1 + c.size)) ∧ Rw w' g 3 (iCells (lvI x c)) ∧ w.heap.size ≤ g ∧ Below w.heap.size w w' :=
  levels_n x c _ rfl a cap w hT hS
end Go.Proofs.YtahdnfogdnondaaGreatDoor
