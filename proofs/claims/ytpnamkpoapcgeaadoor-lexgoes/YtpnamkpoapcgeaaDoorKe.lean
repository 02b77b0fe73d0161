import Derived.Test.YtpnamkpoapcgeaaDoorKd
namespace Go.Proofs.YtpnamkpoapcgeaaDoor
open Go.RowKit Go.Shelf
attribute [local go_sem] Oper.semAt_some
set_option linter.unusedVariables false
set_option linter.unusedSimpArgs false

theorem Tryd.tokInfo : (Tryd.prog.info? 32).map (fun i => (i.zero, i.size, i.bytes)) = some (some (tok 0 0 0 ⟨#[]⟩), 4, 40) := by kernel_rfl
/-- The cells of tokens in a row. -/
def tkCells (ts : List Tk) : List Value := ts.flatMap (fun t => [.int .u8 (t.k : Int), .int .i64 (t.p : Int), .int .i64 (t.n : Int), .string (str t.s)])
theorem tkCells_snoc (ts : List Tk) (t : Tk) : tkCells (ts ++ [t]) = tkCells ts ++ [.int .u8 (t.k : Int), .int .i64 (t.p : Int), .int .i64 (t.n : Int), .string (str t.s)] := by simp [tkCells]
/-- A row of tokens of one's own. -/
abbrev TRow (w : World) (B : Nat) (v : Value) (ts : List Tk) : Prop := w.ownsRow B 32 4 v ts.length (tkCells ts)
theorem ownsRow_cells {w : World} {B : Nat} {v : Value} {ts : List Tk} (h : TRow w B v ts) : ∀ k, v.ownBlock = some k → ∃ cur, w.heap[k]? = some (.cells cur 32 (0, 0)) := by
  intro k hk
  rcases h.2 with ⟨rfl, _⟩ | ⟨g, cap, cur, rfl, hb, hg, _⟩
  · simp [Value.ownBlock] at hk
  · simp [Value.ownBlock] at hk
    subst hk
    exact ⟨cur, hg⟩
theorem ownsRow_ge {w : World} {B : Nat} {v : Value} {ts : List Tk} (h : TRow w B v ts) {b : Nat} (hb : b < B) : v.ownBlock ≠ some b := by
  intro e
  have := (h.lt b e).1
  omega
theorem ownsRow_kept {w w' : World} {B : Nat} {v : Value} {ts : List Tk} {row : Option Nat} (h : TRow w B v ts) (hg : w.grownBy w' row) (hne : ∀ k, row = some k → v.ownBlock ≠ some k) : TRow w' B v ts := by
  refine World.ownsRow.kept h hg ?_
  cases hv : v.ownBlock with
  | none => exact .inl rfl
  | some k => exact .inr (fun e => hne k e.symm hv)
theorem row_slice {w : World} {B : Nat} {v : Value} {n : Nat} {xs : List Value} (h : w.ownsRow B 32 4 v n xs) : ∃ a c, v = .slice a n c := by
  rcases h.2 with ⟨rfl, rfl⟩ | ⟨g, cap, cur, rfl, _⟩
  · exact ⟨_, _, rfl⟩
  · exact ⟨_, _, rfl⟩
/-- What holds between two rounds in Lex. -/
structure LI (w : World) (B : Nat) (r : Option Nat) (pre : List Tk) (W : World) : Prop where
  v : ∃ v, At W w.heap.size (One v 23) ∧ TRow W B v pre ∧ r = v.ownBlock
  h3 : At W (w.heap.size + 1) (One (.int .i64 0) 3)
  h4 : At W (w.heap.size + 1 + 1) (One (.int .i64 0) 24)
  bel : Below w.heap.size w W
  nz : ∀ t ∈ pre, t.k ≠ 0
structure LX (w : World) (pre : List Tk) (W : World) : Prop where
  t : ∃ p t, pre = p ++ [t] ∧ t.k = 0 ∧ At W (w.heap.size + 1) (One (.int .i64 (t.p : Int)) 3)
  h2 : At W w.heap.size (One (.slice none 0 0) 23)
  h4 : At W (w.heap.size + 1 + 1) (One (.int .i64 20) 24)
  bel : Below w.heap.size w W
theorem li_bears (w : World) (B : Nat) (hB : w.heap.size + 3 ≤ B) : Bears B (LI w B) := by
  rintro r s W W' row ⟨⟨v, hv, ho, rfl⟩, h3, h4, hb, hz⟩ hg hrow
  refine ⟨⟨v, hv.grown hg (fun e => by have := hrow _ e.symm; omega), ownsRow_kept ho hg (fun k e => (hrow k e).2), rfl⟩, h3.grown hg (fun e => by have := hrow _ e.symm; omega), h4.grown hg (fun e => by have := hrow _ e.symm; omega), hb.grown hg hb.size (fun k e => by have := (hrow k e).1; omega), hz⟩
theorem li_tag (w : World) (B : Nat) : Tagged 32 (LI w B) := by
  rintro r s W ⟨⟨v, hv, ho, rfl⟩, h3, h4, hb, hz⟩ k hk
  exact ownsRow_cells ho k hk
theorem lx_own (w : World) (B : Nat) (hB : w.heap.size + 3 ≤ B) : OwnFrom B (LX w) := by
  rintro s W W' row ⟨⟨p, t, h1, h2, h3⟩, h4, h5, hb⟩ hg hrow
  have ne : ∀ b, b < B → some b ≠ row := fun b hb' e => by have := (hrow b e.symm).1; omega
  exact ⟨⟨p, t, h1, h2, h3.grown hg (ne _ (by omega))⟩, h4.grown hg (ne _ (by omega)), h5.grown hg (ne _ (by omega)), hb.grown hg hb.size (fun k e => by have := (hrow k e).1; omega)⟩
theorem pcsF_zero (N : Nat) : ∀ (f : Nat) (l : List UInt8) (p q : List Tk) (t : Tk), pcsF N f l = p ++ t :: q → t.k = 0 → q = []
  | 0, l, p, q, t, h, _ => by simp [pcsF] at h
  | f + 1, l, p, q, t, h, hk => by
    cases hs : sk false l with
    | nil => rw [pcsF_nil _ _ _ hs] at h; simp at h
    | cons c r =>
      rw [pcsF_step _ _ _ _ _ hs] at h
      by_cases h0 : (rd (c :: r)).k = 0
      · rw [if_pos h0] at h
        cases p with
        | nil => simp at h; exact h.2
        | cons a p => simp at h
      · rw [if_neg h0] at h
        cases p with
        | nil =>
          simp at h
          rw [← h.1] at hk
          exact absurd hk h0
        | cons a p =>
          simp at h
          exact pcsF_zero N f _ p q t h.2 hk
theorem pcs_zero {N : Nat} {l : List UInt8} {p q : List Tk} {t : Tk} (h : pcs N l = p ++ t :: q) (hk : t.k = 0) : q = [] := pcsF_zero _ _ _ _ _ _ h hk
theorem news_tok (W : World) (k p n : Int) (s : ByteArray) : ∀ (j : Nat) (u : Value), ([.int .u8 k, .int .i64 p, .int .i64 n, .string s] : List Value)[j]? = some u → (W.alloc (Tok k p n s)).cell? ((⟨W.heap.size, 0, none⟩ : Addr).add j) = some u := by
  intro j u hu
  obtain ⟨c0, c1, c2, c3, _⟩ := (At.new W (Tok k p n s)).tok
  have hadd : (⟨W.heap.size, 0, none⟩ : Addr).add j = ⟨W.heap.size, j, none⟩ := by unfold Addr.add; split <;> simp_all
  rw [hadd]
  match j, hu with
  | 0, hu => simp at hu; rw [c0, hu]
  | 1, hu => simp at hu; rw [c1, hu]
  | 2, hu => simp at hu; rw [c2, hu]
  | 3, hu => simp at hu; rw [c3, hu]
  | j + 4, hu => simp at hu
theorem ones_tok (k p n : Int) (s : ByteArray) : ∀ u ∈ ([.int .u8 k, .int .i64 p, .int .i64 n, .string s] : List Value), u.oneCell' = true := by
  intro u hu
  simp at hu
  rcases hu with rfl | rfl | rfl | rfl <;> rfl
/-- What Lex answers: the tokens; or, where the last piece has no kind, its place. -/
def LexPost (w : World) (S : List UInt8) (e : Ending) (w' : World) : Prop :=
  Below w.heap.size w w' ∧
  ((∃ v, e = .returned (.tuple #[v, .int .i64 0, .int .i64 0]) ∧ TRow w' w.heap.size v (pcs S.length S) ∧ ∀ t ∈ pcs S.length S, t.k ≠ 0) ∨
   (∃ p t, e = .returned (.tuple #[.slice none 0 0, .int .i64 (t.p : Int), .int .i64 20]) ∧ pcs S.length S = p ++ [t] ∧ t.k = 0))
set_option maxRecDepth 100000 in
set_option maxHeartbeats 4000000 in
theorem lex_any (w : World) (S : List UInt8) (hS : S.length ≤ 65536) :
    Calls Tryd.prog 10 #[.string (str S)] w (LexPost w S) := by
  have hsz : (str S).size = S.length := str_size S
  have hle : ((S.length : Int) > 65536) = False := by simp; omega
  obtain ⟨i0, hi, hz0, hz1, hz2⟩ := info_parts Tryd.tokInfo
  refine (callsIn_wide (n := 3)).1 ?_
  refine callsIn_of_wp_marks Tryd.func10 rfl trivial ?_ rfl
  simp only [Tryd.ntmps10, List.size_toArray, List.length_cons, List.length_nil, Nat.reduceAdd, Nat.reduceSub, Array.replicate_succ, Array.replicate_zero, List.push_toArray, List.append_toArray, List.nil_append, List.cons_append]
  gi_wp2_with (first
    | (refine ⟨trivial, ?_⟩; gi_at_call 29; refine (callsIn_wide.2 (pieces_any _ (str S))).mono ?_; rintro e w2 ⟨bx, rfl, hbx, hlbx, hb2⟩))
  have a2 : At w2 w.heap.size (One (.slice none 0 0) 23) := (((At.new w (One (.slice none 0 0) 23)).alloc _).alloc _).below hb2
  have a3 : At w2 (w.heap.size + 1) (One (.int .i64 0) 3) := ((at_snd w _ (One (.int .i64 0) 3)).alloc _).below hb2
  have a4 : At w2 (w.heap.size + 1 + 1) (One (.int .i64 0) 24) := by
    have := at_snd (w.alloc (One (.slice none 0 0) 23)) (One (.int .i64 0) 3) (One (.int .i64 0) 24)
    rw [World.size_alloc] at this
    exact this.below hb2
  have hB2 : Below w.heap.size w w2 := below_aft (belA (belA (belA (Below.refl _ _)))) hb2
  have hs2 : w.heap.size + 3 ≤ w2.heap.size := by have := hb2.size; simp at this; omega
  clear hb2 hlbx
  refine range_tells rfl (by omega) (gf := 45) (lb := #[.pointer (some ⟨bx, 0, none⟩)]) rfl trivial (enters_of Tryd.func45 (by kernel_rfl) rfl)
    (pieces1_tells 2 bx (by omega) S (by unfold maxLen; omega) w2 hbx) (Below.refl _ _) rfl
    (LI w w2.heap.size) (LX w) (li_bears w _ hs2) (li_tag w _) (lx_own w _ hs2)
    ⟨⟨_, a2, World.ownsRow_nil _ _ _ _, rfl⟩, a3, a4, hB2, fun t h => by cases h⟩
    (fun x b => { tmps := #[.string (str S), undef, .pointer (some ⟨w.heap.size, 0, none⟩), .pointer (some ⟨w.heap.size + 1, 0, none⟩), .pointer (some ⟨w.heap.size + 1 + 1, 0, none⟩), .pointer (some ⟨b, 0, none⟩), .string (str S), .int .i64 (S.length : Int), .bool false, .string (str S), .func (.func 45) #[] #[.pointer (some ⟨bx, 0, none⟩)], tkV x, undef, undef, undef, undef, undef, undef, undef, undef, undef, undef], defers := [] })
    (fun x => Tok x.k x.p x.n (str x.s)) ?assign ?body ?done ?stop
  case assign =>
    intro l x W K hK
    gi_wp2
    exact hK
  case body =>
    rintro l r pre x b W ⟨⟨v, hv, ho, rfl⟩, h3, h4, hb, hz⟩ hx hbl hrb hlen
    have X : At W b (Tok x.k x.p x.n (str x.s)) := hx
    obtain ⟨k0, k1, k2, k3, kf⟩ := X.tok
    obtain ⟨v0, vf⟩ := hv.one
    obtain ⟨p0, pf⟩ := h3.one
    obtain ⟨q0, qf⟩ := h4.one
    by_cases hk : x.k = 0
    · have hkb : ((x.k : Int) == 0) = true := by simp [hk]
      gi_wp2
      gi_region
      all_goals gi_wp2
      all_goals exact ⟨(((KeepsOthers.setCell _ _ _).trans (KeepsOthers.setCell _ _ _)).trans (KeepsOthers.setCell _ _ _)).trans (KeepsOthers.drew _),
        ⟨pre, x, rfl, hk, (((h3.set (by simp) _).setOne _).set (by simp) _).drew⟩, (((hv.setOne _).set (by simp) _).set (by simp; omega) _).drew, (((h4.set (by simp; omega) _).set (by simp) _).setOne _).drew,
        (((hb.setCell (by simp) _).setCell (by simp) _).setCell (by simp; omega) _).drew⟩
    · have hkb : ((x.k : Int) == 0) = false := by simp [hk]
      have hlS := pcs_len S.length S
      have ho' : TRow (W.alloc (Tok x.k x.p x.n (str x.s))) w2.heap.size v pre := ho.alloc _
      have hWs := X.lt
      gi_wp2_with (first
        | (gi_at_builtin; refine wpListIn_append_own _ rfl _ _ 23 rfl w2.heap.size 32 i0 (tok 0 0 0 ⟨#[]⟩) 4 40 Tryd.underlying23 hi hz0 hz1 hz2 rfl (by decide) v pre.length (tkCells pre) rfl ho' ⟨W.heap.size, 0, none⟩ 1 1 [.int .u8 (x.k : Int), .int .i64 (x.p : Int), .int .i64 (x.n : Int), .string (str x.s)] rfl rfl (news_tok W _ _ _ _) (ones_tok _ _ _ _) (by unfold maxLen; omega) (by omega) (by simp; omega) ?_; intro v' w3 ho3 hg3 hn3; obtain ⟨sa, sc, rfl⟩ := row_slice ho3; obtain ⟨v1, vf1⟩ := ((hv.alloc (Tok x.k x.p x.n (str x.s))).grown hg3 (ownsRow_ge ho (by omega)).symm).one))
      have row : ∀ j o, v.ownBlock = some j → (W.alloc (Tok x.k x.p x.n (str x.s))).heap[j]? = some o → o.isCells = true := fun j o e h => by
        obtain ⟨cur, hc⟩ := ownsRow_cells ho' j e
        rw [hc] at h
        cases h
        rfl
      have g0 : ∀ b', b' < w2.heap.size → some b' ≠ v.ownBlock := fun b' h => (ownsRow_ge ho h).symm
      have G : W.grownBy w3 v.ownBlock := grown_trans (World.grownBy_alloc W (Tok x.k x.p x.n (str x.s)) _) hg3
      refine ⟨((KeepsOthers.alloc _ _).trans (KeepsOthers.of_grownBy hg3 row)).trans (KeepsOthers.setCell _ _ _), ⟨?_, ?_⟩, _, ⟨⟨_, (hv.grown G (g0 _ (by omega))).setOne _, ?_, rfl⟩, (h3.grown G (g0 _ (by omega))).set (by simp) _, (h4.grown G (g0 _ (by omega))).set (by simp; omega) _, ?_, ?_⟩⟩
      · rw [World.size_setCell]; exact G.size
      · intro k e1 e2 e3
        rw [Below.heap_setCell _ _ _ k (by simp; omega)]
        exact G.block k e2 (fun e => e3 e.symm)
      · show World.ownsRow _ _ _ _ _ (pre ++ [x]).length (tkCells (pre ++ [x]))
        rw [tkCells_snoc, List.length_append]
        exact World.ownsRow.kept ho3 (grown_one w3 w.heap.size _) (.inr (fun e => by have := (ho3.lt _ e).1; omega))
      · exact (hb.grown G hb.size (fun k e => by have := (ho.lt _ e).1; omega)).setCell (by simp) _
      · intro t ht
        rcases List.mem_append.1 ht with h | h
        · exact hz t h
        · simp at h; rw [h]; exact hk
  case done =>
    rintro D r xs W hD rfl ⟨⟨v, hv, ho, rfl⟩, h3, h4, hb, hz⟩ hK
    obtain ⟨v0, vf⟩ := hv.one
    obtain ⟨p0, pf⟩ := h3.one
    obtain ⟨q0, qf⟩ := h4.one
    obtain ⟨sa, sc, rfl⟩ := row_slice ho
    gi_wp2
    have hK' := (((KeepsOthers.setCell W ⟨w.heap.size, 0, none⟩ (.slice sa (pcs S.length S).length sc)).trans (KeepsOthers.setCell _ ⟨w.heap.size + 1, 0, none⟩ (.int .i64 0))).trans (KeepsOthers.setCell _ ⟨w.heap.size + 1 + 1, 0, none⟩ (.int .i64 0))).same D _ hK rfl
    have b2 := ((hv.setOne (.slice sa (pcs S.length S).length sc)).set (a := ⟨w.heap.size + 1, 0, none⟩) (by simp) (.int .i64 0)).set (a := ⟨w.heap.size + 1 + 1, 0, none⟩) (by simp; omega) (.int .i64 0)
    have b3 := ((h3.set (a := ⟨w.heap.size, 0, none⟩) (by simp) (.slice sa (pcs S.length S).length sc)).setOne (.int .i64 0)).set (a := ⟨w.heap.size + 1 + 1, 0, none⟩) (by simp) (.int .i64 0)
    have b4 := ((h4.set (a := ⟨w.heap.size, 0, none⟩) (by simp; omega) (.slice sa (pcs S.length S).length sc)).set (a := ⟨w.heap.size + 1, 0, none⟩) (by simp) (.int .i64 0)).setOne (.int .i64 0)
    have bB := ((hb.setCell (p := ⟨w.heap.size, 0, none⟩) (by simp) (.slice sa (pcs S.length S).length sc)).setCell (p := ⟨w.heap.size + 1, 0, none⟩) (by simp) (.int .i64 0)).setCell (p := ⟨w.heap.size + 1 + 1, 0, none⟩) (by simp; omega) (.int .i64 0)
    have o1 := ownsRow_kept (ts := pcs S.length S) ho (grown_one W w.heap.size (.slice sa (pcs S.length S).length sc)) (fun k e => by cases e; exact ownsRow_ge ho (by omega))
    have o2 := ownsRow_kept (ts := pcs S.length S) o1 (grown_one _ (w.heap.size + 1) (.int .i64 0)) (fun k e => by cases e; exact ownsRow_ge ho (by omega))
    have o3 := ownsRow_kept (ts := pcs S.length S) o2 (grown_one _ (w.heap.size + 1 + 1) (.int .i64 0)) (fun k e => by cases e; exact ownsRow_ge ho (by omega))
    generalize ((W.setCell ⟨w.heap.size, 0, none⟩ (.slice sa (pcs S.length S).length sc)).setCell ⟨w.heap.size + 1, 0, none⟩ (.int .i64 0)).setCell ⟨w.heap.size + 1 + 1, 0, none⟩ (.int .i64 0) = V at *
    refine ⟨by simp, .inl ⟨_, _, rfl, run_takeDeferred hK', ?_⟩⟩
    have hg := grownBy_putObj' V D (.deferred none)
    have c2 := (b2.grown hg (by simp; omega)).one.1
    have c3 := (b3.grown hg (by simp; omega)).one.1
    have c4 := (b4.grown hg (by simp; omega)).one.1
    have o4 := ownsRow_kept (ts := pcs S.length S) o3 hg (fun k e e' => by
      cases e
      obtain ⟨cur, hc⟩ := ownsRow_cells o3 _ e'
      rw [hK'] at hc
      cases hc)
    refine ⟨.tuple #[.slice sa (pcs S.length S).length sc, .int .i64 0, .int .i64 0], ?_, ?_, .inl ⟨_, rfl, ⟨o4.1, ?_⟩, hz⟩⟩
    · simp [results, Tryd.results10, go_sem, c2, c3, c4]
    · exact bB.grown hg bB.size (fun k e => by cases e; omega)
    · rcases o4.2 with h | ⟨g, cap, cur, h1, h2, h3⟩
      · exact .inl h
      · exact .inr ⟨g, cap, cur, h1, by omega, h3⟩
  case stop =>
    rintro D pre W hD hpre ⟨⟨p, t, rfl, hk, h3⟩, h2, h4, hb⟩ hK
    gi_wp2
    refine ⟨by simp, .inl ⟨_, _, rfl, run_takeDeferred hK, ?_⟩⟩
    have hg := grownBy_putObj' W D (.deferred none)
    have c2 := (h2.grown hg (by simp; omega)).one.1
    have c3 := (h3.grown hg (by simp; omega)).one.1
    have c4 := (h4.grown hg (by simp; omega)).one.1
    obtain ⟨q, hq⟩ := hpre
    have hq0 : q = [] := pcs_zero (p := p) (t := t) (N := S.length) (l := S) (by rw [← hq]; simp) hk
    subst hq0
    refine ⟨.tuple #[.slice none 0 0, .int .i64 (t.p : Int), .int .i64 20], ?_, hb.grown hg hb.size (fun k e => by cases e; omega), .inr ⟨p, t, rfl, by rw [← hq]; simp, hk⟩⟩
    simp [results, Tryd.results10, go_sem, c2, c3, c4]
set_option maxRecDepth 100000 in
theorem lex_long (w : World) (S : List UInt8) (hS : 65536 < S.length) (hm : S.length ≤ maxLen) :
    Calls Tryd.prog 10 #[.string (str S)] w fun e w' => e = .returned (.tuple #[.slice none 0 0, .int .i64 0, .int .i64 3]) ∧ Below w.heap.size w w' := by
  have hsz : (str S).size = S.length := str_size S
  have hle : ((65536 : Int) < (S.length : Int)) := by omega
  refine (callsIn_wide (n := 3)).1 ?_
  refine callsIn_of_wp_marks Tryd.func10 rfl trivial ?_ rfl
  simp only [Tryd.ntmps10, List.size_toArray, List.length_cons, List.length_nil, Nat.reduceAdd, Nat.reduceSub, Array.replicate_succ, Array.replicate_zero, List.push_toArray, List.append_toArray, List.nil_append, List.cons_append]
  gi_wp2
  have c2 := (((At.new w (One (.slice none 0 0) 23)).alloc (One (.int .i64 0) 3)).alloc (One (.int .i64 3) 24)).one.1
  have c3 := ((at_snd w (One (.slice none 0 0) 23) (One (.int .i64 0) 3)).alloc (One (.int .i64 3) 24)).one.1
  have c4 := at_snd (w.alloc (One (.slice none 0 0) 23)) (One (.int .i64 0) 3) (One (.int .i64 3) 24)
  rw [World.size_alloc] at c4
  replace c4 := c4.one.1
  refine ⟨.tuple #[.slice none 0 0, .int .i64 0, .int .i64 3], ?_, rfl, belA (belA (belA (Below.refl _ _)))⟩
  simp [results, Tryd.results10, go_sem, c2, c3, c4]
end Go.Proofs.YtpnamkpoapcgeaaDoor
