import Derived.Test.YtkidcmglidnaoaaZo
import Derived.Test.YtkidcmglidnaoaaNames
namespace Go.Proofs.Ytkidcmglidnaoaa
open Go.ChangeShapes Go.WideShapes Go.ChangeAt Go.RowKit Go.Joins
set_option linter.unusedVariables false
set_option linter.unusedSimpArgs false
set_option maxRecDepth 100000 in
theorem open_tree1 {H : Type} {enc : TypeId × Value → H} {W : World} {base n1 : Nat} {c0 : Value} {x : DataW H × List MemPlace} {held : Bool} (hf : DataW.trod enc Try.prog W base (fun _ => true) held n1 24 [c0] = some x) :
    ∃ a cap, ∃ T : List Nd, c0 = .slice a T.length cap ∧ TAt W a T ∧ Lg T ∧ T.length ≤ cap := by
  obtain ⟨y0, n0, _, _, h0⟩ := trod_struct1 Try.underlying24 hf
  simp only [ones48.2.2.2.2.2] at h0
  simp at h0
  rcases Deep.open_slice Try.underlying22 h0 with ⟨hcs, _⟩ | ⟨a, len, cap, m, n, D, Pl, hcs, hb, hl, hm, hmm, _, hx⟩
  · simp at hcs
    subst hcs
    exact ⟨none, 0, [], rfl, fun h => absurd rfl h, ⟨Nat.zero_le _, fun d hd => (by cases hd), fun d hd => (by cases hd), fun d hd => (by cases hd)⟩, Nat.le_refl _⟩
  · simp at hcs
    subst hcs
    simp at hmm
    have each : ∀ i, i < len → ∃ d : Nd, W.cell? (a.add (i * 5)) = some (.int .u8 (d.x.k : Int)) ∧ W.cell? (a.add (i * 5 + 1)) = some (.int .i64 d.x.p) ∧ W.cell? (a.add (i * 5 + 2)) = some (.int .i64 d.x.n) ∧ W.cell? (a.add (i * 5 + 3)) = some (.string (str d.x.s)) ∧ (∃ al cap, W.cell? (a.add (i * 5 + 4)) = some (.slice al d.l.length cap) ∧ IRow W al d.l) ∧ LgN d := by
      intro i hi
      obtain ⟨cs', h1, h2⟩ := hx i (by omega)
      rw [cells48] at h1
      obtain ⟨t, g0, g1, g2, g3, g4, g5⟩ := open_node (fun _ => rfl) h1 h2
      rw [Deep.add_add] at g1 g2 g3 g4
      exact ⟨t, g0, g1, g2, g3, g4, g5⟩
    haveI : Inhabited Nd := ⟨⟨⟨0, 0, 0, []⟩, []⟩⟩
    obtain ⟨q, hq⟩ := Deep.choose_lt each
    refine ⟨some a, cap, (List.range len).map q, by simp, ?_, ⟨by simp; omega, ?_, ?_, ?_⟩, by simpa using hl⟩
    · intro hne
      have hpos : 0 < len := by
        rcases Nat.eq_zero_or_pos len with h | h
        · subst h; exact absurd rfl hne
        · exact h
      obtain ⟨b, off, spot⟩ := a
      have hc := (hq 0 hpos).1
      have hspot : spot = none := by simpa [Addr.add] using World.cell?_spot hc
      subst hspot
      refine ⟨b, off, rfl, fun i t ht => ?_⟩
      rw [List.getElem?_map] at ht
      rcases Nat.lt_or_ge i len with hi | hi
      · rw [List.getElem?_range hi] at ht
        cases ht
        obtain ⟨g0, g1, g2, g3, ⟨al, cp, g4, g5⟩, _⟩ := hq i hi
        rw [Addr.add_lit] at g0 g1 g2 g3 g4
        exact ⟨lt_of_cell0 g0, g0, g1, g2, g3, al, cp, g4, g5⟩
      · rw [List.getElem?_eq_none (by simpa using hi)] at ht
        cases ht
    · intro t ht
      obtain ⟨i, hi, rfl⟩ := List.mem_map.1 ht
      exact (hq i (List.mem_range.1 hi)).2.2.2.2.2.x
    · intro t ht
      obtain ⟨i, hi, rfl⟩ := List.mem_map.1 ht
      exact (hq i (List.mem_range.1 hi)).2.2.2.2.2.l
    · intro t ht
      obtain ⟨i, hi, rfl⟩ := List.mem_map.1 ht
      exact (hq i (List.mem_range.1 hi)).2.2.2.2.2.c
/-- A list of trees in the arguments. -/
theorem open_trees {H : Type} {enc : TypeId × Value → H} {W : World} {r : Reach} {b0 base : Nat} {v : Value} {d : DataW H} {p : List MemPlace} {held : Bool} (hval : Value.okWide Try.prog W r b0 49 v) (h : DataW.Trod enc Try.prog W base (fun _ => true) held 49 v d p) :
    ∃ a cap, ∃ Ts : List (List Nd), v = .slice a Ts.length cap ∧ CRow W a Ts ∧ (∀ T ∈ Ts, Lg T) ∧ Ts.length ≤ maxLen := by
  obtain ⟨fuel, hf⟩ := h
  obtain ⟨a0, n0, c0, rfl⟩ := okWide_slice Try.underlying49 hval
  simp [Value.cells] at hf
  rcases Deep.open_slice Try.underlying49 hf with ⟨hcs, _⟩ | ⟨a, len, cap, m, n, D, Pl, hcs, hb, hl, hm, hmm, _, hx⟩
  · simp at hcs
    obtain ⟨rfl, rfl, rfl⟩ := hcs
    exact ⟨none, 0, [], rfl, fun h => absurd rfl h, fun T h => (by cases h), Nat.zero_le _⟩
  · simp at hcs
    obtain ⟨rfl, rfl, rfl⟩ := hcs
    simp at hmm
    have each : ∀ i, i < n0 → ∃ T : List Nd, ∃ ai capi, W.cell? (a.add i) = some (.slice ai T.length capi) ∧ TAt W ai T ∧ Lg T := by
      intro i hi
      obtain ⟨cs', h1, h2⟩ := hx i (by omega)
      rw [cells24] at h1
      obtain ⟨_, hlen, hcell⟩ := World.cells?_some h1
      match cs', hlen with
      | [u], _ =>
        obtain ⟨ai, capi, T, rfl, h3, h4, _⟩ := open_tree1 h2
        have := hcell 0 (by omega)
        exact ⟨T, ai, capi, by simpa [Addr.add] using this, h3, h4⟩
    obtain ⟨q, hq⟩ := Deep.choose_lt each
    refine ⟨some a, c0, (List.range n0).map q, by simp, ?_, ?_, by simp; omega⟩
    · intro hne
      have hpos : 0 < n0 := by
        rcases Nat.eq_zero_or_pos n0 with h | h
        · subst h; exact absurd rfl hne
        · exact h
      obtain ⟨b, off, spot⟩ := a
      obtain ⟨ai, capi, hc, _⟩ := hq 0 hpos
      have hspot : spot = none := by simpa [Addr.add] using World.cell?_spot hc
      subst hspot
      refine ⟨b, off, rfl, ?_, fun i t ht => ?_⟩
      · rw [Addr.add_lit] at hc; exact lt_of_cell0 hc
      rw [List.getElem?_map] at ht
      rcases Nat.lt_or_ge i n0 with hi | hi
      · rw [List.getElem?_range hi] at ht
        cases ht
        obtain ⟨ai, capi, g0, g1, g2⟩ := hq i hi
        rw [Addr.add_lit] at g0
        exact ⟨ai, capi, g0, g1⟩
      · rw [List.getElem?_eq_none (by simpa using hi)] at ht
        cases ht
    · intro t ht
      obtain ⟨i, hi, rfl⟩ := List.mem_map.1 ht
      obtain ⟨ai, capi, g0, g1, g2⟩ := hq i (List.mem_range.1 hi)
      exact g2
set_option maxRecDepth 100000 in
/-- A node that is an argument. -/
theorem open_nodeV {H : Type} {enc : TypeId × Value → H} {W : World} {r : Reach} {b0 base : Nat} {v : Value} {d : DataW H} {p : List MemPlace} {held : Bool} (hval : Value.okWide Try.prog W r b0 48 v) (h : DataW.Trod enc Try.prog W base (fun _ => true) held 48 v d p) :
    ∃ nx an capn, ∃ L : List Int, v = ndV nx an L.length capn ∧ IRow W an L ∧ SmX nx ∧ L.length ≤ maxLen ∧ ((DataW.weights Try.prog 48 d).all (· ≤ reachBytes) = true → nx.s.length ≤ 140737488355328) := by
  obtain ⟨cs, rfl, hsz⟩ := okWide_struct Try.underlying48 hval
  rw [cells48] at hsz
  obtain ⟨fuel, hf⟩ := h
  obtain ⟨f0, f1, f2, f3, f4, hu, e0, e1, e2, e3, e4, o0, o1, o2, o3, o4⟩ := one48
  obtain ⟨k0, k1, k2, k3, k4, _⟩ := ones48
  obtain ⟨xs, m, _, hxx, hl, hlen, hfs⟩ := DataW.trod_struct hu hf
  obtain ⟨l⟩ := cs
  match l, hsz with
  | [c0, c1, c2, c3, c4], _ =>
    match xs, hlen with
    | [y0, y1, y2, y3, y4], _ =>
      have h0 := hfs 0 f0 rfl
      have h1 := hfs 1 f1 rfl
      have h2 := hfs 2 f2 rfl
      have h3 := hfs 3 f3 rfl
      have h4 := hfs 4 f4 rfl
      rw [o0, e0, k0] at h0
      rw [o1, e1, k1] at h1
      rw [o2, e2, k2] at h2
      rw [o3, e3, k3] at h3
      rw [o4, e4, k4] at h4
      simp [Value.cells] at h0 h1 h2 h3 h4
      obtain ⟨k, q0, _, w0⟩ := DataW.trod_int Try.underlying46 h0
      obtain ⟨pp, q1, _, w1⟩ := DataW.trod_int Try.underlying3 h1
      obtain ⟨n, q2, _, w2⟩ := DataW.trod_int Try.underlying2 h2
      obtain ⟨s, q3, hy3, w3⟩ := DataW.trod_string Try.underlying9 h3
      obtain ⟨al, cap, L, q4, w4, w5, w6⟩ := open_list (fun _ => rfl) h4
      simp at q0 q1 q2 q3
      subst q0 q1 q2 q3 q4
      simp [Lit.wf, IntKind.min, IntKind.max, IntKind.signed, IntKind.bits] at w0 w1 w2
      have hk : ((k.toNat : Nat) : Int) = k := by omega
      refine ⟨⟨k.toNat, pp, n, s.data.toList⟩, al, cap, L, ?_, w5, ⟨by show k.toNat ≤ 255; omega, w1.1, w1.2, w2.1, w2.2, w3⟩, w4, fun hw => ?_⟩
      · show _ = Value.agg #[.int .u8 ((k.toNat : Nat) : Int), .int .i64 pp, .int .i64 n, .string (str s.data.toList), .slice al L.length cap]
        rw [hk]
        rfl
      · have hd : d = .agg [y0.1, y1.1, y2.1, y3.1, y4.1] := congrArg Prod.fst hxx
        rw [hd, hy3] at hw
        unfold DataW.weights at hw
        rw [hu] at hw
        simp only [DataW.weightsEach, List.map, List.toArray, List.all_append, Bool.and_eq_true] at hw
        have h3' := hw.2.2.2.1
        simp only [DataW.weights, List.all_cons, List.all_nil, Bool.and_true, decide_eq_true_eq] at h3'
        have : reachBytes = 140737488351232 := rfl
        show s.data.toList.length ≤ _
        omega
/-- A row whose contract may use that no argument is greater than a machine's memory. -/
theorem returns_sized {H : Type} {enc : TypeId × Value → H} {a : Assume} {C : Checked} {os : Os} {f : FuncId} {fn : Func} {s : ChangeSpec} {conds : List PathCond} {apart fresh handsOn again : Bool}
    (own : ownKnob C.prog.godebug = none) (started : os.Started) (noInit : C.prog.inits.idxOf? f = none) (hfn : C.prog.funcs[f]? = some fn)
    (witness : ∃ (w : World) (tape : Tape) (i : Input), w.os = os ∧ (w.forCall tape i).Shaped C.prog ∧ i.vars = [] ∧ Input.okWide C.prog (w.forCall tape i) .any w.heap.size f i ∧
      s.pre6 enc C.prog fn conds apart (w.forCall tape i).memory i.args ∧ a.holds C.prog (lone (Frame.enter C.prog f i.args .normal) [] (w.forCall tape i)))
    (contract : ∀ (W : World) (base : Nat) (args : Array Value) (ds gs : List (DataW H)) (before : List MemPlace),
      (∀ (j : Nat) t v, fn.params[j]? = some t → args[j]? = some v → Value.okWide C.prog W .any base t v) →
      DataW.Whole enc C.prog fn.params.toList s.vars apart W args.toList ds gs before →
      (DataW.weightsEach C.prog (fn.params.toList ++ (OpenSpec.ofChange s).bare.plain.varTypes C.prog) (ds ++ gs)).all (· ≤ reachBytes) = true →
      Calls C.prog f args W fun e W' => ∃ v, e = .returned v ∧ s.post enc C.prog fn apart fresh handsOn again W args v W') :
    ReturnsInHanded a C os f .any (s.pre6 enc C.prog fn conds apart) (s.post enc C.prog fn apart fresh handsOn again) := by
  refine returnsInHanded_of_calls own started noInit witness ?_
  intro w tape i _ _ _ hok hpre hholds
  obtain ⟨_, _, _, fn', hfn', _, _, _, _, hval⟩ := hok
  have e : fn' = fn := Option.some.inj (hfn'.symm.trans hfn)
  subst e
  obtain ⟨_, _, ds, gs, before, hw, hz⟩ := hpre
  have hw' := DataW.Whole.of_heap (w' := w.forCall tape i) (by rfl) hw
  refine (contract (w.forCall tape i) w.heap.size i.args ds gs before hval hw' hz).mono fun e W' ⟨v, he, hp⟩ => ?_
  subst he
  exact ChangeSpec.post_blind hp
end Go.Proofs.Ytkidcmglidnaoaa
