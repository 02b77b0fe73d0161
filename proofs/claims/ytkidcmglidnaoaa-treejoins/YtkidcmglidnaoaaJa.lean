import Derived.Test.YtkidcmglidnaoaaSv
namespace Go.Proofs.Ytkidcmglidnaoaa
open Go.RowKit Go.Shelf
set_option linter.unusedVariables false
set_option linter.unusedSimpArgs false
/-- A tree that grows, its root's children beside it, and a box that is none of theirs. -/
structure OJ (lo sk : Nat) (W : World) (v vl : Value) (T : List Nd) (L : List Int) (ys : List Value) : Prop where
  og : OG lo W v T ys
  l : W.ownsRow lo 3 1 vl L.length (iCells L)
  ne : ∀ b, vl.ownBlock = some b → v.ownBlock ≠ some b
  nd : ∀ i u, ys[i * 5 + 4]? = some u → ∀ b, u.ownBlock = some b → vl.ownBlock ≠ some b ∧ b ≠ sk
  s1 : v.ownBlock ≠ some sk
  s3 : vl.ownBlock ≠ some sk
  sl : sk < W.heap.size
theorem OG.len {lo : Nat} {W : World} {v : Value} {T : List Nd} {ys : List Value} (h : OG lo W v T ys) : ys.length = T.length * 5 := h.row.1
/-- The row of a node's children, told by its cell. -/
theorem OG.at4 {lo : Nat} {W : World} {v : Value} {T : List Nd} {ys : List Value} (h : OG lo W v T ys) {i : Nat} {u : Value} (hu : ys[i * 5 + 4]? = some u) : ∀ b, u.ownBlock = some b → lo ≤ b ∧ b < W.heap.size := by
  have hi := (List.getElem?_eq_some_iff.1 hu).1
  have hl := h.len
  obtain ⟨d, hd⟩ : ∃ d, T[i]? = some d := ⟨_, List.getElem?_eq_getElem (by omega)⟩
  obtain ⟨u', ⟨n0, n1, n2, n3, n4⟩, h2, h3⟩ := h.nd i d hd
  rw [hu] at n4
  cases n4
  exact fun b e => ⟨(h2.lt b e).1, (h3 b e).2⟩
theorem OG.keptBy {lo : Nat} {W W' : World} {v : Value} {T : List Nd} {ys : List Value} (h : OG lo W v T ys) {r : Option Nat} (hg : W.grownBy W' r) (h1 : ∀ b, v.ownBlock = some b → r ≠ some b) (h2 : ∀ i u, ys[i * 5 + 4]? = some u → ∀ b, u.ownBlock = some b → r ≠ some b) : OG lo W' v T ys := by
  have kp : ∀ {z : Value}, (∀ b, z.ownBlock = some b → r ≠ some b) → z.ownBlock = none ∨ z.ownBlock ≠ r := fun {z} hz => by
    cases e : z.ownBlock with
    | none => exact .inl rfl
    | some b => exact .inr (fun e' => hz b e e'.symm)
  refine ⟨h.row.kept hg (kp h1), fun i d hd => ?_⟩
  obtain ⟨u, n, o, b⟩ := h.nd i d hd
  exact ⟨u, n, o.kept hg (kp (h2 i u n.2.2.2.2)), fun c e => ⟨(b c e).1, Nat.lt_of_lt_of_le (b c e).2 hg.size⟩⟩
theorem OJ.range {lo sk : Nat} {W W' : World} {v vl : Value} {T : List Nd} {L : List Int} {ys : List Value} (h : OJ lo sk W v vl T L ys) (hs : W.heap.size ≤ W'.heap.size) (hr : ∀ b, lo ≤ b → b < W.heap.size → W'.heap[b]? = W.heap[b]?) : OJ lo sk W' v vl T L ys :=
  ⟨h.og.range hs hr, owns_rng h.l hr, h.ne, h.nd, h.s1, h.s3, Nat.lt_of_lt_of_le h.sl hs⟩
theorem OJ.below {lo sk : Nat} {W W' : World} {v vl : Value} {T : List Nd} {L : List Int} {ys : List Value} (h : OJ lo sk W v vl T L ys) (hb : Below W.heap.size W W') : OJ lo sk W' v vl T L ys := h.range hb.size (fun b _ hb' => hb.block b hb')
/-- The box is written. -/
theorem OJ.box {lo sk : Nat} {W : World} {v vl : Value} {T : List Nd} {L : List Int} {ys : List Value} (h : OJ lo sk W v vl T L ys) (o : Nat) (x : Value) : OJ lo sk (W.setCell ⟨sk, o, none⟩ x) v vl T L ys := by
  have hg : W.grownBy (W.setCell ⟨sk, o, none⟩ x) (some sk) := grown_set (grown_refl W (some sk)) o x
  refine ⟨h.og.keptBy hg (fun b e e' => h.s1 (by rw [e, ← e'])) (fun i u hu b e e' => (h.nd i u hu b e).2 (Option.some.inj e').symm), ?_, h.ne, h.nd, h.s1, h.s3, by rw [World.size_setCell]; exact h.sl⟩
  exact h.l.kept hg (.inr (fun e => h.s3 e))
/-- The root has a child more. -/
theorem OJ.more {lo sk : Nat} {W W' : World} {v vl vl' : Value} {T : List Nd} {L : List Int} {ys : List Value} (h : OJ lo sk W v vl T L ys) (hg : W.grownBy W' vl.ownBlock) {q : Int} (ho : W'.ownsRow lo 3 1 vl' (L.length + 1) (iCells L ++ [.int .i64 q]))
    (hw : ∀ b, vl'.ownBlock = some b → vl.ownBlock = some b ∨ W.heap.size ≤ b) : OJ lo sk W' v vl' T (L ++ [q]) ys := by
  refine ⟨h.og.keptBy hg (fun b e e' => h.ne b e' e) (fun i u hu b e => (h.nd i u hu b e).1), ?_, fun b e e' => ?_, fun i u hu b e => ⟨fun e' => ?_, (h.nd i u hu b e).2⟩, h.s1, fun e => ?_, Nat.lt_of_lt_of_le h.sl hg.size⟩
  · rw [List.length_append]
    have : iCells (L ++ [q]) = iCells L ++ [.int .i64 q] := by simp [iCells]
    rw [this]
    exact ho
  · rcases hw b e with h1 | h1
    · exact h.ne b h1 e'
    · have := (h.og.row.lt b e').2; omega
  · rcases hw b e' with h1 | h1
    · exact (h.nd i u hu b e).1 h1
    · have := (h.og.at4 hu b e).2; omega
  · rcases hw sk e with h1 | h1
    · exact h.s3 h1
    · have := h.sl; omega
/-- A node more. -/
theorem OJ.push {lo sk : Nat} {W W' : World} {v v' vl : Value} {T : List Nd} {L : List Int} {ys : List Value} (h : OJ lo sk W v vl T L ys) {d : Nd} {u : Value} (ho : W.ownsRow lo 3 1 u d.l.length (iCells d.l)) (hb : ∀ b, u.ownBlock = some b → v.ownBlock ≠ some b ∧ vl.ownBlock ≠ some b ∧ b ≠ sk ∧ b < W.heap.size)
    (hrow : W'.ownsRow lo 48 5 v' (T.length + 1) (ys ++ ndL d.x u)) (hg : W.grownBy W' v.ownBlock) (hw : ∀ b, v'.ownBlock = some b → v.ownBlock = some b ∨ W.heap.size ≤ b) : OJ lo sk W' v' vl (T ++ [d]) L (ys ++ ndL d.x u) := by
  have hl := h.og.len
  refine ⟨h.og.push ho (fun b e => ⟨(hb b e).1, (hb b e).2.2.2⟩) hrow hg hw, ?_, fun b e e' => ?_, fun i z hz b e => ?_, fun e => ?_, h.s3, Nat.lt_of_lt_of_le h.sl hg.size⟩
  · refine h.l.kept hg ?_
    cases e : vl.ownBlock with
    | none => exact .inl rfl
    | some b => exact .inr (fun e' => h.ne b e e'.symm)
  · rcases hw b e' with h1 | h1
    · exact h.ne b e h1
    · have := (h.l.lt b e).2; omega
  · rcases Nat.lt_or_ge (i * 5 + 4) ys.length with h1 | h1
    · rw [List.getElem?_append_left h1] at hz
      exact h.nd i z hz b e
    · rw [List.getElem?_append_right h1] at hz
      have hi := (List.getElem?_eq_some_iff.1 hz).1
      simp only [List.length_cons, List.length_nil] at hi
      have : i * 5 + 4 - ys.length = 4 := by omega
      rw [this] at hz
      simp at hz
      subst hz
      exact ⟨(hb b e).2.1, (hb b e).2.2.1⟩
  · rcases hw sk e with h1 | h1
    · exact h.s1 h1
    · have := h.sl; omega
/-- The root is written over: the tree is whole. -/
theorem OJ.root {lo sk : Nat} {W : World} {g n cap : Nat} {vl : Value} {T : List Nd} {L : List Int} {ys : List Value} {d0 : Nd} (h : OJ lo sk W (.slice (some ⟨g, 0, none⟩) n cap) vl (d0 :: T) L ys) (nx : Nx) : ∃ ys', OG lo (setNdL W g nx vl) (.slice (some ⟨g, 0, none⟩) n cap) (⟨nx, L⟩ :: T) ys' := by
  have hlen := h.og.len
  have hg : W.grownBy (setNdL W g nx vl) (some g) := grown_set (grown_set (grown_set (grown_set (grown_set (grown_refl W (some g)) 0 _) 1 _) 2 _) 3 _) 4 _
  have hgl := (h.og.row.lt g rfl).2
  rcases h.og.row.2 with ⟨e, _⟩ | ⟨g', cap', cur, e, h1, hat, h2, h3, h4, h5⟩
  · simp at e
  · simp only [Value.slice.injEq, Option.some.injEq, Addr.mk.injEq, and_true] at e
    obtain ⟨rfl, rfl, rfl⟩ := e
    have c1 := heap_setCell_same W g 0 _ 48 (.int .u8 (nx.k : Int)) hat
    have c2 := heap_setCell_same _ g 1 _ 48 (.int .i64 nx.p) c1
    have c3 := heap_setCell_same _ g 2 _ 48 (.int .i64 nx.n) c2
    have c4 := heap_setCell_same _ g 3 _ 48 (.string (str nx.s)) c3
    have c5 := heap_setCell_same _ g 4 _ 48 vl c4
    obtain ⟨cur', hcur'⟩ : ∃ cur', cur' = ((((cur.setIfInBounds 0 (.int .u8 (nx.k : Int))).setIfInBounds 1 (.int .i64 nx.p)).setIfInBounds 2 (.int .i64 nx.n)).setIfInBounds 3 (.string (str nx.s))).setIfInBounds 4 vl := ⟨_, rfl⟩
    rw [← hcur'] at c5
    have hcs' : cur'.size = cur.size := by rw [hcur']; simp
    have hn1 : 1 ≤ (d0 :: T).length := by simp
    have hys : ∀ o, 5 ≤ o → o < (d0 :: T).length * 5 → cur'[o]? = ys[o]? := fun o ho hlt => by
      rw [hcur', Array.getElem?_setIfInBounds_ne (by omega), Array.getElem?_setIfInBounds_ne (by omega), Array.getElem?_setIfInBounds_ne (by omega), Array.getElem?_setIfInBounds_ne (by omega), Array.getElem?_setIfInBounds_ne (by omega), ← h5, List.getElem?_take, if_pos hlt]
      simp
    have hpos : 5 ≤ cur.size := by have := Nat.mul_le_mul_right 5 h2; omega
    refine ⟨cur'.toList.take ((d0 :: T).length * 5), ⟨⟨?_, .inr ⟨g, _, cur', rfl, h1, c5, h2, h3, by rw [hcs']; exact h4, rfl⟩⟩, fun i d hd => ?_⟩⟩
    · have := Nat.mul_le_mul_right 5 h2
      have e1 : cur'.toList.length = cur.size := by rw [Array.length_toList, hcs']
      show (List.take ((d0 :: T).length * 5) cur'.toList).length = (d0 :: T).length * 5
      rw [List.length_take, e1, h4]
      exact Nat.min_eq_left this
    · have hsz : (setNdL W g nx vl).heap.size = W.heap.size := setNdL_size W g nx vl
      cases i with
      | zero =>
        simp at hd
        subst hd
        have hlt : ∀ j, j < 5 → (cur'.toList.take ((d0 :: T).length * 5))[0 * 5 + j]? = cur'[j]? := fun j hj => by
          rw [List.getElem?_take, if_pos (by omega)]
          simp
        refine ⟨vl, ⟨(hlt 0 (by omega)).trans ?_, (hlt 1 (by omega)).trans ?_, (hlt 2 (by omega)).trans ?_, (hlt 3 (by omega)).trans ?_, (hlt 4 (by omega)).trans ?_⟩, h.l.kept hg (.inr (fun e => h.ne g e rfl)), fun b e => ⟨fun e' => ?_, by rw [hsz]; exact (h.l.lt b e).2⟩⟩
        · rw [hcur', Array.getElem?_setIfInBounds_ne (by omega), Array.getElem?_setIfInBounds_ne (by omega), Array.getElem?_setIfInBounds_ne (by omega), Array.getElem?_setIfInBounds_ne (by omega), Array.getElem?_setIfInBounds_self_of_lt (by omega)]
        · rw [hcur', Array.getElem?_setIfInBounds_ne (by omega), Array.getElem?_setIfInBounds_ne (by omega), Array.getElem?_setIfInBounds_ne (by omega), Array.getElem?_setIfInBounds_self_of_lt (by simp; omega)]
        · rw [hcur', Array.getElem?_setIfInBounds_ne (by omega), Array.getElem?_setIfInBounds_ne (by omega), Array.getElem?_setIfInBounds_self_of_lt (by simp; omega)]
        · rw [hcur', Array.getElem?_setIfInBounds_ne (by omega), Array.getElem?_setIfInBounds_self_of_lt (by simp; omega)]
        · rw [hcur', Array.getElem?_setIfInBounds_self_of_lt (by simp; omega)]
        · exact h.ne b e e'
      | succ i =>
        rw [List.getElem?_cons_succ] at hd
        have hi := (List.getElem?_eq_some_iff.1 hd).1
        obtain ⟨u, ⟨n0, n1, n2, n3, n4⟩, o2, o3⟩ := h.og.nd (i + 1) d (by rw [List.getElem?_cons_succ]; exact hd)
        have ap : ∀ j x, j < 5 → ys[(i + 1) * 5 + j]? = some x → (cur'.toList.take ((d0 :: T).length * 5))[(i + 1) * 5 + j]? = some x := fun j x hj hx => by
          have hb : (i + 1) * 5 + j < (d0 :: T).length * 5 := by simp only [List.length_cons]; omega
          rw [List.getElem?_take, if_pos hb, Array.getElem?_toList, hys _ (by omega) hb]
          exact hx
        refine ⟨u, ⟨ap 0 _ (by omega) n0, ap 1 _ (by omega) n1, ap 2 _ (by omega) n2, ap 3 _ (by omega) n3, ap 4 _ (by omega) n4⟩, o2.kept hg ?_, fun b e => ⟨(o3 b e).1, by rw [hsz]; exact (o3 b e).2⟩⟩
        cases e : u.ownBlock with
        | none => exact .inl rfl
        | some b => exact .inr (fun e' => (o3 b e).1 (show some g = some b from e'.symm))
end Go.Proofs.Ytkidcmglidnaoaa
