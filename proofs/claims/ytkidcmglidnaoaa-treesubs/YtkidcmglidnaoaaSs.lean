import Derived.Test.YtkidcmglidnaoaaMG
import Derived.Test.YtkidcmglidnaoaaSr
namespace Go.Proofs.Ytkidcmglidnaoaa
open Go.RowKit Go.Shelf
set_option linter.unusedVariables false
set_option linter.unusedSimpArgs false
/-- A tree that grows in memory of its own. -/
structure OG (lo : Nat) (W : World) (v : Value) (T : List Nd) (ys : List Value) : Prop where
  row : W.ownsRow lo 48 5 v T.length ys
  nd : ∀ i d, T[i]? = some d → ∃ u, LCur ys i d.x u ∧ W.ownsRow lo 3 1 u d.l.length (iCells d.l) ∧ (∀ b, u.ownBlock = some b → v.ownBlock ≠ some b ∧ b < W.heap.size)
theorem OG.nil (lo : Nat) (W : World) : OG lo W (.slice none 0 0) [] [] := ⟨⟨rfl, .inl ⟨rfl, rfl⟩⟩, fun i d h => by simp at h⟩
theorem owns_rng {W W' : World} {lo e sz n : Nat} {v : Value} {xs : List Value} (h : W.ownsRow lo e sz v n xs) (hr : ∀ b, lo ≤ b → b < W.heap.size → W'.heap[b]? = W.heap[b]?) : W'.ownsRow lo e sz v n xs := by
  refine ⟨h.1, ?_⟩
  rcases h.2 with hn | ⟨g, cap, cur, rfl, h1, hg, rest⟩
  · exact .inl hn
  · exact .inr ⟨g, cap, cur, rfl, h1, (hr g h1 (lt_of_block hg)).trans hg, rest⟩
theorem OG.range {lo : Nat} {W W' : World} {v : Value} {T : List Nd} {ys : List Value} (h : OG lo W v T ys) (hs : W.heap.size ≤ W'.heap.size) (hr : ∀ b, lo ≤ b → b < W.heap.size → W'.heap[b]? = W.heap[b]?) : OG lo W' v T ys :=
  ⟨owns_rng h.row hr, fun i d hd => by
    obtain ⟨u, h1, h2, h3⟩ := h.nd i d hd
    exact ⟨u, h1, owns_rng h2 hr, fun b e => ⟨(h3 b e).1, Nat.lt_of_lt_of_le (h3 b e).2 hs⟩⟩⟩
abbrev ndL (x : Nx) (u : Value) : List Value := [.int .u8 (x.k : Int), .int .i64 x.p, .int .i64 x.n, .string (str x.s), u]
/-- A node more. -/
theorem OG.push {lo : Nat} {W W' : World} {v v' : Value} {T : List Nd} {ys : List Value} (h : OG lo W v T ys) {d : Nd} {u : Value} (ho : W.ownsRow lo 3 1 u d.l.length (iCells d.l)) (hb : ∀ b, u.ownBlock = some b → v.ownBlock ≠ some b ∧ b < W.heap.size)
    (hrow : W'.ownsRow lo 48 5 v' (T.length + 1) (ys ++ ndL d.x u)) (hg : W.grownBy W' v.ownBlock) (hw : ∀ b, v'.ownBlock = some b → v.ownBlock = some b ∨ W.heap.size ≤ b) : OG lo W' v' (T ++ [d]) (ys ++ ndL d.x u) := by
  have hlen : ys.length = T.length * 5 := h.row.1
  have kp : ∀ {u : Value} {n : Nat} {xs : List Value}, W.ownsRow lo 3 1 u n xs → (∀ b, u.ownBlock = some b → v.ownBlock ≠ some b) → W'.ownsRow lo 3 1 u n xs := fun {u n xs} e1 e2 => e1.kept hg (by
    cases e : u.ownBlock with
    | none => exact .inl rfl
    | some b => exact .inr (fun e' => e2 b e e'.symm))
  have far : ∀ {u : Value}, (∀ b, u.ownBlock = some b → v.ownBlock ≠ some b ∧ b < W.heap.size) → ∀ b, u.ownBlock = some b → v'.ownBlock ≠ some b ∧ b < W'.heap.size := fun {u} e b e1 => ⟨fun e2 => by
    rcases hw b e2 with e3 | e3
    · exact (e b e1).1 e3
    · have := (e b e1).2; omega, Nat.lt_of_lt_of_le (e b e1).2 hg.size⟩
  refine ⟨by rw [List.length_append]; exact hrow, fun i e he => ?_⟩
  rcases Nat.lt_or_ge i T.length with h1 | h1
  · rw [List.getElem?_append_left h1] at he
    obtain ⟨z, ⟨n0, n1, n2, n3, n4⟩, h2, h3⟩ := h.nd i e he
    have ap : ∀ j, j < 5 → (ys ++ ndL d.x u)[i * 5 + j]? = ys[i * 5 + j]? := fun j hj => List.getElem?_append_left (by rw [hlen]; omega)
    exact ⟨z, ⟨(ap 0 (by omega)).trans n0, (ap 1 (by omega)).trans n1, (ap 2 (by omega)).trans n2, (ap 3 (by omega)).trans n3, (ap 4 (by omega)).trans n4⟩, kp h2 (fun b e => (h3 b e).1), far h3⟩
  · rw [List.getElem?_append_right h1] at he
    obtain rfl : i = T.length := by
      have := (List.getElem?_eq_some_iff.1 he).1
      simp at this
      omega
    simp at he
    subst he
    have ap : ∀ j, (ys ++ ndL d.x u)[T.length * 5 + j]? = (ndL d.x u)[j]? := fun j => by
      rw [List.getElem?_append_right (by omega), hlen]
      congr 1
      omega
    exact ⟨u, ⟨ap 0, ap 1, ap 2, ap 3, ap 4⟩, kp ho (fun b e => (hb b e).1), far hb⟩
theorem OG.form {lo : Nat} {W : World} {v : Value} {T : List Nd} {ys : List Value} (h : OG lo W v T ys) : ∃ a cap, v = .slice a T.length cap ∧ T.length ≤ cap := by
  rcases h.row.2 with ⟨rfl, h0⟩ | ⟨g, cap, cur, rfl, h1, hg, h2, h3⟩
  · rw [h0]; exact ⟨none, 0, rfl, Nat.le_refl _⟩
  · exact ⟨_, _, rfl, h2⟩
theorem OG.tat {lo : Nat} {W : World} {a : Option Addr} {n cap : Nat} {T : List Nd} {ys : List Value} (h : OG lo W (.slice a n cap) T ys) : TAt W a T := fun hn => by
  rcases h.row.2 with ⟨_, h0⟩ | ⟨g, cap, cur, e, h1, hg, h2, h3, h4, h5⟩
  · exact absurd (List.length_eq_zero_iff.1 h0) hn
  · simp only [Value.slice.injEq] at e
    obtain ⟨rfl, -, -⟩ := e
    refine ⟨g, 0, rfl, fun i d hd => ?_⟩
    obtain ⟨u, ⟨n0, n1, n2, n3, n4⟩, e2, e3⟩ := h.nd i d hd
    obtain ⟨al, cl, rfl, hr⟩ := owns_slice (n := 0) e2
    have hc : ∀ o x, ys[o]? = some x → W.cell? ⟨g, o, none⟩ = some x := fun o x ho => by
      rw [cell_of_row W g o _ 48 (0, 0) hg]
      rw [← h5, List.getElem?_take] at ho
      split at ho
      · simpa using ho
      · cases ho
    rw [Nat.zero_add]
    exact ⟨(Array.getElem?_eq_some_iff.1 hg).1, hc _ _ n0, hc _ _ n1, hc _ _ n2, hc _ _ n3, al, cl, hc _ _ n4, hr⟩
/-- A tree that grew behind these blocks stands apart from them. -/
theorem tapt_og {lo hi lo2 : Nat} {w : World} {a : Option Addr} {n cap : Nat} {T : List Nd} {ys : List Value} (h : OG lo2 w (.slice a n cap) T ys) (h1 : hi ≤ lo2) : TApt lo hi w a T := fun W hW =>
  (h.range hW.size fun b hb1 hb2 => hW.same b hb2 (.inr (by omega))).tat
/-- To nil nothing is appended. -/
theorem run_append_nil0 {P : Program} {w : World} (t ty e : TypeId) (i : TypeInfo) (ht : P.underlying t = some (.slice e)) (hi : P.info? e = some i) (a : Option Addr) (c : Nat) :
    (Builtin.append_ #[t, t] ty #[.slice none 0 0, .slice a 0 c]).run P w = .ok (.slice none 0 0) w := by
  cases a with
  | none => simp [Builtin.append_, run_underlying ht, sizeOf, typeInfo, hi, Builtin.lenOf, Builtin.firstCells]
  | some a => simp [Builtin.append_, run_underlying ht, sizeOf, typeInfo, hi, Builtin.lenOf, Builtin.firstCells, loadCells, loadCellsFrom]
theorem wp_append_nil0 {P : Program} (w : World) {o : Oper} {a : Act} {K : Act → World → Prop} {Q : Exit → Act → World → Prop} (s x : Operand) (t : TypeId)
    (ho : o.op = .call { callee := .builtin .append, args := #[s, x], argTypes := #[t, t] }) (e : TypeId) (i : TypeInfo) (ht : P.underlying t = some (.slice e)) (hi : P.info? e = some i)
    (hs : a.eval s = .slice none 0 0) (ad : Option Addr) (c : Nat) (hx : a.eval x = .slice ad 0 c) (h : K (a.put o.dst (.slice none 0 0)) w) : o.wp P a w K Q := by
  have hr := run_append_nil0 (P := P) (w := w) t o.type e i ht hi ad c
  unfold Oper.wp execOp
  simp only [ho, resolve, invoke, builtin, Sem.run_bind, Sem.run_pure, Result.andThen_ok, List.map_toArray, List.map_cons, List.map_nil, hs, hx, hr]
  exact h
end Go.Proofs.Ytkidcmglidnaoaa
