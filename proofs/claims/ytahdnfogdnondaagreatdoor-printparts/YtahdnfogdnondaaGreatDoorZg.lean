import Derived.Test.YtahdnfogdnondaaGreatDoorZe
namespace Go.Proofs.YtahdnfogdnondaaGreatDoor
open Go.RowKit
set_option linter.unusedVariables false
set_option linter.unusedSimpArgs false

/-- Trees one beside the other. -/
def fo : List (Nx × Fo) → Fo
  | [] => .nil
  | (x, c) :: r => .cons x c (fo r)
theorem fo_snoc (l : List (Nx × Fo)) (x : Nx) (c : Fo) : fo (l ++ [(x, c)]) = (fo l).app (.cons x c .nil) := by
  induction l with
  | nil => rfl
  | cons y l ih => obtain ⟨y, d⟩ := y; simp only [List.cons_append, fo, Fo.app, ih]
theorem fo_kinds (l : List (Nx × Fo)) : (fo l).kinds.length = l.length := by
  induction l with
  | nil => rfl
  | cons y l ih => obtain ⟨y, d⟩ := y; simp [fo, Fo.kinds, ih]
abbrev tr (f : Nx × Fo) : List Nd := (Fo.cons f.1 f.2 .nil).flat 0
theorem tr_len (f : Nx × Fo) : (tr f).length = 1 + f.2.size := by rw [Fo.len_flat]; simp [Fo.size]
theorem fo_take {l : List (Nx × Fo)} {i : Nat} {f : Nx × Fo} (h : l[i]? = some f) : fo (l.take (i + 1)) = (fo (l.take i)).app (.cons f.1 f.2 .nil) := by
  rw [List.take_add_one, h]
  exact fo_snoc _ _ _
theorem fo_size {l : List (Nx × Fo)} {i : Nat} {f : Nx × Fo} (h : l[i]? = some f) : (fo (l.take (i + 1))).size = (fo (l.take i)).size + (1 + f.2.size) := by
  rw [fo_take h, Fo.size_app]; simp [Fo.size]
theorem fo_mono (l : List (Nx × Fo)) : ∀ i, (fo (l.take i)).size ≤ (fo l).size := by
  induction l with
  | nil => intro i; simp [fo]
  | cons y l ih =>
    intro i
    obtain ⟨y, d⟩ := y
    cases i with
    | zero => simp [fo, Fo.size]
    | succ i => simp only [List.take_succ_cons, fo, Fo.size]; have := ih i; omega
/-- A list of trees in memory. -/
def CRow (w : World) (a : Option Addr) (Ts : List (List Nd)) : Prop := Ts ≠ [] → ∃ g off, a = some ⟨g, off, none⟩ ∧ g < w.heap.size ∧ ∀ i T, Ts[i]? = some T → ∃ ai capi, w.cell? ⟨g, off + i, none⟩ = some (.slice ai T.length capi) ∧ TAt w ai T
theorem CRow.below {w w' : World} {a : Option Addr} {Ts : List (List Nd)} (h : CRow w a Ts) (hb : Below w.heap.size w w') : CRow w' a Ts := fun hn => by
  obtain ⟨g, off, rfl, hg, hc⟩ := h hn
  refine ⟨g, off, rfl, Nat.lt_of_lt_of_le hg hb.size, fun i T hi => ?_⟩
  obtain ⟨ai, capi, h1, h2⟩ := hc i T hi
  exact ⟨ai, capi, (hb.cell hg).trans h1, h2.below hb⟩
/-- 'make' with a length and a capacity. -/
theorem wpList_make_len {P : Program} (w : World) {ops : Array Oper} {rest : List Oper} {o : Oper} {a : Act} {Q : Exit → Act → World → Prop}
    (hg : o.guard = none) (l c : Operand) (t : TypeId) (hop : o.op = Op.makeSlice t l c)
    (base : Nat) (e : TypeId) (i : TypeInfo) (z : Value) (size : Nat) (h1 : P.underlying t = some (.slice e)) (h2 : P.info? e = some i) (h3 : i.zero = some z) (h4 : i.size = size)
    (kl kc : IntKind) (L C : Int) (m n : Nat) (hl : a.eval l = .int kl L) (hc : a.eval c = .int kc C) (hL : L = (m : Int)) (hC : C = (n : Int)) (hmn : m ≤ n) (b2 : i.bytes * n ≤ 281474976710656) (b3 : n ≤ maxLen) (b4 : base ≤ w.heap.size)
    (hK : ∀ w', w'.ownsRow base e size (.slice (some ⟨w.heap.size, 0, none⟩) m n) m ((madeCells z.cells (n * size)).toList.take (m * size)) → w.grownBy w' none → wpList P ops Q rest (a.put o.dst (.slice (some ⟨w.heap.size, 0, none⟩) m n)) w') :
    wpList P ops Q (o :: rest) a w := by
  refine wpList_plain hg fun K hK' => ?_
  subst hL
  subst hC
  subst h4
  have h63' : (n : Int) ≤ 9223372036854775807 := by
    have h := b3
    simp [maxLen] at h
    omega
  have hb' : (i.bytes : Int) * (n : Int) ≤ 281474976710656 := by
    have h : ((i.bytes * n : Nat) : Int) ≤ 281474976710656 := by omega
    rwa [Int.natCast_mul] at h
  have hr := run_make (P := P) w t e i z h1 h2 h3 kl kc m n (by omega) (by omega) hb' h63'
  simp only [Int.toNat_natCast] at hr
  unfold Oper.wp
  simp [execOp, hop, hl, hc, hr, Result.andThen]
  refine hK' _ _ (hK _ ⟨?_, .inr ⟨w.heap.size, n, madeCells z.cells (n * i.size), rfl, b4, heap_alloc_new w _, hmn, b3, size_madeCells _ _, rfl⟩⟩ (World.grownBy_alloc w _ none))
  rw [List.length_take, Array.length_toList, size_madeCells]
  exact Nat.min_eq_left (Nat.mul_le_mul_right _ hmn)
/-- Where a row lies that was appended to: where it lay, or in a new block. -/
theorem append_where {P : Program} (w : World) (base : Nat) (t ty e : TypeId) (i : TypeInfo) (z : Value) (size bytes : Nat) (ht : P.underlying t = some (.slice e)) (hi : P.info? e = some i) (hz : i.zero = some z)
    (hsize : i.size = size) (hby : i.bytes = bytes) (v : Value) (n : Nat) (xs : List Value) (hown : w.ownsRow base e size v n xs)
    (a : Addr) (m c : Nat) (news : List Value) (hm : 0 < m) (hl : news.length = m * size) (hnews : ∀ j u, news[j]? = some u → w.cell? (a.add j) = some u) (h1 : ∀ u ∈ news, u.oneCell' = true)
    (h63 : n + m ≤ maxLen) (hbytes : (n + m) * bytes ≤ 140737488355328) {v' : Value} {w' : World} (hrun : (Builtin.append_ #[t, t] ty #[v, .slice (some a) m c]).run P w = .ok v' w') :
    ∀ b, v'.ownBlock = some b → v.ownBlock = some b ∨ b = w.heap.size := by
  subst hsize
  subst hby
  have hsmall : n + m ≤ 9223372036854775807 := by simp only [maxLen] at h63; omega
  rcases hown.2 with ⟨rfl, rfl⟩ | ⟨g, cap, cur, rfl, hbg, hg, hnc, hcm, hcs, htake⟩
  · have hr := run_append_nil (P := P) w t ty e i z ht hi hz a m c news hl hnews (by omega) (by omega) (by have hb := hbytes; simp only [Nat.zero_add] at hb; omega)
    rw [hr] at hrun
    cases hrun
    intro b e
    right
    simpa [Value.ownBlock] using e.symm
  · by_cases hroom : n + m ≤ cap
    · have hfit : n * i.size + news.length ≤ cur.size := by rw [hl, hcs, ← Nat.add_mul]; exact Nat.mul_le_mul_right _ hroom
      have hr := run_append_room (P := P) w t ty e i ht hi g n cap cur hg a m c news hl hnews h1 hroom hfit
      rw [hr] at hrun
      cases hrun
      intro b e
      left
      exact e
    · have hr := run_append_grow (P := P) w t ty e i z ht hi hz ⟨g, 0, none⟩ n cap xs hown.1 (hown.cells (g := g) rfl) a m c news hl hnews (by omega) (by omega) (growslice_fits (by omega) hbytes)
      rw [hr] at hrun
      cases hrun
      intro b e
      right
      simpa [Value.ownBlock] using e.symm
theorem wpList_append_two {P : Program} (w : World) {ops : Array Oper} {rest : List Oper} {o : Oper} {a : Act} {Q : Exit → Act → World → Prop} (hgd : o.guard = none) (s x : Operand) (t : TypeId)
    (ho : o.op = Op.call { callee := Callee.builtin Builtin.append, args := #[s, x], argTypes := #[t, t] })
    (base : Nat) (e : TypeId) (i : TypeInfo) (z : Value) (size bytes : Nat) (ht : P.underlying t = some (.slice e)) (hi : P.info? e = some i) (hz : i.zero = some z)
    (hsize : i.size = size) (hby : i.bytes = bytes) (hzs : z.cells.size = size) (hsz : 0 < size)
    (v : Value) (n : Nat) (xs : List Value) (hs : a.eval s = v) (hown : w.ownsRow base e size v n xs)
    (ad : Addr) (m c : Nat) (news : List Value) (hm : 0 < m) (hx : a.eval x = .slice (some ad) m c) (hl : news.length = m * size) (hnews : ∀ j u, news[j]? = some u → w.cell? (ad.add j) = some u) (h1 : ∀ u ∈ news, u.oneCell' = true)
    (h63 : n + m ≤ maxLen) (hbytes : (n + m) * bytes ≤ 140737488355328) (hbase : base ≤ w.heap.size)
    (h : ∀ v' w', w'.ownsRow base e size v' (n + m) (xs ++ news) → w.grownBy w' v.ownBlock → (∀ b, v'.ownBlock = some b → v.ownBlock = some b ∨ b = w.heap.size) → wpList P ops Q rest (a.put o.dst v') w') : wpList P ops Q (o :: rest) a w := by
  refine wpList_plain hgd fun K hK => ?_
  obtain ⟨v', w', hr, h2, h3, h4⟩ := run_append_own (P := P) w base t o.type e i z size bytes ht hi hz hsize hby hzs hsz v n xs hown ad m c news hl hnews h1 h63 hbytes hbase
  have h5 := append_where (P := P) w base t o.type e i z size bytes ht hi hz hsize hby v n xs hown ad m c news hm hl hnews h1 h63 hbytes hr
  unfold Oper.wp
  simp [execOp, ho, resolve, invoke, builtin, hs, hx, hr, Result.andThen]
  exact hK _ _ (h v' w' h2 h3 h5)
/-- A node's cells in a list. -/
def LCur (ys : List Value) (i : Nat) (x : Nx) (v : Value) : Prop := ys[i * 5]? = some (.int .u8 (x.k : Int)) ∧ ys[i * 5 + 1]? = some (.int .i64 x.p) ∧ ys[i * 5 + 2]? = some (.int .i64 x.n) ∧ ys[i * 5 + 3]? = some (.string (str x.s)) ∧ ys[i * 5 + 4]? = some v
abbrev z5 : List Value := [.int .u8 0, .int .i64 0, .int .i64 0, .string ⟨#[]⟩, .slice none 0 0]
/-- What holds between two rounds of laid. -/
structure LJ (w : World) (g cnt : Nat) (f : Fo) (k : Nat) (vl : Value) (ys : List Value) (W : World) : Prop where
  row : W.ownsRow w.heap.size 44 5 (.slice (some ⟨g, 0, none⟩) (1 + f.size) cnt) (1 + f.size) (z5 ++ ys)
  len : ys.length = f.size * 5
  nd : ∀ i d, (f.flat 1)[i]? = some d → ∃ v, LCur ys i d.x v ∧ W.ownsRow w.heap.size 3 1 v d.l.length (iCells d.l) ∧ (∀ b, v.ownBlock = some b → b ≠ g ∧ vl.ownBlock ≠ some b ∧ b < W.heap.size)
  l : W.ownsRow w.heap.size 3 1 vl k (iCells (f.starts 1))
  lg : vl.ownBlock ≠ some g
  gw : w.heap.size ≤ g
theorem LJ.gl {w : World} {g cnt : Nat} {f : Fo} {k : Nat} {vl : Value} {ys : List Value} {W : World} (h : LJ w g cnt f k vl ys W) : g < W.heap.size := (h.row.lt g rfl).2
/-- New blocks alone. -/
theorem LJ.fresh {w : World} {g cnt : Nat} {f : Fo} {k : Nat} {vl : Value} {ys : List Value} {W W' : World} (h : LJ w g cnt f k vl ys W) (hg : W.grownBy W' none) : LJ w g cnt f k vl ys W' := by
  refine ⟨h.row.kept hg (.inr (by simp [Value.ownBlock])), h.len, fun i d hd => ?_, h.l.kept hg (by cases e : vl.ownBlock <;> simp), h.lg, h.gw⟩
  obtain ⟨v, h1, h2, h3⟩ := h.nd i d hd
  exact ⟨v, h1, h2.kept hg (by cases e : v.ownBlock <;> simp), fun b e => ⟨(h3 b e).1, (h3 b e).2.1, Nat.lt_of_lt_of_le (h3 b e).2.2 hg.size⟩⟩
/-- The list of numbers has grown. -/
theorem LJ.more {w : World} {g cnt : Nat} {f : Fo} {k : Nat} {vl : Value} {ys : List Value} {W W' : World} (h : LJ w g cnt f k vl ys W) (hg : W.grownBy W' vl.ownBlock) {vl' : Value} {q : Int} (ho : W'.ownsRow w.heap.size 3 1 vl' (k + 1) (iCells (f.starts 1) ++ [.int .i64 q]))
    (hne : ∀ b, vl'.ownBlock = some b → vl.ownBlock = some b ∨ W.heap.size ≤ b) :
    (W'.ownsRow w.heap.size 44 5 (.slice (some ⟨g, 0, none⟩) (1 + f.size) cnt) (1 + f.size) (z5 ++ ys)) ∧ vl'.ownBlock ≠ some g ∧
      (∀ i d, (f.flat 1)[i]? = some d → ∃ v, LCur ys i d.x v ∧ W'.ownsRow w.heap.size 3 1 v d.l.length (iCells d.l) ∧ (∀ b, v.ownBlock = some b → b ≠ g ∧ vl'.ownBlock ≠ some b ∧ b < W'.heap.size)) := by
  have hgl := h.gl
  refine ⟨h.row.kept hg (.inr (fun e => h.lg e.symm)), fun e => ?_, fun i d hd => ?_⟩
  · rcases hne g e with e' | e'
    · exact h.lg e'
    · omega
  · obtain ⟨v, h1, h2, h3⟩ := h.nd i d hd
    refine ⟨v, h1, h2.kept hg ?_, fun b e => ⟨(h3 b e).1, fun e' => ?_, Nat.lt_of_lt_of_le (h3 b e).2.2 hg.size⟩⟩
    · cases e : v.ownBlock with
      | none => exact .inl rfl
      | some b => exact .inr (fun e' => (h3 b e).2.1 e'.symm)
    · rcases hne b e' with e2 | e2
      · exact (h3 b e).2.1 e2
      · have := (h3 b e).2.2
        omega
end Go.Proofs.YtahdnfogdnondaaGreatDoor
