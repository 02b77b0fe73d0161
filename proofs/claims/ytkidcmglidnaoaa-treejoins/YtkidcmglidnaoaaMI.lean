import Derived.Test.YtkidcmglidnaoaaMG
import Derived.Test.YtkidcmglidnaoaaSr
import Derived.Deep.AppendLies
namespace Go.Proofs.Ytkidcmglidnaoaa
open Go.RowKit Go.Shelf
set_option linter.unusedVariables false
set_option linter.unusedSimpArgs false
/-- A tree that grows in memory of its own. -/
structure OG (lo : Nat) (W : World) (v : Value) (T : List Nd) (ys : List Value) : Prop where
  row : W.ownsRow lo 48 5 v T.length ys
  nd : ∀ i d, T[i]? = some d → ∃ u, LCur ys i d.x u ∧ W.ownsRow lo 3 1 u d.l.length (iCells d.l) ∧ (∀ b, u.ownBlock = some b → v.ownBlock ≠ some b ∧ b < W.heap.size)
theorem OG.nil (lo : Nat) (W : World) : OG lo W (.slice none 0 0) [] [] := ⟨⟨rfl, .inl ⟨rfl, rfl⟩⟩, fun i d h => by simp at h⟩
theorem owns_rng {W W' : World} {lo e sz n : Nat} {v : Value} {xs : List Value} (h : W.ownsRow lo e sz v n xs) (hr : ∀ b, lo ≤ b → b < W.heap.size → W'.heap[b]? = W.heap[b]?) : W'.ownsRow lo e sz v n xs := by
  refine ⟨h.1, ?_⟩
  rcases h.2 with hn | ⟨g, cap, cur, rfl, h1, hg, rest⟩
  · exact .inl hn
  · exact .inr ⟨g, cap, cur, rfl, h1, (hr g h1 (lt_of_block hg)).trans hg, rest⟩
theorem OG.range {lo : Nat} {W W' : World} {v : Value} {T : List Nd} {ys : List Value} (h : OG lo W v T ys) (hs : W.heap.size ≤ W'.heap.size) (hr : ∀ b, lo ≤ b → b < W.heap.size → W'.heap[b]? = W.heap[b]?) : OG lo W' v T ys :=
  ⟨owns_rng h.row hr, fun i d hd => by
    obtain ⟨u, h1, h2, h3⟩ := h.nd i d hd
    exact ⟨u, h1, owns_rng h2 hr, fun b e => ⟨(h3 b e).1, Nat.lt_of_lt_of_le (h3 b e).2 hs⟩⟩⟩
abbrev ndL (x : Nx) (u : Value) : List Value := [.int .u8 (x.k : Int), .int .i64 x.p, .int .i64 x.n, .string (str x.s), u]
/-- A node more. -/
theorem OG.push {lo : Nat} {W W' : World} {v v' : Value} {T : List Nd} {ys : List Value} (h : OG lo W v T ys) {d : Nd} {u : Value} (ho : W.ownsRow lo 3 1 u d.l.length (iCells d.l)) (hb : ∀ b, u.ownBlock = some b → v.ownBlock ≠ some b ∧ b < W.heap.size)
    (hrow : W'.ownsRow lo 48 5 v' (T.length + 1) (ys ++ ndL d.x u)) (hg : W.grownBy W' v.ownBlock) (hw : ∀ b, v'.ownBlock = some b → v.ownBlock = some b ∨ W.heap.size ≤ b) : OG lo W' v' (T ++ [d]) (ys ++ ndL d.x u) := by
  have hlen : ys.length = T.length * 5 := h.row.1
  have kp : ∀ {u : Value} {n : Nat} {xs : List Value}, W.ownsRow lo 3 1 u n xs → (∀ b, u.ownBlock = some b → v.ownBlock ≠ some b) → W'.ownsRow lo 3 1 u n xs := fun {u n xs} e1 e2 => e1.kept hg (by
    cases e : u.ownBlock with
    | none => exact .inl rfl
    | some b => exact .inr (fun e' => e2 b e e'.symm))
  have far : ∀ {u : Value}, (∀ b, u.ownBlock = some b → v.ownBlock ≠ some b ∧ b < W.heap.size) → ∀ b, u.ownBlock = some b → v'.ownBlock ≠ some b ∧ b < W'.heap.size := fun {u} e b e1 => ⟨fun e2 => by
    rcases hw b e2 with e3 | e3
    · exact (e b e1).1 e3
    · have := (e b e1).2; omega, Nat.lt_of_lt_of_le (e b e1).2 hg.size⟩
  refine ⟨by rw [List.length_append]; exact hrow, fun i e he => ?_⟩
  rcases Nat.lt_or_ge i T.length with h1 | h1
  · rw [List.getElem?_append_left h1] at he
    obtain ⟨z, ⟨n0, n1, n2, n3, n4⟩, h2, h3⟩ := h.nd i e he
    have ap : ∀ j, j < 5 → (ys ++ ndL d.x u)[i * 5 + j]? = ys[i * 5 + j]? := fun j hj => List.getElem?_append_left (by rw [hlen]; omega)
    exact ⟨z, ⟨(ap 0 (by omega)).trans n0, (ap 1 (by omega)).trans n1, (ap 2 (by omega)).trans n2, (ap 3 (by omega)).trans n3, (ap 4 (by omega)).trans n4⟩, kp h2 (fun b e => (h3 b e).1), far h3⟩
  · rw [List.getElem?_append_right h1] at he
    obtain rfl : i = T.length := by
      have := (List.getElem?_eq_some_iff.1 he).1
      simp at this
      omega
    simp at he
    subst he
    have ap : ∀ j, (ys ++ ndL d.x u)[T.length * 5 + j]? = (ndL d.x u)[j]? := fun j => by
      rw [List.getElem?_append_right (by omega), hlen]
      congr 1
      omega
    exact ⟨u, ⟨ap 0, ap 1, ap 2, ap 3, ap 4⟩, kp ho (fun b e => (hb b e).1), far hb⟩
theorem OG.form {lo : Nat} {W : World} {v : Value} {T : List Nd} {ys : List Value} (h : OG lo W v T ys) : ∃ a cap, v = .slice a T.length cap ∧ T.length ≤ cap := by
  rcases h.row.2 with ⟨rfl, h0⟩ | ⟨g, cap, cur, rfl, h1, hg, h2, h3⟩
  · rw [h0]; exact ⟨none, 0, rfl, Nat.le_refl _⟩
  · exact ⟨_, _, rfl, h2⟩
theorem OG.tat {lo : Nat} {W : World} {a : Option Addr} {n cap : Nat} {T : List Nd} {ys : List Value} (h : OG lo W (.slice a n cap) T ys) : TAt W a T := fun hn => by
  rcases h.row.2 with ⟨_, h0⟩ | ⟨g, cap, cur, e, h1, hg, h2, h3, h4, h5⟩
  · exact absurd (List.length_eq_zero_iff.1 h0) hn
  · simp only [Value.slice.injEq] at e
    obtain ⟨rfl, -, -⟩ := e
    refine ⟨g, 0, rfl, fun i d hd => ?_⟩
    obtain ⟨u, ⟨n0, n1, n2, n3, n4⟩, e2, e3⟩ := h.nd i d hd
    obtain ⟨al, cl, rfl, hr⟩ := owns_slice (n := 0) e2
    have hc : ∀ o x, ys[o]? = some x → W.cell? ⟨g, o, none⟩ = some x := fun o x ho => by
      rw [cell_of_row W g o _ 48 (0, 0) hg]
      rw [← h5, List.getElem?_take] at ho
      split at ho
      · simpa using ho
      · cases ho
    rw [Nat.zero_add]
    exact ⟨(Array.getElem?_eq_some_iff.1 hg).1, hc _ _ n0, hc _ _ n1, hc _ _ n2, hc _ _ n3, al, cl, hc _ _ n4, hr⟩
/-- A tree that grew behind these blocks stands apart from them. -/
theorem tapt_og {lo hi lo2 : Nat} {w : World} {a : Option Addr} {n cap : Nat} {T : List Nd} {ys : List Value} (h : OG lo2 w (.slice a n cap) T ys) (h1 : hi ≤ lo2) : TApt lo hi w a T := fun W hW =>
  (h.range hW.size fun b hb1 hb2 => hW.same b hb2 (.inr (by omega))).tat
/-- To nil nothing is appended. -/
theorem run_append_nil0 {P : Program} {w : World} (t ty e : TypeId) (i : TypeInfo) (ht : P.underlying t = some (.slice e)) (hi : P.info? e = some i) (a : Option Addr) (c : Nat) :
    (Builtin.append_ #[t, t] ty #[.slice none 0 0, .slice a 0 c]).run P w = .ok (.slice none 0 0) w := by
  cases a with
  | none => simp [Builtin.append_, run_underlying ht, sizeOf, typeInfo, hi, Builtin.lenOf, Builtin.firstCells]
  | some a => simp [Builtin.append_, run_underlying ht, sizeOf, typeInfo, hi, Builtin.lenOf, Builtin.firstCells, loadCells, loadCellsFrom]
theorem wp_append_nil0 {P : Program} (w : World) {o : Oper} {a : Act} {K : Act → World → Prop} {Q : Exit → Act → World → Prop} (s x : Operand) (t : TypeId)
    (ho : o.op = .call { callee := .builtin .append, args := #[s, x], argTypes := #[t, t] }) (e : TypeId) (i : TypeInfo) (ht : P.underlying t = some (.slice e)) (hi : P.info? e = some i)
    (hs : a.eval s = .slice none 0 0) (ad : Option Addr) (c : Nat) (hx : a.eval x = .slice ad 0 c) (h : K (a.put o.dst (.slice none 0 0)) w) : o.wp P a w K Q := by
  have hr := run_append_nil0 (P := P) (w := w) t o.type e i ht hi ad c
  unfold Oper.wp execOp
  simp only [ho, resolve, invoke, builtin, Sem.run_bind, Sem.run_pure, Result.andThen_ok, List.map_toArray, List.map_cons, List.map_nil, hs, hx, hr]
  exact h
end Go.Proofs.Ytkidcmglidnaoaa
namespace Go.Proofs.Ytkidcmglidnaoaa
open Go.RowKit Go.Shelf
set_option linter.unusedVariables false
set_option linter.unusedSimpArgs false
theorem news_int {w : World} {g o : Nat} {L : List Int} (h : ∀ i c, L[i]? = some c → w.cell? ⟨g, o + i, none⟩ = some (.int .i64 c)) : ∀ j u, (iCells L)[j]? = some u → w.cell? ((⟨g, o, none⟩ : Addr).add j) = some u := by
  intro j u hu
  have hadd : (⟨g, o, none⟩ : Addr).add j = ⟨g, o + j, none⟩ := by unfold Addr.add; split <;> simp_all
  rw [hadd]
  rw [iCells, List.getElem?_map] at hu
  cases hc : L[j]? with
  | none => rw [hc] at hu; cases hu
  | some c => rw [hc] at hu; cases hu; exact h j c hc
theorem ones_int (L : List Int) : ∀ u ∈ iCells L, u.oneCell' = true := by
  intro u hu
  rw [iCells, List.mem_map] at hu
  obtain ⟨c, _, rfl⟩ := hu
  rfl
theorem At.nd4 {w : World} {b : Nat} {x : Nx} {a : Option Addr} {n cap : Nat} (h : At w b (Ndo x a n cap)) (a' : Option Addr) (n' cap' : Nat) : At (w.setCell ⟨b, 4, none⟩ (.slice a' n' cap')) b (Ndo x a' n' cap') := by
  have := heap_setCell_same w b 4 _ 48 (.slice a' n' cap') h
  exact this
theorem news_nd {w : World} {b : Nat} {x : Nx} {a : Option Addr} {n cap : Nat} (h : At w b (Ndo x a n cap)) : ∀ j u, (ndL x (.slice a n cap))[j]? = some u → w.cell? ((⟨b, 0, none⟩ : Addr).add j) = some u := World.news_of_block h
theorem ones_nd (x : Nx) (a : Option Addr) (n cap : Nat) : ∀ u ∈ ndL x (.slice a n cap), u.oneCell' = true := by
  intro u hu
  simp only [List.mem_cons, List.not_mem_nil, or_false] at hu
  rcases hu with rfl | rfl | rfl | rfl | rfl <;> rfl
set_option maxRecDepth 100000 in
set_option maxHeartbeats 8000000 in
theorem rown_any (T : List Nd) (a : Option Addr) (cap : Nat) (w : World) (hT : TAt w a T) (hS : Sm T) :
    Calls Try.prog 11 #[trV a T.length cap] w fun e w' => ∃ v ys, e = .returned (.agg #[v]) ∧ OG (w.heap.size + 3) w' v T ys ∧ Below w.heap.size w w' := by
  obtain ⟨i0, hi, hz0, hz1, hz2⟩ := info_parts Try.info48
  obtain ⟨i3, hi3, hz30, hz31, hz32⟩ := info_parts Try.info3
  have hTn := hS.n
  obtain ⟨n, hn⟩ : ∃ n, n = T.length := ⟨_, rfl⟩
  rw [← hn] at hTn
  have HN : Hid (n = T.length) := hidE hn
  have HT : Hid (TAt w a T) := hidE hT
  have HS : Hid (Sm T) := hidE hS
  obtain ⟨W3, hW3⟩ : ∃ W3, W3 = ((w.alloc (Tro a n cap)).alloc (Tro none 0 0)).alloc (Tro none 0 0) := ⟨_, rfl⟩
  have B3 : Below w.heap.size w W3 := by rw [hW3]; exact belA (belA (belA (Below.refl _ _)))
  have A1 : At W3 w.heap.size (Tro a n cap) := by rw [hW3]; exact At.alloc (at_fst _ _ _) _
  have A2 : At W3 (w.heap.size + 1) (Tro none 0 0) := by rw [hW3]; exact At.alloc (at_snd _ _ _) _
  have A3 : At W3 (w.heap.size + 2) (Tro none 0 0) := by
    rw [hW3]
    have := At.new ((w.alloc (Tro a n cap)).alloc (Tro none 0 0)) (Tro none 0 0)
    simpa only [World.size_alloc] using this
  have HW3 : Hid (((w.alloc (.cells #[.slice a n cap] 24)).alloc (.cells #[.slice none 0 0] 24)).alloc (.cells #[.slice none 0 0] 24) = W3) := hidE hW3.symm
  rw [← hn]
  clear hW3 hT hS hn
  go_enter Try.func11, Try.ntmps11
  (first | go_wp2_with fail | skip)
  try rw [HW3.out]
  go_loopw [4] (fun v W => ∃ (i : Nat) (sv : Option Addr) (sc : Nat) (ys : List Value), i ≤ n ∧ v = .int .i64 (i : Int) ∧ OG (w.heap.size + 3) W (.slice sv i sc) (T.take i) ys ∧ At W w.heap.size (Tro a n cap) ∧ At W (w.heap.size + 1) (Tro none 0 0) ∧ At W (w.heap.size + 2) (Tro sv i sc) ∧ Below w.heap.size w W) (fun v _ => n - (intOf v).toNat)
  case atStart => exact ⟨0, none, 0, [], Nat.zero_le _, rfl, OG.nil _ _, A1, A2, A3, B3⟩
  case round =>
    obtain ⟨i, sv, sc, ys, hi', rfl, hO, a1, a2, a3, hB⟩ := hrel
    clear A1 A2 A3 B3
    obtain ⟨x0, xf⟩ := a1.one
    have hB0 := hB.size
    have hlb := a3.lt
    by_cases hin : i < n
    · have hit : i < T.length := by have := HN.out; omega
      obtain ⟨d, hd⟩ : ∃ d, T[i]? = some d := ⟨_, List.getElem?_eq_getElem hit⟩
      have hdl := (HS.out.d d (List.mem_of_getElem? hd)).l
      obtain ⟨gt, ot, rfl, hrow⟩ := HT.out (by rintro rfl; simp at hit)
      obtain ⟨q0, q1, q2, q3, q4, al, capl, q5, q6⟩ := hrow i d hd
      replace q1 := (hB.cell q0).trans q1
      replace q2 := (hB.cell q0).trans q2
      replace q3 := (hB.cell q0).trans q3
      replace q4 := (hB.cell q0).trans q4
      replace q5 := (hB.cell q0).trans q5
      obtain ⟨x, L⟩ := d
      obtain ⟨m, hm⟩ : ∃ m, m = L.length := ⟨_, rfl⟩
      dsimp only at q1 q2 q3 q4 q5 q6 hdl
      rw [← hm] at q5 hdl
      have HLEN : Hid (m = L.length) := hidE hm
      have HIR : Hid (IRow w al L) := hidE q6
      have HD : Hid (T.take (i + 1) = T.take i ++ [⟨x, L⟩]) := hidE (by rw [List.take_add_one, hd]; rfl)
      have HTL : Hid ((T.take i).length = i) := hidE (by rw [List.length_take]; omega)
      have HO : Hid (OG (w.heap.size + 3) wr (.slice sv i sc) (T.take i) ys) := hidE hO
      have HA := hidE (And.intro a1 (And.intro a2 a3))
      have HB : Hid (Below w.heap.size w wr) := hidE hB
      have k0 : (0 : Int) ≤ (i : Int) := by omega
      have k1 : (i : Int) < (n : Int) := by omega
      have w3 : IntKind.i64.wrap ((i : Int) + 1) = (i : Int) + 1 := by rw [IntKind.wrap_i64]; omega
      obtain ⟨W6, hW6⟩ : ∃ W6, W6 = wr.alloc (Ndo x none 0 0) := ⟨_, rfl⟩
      have D6 : At W6 wr.heap.size (Ndo x none 0 0) := by rw [hW6]; exact At.new _ _
      have K6 : Keep wr.heap.size wr W6 := by rw [hW6]; exact Keep.alloc _ _ (Nat.le_refl _)
      have hs6 : W6.heap.size = wr.heap.size + 1 := by rw [hW6]; simp
      have B6 : Below w.heap.size w W6 := by rw [hW6]; exact belA hB
      have HW6 : Hid (wr.alloc (.cells #[.int .u8 (x.k : Int), .int .i64 x.p, .int .i64 x.n, .string (str x.s), .slice none 0 0] 48) = W6) := hidE hW6.symm
      clear hW6 hrow hd hit hO a1 a2 a3 hB hm
      go_wp2
      rw [HW6.out]
      replace x0 := (K6.cell (b := w.heap.size) (o := 0) (by omega)).trans x0
      replace q5 := (K6.cell (b := gt) (o := ot + i * 5 + 4) (by omega)).trans q5
      obtain ⟨y0, y1, y2, y3, y4, yf⟩ := D6.nd
      clear q1 q2 q3 q4
      by_cases hm0 : m = 0
      · subst hm0
        refine beginH (S := fun w' => KeepX W6.heap.size wr.heap.size W6 w') (fun _ _ _ _ _ h => h) (by kernel_rfl) (Keep.drew _ _).x (fun hq hHeld => ?_)
        refine takeH (i := 0) (d := 19) _ hq rfl rfl (by kernel_rfl) (by kernel_rfl) (by kernel_rfl) (by rfl) (fun W hSw => by (go_simp; try rfl)) hHeld ?_
        try simp only [Act.put, List.setIfInBounds_toArray, List.set_cons_zero, List.set_cons_succ]
        refine takeH (i := 2) (d := 21) _ hq rfl rfl (by kernel_rfl) (by kernel_rfl) (by kernel_rfl) (by rfl) (fun W hSw => by (go_simp; try rfl)) hHeld ?_
        try simp only [Act.put, List.setIfInBounds_toArray, List.set_cons_zero, List.set_cons_succ]
        refine takeH (i := 3) (d := 22) _ hq rfl rfl (by kernel_rfl) (by kernel_rfl) (by kernel_rfl) (by rfl) (fun W hSw => by (have s1 := (hSw.cell (b := w.heap.size) (o := 0) (by omega) (by omega)).trans x0; go_simp; try rfl)) hHeld ?_
        try simp only [Act.put, List.setIfInBounds_toArray, List.set_cons_zero, List.set_cons_succ]
        refine takeH (i := 4) (d := 23) _ hq rfl rfl (by kernel_rfl) (by kernel_rfl) (by kernel_rfl) (by rfl) (fun W hSw => by (go_simp; try rfl)) hHeld ?_
        try simp only [Act.put, List.setIfInBounds_toArray, List.set_cons_zero, List.set_cons_succ]
        refine takeH (i := 5) (d := 24) (.pointer (some ⟨gt, ot + i * 5, none⟩)) hq rfl rfl (by kernel_rfl) (by kernel_rfl) (by kernel_rfl) (by rfl) (fun W hSw => by (go_simp; try rfl)) hHeld ?_
        try simp only [Act.put, List.setIfInBounds_toArray, List.set_cons_zero, List.set_cons_succ]
        refine takeH (i := 6) (d := 25) _ hq rfl rfl (by kernel_rfl) (by kernel_rfl) (by kernel_rfl) (by rfl) (fun W hSw => by (go_simp; try rfl)) hHeld ?_
        try simp only [Act.put, List.setIfInBounds_toArray, List.set_cons_zero, List.set_cons_succ]
        refine takeH (i := 7) (d := 26) _ hq rfl rfl (by kernel_rfl) (by kernel_rfl) (by kernel_rfl) (by rfl) (fun W hSw => by (have s1 := (hSw.cell (b := gt) (o := ot + i * 5 + 4) (by omega) (by omega)).trans q5; go_simp; try rfl)) hHeld ?_
        try simp only [Act.put, List.setIfInBounds_toArray, List.set_cons_zero, List.set_cons_succ]
        refine wpAnyH_ready (rs := [1]) (by kernel_rfl) (by simp) ?_
        refine AllReadyH.cons rfl (fun K hK => ?_) AllReadyH.nil
        go_simp
        go_wp2_with fail
        refine hK.out _ _ (Keep.drew _ _).x (fun hHeld => ?_)
        clear hK K
        try simp only [Act.put, List.setIfInBounds_toArray, List.set_cons_zero, List.set_cons_succ]
        refine wpAnyH_ready (rs := [8]) (by kernel_rfl) (by simp) ?_
        refine AllReadyH.cons rfl (fun K hK => ?_) AllReadyH.nil
        refine wp_append_nil0 _ (.tmp 20) (.tmp 26) 35 rfl 3 i3 Try.underlying35 hi3 rfl al capl rfl ?_
        refine hK.out _ _ (Keep.drew _ _).x (fun hHeld => ?_)
        clear hK K
        try simp only [Act.put, List.setIfInBounds_toArray, List.set_cons_zero, List.set_cons_succ]
        refine takeH (i := 9) (d := 28) _ hq rfl rfl (by kernel_rfl) (by kernel_rfl) (by kernel_rfl) (by rfl) (fun W hSw => by (go_simp; try rfl)) hHeld ?_
        try simp only [Act.put, List.setIfInBounds_toArray, List.set_cons_zero, List.set_cons_succ]
        have D7 : At W6.drew wr.heap.size (Ndo x none 0 0) := D6
        obtain ⟨z0, z1, z2, z3, z4, zf⟩ := D7.nd
        refine wpAnyH_ready (rs := [10]) (by kernel_rfl) (by simp) ?_
        refine AllReadyH.cons rfl (fun K hK => ?_) AllReadyH.nil
        go_simp
        go_wp2_with fail
        obtain ⟨W8, hW8⟩ : ∃ W8, W8 = (W6.setCell ⟨wr.heap.size, 4, none⟩ (.slice none 0 0)).drew := ⟨_, rfl⟩
        have KX : KeepX W6.heap.size wr.heap.size W6 W8 := by
          rw [hW8]
          exact ⟨by show W6.heap.size ≤ (W6.setCell _ _).heap.size; rw [World.size_setCell]; exact Nat.le_refl _, fun b hb hbg => Below.heap_setCell W6 _ _ b hbg⟩
        refine hK.out _ _ (hW8 ▸ KX) (fun hHeld => ?_)
        clear hK K
        try simp only [Act.put, List.setIfInBounds_toArray, List.set_cons_zero, List.set_cons_succ]
        refine wpAnyH_done (by kernel_rfl) ?_ _
        rw [← hW8]
        have D8 : At W8 wr.heap.size (Ndo x none 0 0) := by rw [hW8]; exact D6.nd4 none 0 0
        have U8 : W8.ownsRow (w.heap.size + 3) 3 1 (.slice none 0 0) 0 (iCells L) := by
          have : L = [] := List.length_eq_zero_iff.1 HLEN.out.symm
          rw [this]; exact ⟨rfl, .inl ⟨rfl, rfl⟩⟩
        have UB : ∀ b, Value.ownBlock (.slice none 0 0) = some b → W6.heap.size ≤ b ∧ b < W8.heap.size := fun b e => by simp [Value.ownBlock] at e
        have B8 : Below w.heap.size w W8 := by rw [hW8]; exact (B6.setCell (by show _ ≤ _; omega) _).drew
        have K8 : Keep wr.heap.size wr W8 := ⟨Nat.le_trans (by omega) KX.size, fun b hb => (KX.same b (by omega) (by omega)).trans (K6.same b hb)⟩
        have hs8 := K8.size
        obtain ⟨W9, hW9⟩ : ∃ W9, W9 = W8.alloc (Ndo x none 0 0) := ⟨_, rfl⟩
        have hs9 : W9.heap.size = W8.heap.size + 1 := by rw [hW9]; simp
        have K89 : Keep W8.heap.size W8 W9 := by rw [hW9]; exact Keep.alloc _ _ (Nat.le_refl _)
        have D9 : At W9 W8.heap.size (Ndo x none 0 0) := by rw [hW9]; exact At.new _ _
        have B9 : Below w.heap.size w W9 := by rw [hW9]; exact belA B8
        have O9 : OG (w.heap.size + 3) W9 (.slice sv i sc) (T.take i) ys := HO.out.range (by omega) (fun b _ hb => (K89.same b (by omega)).trans (K8.same b hb))
        have U9 : W9.ownsRow (w.heap.size + 3) 3 1 (.slice none 0 0) 0 (iCells L) := U8.kept (by rw [hW9]; exact World.grownBy_alloc W8 _ none) (by cases e : Value.ownBlock (.slice none 0 0) <;> simp)
        have a3' : At W8 (w.heap.size + 2) (Tro sv i sc) := (K8.same _ (by omega)).trans HA.out.2.2
        obtain ⟨c0, f0⟩ := a3'.one
        obtain ⟨n0, n1, n2, n3, n4, nf⟩ := D8.nd
        have HW9 : Hid (W8.alloc (.cells #[.int .u8 (x.k : Int), .int .i64 x.p, .int .i64 x.n, .string (str x.s), .slice none 0 0] 48) = W9) := hidE hW9.symm
        have HO9 : Hid (OG (w.heap.size + 3) W9 (.slice sv i sc) (T.take i) ys) := hidE O9
        have HU9 : Hid (W9.ownsRow (w.heap.size + 3) 3 1 (.slice none 0 0) 0 (iCells L)) := hidE U9
        have HD9 : Hid (At W9 W8.heap.size (Ndo x none 0 0)) := hidE D9
        have HB9 : Hid (Below w.heap.size w W9) := hidE B9
        have HUB : Hid (∀ b, Value.ownBlock (.slice none 0 0) = some b → W6.heap.size ≤ b ∧ b < W8.heap.size) := hidE UB
        have HK9 : Hid (Keep wr.heap.size wr W9) := hidE ⟨by omega, fun b hb => (K89.same b (by omega)).trans (K8.same b hb)⟩
        have HA9 : Hid (At W9 (w.heap.size + 2) (Tro sv i sc)) := hidE ((HK9.out.same _ (by omega)).trans HA.out.2.2)
        have hsz7 : wr.heap.size < W8.heap.size := D8.lt
        have HROW : Hid (W9.ownsRow (w.heap.size + 3) 48 5 (.slice sv i sc) i ys) := hidE (by have := O9.row; rw [HTL.out] at this; exact this)
        have HSV : Hid (∀ b, Value.ownBlock (.slice sv i sc) = some b → b < wr.heap.size) := hidE fun b e => (HO.out.row.lt b e).2
        clear hW8 hW9 KX K8 K89 D8 U8 UB B8 D9 B9 O9 U9 a3' hHeld y0 y1 y2 y3 y4 yf z0 z1 z2 z3 z4 zf D7 x0 q5 q6 K6 B6 D6 HW6
        go_wp2_with (first
          | (at_builtin; rw [HW9.out]; refine wpList_append_lies _ rfl (.tmp 30) (.tmp 32) 22 rfl (w.heap.size + 3) 48 i0 (.agg #[.int .u8 0, .int .i64 0, .int .i64 0, .string ⟨#[]⟩, .slice none 0 0]) 5 64 Try.underlying22 hi hz0 hz1 hz2 rfl (by omega) (.slice sv i sc) i ys rfl HROW.out ⟨W8.heap.size, 0, none⟩ 1 1 (ndL x (.slice none 0 0)) rfl rfl (news_nd HD9.out) (ones_nd _ _ _ _) (by omega) (by unfold maxLen; omega) (by omega) (by omega) W9.heap.size rfl ?_; intro gg cc w10 ho10 hg10 hw10 hl10; have A10 : At w10 (w.heap.size + 2) (Tro sv i sc) := HA9.out.grown hg10 (fun e => by have := (HROW.out.lt _ e.symm).1; omega); obtain ⟨e0, ef⟩ := A10.one))
        have S1 : OG (w.heap.size + 3) w10 (.slice (some ⟨gg, 0, none⟩) (i + 1) cc) (T.take i ++ [⟨x, L⟩]) (ys ++ ndL x (.slice none 0 0)) := by
          refine OG.push (d := ⟨x, L⟩) HO9.out (show W9.ownsRow _ _ _ _ L.length (iCells L) by rw [← HLEN.out]; exact HU9.out) (fun b e => ⟨fun e' => ?_, ?_⟩) (by rw [HTL.out]; exact ho10) hg10 (fun b e => ?_)
          · have h1 := HSV.out b e'
            have h2 := (HUB.out b e).1
            omega
          · have := (HUB.out b e).2; omega
          · rcases hw10 with h | h
            · left; rw [h, ← e]; simp [Value.ownBlock]
            · right
              have : gg = b := by simpa [Value.ownBlock] using e
              omega
        have G10 : ∀ b o, b < w.heap.size + 3 → At W9 b o → At w10 b o := fun b o hb h => h.grown hg10 (fun e => by have := (HROW.out.lt _ e.symm).1; omega)
        have S2 : OG (w.heap.size + 3) (w10.setCell ⟨w.heap.size + 2, 0, none⟩ (.slice (some ⟨gg, 0, none⟩) (i + 1) cc)) (.slice (some ⟨gg, 0, none⟩) (i + 1) cc) (T.take (i + 1)) (ys ++ ndL x (.slice none 0 0)) := by
          rw [HD.out]
          exact S1.range (by simp) (fun b hb _ => Below.heap_setCell _ _ _ b (by show b ≠ w.heap.size + 2; omega))
        refine ⟨⟨i + 1, _, _, _, by omega, by go_num, S2, ?_, ?_, A10.setOne _, ?_⟩, by simp [intOf]; omega⟩
        · exact (G10 _ _ (by omega) ((HK9.out.same _ (by omega)).trans HA.out.1)).set (by show w.heap.size ≠ w.heap.size + 2; omega) _
        · exact (G10 _ _ (by omega) ((HK9.out.same _ (by omega)).trans HA.out.2.1)).set (by show w.heap.size + 1 ≠ w.heap.size + 2; omega) _
        · exact (HB9.out.grown hg10 (by omega) (fun b e => by have := (HROW.out.lt b e).1; omega)).setCell (by show w.heap.size ≤ w.heap.size + 2; omega) _

      · obtain ⟨gl, ol, rfl, hgl, hrl⟩ := q6 (by rintro rfl; exact hm0 (by simpa using HLEN.out))
        have hm1 : 0 < m := by omega
        replace hrl : ∀ (j : Nat) (c : Int), L[j]? = some c → W6.cell? ⟨gl, ol + j, none⟩ = some (.int .i64 c) := fun j c hj => (B6.cell hgl).trans (hrl j c hj)
        refine beginH (S := fun w' => KeepX W6.heap.size wr.heap.size W6 w') (fun _ _ _ _ _ h => h) (by kernel_rfl) (Keep.drew _ _).x (fun hq hHeld => ?_)
        refine takeH (i := 0) (d := 19) _ hq rfl rfl (by kernel_rfl) (by kernel_rfl) (by kernel_rfl) (by rfl) (fun W hSw => by (go_simp; try rfl)) hHeld ?_
        try simp only [Act.put, List.setIfInBounds_toArray, List.set_cons_zero, List.set_cons_succ]
        refine takeH (i := 2) (d := 21) _ hq rfl rfl (by kernel_rfl) (by kernel_rfl) (by kernel_rfl) (by rfl) (fun W hSw => by (go_simp; try rfl)) hHeld ?_
        try simp only [Act.put, List.setIfInBounds_toArray, List.set_cons_zero, List.set_cons_succ]
        refine takeH (i := 3) (d := 22) _ hq rfl rfl (by kernel_rfl) (by kernel_rfl) (by kernel_rfl) (by rfl) (fun W hSw => by (have s1 := (hSw.cell (b := w.heap.size) (o := 0) (by omega) (by omega)).trans x0; go_simp; try rfl)) hHeld ?_
        try simp only [Act.put, List.setIfInBounds_toArray, List.set_cons_zero, List.set_cons_succ]
        refine takeH (i := 4) (d := 23) _ hq rfl rfl (by kernel_rfl) (by kernel_rfl) (by kernel_rfl) (by rfl) (fun W hSw => by (go_simp; try rfl)) hHeld ?_
        try simp only [Act.put, List.setIfInBounds_toArray, List.set_cons_zero, List.set_cons_succ]
        refine takeH (i := 5) (d := 24) (.pointer (some ⟨gt, ot + i * 5, none⟩)) hq rfl rfl (by kernel_rfl) (by kernel_rfl) (by kernel_rfl) (by rfl) (fun W hSw => by (go_simp; try rfl)) hHeld ?_
        try simp only [Act.put, List.setIfInBounds_toArray, List.set_cons_zero, List.set_cons_succ]
        refine takeH (i := 6) (d := 25) _ hq rfl rfl (by kernel_rfl) (by kernel_rfl) (by kernel_rfl) (by rfl) (fun W hSw => by (go_simp; try rfl)) hHeld ?_
        try simp only [Act.put, List.setIfInBounds_toArray, List.set_cons_zero, List.set_cons_succ]
        refine takeH (i := 7) (d := 26) _ hq rfl rfl (by kernel_rfl) (by kernel_rfl) (by kernel_rfl) (by rfl) (fun W hSw => by (have s1 := (hSw.cell (b := gt) (o := ot + i * 5 + 4) (by omega) (by omega)).trans q5; go_simp; try rfl)) hHeld ?_
        try simp only [Act.put, List.setIfInBounds_toArray, List.set_cons_zero, List.set_cons_succ]
        refine wpAnyH_ready (rs := [1]) (by kernel_rfl) (by simp) ?_
        refine AllReadyH.cons rfl (fun K hK => ?_) AllReadyH.nil
        go_simp
        go_wp2_with fail
        refine hK.out _ _ (Keep.drew _ _).x (fun hHeld => ?_)
        clear hK K
        try simp only [Act.put, List.setIfInBounds_toArray, List.set_cons_zero, List.set_cons_succ]
        refine wpAnyH_ready (rs := [8]) (by kernel_rfl) (by simp) ?_
        refine AllReadyH.cons rfl (fun K hK => ?_) AllReadyH.nil
        refine wp_append_lies _ (.tmp 20) (.tmp 26) 35 rfl (w.heap.size + 3) 3 i3 (.int .i64 0) 1 8 Try.underlying35 hi3 hz30 hz31 hz32 rfl (by omega) (.slice none 0 0) 0 [] rfl ⟨rfl, .inl ⟨rfl, rfl⟩⟩ ⟨gl, ol, none⟩ m capl (iCells L) rfl (by rw [Nat.mul_one, HLEN.out]; simp [iCells]) (news_int (w := W6) hrl) (ones_int L) (by omega) (by unfold maxLen; omega) (by omega) (by show _ ≤ W6.heap.size; omega) W6.heap.size rfl ?_
        intro g7 c7 w7 ho7 hg7 hw7 hl7
        obtain rfl : g7 = wr.heap.size + 1 := hw7.elim (fun h => by simp [Value.ownBlock] at h) (fun h => h.trans hs6)
        rw [Nat.zero_add] at ho7 ⊢
        have K7 : Keep W6.heap.size W6 w7 := ⟨hg7.size, fun b hb => hg7.block b hb (by simp [Value.ownBlock])⟩
        refine hK.out _ _ K7.x (fun hHeld => ?_)
        clear hK K
        try simp only [Act.put, List.setIfInBounds_toArray, List.set_cons_zero, List.set_cons_succ]
        refine takeH (i := 9) (d := 28) _ hq rfl rfl (by kernel_rfl) (by kernel_rfl) (by kernel_rfl) (by rfl) (fun W hSw => by (go_simp; try rfl)) hHeld ?_
        try simp only [Act.put, List.setIfInBounds_toArray, List.set_cons_zero, List.set_cons_succ]
        have D7 : At w7 wr.heap.size (Ndo x none 0 0) := (K7.same _ (by omega)).trans D6
        obtain ⟨z0, z1, z2, z3, z4, zf⟩ := D7.nd
        refine wpAnyH_ready (rs := [10]) (by kernel_rfl) (by simp) ?_
        refine AllReadyH.cons rfl (fun K hK => ?_) AllReadyH.nil
        go_simp
        go_wp2_with fail
        obtain ⟨W8, hW8⟩ : ∃ W8, W8 = w7.setCell ⟨wr.heap.size, 4, none⟩ (.slice (some ⟨wr.heap.size + 1, 0, none⟩) m c7) := ⟨_, rfl⟩
        have KX : KeepX W6.heap.size wr.heap.size W6 W8 := by
          rw [hW8]
          exact ⟨by rw [World.size_setCell]; exact K7.size, fun b hb hbg => (Below.heap_setCell _ _ _ b hbg).trans (K7.same b hb)⟩
        refine hK.out _ _ (hW8 ▸ KX) (fun hHeld => ?_)
        clear hK K
        try simp only [Act.put, List.setIfInBounds_toArray, List.set_cons_zero, List.set_cons_succ]
        refine wpAnyH_done (by kernel_rfl) ?_ _
        rw [← hW8]
        have D8 : At W8 wr.heap.size (Ndo x (some ⟨wr.heap.size + 1, 0, none⟩) m c7) := by rw [hW8]; exact D7.nd4 _ _ _
        have U8 : W8.ownsRow (w.heap.size + 3) 3 1 (.slice (some ⟨wr.heap.size + 1, 0, none⟩) m c7) m (iCells L) := by
          rw [hW8]
          have e7 : w7.ownsRow (w.heap.size + 3) 3 1 (.slice (some ⟨wr.heap.size + 1, 0, none⟩) m c7) m (iCells L) := by simpa using ho7
          exact e7.kept (grown_set (grown_refl w7 (some wr.heap.size)) 4 _) (.inr (by simp [Value.ownBlock]))
        have UB : ∀ b, Value.ownBlock (.slice (some ⟨wr.heap.size + 1, 0, none⟩) m c7) = some b → W6.heap.size ≤ b ∧ b < W8.heap.size := fun b e => by
          have : wr.heap.size + 1 = b := by simpa [Value.ownBlock] using e
          rw [hW8, World.size_setCell]; omega
        have B8 : Below w.heap.size w W8 := by rw [hW8]; exact (B6.drew.grown hg7 (by show w.heap.size ≤ W6.heap.size; omega) (by simp [Value.ownBlock])).setCell (by show _ ≤ _; omega) _
        have K8 : Keep wr.heap.size wr W8 := ⟨Nat.le_trans (by omega) KX.size, fun b hb => (KX.same b (by omega) (by omega)).trans (K6.same b hb)⟩
        have hs8 := K8.size
        obtain ⟨W9, hW9⟩ : ∃ W9, W9 = W8.alloc (Ndo x (some ⟨wr.heap.size + 1, 0, none⟩) m c7) := ⟨_, rfl⟩
        have hs9 : W9.heap.size = W8.heap.size + 1 := by rw [hW9]; simp
        have K89 : Keep W8.heap.size W8 W9 := by rw [hW9]; exact Keep.alloc _ _ (Nat.le_refl _)
        have D9 : At W9 W8.heap.size (Ndo x (some ⟨wr.heap.size + 1, 0, none⟩) m c7) := by rw [hW9]; exact At.new _ _
        have B9 : Below w.heap.size w W9 := by rw [hW9]; exact belA B8
        have O9 : OG (w.heap.size + 3) W9 (.slice sv i sc) (T.take i) ys := HO.out.range (by omega) (fun b _ hb => (K89.same b (by omega)).trans (K8.same b hb))
        have U9 : W9.ownsRow (w.heap.size + 3) 3 1 (.slice (some ⟨wr.heap.size + 1, 0, none⟩) m c7) m (iCells L) := U8.kept (by rw [hW9]; exact World.grownBy_alloc W8 _ none) (by cases e : Value.ownBlock (.slice (some ⟨wr.heap.size + 1, 0, none⟩) m c7) <;> simp)
        have a3' : At W8 (w.heap.size + 2) (Tro sv i sc) := (K8.same _ (by omega)).trans HA.out.2.2
        obtain ⟨c0, f0⟩ := a3'.one
        obtain ⟨n0, n1, n2, n3, n4, nf⟩ := D8.nd
        have HW9 : Hid (W8.alloc (.cells #[.int .u8 (x.k : Int), .int .i64 x.p, .int .i64 x.n, .string (str x.s), .slice (some ⟨wr.heap.size + 1, 0, none⟩) m c7] 48) = W9) := hidE hW9.symm
        have HO9 : Hid (OG (w.heap.size + 3) W9 (.slice sv i sc) (T.take i) ys) := hidE O9
        have HU9 : Hid (W9.ownsRow (w.heap.size + 3) 3 1 (.slice (some ⟨wr.heap.size + 1, 0, none⟩) m c7) m (iCells L)) := hidE U9
        have HD9 : Hid (At W9 W8.heap.size (Ndo x (some ⟨wr.heap.size + 1, 0, none⟩) m c7)) := hidE D9
        have HB9 : Hid (Below w.heap.size w W9) := hidE B9
        have HUB : Hid (∀ b, Value.ownBlock (.slice (some ⟨wr.heap.size + 1, 0, none⟩) m c7) = some b → W6.heap.size ≤ b ∧ b < W8.heap.size) := hidE UB
        have HK9 : Hid (Keep wr.heap.size wr W9) := hidE ⟨by omega, fun b hb => (K89.same b (by omega)).trans (K8.same b hb)⟩
        have HA9 : Hid (At W9 (w.heap.size + 2) (Tro sv i sc)) := hidE ((HK9.out.same _ (by omega)).trans HA.out.2.2)
        have hsz7 : wr.heap.size < W8.heap.size := D8.lt
        have HROW : Hid (W9.ownsRow (w.heap.size + 3) 48 5 (.slice sv i sc) i ys) := hidE (by have := O9.row; rw [HTL.out] at this; exact this)
        have HSV : Hid (∀ b, Value.ownBlock (.slice sv i sc) = some b → b < wr.heap.size) := hidE fun b e => (HO.out.row.lt b e).2
        clear hW8 hW9 KX K8 K89 D8 U8 UB B8 D9 B9 O9 U9 a3' hHeld y0 y1 y2 y3 y4 yf z0 z1 z2 z3 z4 zf D7 K7 ho7 hg7 hrl x0 q5 q6 K6 B6 D6 HW6
        go_wp2_with (first
          | (at_builtin; rw [HW9.out]; refine wpList_append_lies _ rfl (.tmp 30) (.tmp 32) 22 rfl (w.heap.size + 3) 48 i0 (.agg #[.int .u8 0, .int .i64 0, .int .i64 0, .string ⟨#[]⟩, .slice none 0 0]) 5 64 Try.underlying22 hi hz0 hz1 hz2 rfl (by omega) (.slice sv i sc) i ys rfl HROW.out ⟨W8.heap.size, 0, none⟩ 1 1 (ndL x (.slice (some ⟨wr.heap.size + 1, 0, none⟩) m c7)) rfl rfl (news_nd HD9.out) (ones_nd _ _ _ _) (by omega) (by unfold maxLen; omega) (by omega) (by omega) W9.heap.size rfl ?_; intro gg cc w10 ho10 hg10 hw10 hl10; have A10 : At w10 (w.heap.size + 2) (Tro sv i sc) := HA9.out.grown hg10 (fun e => by have := (HROW.out.lt _ e.symm).1; omega); obtain ⟨e0, ef⟩ := A10.one))
        have S1 : OG (w.heap.size + 3) w10 (.slice (some ⟨gg, 0, none⟩) (i + 1) cc) (T.take i ++ [⟨x, L⟩]) (ys ++ ndL x (.slice (some ⟨wr.heap.size + 1, 0, none⟩) m c7)) := by
          refine OG.push (d := ⟨x, L⟩) HO9.out (show W9.ownsRow _ _ _ _ L.length (iCells L) by rw [← HLEN.out]; exact HU9.out) (fun b e => ⟨fun e' => ?_, ?_⟩) (by rw [HTL.out]; exact ho10) hg10 (fun b e => ?_)
          · have h1 := HSV.out b e'
            have h2 := (HUB.out b e).1
            omega
          · have := (HUB.out b e).2; omega
          · rcases hw10 with h | h
            · left; rw [h, ← e]; simp [Value.ownBlock]
            · right
              have : gg = b := by simpa [Value.ownBlock] using e
              omega
        have G10 : ∀ b o, b < w.heap.size + 3 → At W9 b o → At w10 b o := fun b o hb h => h.grown hg10 (fun e => by have := (HROW.out.lt _ e.symm).1; omega)
        have S2 : OG (w.heap.size + 3) (w10.setCell ⟨w.heap.size + 2, 0, none⟩ (.slice (some ⟨gg, 0, none⟩) (i + 1) cc)) (.slice (some ⟨gg, 0, none⟩) (i + 1) cc) (T.take (i + 1)) (ys ++ ndL x (.slice (some ⟨wr.heap.size + 1, 0, none⟩) m c7)) := by
          rw [HD.out]
          exact S1.range (by simp) (fun b hb _ => Below.heap_setCell _ _ _ b (by show b ≠ w.heap.size + 2; omega))
        refine ⟨⟨i + 1, _, _, _, by omega, by go_num, S2, ?_, ?_, A10.setOne _, ?_⟩, by simp [intOf]; omega⟩
        · exact (G10 _ _ (by omega) ((HK9.out.same _ (by omega)).trans HA.out.1)).set (by show w.heap.size ≠ w.heap.size + 2; omega) _
        · exact (G10 _ _ (by omega) ((HK9.out.same _ (by omega)).trans HA.out.2.1)).set (by show w.heap.size + 1 ≠ w.heap.size + 2; omega) _
        · exact (HB9.out.grown hg10 (by omega) (fun b e => by have := (HROW.out.lt b e).1; omega)).setCell (by show w.heap.size ≤ w.heap.size + 2; omega) _

    · obtain rfl : i = n := by omega
      have lt : ¬ (i : Int) < (i : Int) := by omega
      have htk : T.take i = T := List.take_of_length_le (by rw [HN.out]; exact Nat.le_refl _)
      rw [htk] at hO
      obtain ⟨c0, f0⟩ := a3.one
      obtain ⟨d0, g0⟩ := a2.one
      have r5 := (a2.setOne (.slice sv i sc)).one.1
      go_wp2_with fail
      refine bodyPost_ret (v := trV sv i sc) (by simp [results, Try.results11, go_sem, r5]) rfl ?_
      exact ⟨.slice sv i sc, rfl, ⟨ys, hO.range (by simp) (fun b hb _ => Below.heap_setCell _ _ _ b (by show b ≠ w.heap.size + 1; omega))⟩, hB.setCell (by show w.heap.size ≤ w.heap.size + 1; omega) _⟩
end Go.Proofs.Ytkidcmglidnaoaa
