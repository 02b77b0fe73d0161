import Derived.Test.YtkidcmglidnaoaaJb
import Derived.Test.YtkidcmglidnaoaaJd
namespace Go.Proofs.Ytkidcmglidnaoaa
open Go.RowKit Go.Shelf
set_option linter.unusedVariables false
set_option linter.unusedSimpArgs false
theorem OutK.drew' {lo hi : Nat} {w W : World} (h : OutK lo hi w W) : OutK lo hi w W.drew := ⟨h.os, h.tape, h.output, h.size, h.same⟩
/-- A tree that does not hang on this row. -/
def TK (r : Option Nat) (b : Option Addr) (T : List Nd) (W : World) : Prop := ∀ W' : World, W.heap.size ≤ W'.heap.size → (∀ c, c < W.heap.size → some c ≠ r → W'.heap[c]? = W.heap[c]?) → TAt W' b T
theorem TK.grown {r r' : Option Nat} {b : Option Addr} {T : List Nd} {W W' : World} (h : TK r b T W) (hg : W.grownBy W' r) (hr : ∀ c, r' = some c → r = some c ∨ W.heap.size ≤ c) : TK r' b T W' := fun V hs hc =>
  h V (Nat.le_trans hg.size hs) fun c hc1 hc2 => (hc c (Nat.lt_of_lt_of_le hc1 hg.size) (fun e => by
    rcases hr c e.symm with h1 | h1
    · exact hc2 h1.symm
    · omega)).trans (hg.block c hc1 hc2)
theorem TK.below {r : Option Nat} {b : Option Addr} {T : List Nd} {W W' : World} (h : TK r b T W) (hb : Below W.heap.size W W') : TK r b T W' := fun V hs hc =>
  h V (Nat.le_trans hb.size hs) fun c hc1 hc2 => (hc c (Nat.lt_of_lt_of_le hc1 hb.size) hc2).trans (hb.block c hc1)
theorem TK.of_og {r : Option Nat} {lo n cp : Nat} {b : Option Addr} {T : List Nd} {ys : List Value} {W : World} (h : OG lo W (.slice b n cp) T ys) (hr : ∀ c, r = some c → c < lo) : TK r b T W := fun V hs hc =>
  (h.range hs fun c hc1 hc2 => hc c hc2 (fun e => by have := hr c e.symm; omega)).tat
/-- The law's own copies. -/
def OW (lo : Nat) (v : Value) (n : Nat) (Ts : List (List Nd)) (xs : List Value) (W : World) : Prop := W.ownsRow lo 24 1 v n xs ∧ ∀ (j : Nat) (T : List Nd), Ts[j]? = some T → ∃ (b : Option Addr) (cp : Nat), xs[j]? = some (Value.slice b T.length cp) ∧ TK v.ownBlock b T W
theorem OW.below {lo n : Nat} {v : Value} {Ts : List (List Nd)} {xs : List Value} {W W' : World} (h : OW lo v n Ts xs W) (hb : Below W.heap.size W W') : OW lo v n Ts xs W' :=
  ⟨owns_rng h.1 (fun b _ hb' => hb.block b hb'), fun j T hT => by
    obtain ⟨b, cp, h1, h2⟩ := h.2 j T hT
    exact ⟨b, cp, h1, h2.below hb⟩⟩
theorem OW.push {lo n : Nat} {v v' : Value} {Ts : List (List Nd)} {xs : List Value} {W W' : World} {T : List Nd} {b : Option Addr} {cp : Nat} (h : OW lo v n Ts xs W) (hn : Ts.length = n) (hT : TK v.ownBlock b T W) (ho : W'.ownsRow lo 24 1 v' (n + 1) (xs ++ [.slice b T.length cp])) (hg : W.grownBy W' v.ownBlock)
    (hw : ∀ c, v'.ownBlock = some c → v.ownBlock = some c ∨ W.heap.size ≤ c) : OW lo v' (n + 1) (Ts ++ [T]) (xs ++ [.slice b T.length cp]) W' := by
  have hl : xs.length = Ts.length := by have := h.1.1; omega
  refine ⟨ho, fun j U hU => ?_⟩
  rcases Nat.lt_or_ge j Ts.length with h1 | h1
  · rw [List.getElem?_append_left h1] at hU
    obtain ⟨b', cp', h2, h3⟩ := h.2 j U hU
    exact ⟨b', cp', by rw [List.getElem?_append_left (by omega)]; exact h2, h3.grown hg hw⟩
  · rw [List.getElem?_append_right h1] at hU
    obtain rfl : j = Ts.length := by
      have := (List.getElem?_eq_some_iff.1 hU).1
      simp at this
      omega
    simp at hU
    subst hU
    exact ⟨b, cp, by rw [List.getElem?_append_right (by omega)]; simp [hl], hT.grown hg hw⟩
theorem OW.crow {lo n cap : Nat} {a : Option Addr} {Ts : List (List Nd)} {xs : List Value} {W : World} (h : OW lo (.slice a n cap) n Ts xs W) (hn : Ts.length = n) : CRow W a Ts := fun hne => by
  rcases h.1.2 with ⟨_, h0⟩ | ⟨g, cap', cur, e, h1, hg, h2, h3, h4, h5⟩
  · exact absurd (List.length_eq_zero_iff.1 (by omega)) hne
  · simp only [Value.slice.injEq] at e
    obtain ⟨rfl, -, -⟩ := e
    refine ⟨g, 0, rfl, (Array.getElem?_eq_some_iff.1 hg).1, fun i T hT => ?_⟩
    obtain ⟨b, cp, h6, h7⟩ := h.2 i T hT
    refine ⟨b, cp, ?_, h7 W (Nat.le_refl _) (fun _ _ _ => rfl)⟩
    rw [cell_of_row W g (0 + i) _ 24 (0, 0) hg, Nat.zero_add]
    rw [← h5, List.getElem?_take] at h6
    split at h6
    · simpa using h6
    · cases h6
/-- A copy of a list of numbers. -/
theorem wpList_append_nil {P : Program} (w : World) {ops : Array Oper} {rest : List Oper} {o : Oper} {a : Act} {Q : Exit → Act → World → Prop} (hgd : o.guard = none) (s x : Operand) (t : TypeId)
    (ho : o.op = .call { callee := .builtin .append, args := #[s, x], argTypes := #[t, t] })
    (i : TypeInfo) (ht : P.underlying t = some (.slice 3)) (hi : P.info? 3 = some i) (hz : i.zero = some (.int .i64 0)) (hsize : i.size = 1) (hby : i.bytes = 8)
    (hs : a.eval s = .slice none 0 0) (an : Option Addr) (ln capn : Nat) (L : List Int) (hx : a.eval x = .slice an ln capn) (hl : L.length = ln) (hA : IRow w an L) (h63 : ln ≤ 20000)
    (h : ∀ xa xc w', w'.ownsRow w.heap.size 3 1 (.slice xa ln xc) ln (iCells L) → w.grownBy w' none → wpList P ops Q rest (a.put o.dst (.slice xa ln xc)) w') : wpList P ops Q (o :: rest) a w := by
  refine wpList_plain hgd fun K hK => ?_
  rcases Nat.eq_zero_or_pos ln with h0 | h0
  · subst h0
    have : L = [] := List.length_eq_zero_iff.1 hl
    subst this
    exact wp_append_nil0 w s x t ho 3 i ht hi hs an capn hx (hK _ _ (h none 0 w ⟨rfl, .inl ⟨rfl, rfl⟩⟩ (grown_refl w none)))
  · obtain ⟨g, off, rfl, hg, hc⟩ := hA (by rintro rfl; simp at hl; omega)
    refine wp_append_lies w s x t ho w.heap.size 3 i (.int .i64 0) 1 8 ht hi hz hsize hby rfl (by omega) (.slice none 0 0) 0 [] hs ⟨rfl, .inl ⟨rfl, rfl⟩⟩ ⟨g, off, none⟩ ln capn (iCells L) hx (by simp [iCells, hl]) (news_int hc) (ones_int L) h0 (by unfold maxLen; omega) (by omega) (Nat.le_refl _) w.heap.size rfl ?_
    intro g7 c7 w7 ho7 hg7 hw7 hl7
    rw [Nat.zero_add] at ho7 ⊢
    exact hK _ _ (h _ _ w7 ho7 hg7)
/-- What both sides' Join answer, and what is held. -/
def JAll (nx : Nx) (ln : Nat) (Ts : List (List Nd)) (nT : Nat) (a : Option Addr) (cap : Nat) (an : Option Addr) (capn : Nat) : Prop :=
  ∃ (er : Int) (R : Nat → Nat → World → Option Addr → Nat → Nat → Prop) (R2 : Nat → World → Option Addr → Nat → Nat → Prop),
    (∀ lo hi W W' v m c, R lo hi W v m c → Keep hi W W' → R lo hi W' v m c) ∧
    (∀ lo W W' v m c, R2 lo W v m c → Below W.heap.size W W' → R2 lo W' v m c) ∧
    (∀ W xa xc sv sc, CRow W sv Ts → Calls Try.prog 24 #[ndV nx xa ln xc, .slice sv nT sc] W fun e w' => ∃ v m c, e = .returned (.tuple #[trV v m c, .int .i64 er]) ∧ R W.heap.size w'.heap.size w' v m c ∧ Below W.heap.size W w') ∧
    (∀ W, CRow W a Ts → Calls Try.prog 25 #[ndV nx an ln capn, .slice a nT cap] W fun e w' => ∃ v m c, e = .returned (.tuple #[trV v m c, .int .i64 er]) ∧ R2 W.heap.size w' v m c ∧ Below W.heap.size W w') ∧
    (∀ W lo hi lo2 hi2 lo3 v1 m1 c1 v2 m2 c2 v3 m3 c3, R lo hi W v1 m1 c1 → R lo2 hi2 W v2 m2 c2 → R2 lo3 W v3 m3 c3 → hi ≤ lo2 → hi2 ≤ lo3 → lo3 ≤ W.heap.size → hi2 ≤ W.heap.size → Calls Try.prog 20 #[trV v1 m1 c1, trV v2 m2 c2, trV v3 m3 c3] W fun e w' => e = .returned (.bool true) ∧ OutK lo hi W w')
theorem held_all {R : Nat → Nat → World → Option Addr → Nat → Nat → Prop} {R2 : Nat → World → Option Addr → Nat → Nat → Prop}
    (hRk : ∀ lo hi W W' v m c, R lo hi W v m c → Keep hi W W' → R lo hi W' v m c) (hR2k : ∀ lo W W' v m c, R2 lo W v m c → Below W.heap.size W W' → R2 lo W' v m c)
    (h20 : ∀ W lo hi lo2 hi2 lo3 v1 m1 c1 v2 m2 c2 v3 m3 c3, R lo hi W v1 m1 c1 → R lo2 hi2 W v2 m2 c2 → R2 lo3 W v3 m3 c3 → hi ≤ lo2 → hi2 ≤ lo3 → lo3 ≤ W.heap.size → hi2 ≤ W.heap.size → Calls Try.prog 20 #[trV v1 m1 c1, trV v2 m2 c2, trV v3 m3 c3] W fun e w' => e = .returned (.bool true) ∧ OutK lo hi W w')
    {lo : Nat} {w5 w6 w7 : World} {o1 o2 o3 : Obj} {v1 v2 v3 : Option Addr} {m1 c1 m2 c2 m3 c3 : Nat} (h1 : R lo w5.heap.size w5 v1 m1 c1) (hb6 : Below (w5.alloc o1).heap.size (w5.alloc o1) w6) (h2 : R (w5.alloc o1).heap.size w6.heap.size w6 v2 m2 c2)
    (hb7 : Below (w6.alloc o2).heap.size (w6.alloc o2) w7) (h3 : R2 (w6.alloc o2).heap.size w7 v3 m3 c3) : Calls Try.prog 20 #[trV v1 m1 c1, trV v2 m2 c2, trV v3 m3 c3] (w7.alloc o3) fun e w' => e = .returned (.bool true) ∧ OutK lo w5.heap.size (w7.alloc o3) w' := by
  have b56 : Below w5.heap.size w5 w6 := below_aft (belA (Below.refl _ _)) hb6
  have b67 : Below w6.heap.size w6 w7 := below_aft (belA (Below.refl _ _)) hb7
  have b7 : Below w7.heap.size w7 (w7.alloc o3) := belA (Below.refl _ _)
  have b6 : Below w6.heap.size w6 (w7.alloc o3) := below_aft b67 b7
  have b5 : Below w5.heap.size w5 (w7.alloc o3) := below_aft b56 b6
  have s5 := b5.size
  have s6 := b6.size
  have s7 := hb7.size
  have e1 := hRk _ _ _ (w7.alloc o3) _ _ _ h1 ⟨b5.size, fun b hb => b5.block b hb⟩
  have e2 := hRk _ _ _ (w7.alloc o3) _ _ _ h2 ⟨b6.size, fun b hb => b6.block b hb⟩
  have e3 := hR2k _ _ (w7.alloc o3) _ _ _ h3 b7
  refine h20 _ _ _ _ _ _ _ _ _ _ _ _ _ _ _ e1 e2 e3 ?_ ?_ ?_ s6
  · rw [World.size_alloc]; omega
  · rw [World.size_alloc]; omega
  · rw [World.size_alloc] at s7 ⊢
    rw [World.size_alloc]
    omega
theorem copy_done {W0 W2 w3 : World} {x : Nx} {an xa : Option Addr} {ln capn xc : Nat} {L : List Int} (hB : Below W0.heap.size W0 W2) (hs2 : W2.heap.size = W0.heap.size + 1) (hg3 : W2.grownBy w3 none) (D3 : At w3 W0.heap.size (Ndo x an ln capn)) (ho3 : w3.ownsRow W2.heap.size 3 1 (.slice xa ln xc) ln (iCells L)) (hl : L.length = ln) :
    ∃ W4, W4 = w3.setCell ⟨W0.heap.size, 4, none⟩ (.slice xa ln xc) ∧ At W4 W0.heap.size (Ndo x xa ln xc) ∧ IRow W4 xa L ∧ Below W0.heap.size W0 W4 := by
  have hb3 := below_of_grown hg3
  refine ⟨_, rfl, D3.nd4 _ _ _, ?_, (below_aft hB hb3).setCell (Nat.le_refl _) _⟩
  have ho4 : (w3.setCell ⟨W0.heap.size, 4, none⟩ (.slice xa ln xc)).ownsRow W2.heap.size 3 1 (.slice xa ln xc) L.length (iCells L) := by
    rw [hl]
    refine ho3.kept (grown_set (grown_refl w3 (some W0.heap.size)) 4 _) ?_
    cases e : Value.ownBlock (.slice xa ln xc) with
    | none => exact .inl rfl
    | some b => exact .inr (fun e' => by have := (ho3.lt b e).1; have := Option.some.inj e'; omega)
  obtain ⟨a', cap', e, hI⟩ := owns_slice (n := 0) ho4
  simp only [Value.slice.injEq] at e
  rw [← e.1] at hI
  exact hI
set_option maxRecDepth 100000 in
set_option maxHeartbeats 16000000 in
theorem joins_main (nx : Nx) (an : Option Addr) (L : List Int) (ln capn : Nat) (hln : L.length = ln) (Ts : List (List Nd)) (nT : Nat) (hnT : Ts.length = nT) (a : Option Addr) (cap : Nat) (w : World) (hA : IRow w an L) (hC : CRow w a Ts) (hL : ∀ T ∈ Ts, Lg T)
    (h300 : nT ≤ 300) (hl2 : ln ≤ 16392) (hJA : (∀ T ∈ Ts, Fit T) → JAll nx ln Ts nT a cap an capn) :
    Calls Try.prog 4 #[ndV nx an ln capn, .slice a nT cap] w fun e w' => e = .returned (.bool true) ∧ Below w.heap.size w w' := by
  obtain ⟨i24, hi24, hz0, hz1, hz2⟩ := info_parts Try.info24
  obtain ⟨i3, hi3, hz30, hz31, hz32⟩ := info_parts Try.info3
  obtain ⟨W1, hW1⟩ : ∃ W1, W1 = w.alloc (Ndo nx an ln capn) := ⟨_, rfl⟩
  have B1 : Below w.heap.size w W1 := by rw [hW1]; exact belA (Below.refl _ _)
  have A1 : At W1 w.heap.size (Ndo nx an ln capn) := by rw [hW1]; exact At.new _ _
  have HW1 : Hid (w.alloc (.cells #[.int .u8 (nx.k : Int), .int .i64 nx.p, .int .i64 nx.n, .string (str nx.s), .slice an ln capn] 48) = W1) := hidE hW1.symm
  have HC : Hid (CRow w a Ts) := hidE hC
  have HA : Hid (IRow w an L) := hidE hA
  have HL : Hid (∀ T ∈ Ts, Lg T) := hidE hL
  have HN : Hid (Ts.length = nT ∧ L.length = ln) := hidE ⟨hnT, hln⟩
  have HJA : Hid ((∀ T ∈ Ts, Fit T) → JAll nx ln Ts nT a cap an capn) := hidE hJA
  have hs1 : w.heap.size < W1.heap.size := A1.lt
  obtain ⟨y0, y1, y2, y3, y4, yf⟩ := A1.nd
  have z1 : ¬ (300 : Int) < (nT : Int) := by omega
  have z1' : decide ((300 : Int) < (nT : Int)) = false := decide_eq_false z1
  have z2 : ¬ (16392 : Int) < (ln : Int) := by omega
  have z2' : decide ((16392 : Int) < (ln : Int)) = false := decide_eq_false z2
  clear hW1 hC hA hL hnT hln hJA
  go_enter Try.func4, Try.ntmps4
  (first | go_wp2_with fail | skip)
  try rw [HW1.out]
  try go_wp2_with fail
  clear y0 y1 y2 y3 y4 yf
  go_loopw [5, 6, 7] (fun sz ow v W => ∃ (i : Nat) (sv : Option Addr) (sc : Nat) (xs : List Value), i ≤ nT ∧ sz = .int .i64 (tot (Ts.take i) : Int) ∧ ow = .slice sv i sc ∧ v = .int .i64 (i : Int) ∧ OW W1.heap.size (.slice sv i sc) i (Ts.take i) xs W ∧ (∀ T ∈ Ts.take i, Fit T) ∧ Below W1.heap.size W1 W) (fun _ _ v _ => nT - (intOf v).toNat)
  case atStart => exact ⟨0, none, 0, [], Nat.zero_le _, rfl, rfl, rfl, ⟨⟨rfl, .inl ⟨rfl, rfl⟩⟩, fun j T h => by simp at h⟩, fun T h => by simp at h, Below.refl _ _⟩
  case round =>
    obtain ⟨i, sv, sc, xs, hi, rfl, rfl, rfl, hO, hall, hB⟩ := hrel
    have HALL : Hid (∀ T ∈ Ts.take i, Fit T) := hidE hall
    have HO : Hid (OW W1.heap.size (.slice sv i sc) i (Ts.take i) xs wr) := hidE hO
    have Bw : Below w.heap.size w wr := B1.trans (hB.mono (by omega))
    have hBs := hB.size
    clear hall hO
    have htot : ∀ k, tot (Ts.take k) ≤ 300 * 16392 ∨ True := fun _ => .inr trivial
    have hzt : tot (Ts.take i) ≤ 300 * 16392 := by
      have : ∀ (Us : List (List Nd)), (∀ T ∈ Us, Fit T) → tot Us ≤ Us.length * 16392 := by
        intro Us
        induction Us with
        | nil => intro _; simp [tot]
        | cons U Us ih =>
          intro h
          have h1 := ih (fun T hT => h T (by simp [hT]))
          have h2 := (h U (by simp)).1
          simp only [tot, List.length_cons]
          omega
      have h1 := this _ HALL.out
      rw [List.length_take] at h1
      have : min i Ts.length ≤ 300 := by omega
      have := Nat.mul_le_mul_right 16392 this
      omega
    clear htot
    by_cases hin : i < nT
    · have hit : i < Ts.length := by have := HN.out.1; omega
      obtain ⟨T, hT⟩ : ∃ T, Ts[i]? = some T := ⟨_, List.getElem?_eq_getElem hit⟩
      have hTL := HL.out T (List.mem_of_getElem? hT)
      obtain ⟨gr, orr, rfl, hgr, hrow⟩ := HC.out (by rintro rfl; simp at hit)
      obtain ⟨ai, capi, p1, p2⟩ := hrow i T hT
      replace p1 := (Bw.cell (p := ⟨gr, orr + i, none⟩) hgr).trans p1
      have p3 := p2.below Bw
      obtain ⟨tl, htl⟩ : ∃ tl, tl = T.length := ⟨_, rfl⟩
      rw [← htl] at p1
      have HTL : Hid (tl = T.length) := hidE htl
      have HTT : Hid (Ts.take (i + 1) = Ts.take i ++ [T]) := hidE (by rw [List.take_add_one, hT]; rfl)
      have HTI : Hid (Ts[i]? = some T) := hidE hT
      have HTK : Hid ((Ts.take i).length = i) := hidE (by rw [List.length_take]; omega)
      have k0 : (0 : Int) ≤ (i : Int) := by omega
      have k1 : (i : Int) < (nT : Int) := by omega
      have w3e : IntKind.i64.wrap ((i : Int) + 1) = (i : Int) + 1 := by rw [IntKind.wrap_i64]; omega
      clear hrow hT hit htl
      by_cases hF : Fit T
      · have HFIT : Hid (∀ W, Below wr.heap.size wr W → Calls Try.prog 9 #[trV ai tl capi] W fun e w' => e = .returned (.bool true) ∧ Below W.heap.size W w') := hidE fun W hW => fits_any T tl HTL.out.symm true ⟨fun _ => hF, fun _ => rfl⟩ ai capi W (p3.below hW) hTL
        have sT := hTL.sm hF.1 hF.l
        have hFl := hF.1
        have htl2 : tl ≤ 16392 := by have := HTL.out; omega
        have HF : Hid (Fit T) := hidE hF
        have H11 : Hid (∀ W, Below wr.heap.size wr W → Calls Try.prog 11 #[trV ai tl capi] W fun e w' => ∃ v ys, e = .returned (.agg #[v]) ∧ OG (W.heap.size + 3) w' v T ys ∧ Below W.heap.size W w') := hidE fun W hW => by
          have := rown_any T ai capi W (p3.below hW) sT
          rw [← HTL.out] at this
          exact this
        clear hF hTL sT hFl p2 p3
        by_cases hbig : 32784 < tot (Ts.take i)
        · have z3 : (32784 : Int) < (tot (Ts.take i) : Int) := by omega
          have z3' : decide ((32784 : Int) < (tot (Ts.take i) : Int)) = true := decide_eq_true z3
          go_wp2_with (first
            | (go_at_call 9; refine (HFIT.out _ (Below.refl _ _)).mono ?_; rintro e w1 ⟨rfl, hb1⟩)
            | (go_at_call 10; refine (awake_true _).mono ?_; rintro e w2 ⟨rfl, hb2⟩))
          exact bodyPost_ret (v := .bool true) (by simp [results, Try.results4, go_sem]) rfl ⟨rfl, below_aft (below_aft Bw hb1) hb2⟩
        · have z3 : ¬ (32784 : Int) < (tot (Ts.take i) : Int) := by omega
          have z3' : decide ((32784 : Int) < (tot (Ts.take i) : Int)) = false := decide_eq_false z3
          have w4e : IntKind.i64.wrap ((tot (Ts.take i) : Int) + (tl : Int)) = (tot (Ts.take i) : Int) + (tl : Int) := by rw [IntKind.wrap_i64]; omega
          have hgr1 : gr < wr.heap.size := by
            have : gr < w.heap.size := hgr
            have := Bw.size
            omega
          have HOL : Hid (∀ c, Value.ownBlock (.slice sv i sc) = some c → W1.heap.size ≤ c ∧ c < wr.heap.size) := hidE fun c e => HO.out.1.lt c e
          go_wp2_with (first
            | (go_at_call 9; refine (HFIT.out _ (Below.refl _ _)).mono ?_; rintro e w1 ⟨rfl, hb1⟩; replace p1 := (hb1.cell (p := ⟨gr, orr + i, none⟩) hgr1).trans p1)
            | (go_at_call 11; refine (H11.out _ hb1).mono ?_; rintro e w2 ⟨v, ys, rfl, hO2, hb2⟩; obtain ⟨b, cp, hv, _⟩ := hO2.form; rw [← HTL.out] at hv; subst hv; have hs2 := hb2.size; have hs1' := hb1.size; have B12 : Below wr.heap.size wr w2 := below_aft hb1 hb2; have HO3 : OW W1.heap.size (.slice sv i sc) i (Ts.take i) xs (w2.alloc (.cells #[.slice b tl cp] 24)) := HO.out.below (belA B12); have HT3 : TK (Value.ownBlock (.slice sv i sc)) b T (w2.alloc (.cells #[.slice b tl cp] 24)) := (TK.of_og hO2 (fun c e => by have := (HOL.out c e).2; omega)).below (belA (Below.refl _ _)))
            | (at_builtin; refine wpList_append_lies _ rfl (.tmp 52) (.tmp 58) 49 rfl W1.heap.size 24 i24 (.agg #[.slice none 0 0]) 1 24 Try.underlying49 hi24 hz0 hz1 hz2 rfl (by omega) (.slice sv i sc) i xs rfl HO3.1 ⟨w2.heap.size, 0, none⟩ 1 1 [.slice b tl cp] rfl rfl (World.news_of_block (At.new w2 (.cells #[.slice b tl cp] 24 (0, 0)))) (by intro u hu; rw [List.mem_singleton] at hu; rw [hu]; rfl) (by omega) (by unfold maxLen; omega) (by omega) (by rw [World.size_alloc]; omega) _ rfl ?_; intro g7 c7 w7 ho7 hg7 hw7 hl7))
          refine ⟨⟨i + 1, some ⟨g7, 0, none⟩, c7, xs ++ [.slice b tl cp], by omega, ?_, rfl, by go_num, ?_, fun U hU => ?_, ?_⟩, by simp [intOf]; omega⟩
          · rw [tot_take HTI.out, HTL.out]
            congr 1
          · rw [HTT.out, HTL.out]
            rw [HTL.out] at ho7 HO3 HT3
            refine OW.push HO3 HTK.out HT3 ho7 (by rw [← HTL.out]; exact hg7) (fun c e => ?_)
            rcases hw7 with h | h
            · left; rw [h, ← e]; simp [Value.ownBlock]
            · right
              have : g7 = c := by simpa [Value.ownBlock] using e
              rw [World.size_alloc] at h ⊢
              omega
          · rw [HTT.out, List.mem_append, List.mem_singleton] at hU
            rcases hU with hU | rfl
            · exact HALL.out U hU
            · exact HF.out
          · exact (belA (hB.trans (B12.mono hBs))).grown hg7 (by rw [World.size_alloc]; omega) (fun c e => (HOL.out c e).1)
      · have HFIT : Hid (∀ W, Below wr.heap.size wr W → Calls Try.prog 9 #[trV ai tl capi] W fun e w' => e = .returned (.bool false) ∧ Below W.heap.size W w') := hidE fun W hW => fits_any T tl HTL.out.symm false ⟨fun h => (by cases h), fun h => absurd h hF⟩ ai capi W (p3.below hW) hTL
        clear hF hTL p2 p3
        go_wp2_with (first
          | (go_at_call 9; refine (HFIT.out _ (Below.refl _ _)).mono ?_; rintro e w1 ⟨rfl, hb1⟩)
          | (go_at_call 10; refine (awake_true _).mono ?_; rintro e w2 ⟨rfl, hb2⟩))
        exact bodyPost_ret (v := .bool true) (by simp [results, Try.results4, go_sem]) rfl ⟨rfl, below_aft (below_aft Bw hb1) hb2⟩
    · obtain rfl : i = nT := by omega
      have lt : ¬ (i : Int) < (i : Int) := by omega
      have htk : Ts.take i = Ts := List.take_of_length_le (by have := HN.out.1; omega)
      obtain ⟨er, R, R2, hRk, hR2k, h24, h25, h20⟩ := HJA.out (by have := HALL.out; rw [htk] at this; exact this)
      have hOW := HO.out
      rw [htk] at hOW
      have hSm : ∀ T ∈ Ts, Sm T := fun T hT => by
        have hF := HALL.out T (by rw [htk]; exact hT)
        exact (HL.out T hT).sm hF.1 hF.l
      obtain ⟨W0, hW0⟩ : ∃ W0, W0 = wr := ⟨_, rfl⟩
      rw [← hW0] at hB Bw hBs hOW ⊢
      have A0 : At W0 w.heap.size (Ndo nx an ln capn) := A1.below hB
      have HOWN : Hid (∀ W, Below W0.heap.size W0 W → CRow W sv Ts) := hidE fun W hW => (hOW.below hW).crow HN.out.1
      obtain ⟨y0, y1, y2, y3, y4, yf⟩ := A0.nd
      obtain ⟨W2, hW2⟩ : ∃ W2, W2 = W0.alloc (Ndo nx an ln capn) := ⟨_, rfl⟩
      have hs2 : W2.heap.size = W0.heap.size + 1 := by rw [hW2]; simp
      have D2 : At W2 W0.heap.size (Ndo nx an ln capn) := by rw [hW2]; exact At.new _ _
      have B02 : Below W0.heap.size W0 W2 := by rw [hW2]; exact belA (Below.refl _ _)
      have A2 : At W2 w.heap.size (Ndo nx an ln capn) := A0.below B02
      obtain ⟨x0, x1, x2, x3, x4, xf⟩ := (A0.alloc (Ndo nx an ln capn)).nd
      have B2 : Below w.heap.size w W2 := below_aft Bw B02
      have HI2 : Hid (IRow W2 an L) := hidE (HA.out.below B2)
      have HW2 : Hid (W0.alloc (.cells #[.int .u8 (nx.k : Int), .int .i64 nx.p, .int .i64 nx.n, .string (str nx.s), .slice an ln capn] 48) = W2) := hidE hW2.symm
      have hwb : w.heap.size < W0.heap.size := A0.lt
      have HH : Hid ((∀ lo hi W W' v m c, R lo hi W v m c → Keep hi W W' → R lo hi W' v m c) ∧ (∀ lo W W' v m c, R2 lo W v m c → Below W.heap.size W W' → R2 lo W' v m c)) := hidE ⟨hRk, hR2k⟩
      have H24 := hidE h24
      have H25 : Hid (∀ W, Below w.heap.size w W → Calls Try.prog 25 #[ndV nx an ln capn, .slice a i cap] W fun e w' => ∃ v m c, e = .returned (.tuple #[trV v m c, .int .i64 er]) ∧ R2 W.heap.size w' v m c ∧ Below W.heap.size W w') := hidE fun W hW => h25 W (HC.out.below hW)
      have H20 := hidE h20
      have zer : (er != er) = false := by simp
      clear hW2 hW0 hOW htk HO HALL hzt hBs hRk hR2k h24 h25 h20 HJA
      have HB02 : Hid (Below W0.heap.size W0 W2) := hidE B02
      have st1 : Stg' 1 := .mk 1
      go_wp2_with (first
        | (at_builtin; rw [HW2.out]; refine wpList_append_nil _ rfl (.const (.slice none 0 0)) (.tmp 62) 35 rfl i3 Try.underlying35 hi3 hz30 hz31 hz32 rfl an ln capn L rfl HN.out.2 HI2.out (by omega) ?_; intro xa xc w3 ho3 hg3; have D3 : At w3 W0.heap.size (Ndo nx an ln capn) := D2.grown hg3 (by simp); obtain ⟨u0, u1, u2, u3, u4, uf⟩ := D3.nd; obtain ⟨W4, hW4, D4, I4, B04⟩ := copy_done HB02.out hs2 hg3 D3 ho3 HN.out.2; obtain ⟨t0, t1, t2, t3, t4, tf⟩ := D4.nd; have HW4 : Hid (w3.setCell ⟨W0.heap.size, 4, none⟩ (.slice xa ln xc) = W4) := hidE hW4.symm)
        | (have _s := st1; clear st1 _s; go_at_call 24; rw [HW4.out]; refine (H24.out W4 xa xc sv sc (HOWN.out _ B04)).mono ?_; rintro e w5 ⟨v1, m1, c1, rfl, hR1, hb5⟩; have B05 : Below W0.heap.size W0 w5 := below_aft B04 hb5; have D5 := D4.below hb5; obtain ⟨r0, r1, r2, r3, r4, rf⟩ := (D5.alloc (Tro v1 m1 c1)).nd; have st2 : Stg' 2 := .mk 2)
        | (have _s := st2; clear st2 _s; go_at_call 24; refine (H24.out _ xa xc sv sc (HOWN.out _ (belA B05))).mono ?_; rintro e w6 ⟨v2, m2, c2, rfl, hR2, hb6⟩; have B56 : Below w5.heap.size w5 w6 := below_aft (belA (Below.refl _ _)) hb6; have B06 : Below W0.heap.size W0 w6 := below_aft B05 B56; have E6 := (At.new w5 (Tro v1 m1 c1)).below hb6; have A6 := A0.below B06; obtain ⟨q0, q1, q2, q3, q4, qf⟩ := (A6.alloc (Tro v2 m2 c2)).nd)
        | (go_at_call 25; refine (H25.out _ (belA (below_aft Bw B06))).mono ?_; rintro e w7 ⟨v3, m3, c3, rfl, hR3, hb7⟩; have B67 : Below w6.heap.size w6 w7 := below_aft (belA (Below.refl _ _)) hb7; obtain ⟨k0, kf⟩ := ((E6.below B67).alloc (Tro v3 m3 c3)).one; obtain ⟨l0, lf⟩ := (((At.new w6 (Tro v2 m2 c2)).below hb7).alloc (Tro v3 m3 c3)).one)
        | (go_at_call 20; refine (held_all HH.out.1 HH.out.2 H20.out hR1 hb6 hR2 hb7 hR3).mono ?_; rintro e w9 ⟨rfl, hOK⟩))
      obtain ⟨W7, hW7⟩ : ∃ W7, W7 = w7.alloc (Tro v3 m3 c3) := ⟨_, rfl⟩
      have hOK' : OutK W4.heap.size w5.heap.size W7 w9 := by rw [hW7]; exact hOK
      have B47 : Below W4.heap.size W4 W7 := by
        rw [hW7]
        exact below_aft (below_aft (below_aft hb5 B56) B67) (belA (Below.refl _ _))
      have HBL : Hid (∀ W, OutK W4.heap.size w5.heap.size W7 W → Below W4.heap.size W4 W) := hidE fun W hW => B47.trans (hW.low B47.size (Nat.le_refl _))
      have Bw4 : Below w.heap.size w W4 := below_aft Bw B04
      have s4 := Bw4.size
      have HCO : Hid (CRow W4 sv Ts) := hidE (HOWN.out _ B04)
      have HCA : Hid (CRow W4 a Ts) := hidE (HC.out.below Bw4)
      have A4 : At W4 w.heap.size (Ndo nx an ln capn) := A0.below B04
      have HIA : Hid (IRow W4 an L) := hidE (HA.out.below Bw4)
      have HIX : Hid (IRow W4 xa L) := hidE I4
      have HD4 : Hid (At W4 w.heap.size (Ndo nx an ln capn) ∧ At W4 W0.heap.size (Ndo nx xa ln xc)) := hidE ⟨A4, D4⟩
      have HBW : Hid (Below w.heap.size w W4) := hidE Bw4
      have HST : Hid (∀ T ∈ Ts, Sm T) := hidE hSm
      clear hW7 hOK hb5 hb6 hb7 B56 B67 B47 Bw4 A4 I4 D4 D5 E6 A6 B04 B05 B06 hR1 hR2 hR3 x0 x1 x2 x3 x4 xf y0 y1 y2 y3 y4 yf u0 u1 u2 u3 u4 uf t0 t1 t2 t3 t4 tf r0 r1 r2 r3 r4 rf q0 q1 q2 q3 q4 qf k0 kf l0 lf ho3 hg3 D3 D2 A2 B2 hs2 B02 A0 hB Bw H24 H25 H20 HH HOWN HB02 HI2 HW2 HW4
      obtain ⟨lo1, hlo1⟩ : ∃ lo1, lo1 = W4.heap.size := ⟨_, rfl⟩
      obtain ⟨hi1, hhi1⟩ : ∃ hi1, hi1 = w5.heap.size := ⟨_, rfl⟩
      rw [← hlo1, ← hhi1] at hOK'
      have HBL2 : Hid (∀ W, OutK lo1 hi1 W7 W → Below W4.heap.size W4 W) := hidE fun W hW => HBL.out W (by rw [hlo1, hhi1] at hW; exact hW)
      clear hlo1 hhi1 HBL
      go_wp2_with fail
      go_loopw [15] (fun v W => ∃ j : Nat, j ≤ i ∧ v = .int .i64 (j : Int) ∧ OutK lo1 hi1 W7 W) (fun v _ => i - (intOf v).toNat)
      case atStart => exact ⟨0, Nat.zero_le _, rfl, hOK'⟩
      case round =>
        obtain ⟨j, hj, rfl, hOK⟩ := hrel
        clear hOK'
        by_cases hji : j < i
        · obtain ⟨T, hT⟩ : ∃ T, Ts[j]? = some T := ⟨_, List.getElem?_eq_getElem (by have := HN.out.1; omega)⟩
          have sT := HST.out T (List.mem_of_getElem? hT)
          obtain ⟨go, oo, rfl, hgo, hrowo⟩ := HCO.out (by rintro h; rw [h] at hT; simp at hT)
          obtain ⟨gr, orr, rfl, hgr, hrow⟩ := HCA.out (by rintro h; rw [h] at hT; simp at hT)
          obtain ⟨bi, cpi, e1, e2⟩ := hrowo j T hT
          obtain ⟨ai, capi, e3, e4⟩ := hrow j T hT
          obtain ⟨mi, hmi⟩ : ∃ mi, mi = T.length := ⟨_, rfl⟩
          rw [← hmi] at e1 e3
          have HOC : Hid (∀ W, OutK lo1 hi1 W7 W → W.cell? ⟨go, oo + j, none⟩ = some (.slice bi mi cpi)) := hidE fun W hW => ((HBL2.out W hW).cell (p := ⟨go, oo + j, none⟩) hgo).trans e1
          have HRC : Hid (∀ W, OutK lo1 hi1 W7 W → W.cell? ⟨gr, orr + j, none⟩ = some (.slice ai mi capi)) := hidE fun W hW => ((HBL2.out W hW).cell (p := ⟨gr, orr + j, none⟩) hgr).trans e3
          have HEQ : Hid (∀ W, OutK lo1 hi1 W7 W → Calls Try.prog 19 #[trV bi mi cpi, trV ai mi capi, .bool true] W fun e w' => e = .returned (.bool true) ∧ Below W.heap.size W w') := hidE fun W hW => by
            have := req_true T bi ai cpi capi W (e2.below (HBL2.out W hW)) (e4.below (HBL2.out W hW)) sT
            rw [← hmi] at this
            exact this
          have k0 : (0 : Int) ≤ (j : Int) := by omega
          have k1 : (j : Int) < (i : Int) := by omega
          have w3e : IntKind.i64.wrap ((j : Int) + 1) = (j : Int) + 1 := by rw [IntKind.wrap_i64]; omega
          clear hT sT hrow hrowo e1 e2 e3 e4 hmi
          go_wp2_with fail
          refine beginH (S := fun W' => OutK lo1 hi1 W7 W') (fun _ _ _ _ _ h => h) (by kernel_rfl) (hOK.drew') (fun hq hHeld => ?_)
          refine takeH (i := 0) (d := 104) _ hq rfl rfl (by kernel_rfl) (by kernel_rfl) (by kernel_rfl) (by rfl) (fun W hSw => by (go_simp; try rfl)) hHeld ?_
          try simp only [Act.put, List.setIfInBounds_toArray, List.set_cons_zero, List.set_cons_succ]
          refine takeH (i := 1) (d := 105) _ hq rfl rfl (by kernel_rfl) (by kernel_rfl) (by kernel_rfl) (by rfl) (fun W hSw => by (go_simp; try rfl)) hHeld ?_
          try simp only [Act.put, List.setIfInBounds_toArray, List.set_cons_zero, List.set_cons_succ]
          refine takeH (i := 2) (d := 106) (.pointer (some ⟨go, oo + j, none⟩)) hq rfl rfl (by kernel_rfl) (by kernel_rfl) (by kernel_rfl) (by rfl) (fun W hSw => by (go_simp; try rfl)) hHeld ?_
          try simp only [Act.put, List.setIfInBounds_toArray, List.set_cons_zero, List.set_cons_succ]
          refine takeH (i := 3) (d := 107) (trV bi mi cpi) hq rfl rfl (by kernel_rfl) (by kernel_rfl) (by kernel_rfl) (by rfl) (fun W hSw => by (have s1 := HOC.out W hSw; go_simp; try rfl)) hHeld ?_
          try simp only [Act.put, List.setIfInBounds_toArray, List.set_cons_zero, List.set_cons_succ]
          refine takeH (i := 4) (d := 108) _ hq rfl rfl (by kernel_rfl) (by kernel_rfl) (by kernel_rfl) (by rfl) (fun W hSw => by (go_simp; try rfl)) hHeld ?_
          try simp only [Act.put, List.setIfInBounds_toArray, List.set_cons_zero, List.set_cons_succ]
          refine takeH (i := 5) (d := 109) _ hq rfl rfl (by kernel_rfl) (by kernel_rfl) (by kernel_rfl) (by rfl) (fun W hSw => by (go_simp; try rfl)) hHeld ?_
          try simp only [Act.put, List.setIfInBounds_toArray, List.set_cons_zero, List.set_cons_succ]
          refine takeH (i := 6) (d := 110) (.pointer (some ⟨gr, orr + j, none⟩)) hq rfl rfl (by kernel_rfl) (by kernel_rfl) (by kernel_rfl) (by rfl) (fun W hSw => by (go_simp; try rfl)) hHeld ?_
          try simp only [Act.put, List.setIfInBounds_toArray, List.set_cons_zero, List.set_cons_succ]
          refine takeH (i := 7) (d := 111) (trV ai mi capi) hq rfl rfl (by kernel_rfl) (by kernel_rfl) (by kernel_rfl) (by rfl) (fun W hSw => by (have s1 := HRC.out W hSw; go_simp; try rfl)) hHeld ?_
          try simp only [Act.put, List.setIfInBounds_toArray, List.set_cons_zero, List.set_cons_succ]
          refine wpAnyH_ready (rs := [8]) (by kernel_rfl) (by simp) ?_
          refine AllReadyH.cons rfl (fun K hK => ?_) AllReadyH.nil
          go_simp
          refine (HEQ.out _ hOK.drew').mono ?_; rintro e u1 ⟨rfl, hb1⟩; have S1 : OutK lo1 hi1 W7 u1 := hOK.drew'.trans (OutK.below hb1)
          go_wp2_with fail
          refine hK.out _ _ S1 (fun hHeld => ?_)
          clear hK K
          try simp only [Act.put, List.setIfInBounds_toArray, List.set_cons_zero, List.set_cons_succ]
          refine takeH (i := 9) (d := 113) (.bool false) hq rfl rfl (by kernel_rfl) (by kernel_rfl) (by kernel_rfl) (by rfl) (fun W hSw => by (go_simp; try rfl)) hHeld ?_
          try simp only [Act.put, List.setIfInBounds_toArray, List.set_cons_zero, List.set_cons_succ]
          refine wpAnyH_done (by kernel_rfl) ?_ _
          go_wp2_with fail
          exact ⟨⟨j + 1, by omega, by go_num, S1⟩, by simp [intOf]; omega⟩
        · obtain rfl : j = i := by omega
          have lt2 : ¬ (j : Int) < (j : Int) := by omega
          go_wp2_with fail
          go_loopw [16] (fun v W => ∃ k : Nat, k ≤ ln ∧ v = .int .i64 (k : Int) ∧ OutK lo1 hi1 W7 W) (fun v _ => ln - (intOf v).toNat)
          case atStart => exact ⟨0, Nat.zero_le _, rfl, hOK⟩
          case round =>
            obtain ⟨k, hk, rfl, hOK2⟩ := hrel
            clear hOK
            have hOK := hOK2
            clear hOK2
            have HN4 : Hid (∀ W, OutK lo1 hi1 W7 W → W.cell? ⟨w.heap.size, 4, none⟩ = some (.slice an ln capn)) := hidE fun W hW => (HD4.out.1.below (HBL2.out W hW)).nd.2.2.2.2.1
            have HX4 : Hid (∀ W, OutK lo1 hi1 W7 W → W.cell? ⟨W0.heap.size, 4, none⟩ = some (.slice xa ln xc)) := hidE fun W hW => (HD4.out.2.below (HBL2.out W hW)).nd.2.2.2.2.1
            have x4 := HN4.out wr hOK
            by_cases hkl : k < ln
            · obtain ⟨cc, hcc⟩ : ∃ cc, L[k]? = some cc := ⟨_, List.getElem?_eq_getElem (by have := HN.out.2; omega)⟩
              have hne : L ≠ [] := by rintro rfl; simp at hcc
              obtain ⟨gn, onn, rfl, hgn, hcn⟩ := HIA.out hne
              obtain ⟨gx, ox, rfl, hgx, hcx⟩ := HIX.out hne
              have HXC : Hid (∀ W, OutK lo1 hi1 W7 W → W.cell? ⟨gx, ox + k, none⟩ = some (.int .i64 cc)) := hidE fun W hW => ((HBL2.out W hW).cell (p := ⟨gx, ox + k, none⟩) hgx).trans (hcx k cc hcc)
              have HNC : Hid (∀ W, OutK lo1 hi1 W7 W → W.cell? ⟨gn, onn + k, none⟩ = some (.int .i64 cc)) := hidE fun W hW => ((HBL2.out W hW).cell (p := ⟨gn, onn + k, none⟩) hgn).trans (hcn k cc hcc)
              have k0 : (0 : Int) ≤ (k : Int) := by omega
              have k1 : (k : Int) < (ln : Int) := by omega
              have w3e : IntKind.i64.wrap ((k : Int) + 1) = (k : Int) + 1 := by rw [IntKind.wrap_i64]; omega
              clear hcn hcx hcc hne
              go_wp2_with fail
              refine beginH (S := fun W' => OutK lo1 hi1 W7 W') (fun _ _ _ _ _ h => h) (by kernel_rfl) (hOK.drew') (fun hq hHeld => ?_)
              refine takeH (i := 0) (d := 121) _ hq rfl rfl (by kernel_rfl) (by kernel_rfl) (by kernel_rfl) (by rfl) (fun W hSw => by (go_simp; try rfl)) hHeld ?_
              try simp only [Act.put, List.setIfInBounds_toArray, List.set_cons_zero, List.set_cons_succ]
              refine takeH (i := 1) (d := 122) (.slice (some ⟨gx, ox, none⟩) ln xc) hq rfl rfl (by kernel_rfl) (by kernel_rfl) (by kernel_rfl) (by rfl) (fun W hSw => by (have s1 := HX4.out W hSw; go_simp; try rfl)) hHeld ?_
              try simp only [Act.put, List.setIfInBounds_toArray, List.set_cons_zero, List.set_cons_succ]
              refine takeH (i := 2) (d := 123) _ hq rfl rfl (by kernel_rfl) (by kernel_rfl) (by kernel_rfl) (by rfl) (fun W hSw => by (go_simp; try rfl)) hHeld ?_
              try simp only [Act.put, List.setIfInBounds_toArray, List.set_cons_zero, List.set_cons_succ]
              refine takeH (i := 3) (d := 124) (.pointer (some ⟨gx, ox + k, none⟩)) hq rfl rfl (by kernel_rfl) (by kernel_rfl) (by kernel_rfl) (by rfl) (fun W hSw => by (go_simp; try rfl)) hHeld ?_
              try simp only [Act.put, List.setIfInBounds_toArray, List.set_cons_zero, List.set_cons_succ]
              refine takeH (i := 4) (d := 125) (.int .i64 cc) hq rfl rfl (by kernel_rfl) (by kernel_rfl) (by kernel_rfl) (by rfl) (fun W hSw => by (have s1 := HXC.out W hSw; go_simp; try rfl)) hHeld ?_
              try simp only [Act.put, List.setIfInBounds_toArray, List.set_cons_zero, List.set_cons_succ]
              refine takeH (i := 5) (d := 126) _ hq rfl rfl (by kernel_rfl) (by kernel_rfl) (by kernel_rfl) (by rfl) (fun W hSw => by (go_simp; try rfl)) hHeld ?_
              try simp only [Act.put, List.setIfInBounds_toArray, List.set_cons_zero, List.set_cons_succ]
              refine takeH (i := 6) (d := 127) (.slice (some ⟨gn, onn, none⟩) ln capn) hq rfl rfl (by kernel_rfl) (by kernel_rfl) (by kernel_rfl) (by rfl) (fun W hSw => by (have s1 := HN4.out W hSw; go_simp; try rfl)) hHeld ?_
              try simp only [Act.put, List.setIfInBounds_toArray, List.set_cons_zero, List.set_cons_succ]
              refine takeH (i := 7) (d := 128) _ hq rfl rfl (by kernel_rfl) (by kernel_rfl) (by kernel_rfl) (by rfl) (fun W hSw => by (go_simp; try rfl)) hHeld ?_
              try simp only [Act.put, List.setIfInBounds_toArray, List.set_cons_zero, List.set_cons_succ]
              refine takeH (i := 8) (d := 129) (.pointer (some ⟨gn, onn + k, none⟩)) hq rfl rfl (by kernel_rfl) (by kernel_rfl) (by kernel_rfl) (by rfl) (fun W hSw => by (go_simp; try rfl)) hHeld ?_
              try simp only [Act.put, List.setIfInBounds_toArray, List.set_cons_zero, List.set_cons_succ]
              refine takeH (i := 9) (d := 130) (.int .i64 cc) hq rfl rfl (by kernel_rfl) (by kernel_rfl) (by kernel_rfl) (by rfl) (fun W hSw => by (have s1 := HNC.out W hSw; go_simp; try rfl)) hHeld ?_
              try simp only [Act.put, List.setIfInBounds_toArray, List.set_cons_zero, List.set_cons_succ]
              refine takeH (i := 10) (d := 131) (.bool false) hq rfl rfl (by kernel_rfl) (by kernel_rfl) (by kernel_rfl) (by rfl) (fun W hSw => by (go_simp; try simp)) hHeld ?_
              try simp only [Act.put, List.setIfInBounds_toArray, List.set_cons_zero, List.set_cons_succ]
              refine wpAnyH_done (by kernel_rfl) ?_ _
              go_wp2_with fail
              exact ⟨⟨k + 1, by omega, by go_num, hOK.drew'⟩, by simp [intOf]; omega⟩
            · obtain rfl : k = ln := by omega
              have lt3 : ¬ (k : Int) < (k : Int) := by omega
              go_wp2_with (go_at_call 10; refine (awake_true _).mono ?_; rintro e w2 ⟨rfl, hb2⟩)
              exact bodyPost_ret (v := .bool true) (by simp [results, Try.results4, go_sem]) rfl ⟨rfl, below_aft (HBW.out.trans ((HBL2.out _ hOK).mono HBW.out.size)) hb2⟩
end Go.Proofs.Ytkidcmglidnaoaa
