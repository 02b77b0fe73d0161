import Derived.Test.YtkidcmglidnaoaaMI
namespace Go.Proofs.Ytkidcmglidnaoaa
open Go.RowKit Go.Shelf
set_option linter.unusedVariables false
set_option linter.unusedSimpArgs false
theorem owns_lowg {W : World} {lo lo' e sz n : Nat} {v : Value} {xs : List Value} (h : W.ownsRow lo e sz v n xs) (hl : lo' ≤ lo) : W.ownsRow lo' e sz v n xs := by
  refine ⟨h.1, ?_⟩
  rcases h.2 with hn | ⟨g', cap', cur', rfl, e1, e2⟩
  · exact .inl hn
  · exact .inr ⟨g', cap', cur', rfl, Nat.le_trans hl e1, e2⟩
theorem OG.low {lo lo' : Nat} {W : World} {v : Value} {T : List Nd} {ys : List Value} (h : OG lo W v T ys) (hl : lo' ≤ lo) : OG lo' W v T ys :=
  ⟨owns_lowg h.row hl, fun i d hd => by
    obtain ⟨u, h1, h2, h3⟩ := h.nd i d hd
    exact ⟨u, h1, owns_lowg h2 hl, h3⟩⟩
theorem OG.below {lo : Nat} {W W' : World} {v : Value} {T : List Nd} {ys : List Value} (h : OG lo W v T ys) (hb : Below W.heap.size W W') : OG lo W' v T ys := h.range hb.size (fun b _ hb' => hb.block b hb')
/-- The reference's own copy. -/
theorem rown_tree (T : List Nd) (a : Option Addr) (cap : Nat) (w : World) (hT : TAt w a T) (hS : Sm T) :
    Calls Try.prog 11 #[trV a T.length cap] w fun e w' => ∃ b cp, e = .returned (trV b T.length cp) ∧ T.length ≤ cp ∧ TAt w' b T ∧ Below w.heap.size w w' := by
  refine (rown_any T a cap w hT hS).mono ?_
  rintro e w' ⟨v, ys, rfl, hO, hB⟩
  obtain ⟨b, cp, rfl, hc⟩ := hO.form
  exact ⟨b, cp, rfl, hc, hO.tat, hB⟩
theorem news_one (w : World) (v : Value) : ∀ j u, ([v] : List Value)[j]? = some u → (w.alloc (.cells #[v] 3)).drew.cell? ((⟨w.heap.size, 0, none⟩ : Addr).add j) = some u :=
  World.news_of_block (w := (w.alloc (.cells #[v] 3)).drew) (heap_alloc_new w _)
theorem ones_one (i : Int) : ∀ u ∈ ([.int .i64 i] : List Value), u.oneCell' = true := by
  intro u hu
  rw [List.mem_singleton] at hu
  rw [hu]; rfl
theorem seg_at {T : List Nd} {y : Nx} {e0 : Fo} {n : Nat} (h : (T.drop n).take (1 + e0.size) = (Fo.cons y e0 .nil).flat (0 + n)) : T[n]? = some ⟨y, e0.starts (n + 1)⟩ ∧ (T.drop (n + 1)).take e0.size = e0.flat (n + 1) := by
  simp only [Fo.flat, Nat.zero_add, List.append_nil] at h
  have h0 : ((T.drop n).take (1 + e0.size))[0]? = some ⟨y, e0.starts (n + 1)⟩ := by rw [h]; rfl
  have h1 : ((T.drop n).take (1 + e0.size)).drop 1 = e0.flat (n + 1) := by rw [h]; rfl
  refine ⟨?_, ?_⟩
  · rw [List.getElem?_take] at h0
    simp at h0
    exact h0.2
  · rw [List.drop_take, List.drop_drop] at h1
    rw [← h1]
    congr 1
    omega
theorem part_nd {x : Nx} {c : Fo} {T : List Nd} {n : Nat} {y : Nx} {e0 : Fo} {dd : Nat} (hP : Part x c T n y e0 dd) {j : Nat} {d : Nd} (hj : j < 1 + e0.size) (hd : T[n + j]? = some d) : ((Fo.cons y e0 .nil).flat 0)[j]? = some (Fo.mv (-(n : Int)) d) := by
  rw [← seg_front (x := y) (c := e0) hP.seg, List.getElem?_map, List.getElem?_take, List.getElem?_drop, hd]
  simp [hj]
set_option maxRecDepth 100000 in
set_option maxHeartbeats 8000000 in
theorem rsub_yes (x : Nx) (c : Fo) (T : List Nd) (hTe : T = (Fo.cons x c .nil).flat 0) (hMay : Mayb okP T) (n : Nat) (y : Nx) (e0 : Fo) (dd : Nat) (hP : Part x c T n y e0 dd) (a : Option Addr) (cap : Nat) (w : World) (hT : TAt w a T) (hS : Sm T) :
    Calls Try.prog 27 #[trV a T.length cap, .int .i64 n] w fun e w' => ∃ v ys, e = .returned (.tuple #[.agg #[v], .int .i64 0]) ∧ OG w.heap.size w' v ((Fo.cons y e0 .nil).flat 0) ys ∧ Below w.heap.size w w' := by
  obtain ⟨i0, hi, hz0, hz1, hz2⟩ := info_parts Try.info48
  obtain ⟨i3, hi3, hz30, hz31, hz32⟩ := info_parts Try.info3
  have hTn := hS.n
  obtain ⟨m, hm⟩ : ∃ m, m = 1 + e0.size := ⟨_, rfl⟩
  have hlen := hP.len
  obtain ⟨T', hT'⟩ : ∃ T', T' = (Fo.cons y e0 .nil).flat 0 := ⟨_, rfl⟩
  have hl' : T'.length = m := by rw [hT', Fo.len_flat, hm]; simp [Fo.size]
  have HND : Hid (∀ j d, j < m → T[n + j]? = some d → T'[j]? = some (Fo.mv (-(n : Int)) d)) := hidE fun j d hj hd => by rw [hT']; exact part_nd hP (by omega) hd
  have HKD : Hid (∀ d ∈ T, ∀ q ∈ d.l, 0 ≤ q ∧ q ≤ 20000) := hidE fun d hd q hq => by
    have h1 := (flat_kids _ 0 d (by rw [← hTe]; exact hd)).1 q hq
    have h2 : T.length = (Fo.cons x c .nil).size := by rw [hTe, Fo.len_flat]
    omega
  obtain ⟨tn, htn⟩ : ∃ tn, tn = T.length := ⟨_, rfl⟩
  have HM : Hid (∀ W, Below w.heap.size w W → Calls Try.prog 48 #[trV a tn cap] W fun e w' => e = .returned (.bool true) ∧ Below W.heap.size W w') := hidE fun W hW => by rw [htn]; exact rmay_yes (hT.below hW) hS hMay
  have HEND : Hid (∀ W, Below w.heap.size w W → Calls Try.prog 50 #[trV a tn cap, .int .i64 (n : Int)] W fun e w' => e = .returned (.int .i64 ((n + m : Nat) : Int)) ∧ Below W.heap.size W w') := hidE fun W hW => by
    have hs := seg_at hP.seg
    have := rend_any T a cap hS (e0.size + 1) n y e0 W (by omega) (hT.below hW) hs.1 hs.2 hlen
    rw [show n + 1 + e0.size = n + m by omega, ← htn] at this
    exact this
  rw [← hT', ← htn]
  rw [← htn] at hTn hlen
  have HN : Hid (tn = T.length) := hidE htn
  have HT : Hid (TAt w a T) := hidE hT
  have HS : Hid (Sm T) := hidE hS
  have HLT : Hid (T'.length = m) := hidE hl'
  have hnm : n + m ≤ tn := by omega
  have hm1 : 1 ≤ m := by omega
  obtain ⟨W2, hW2⟩ : ∃ W2, W2 = (w.alloc (Tro a tn cap)).alloc (Tro none 0 0) := ⟨_, rfl⟩
  have B2 : Below w.heap.size w W2 := by rw [hW2]; exact belA (belA (Below.refl _ _))
  have A1 : At W2 w.heap.size (Tro a tn cap) := by rw [hW2]; exact at_fst _ _ _
  have A2 : At W2 (w.heap.size + 1) (Tro none 0 0) := by rw [hW2]; exact at_snd _ _ _
  have HW2 : Hid ((w.alloc (.cells #[.slice a tn cap] 24)).alloc (.cells #[.slice none 0 0] 24) = W2) := hidE hW2.symm
  have z1 : ¬ (n : Int) < 0 := by omega
  have z1' : decide ((n : Int) < 0) = false := decide_eq_false z1
  have z2 : ¬ (tn : Int) ≤ (n : Int) := by omega
  have z2' : decide ((tn : Int) ≤ (n : Int)) = false := decide_eq_false z2
  clear hW2 hT hS htn hT' hl' hP hTe hMay hm hlen
  go_enter Try.func27, Try.ntmps27
  go_wp2_with (go_at_call 48; rw [HW2.out]; refine (HM.out _ B2).mono ?_; rintro e w1 ⟨rfl, hb1⟩; obtain ⟨y0, yf⟩ := (A1.below hb1).one)
  have B1 : Below w.heap.size w w1 := below_aft B2 hb1
  have D1 := A1.below hb1
  have D2 := A2.below hb1
  have hsz1 : w.heap.size + 1 < w1.heap.size := D2.lt
  clear hb1 A1 A2 HW2 B2 HM y0 yf
  obtain ⟨W3, hW3⟩ : ∃ W3, W3 = w1.alloc (Tro none 0 0) := ⟨_, rfl⟩
  have A1 : At W3 w.heap.size (Tro a tn cap) := by rw [hW3]; exact D1.alloc _
  have A2 : At W3 (w.heap.size + 1) (Tro none 0 0) := by rw [hW3]; exact D2.alloc _
  have A3 : At W3 w1.heap.size (Tro none 0 0) := by rw [hW3]; exact At.new _ _
  have B3 : Below w.heap.size w W3 := by rw [hW3]; exact belA B1
  have HW3 : Hid (w1.alloc (.cells #[.slice none 0 0] 24) = W3) := hidE hW3.symm
  clear hW3 D1 D2 B1
  try rw [HW3.out]
  obtain ⟨lo, hlo⟩ : ∃ lo, lo = w1.heap.size := ⟨_, rfl⟩
  rw [← hlo] at A3 hsz1 ⊢
  clear hlo HW3
  go_loopw [7] (fun v W => ∃ (j q : Nat) (sv : Option Addr) (sc : Nat) (ys : List Value), q = n + j ∧ j ≤ m ∧ v = .int .i64 (q : Int) ∧ OG (lo + 1) W (.slice sv j sc) (T'.take j) ys ∧ At W w.heap.size (Tro a tn cap) ∧ At W (w.heap.size + 1) (Tro none 0 0) ∧ At W lo (Tro sv j sc) ∧ Below w.heap.size w W) (fun v _ => n + m - (intOf v).toNat)
  case atStart => exact ⟨0, n, none, 0, [], rfl, Nat.zero_le _, rfl, OG.nil _ _, A1, A2, A3, B3⟩
  case round =>
    obtain ⟨j, q, sv, sc, ys, hq, hj, rfl, hO, a1, a2, a3, hB⟩ := hrel
    clear A1 A2 A3 B3
    have hHB : Hid (Below w.heap.size w wr) := hidE hB
    have HO : Hid (OG (lo + 1) wr (.slice sv j sc) (T'.take j) ys) := hidE hO
    have HA := hidE (And.intro a1 (And.intro a2 a3))
    have hlb := a3.lt
    obtain ⟨x0, xf⟩ := a1.one
    clear hB hO a1 a2 a3
    by_cases hjm : j < m
    · have z5 : (q : Int) < (n : Int) + (m : Int) := by omega
      have hit : q < T.length := by have := HN.out; omega
      obtain ⟨d, hd⟩ : ∃ d, T[q]? = some d := ⟨_, List.getElem?_eq_getElem hit⟩
      have hdl := (HS.out.d d (List.mem_of_getElem? hd)).l
      have HLC : Hid (∀ c ∈ d.l, 0 ≤ c ∧ c ≤ 20000) := hidE (HKD.out d (List.mem_of_getElem? hd))
      obtain ⟨gt, ot, rfl, hrow⟩ := HT.out (by rintro rfl; simp at hit)
      obtain ⟨q0, q1, q2, q3, q4, al, capl, q5, q6⟩ := hrow q d hd
      have HND' : Hid (T'[j]? = some (Fo.mv (-(n : Int)) d)) := hidE (HND.out j d hjm (by rw [← hq]; exact hd))
      obtain ⟨x, L⟩ := d
      obtain ⟨M, hM⟩ : ∃ M, M = L.length := ⟨_, rfl⟩
      dsimp only at q1 q2 q3 q4 q5 q6 hdl HLC
      rw [← hM] at q5 hdl
      obtain ⟨L', hL'⟩ : ∃ L', L' = L.map (· + -(n : Int)) := ⟨_, rfl⟩
      have HD : Hid (T'.take (j + 1) = T'.take j ++ [⟨x, L'⟩]) := hidE (by rw [List.take_add_one, HND'.out, hL']; rfl)
      have HL2 : Hid (∀ (k : Nat) (cc : Int), L[k]? = some cc → L'.take (k + 1) = L'.take k ++ [cc - (n : Int)]) := hidE fun k cc hk => by
        rw [List.take_add_one, hL', List.getElem?_map, hk]
        rfl
      have HLEN' : Hid (L'.length = M) := hidE (by rw [hL', List.length_map, hM])
      have HLEN : Hid (M = L.length) := hidE hM
      have HIR : Hid (IRow w al L) := hidE q6
      have HTL : Hid ((T'.take j).length = j) := hidE (by rw [List.length_take, HLT.out]; omega)
      have k0 : (0 : Int) ≤ (q : Int) := by omega
      have k1 : (q : Int) < (tn : Int) := by omega
      have w3 : IntKind.i64.wrap ((q : Int) + 1) = (q : Int) + 1 := by rw [IntKind.wrap_i64]; omega
      have HQ : Hid (q = n + j) := hidE hq
      clear hrow hd hit q6 hM hL' HND' hq
      go_wp2_with (go_at_call 50; refine (HEND.out _ hHB.out).mono ?_; rintro e wq ⟨rfl, hbq⟩; have Bq : Below w.heap.size w wq := below_aft hHB.out hbq; obtain ⟨y0, yf⟩ := (HA.out.1.below hbq).one; have p1 := (Bq.cell q0).trans q1; have p2 := (Bq.cell q0).trans q2; have p3 := (Bq.cell q0).trans q3; have p4 := (Bq.cell q0).trans q4; have p5 := (Bq.cell q0).trans q5)
      have hqq := hbq.size
      obtain ⟨bx, hbx⟩ : ∃ bx, bx = wq.heap.size := ⟨_, rfl⟩
      obtain ⟨W6, hW6⟩ : ∃ W6, W6 = wq.alloc (Ndo x none 0 0) := ⟨_, rfl⟩
      have D6 : At W6 bx (Ndo x none 0 0) := by rw [hW6, hbx]; exact At.new _ _
      have K6 : Keep bx wq W6 := by rw [hW6]; exact Keep.alloc _ _ (by omega)
      have B6 : Below w.heap.size w W6 := by rw [hW6]; exact belA Bq
      have HW6 : Hid (wq.alloc (.cells #[.int .u8 (x.k : Int), .int .i64 x.p, .int .i64 x.n, .string (str x.s), .slice none 0 0] 48) = W6) := hidE hW6.symm
      have HOq : Hid (OG (lo + 1) wq (.slice sv j sc) (T'.take j) ys) := hidE (HO.out.below hbq)
      have HAq := hidE (And.intro (HA.out.1.below hbq) (And.intro (HA.out.2.1.below hbq) (HA.out.2.2.below hbq)))
      have hbxl : lo < bx := by omega
      clear hW6 y0 yf p1 p2 p3 p4 p5 x0 xf HO HA hHB hbq
      rw [HW6.out]
      rw [← hbx]
      have HBX : Hid (bx = wq.heap.size) := hidE hbx
      clear hbx HW6
      go_loopw [9] (fun v W => ∃ (k : Nat) (ua : Option Addr) (uc : Nat), k ≤ M ∧ v = .int .i64 (k : Int) ∧ At W bx (Ndo x ua k uc) ∧ W.ownsRow (bx + 1) 3 1 (.slice ua k uc) k (iCells (L'.take k)) ∧ Keep bx wq W ∧ Below w.heap.size w W) (fun v _ => M - (intOf v).toNat)
      case atStart => exact ⟨0, none, 0, Nat.zero_le _, rfl, D6, ⟨rfl, .inl ⟨rfl, rfl⟩⟩, K6, B6⟩
      case round =>
        obtain ⟨k, ua, uc, hk, rfl, hDx, hR, hK, hB⟩ := hrel
        clear D6 K6 B6
        have HBi : Hid (Below w.heap.size w wr) := hidE hB
        have HKi : Hid (Keep bx wq wr) := hidE hK
        have hbw := hK.size
        have hbxw := hDx.lt
        have hwb : w.heap.size + 1 < bx := by omega
        obtain ⟨x0, xf⟩ := (show At wr w.heap.size (Tro (some ⟨gt, ot, none⟩) tn cap) from (hK.same _ (by omega)).trans HAq.out.1).one
        replace q5 := (hB.cell q0).trans q5
        have hgt0 : gt < bx := by omega
        obtain ⟨y0, y1, y2, y3, y4, yf⟩ := hDx.nd
        by_cases hkm : k < M
        · obtain ⟨gl, ol, rfl, hgl, hrl⟩ := HIR.out (by rintro rfl; have := HLEN.out; simp at this; omega)
          obtain ⟨cc, hcc⟩ : ∃ cc, L[k]? = some cc := ⟨_, List.getElem?_eq_getElem (by have := HLEN.out; omega)⟩
          have hcb := HLC.out cc (List.mem_of_getElem? hcc)
          have lc := (hB.cell hgl).trans (hrl k cc hcc)
          have HL1 : Hid (iCells (L'.take (k + 1)) = iCells (L'.take k) ++ [.int .i64 (cc - (n : Int))]) := hidE (by rw [HL2.out k cc hcc]; simp [iCells])
          have hgl0 : gl < bx := by omega
          have k2 : (0 : Int) ≤ (k : Int) := by omega
          have k3 : (k : Int) < (M : Int) := by omega
          have w4 : IntKind.i64.wrap ((k : Int) + 1) = (k : Int) + 1 := by rw [IntKind.wrap_i64]; omega
          have w5 : IntKind.i64.wrap (cc - (n : Int)) = cc - (n : Int) := by rw [IntKind.wrap_i64]; omega
          have hbw0 : w.heap.size ≤ bx := by omega
          clear hB hK hrl hcc y0 y1 y2 y3 hcb
          go_wp2
          refine beginH (S := fun w' => Keep bx wr w') (fun _ _ _ _ _ h => h) (by kernel_rfl) (Keep.drew _ _) (fun hq hHeld => ?_)
          refine takeH (i := 0) (d := 50) _ hq rfl rfl (by kernel_rfl) (by kernel_rfl) (by kernel_rfl) (by rfl) (fun W hSw => by (go_simp; try rfl)) hHeld ?_
          try simp only [Act.put, List.setIfInBounds_toArray, List.set_cons_zero, List.set_cons_succ]
          refine takeH (i := 2) (d := 52) _ hq rfl rfl (by kernel_rfl) (by kernel_rfl) (by kernel_rfl) (by rfl) (fun W hSw => by (go_simp; try rfl)) hHeld ?_
          try simp only [Act.put, List.setIfInBounds_toArray, List.set_cons_zero, List.set_cons_succ]
          refine takeH (i := 3) (d := 53) _ hq rfl rfl (by kernel_rfl) (by kernel_rfl) (by kernel_rfl) (by rfl) (fun W hSw => by (have s1 := (hSw.cell (b := w.heap.size) (o := 0) (by omega)).trans x0; go_simp; try rfl)) hHeld ?_
          try simp only [Act.put, List.setIfInBounds_toArray, List.set_cons_zero, List.set_cons_succ]
          refine takeH (i := 4) (d := 54) _ hq rfl rfl (by kernel_rfl) (by kernel_rfl) (by kernel_rfl) (by rfl) (fun W hSw => by (go_simp; try rfl)) hHeld ?_
          try simp only [Act.put, List.setIfInBounds_toArray, List.set_cons_zero, List.set_cons_succ]
          refine takeH (i := 5) (d := 55) (.pointer (some ⟨gt, ot + q * 5, none⟩)) hq rfl rfl (by kernel_rfl) (by kernel_rfl) (by kernel_rfl) (by rfl) (fun W hSw => by (go_simp; try rfl)) hHeld ?_
          try simp only [Act.put, List.setIfInBounds_toArray, List.set_cons_zero, List.set_cons_succ]
          refine takeH (i := 6) (d := 56) _ hq rfl rfl (by kernel_rfl) (by kernel_rfl) (by kernel_rfl) (by rfl) (fun W hSw => by (go_simp; try rfl)) hHeld ?_
          try simp only [Act.put, List.setIfInBounds_toArray, List.set_cons_zero, List.set_cons_succ]
          refine takeH (i := 7) (d := 57) _ hq rfl rfl (by kernel_rfl) (by kernel_rfl) (by kernel_rfl) (by rfl) (fun W hSw => by (have s1 := (hSw.cell (b := gt) (o := ot + q * 5 + 4) (by omega)).trans q5; go_simp; try rfl)) hHeld ?_
          try simp only [Act.put, List.setIfInBounds_toArray, List.set_cons_zero, List.set_cons_succ]
          refine takeH (i := 8) (d := 58) _ hq rfl rfl (by kernel_rfl) (by kernel_rfl) (by kernel_rfl) (by rfl) (fun W hSw => by (go_simp; try rfl)) hHeld ?_
          try simp only [Act.put, List.setIfInBounds_toArray, List.set_cons_zero, List.set_cons_succ]
          refine takeH (i := 9) (d := 59) (.pointer (some ⟨gl, ol + k, none⟩)) hq rfl rfl (by kernel_rfl) (by kernel_rfl) (by kernel_rfl) (by rfl) (fun W hSw => by (go_simp; try rfl)) hHeld ?_
          try simp only [Act.put, List.setIfInBounds_toArray, List.set_cons_zero, List.set_cons_succ]
          refine takeH (i := 10) (d := 60) _ hq rfl rfl (by kernel_rfl) (by kernel_rfl) (by kernel_rfl) (by rfl) (fun W hSw => by (have s1 := (hSw.cell (b := gl) (o := ol + k) (by omega)).trans lc; go_simp; try rfl)) hHeld ?_
          try simp only [Act.put, List.setIfInBounds_toArray, List.set_cons_zero, List.set_cons_succ]
          refine takeH (i := 11) (d := 61) _ hq rfl rfl (by kernel_rfl) (by kernel_rfl) (by kernel_rfl) (by rfl) (fun W hSw => by (go_simp; try rfl)) hHeld ?_
          try simp only [Act.put, List.setIfInBounds_toArray, List.set_cons_zero, List.set_cons_succ]
          refine takeH (i := 12) (d := 62) (.int .i64 (cc - (n : Int))) hq rfl rfl (by kernel_rfl) (by kernel_rfl) (by kernel_rfl) (by rfl) (fun W hSw => by (go_simp; try rfl)) hHeld ?_
          try simp only [Act.put, List.setIfInBounds_toArray, List.set_cons_zero, List.set_cons_succ]
          refine wpAnyH_ready (rs := [1, 13]) (by kernel_rfl) (by simp) ?_
          refine AllReadyH.cons rfl (fun K hK => ?_) (AllReadyH.cons rfl (fun K hK => ?_) AllReadyH.nil)
          · go_simp
            go_wp2_with fail
            refine hK.out _ _ (Keep.drew _ _) (fun hHeld => ?_)
            clear hK K
            try simp only [Act.put, List.setIfInBounds_toArray, List.set_cons_zero, List.set_cons_succ]
            refine wpAnyH_ready (rs := [13]) (by kernel_rfl) (by simp) ?_
            refine AllReadyH.cons rfl (fun K hK => ?_) AllReadyH.nil
            go_simp
            go_wp2_with fail
            refine hK.out _ _ ((Keep.alloc wr _ (by omega)).trans (Keep.drew _ _)) (fun hHeld => ?_)
            clear hK K
            try simp only [Act.put, List.setIfInBounds_toArray, List.set_cons_zero, List.set_cons_succ]
            have HRA : Hid ((wr.alloc (.cells #[.int .i64 (cc - (n : Int))] 3)).drew.ownsRow (bx + 1) 3 1 (.slice ua k uc) k (iCells (L'.take k))) := hidE (owns_rng hR (fun b _ hb => Below.heap_alloc wr _ b hb))
            refine wpAnyH_ready (rs := [14]) (by kernel_rfl) (by simp) ?_
            refine AllReadyH.cons rfl (fun K hK => ?_) AllReadyH.nil
            refine wp_append_lies _ (.tmp 51) (.tmp 63) 35 rfl (bx + 1) 3 i3 (.int .i64 0) 1 8 Try.underlying35 hi3 hz30 hz31 hz32 rfl (by omega) (.slice ua k uc) k (iCells (L'.take k)) rfl HRA.out ⟨wr.heap.size, 0, none⟩ 1 1 [.int .i64 (cc - (n : Int))] rfl rfl (news_one wr _) (ones_one _) (by omega) (by unfold maxLen; omega) (by omega) (by show _ ≤ (wr.alloc _).heap.size; simp; omega) _ rfl ?_
            intro g7 c7 w7 ho7 hg7 hw7 hl7
            have hne : ∀ b, b < bx + 1 → some b ≠ Value.ownBlock (.slice ua k uc) := fun b hb e => by have := (hR.lt b e.symm).1; omega
            have K7 : Keep bx wr w7 := ⟨by have h7 : (wr.alloc (.cells #[.int .i64 (cc - (n : Int))] 3)).heap.size ≤ w7.heap.size := hg7.size; rw [World.size_alloc] at h7; omega, fun b hb => (hg7.block b (by show b < (wr.alloc _).heap.size; simp; omega) (hne b (by omega))).trans (Below.heap_alloc wr _ b (by omega))⟩
            have D7 : At w7 bx (Ndo x ua k uc) := (show At (wr.alloc (.cells #[.int .i64 (cc - (n : Int))] 3)).drew bx (Ndo x ua k uc) from hDx.alloc _).grown hg7 (hne bx (by omega))
            refine hK.out _ _ K7 (fun hHeld => ?_)
            clear hK K
            try simp only [Act.put, List.setIfInBounds_toArray, List.set_cons_zero, List.set_cons_succ]
            refine takeH (i := 15) (d := 65) _ hq rfl rfl (by kernel_rfl) (by kernel_rfl) (by kernel_rfl) (by rfl) (fun W hSw => by (go_simp; try rfl)) hHeld ?_
            try simp only [Act.put, List.setIfInBounds_toArray, List.set_cons_zero, List.set_cons_succ]
            obtain ⟨z0, z1, z2, z3, z4, zf⟩ := D7.nd
            refine wpAnyH_ready (rs := [16]) (by kernel_rfl) (by simp) ?_
            refine AllReadyH.cons rfl (fun K hK => ?_) AllReadyH.nil
            go_simp
            go_wp2_with fail
            obtain ⟨W8, hW8⟩ : ∃ W8, W8 = w7.setCell ⟨bx, 4, none⟩ (.slice (some ⟨g7, 0, none⟩) (k + 1) c7) := ⟨_, rfl⟩
            have K8 : Keep bx wr W8 := by
              rw [hW8]
              exact ⟨by rw [World.size_setCell]; exact K7.size, fun b hb => (Below.heap_setCell _ _ _ b (by show b ≠ bx; omega)).trans (K7.same b hb)⟩
            refine hK.out _ _ (hW8 ▸ K8) (fun hHeld => ?_)
            clear hK K
            try simp only [Act.put, List.setIfInBounds_toArray, List.set_cons_zero, List.set_cons_succ]
            refine wpAnyH_done (by kernel_rfl) ?_ _
            rw [← hW8]
            have D8 : At W8 bx (Ndo x (some ⟨g7, 0, none⟩) (k + 1) c7) := by rw [hW8]; exact D7.nd4 _ _ _
            have R8 : W8.ownsRow (bx + 1) 3 1 (.slice (some ⟨g7, 0, none⟩) (k + 1) c7) (k + 1) (iCells (L'.take (k + 1))) := by
              rw [hW8, HL1.out]
              exact ho7.kept (grown_set (grown_refl w7 (some bx)) 4 _) (.inr (by have := (ho7.lt g7 rfl).1; simp [Value.ownBlock]; omega))
            have B8 : Below w.heap.size w W8 := by
              rw [hW8]
              exact ((belA HBi.out).drew.grown hg7 (by show w.heap.size ≤ (wr.alloc _).heap.size; simp; omega) (fun b e => by have := (hR.lt b e).1; omega)).setCell (by show w.heap.size ≤ bx; omega) _
            have KK : Keep bx wq W8 := HKi.out.trans K8
            clear hW8 K7 K8 D7 z0 z1 z2 z3 z4 zf hHeld ho7 hg7 hl7
            go_wp2_with fail
            exact ⟨⟨k + 1, _, _, by omega, by go_num, D8, R8, KK, B8⟩, by simp [intOf]; omega⟩
          · go_simp
            go_wp2_with fail
            refine hK.out _ _ ((Keep.alloc wr _ (by omega)).trans (Keep.drew _ _)) (fun hHeld => ?_)
            clear hK K
            try simp only [Act.put, List.setIfInBounds_toArray, List.set_cons_zero, List.set_cons_succ]
            refine wpAnyH_ready (rs := [1]) (by kernel_rfl) (by simp) ?_
            refine AllReadyH.cons rfl (fun K hK => ?_) AllReadyH.nil
            go_simp
            go_wp2_with fail
            refine hK.out _ _ ((Keep.alloc wr _ (by omega)).trans (Keep.drew _ _)) (fun hHeld => ?_)
            clear hK K
            try simp only [Act.put, List.setIfInBounds_toArray, List.set_cons_zero, List.set_cons_succ]
            have HRA : Hid ((wr.alloc (.cells #[.int .i64 (cc - (n : Int))] 3)).drew.ownsRow (bx + 1) 3 1 (.slice ua k uc) k (iCells (L'.take k))) := hidE (owns_rng hR (fun b _ hb => Below.heap_alloc wr _ b hb))
            refine wpAnyH_ready (rs := [14]) (by kernel_rfl) (by simp) ?_
            refine AllReadyH.cons rfl (fun K hK => ?_) AllReadyH.nil
            refine wp_append_lies _ (.tmp 51) (.tmp 63) 35 rfl (bx + 1) 3 i3 (.int .i64 0) 1 8 Try.underlying35 hi3 hz30 hz31 hz32 rfl (by omega) (.slice ua k uc) k (iCells (L'.take k)) rfl HRA.out ⟨wr.heap.size, 0, none⟩ 1 1 [.int .i64 (cc - (n : Int))] rfl rfl (news_one wr _) (ones_one _) (by omega) (by unfold maxLen; omega) (by omega) (by show _ ≤ (wr.alloc _).heap.size; simp; omega) _ rfl ?_
            intro g7 c7 w7 ho7 hg7 hw7 hl7
            have hne : ∀ b, b < bx + 1 → some b ≠ Value.ownBlock (.slice ua k uc) := fun b hb e => by have := (hR.lt b e.symm).1; omega
            have K7 : Keep bx wr w7 := ⟨by have h7 : (wr.alloc (.cells #[.int .i64 (cc - (n : Int))] 3)).heap.size ≤ w7.heap.size := hg7.size; rw [World.size_alloc] at h7; omega, fun b hb => (hg7.block b (by show b < (wr.alloc _).heap.size; simp; omega) (hne b (by omega))).trans (Below.heap_alloc wr _ b (by omega))⟩
            have D7 : At w7 bx (Ndo x ua k uc) := (show At (wr.alloc (.cells #[.int .i64 (cc - (n : Int))] 3)).drew bx (Ndo x ua k uc) from hDx.alloc _).grown hg7 (hne bx (by omega))
            refine hK.out _ _ K7 (fun hHeld => ?_)
            clear hK K
            try simp only [Act.put, List.setIfInBounds_toArray, List.set_cons_zero, List.set_cons_succ]
            refine takeH (i := 15) (d := 65) _ hq rfl rfl (by kernel_rfl) (by kernel_rfl) (by kernel_rfl) (by rfl) (fun W hSw => by (go_simp; try rfl)) hHeld ?_
            try simp only [Act.put, List.setIfInBounds_toArray, List.set_cons_zero, List.set_cons_succ]
            obtain ⟨z0, z1, z2, z3, z4, zf⟩ := D7.nd
            refine wpAnyH_ready (rs := [16]) (by kernel_rfl) (by simp) ?_
            refine AllReadyH.cons rfl (fun K hK => ?_) AllReadyH.nil
            go_simp
            go_wp2_with fail
            obtain ⟨W8, hW8⟩ : ∃ W8, W8 = w7.setCell ⟨bx, 4, none⟩ (.slice (some ⟨g7, 0, none⟩) (k + 1) c7) := ⟨_, rfl⟩
            have K8 : Keep bx wr W8 := by
              rw [hW8]
              exact ⟨by rw [World.size_setCell]; exact K7.size, fun b hb => (Below.heap_setCell _ _ _ b (by show b ≠ bx; omega)).trans (K7.same b hb)⟩
            refine hK.out _ _ (hW8 ▸ K8) (fun hHeld => ?_)
            clear hK K
            try simp only [Act.put, List.setIfInBounds_toArray, List.set_cons_zero, List.set_cons_succ]
            refine wpAnyH_done (by kernel_rfl) ?_ _
            rw [← hW8]
            have D8 : At W8 bx (Ndo x (some ⟨g7, 0, none⟩) (k + 1) c7) := by rw [hW8]; exact D7.nd4 _ _ _
            have R8 : W8.ownsRow (bx + 1) 3 1 (.slice (some ⟨g7, 0, none⟩) (k + 1) c7) (k + 1) (iCells (L'.take (k + 1))) := by
              rw [hW8, HL1.out]
              exact ho7.kept (grown_set (grown_refl w7 (some bx)) 4 _) (.inr (by have := (ho7.lt g7 rfl).1; simp [Value.ownBlock]; omega))
            have B8 : Below w.heap.size w W8 := by
              rw [hW8]
              exact ((belA HBi.out).drew.grown hg7 (by show w.heap.size ≤ (wr.alloc _).heap.size; simp; omega) (fun b e => by have := (hR.lt b e).1; omega)).setCell (by show w.heap.size ≤ bx; omega) _
            have KK : Keep bx wq W8 := HKi.out.trans K8
            clear hW8 K7 K8 D7 z0 z1 z2 z3 z4 zf hHeld ho7 hg7 hl7
            go_wp2_with fail
            exact ⟨⟨k + 1, _, _, by omega, by go_num, D8, R8, KK, B8⟩, by simp [intOf]; omega⟩
        · obtain rfl : k = M := by omega
          have k3 : ¬ (k : Int) < (k : Int) := by omega
          have htk : L'.take k = L' := List.take_of_length_le (by rw [HLEN'.out]; exact Nat.le_refl _)
          rw [htk] at hR
          obtain ⟨W9, hW9⟩ : ∃ W9, W9 = wr.alloc (Ndo x ua k uc) := ⟨_, rfl⟩
          have hs9 : W9.heap.size = wr.heap.size + 1 := by rw [hW9]; simp
          have K89 : Keep wr.heap.size wr W9 := by rw [hW9]; exact Keep.alloc _ _ (Nat.le_refl _)
          have D9 : At W9 wr.heap.size (Ndo x ua k uc) := by rw [hW9]; exact At.new _ _
          have B9 : Below w.heap.size w W9 := by rw [hW9]; exact belA hB
          have K9 : Keep bx wq W9 := hK.trans ⟨K89.size, fun b hb => K89.same b (by omega)⟩
          have O9 : OG (lo + 1) W9 (.slice sv j sc) (T'.take j) ys := HOq.out.range (by have := HBX.out; omega) (fun b _ hb => K9.same b (by have := HBX.out; omega))
          have U9 : W9.ownsRow (bx + 1) 3 1 (.slice ua k uc) k (iCells L') := by rw [hW9]; exact owns_rng hR (fun b _ hb => Below.heap_alloc wr _ b hb)
          have a3' : At wr lo (Tro sv j sc) := (hK.same _ (by omega)).trans HAq.out.2.2
          obtain ⟨c0, f0⟩ := a3'.one
          have HW9 : Hid (wr.alloc (.cells #[.int .u8 (x.k : Int), .int .i64 x.p, .int .i64 x.n, .string (str x.s), .slice ua k uc] 48) = W9) := hidE hW9.symm
          have HO9 : Hid (OG (lo + 1) W9 (.slice sv j sc) (T'.take j) ys) := hidE O9
          have HU9 : Hid (W9.ownsRow (bx + 1) 3 1 (.slice ua k uc) k (iCells L')) := hidE U9
          have HD9 : Hid (At W9 wr.heap.size (Ndo x ua k uc)) := hidE D9
          have HB9 : Hid (Below w.heap.size w W9) := hidE B9
          have HK9 : Hid (Keep bx wq W9) := hidE K9
          have HROW : Hid (W9.ownsRow (lo + 1) 48 5 (.slice sv j sc) j ys) := hidE (by have := O9.row; rw [HTL.out] at this; exact this)
          have HSV : Hid (∀ b, Value.ownBlock (.slice sv j sc) = some b → b < bx) := hidE fun b e => by have := (HOq.out.row.lt b e).2; have := HBX.out; omega
          have HA9 : Hid (At W9 lo (Tro sv j sc)) := hidE ((K9.same _ (by omega)).trans HAq.out.2.2)
          have HUB : Hid (∀ b, Value.ownBlock (.slice ua k uc) = some b → bx + 1 ≤ b ∧ b < W9.heap.size) := hidE fun b e => U9.lt b e
          clear hW9 K89 D9 B9 O9 U9 a3' hDx hR htk hK hB K9
          go_wp2_with (first
            | (at_builtin; rw [HW9.out]; refine wpList_append_lies _ rfl (.tmp 67) (.tmp 69) 22 rfl (lo + 1) 48 i0 (.agg #[.int .u8 0, .int .i64 0, .int .i64 0, .string ⟨#[]⟩, .slice none 0 0]) 5 64 Try.underlying22 hi hz0 hz1 hz2 rfl (by omega) (.slice sv j sc) j ys rfl HROW.out ⟨wr.heap.size, 0, none⟩ 1 1 (ndL x (.slice ua k uc)) rfl rfl (news_nd HD9.out) (ones_nd _ _ _ _) (by omega) (by unfold maxLen; omega) (by omega) (by omega) W9.heap.size rfl ?_; intro gg cc w10 ho10 hg10 hw10 hl10; have A10 : At w10 lo (Tro sv j sc) := HA9.out.grown hg10 (fun e => by have := (HROW.out.lt _ e.symm).1; omega); obtain ⟨e0, ef⟩ := A10.one))
          have S1 : OG (lo + 1) w10 (.slice (some ⟨gg, 0, none⟩) (j + 1) cc) (T'.take j ++ [⟨x, L'⟩]) (ys ++ ndL x (.slice ua k uc)) := by
            refine OG.push (d := ⟨x, L'⟩) HO9.out (owns_low (show W9.ownsRow (bx + 1) 3 1 _ L'.length (iCells L') by rw [HLEN'.out]; exact HU9.out) (by omega)) (fun b e => ⟨fun e' => ?_, ?_⟩) (by rw [HTL.out]; exact ho10) hg10 (fun b e => ?_)
            · have h1 := HSV.out b e'
              have h2 := (HUB.out b e).1
              omega
            · exact (HUB.out b e).2
            · rcases hw10 with h | h
              · left; rw [h, ← e]; simp [Value.ownBlock]
              · right
                have : gg = b := by simpa [Value.ownBlock] using e
                omega
          have G10 : ∀ b o, b < lo + 1 → At W9 b o → At w10 b o := fun b o hb h => h.grown hg10 (fun e => by have := (HROW.out.lt _ e.symm).1; omega)
          have S2 : OG (lo + 1) (w10.setCell ⟨lo, 0, none⟩ (.slice (some ⟨gg, 0, none⟩) (j + 1) cc)) (.slice (some ⟨gg, 0, none⟩) (j + 1) cc) (T'.take (j + 1)) (ys ++ ndL x (.slice ua k uc)) := by
            rw [HD.out]
            exact S1.range (by simp) (fun b hb _ => Below.heap_setCell _ _ _ b (by show b ≠ lo; omega))
          refine ⟨⟨j + 1, by omega, by have := HQ.out; omega, _, _, ⟨_, S2⟩, ?_, ?_, A10.setOne _, ?_⟩, by simp [intOf]; have := HQ.out; omega⟩
          · exact (G10 _ _ (by omega) ((HK9.out.same _ (by omega)).trans HAq.out.1)).set (by show w.heap.size ≠ lo; omega) _
          · exact (G10 _ _ (by omega) ((HK9.out.same _ (by omega)).trans HAq.out.2.1)).set (by show w.heap.size + 1 ≠ lo; omega) _
          · exact (HB9.out.grown hg10 (by omega) (fun b e => by have := (HROW.out.lt b e).1; omega)).setCell (by show w.heap.size ≤ lo; omega) _
    · obtain rfl : j = m := by omega
      have z5 : ¬ (q : Int) < (n : Int) + (j : Int) := by omega
      go_wp2_with (go_at_call 50; refine (HEND.out _ hHB.out).mono ?_; rintro e wq ⟨rfl, hbq⟩; obtain ⟨y0, yf⟩ := (HA.out.2.1.below hbq).one; obtain ⟨v0, vf⟩ := (HA.out.2.2.below hbq).one)
      have r5 := ((HA.out.2.1.below hbq).setOne (.slice sv j sc)).one.1
      have Bq : Below w.heap.size w wq := below_aft hHB.out hbq
      have htk : T'.take j = T' := List.take_of_length_le (by rw [HLT.out]; exact Nat.le_refl _)
      have hO := HO.out.below hbq
      rw [htk] at hO
      refine bodyPost_ret (v := .tuple #[trV sv j sc, .int .i64 0]) (by simp [results, Try.results27, go_sem, r5]) rfl ⟨.slice sv j sc, ys, rfl, (hO.range (by simp) (fun b hb _ => Below.heap_setCell _ _ _ b (by show b ≠ w.heap.size + 1; omega))).low (by omega), Bq.setCell (by show w.heap.size ≤ w.heap.size + 1; omega) _⟩
end Go.Proofs.Ytkidcmglidnaoaa
