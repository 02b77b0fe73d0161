import Derived.Test.YtkidcmglidnaoaaZh
namespace Go.Proofs.Ytkidcmglidnaoaa
open Go.RowKit
set_option linter.unusedVariables false
set_option linter.unusedSimpArgs false

/-- What a node says of itself is Go's. -/
structure SmX (x : Nx) : Prop where
  k : x.k ≤ 255
  p0 : -9223372036854775808 ≤ x.p
  p1 : x.p ≤ 9223372036854775807
  n0 : -9223372036854775808 ≤ x.n
  n1 : x.n ≤ 9223372036854775807
  s : x.s.length ≤ maxLen
theorem SmN.x {d : Nd} (h : SmN d) : SmX d.x := ⟨h.k, h.p0, h.p1, h.n0, h.n1, h.s⟩
theorem xs_flat (f : Fo) (P : Nx → Prop) : ∀ o o', (∀ d ∈ f.flat o, P d.x) → ∀ d ∈ f.flat o', P d.x := by
  induction f with
  | nil => intro o o' _ d h; simp [Fo.flat] at h
  | cons x c r ihc ihr =>
    intro o o' ha d h
    simp only [Fo.flat, List.mem_cons, List.mem_append] at h ha
    rcases h with rfl | h | h
    · exact ha ⟨x, c.starts (o + 1)⟩ (.inl rfl)
    · exact ihc _ _ (fun d hd => ha d (.inr (.inl hd))) d h
    · exact ihr _ _ (fun d hd => ha d (.inr (.inr hd))) d h
theorem sm_flat {f : Fo} (hx : ∀ d ∈ f.flat 0, SmX d.x) (hl : f.size ≤ 20000) : Sm (f.flat 0) := by
  refine ⟨by rw [Fo.len_flat]; exact hl, fun d hd => ?_⟩
  have h := hx d hd
  obtain ⟨k1, k2⟩ := flat_kids f 0 d hd
  exact ⟨h.k, h.p0, h.p1, h.n0, h.n1, h.s, by omega, fun c hc => by have := k1 c hc; omega⟩
theorem fo_xs {Fs : List (Nx × Fo)} (P : Nx → Prop) (h : ∀ f ∈ Fs, ∀ d ∈ tr f, P d.x) : ∀ o, ∀ d ∈ (fo Fs).flat o, P d.x := by
  induction Fs with
  | nil => intro o d hd; simp [fo, Fo.flat] at hd
  | cons f Fs ih =>
    intro o d hd
    obtain ⟨x, c⟩ := f
    have h0 := h (x, c) (by simp)
    have ih' := ih (fun f hf => h f (by simp [hf]))
    simp only [fo, Fo.flat, List.mem_cons, List.mem_append] at hd
    rcases hd with rfl | hd | hd
    · exact h0 ⟨x, c.starts (0 + 1)⟩ (by simp only [tr, Fo.flat, List.mem_cons]; exact .inl trivial)
    · refine xs_flat c P 1 _ (fun d hd => h0 d ?_) d hd
      simp only [tr, Fo.flat, List.mem_cons, List.mem_append]
      exact .inr (.inl hd)
    · exact ih' _ d hd
theorem may_forests : ∀ (Ts : List (List Nd)), (∀ T ∈ Ts, Mayb okP T) → ∃ Fs : List (Nx × Fo), Ts = Fs.map tr ∧ ∀ f ∈ Fs, (Fo.cons f.1 f.2 .nil).all okP = true ∧ (Fo.cons f.1 f.2 .nil).deep ≤ 48
  | [], _ => ⟨[], rfl, fun f h => by simp at h⟩
  | T :: Ts, h => by
    obtain ⟨Fs, h1, h2⟩ := may_forests Ts (fun T hT => h T (by simp [hT]))
    obtain ⟨x, c, k1, k2, k3, k4⟩ := h T (by simp)
    refine ⟨(x, c) :: Fs, by simp only [List.map_cons, h1]; rw [k1], fun f hf => ?_⟩
    simp only [List.mem_cons] at hf
    rcases hf with rfl | hf
    · exact ⟨k2, k3⟩
    · exact h2 f hf
/-- How many nodes trees have together. -/
def tot : List (List Nd) → Nat
  | [] => 0
  | T :: Ts => T.length + tot Ts
theorem tot_fo (Fs : List (Nx × Fo)) : tot (Fs.map tr) = (fo Fs).size := by
  induction Fs with
  | nil => rfl
  | cons f Fs ih => obtain ⟨x, c⟩ := f; simp only [List.map_cons, tot, fo, Fo.size, ih, tr_len]
theorem tot_take {Ts : List (List Nd)} {k : Nat} {T : List Nd} (h : Ts[k]? = some T) : tot (Ts.take (k + 1)) = tot (Ts.take k) + T.length := by
  induction Ts generalizing k with
  | nil => simp at h
  | cons U Ts ih =>
    cases k with
    | zero => simp at h; subst h; simp [tot]
    | succ k => simp only [List.take_succ_cons, tot]; rw [ih (by simpa using h)]; omega
theorem tot_le {Ts : List (List Nd)} (h : ∀ T ∈ Ts, T.length ≤ 20000) : ∀ k, tot (Ts.take k) ≤ k * 20000 := by
  induction Ts with
  | nil => intro k; simp [tot]
  | cons U Ts ih =>
    intro k
    cases k with
    | zero => simp [tot]
    | succ k =>
      simp only [List.take_succ_cons, tot]
      have := ih (fun T hT => h T (by simp [hT])) k
      have := h U (by simp)
      omega
/-- What Join answers. -/
def JoinPost (w : World) (nx : Nx) (Ts : List (List Nd)) (e : Ending) (w' : World) : Prop :=
  Below w.heap.size w w' ∧
  (((¬ ∀ T ∈ Ts, Mayb okP T) ∧ e = .returned (.tuple #[trV none 0 0, .int .i64 2])) ∨
   ∃ Fs : List (Nx × Fo), Ts = Fs.map tr ∧ (∀ f ∈ Fs, (Fo.cons f.1 f.2 .nil).all okP = true ∧ (Fo.cons f.1 f.2 .nil).deep ≤ 48) ∧
     ((16384 < 1 + (fo Fs).size ∧ e = .returned (.tuple #[trV none 0 0, .int .i64 3])) ∨
      (1 + (fo Fs).size ≤ 16384 ∧
        ((ckE okP (.cons nx (fo Fs) .nil) ≠ 0 ∧ e = .returned (.tuple #[trV none 0 0, .int .i64 (ckE okP (.cons nx (fo Fs) .nil))])) ∨
         (ckE okP (.cons nx (fo Fs) .nil) = 0 ∧ ∃ g cur, e = .returned (.tuple #[trV (some ⟨g, 0, none⟩) (1 + (fo Fs).size) (1 + (fo Fs).size), .int .i64 0]) ∧ OC w' w.heap.size w'.heap.size g (1 + (fo Fs).size) ((Fo.cons nx (fo Fs) .nil).flat 0) (1 + (fo Fs).size) cur)))))
set_option maxRecDepth 100000 in
set_option maxHeartbeats 8000000 in
theorem join_any (nx : Nx) (hx : SmX nx) (hxs : nx.s.length ≤ 140737488355328) (an : Option Addr) (ln capn : Nat) (Ts : List (List Nd)) (nT : Nat) (hnT : Ts.length = nT) (a : Option Addr) (cap : Nat) (w : World) (hC : CRow w a Ts) (hS : ∀ T ∈ Ts, Sm T) (hfl : nT ≤ 20000) :
    Calls Try.prog 24 #[ndV nx an ln capn, .slice a nT cap] w (JoinPost w nx Ts) := by
  obtain ⟨W2, hW2⟩ : ∃ W2, W2 = (w.alloc (Ndo nx an ln capn)).alloc (Tro none 0 0) := ⟨_, rfl⟩
  have B2 : Below w.heap.size w W2 := by rw [hW2]; exact belA (belA (Below.refl _ _))
  have A1 : At W2 w.heap.size (Ndo nx an ln capn) := by rw [hW2]; exact at_fst _ _ _
  have A2 : At W2 (w.heap.size + 1) (Tro none 0 0) := by rw [hW2]; exact at_snd _ _ _
  have HW2 : Hid ((w.alloc (.cells #[.int .u8 (nx.k : Int), .int .i64 nx.p, .int .i64 nx.n, .string (str nx.s), .slice an ln capn] 48)).alloc (.cells #[.slice none 0 0] 24) = W2) := hW2.symm
  have HC : Hid (CRow w a Ts) := hC
  have HS : Hid (∀ T ∈ Ts, Sm T) := hS
  have HN : Hid (Ts.length = nT) := hnT
  clear hW2 hC hS hnT
  go_enter Try.func24, Try.ntmps24
  go_wp2
  rw [HW2.out]
  go_loopw [6, 14] (fun cn i W => ∃ k : Nat, k ≤ nT ∧ i = .int .i64 k ∧ cn = .int .i64 (1 + (tot (Ts.take k) : Int)) ∧ (∀ T ∈ Ts.take k, Mayb okP T) ∧ At W w.heap.size (Ndo nx an ln capn) ∧ At W (w.heap.size + 1) (Tro none 0 0) ∧ Below w.heap.size w W) (fun _ i _ => nT - (intOf i).toNat)
  case atStart => exact ⟨0, Nat.zero_le _, rfl, by simp [tot], fun T h => by simp at h, A1, A2, B2⟩
  case round =>
    obtain ⟨k, hk, rfl, rfl, hall, a1, a2, hB⟩ := hrel
    have HALL : Hid (∀ T ∈ Ts.take k, Mayb okP T) := hall
    clear hall A1 A2 B2
    have htot : tot (Ts.take k) ≤ k * 20000 := tot_le (fun T hT => (HS.out T hT).n) k
    by_cases hlt : k < nT
    · have hlt' : k < Ts.length := by rw [HN.out]; exact hlt
      obtain ⟨T, hT⟩ : ∃ T, Ts[k]? = some T := ⟨_, List.getElem?_eq_getElem hlt'⟩
      have hTm := List.mem_of_getElem? hT
      have hTS := HS.out T hTm
      have hTn := hTS.n
      obtain ⟨gt, ot, rfl, hgt, hrow⟩ := HC.out (by rintro h; rw [h] at hlt'; simp at hlt')
      obtain ⟨ai, capi, q1, q2⟩ := hrow k T hT
      replace q1 := (hB.cell (p := ⟨gt, ot + k, none⟩) hgt).trans q1
      have k0 : (0 : Int) ≤ (k : Int) := by omega
      have k1 : (k : Int) < (nT : Int) := by omega
      have w3e : IntKind.i64.wrap ((k : Int) + 1) = (k : Int) + 1 := by rw [IntKind.wrap_i64]; omega
      have w4e : IntKind.i64.wrap (1 + (tot (Ts.take k) : Int) + (T.length : Int)) = 1 + (tot (Ts.take k) : Int) + (T.length : Int) := by rw [IntKind.wrap_i64]; omega
      have Bb : Below w.heap.size w (wr.alloc (Tro ai T.length capi)) := belA hB
      have Ab := At.new wr (Tro ai T.length capi)
      have HT : Hid (Ts[k]? = some T) := hT
      have hz1 := a1.lt
      have hz2 := a2.lt
      clear hrow hT hlt'
      by_cases hM : Mayb okP T
      · have HM : Hid (∀ W, Below w.heap.size w W → Calls Try.prog 14 #[trV ai T.length capi] W fun e w' => e = .returned (.bool true) ∧ Below W.heap.size W w') := fun W hW => may_yes (q2.below hW) hTS hM
        have HMM : Hid (Mayb okP T) := hM
        clear hM hTS
        go_wp2_with (go_at_call 14; refine (HM.out _ Bb).mono ?_; rintro e w1 ⟨rfl, hb1⟩; obtain ⟨x0, xf⟩ := (Ab.below hb1).one)
        refine ⟨⟨k + 1, by omega, by go_num, ?_, fun U hU => ?_, (a1.alloc _).below hb1, (a2.alloc _).below hb1, below_aft Bb hb1⟩, by simp [intOf]; omega⟩
        · rw [tot_take HT.out]
          congr 1
          omega
        · rw [List.take_add_one, HT.out] at hU
          simp only [List.mem_append, Option.toList_some, List.mem_singleton] at hU
          rcases hU with hU | rfl
          · exact HALL.out U hU
          · exact HMM.out
      · have HM : Hid (∀ W, Below w.heap.size w W → Calls Try.prog 14 #[trV ai T.length capi] W fun e w' => e = .returned (.bool false) ∧ Below W.heap.size W w') := fun W hW => may_no (q2.below hW) hTS hM
        have HMM : Hid (¬ Mayb okP T) := hM
        clear hM hTS
        go_wp2_with (go_at_call 14; refine (HM.out _ Bb).mono ?_; rintro e w1 ⟨rfl, hb1⟩; obtain ⟨x0, xf⟩ := ((a2.alloc _).below hb1).one)
        have r5 := (((a2.alloc (Tro ai T.length capi)).below hb1).setOne (.slice none 0 0)).one.1
        refine bodyPost_ret (v := .tuple #[trV none 0 0, .int .i64 2]) (by simp [results, Try.results24, go_sem, r5]) rfl ⟨(below_aft Bb hb1).setCell (by simp) _, .inl ⟨fun h => HMM.out (h T (List.mem_of_getElem? HT.out)), rfl⟩⟩
    · obtain rfl : k = nT := by omega
      rw [List.take_of_length_le (by rw [HN.out]; exact Nat.le_refl _)] at htot ⊢
      have hall : ∀ T ∈ Ts, Mayb okP T := fun T hT => HALL.out T (by rw [List.take_of_length_le (by rw [HN.out]; exact Nat.le_refl _)]; exact hT)
      obtain ⟨Fs, hFs, hok⟩ := may_forests Ts hall
      have htf : tot Ts = (fo Fs).size := by rw [hFs, tot_fo]
      rw [htf] at htot ⊢
      obtain ⟨cnt, hcnt⟩ : ∃ cnt, cnt = 1 + (fo Fs).size := ⟨_, rfl⟩
      have hci : (1 : Int) + ((fo Fs).size : Int) = (cnt : Int) := by omega
      rw [hci]
      have HFS : Hid (Ts = Fs.map tr ∧ ∀ f ∈ Fs, (Fo.cons f.1 f.2 .nil).all okP = true ∧ (Fo.cons f.1 f.2 .nil).deep ≤ 48) := ⟨hFs, hok⟩
      have HCN : Hid (cnt = 1 + (fo Fs).size) := hcnt
      clear hFs hok htf hci htot hall hcnt
      obtain ⟨y0, y1, y2, y3, y4, yf⟩ := a1.nd
      by_cases hbig : 16384 < cnt
      · have z1 : (16384 : Int) < (cnt : Int) := by omega
        obtain ⟨r0, rf⟩ := a2.one
        go_wp2
        have r5 := (a2.setOne (.slice none 0 0)).one.1
        refine bodyPost_ret (v := .tuple #[trV none 0 0, .int .i64 3]) (by simp [results, Try.results24, go_sem, r5]) rfl ⟨hB.setCell (by simp) _, .inr ⟨Fs, HFS.out.1, HFS.out.2, .inl ⟨by rw [← HCN.out]; exact hbig, rfl⟩⟩⟩
      · have z1 : ¬ (16384 : Int) < (cnt : Int) := by omega
        have HLD : Hid (∀ W, Below w.heap.size w W → Calls Try.prog 47 #[ndV nx an ln capn, .int .i64 cnt, .slice a k cap] W fun e w' => ∃ g cur, e = .returned (trV (some ⟨g, 0, none⟩) cnt cnt) ∧ OC w' W.heap.size w'.heap.size g cnt ((Fo.cons nx (fo Fs) .nil).flat 0) cnt cur ∧ Below W.heap.size W w') := fun W hW => by
          refine laid_any nx an ln capn Fs k (by rw [← HN.out, HFS.out.1]; simp) cnt a cap W ?_ HCN.out (by omega) hxs (fun f hf => (HFS.out.2 f hf).1) hfl
          rw [← HFS.out.1]
          exact HC.out.below hW
        have hsm : Sm ((Fo.cons nx (fo Fs) .nil).flat 0) := by
          refine sm_flat (fun d hd => ?_) (by simp only [Fo.size]; have := HCN.out; omega)
          simp only [Fo.flat, List.append_nil, List.mem_cons] at hd
          rcases hd with rfl | hd
          · exact hx
          · exact fo_xs SmX (fun f hf d hd => ((HS.out (tr f) (by rw [HFS.out.1]; exact List.mem_map_of_mem hf)).d d hd).x) _ d hd
        have hTl : ((Fo.cons nx (fo Fs) .nil).flat 0).length = cnt := by rw [Fo.len_flat]; simp only [Fo.size]; have := HCN.out; omega
        have HCK : Hid (∀ W aa cc, TAt W aa ((Fo.cons nx (fo Fs) .nil).flat 0) → Calls Try.prog 12 #[trV aa cnt cc] W fun e w' => (∃ n : Int, e = .returned (.tuple #[.int .i64 n, .int .i64 (ckE okP (.cons nx (fo Fs) .nil))])) ∧ Below W.heap.size W w') := fun W aa cc hT => by
          have := check_any _ aa cc W hT hsm
          rw [hTl] at this
          refine this.mono ?_
          rintro e w' ⟨⟨n, v, he, hv⟩, hb⟩
          have hv' := hv.whole (by have := HCN.out; omega)
          subst hv'
          exact ⟨⟨n, he⟩, hb⟩
        obtain ⟨ev, hev⟩ : ∃ ev, ev = ckE okP (.cons nx (fo Fs) .nil) := ⟨_, rfl⟩
        rw [← hev] at HCK
        have HEV : Hid (ev = ckE okP (.cons nx (fo Fs) .nil)) := hev
        have HTL : Hid (((Fo.cons nx (fo Fs) .nil).flat 0).length = cnt) := hTl
        clear hev hsm hTl
        by_cases he0 : ev = 0
        · subst he0
          go_wp2_with (first
            | (go_at_call 47; refine (HLD.out _ hB).mono ?_; rintro e w1 ⟨g, cur, rfl, hO, hb1⟩; obtain ⟨v0, vf⟩ := (At.new w1 (Tro (some ⟨g, 0, none⟩) cnt cnt)).one)
            | (go_at_call 12; refine (HCK.out _ _ _ ((hO.tat HTL.out).below (belA (Below.refl _ w1) (o := Tro (some ⟨g, 0, none⟩) cnt cnt)))).mono ?_; rintro e w3 ⟨⟨q, rfl⟩, hb3⟩; obtain ⟨x0, xf⟩ := ((At.new w1 (Tro (some ⟨g, 0, none⟩) cnt cnt)).below hb3).one; obtain ⟨r0, rf⟩ := (((a2.below hb1).alloc _).below hb3).one))
          have A5 := ((a2.below hb1).alloc (Tro (some ⟨g, 0, none⟩) cnt cnt)).below hb3
          have r5 := (A5.setOne (.slice (some ⟨g, 0, none⟩) cnt cnt)).one.1
          have B5 := below_aft (belA (below_aft hB hb1)) hb3
          refine bodyPost_ret (v := .tuple #[trV (some ⟨g, 0, none⟩) cnt cnt, .int .i64 0]) (by simp [results, Try.results24, go_sem, r5]) rfl ⟨B5.setCell (by simp) _, .inr ⟨Fs, HFS.out.1, HFS.out.2, .inr ⟨by rw [← HCN.out]; omega, .inr ⟨HEV.out.symm, g, cur, by rw [← HCN.out], ?_⟩⟩⟩⟩
          rw [← HCN.out, World.size_setCell]
          have hz2 := a2.lt
          have hBs := hB.size
          have k3 : Keep w1.heap.size w1 w3 := (Keep.alloc w1 _ (Nat.le_refl _)).trans (Keep.below hb3 (by simp))
          exact ((hO.keep k3).range (fun b hb _ => Below.heap_setCell _ _ _ b (by show b ≠ w.heap.size + 1; omega))).low hBs |>.grow k3.size
        · have heb : (ev == 0) = false := by simpa using he0
          go_wp2_with (first
            | (go_at_call 47; refine (HLD.out _ hB).mono ?_; rintro e w1 ⟨g, cur, rfl, hO, hb1⟩; obtain ⟨v0, vf⟩ := (At.new w1 (Tro (some ⟨g, 0, none⟩) cnt cnt)).one)
            | (go_at_call 12; refine (HCK.out _ _ _ ((hO.tat HTL.out).below (belA (Below.refl _ w1) (o := Tro (some ⟨g, 0, none⟩) cnt cnt)))).mono ?_; rintro e w3 ⟨⟨q, rfl⟩, hb3⟩; obtain ⟨r0, rf⟩ := (((a2.below hb1).alloc _).below hb3).one))
          have A5 := ((a2.below hb1).alloc (Tro (some ⟨g, 0, none⟩) cnt cnt)).below hb3
          have r5 := (A5.setOne (.slice none 0 0)).one.1
          have B5 := below_aft (belA (below_aft hB hb1)) hb3
          refine bodyPost_ret (v := .tuple #[trV none 0 0, .int .i64 ev]) (by simp [results, Try.results24, go_sem, r5]) rfl ⟨B5.setCell (by simp) _, .inr ⟨Fs, HFS.out.1, HFS.out.2, .inr ⟨by rw [← HCN.out]; omega, .inl ⟨by rw [← HEV.out]; exact he0, by rw [HEV.out]⟩⟩⟩⟩
end Go.Proofs.Ytkidcmglidnaoaa
namespace Go.Proofs.Ytkidcmglidnaoaa
open Go.RowKit
set_option linter.unusedVariables false
set_option linter.unusedSimpArgs false

/-- The nodes of awake. -/
abbrev n5 : Nx := ⟨24, 0, 5, []⟩
abbrev ng : Nx := ⟨30, 0, 0, []⟩
abbrev f5 : Fo := .cons n5 .nil .nil
abbrev fg : Fo := .cons ng f5 .nil
theorem emS_nil : emS [] = true := by unfold emS; rw [str_toList]; rfl
theorem ok5 : okP n5 [] = true := by
  have h1 : txB 24 [] = true := by rw [tx_other (by decide) (by decide) (by decide) (by decide)]; exact emS_nil
  unfold okP
  rw [h1]
  decide
theorem okg (ks : List Nat) : okP ng ks = turn ks [kExpr] := by
  have h1 : txB 30 [] = true := by rw [tx_other (by decide) (by decide) (by decide) (by decide)]; exact emS_nil
  unfold okP
  rw [h1]
  have h2 : (decide (0 ≤ ng.p) && true && nuB ng.k ng.n) = true := by decide
  rw [h2, Bool.true_and]
  rfl
theorem all5 : f5.all okP = true := by
  simp only [Fo.all, Fo.kinds, ok5, Bool.and_true]
theorem allg : fg.all okP = true := by
  simp only [Fo.all, Fo.kinds, ok5, okg, Bool.and_true]
  decide
theorem ck5 : ckE okP f5 = 0 := by unfold ckE; rw [if_pos all5]; decide
theorem ckg : ckE okP fg = 0 := by unfold ckE; rw [if_pos allg]; decide
theorem ckn : ckE okP (.cons ng .nil .nil) = 30 := by
  unfold ckE
  rw [if_neg]
  simp only [Fo.all, Fo.kinds, okg]
  decide
theorem sx5 : SmX n5 := ⟨by decide, by decide, by decide, by decide, by decide, by decide⟩
theorem sxg : SmX ng := ⟨by decide, by decide, by decide, by decide, by decide, by decide⟩
theorem sm5 : Sm (f5.flat 0) := sm_flat (fun d hd => by simp only [Fo.flat, List.append_nil, List.mem_singleton] at hd; rw [hd]; exact sx5) (by decide)
theorem smg : Sm (fg.flat 0) := sm_flat (fun d hd => by simp only [Fo.flat, List.append_nil, List.mem_cons, List.not_mem_nil, or_false] at hd; rcases hd with rfl | rfl; exact sxg; exact sx5) (by decide)
theorem may5 : Mayb okP (f5.flat 0) := ⟨n5, .nil, rfl, all5, by decide, by decide⟩
theorem mayg : Mayb okP (fg.flat 0) := ⟨ng, f5, rfl, allg, by decide, by decide⟩
/-- Join of a node alone. -/
theorem join_leaf (nx : Nx) (hx : SmX nx) (hxs : nx.s.length ≤ 140737488355328) (an : Option Addr) (ln capn : Nat) (w : World) (h0 : ckE okP (.cons nx .nil .nil) = 0) :
    Calls Try.prog 24 #[ndV nx an ln capn, .slice none 0 0] w fun e w' => ∃ g cur, e = .returned (.tuple #[trV (some ⟨g, 0, none⟩) 1 1, .int .i64 0]) ∧ OC w' w.heap.size w'.heap.size g 1 ((Fo.cons nx .nil .nil).flat 0) 1 cur ∧ Below w.heap.size w w' := by
  refine (join_any nx hx hxs an ln capn [] 0 rfl none 0 w (fun h => absurd rfl h) (fun T h => by simp at h) (by omega)).mono ?_
  rintro e w' ⟨hb, ⟨h, _⟩ | ⟨Fs, h1, h2, h3⟩⟩
  · exact absurd (fun T hT => by simp at hT) h
  · have hF : Fs = [] := by cases Fs with | nil => rfl | cons => simp at h1
    subst hF
    rcases h3 with ⟨h, _⟩ | ⟨_, ⟨h, _⟩ | ⟨_, g, cur, he, hO⟩⟩
    · simp [fo, Fo.size] at h
    · exact absurd h0 h
    · exact ⟨g, cur, he, hO, hb⟩
theorem join_leaf_bad (nx : Nx) (hx : SmX nx) (hxs : nx.s.length ≤ 140737488355328) (an : Option Addr) (ln capn : Nat) (w : World) {v : Int} (hv : v ≠ 0) (h0 : ckE okP (.cons nx .nil .nil) = v) :
    Calls Try.prog 24 #[ndV nx an ln capn, .slice none 0 0] w fun e w' => e = .returned (.tuple #[trV none 0 0, .int .i64 v]) ∧ Below w.heap.size w w' := by
  refine (join_any nx hx hxs an ln capn [] 0 rfl none 0 w (fun h => absurd rfl h) (fun T h => by simp at h) (by omega)).mono ?_
  rintro e w' ⟨hb, ⟨h, _⟩ | ⟨Fs, h1, h2, h3⟩⟩
  · exact absurd (fun T hT => by simp at hT) h
  · have hF : Fs = [] := by cases Fs with | nil => rfl | cons => simp at h1
    subst hF
    rcases h3 with ⟨h, _⟩ | ⟨_, ⟨h, he⟩ | ⟨h, _⟩⟩
    · simp [fo, Fo.size] at h
    · exact ⟨by rw [he]; show Ending.returned (.tuple #[trV none 0 0, .int .i64 (ckE okP (.cons nx .nil .nil))]) = _; rw [h0], hb⟩
    · exact absurd (h0.symm.trans h) hv
/-- A list of one tree that was just laid. -/
theorem crow_new (W : World) (b : Nat) (hb : W.heap.size = b) (ai : Option Addr) (c : Nat) (T : List Nd) (hT : TAt W ai T) : CRow (W.alloc (.cells #[.slice ai T.length c] 24)) (some ⟨b, 0, none⟩) [T] := fun _ => by
  subst hb
  refine ⟨W.heap.size, 0, rfl, by simp, fun i U hU => ?_⟩
  cases i with
  | zero =>
    simp at hU
    subst hU
    exact ⟨ai, c, (At.new W (.cells #[.slice ai T.length c] 24)).one.1, hT.below (belA (Below.refl _ _))⟩
  | succ i => simp at hU
theorem join_one (nx : Nx) (hx : SmX nx) (hxs : nx.s.length ≤ 140737488355328) (an : Option Addr) (ln capn : Nat) (x : Nx) (c : Fo) (hS : Sm ((Fo.cons x c .nil).flat 0)) (hM : Mayb okP ((Fo.cons x c .nil).flat 0)) (hl : 2 + c.size ≤ 16384) (h0 : ckE okP (.cons nx (.cons x c .nil) .nil) = 0)
    (a : Option Addr) (cap : Nat) (w : World) (hC : CRow w a [(Fo.cons x c .nil).flat 0]) :
    Calls Try.prog 24 #[ndV nx an ln capn, .slice a 1 cap] w fun e w' => ∃ g cur, e = .returned (.tuple #[trV (some ⟨g, 0, none⟩) (2 + c.size) (2 + c.size), .int .i64 0]) ∧ OC w' w.heap.size w'.heap.size g (2 + c.size) ((Fo.cons nx (.cons x c .nil) .nil).flat 0) (2 + c.size) cur ∧ Below w.heap.size w w' := by
  refine (join_any nx hx hxs an ln capn [(Fo.cons x c .nil).flat 0] 1 rfl a cap w hC (fun T h => by simp at h; rw [h]; exact hS) (by omega)).mono ?_
  rintro e w' ⟨hb, ⟨h, _⟩ | ⟨Fs, h1, h2, h3⟩⟩
  · exact absurd (fun T hT => by simp at hT; rw [hT]; exact hM) h
  · have hl1 := congrArg List.length h1
    obtain ⟨f, rfl⟩ : ∃ f, Fs = [f] := by
      cases Fs with
      | nil => simp at hl1
      | cons f r =>
        cases r with
        | nil => exact ⟨f, rfl⟩
        | cons => simp at hl1
    simp only [List.map_cons, List.map_nil, List.cons.injEq, and_true] at h1
    have hw := whole_inj h1
    obtain ⟨y, d⟩ := f
    have e1 : x = y := by injection hw
    have e2 : c = d := by injection hw
    subst e1 e2
    have hs : 1 + (fo [(x, c)]).size = 2 + c.size := by simp [fo, Fo.size]; omega
    rw [hs] at h3
    rcases h3 with ⟨h, _⟩ | ⟨_, ⟨h, _⟩ | ⟨_, g, cur, he, hO⟩⟩
    · omega
    · exact absurd h0 h
    · exact ⟨g, cur, he, hO, hb⟩
inductive Stg : Nat → Prop
  | mk (n : Nat) : Stg n
theorem nm_x1 (W : World) : Calls Try.prog 30 #[.string { data := #[120, 49] }] W fun e w' => e = .returned (.bool true) ∧ Below W.heap.size W w' := by
  have := name_any [120, 49] W (by unfold maxLen; decide)
  have h1 : (nmB [120, 49] && !isK (str [120, 49])) = true := by
    have : isK (str [120, 49]) = false := by unfold isK; rw [str_toList]; decide
    rw [this]
    decide
  rw [h1] at this
  exact this
theorem nm_let (W : World) : Calls Try.prog 30 #[.string { data := #[108, 101, 116] }] W fun e w' => e = .returned (.bool false) ∧ Below W.heap.size W w' := by
  have := name_any [108, 101, 116] W (by unfold maxLen; decide)
  have h1 : (nmB [108, 101, 116] && !isK (str [108, 101, 116])) = false := by
    have : isK (str [108, 101, 116]) = true := by unfold isK; rw [str_toList]; decide
    rw [this]
    decide
  rw [h1] at this
  exact this
theorem same_yes {T U : List Nd} {a b : Option Addr} {ca cb : Nat} {w : World} (hT : TAt w a T) (hU : TAt w b U) (hS : Sm T) (hS2 : Sm U) (h : Mayb okP T ∧ Mayb okP U ∧ sameB T U = true) :
    Calls Try.prog 28 #[trV a T.length ca, trV b U.length cb] w fun e w' => e = .returned (.bool true) ∧ Below w.heap.size w w' :=
  (same_any T U a b ca cb w hT hU hS hS2).mono fun e w' ⟨⟨r, h1, h2⟩, hb⟩ => ⟨by rw [h1, h2.2 h], hb⟩
theorem join_g (an : Option Addr) (ln capn : Nat) (a : Option Addr) (cap : Nat) (w : World) (hC : CRow w a [f5.flat 0]) :
    Calls Try.prog 24 #[ndV ng an ln capn, .slice a 1 cap] w fun e w' => ∃ g cur, e = .returned (.tuple #[trV (some ⟨g, 0, none⟩) 2 2, .int .i64 0]) ∧ OC w' w.heap.size w'.heap.size g 2 (fg.flat 0) 2 cur ∧ Below w.heap.size w w' :=
  join_one ng sxg (by simp) an ln capn n5 .nil sm5 may5 (by decide) ckg a cap w hC
theorem sub_g (a : Option Addr) (cap : Nat) (w : World) (hT : TAt w a (fg.flat 0)) (hc : 2 ≤ cap) :
    Calls Try.prog 26 #[trV a 2 cap, .int .i64 1] w fun e w' => ∃ g cur, e = .returned (.tuple #[trV (some ⟨g, 0, none⟩) 1 1, .int .i64 0]) ∧ OC w' w.heap.size w'.heap.size g 1 (f5.flat 0) 1 cur ∧ Below w.heap.size w w' := by
  obtain ⟨y, e, d, hP⟩ := part_of (x := ng) (c := f5) rfl allg (n := 1) (by decide)
  have hs := hP.sub
  have hs' : (Fo.cons ng f5 .nil).sub 1 = some (n5, .nil) := rfl
  rw [hs'] at hs
  cases hs
  exact sub_yes ng f5 _ rfl mayg allg 1 n5 .nil d hP a cap w hT smg hc
theorem deep_g (a : Option Addr) (cap : Nat) (w : World) (hT : TAt w a (fg.flat 0)) :
    Calls Try.prog 18 #[trV a 2 cap] w fun e w' => e = .returned (.int .i64 2) ∧ Below w.heap.size w w' := deep_any ng f5 _ rfl mayg a cap w hT smg
theorem walk_g (a : Option Addr) (cap : Nat) (w : World) (hT : TAt w a (fg.flat 0)) :
    Calls Try.prog 17 #[trV a 2 cap] w fun e w' => (∃ b, e = .returned (.func (.func 67) #[] #[.pointer (some ⟨b, 0, none⟩)])) ∧ Below w.heap.size w w' :=
  (walk_yes ng f5 _ rfl mayg 2 rfl a cap w hT smg).mono fun e w' ⟨g, b, he, _, _, _, _, hb⟩ => ⟨⟨b, he⟩, hb⟩
theorem same_5 (a b : Option Addr) (ca cb : Nat) (w : World) (hT : TAt w a (f5.flat 0)) (hU : TAt w b (f5.flat 0)) :
    Calls Try.prog 28 #[trV a 1 ca, trV b 1 cb] w fun e w' => e = .returned (.bool true) ∧ Below w.heap.size w w' := by
  have h : sameB (f5.flat 0) (f5.flat 0) = true := by simp [Fo.flat, sameB, alB]
  have h2 := same_yes (ca := ca) (cb := cb) hT hU sm5 sm5 ⟨may5, may5, h⟩
  rw [show (f5.flat 0).length = 1 from rfl] at h2
  exact h2
theorem neq_func (gf : Nat) (lb : Array Value) (w : World) : (binOp .neq 39 (.func (.func gf) #[] lb) .nilFunc).run Try.prog w = .ok (.bool true) w := by
  kernel_rfl
set_option maxRecDepth 100000 in
set_option maxHeartbeats 8000000 in
theorem awake_true (w : World) : Calls Try.prog 10 #[] w fun e w' => e = .returned (.bool true) ∧ Below w.heap.size w w' := by
  have st1 : Stg 1 := .mk 1
  go_enter Try.func10, Try.ntmps10
  go_wp2_with (first
    | (have _s := st1; clear st1 _s; go_at_call 24; refine (join_leaf n5 sx5 (by simp) none 0 0 _ ck5).mono ?_; rintro e w1 ⟨g1, cur1, rfl, O1, hb1⟩; have st2 : Stg 2 := .mk 2; have T1 := O1.tat rfl)
    | (have _s := st2; clear st2 _s; go_at_call 24; refine (join_g _ 1 1 _ _ _ (crow_new ((w1.alloc (Tro (some ⟨g1, 0, none⟩) 1 1)).alloc (.cells #[.int .i64 7] 3)) _ (by simp) _ _ (f5.flat 0) (T1.below (belA (belA (Below.refl _ _)))))).mono ?_; rintro e w2 ⟨g2, cur2, rfl, O2, hb2⟩; have st3 : Stg 3 := .mk 3; have T2 := O2.tat rfl; have A1 : At w2 w1.heap.size (Tro (some ⟨g1, 0, none⟩) 1 1) := (((At.new w1 _).alloc _).alloc _).below hb2; have T1b : TAt w2 (some ⟨g1, 0, none⟩) (f5.flat 0) := T1.below (below_aft (belA (belA (belA (Below.refl _ w1)))) hb2); have B2 : Below w.heap.size w w2 := below_aft (belA (belA (belA hb1))) hb2; clear T1 hb2 hb1 O1)
    | (have _s := st3; clear st3 _s; go_at_call 24; refine (join_leaf_bad ng sxg (by simp) none 0 0 _ (by decide) ckn).mono ?_; rintro e w3 ⟨rfl, hb3⟩; have st4 : Stg 4 := .mk 4; have k3 : Below w2.heap.size w2 w3 := below1 hb3; have A3 : At w3 w2.heap.size (Tro (some ⟨g2, 0, none⟩) 2 2) := (At.new w2 _).below hb3; have A1c := A1.below k3; have T1c := T1b.below k3; have T2c := T2.below k3; have B3 := below_aft B2 k3; obtain ⟨x0, xf⟩ := A3.one; have hz3 := A3.lt; have hz1 := A1c.lt; clear A1 T1b T2 B2 hb3 k3)
    | (have _s := st4; clear st4 _s; go_at_call 26; refine (sub_g _ _ _ (T2c.below (belA (Below.refl _ _))) (by omega)).mono ?_; rintro e w4 ⟨g4, cur4, rfl, O4, hb4⟩; have st5 : Stg 5 := .mk 5; have k4 : Below w3.heap.size w3 w4 := below1 hb4; have A1d := A1c.below k4; have A3d := A3.below k4; have T1d := T1c.below k4; have T2d := T2c.below k4; have T4 := O4.tat rfl; have B4 := below_aft B3 k4; obtain ⟨y0, yf⟩ := A3d.one; have hy3 := A3d.lt; have hy1 := A1d.lt; obtain ⟨gg, oo, ee, hr⟩ := T2d (by simp [Fo.flat]); cases ee; obtain ⟨q0, -, -, -, -, al, capl, q5, q6⟩ := hr 0 ⟨ng, [1]⟩ rfl; obtain ⟨gl, ol, rfl, hgl, hl⟩ := q6 (by simp); have ql := hl 0 1 rfl; simp only [Nat.zero_mul, Nat.zero_add, Nat.add_zero] at q5 ql; clear hl hr A1c A3 T1c T2c B3 hb4 k4 x0 xf O4)
    | (have _s := st5; clear st5 _s; go_at_call 18; refine (deep_g _ _ _ (T2d.below (belA (Below.refl _ _)))).mono ?_; rintro e w5 ⟨rfl, hb5⟩; have st6 : Stg 6 := .mk 6; have k5 : Below w4.heap.size w4 w5 := below1 hb5; have A1e := A1d.below k5; have A3e := A3d.below k5; have A7e : At w5 w4.heap.size (Tro (some ⟨g4, 0, none⟩) 1 1) := (At.new w4 _).below hb5; have T1e := T1d.below k5; have T2e := T2d.below k5; have T4e := T4.below k5; have B5 := below_aft B4 k5; obtain ⟨u0, uf⟩ := A1e.one; obtain ⟨v0, vf⟩ := A7e.one; clear A1d A3d T1d T2d T4 B4 hb5 k5 y0 yf q5 q6 ql)
    | (have _s := st6; clear st6 _s; go_at_call 28; refine (same_5 _ _ _ _ _ T1e T4e).mono ?_; rintro e w6 ⟨rfl, hb6⟩; have st7 : Stg 7 := .mk 7; have A3f := A3e.below hb6; have T2f := T2e.below hb6; have B6 := below_aft B5 hb6; clear A1e A3e A7e T1e T2e T4e B5 hb6 u0 uf v0 vf)
    | (have _s := st7; clear st7 _s; go_at_call 30; refine (nm_x1 _).mono ?_; rintro e w7 ⟨rfl, hb7⟩; have st8 : Stg 8 := .mk 8; have A3g := A3f.below hb7; have T2g := T2f.below hb7; have B7 := below_aft B6 hb7; clear A3f T2f B6 hb7)
    | (have _s := st8; clear st8 _s; go_at_call 30; refine (nm_let _).mono ?_; rintro e w8 ⟨rfl, hb8⟩; have st9 : Stg 9 := .mk 9; have A3h := A3g.below hb8; have T2h := T2g.below hb8; have B8 := below_aft B7 hb8; obtain ⟨p0, pf⟩ := A3h.one; clear A3g T2g B7 hb8)
    | (have _s := st9; clear st9 _s; go_at_call 17; refine (walk_g _ _ _ T2h).mono ?_; rintro e w9 ⟨⟨bb, rfl⟩, hb9⟩; have nq := neq_func 67 #[.pointer (some ⟨bb, 0, none⟩)] w9))
  go_ret
  exact ⟨rfl, below_aft B8 hb9⟩
end Go.Proofs.Ytkidcmglidnaoaa
