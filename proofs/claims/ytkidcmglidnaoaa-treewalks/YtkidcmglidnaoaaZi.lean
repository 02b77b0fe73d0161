import Derived.Test.YtkidcmglidnaoaaZh
namespace Go.Proofs.Ytkidcmglidnaoaa
open Go.RowKit
set_option linter.unusedVariables false
set_option linter.unusedSimpArgs false

/-- What a node says of itself is Go's. -/
structure SmX (x : Nx) : Prop where
  k : x.k ≤ 255
  p0 : -9223372036854775808 ≤ x.p
  p1 : x.p ≤ 9223372036854775807
  n0 : -9223372036854775808 ≤ x.n
  n1 : x.n ≤ 9223372036854775807
  s : x.s.length ≤ maxLen
theorem SmN.x {d : Nd} (h : SmN d) : SmX d.x := ⟨h.k, h.p0, h.p1, h.n0, h.n1, h.s⟩
theorem xs_flat (f : Fo) (P : Nx → Prop) : ∀ o o', (∀ d ∈ f.flat o, P d.x) → ∀ d ∈ f.flat o', P d.x := by
  induction f with
  | nil => intro o o' _ d h; simp [Fo.flat] at h
  | cons x c r ihc ihr =>
    intro o o' ha d h
    simp only [Fo.flat, List.mem_cons, List.mem_append] at h ha
    rcases h with rfl | h | h
    · exact ha ⟨x, c.starts (o + 1)⟩ (.inl rfl)
    · exact ihc _ _ (fun d hd => ha d (.inr (.inl hd))) d h
    · exact ihr _ _ (fun d hd => ha d (.inr (.inr hd))) d h
theorem sm_flat {f : Fo} (hx : ∀ d ∈ f.flat 0, SmX d.x) (hl : f.size ≤ 20000) : Sm (f.flat 0) := by
  refine ⟨by rw [Fo.len_flat]; exact hl, fun d hd => ?_⟩
  have h := hx d hd
  obtain ⟨k1, k2⟩ := flat_kids f 0 d hd
  exact ⟨h.k, h.p0, h.p1, h.n0, h.n1, h.s, by omega, fun c hc => by have := k1 c hc; omega⟩
theorem fo_xs {Fs : List (Nx × Fo)} (P : Nx → Prop) (h : ∀ f ∈ Fs, ∀ d ∈ tr f, P d.x) : ∀ o, ∀ d ∈ (fo Fs).flat o, P d.x := by
  induction Fs with
  | nil => intro o d hd; simp [fo, Fo.flat] at hd
  | cons f Fs ih =>
    intro o d hd
    obtain ⟨x, c⟩ := f
    have h0 := h (x, c) (by simp)
    have ih' := ih (fun f hf => h f (by simp [hf]))
    simp only [fo, Fo.flat, List.mem_cons, List.mem_append] at hd
    rcases hd with rfl | hd | hd
    · exact h0 ⟨x, c.starts (0 + 1)⟩ (by simp only [tr, Fo.flat, List.mem_cons]; exact .inl trivial)
    · refine xs_flat c P 1 _ (fun d hd => h0 d ?_) d hd
      simp only [tr, Fo.flat, List.mem_cons, List.mem_append]
      exact .inr (.inl hd)
    · exact ih' _ d hd
theorem may_forests : ∀ (Ts : List (List Nd)), (∀ T ∈ Ts, Mayb okP T) → ∃ Fs : List (Nx × Fo), Ts = Fs.map tr ∧ ∀ f ∈ Fs, (Fo.cons f.1 f.2 .nil).all okP = true ∧ (Fo.cons f.1 f.2 .nil).deep ≤ 48
  | [], _ => ⟨[], rfl, fun f h => by simp at h⟩
  | T :: Ts, h => by
    obtain ⟨Fs, h1, h2⟩ := may_forests Ts (fun T hT => h T (by simp [hT]))
    obtain ⟨x, c, k1, k2, k3, k4⟩ := h T (by simp)
    refine ⟨(x, c) :: Fs, by simp only [List.map_cons, h1]; rw [k1], fun f hf => ?_⟩
    simp only [List.mem_cons] at hf
    rcases hf with rfl | hf
    · exact ⟨k2, k3⟩
    · exact h2 f hf
/-- How many nodes trees have together. -/
def tot : List (List Nd) → Nat
  | [] => 0
  | T :: Ts => T.length + tot Ts
theorem tot_fo (Fs : List (Nx × Fo)) : tot (Fs.map tr) = (fo Fs).size := by
  induction Fs with
  | nil => rfl
  | cons f Fs ih => obtain ⟨x, c⟩ := f; simp only [List.map_cons, tot, fo, Fo.size, ih, tr_len]
theorem tot_take {Ts : List (List Nd)} {k : Nat} {T : List Nd} (h : Ts[k]? = some T) : tot (Ts.take (k + 1)) = tot (Ts.take k) + T.length := by
  induction Ts generalizing k with
  | nil => simp at h
  | cons U Ts ih =>
    cases k with
    | zero => simp at h; subst h; simp [tot]
    | succ k => simp only [List.take_succ_cons, tot]; rw [ih (by simpa using h)]; omega
theorem tot_le {Ts : List (List Nd)} (h : ∀ T ∈ Ts, T.length ≤ 20000) : ∀ k, tot (Ts.take k) ≤ k * 20000 := by
  induction Ts with
  | nil => intro k; simp [tot]
  | cons U Ts ih =>
    intro k
    cases k with
    | zero => simp [tot]
    | succ k =>
      simp only [List.take_succ_cons, tot]
      have := ih (fun T hT => h T (by simp [hT])) k
      have := h U (by simp)
      omega
/-- What Join answers. -/
def JoinPost (w : World) (nx : Nx) (Ts : List (List Nd)) (e : Ending) (w' : World) : Prop :=
  Below w.heap.size w w' ∧
  (((¬ ∀ T ∈ Ts, Mayb okP T) ∧ e = .returned (.tuple #[trV none 0 0, .int .i64 2])) ∨
   ∃ Fs : List (Nx × Fo), Ts = Fs.map tr ∧ (∀ f ∈ Fs, (Fo.cons f.1 f.2 .nil).all okP = true ∧ (Fo.cons f.1 f.2 .nil).deep ≤ 48) ∧
     ((16384 < 1 + (fo Fs).size ∧ e = .returned (.tuple #[trV none 0 0, .int .i64 3])) ∨
      (1 + (fo Fs).size ≤ 16384 ∧
        ((ckE okP (.cons nx (fo Fs) .nil) ≠ 0 ∧ e = .returned (.tuple #[trV none 0 0, .int .i64 (ckE okP (.cons nx (fo Fs) .nil))])) ∨
         (ckE okP (.cons nx (fo Fs) .nil) = 0 ∧ ∃ g cur, e = .returned (.tuple #[trV (some ⟨g, 0, none⟩) (1 + (fo Fs).size) (1 + (fo Fs).size), .int .i64 0]) ∧ OC w' w.heap.size w'.heap.size g (1 + (fo Fs).size) ((Fo.cons nx (fo Fs) .nil).flat 0) (1 + (fo Fs).size) cur)))))
set_option maxRecDepth 100000 in
set_option maxHeartbeats 8000000 in
theorem join_any (nx : Nx) (hx : SmX nx) (hxs : nx.s.length ≤ 140737488355328) (an : Option Addr) (ln capn : Nat) (Ts : List (List Nd)) (nT : Nat) (hnT : Ts.length = nT) (a : Option Addr) (cap : Nat) (w : World) (hC : CRow w a Ts) (hS : ∀ T ∈ Ts, Sm T) (hfl : nT ≤ 20000) :
    Calls Try.prog 24 #[ndV nx an ln capn, .slice a nT cap] w (JoinPost w nx Ts) := by
  obtain ⟨W2, hW2⟩ : ∃ W2, W2 = (w.alloc (Ndo nx an ln capn)).alloc (Tro none 0 0) := ⟨_, rfl⟩
  have B2 : Below w.heap.size w W2 := by rw [hW2]; exact belA (belA (Below.refl _ _))
  have A1 : At W2 w.heap.size (Ndo nx an ln capn) := by rw [hW2]; exact at_fst _ _ _
  have A2 : At W2 (w.heap.size + 1) (Tro none 0 0) := by rw [hW2]; exact at_snd _ _ _
  have HW2 : Hid ((w.alloc (.cells #[.int .u8 (nx.k : Int), .int .i64 nx.p, .int .i64 nx.n, .string (str nx.s), .slice an ln capn] 48)).alloc (.cells #[.slice none 0 0] 24) = W2) := hW2.symm
  have HC : Hid (CRow w a Ts) := hC
  have HS : Hid (∀ T ∈ Ts, Sm T) := hS
  have HN : Hid (Ts.length = nT) := hnT
  clear hW2 hC hS hnT
  go_enter Try.func24, Try.ntmps24
  go_wp2
  rw [HW2.out]
  go_loopw [6, 14] (fun cn i W => ∃ k : Nat, k ≤ nT ∧ i = .int .i64 k ∧ cn = .int .i64 (1 + (tot (Ts.take k) : Int)) ∧ (∀ T ∈ Ts.take k, Mayb okP T) ∧ At W w.heap.size (Ndo nx an ln capn) ∧ At W (w.heap.size + 1) (Tro none 0 0) ∧ Below w.heap.size w W) (fun _ i _ => nT - (intOf i).toNat)
  case atStart => exact ⟨0, Nat.zero_le _, rfl, by simp [tot], fun T h => by simp at h, A1, A2, B2⟩
  case round =>
    obtain ⟨k, hk, rfl, rfl, hall, a1, a2, hB⟩ := hrel
    have HALL : Hid (∀ T ∈ Ts.take k, Mayb okP T) := hall
    clear hall A1 A2 B2
    have htot : tot (Ts.take k) ≤ k * 20000 := tot_le (fun T hT => (HS.out T hT).n) k
    by_cases hlt : k < nT
    · have hlt' : k < Ts.length := by rw [HN.out]; exact hlt
      obtain ⟨T, hT⟩ : ∃ T, Ts[k]? = some T := ⟨_, List.getElem?_eq_getElem hlt'⟩
      have hTm := List.mem_of_getElem? hT
      have hTS := HS.out T hTm
      have hTn := hTS.n
      obtain ⟨gt, ot, rfl, hgt, hrow⟩ := HC.out (by rintro h; rw [h] at hlt'; simp at hlt')
      obtain ⟨ai, capi, q1, q2⟩ := hrow k T hT
      replace q1 := (hB.cell (p := ⟨gt, ot + k, none⟩) hgt).trans q1
      have k0 : (0 : Int) ≤ (k : Int) := by omega
      have k1 : (k : Int) < (nT : Int) := by omega
      have w3e : IntKind.i64.wrap ((k : Int) + 1) = (k : Int) + 1 := by rw [IntKind.wrap_i64]; omega
      have w4e : IntKind.i64.wrap (1 + (tot (Ts.take k) : Int) + (T.length : Int)) = 1 + (tot (Ts.take k) : Int) + (T.length : Int) := by rw [IntKind.wrap_i64]; omega
      have Bb : Below w.heap.size w (wr.alloc (Tro ai T.length capi)) := belA hB
      have Ab := At.new wr (Tro ai T.length capi)
      have HT : Hid (Ts[k]? = some T) := hT
      have hz1 := a1.lt
      have hz2 := a2.lt
      clear hrow hT hlt'
      by_cases hM : Mayb okP T
      · have HM : Hid (∀ W, Below w.heap.size w W → Calls Try.prog 14 #[trV ai T.length capi] W fun e w' => e = .returned (.bool true) ∧ Below W.heap.size W w') := fun W hW => may_yes (q2.below hW) hTS hM
        have HMM : Hid (Mayb okP T) := hM
        clear hM hTS
        go_wp2_with (go_at_call 14; refine (HM.out _ Bb).mono ?_; rintro e w1 ⟨rfl, hb1⟩; obtain ⟨x0, xf⟩ := (Ab.below hb1).one)
        refine ⟨⟨k + 1, by omega, by go_num, ?_, fun U hU => ?_, (a1.alloc _).below hb1, (a2.alloc _).below hb1, below_aft Bb hb1⟩, by simp [intOf]; omega⟩
        · rw [tot_take HT.out]
          congr 1
          omega
        · rw [List.take_add_one, HT.out] at hU
          simp only [List.mem_append, Option.toList_some, List.mem_singleton] at hU
          rcases hU with hU | rfl
          · exact HALL.out U hU
          · exact HMM.out
      · have HM : Hid (∀ W, Below w.heap.size w W → Calls Try.prog 14 #[trV ai T.length capi] W fun e w' => e = .returned (.bool false) ∧ Below W.heap.size W w') := fun W hW => may_no (q2.below hW) hTS hM
        have HMM : Hid (¬ Mayb okP T) := hM
        clear hM hTS
        go_wp2_with (go_at_call 14; refine (HM.out _ Bb).mono ?_; rintro e w1 ⟨rfl, hb1⟩; obtain ⟨x0, xf⟩ := ((a2.alloc _).below hb1).one)
        have r5 := (((a2.alloc (Tro ai T.length capi)).below hb1).setOne (.slice none 0 0)).one.1
        refine bodyPost_ret (v := .tuple #[trV none 0 0, .int .i64 2]) (by simp [results, Try.results24, go_sem, r5]) rfl ⟨(below_aft Bb hb1).setCell (by simp) _, .inl ⟨fun h => HMM.out (h T (List.mem_of_getElem? HT.out)), rfl⟩⟩
    · obtain rfl : k = nT := by omega
      rw [List.take_of_length_le (by rw [HN.out]; exact Nat.le_refl _)] at htot ⊢
      have hall : ∀ T ∈ Ts, Mayb okP T := fun T hT => HALL.out T (by rw [List.take_of_length_le (by rw [HN.out]; exact Nat.le_refl _)]; exact hT)
      obtain ⟨Fs, hFs, hok⟩ := may_forests Ts hall
      have htf : tot Ts = (fo Fs).size := by rw [hFs, tot_fo]
      rw [htf] at htot ⊢
      obtain ⟨cnt, hcnt⟩ : ∃ cnt, cnt = 1 + (fo Fs).size := ⟨_, rfl⟩
      have hci : (1 : Int) + ((fo Fs).size : Int) = (cnt : Int) := by omega
      rw [hci]
      have HFS : Hid (Ts = Fs.map tr ∧ ∀ f ∈ Fs, (Fo.cons f.1 f.2 .nil).all okP = true ∧ (Fo.cons f.1 f.2 .nil).deep ≤ 48) := ⟨hFs, hok⟩
      have HCN : Hid (cnt = 1 + (fo Fs).size) := hcnt
      clear hFs hok htf hci htot hall hcnt
      obtain ⟨y0, y1, y2, y3, y4, yf⟩ := a1.nd
      by_cases hbig : 16384 < cnt
      · have z1 : (16384 : Int) < (cnt : Int) := by omega
        obtain ⟨r0, rf⟩ := a2.one
        go_wp2
        have r5 := (a2.setOne (.slice none 0 0)).one.1
        refine bodyPost_ret (v := .tuple #[trV none 0 0, .int .i64 3]) (by simp [results, Try.results24, go_sem, r5]) rfl ⟨hB.setCell (by simp) _, .inr ⟨Fs, HFS.out.1, HFS.out.2, .inl ⟨by rw [← HCN.out]; exact hbig, rfl⟩⟩⟩
      · have z1 : ¬ (16384 : Int) < (cnt : Int) := by omega
        have HLD : Hid (∀ W, Below w.heap.size w W → Calls Try.prog 47 #[ndV nx an ln capn, .int .i64 cnt, .slice a k cap] W fun e w' => ∃ g cur, e = .returned (trV (some ⟨g, 0, none⟩) cnt cnt) ∧ OC w' W.heap.size w'.heap.size g cnt ((Fo.cons nx (fo Fs) .nil).flat 0) cnt cur ∧ Below W.heap.size W w') := fun W hW => by
          refine laid_any nx an ln capn Fs k (by rw [← HN.out, HFS.out.1]; simp) cnt a cap W ?_ HCN.out (by omega) hxs (fun f hf => (HFS.out.2 f hf).1) hfl
          rw [← HFS.out.1]
          exact HC.out.below hW
        have hsm : Sm ((Fo.cons nx (fo Fs) .nil).flat 0) := by
          refine sm_flat (fun d hd => ?_) (by simp only [Fo.size]; have := HCN.out; omega)
          simp only [Fo.flat, List.append_nil, List.mem_cons] at hd
          rcases hd with rfl | hd
          · exact hx
          · exact fo_xs SmX (fun f hf d hd => ((HS.out (tr f) (by rw [HFS.out.1]; exact List.mem_map_of_mem hf)).d d hd).x) _ d hd
        have hTl : ((Fo.cons nx (fo Fs) .nil).flat 0).length = cnt := by rw [Fo.len_flat]; simp only [Fo.size]; have := HCN.out; omega
        have HCK : Hid (∀ W aa cc, TAt W aa ((Fo.cons nx (fo Fs) .nil).flat 0) → Calls Try.prog 12 #[trV aa cnt cc] W fun e w' => (∃ n : Int, e = .returned (.tuple #[.int .i64 n, .int .i64 (ckE okP (.cons nx (fo Fs) .nil))])) ∧ Below W.heap.size W w') := fun W aa cc hT => by
          have := check_any _ aa cc W hT hsm
          rw [hTl] at this
          refine this.mono ?_
          rintro e w' ⟨⟨n, v, he, hv⟩, hb⟩
          have hv' := hv.whole (by have := HCN.out; omega)
          subst hv'
          exact ⟨⟨n, he⟩, hb⟩
        obtain ⟨ev, hev⟩ : ∃ ev, ev = ckE okP (.cons nx (fo Fs) .nil) := ⟨_, rfl⟩
        rw [← hev] at HCK
        have HEV : Hid (ev = ckE okP (.cons nx (fo Fs) .nil)) := hev
        have HTL : Hid (((Fo.cons nx (fo Fs) .nil).flat 0).length = cnt) := hTl
        clear hev hsm hTl
        by_cases he0 : ev = 0
        · subst he0
          go_wp2_with (first
            | (go_at_call 47; refine (HLD.out _ hB).mono ?_; rintro e w1 ⟨g, cur, rfl, hO, hb1⟩; obtain ⟨v0, vf⟩ := (At.new w1 (Tro (some ⟨g, 0, none⟩) cnt cnt)).one)
            | (go_at_call 12; refine (HCK.out _ _ _ ((hO.tat HTL.out).below (belA (Below.refl _ w1) (o := Tro (some ⟨g, 0, none⟩) cnt cnt)))).mono ?_; rintro e w3 ⟨⟨q, rfl⟩, hb3⟩; obtain ⟨x0, xf⟩ := ((At.new w1 (Tro (some ⟨g, 0, none⟩) cnt cnt)).below hb3).one; obtain ⟨r0, rf⟩ := (((a2.below hb1).alloc _).below hb3).one))
          have A5 := ((a2.below hb1).alloc (Tro (some ⟨g, 0, none⟩) cnt cnt)).below hb3
          have r5 := (A5.setOne (.slice (some ⟨g, 0, none⟩) cnt cnt)).one.1
          have B5 := below_aft (belA (below_aft hB hb1)) hb3
          refine bodyPost_ret (v := .tuple #[trV (some ⟨g, 0, none⟩) cnt cnt, .int .i64 0]) (by simp [results, Try.results24, go_sem, r5]) rfl ⟨B5.setCell (by simp) _, .inr ⟨Fs, HFS.out.1, HFS.out.2, .inr ⟨by rw [← HCN.out]; omega, .inr ⟨HEV.out.symm, g, cur, by rw [← HCN.out], ?_⟩⟩⟩⟩
          rw [← HCN.out, World.size_setCell]
          have hz2 := a2.lt
          have hBs := hB.size
          have k3 : Keep w1.heap.size w1 w3 := (Keep.alloc w1 _ (Nat.le_refl _)).trans (Keep.below hb3 (by simp))
          exact ((hO.keep k3).range (fun b hb _ => Below.heap_setCell _ _ _ b (by show b ≠ w.heap.size + 1; omega))).low hBs |>.grow k3.size
        · have heb : (ev == 0) = false := by simpa using he0
          go_wp2_with (first
            | (go_at_call 47; refine (HLD.out _ hB).mono ?_; rintro e w1 ⟨g, cur, rfl, hO, hb1⟩; obtain ⟨v0, vf⟩ := (At.new w1 (Tro (some ⟨g, 0, none⟩) cnt cnt)).one)
            | (go_at_call 12; refine (HCK.out _ _ _ ((hO.tat HTL.out).below (belA (Below.refl _ w1) (o := Tro (some ⟨g, 0, none⟩) cnt cnt)))).mono ?_; rintro e w3 ⟨⟨q, rfl⟩, hb3⟩; obtain ⟨r0, rf⟩ := (((a2.below hb1).alloc _).below hb3).one))
          have A5 := ((a2.below hb1).alloc (Tro (some ⟨g, 0, none⟩) cnt cnt)).below hb3
          have r5 := (A5.setOne (.slice none 0 0)).one.1
          have B5 := below_aft (belA (below_aft hB hb1)) hb3
          refine bodyPost_ret (v := .tuple #[trV none 0 0, .int .i64 ev]) (by simp [results, Try.results24, go_sem, r5]) rfl ⟨B5.setCell (by simp) _, .inr ⟨Fs, HFS.out.1, HFS.out.2, .inr ⟨by rw [← HCN.out]; omega, .inl ⟨by rw [← HEV.out]; exact he0, by rw [HEV.out]⟩⟩⟩⟩
end Go.Proofs.Ytkidcmglidnaoaa
