import Derived.Test.YtkidcmglidnaoaaJc
namespace Go.Proofs.Ytkidcmglidnaoaa
open Go.RowKit Go.Shelf
set_option linter.unusedVariables false
set_option linter.unusedSimpArgs false
set_option maxRecDepth 100000 in
set_option maxHeartbeats 8000000 in
/-- Where one of the trees may not be. -/
theorem join_no (nx : Nx) (an : Option Addr) (ln capn : Nat) (Ts : List (List Nd)) (nT : Nat) (hnT : Ts.length = nT) (a : Option Addr) (cap : Nat) (w : World) (hC : CRow w a Ts) (hS : ∀ T ∈ Ts, Sm T) (hfl : nT ≤ 20000) (hno : ¬ ∀ T ∈ Ts, Mayb okP T) :
    Calls Try.prog 24 #[ndV nx an ln capn, .slice a nT cap] w fun e w' => e = .returned (.tuple #[trV none 0 0, .int .i64 2]) ∧ Below w.heap.size w w' := by
  have HNO : Hid (¬ ∀ T ∈ Ts, Mayb okP T) := hidE hno
  clear hno
  obtain ⟨W2, hW2⟩ : ∃ W2, W2 = (w.alloc (Ndo nx an ln capn)).alloc (Tro none 0 0) := ⟨_, rfl⟩
  have B2 : Below w.heap.size w W2 := by rw [hW2]; exact belA (belA (Below.refl _ _))
  have A1 : At W2 w.heap.size (Ndo nx an ln capn) := by rw [hW2]; exact at_fst _ _ _
  have A2 : At W2 (w.heap.size + 1) (Tro none 0 0) := by rw [hW2]; exact at_snd _ _ _
  have HW2 : Hid ((w.alloc (.cells #[.int .u8 (nx.k : Int), .int .i64 nx.p, .int .i64 nx.n, .string (str nx.s), .slice an ln capn] 48)).alloc (.cells #[.slice none 0 0] 24) = W2) := hW2.symm
  have HC : Hid (CRow w a Ts) := hC
  have HS : Hid (∀ T ∈ Ts, Sm T) := hS
  have HN : Hid (Ts.length = nT) := hnT
  clear hW2 hC hS hnT
  go_enter Try.func24, Try.ntmps24
  go_wp2
  rw [HW2.out]
  go_loopw [6, 14] (fun cn i W => ∃ k : Nat, k ≤ nT ∧ i = .int .i64 k ∧ cn = .int .i64 (1 + (tot (Ts.take k) : Int)) ∧ (∀ T ∈ Ts.take k, Mayb okP T) ∧ At W w.heap.size (Ndo nx an ln capn) ∧ At W (w.heap.size + 1) (Tro none 0 0) ∧ Below w.heap.size w W) (fun _ i _ => nT - (intOf i).toNat)
  case atStart => exact ⟨0, Nat.zero_le _, rfl, by simp [tot], fun T h => by simp at h, A1, A2, B2⟩
  case round =>
    obtain ⟨k, hk, rfl, rfl, hall, a1, a2, hB⟩ := hrel
    have HALL : Hid (∀ T ∈ Ts.take k, Mayb okP T) := hall
    clear hall A1 A2 B2
    have htot : tot (Ts.take k) ≤ k * 20000 := tot_le (fun T hT => (HS.out T hT).n) k
    by_cases hlt : k < nT
    · have hlt' : k < Ts.length := by rw [HN.out]; exact hlt
      obtain ⟨T, hT⟩ : ∃ T, Ts[k]? = some T := ⟨_, List.getElem?_eq_getElem hlt'⟩
      have hTm := List.mem_of_getElem? hT
      have hTS := HS.out T hTm
      have hTn := hTS.n
      obtain ⟨gt, ot, rfl, hgt, hrow⟩ := HC.out (by rintro h; rw [h] at hlt'; simp at hlt')
      obtain ⟨ai, capi, q1, q2⟩ := hrow k T hT
      replace q1 := (hB.cell (p := ⟨gt, ot + k, none⟩) hgt).trans q1
      have k0 : (0 : Int) ≤ (k : Int) := by omega
      have k1 : (k : Int) < (nT : Int) := by omega
      have w3e : IntKind.i64.wrap ((k : Int) + 1) = (k : Int) + 1 := by rw [IntKind.wrap_i64]; omega
      have w4e : IntKind.i64.wrap (1 + (tot (Ts.take k) : Int) + (T.length : Int)) = 1 + (tot (Ts.take k) : Int) + (T.length : Int) := by rw [IntKind.wrap_i64]; omega
      have Bb : Below w.heap.size w (wr.alloc (Tro ai T.length capi)) := belA hB
      have Ab := At.new wr (Tro ai T.length capi)
      have HT : Hid (Ts[k]? = some T) := hT
      have hz1 := a1.lt
      have hz2 := a2.lt
      clear hrow hT hlt'
      by_cases hM : Mayb okP T
      · have HM : Hid (∀ W, Below w.heap.size w W → Calls Try.prog 14 #[trV ai T.length capi] W fun e w' => e = .returned (.bool true) ∧ Below W.heap.size W w') := fun W hW => may_yes (q2.below hW) hTS hM
        have HMM : Hid (Mayb okP T) := hM
        clear hM hTS
        go_wp2_with (go_at_call 14; refine (HM.out _ Bb).mono ?_; rintro e w1 ⟨rfl, hb1⟩; obtain ⟨x0, xf⟩ := (Ab.below hb1).one)
        refine ⟨⟨k + 1, by omega, by go_num, ?_, fun U hU => ?_, (a1.alloc _).below hb1, (a2.alloc _).below hb1, below_aft Bb hb1⟩, by simp [intOf]; omega⟩
        · rw [tot_take HT.out]
          congr 1
          omega
        · rw [List.take_add_one, HT.out] at hU
          simp only [List.mem_append, Option.toList_some, List.mem_singleton] at hU
          rcases hU with hU | rfl
          · exact HALL.out U hU
          · exact HMM.out
      · have HM : Hid (∀ W, Below w.heap.size w W → Calls Try.prog 14 #[trV ai T.length capi] W fun e w' => e = .returned (.bool false) ∧ Below W.heap.size W w') := fun W hW => may_no (q2.below hW) hTS hM
        have HMM : Hid (¬ Mayb okP T) := hM
        clear hM hTS
        go_wp2_with (go_at_call 14; refine (HM.out _ Bb).mono ?_; rintro e w1 ⟨rfl, hb1⟩; obtain ⟨x0, xf⟩ := ((a2.alloc _).below hb1).one)
        have r5 := (((a2.alloc (Tro ai T.length capi)).below hb1).setOne (.slice none 0 0)).one.1
        refine bodyPost_ret (v := .tuple #[trV none 0 0, .int .i64 2]) (by simp [results, Try.results24, go_sem, r5]) rfl ⟨rfl, (below_aft Bb hb1).setCell (by simp) _⟩
    · obtain rfl : k = nT := by omega
      exact absurd (fun T hT => HALL.out T (by rw [List.take_of_length_le (by rw [HN.out]; exact Nat.le_refl _)]; exact hT)) HNO.out
theorem fs_inj : ∀ (Fs Gs : List (Nx × Fo)), Fs.map tr = Gs.map tr → Fs = Gs
  | [], [], _ => rfl
  | [], g :: Gs, h => by simp at h
  | f :: Fs, [], h => by simp at h
  | f :: Fs, g :: Gs, h => by
    simp only [List.map_cons, List.cons.injEq] at h
    have h1 := whole_inj h.1
    have h2 := fs_inj Fs Gs h.2
    obtain ⟨x, c⟩ := f
    obtain ⟨x', c'⟩ := g
    simp only [Fo.cons.injEq, and_true] at h1
    rw [h2, h1.1, h1.2]
/-- Where neither side makes a tree. -/
theorem jall_nil (nx : Nx) (ln : Nat) (Ts : List (List Nd)) (nT : Nat) (a : Option Addr) (cap : Nat) (an : Option Addr) (capn : Nat) (er : Int)
    (h24 : ∀ W xa xc sv sc, CRow W sv Ts → Calls Try.prog 24 #[ndV nx xa ln xc, .slice sv nT sc] W fun e w' => e = .returned (.tuple #[trV none 0 0, .int .i64 er]) ∧ Below W.heap.size W w')
    (h25 : ∀ W, CRow W a Ts → Calls Try.prog 25 #[ndV nx an ln capn, .slice a nT cap] W fun e w' => e = .returned (.tuple #[trV none 0 0, .int .i64 er]) ∧ Below W.heap.size W w') : JAll nx ln Ts nT a cap an capn := by
  refine ⟨er, fun lo hi W v m c => m = 0 ∧ hi ≤ W.heap.size, fun lo W v m c => m = 0, ?_, ?_, ?_, ?_, ?_⟩
  · rintro lo hi W W' v m c ⟨rfl, h⟩ hk
    exact ⟨rfl, Nat.le_trans h hk.size⟩
  · rintro lo W W' v m c rfl hb
    rfl
  · intro W xa xc sv sc hC
    refine (h24 W xa xc sv sc hC).mono ?_
    rintro e w' ⟨rfl, hb⟩
    exact ⟨_, _, _, rfl, ⟨rfl, Nat.le_refl _⟩, hb⟩
  · intro W hC
    refine (h25 W hC).mono ?_
    rintro e w' ⟨rfl, hb⟩
    exact ⟨_, _, _, rfl, rfl, hb⟩
  · rintro W lo hi lo2 hi2 lo3 v1 m1 c1 v2 m2 c2 v3 m3 c3 ⟨rfl, h1⟩ ⟨rfl, h2⟩ rfl a1 a2 a3 a4
    exact held_nil v1 v2 v3 c1 c2 c3 lo hi W h1
theorem joins_all (nx : Nx) (hx : SmX nx) (hxs : nx.s.length ≤ 140737488355328) (ln : Nat) (Ts : List (List Nd)) (nT : Nat) (hnT : Ts.length = nT) (a : Option Addr) (cap : Nat) (an : Option Addr) (capn : Nat) (hS : ∀ T ∈ Ts, Sm T) (hfl : nT ≤ 20000) : JAll nx ln Ts nT a cap an capn := by
  by_cases hM : ∀ T ∈ Ts, Mayb okP T
  · obtain ⟨Fs, hFs, hok⟩ := may_forests Ts hM
    have h24 : ∀ W xa xc sv sc, CRow W sv Ts → Calls Try.prog 24 #[ndV nx xa ln xc, .slice sv nT sc] W (JoinPost W nx Ts) := fun W xa xc sv sc hC => join_any nx hx hxs xa ln xc Ts nT hnT sv sc W hC hS hfl
    have h25 : ∀ W, CRow W a Ts → Calls Try.prog 25 #[ndV nx an ln capn, .slice a nT cap] W (RJoinPost W nx Ts) := fun W hC => rjoin_any nx hx an ln capn Ts nT hnT a cap W hC hS hfl
    by_cases hbig : 16384 < 1 + (fo Fs).size
    · refine jall_nil nx ln Ts nT a cap an capn 3 (fun W xa xc sv sc hC => ?_) (fun W hC => ?_)
      · refine (h24 W xa xc sv sc hC).mono ?_
        rintro e w' ⟨hb, ⟨h, _⟩ | ⟨Gs, hG, _, ⟨_, he⟩ | ⟨h, _⟩⟩⟩
        · exact absurd hM h
        · exact ⟨he, hb⟩
        · have := fs_inj Fs Gs (hFs.symm.trans hG); subst this; omega
      · refine (h25 W hC).mono ?_
        rintro e w' ⟨hb, ⟨h, _⟩ | ⟨Gs, _, hG, _, ⟨_, he⟩ | ⟨h, _⟩⟩⟩
        · exact absurd hM h
        · exact ⟨he, hb⟩
        · have := fs_inj Fs Gs (hFs.symm.trans hG); subst this; omega
    · by_cases hck : ckE okP (.cons nx (fo Fs) .nil) = 0
      · have hl : ((Fo.cons nx (fo Fs) .nil).flat 0).length = 1 + (fo Fs).size := by rw [Fo.len_flat]; simp [Fo.size]
        have sP : Sm ((Fo.cons nx (fo Fs) .nil).flat 0) := by
          refine sm_flat (fun d hd => ?_) (by simp only [Fo.size]; omega)
          simp only [Fo.flat, List.append_nil, List.mem_cons] at hd
          rcases hd with rfl | hd
          · exact hx
          · exact fo_xs SmX (fun f hf d hd => ((hS (tr f) (by rw [hFs]; exact List.mem_map_of_mem hf)).d d hd).x) _ d hd
        refine ⟨0, fun lo hi W v m c => ∃ g cur, v = some ⟨g, 0, none⟩ ∧ m = ((Fo.cons nx (fo Fs) .nil).flat 0).length ∧ OC W lo hi g m ((Fo.cons nx (fo Fs) .nil).flat 0) m cur,
          fun lo W v m c => m = ((Fo.cons nx (fo Fs) .nil).flat 0).length ∧ ∃ ys, OG lo W (.slice v m c) ((Fo.cons nx (fo Fs) .nil).flat 0) ys, ?_, ?_, ?_, ?_, ?_⟩
        · rintro lo hi W W' v m c ⟨g, cur, rfl, rfl, h⟩ hk
          exact ⟨g, cur, rfl, rfl, h.keep hk⟩
        · rintro lo W W' v m c ⟨rfl, ys, h⟩ hb
          exact ⟨rfl, ys, h.below hb⟩
        · intro W xa xc sv sc hC
          refine (h24 W xa xc sv sc hC).mono ?_
          rintro e w' ⟨hb, ⟨h, _⟩ | ⟨Gs, hG, _, ⟨h, _⟩ | ⟨_, ⟨h, _⟩ | ⟨_, g, cur, he, hO⟩⟩⟩⟩
          · exact absurd hM h
          · have := fs_inj Fs Gs (hFs.symm.trans hG); subst this; omega
          · have := fs_inj Fs Gs (hFs.symm.trans hG); subst this; exact absurd hck h
          · have := fs_inj Fs Gs (hFs.symm.trans hG); subst this
            exact ⟨_, _, _, he, ⟨g, cur, rfl, hl.symm, hO⟩, hb⟩
        · intro W hC
          refine (h25 W hC).mono ?_
          rintro e w' ⟨hb, ⟨h, _⟩ | ⟨Gs, _, hG, _, ⟨h, _⟩ | ⟨_, ⟨h, _⟩ | ⟨_, v, ys, he, hO⟩⟩⟩⟩
          · exact absurd hM h
          · have := fs_inj Fs Gs (hFs.symm.trans hG); subst this; omega
          · have := fs_inj Fs Gs (hFs.symm.trans hG); subst this; exact absurd hck h
          · have := fs_inj Fs Gs (hFs.symm.trans hG); subst this
            obtain ⟨b, cp, rfl, _⟩ := hO.form
            exact ⟨_, _, _, he, ⟨rfl, ys, hO⟩, hb⟩
        · rintro W lo hi lo2 hi2 lo3 v1 m1 c1 v2 m2 c2 v3 m3 c3 ⟨g1, cur1, rfl, rfl, h1⟩ ⟨g2, cur2, rfl, rfl, h2⟩ ⟨rfl, ys, h3⟩ a1 a2 a3 a4
          have q1 := h1.gh
          have q2 := h2.gh
          have q3 := h2.lg
          exact held_yes _ sP lo hi g1 cur1 _ _ c1 c2 c3 W h1 (tapt_oc h2 rfl a1 a4) (tapt_og h3 (by omega)) (by omega)
      · refine jall_nil nx ln Ts nT a cap an capn (ckE okP (.cons nx (fo Fs) .nil)) (fun W xa xc sv sc hC => ?_) (fun W hC => ?_)
        · refine (h24 W xa xc sv sc hC).mono ?_
          rintro e w' ⟨hb, ⟨h, _⟩ | ⟨Gs, hG, _, ⟨h, _⟩ | ⟨_, ⟨h, he⟩ | ⟨h, _⟩⟩⟩⟩
          · exact absurd hM h
          · have := fs_inj Fs Gs (hFs.symm.trans hG); subst this; omega
          · have := fs_inj Fs Gs (hFs.symm.trans hG); subst this; exact ⟨he, hb⟩
          · have := fs_inj Fs Gs (hFs.symm.trans hG); subst this; exact absurd h hck
        · refine (h25 W hC).mono ?_
          rintro e w' ⟨hb, ⟨h, _⟩ | ⟨Gs, _, hG, _, ⟨h, _⟩ | ⟨_, ⟨h, he⟩ | ⟨h, _⟩⟩⟩⟩
          · exact absurd hM h
          · have := fs_inj Fs Gs (hFs.symm.trans hG); subst this; omega
          · have := fs_inj Fs Gs (hFs.symm.trans hG); subst this; exact ⟨he, hb⟩
          · have := fs_inj Fs Gs (hFs.symm.trans hG); subst this; exact absurd h hck
  · refine jall_nil nx ln Ts nT a cap an capn 2 (fun W xa xc sv sc hC => join_no nx xa ln xc Ts nT hnT sv sc W hC hS hfl hM) (fun W hC => ?_)
    refine (rjoin_any nx hx an ln capn Ts nT hnT a cap W hC hS hfl).mono ?_
    rintro e w' ⟨hb, ⟨_, he⟩ | ⟨Gs, h, _⟩⟩
    · exact ⟨he, hb⟩
    · exact absurd h hM
set_option maxRecDepth 100000 in
set_option maxHeartbeats 4000000 in
theorem joins_big1 (nx : Nx) (an : Option Addr) (ln capn nT : Nat) (a : Option Addr) (cap : Nat) (w : World) (h : 300 < nT) :
    Calls Try.prog 4 #[ndV nx an ln capn, .slice a nT cap] w fun e w' => e = .returned (.bool true) ∧ Below w.heap.size w w' := by
  have z1 : (300 : Int) < (nT : Int) := by omega
  have z1' : decide ((300 : Int) < (nT : Int)) = true := decide_eq_true z1
  have B1 : Below w.heap.size w (w.alloc (Ndo nx an ln capn)) := belA (Below.refl _ _)
  go_enter Try.func4, Try.ntmps4
  go_wp2_with (go_at_call 10; refine (awake_true _).mono ?_; rintro e w2 ⟨rfl, hb2⟩)
  exact bodyPost_ret (v := .bool true) (by simp [results, Try.results4, go_sem]) rfl ⟨rfl, below_aft B1 hb2⟩
set_option maxRecDepth 100000 in
set_option maxHeartbeats 4000000 in
theorem joins_big2 (nx : Nx) (an : Option Addr) (ln capn nT : Nat) (a : Option Addr) (cap : Nat) (w : World) (h : ¬ 300 < nT) (h2 : 16392 < ln) :
    Calls Try.prog 4 #[ndV nx an ln capn, .slice a nT cap] w fun e w' => e = .returned (.bool true) ∧ Below w.heap.size w w' := by
  have z1 : ¬ (300 : Int) < (nT : Int) := by omega
  have z1' : decide ((300 : Int) < (nT : Int)) = false := decide_eq_false z1
  have z2 : (16392 : Int) < (ln : Int) := by omega
  have z2' : decide ((16392 : Int) < (ln : Int)) = true := decide_eq_true z2
  have B1 : Below w.heap.size w (w.alloc (Ndo nx an ln capn)) := belA (Below.refl _ _)
  go_enter Try.func4, Try.ntmps4
  go_wp2_with (go_at_call 10; refine (awake_true _).mono ?_; rintro e w2 ⟨rfl, hb2⟩)
  exact bodyPost_ret (v := .bool true) (by simp [results, Try.results4, go_sem]) rfl ⟨rfl, below_aft B1 hb2⟩
theorem joins_walk (nx : Nx) (hx : SmX nx) (hxs : nx.s.length ≤ 140737488355328) (an : Option Addr) (L : List Int) (capn : Nat) (Ts : List (List Nd)) (a : Option Addr) (cap : Nat) (w : World) (hA : IRow w an L) (hC : CRow w a Ts) (hL : ∀ T ∈ Ts, Lg T) :
    Calls Try.prog 4 #[ndV nx an L.length capn, .slice a Ts.length cap] w fun e w' => e = .returned (.bool true) ∧ Below w.heap.size w w' := by
  by_cases h : 300 < Ts.length
  · exact joins_big1 nx an L.length capn Ts.length a cap w h
  · by_cases h2 : 16392 < L.length
    · exact joins_big2 nx an L.length capn Ts.length a cap w h h2
    · exact joins_main nx an L L.length capn rfl Ts Ts.length rfl a cap w hA hC hL (by omega) (by omega) (fun hF => joins_all nx hx hxs L.length Ts Ts.length rfl a cap an capn (fun T hT => (hL T hT).sm (hF T hT).1 (hF T hT).l) (by omega))
end Go.Proofs.Ytkidcmglidnaoaa
