import Derived.Test.YtkidcmglidnaoaaJa
namespace Go.Proofs.Ytkidcmglidnaoaa
open Go.RowKit Go.Shelf
set_option linter.unusedVariables false
set_option linter.unusedSimpArgs false
/-- What the reference's Join answers. -/
def RJoinPost (w : World) (nx : Nx) (Ts : List (List Nd)) (e : Ending) (w' : World) : Prop :=
  Below w.heap.size w w' ∧
  (((¬ ∀ T ∈ Ts, Mayb okP T) ∧ e = .returned (.tuple #[trV none 0 0, .int .i64 2])) ∨
   ∃ Fs : List (Nx × Fo), (∀ T ∈ Ts, Mayb okP T) ∧ Ts = Fs.map tr ∧ (∀ f ∈ Fs, (Fo.cons f.1 f.2 .nil).all okP = true ∧ (Fo.cons f.1 f.2 .nil).deep ≤ 48) ∧
     ((16384 < 1 + (fo Fs).size ∧ e = .returned (.tuple #[trV none 0 0, .int .i64 3])) ∨
      (1 + (fo Fs).size ≤ 16384 ∧
        ((ckE okP (.cons nx (fo Fs) .nil) ≠ 0 ∧ e = .returned (.tuple #[trV none 0 0, .int .i64 (ckE okP (.cons nx (fo Fs) .nil))])) ∨
         (ckE okP (.cons nx (fo Fs) .nil) = 0 ∧ ∃ v ys, e = .returned (.tuple #[.agg #[v], .int .i64 0]) ∧ OG w.heap.size w' v ((Fo.cons nx (fo Fs) .nil).flat 0) ys)))))
theorem cke_same (f : Fo) : ckE rok f = ckE okP f := by
  unfold ckE
  by_cases h : f.all okP = true
  · rw [if_pos h, if_pos ((all_same f).1 h)]
  · rw [if_neg h, if_neg (fun g => h ((all_same f).2 g))]
/-- What stands in memory while the trees are laid. -/
def JJ (w : World) (lo sk : Nat) (nx : Nx) (T : List Nd) (L : List Int) (W : World) : Prop :=
  ∃ sv sc lv lc ys, OJ lo sk W (.slice sv T.length sc) (.slice lv L.length lc) T L ys ∧ At W w.heap.size (Ndo nx lv L.length lc) ∧ At W (w.heap.size + 1) (Tro none 0 0) ∧ At W sk (Tro sv T.length sc) ∧ Below w.heap.size w W
theorem JJ.start (w W : World) (nx : Nx) (h0 : At W w.heap.size (Ndo nx none 0 0)) (h1 : At W (w.heap.size + 1) (Tro none 0 0)) (hb : Below w.heap.size w W) :
    JJ w W.heap.size (W.heap.size + 1) nx [⟨nx, []⟩] [] ((W.alloc (Ndo nx none 0 0)).alloc (Tro (some ⟨W.heap.size, 0, none⟩) 1 1)) := by
  have A : At ((W.alloc (Ndo nx none 0 0)).alloc (Tro (some ⟨W.heap.size, 0, none⟩) 1 1)) W.heap.size (Ndo nx none 0 0) := at_fst _ _ _
  refine ⟨some ⟨W.heap.size, 0, none⟩, 1, none, 0, ndL nx (.slice none 0 0), ⟨⟨⟨rfl, .inr ⟨W.heap.size, 1, _, rfl, Nat.le_refl _, A, Nat.le_refl _, by unfold maxLen; omega, rfl, rfl⟩⟩, fun i d hd => ?_⟩, ⟨rfl, .inl ⟨rfl, rfl⟩⟩, fun b e => by simp [Value.ownBlock] at e, fun i u hu b e => ?_, by simp [Value.ownBlock], by simp [Value.ownBlock], by simp⟩, (h0.alloc _).alloc _, (h1.alloc _).alloc _, at_snd _ _ _, belA (belA hb)⟩
  · cases i with
    | zero =>
      simp at hd
      subst hd
      exact ⟨.slice none 0 0, ⟨rfl, rfl, rfl, rfl, rfl⟩, ⟨rfl, .inl ⟨rfl, rfl⟩⟩, fun b e => by simp [Value.ownBlock] at e⟩
    | succ i => simp at hd
  · have hi := (List.getElem?_eq_some_iff.1 hu).1
    simp only [List.length_cons, List.length_nil] at hi
    obtain rfl : i = 0 := by omega
    simp at hu
    subst hu
    simp [Value.ownBlock] at e
set_option maxRecDepth 100000 in
set_option maxHeartbeats 16000000 in
theorem rjoin_any (nx : Nx) (hx : SmX nx) (an : Option Addr) (ln capn : Nat) (Ts : List (List Nd)) (nT : Nat) (hnT : Ts.length = nT) (a : Option Addr) (cap : Nat) (w : World) (hC : CRow w a Ts) (hS : ∀ T ∈ Ts, Sm T) (hfl : nT ≤ 20000) :
    Calls Try.prog 25 #[ndV nx an ln capn, .slice a nT cap] w (RJoinPost w nx Ts) := by
  obtain ⟨i0, hi, hz0, hz1, hz2⟩ := info_parts Try.info48
  obtain ⟨i3, hi3, hz30, hz31, hz32⟩ := info_parts Try.info3
  obtain ⟨W2, hW2⟩ : ∃ W2, W2 = (w.alloc (Ndo nx an ln capn)).alloc (Tro none 0 0) := ⟨_, rfl⟩
  have B2 : Below w.heap.size w W2 := by rw [hW2]; exact belA (belA (Below.refl _ _))
  have A1 : At W2 w.heap.size (Ndo nx an ln capn) := by rw [hW2]; exact at_fst _ _ _
  have A2 : At W2 (w.heap.size + 1) (Tro none 0 0) := by rw [hW2]; exact at_snd _ _ _
  have HW2 : Hid ((w.alloc (.cells #[.int .u8 (nx.k : Int), .int .i64 nx.p, .int .i64 nx.n, .string (str nx.s), .slice an ln capn] 48)).alloc (.cells #[.slice none 0 0] 24) = W2) := hidE hW2.symm
  have HC : Hid (CRow w a Ts) := hidE hC
  have HS : Hid (∀ T ∈ Ts, Sm T) := hidE hS
  have HN : Hid (Ts.length = nT) := hidE hnT
  have HX : Hid (SmX nx) := hidE hx
  clear hW2 hC hS hnT hx
  go_enter Try.func25, Try.ntmps25
  go_wp2
  rw [HW2.out]
  go_loopw [6] (fun i W => ∃ k : Nat, k ≤ nT ∧ i = .int .i64 k ∧ (∀ T ∈ Ts.take k, Mayb okP T) ∧ At W w.heap.size (Ndo nx an ln capn) ∧ At W (w.heap.size + 1) (Tro none 0 0) ∧ Below w.heap.size w W) (fun i _ => nT - (intOf i).toNat)
  case atStart => exact ⟨0, Nat.zero_le _, rfl, fun T h => by simp at h, A1, A2, B2⟩
  case round =>
    obtain ⟨k, hk, rfl, hall, a1, a2, hB⟩ := hrel
    have HALL : Hid (∀ T ∈ Ts.take k, Mayb okP T) := hidE hall
    clear hall A1 A2 B2
    by_cases hlt : k < nT
    · have hlt' : k < Ts.length := by rw [HN.out]; exact hlt
      obtain ⟨T, hT⟩ : ∃ T, Ts[k]? = some T := ⟨_, List.getElem?_eq_getElem hlt'⟩
      have hTS := HS.out T (List.mem_of_getElem? hT)
      obtain ⟨gt, ot, rfl, hgt, hrow⟩ := HC.out (by rintro h; rw [h] at hlt'; simp at hlt')
      obtain ⟨ai, capi, q1, q2⟩ := hrow k T hT
      replace q1 := (hB.cell (p := ⟨gt, ot + k, none⟩) hgt).trans q1
      have k0 : (0 : Int) ≤ (k : Int) := by omega
      have k1 : (k : Int) < (nT : Int) := by omega
      have w3e : IntKind.i64.wrap ((k : Int) + 1) = (k : Int) + 1 := by rw [IntKind.wrap_i64]; omega
      have HT : Hid (Ts[k]? = some T) := hidE hT
      have hz1' := a1.lt
      have hz2' := a2.lt
      clear hrow hT hlt'
      by_cases hM : Mayb okP T
      · have HM : Hid (∀ W, Below w.heap.size w W → Calls Try.prog 48 #[trV ai T.length capi] W fun e w' => e = .returned (.bool true) ∧ Below W.heap.size W w') := hidE fun W hW => rmay_yes (q2.below hW) hTS hM
        have HMM : Hid (Mayb okP T) := hidE hM
        clear hM hTS
        go_wp2_with (go_at_call 48; refine (HM.out _ hB).mono ?_; rintro e w1 ⟨rfl, hb1⟩)
        refine ⟨⟨k + 1, by omega, by go_num, fun U hU => ?_, a1.below hb1, a2.below hb1, below_aft hB hb1⟩, by simp [intOf]; omega⟩
        rw [List.take_add_one, HT.out] at hU
        simp only [List.mem_append, Option.toList_some, List.mem_singleton] at hU
        rcases hU with hU | rfl
        · exact HALL.out U hU
        · exact HMM.out
      · have HM : Hid (∀ W, Below w.heap.size w W → Calls Try.prog 48 #[trV ai T.length capi] W fun e w' => e = .returned (.bool false) ∧ Below W.heap.size W w') := hidE fun W hW => rmay_no (q2.below hW) hTS hM
        have HMM : Hid (¬ Mayb okP T) := hidE hM
        clear hM hTS
        go_wp2_with (go_at_call 48; refine (HM.out _ hB).mono ?_; rintro e w1 ⟨rfl, hb1⟩; obtain ⟨x0, xf⟩ := (a2.below hb1).one)
        have r5 := ((a2.below hb1).setOne (.slice none 0 0)).one.1
        refine bodyPost_ret (v := .tuple #[trV none 0 0, .int .i64 2]) (by simp [results, Try.results25, go_sem, r5]) rfl ⟨(below_aft hB hb1).setCell (by simp) _, .inl ⟨fun h => HMM.out (h T (List.mem_of_getElem? HT.out)), rfl⟩⟩
    · obtain rfl : k = nT := by omega
      have hall : ∀ T ∈ Ts, Mayb okP T := fun T hT => HALL.out T (by rw [List.take_of_length_le (by rw [HN.out]; exact Nat.le_refl _)]; exact hT)
      obtain ⟨Fs, hFs, hok⟩ := may_forests Ts hall
      have HFM : Hid (∀ T ∈ Ts, Mayb okP T) := hidE hall
      have HFS : Hid (Ts = Fs.map tr ∧ ∀ f ∈ Fs, (Fo.cons f.1 f.2 .nil).all okP = true ∧ (Fo.cons f.1 f.2 .nil).deep ≤ 48) := hidE ⟨hFs, hok⟩
      obtain ⟨y0, y1, y2, y3, y4, yf⟩ := a1.nd
      have lt : ¬ (k : Int) < (k : Int) := by omega
      have hJ := JJ.start w (wr.setCell ⟨w.heap.size, 4, none⟩ (.slice none 0 0)) nx (a1.nd4 none 0 0) (a2.set (by show w.heap.size + 1 ≠ w.heap.size; omega) _) (hB.setCell (by show w.heap.size ≤ w.heap.size; omega) _)
      have hz2' := a2.lt
      rw [World.size_setCell] at hJ
      obtain ⟨lo, hlo⟩ : ∃ lo, lo = wr.heap.size := ⟨_, rfl⟩
      obtain ⟨W4, hW4⟩ : ∃ W4, W4 = ((wr.setCell ⟨w.heap.size, 4, none⟩ (.slice none 0 0)).alloc (Ndo nx none 0 0)).alloc (Tro (some ⟨wr.heap.size, 0, none⟩) 1 1) := ⟨_, rfl⟩
      rw [← hW4] at hJ
      have HW4 : Hid (((wr.setCell ⟨w.heap.size, 4, none⟩ (.slice none 0 0)).alloc (.cells #[.int .u8 (nx.k : Int), .int .i64 nx.p, .int .i64 nx.n, .string (str nx.s), .slice none 0 0] 48)).alloc (.cells #[.slice (some ⟨wr.heap.size, 0, none⟩) 1 1] 24) = W4) := hidE hW4.symm
      have D4 : At (wr.setCell ⟨w.heap.size, 4, none⟩ (.slice none 0 0)) w.heap.size (Ndo nx none 0 0) := a1.nd4 none 0 0
      obtain ⟨u0, u1, u2, u3, u4, uf⟩ := D4.nd
      clear hFs hok hall hW4 a1 a2 hB D4
      go_wp2
      rw [HW4.out]
      rw [← hlo] at hJ ⊢
      clear y0 y1 y2 y3 y4 yf u0 u1 u2 u3 u4 uf HW4
      have HJ : Hid (JJ w lo (lo + 1) nx [⟨nx, []⟩] [] W4) := hidE hJ
      have hlw : w.heap.size + 1 < lo := by omega
      clear hlo hJ hz2' HALL
      go_loopw [8, 9] (fun cn i W => ∃ q : Nat, q ≤ k ∧ i = .int .i64 q ∧ cn = .int .i64 (1 + (tot (Ts.take q) : Int)) ∧ W4 = W) (fun _ i _ => k - (intOf i).toNat)
      case atStart => exact ⟨0, Nat.zero_le _, rfl, by simp [tot], rfl⟩
      case round =>
        obtain ⟨q, hq, rfl, rfl, hW⟩ := hrel
        subst hW
        have htot : tot (Ts.take q) ≤ q * 20000 := tot_le (fun T hT => (HS.out T hT).n) q
        obtain ⟨bb0, cc0, dd0, ee0, ff0, HJ0, HJ1, HJ2, HJ3, HJB⟩ := HJ.out
        clear HJ0 HJ1 HJ2 HJ3
        by_cases hlt : q < k
        · have hlt' : q < Ts.length := by rw [HN.out]; exact hlt
          obtain ⟨T, hT⟩ : ∃ T, Ts[q]? = some T := ⟨_, List.getElem?_eq_getElem hlt'⟩
          have hTn := (HS.out T (List.mem_of_getElem? hT)).n
          obtain ⟨gt, ot, rfl, hgt, hrow⟩ := HC.out (by rintro h; rw [h] at hlt'; simp at hlt')
          obtain ⟨ai, capi, q1, q2⟩ := hrow q T hT
          replace q1 := (HJB.cell (p := ⟨gt, ot + q, none⟩) hgt).trans q1
          have k0 : (0 : Int) ≤ (q : Int) := by omega
          have k1 : (q : Int) < (k : Int) := by omega
          have w3e : IntKind.i64.wrap ((q : Int) + 1) = (q : Int) + 1 := by rw [IntKind.wrap_i64]; omega
          have w4e : IntKind.i64.wrap (1 + (tot (Ts.take q) : Int) + (T.length : Int)) = 1 + (tot (Ts.take q) : Int) + (T.length : Int) := by rw [IntKind.wrap_i64]; omega
          have HT : Hid (Ts[q]? = some T) := hidE hT
          clear hrow hT hlt' q2
          go_wp2_with fail
          refine ⟨⟨q + 1, by omega, by go_num, ?_, trivial⟩, by simp [intOf]; omega⟩
          rw [tot_take HT.out]
          congr 1
          omega
        · obtain rfl : q = k := by omega
          have lt : ¬ (q : Int) < (q : Int) := by omega
          have htf : tot (Ts.take q) = (fo Fs).size := by rw [List.take_of_length_le (by rw [HN.out]; exact Nat.le_refl _), HFS.out.1, tot_fo]
          rw [htf] at htot ⊢
          obtain ⟨cnt, hcnt⟩ : ∃ cnt, cnt = 1 + (fo Fs).size := ⟨_, rfl⟩
          have hci : (1 : Int) + ((fo Fs).size : Int) = (cnt : Int) := by omega
          rw [hci]
          have HCN : Hid (cnt = 1 + (fo Fs).size) := hidE hcnt
          clear htf hci htot hcnt
          by_cases hbig : 16384 < cnt
          · have z1 : (16384 : Int) < (cnt : Int) := by omega
            obtain ⟨sv, sc, lv, lc, ys, hJ, a0, a1, a2, hB⟩ := HJ.out
            obtain ⟨r0, rf⟩ := a1.one
            go_wp2
            have r5 := (a1.setOne (.slice none 0 0)).one.1
            refine bodyPost_ret (v := .tuple #[trV none 0 0, .int .i64 3]) (by simp [results, Try.results25, go_sem, r5]) rfl ⟨hB.setCell (by simp) _, .inr ⟨Fs, HFM.out, HFS.out.1, HFS.out.2, .inl ⟨by rw [← HCN.out]; exact hbig, rfl⟩⟩⟩
          · have z1 : ¬ (16384 : Int) < (cnt : Int) := by omega
            clear HJB
            go_wp2
            obtain ⟨nT, rfl⟩ : ∃ nT, nT = q := ⟨_, rfl⟩
            go_loopw [10] (fun i W => ∃ k : Nat, k ≤ nT ∧ i = .int .i64 k ∧ JJ w lo (lo + 1) nx (⟨nx, []⟩ :: (fo (Fs.take k)).flat 1) ((fo (Fs.take k)).starts 1) W) (fun i _ => nT - (intOf i).toNat)
            case atStart => exact ⟨0, Nat.zero_le _, rfl, HJ.out⟩
            case round =>
              obtain ⟨k, hk, rfl, hJ⟩ := hrel
              clear HJ
              obtain ⟨sv, sc, lv, lc, ys, hO, a0, a1, a2, hB⟩ := hJ
              obtain ⟨f, hf⟩ : ∃ f, f = fo (Fs.take k) := ⟨_, rfl⟩
              rw [← hf] at hO a0 a2
              obtain ⟨TB, hTB⟩ : ∃ TB, TB = (⟨nx, []⟩ : Nd) :: f.flat 1 := ⟨_, rfl⟩
              obtain ⟨L, hL⟩ : ∃ L, L = f.starts 1 := ⟨_, rfl⟩
              rw [← hTB, ← hL] at hO
              rw [← hL] at a0
              rw [← hTB] at a2
              obtain ⟨bb, hbb⟩ : ∃ bb, bb = TB.length := ⟨_, rfl⟩
              have hbf : bb = 1 + f.size := by rw [hbb, hTB, List.length_cons, Fo.len_flat]; omega
              have hFn : Fs.length = nT := by rw [← HN.out, HFS.out.1, List.length_map]
              have hLk : L.length = k := by rw [hL, Fo.len_starts, hf, fo_kinds, List.length_take]; omega
              rw [← hbb, hLk] at hO
              rw [hLk] at a0
              rw [← hbb] at a2
              have HF : Hid (f = fo (Fs.take k)) := hidE hf
              have HTB : Hid (TB = (⟨nx, []⟩ : Nd) :: f.flat 1) := hidE hTB
              have HL : Hid (L = f.starts 1) := hidE hL
              have HBB : Hid (bb = TB.length ∧ bb = 1 + f.size ∧ L.length = k) := hidE ⟨hbb, hbf, hLk⟩
              have hfs : f.size ≤ (fo Fs).size := by rw [hf]; exact fo_mono Fs k
              have hbc : bb ≤ cnt := by have := HCN.out; omega
              have hlow := a2.lt
              obtain ⟨x0, xf⟩ := a2.one
              obtain ⟨y0, y1, y2, y3, y4, yf⟩ := a0.nd
              clear hf hTB hL hbb hbf hLk hfs
              by_cases hkn : k < nT
              · obtain ⟨t, ht⟩ : ∃ t, Fs[k]? = some t := ⟨_, List.getElem?_eq_getElem (by omega)⟩
                have hTk : Ts[k]? = some (tr t) := by rw [HFS.out.1, List.getElem?_map, ht]; rfl
                have hTS := HS.out (tr t) (List.mem_of_getElem? hTk)
                obtain ⟨gr, orr, rfl, hgr, hrow⟩ := HC.out (by rintro h; rw [h] at hTk; simp at hTk)
                obtain ⟨ai, capi, p1, p2⟩ := hrow k (tr t) hTk
                obtain ⟨gt, ot, rfl, hnr⟩ := p2 (by intro h; have := tr_len t; rw [h] at this; simp at this; omega)
                obtain ⟨mk, hmk⟩ : ∃ mk, mk = (tr t).length := ⟨_, rfl⟩
                rw [← hmk] at p1
                have hmt : mk = 1 + t.2.size := by rw [hmk, tr_len]
                obtain ⟨TC, hTC⟩ : ∃ TC, TC = (Fo.cons t.1 t.2 .nil).flat bb := ⟨_, rfl⟩
                have hTCl : TC.length = mk := by rw [hTC, Fo.len_flat, hmt]; simp [Fo.size]
                have hTCm : TC = (tr t).map (Fo.mv (bb : Int)) := by rw [hTC, ← Fo.flat_mv, Nat.zero_add]
                have HTC : Hid (TC = (Fo.cons t.1 t.2 .nil).flat bb ∧ TC.length = mk ∧ TC = (tr t).map (Fo.mv (bb : Int)) ∧ mk = 1 + t.2.size) := hidE ⟨hTC, hTCl, hTCm, hmt⟩
                have hsum : bb + mk ≤ cnt := by
                  have e1 := fo_size ht
                  have e2 := fo_mono Fs (k + 1)
                  have e3 := HCN.out
                  rw [← HF.out] at e1
                  have := HBB.out.2.1
                  omega
                have HFK : Hid (Fs[k]? = some t) := hidE ht
                have HNR : Hid (∀ (i : Nat) d, (tr t)[i]? = some d → NAt w gt (ot + i * 5) d) := hidE hnr
                have HKD : Hid (∀ d ∈ tr t, d.l.length ≤ 20000 ∧ ∀ c ∈ d.l, 0 ≤ c ∧ c ≤ 20000) := hidE fun d hd => by
                  refine ⟨(hTS.d d hd).l, fun c hc => ?_⟩
                  have := (flat_kids _ 0 d hd).1 c hc
                  simp only [Fo.size] at this
                  omega
                have HMK : Hid (mk = (tr t).length) := hidE hmk
                have p0 := (hB.cell (p := ⟨gr, orr + k, none⟩) hgr).trans p1
                have k0 : (0 : Int) ≤ (k : Int) := by omega
                have k1 : (k : Int) < (nT : Int) := by omega
                have w3e : IntKind.i64.wrap ((k : Int) + 1) = (k : Int) + 1 := by rw [IntKind.wrap_i64]; omega
                obtain ⟨W5, hW5⟩ : ∃ W5, W5 = wr.alloc (.cells #[.int .i64 (bb : Int)] 3) := ⟨_, rfl⟩
                have K5 : Keep wr.heap.size wr W5 := by rw [hW5]; exact Keep.alloc _ _ (Nat.le_refl _)
                have hs5 : W5.heap.size = wr.heap.size + 1 := by rw [hW5]; simp
                have B5 : Below w.heap.size w W5 := by rw [hW5]; exact belA hB
                have O5 : OJ lo (lo + 1) W5 (.slice sv bb sc) (.slice lv k lc) TB L ys := hO.range K5.size (fun b _ hb => K5.same b hb)
                have E5 : At W5 wr.heap.size (.cells #[.int .i64 (bb : Int)] 3) := by rw [hW5]; exact At.new _ _
                have HW5 : Hid (wr.alloc (.cells #[.int .i64 (bb : Int)] 3) = W5) := hidE hW5.symm
                have HO5 : Hid (OJ lo (lo + 1) W5 (.slice sv bb sc) (.slice lv k lc) TB L ys) := hidE O5
                have HR5 : Hid (W5.ownsRow lo 3 1 (.slice lv k lc) k (iCells L)) := hidE (by have := O5.l; rw [HBB.out.2.2] at this; exact this)
                have HE5 : Hid (∀ j u, ([.int .i64 (bb : Int)] : List Value)[j]? = some u → W5.cell? ((⟨wr.heap.size, 0, none⟩ : Addr).add j) = some u) := hidE (World.news_of_block E5)
                have HA : Hid (At W5 w.heap.size (Ndo nx lv k lc) ∧ At W5 (w.heap.size + 1) (Tro none 0 0) ∧ At W5 (lo + 1) (Tro sv bb sc)) := hidE ⟨(K5.same _ (by omega)).trans a0, (K5.same _ (by omega)).trans a1, (K5.same _ (by omega)).trans a2⟩
                have HB5 : Hid (Below w.heap.size w W5) := hidE B5
                clear ht hTk hrow hnr hmk hmt hTC hTCl hTCm hTS hO a0 a1 a2 hB hW5 K5 B5 O5 E5 p2
                go_wp2_with (first
                  | (at_builtin; rw [HW5.out]; refine wpList_append_lies _ rfl (.tmp 61) (.tmp 63) 35 rfl lo 3 i3 (.int .i64 0) 1 8 Try.underlying35 hi3 hz30 hz31 hz32 rfl (by omega) (.slice lv k lc) k (iCells L) rfl HR5.out ⟨wr.heap.size, 0, none⟩ 1 1 [.int .i64 (bb : Int)] rfl rfl HE5.out (ones_one _) (by omega) (by unfold maxLen; omega) (by omega) (by omega) W5.heap.size rfl ?_; intro g7 c7 w7 ho7 hg7 hw7 hl7; have A7 : At w7 w.heap.size (Ndo nx lv k lc) := HA.out.1.grown hg7 (fun e => by have := (HR5.out.lt _ e.symm).1; omega); obtain ⟨z0, z1, z2, z3, z4, zf⟩ := A7.nd))
                obtain ⟨W8, hW8⟩ : ∃ W8, W8 = w7.setCell ⟨w.heap.size, 4, none⟩ (.slice (some ⟨g7, 0, none⟩) (k + 1) c7) := ⟨_, rfl⟩
                rw [← hW8]
                have hge7 : ∀ b, b < lo → some b ≠ Value.ownBlock (.slice lv k lc) := fun b hb e => by have := (HR5.out.lt _ e.symm).1; omega
                have hsk7 : some (lo + 1) ≠ Value.ownBlock (.slice lv k lc) := fun e => HO5.out.s3 e.symm
                obtain ⟨LL, hLL⟩ : ∃ LL, LL = L ++ [(bb : Int)] := ⟨_, rfl⟩
                have hLLl : LL.length = k + 1 := by rw [hLL, List.length_append, HBB.out.2.2]; rfl
                have O7 : OJ lo (lo + 1) w7 (.slice sv bb sc) (.slice (some ⟨g7, 0, none⟩) (k + 1) c7) TB LL ys := by
                  rw [hLL]
                  refine HO5.out.more hg7 (by rw [HBB.out.2.2]; exact ho7) (fun b e => ?_)
                  rcases hw7 with h | h
                  · left; rw [h, ← e]; simp [Value.ownBlock]
                  · right
                    have : g7 = b := by simpa [Value.ownBlock] using e
                    omega
                have J8 : JJ w lo (lo + 1) nx (TB ++ TC.take 0) LL W8 := by
                  rw [List.take_zero, List.append_nil]
                  have e1 : TB.length = bb := HBB.out.1.symm
                  refine ⟨sv, sc, some ⟨g7, 0, none⟩, c7, ys, ?_, ?_, ?_, ?_, ?_⟩
                  · rw [e1, hLLl, hW8]
                    exact O7.range (by simp) (fun b hb _ => Below.heap_setCell _ _ _ b (by show b ≠ w.heap.size; omega))
                  · rw [hLLl, hW8]
                    exact A7.nd4 _ _ _
                  · rw [hW8]
                    exact (HA.out.2.1.grown hg7 (hge7 _ (by omega))).set (by show w.heap.size + 1 ≠ w.heap.size; omega) _
                  · rw [e1, hW8]
                    exact (HA.out.2.2.grown hg7 hsk7).set (by show lo + 1 ≠ w.heap.size; omega) _
                  · rw [hW8]
                    exact (HB5.out.grown hg7 HB5.out.size (fun b e => by have := (HR5.out.lt _ e).1; omega)).setCell (by show w.heap.size ≤ w.heap.size; omega) _
                have HLL : Hid (LL = L ++ [(bb : Int)] ∧ LL.length = k + 1) := hidE ⟨hLL, hLLl⟩
                clear hW8 hge7 hsk7 hLL hLLl O7 A7 ho7 hg7 hw7 hl7 HA HB5 HR5 HO5 HE5 HW5 z0 z1 z2 z3 z4 zf x0 xf y0 y1 y2 y3 y4 yf p0 hs5
                go_wp2_with fail
                go_loopw [12] (fun v W => ∃ q : Nat, q ≤ mk ∧ v = .int .i64 (q : Int) ∧ JJ w lo (lo + 1) nx (TB ++ TC.take q) LL W) (fun v _ => mk - (intOf v).toNat)
                case atStart => exact ⟨0, Nat.zero_le _, rfl, J8⟩
                case round =>
                  obtain ⟨q, hq, rfl, hJ⟩ := hrel
                  clear J8
                  obtain ⟨wq, rfl⟩ : ∃ wq, wq = wr := ⟨_, rfl⟩
                  obtain ⟨sv2, sc2, lv2, lc2, ys2, hO, a0, a1, a2, hB⟩ := hJ
                  have hTl : (TB ++ TC.take q).length = bb + q := by rw [List.length_append, List.length_take, ← HBB.out.1, HTC.out.2.1]; omega
                  rw [hTl, HLL.out.2] at hO
                  rw [HLL.out.2] at a0
                  rw [hTl] at a2
                  have HTL : Hid ((TB ++ TC.take q).length = bb + q) := hidE hTl
                  have hlow2 := a2.lt
                  obtain ⟨x0, xf⟩ := a2.one
                  have p0 := (hB.cell (p := ⟨gr, orr + k, none⟩) hgr).trans p1
                  have q0' : (0 : Int) ≤ (q : Int) := by omega
                  have w4e : IntKind.i64.wrap ((q : Int) + 1) = (q : Int) + 1 := by rw [IntKind.wrap_i64]; omega
                  have HOq : Hid (OJ lo (lo + 1) wq (.slice sv2 (bb + q) sc2) (.slice lv2 (k + 1) lc2) (TB ++ TC.take q) LL ys2) := hidE hO
                  have HAq : Hid (At wq w.heap.size (Ndo nx lv2 (k + 1) lc2) ∧ At wq (w.heap.size + 1) (Tro none 0 0) ∧ At wq (lo + 1) (Tro sv2 (bb + q) sc2)) := hidE ⟨a0, a1, a2⟩
                  clear hTl hO a0 a1 a2
                  by_cases hqm : q < mk
                  · have q1' : (q : Int) < (mk : Int) := by omega
                    obtain ⟨d, hd⟩ : ∃ d, (tr t)[q]? = some d := ⟨_, List.getElem?_eq_getElem (by rw [← HMK.out]; exact hqm)⟩
                    have hkd := HKD.out d (List.mem_of_getElem? hd)
                    obtain ⟨q0, q1, q2, q3, q4, al, capl, q5, q6⟩ := HNR.out q d hd
                    obtain ⟨x, L0⟩ := d
                    obtain ⟨M, hM⟩ : ∃ M, M = L0.length := ⟨_, rfl⟩
                    dsimp only at q1 q2 q3 q4 q5 q6 hkd
                    rw [← hM] at q5 hkd
                    obtain ⟨L', hL'⟩ : ∃ L', L' = L0.map (· + (bb : Int)) := ⟨_, rfl⟩
                    have HD : Hid (TB ++ TC.take (q + 1) = (TB ++ TC.take q) ++ [⟨x, L'⟩]) := hidE (by
                      have : TC[q]? = some ⟨x, L'⟩ := by rw [HTC.out.2.2.1, List.getElem?_map, hd, hL']; rfl
                      rw [List.take_add_one, this, List.append_assoc]; rfl)
                    have HL2 : Hid (∀ (j : Nat) (cc : Int), L0[j]? = some cc → L'.take (j + 1) = L'.take j ++ [cc + (bb : Int)]) := hidE fun j cc hj => by
                      rw [List.take_add_one, hL', List.getElem?_map, hj]
                      rfl
                    have HLEN' : Hid (L'.length = M) := hidE (by rw [hL', List.length_map, hM])
                    have HLEN : Hid (M = L0.length) := hidE hM
                    have HLC : Hid (∀ c ∈ L0, 0 ≤ c ∧ c ≤ 20000) := hidE hkd.2
                    have hdl := hkd.1
                    have HIR : Hid (IRow w al L0) := hidE q6
                    have HBq : Hid (Below w.heap.size w wq) := hidE hB
                    have hBs := hB.size
                    replace q1 := (hB.cell q0).trans q1
                    replace q2 := (hB.cell q0).trans q2
                    replace q3 := (hB.cell q0).trans q3
                    replace q4 := (hB.cell q0).trans q4
                    have q5w := (hB.cell q0).trans q5
                    obtain ⟨bx, hbx⟩ : ∃ bx, bx = wq.heap.size := ⟨_, rfl⟩
                    obtain ⟨W6, hW6⟩ : ∃ W6, W6 = wq.alloc (Ndo x none 0 0) := ⟨_, rfl⟩
                    have D6 : At W6 bx (Ndo x none 0 0) := by rw [hW6, hbx]; exact At.new _ _
                    have K6 : Keep bx wq W6 := by rw [hW6]; exact Keep.alloc _ _ (by omega)
                    have B6 : Below w.heap.size w W6 := by rw [hW6]; exact belA hB
                    have HW6 : Hid (wq.alloc (.cells #[.int .u8 (x.k : Int), .int .i64 x.p, .int .i64 x.n, .string (str x.s), .slice none 0 0] 48) = W6) := hidE hW6.symm
                    have hbxl : lo + 1 < bx := by omega
                    clear hW6 hM hL' hd hkd q6 hB
                    go_wp2_with fail
                    rw [HW6.out]
                    rw [← hbx]
                    have HBX : Hid (bx = wq.heap.size) := hidE hbx
                    clear hbx HW6 q1 q2 q3 q4 q5w x0 xf p0
                    go_loopw [14] (fun v W => ∃ (j : Nat) (ua : Option Addr) (uc : Nat), j ≤ M ∧ v = .int .i64 (j : Int) ∧ At W bx (Ndo x ua j uc) ∧ W.ownsRow (bx + 1) 3 1 (.slice ua j uc) j (iCells (L'.take j)) ∧ Keep bx wq W ∧ Below w.heap.size w W) (fun v _ => M - (intOf v).toNat)
                    case atStart => exact ⟨0, none, 0, Nat.zero_le _, rfl, D6, ⟨rfl, .inl ⟨rfl, rfl⟩⟩, K6, B6⟩
                    case round =>
                      obtain ⟨j, ua, uc, hj, rfl, hDx, hR, hK, hB⟩ := hrel
                      clear D6 K6 B6
                      have HBi : Hid (Below w.heap.size w wr) := hidE hB
                      have HKi : Hid (Keep bx wq wr) := hidE hK
                      have hbw := hK.size
                      have hbxw := hDx.lt
                      replace p1 := (hB.cell (p := ⟨gr, orr + k, none⟩) hgr).trans p1
                      replace q5 := (hB.cell q0).trans q5
                      have hgt0 : gt < bx := by omega
                      have hgr0 : gr < bx := by
                        have : gr < w.heap.size := hgr
                        omega
                      obtain ⟨y0, y1, y2, y3, y4, yf⟩ := hDx.nd
                      by_cases hkm : j < M
                      · obtain ⟨gl, ol, rfl, hgl, hrl⟩ := HIR.out (by rintro rfl; have := HLEN.out; simp at this; omega)
                        obtain ⟨cc, hcc⟩ : ∃ cc, L0[j]? = some cc := ⟨_, List.getElem?_eq_getElem (by have := HLEN.out; omega)⟩
                        have hcb := HLC.out cc (List.mem_of_getElem? hcc)
                        have lc0 := (hB.cell hgl).trans (hrl j cc hcc)
                        have HL1 : Hid (iCells (L'.take (j + 1)) = iCells (L'.take j) ++ [.int .i64 (cc + (bb : Int))]) := hidE (by rw [HL2.out j cc hcc]; simp [iCells])
                        have hgl0 : gl < bx := by omega
                        have k2 : (0 : Int) ≤ (j : Int) := by omega
                        have k3 : (j : Int) < (M : Int) := by omega
                        have w5 : IntKind.i64.wrap ((j : Int) + 1) = (j : Int) + 1 := by rw [IntKind.wrap_i64]; omega
                        have w6 : IntKind.i64.wrap (cc + (bb : Int)) = cc + (bb : Int) := by rw [IntKind.wrap_i64]; omega
                        have hbw0 : w.heap.size ≤ bx := by omega
                        clear hB hK hrl hcc y0 y1 y2 y3 hcb
                        go_wp2_with fail
                        refine beginH (S := fun w' => Keep bx wr w') (fun _ _ _ _ _ h => h) (by kernel_rfl) (Keep.drew _ _) (fun hq hHeld => ?_)
                        refine takeH (i := 0) (d := 99) _ hq rfl rfl (by kernel_rfl) (by kernel_rfl) (by kernel_rfl) (by rfl) (fun W hSw => by (go_simp; try rfl)) hHeld ?_
                        try simp only [Act.put, List.setIfInBounds_toArray, List.set_cons_zero, List.set_cons_succ]
                        refine takeH (i := 2) (d := 101) _ hq rfl rfl (by kernel_rfl) (by kernel_rfl) (by kernel_rfl) (by rfl) (fun W hSw => by (go_simp; try rfl)) hHeld ?_
                        try simp only [Act.put, List.setIfInBounds_toArray, List.set_cons_zero, List.set_cons_succ]
                        refine takeH (i := 3) (d := 102) _ hq rfl rfl (by kernel_rfl) (by kernel_rfl) (by kernel_rfl) (by rfl) (fun W hSw => by (go_simp; try rfl)) hHeld ?_
                        try simp only [Act.put, List.setIfInBounds_toArray, List.set_cons_zero, List.set_cons_succ]
                        refine takeH (i := 4) (d := 103) (.pointer (some ⟨gr, orr + k, none⟩)) hq rfl rfl (by kernel_rfl) (by kernel_rfl) (by kernel_rfl) (by rfl) (fun W hSw => by (go_simp; try rfl)) hHeld ?_
                        try simp only [Act.put, List.setIfInBounds_toArray, List.set_cons_zero, List.set_cons_succ]
                        refine takeH (i := 5) (d := 104) _ hq rfl rfl (by kernel_rfl) (by kernel_rfl) (by kernel_rfl) (by rfl) (fun W hSw => by (go_simp; try rfl)) hHeld ?_
                        try simp only [Act.put, List.setIfInBounds_toArray, List.set_cons_zero, List.set_cons_succ]
                        refine takeH (i := 6) (d := 105) _ hq rfl rfl (by kernel_rfl) (by kernel_rfl) (by kernel_rfl) (by rfl) (fun W hSw => by (have s1 := (hSw.cell (b := gr) (o := orr + k) (by omega)).trans p1; go_simp; try rfl)) hHeld ?_
                        try simp only [Act.put, List.setIfInBounds_toArray, List.set_cons_zero, List.set_cons_succ]
                        refine takeH (i := 7) (d := 106) _ hq rfl rfl (by kernel_rfl) (by kernel_rfl) (by kernel_rfl) (by rfl) (fun W hSw => by (go_simp; try rfl)) hHeld ?_
                        try simp only [Act.put, List.setIfInBounds_toArray, List.set_cons_zero, List.set_cons_succ]
                        refine takeH (i := 8) (d := 107) (.pointer (some ⟨gt, ot + q * 5, none⟩)) hq rfl rfl (by kernel_rfl) (by kernel_rfl) (by kernel_rfl) (by rfl) (fun W hSw => by (go_simp; try rfl)) hHeld ?_
                        try simp only [Act.put, List.setIfInBounds_toArray, List.set_cons_zero, List.set_cons_succ]
                        refine takeH (i := 9) (d := 108) _ hq rfl rfl (by kernel_rfl) (by kernel_rfl) (by kernel_rfl) (by rfl) (fun W hSw => by (go_simp; try rfl)) hHeld ?_
                        try simp only [Act.put, List.setIfInBounds_toArray, List.set_cons_zero, List.set_cons_succ]
                        refine takeH (i := 10) (d := 109) _ hq rfl rfl (by kernel_rfl) (by kernel_rfl) (by kernel_rfl) (by rfl) (fun W hSw => by (have s1 := (hSw.cell (b := gt) (o := ot + q * 5 + 4) (by omega)).trans q5; go_simp; try rfl)) hHeld ?_
                        try simp only [Act.put, List.setIfInBounds_toArray, List.set_cons_zero, List.set_cons_succ]
                        refine takeH (i := 11) (d := 110) _ hq rfl rfl (by kernel_rfl) (by kernel_rfl) (by kernel_rfl) (by rfl) (fun W hSw => by (go_simp; try rfl)) hHeld ?_
                        try simp only [Act.put, List.setIfInBounds_toArray, List.set_cons_zero, List.set_cons_succ]
                        refine takeH (i := 12) (d := 111) (.pointer (some ⟨gl, ol + j, none⟩)) hq rfl rfl (by kernel_rfl) (by kernel_rfl) (by kernel_rfl) (by rfl) (fun W hSw => by (go_simp; try rfl)) hHeld ?_
                        try simp only [Act.put, List.setIfInBounds_toArray, List.set_cons_zero, List.set_cons_succ]
                        refine takeH (i := 13) (d := 112) _ hq rfl rfl (by kernel_rfl) (by kernel_rfl) (by kernel_rfl) (by rfl) (fun W hSw => by (have s1 := (hSw.cell (b := gl) (o := ol + j) (by omega)).trans lc0; go_simp; try rfl)) hHeld ?_
                        try simp only [Act.put, List.setIfInBounds_toArray, List.set_cons_zero, List.set_cons_succ]
                        refine takeH (i := 14) (d := 113) _ hq rfl rfl (by kernel_rfl) (by kernel_rfl) (by kernel_rfl) (by rfl) (fun W hSw => by (go_simp; try rfl)) hHeld ?_
                        try simp only [Act.put, List.setIfInBounds_toArray, List.set_cons_zero, List.set_cons_succ]
                        refine takeH (i := 15) (d := 114) (.int .i64 (cc + (bb : Int))) hq rfl rfl (by kernel_rfl) (by kernel_rfl) (by kernel_rfl) (by rfl) (fun W hSw => by (go_simp; try rfl)) hHeld ?_
                        try simp only [Act.put, List.setIfInBounds_toArray, List.set_cons_zero, List.set_cons_succ]
                        refine wpAnyH_ready (rs := [1, 16]) (by kernel_rfl) (by simp) ?_
                        refine AllReadyH.cons rfl (fun K hK => ?_) (AllReadyH.cons rfl (fun K hK => ?_) AllReadyH.nil)
                        · go_simp
                          go_wp2_with fail
                          refine hK.out _ _ (Keep.drew _ _) (fun hHeld => ?_)
                          clear hK K
                          try simp only [Act.put, List.setIfInBounds_toArray, List.set_cons_zero, List.set_cons_succ]
                          refine wpAnyH_ready (rs := [16]) (by kernel_rfl) (by simp) ?_
                          refine AllReadyH.cons rfl (fun K hK => ?_) AllReadyH.nil
                          go_simp
                          go_wp2_with fail
                          refine hK.out _ _ ((Keep.alloc wr _ (by omega)).trans (Keep.drew _ _)) (fun hHeld => ?_)
                          clear hK K
                          try simp only [Act.put, List.setIfInBounds_toArray, List.set_cons_zero, List.set_cons_succ]
                          have HRA : Hid ((wr.alloc (.cells #[.int .i64 (cc + (bb : Int))] 3)).drew.ownsRow (bx + 1) 3 1 (.slice ua j uc) j (iCells (L'.take j))) := hidE (owns_rng hR (fun b _ hb => Below.heap_alloc wr _ b hb))
                          refine wpAnyH_ready (rs := [17]) (by kernel_rfl) (by simp) ?_
                          refine AllReadyH.cons rfl (fun K hK => ?_) AllReadyH.nil
                          refine wp_append_lies _ (.tmp 100) (.tmp 115) 35 rfl (bx + 1) 3 i3 (.int .i64 0) 1 8 Try.underlying35 hi3 hz30 hz31 hz32 rfl (by omega) (.slice ua j uc) j (iCells (L'.take j)) rfl HRA.out ⟨wr.heap.size, 0, none⟩ 1 1 [.int .i64 (cc + (bb : Int))] rfl rfl (news_one wr _) (ones_one _) (by omega) (by unfold maxLen; omega) (by omega) (by show _ ≤ (wr.alloc _).heap.size; simp; omega) _ rfl ?_
                          intro g7 c7 w7 ho7 hg7 hw7 hl7
                          have hne : ∀ b, b < bx + 1 → some b ≠ Value.ownBlock (.slice ua j uc) := fun b hb e => by have := (hR.lt b e.symm).1; omega
                          have K7 : Keep bx wr w7 := ⟨by have h7 : (wr.alloc (.cells #[.int .i64 (cc + (bb : Int))] 3)).heap.size ≤ w7.heap.size := hg7.size; rw [World.size_alloc] at h7; omega, fun b hb => (hg7.block b (by show b < (wr.alloc _).heap.size; simp; omega) (hne b (by omega))).trans (Below.heap_alloc wr _ b (by omega))⟩
                          have D7 : At w7 bx (Ndo x ua j uc) := (show At (wr.alloc (.cells #[.int .i64 (cc + (bb : Int))] 3)).drew bx (Ndo x ua j uc) from hDx.alloc _).grown hg7 (hne bx (by omega))
                          refine hK.out _ _ K7 (fun hHeld => ?_)
                          clear hK K
                          try simp only [Act.put, List.setIfInBounds_toArray, List.set_cons_zero, List.set_cons_succ]
                          refine takeH (i := 18) (d := 117) _ hq rfl rfl (by kernel_rfl) (by kernel_rfl) (by kernel_rfl) (by rfl) (fun W hSw => by (go_simp; try rfl)) hHeld ?_
                          try simp only [Act.put, List.setIfInBounds_toArray, List.set_cons_zero, List.set_cons_succ]
                          obtain ⟨z0, z1, z2, z3, z4, zf⟩ := D7.nd
                          refine wpAnyH_ready (rs := [19]) (by kernel_rfl) (by simp) ?_
                          refine AllReadyH.cons rfl (fun K hK => ?_) AllReadyH.nil
                          go_simp
                          go_wp2_with fail
                          obtain ⟨W8, hW8⟩ : ∃ W8, W8 = w7.setCell ⟨bx, 4, none⟩ (.slice (some ⟨g7, 0, none⟩) (j + 1) c7) := ⟨_, rfl⟩
                          have K8 : Keep bx wr W8 := by
                            rw [hW8]
                            exact ⟨by rw [World.size_setCell]; exact K7.size, fun b hb => (Below.heap_setCell _ _ _ b (by show b ≠ bx; omega)).trans (K7.same b hb)⟩
                          refine hK.out _ _ (hW8 ▸ K8) (fun hHeld => ?_)
                          clear hK K
                          try simp only [Act.put, List.setIfInBounds_toArray, List.set_cons_zero, List.set_cons_succ]
                          refine wpAnyH_done (by kernel_rfl) ?_ _
                          rw [← hW8]
                          have D8 : At W8 bx (Ndo x (some ⟨g7, 0, none⟩) (j + 1) c7) := by rw [hW8]; exact D7.nd4 _ _ _
                          have R8 : W8.ownsRow (bx + 1) 3 1 (.slice (some ⟨g7, 0, none⟩) (j + 1) c7) (j + 1) (iCells (L'.take (j + 1))) := by
                            rw [hW8, HL1.out]
                            exact ho7.kept (grown_set (grown_refl w7 (some bx)) 4 _) (.inr (by have := (ho7.lt g7 rfl).1; simp [Value.ownBlock]; omega))
                          have B8 : Below w.heap.size w W8 := by
                            rw [hW8]
                            exact ((belA HBi.out).drew.grown hg7 (by show w.heap.size ≤ (wr.alloc _).heap.size; simp; omega) (fun b e => by have := (hR.lt b e).1; omega)).setCell (by show w.heap.size ≤ bx; omega) _
                          have KK : Keep bx wq W8 := HKi.out.trans K8
                          clear hW8 K7 K8 D7 z0 z1 z2 z3 z4 zf hHeld ho7 hg7 hl7
                          go_wp2_with fail
                          exact ⟨⟨j + 1, _, _, by omega, by go_num, D8, R8, KK, B8⟩, by simp [intOf]; omega⟩
                        · go_simp
                          go_wp2_with fail
                          refine hK.out _ _ ((Keep.alloc wr _ (by omega)).trans (Keep.drew _ _)) (fun hHeld => ?_)
                          clear hK K
                          try simp only [Act.put, List.setIfInBounds_toArray, List.set_cons_zero, List.set_cons_succ]
                          refine wpAnyH_ready (rs := [1]) (by kernel_rfl) (by simp) ?_
                          refine AllReadyH.cons rfl (fun K hK => ?_) AllReadyH.nil
                          go_simp
                          go_wp2_with fail
                          refine hK.out _ _ ((Keep.alloc wr _ (by omega)).trans (Keep.drew _ _)) (fun hHeld => ?_)
                          clear hK K
                          try simp only [Act.put, List.setIfInBounds_toArray, List.set_cons_zero, List.set_cons_succ]
                          have HRA : Hid ((wr.alloc (.cells #[.int .i64 (cc + (bb : Int))] 3)).drew.ownsRow (bx + 1) 3 1 (.slice ua j uc) j (iCells (L'.take j))) := hidE (owns_rng hR (fun b _ hb => Below.heap_alloc wr _ b hb))
                          refine wpAnyH_ready (rs := [17]) (by kernel_rfl) (by simp) ?_
                          refine AllReadyH.cons rfl (fun K hK => ?_) AllReadyH.nil
                          refine wp_append_lies _ (.tmp 100) (.tmp 115) 35 rfl (bx + 1) 3 i3 (.int .i64 0) 1 8 Try.underlying35 hi3 hz30 hz31 hz32 rfl (by omega) (.slice ua j uc) j (iCells (L'.take j)) rfl HRA.out ⟨wr.heap.size, 0, none⟩ 1 1 [.int .i64 (cc + (bb : Int))] rfl rfl (news_one wr _) (ones_one _) (by omega) (by unfold maxLen; omega) (by omega) (by show _ ≤ (wr.alloc _).heap.size; simp; omega) _ rfl ?_
                          intro g7 c7 w7 ho7 hg7 hw7 hl7
                          have hne : ∀ b, b < bx + 1 → some b ≠ Value.ownBlock (.slice ua j uc) := fun b hb e => by have := (hR.lt b e.symm).1; omega
                          have K7 : Keep bx wr w7 := ⟨by have h7 : (wr.alloc (.cells #[.int .i64 (cc + (bb : Int))] 3)).heap.size ≤ w7.heap.size := hg7.size; rw [World.size_alloc] at h7; omega, fun b hb => (hg7.block b (by show b < (wr.alloc _).heap.size; simp; omega) (hne b (by omega))).trans (Below.heap_alloc wr _ b (by omega))⟩
                          have D7 : At w7 bx (Ndo x ua j uc) := (show At (wr.alloc (.cells #[.int .i64 (cc + (bb : Int))] 3)).drew bx (Ndo x ua j uc) from hDx.alloc _).grown hg7 (hne bx (by omega))
                          refine hK.out _ _ K7 (fun hHeld => ?_)
                          clear hK K
                          try simp only [Act.put, List.setIfInBounds_toArray, List.set_cons_zero, List.set_cons_succ]
                          refine takeH (i := 18) (d := 117) _ hq rfl rfl (by kernel_rfl) (by kernel_rfl) (by kernel_rfl) (by rfl) (fun W hSw => by (go_simp; try rfl)) hHeld ?_
                          try simp only [Act.put, List.setIfInBounds_toArray, List.set_cons_zero, List.set_cons_succ]
                          obtain ⟨z0, z1, z2, z3, z4, zf⟩ := D7.nd
                          refine wpAnyH_ready (rs := [19]) (by kernel_rfl) (by simp) ?_
                          refine AllReadyH.cons rfl (fun K hK => ?_) AllReadyH.nil
                          go_simp
                          go_wp2_with fail
                          obtain ⟨W8, hW8⟩ : ∃ W8, W8 = w7.setCell ⟨bx, 4, none⟩ (.slice (some ⟨g7, 0, none⟩) (j + 1) c7) := ⟨_, rfl⟩
                          have K8 : Keep bx wr W8 := by
                            rw [hW8]
                            exact ⟨by rw [World.size_setCell]; exact K7.size, fun b hb => (Below.heap_setCell _ _ _ b (by show b ≠ bx; omega)).trans (K7.same b hb)⟩
                          refine hK.out _ _ (hW8 ▸ K8) (fun hHeld => ?_)
                          clear hK K
                          try simp only [Act.put, List.setIfInBounds_toArray, List.set_cons_zero, List.set_cons_succ]
                          refine wpAnyH_done (by kernel_rfl) ?_ _
                          rw [← hW8]
                          have D8 : At W8 bx (Ndo x (some ⟨g7, 0, none⟩) (j + 1) c7) := by rw [hW8]; exact D7.nd4 _ _ _
                          have R8 : W8.ownsRow (bx + 1) 3 1 (.slice (some ⟨g7, 0, none⟩) (j + 1) c7) (j + 1) (iCells (L'.take (j + 1))) := by
                            rw [hW8, HL1.out]
                            exact ho7.kept (grown_set (grown_refl w7 (some bx)) 4 _) (.inr (by have := (ho7.lt g7 rfl).1; simp [Value.ownBlock]; omega))
                          have B8 : Below w.heap.size w W8 := by
                            rw [hW8]
                            exact ((belA HBi.out).drew.grown hg7 (by show w.heap.size ≤ (wr.alloc _).heap.size; simp; omega) (fun b e => by have := (hR.lt b e).1; omega)).setCell (by show w.heap.size ≤ bx; omega) _
                          have KK : Keep bx wq W8 := HKi.out.trans K8
                          clear hW8 K7 K8 D7 z0 z1 z2 z3 z4 zf hHeld ho7 hg7 hl7
                          go_wp2_with fail
                          exact ⟨⟨j + 1, _, _, by omega, by go_num, D8, R8, KK, B8⟩, by simp [intOf]; omega⟩
                      · obtain rfl : j = M := by omega
                        have k3 : ¬ (j : Int) < (j : Int) := by omega
                        have htk : L'.take j = L' := List.take_of_length_le (by rw [HLEN'.out]; exact Nat.le_refl _)
                        rw [htk] at hR
                        obtain ⟨W9, hW9⟩ : ∃ W9, W9 = wr.alloc (Ndo x ua j uc) := ⟨_, rfl⟩
                        have hs9 : W9.heap.size = wr.heap.size + 1 := by rw [hW9]; simp
                        have K89 : Keep wr.heap.size wr W9 := by rw [hW9]; exact Keep.alloc _ _ (Nat.le_refl _)
                        have D9 : At W9 wr.heap.size (Ndo x ua j uc) := by rw [hW9]; exact At.new _ _
                        have B9 : Below w.heap.size w W9 := by rw [hW9]; exact belA hB
                        have K9 : Keep bx wq W9 := hK.trans ⟨K89.size, fun b hb => K89.same b (by omega)⟩
                        have hbq := HBX.out
                        have O9 : OJ lo (lo + 1) W9 (.slice sv2 (bb + q) sc2) (.slice lv2 (k + 1) lc2) (TB ++ TC.take q) LL ys2 := HOq.out.range (by omega) (fun b _ hb => K9.same b (by omega))
                        have U9 : W9.ownsRow (bx + 1) 3 1 (.slice ua j uc) j (iCells L') := by rw [hW9]; exact owns_rng hR (fun b _ hb => Below.heap_alloc wr _ b hb)
                        have a3' : At wr (lo + 1) (Tro sv2 (bb + q) sc2) := (hK.same _ (by omega)).trans HAq.out.2.2
                        obtain ⟨c0, f0⟩ := a3'.one
                        have HW9 : Hid (wr.alloc (.cells #[.int .u8 (x.k : Int), .int .i64 x.p, .int .i64 x.n, .string (str x.s), .slice ua j uc] 48) = W9) := hidE hW9.symm
                        have HO9 : Hid (OJ lo (lo + 1) W9 (.slice sv2 (bb + q) sc2) (.slice lv2 (k + 1) lc2) (TB ++ TC.take q) LL ys2) := hidE O9
                        have HU9 : Hid (W9.ownsRow (bx + 1) 3 1 (.slice ua j uc) j (iCells L')) := hidE U9
                        have HD9 : Hid (At W9 wr.heap.size (Ndo x ua j uc)) := hidE D9
                        have HB9 : Hid (Below w.heap.size w W9) := hidE B9
                        have HROW : Hid (W9.ownsRow lo 48 5 (.slice sv2 (bb + q) sc2) (bb + q) ys2) := hidE (by have := O9.og.row; rw [HTL.out] at this; exact this)
                        have HSV : Hid (∀ b, Value.ownBlock (.slice sv2 (bb + q) sc2) = some b → b < bx) := hidE fun b e => by have := (HOq.out.og.row.lt b e).2; omega
                        have HSL : Hid (∀ b, Value.ownBlock (.slice lv2 (k + 1) lc2) = some b → b < bx) := hidE fun b e => by have := (HOq.out.l.lt b e).2; omega
                        have A9a : At W9 w.heap.size (Ndo nx lv2 (k + 1) lc2) := (K9.same _ (by omega)).trans HAq.out.1
                        have A9b : At W9 (w.heap.size + 1) (Tro none 0 0) := (K9.same _ (by omega)).trans HAq.out.2.1
                        have A9c : At W9 (lo + 1) (Tro sv2 (bb + q) sc2) := (K9.same _ (by omega)).trans HAq.out.2.2
                        have HA9 : Hid (At W9 w.heap.size (Ndo nx lv2 (k + 1) lc2) ∧ At W9 (w.heap.size + 1) (Tro none 0 0) ∧ At W9 (lo + 1) (Tro sv2 (bb + q) sc2)) := hidE ⟨A9a, A9b, A9c⟩
                        have HUB : Hid (∀ b, Value.ownBlock (.slice ua j uc) = some b → bx + 1 ≤ b ∧ b < W9.heap.size) := hidE fun b e => U9.lt b e
                        clear hW9 K89 D9 B9 O9 U9 a3' hDx hR htk hK hB K9 hbq A9a A9b A9c
                        go_wp2_with (first
                          | (at_builtin; rw [HW9.out]; refine wpList_append_lies _ rfl (.tmp 119) (.tmp 121) 22 rfl lo 48 i0 (.agg #[.int .u8 0, .int .i64 0, .int .i64 0, .string ⟨#[]⟩, .slice none 0 0]) 5 64 Try.underlying22 hi hz0 hz1 hz2 rfl (by omega) (.slice sv2 (bb + q) sc2) (bb + q) ys2 rfl HROW.out ⟨wr.heap.size, 0, none⟩ 1 1 (ndL x (.slice ua j uc)) rfl rfl (news_nd HD9.out) (ones_nd _ _ _ _) (by omega) (by unfold maxLen; omega) (by omega) (by omega) W9.heap.size rfl ?_; intro gg c10 w10 ho10 hg10 hw10 hl10; have A10 : At w10 (lo + 1) (Tro sv2 (bb + q) sc2) := HA9.out.2.2.grown hg10 (fun e => HO9.out.s1 e.symm); obtain ⟨e0, ef⟩ := A10.one))
                        have S1 : OJ lo (lo + 1) w10 (.slice (some ⟨gg, 0, none⟩) (bb + q + 1) c10) (.slice lv2 (k + 1) lc2) ((TB ++ TC.take q) ++ [⟨x, L'⟩]) LL (ys2 ++ ndL x (.slice ua j uc)) := by
                          refine OJ.push (d := ⟨x, L'⟩) HO9.out (owns_low (show W9.ownsRow (bx + 1) 3 1 _ L'.length (iCells L') by rw [HLEN'.out]; exact HU9.out) (by omega)) (fun b e => ?_) (by rw [HTL.out]; exact ho10) hg10 (fun b e => ?_)
                          · have h2 := HUB.out b e
                            refine ⟨fun e' => ?_, fun e' => ?_, by omega, h2.2⟩
                            · have := HSV.out b e'; omega
                            · have := HSL.out b e'; omega
                          · rcases hw10 with h | h
                            · left; rw [h, ← e]; simp [Value.ownBlock]
                            · right
                              have : gg = b := by simpa [Value.ownBlock] using e
                              omega
                        have G10 : ∀ b o, b < lo → At W9 b o → At w10 b o := fun b o hb h => h.grown hg10 (fun e => by have := (HROW.out.lt _ e.symm).1; omega)
                        have hl10' : ((TB ++ TC.take q) ++ [(⟨x, L'⟩ : Nd)]).length = bb + q + 1 := by rw [List.length_append, HTL.out]; rfl
                        refine ⟨⟨q + 1, by omega, by go_num, ?_⟩, by simp [intOf]; omega⟩
                        rw [HD.out]
                        refine ⟨some ⟨gg, 0, none⟩, c10, lv2, lc2, ys2 ++ ndL x (.slice ua j uc), ?_, ?_, ?_, ?_, ?_⟩
                        · rw [hl10', HLL.out.2]
                          exact S1.box 0 _
                        · rw [HLL.out.2]
                          exact (G10 _ _ (by omega) HA9.out.1).set (by show w.heap.size ≠ lo + 1; omega) _
                        · exact (G10 _ _ (by omega) HA9.out.2.1).set (by show w.heap.size + 1 ≠ lo + 1; omega) _
                        · rw [hl10']
                          exact A10.setOne _
                        · exact (HB9.out.grown hg10 (by omega) (fun b e => by have := (HROW.out.lt b e).1; omega)).setCell (by show w.heap.size ≤ lo + 1; omega) _
                  · obtain rfl : q = mk := by omega
                    have q1' : ¬ (q : Int) < (q : Int) := by omega
                    clear x0 xf
                    go_wp2_with fail
                    have hTk2 : TC.take q = TC := List.take_of_length_le (by rw [HTC.out.2.1]; exact Nat.le_refl _)
                    refine ⟨⟨k + 1, by omega, by go_num, ?_⟩, by simp [intOf]; omega⟩
                    have e1 : (⟨nx, []⟩ : Nd) :: (fo (Fs.take (k + 1))).flat 1 = TB ++ TC := by
                      rw [fo_take HFK.out, ← HF.out, HTB.out, Fo.flat_app, HTC.out.1, HBB.out.2.1]
                      rfl
                    have e2 : (fo (Fs.take (k + 1))).starts 1 = LL := by
                      rw [fo_take HFK.out, ← HF.out, Fo.starts_app, HLL.out.1, HL.out, HBB.out.2.1]
                      rfl
                    rw [e1, e2]
                    have h1 := HOq.out
                    have h2 := HAq.out
                    have h3 := HTL.out
                    rw [hTk2] at h1 h3
                    refine ⟨sv2, sc2, lv2, lc2, ys2, ?_, ?_, h2.2.1, ?_, hB⟩
                    · rw [h3, HLL.out.2]; exact h1
                    · rw [HLL.out.2]; exact h2.1
                    · rw [h3]; exact h2.2.2
              · obtain rfl : k = nT := by omega
                have k1 : ¬ (k : Int) < (k : Int) := by omega
                have hff : f = fo Fs := by rw [HF.out, List.take_of_length_le (by omega)]
                have hbcn : bb = cnt := by have := HCN.out; have := HBB.out.2.1; rw [hff] at this; omega
                have HBC : Hid (bb = cnt) := hidE hbcn
                obtain ⟨sg, hsg⟩ : ∃ g, sv = some ⟨g, 0, none⟩ := by
                  rcases hO.og.row.2 with ⟨h, h0⟩ | ⟨g, c', cur, h, _⟩
                  · have := HBB.out.1; have := HBB.out.2.1; omega
                  · simp only [Value.slice.injEq] at h
                    exact ⟨g, h.1⟩
                subst hsg
                have hgl := hO.og.row.lt sg rfl
                obtain ⟨cur, hat, hcs⟩ : ∃ cur : Array Value, wr.heap[sg]? = some (.cells cur 48 (0, 0)) ∧ 5 ≤ cur.size := by
                  rcases hO.og.row.2 with ⟨h, h0⟩ | ⟨g, c', cur, h, _, hg, hle, _, hs, _⟩
                  · simp at h
                  · simp only [Value.slice.injEq, Option.some.injEq, Addr.mk.injEq, and_true] at h
                    obtain ⟨rfl, rfl, rfl⟩ := h
                    refine ⟨cur, hg, ?_⟩
                    have := HBB.out.1; have := HBB.out.2.1
                    have := Nat.mul_le_mul_right 5 hle
                    omega
                have hcell : ∀ o, wr.cell? ⟨sg, o, none⟩ = cur[o]? := fun o => by simp [World.cell?, hat]
                have f1 : ∀ o, wr.frozen? ⟨sg, o, none⟩ = false := fun o => frozen_of_row wr _ o _ 48 hat
                obtain ⟨e0, e0'⟩ : ∃ v, wr.cell? ⟨sg, 0, none⟩ = some v := by rw [hcell]; exact ⟨_, Array.getElem?_eq_getElem (by omega)⟩
                obtain ⟨e1, e1'⟩ : ∃ v, wr.cell? ⟨sg, 1, none⟩ = some v := by rw [hcell]; exact ⟨_, Array.getElem?_eq_getElem (by omega)⟩
                obtain ⟨e2, e2'⟩ : ∃ v, wr.cell? ⟨sg, 2, none⟩ = some v := by rw [hcell]; exact ⟨_, Array.getElem?_eq_getElem (by omega)⟩
                obtain ⟨e3, e3'⟩ : ∃ v, wr.cell? ⟨sg, 3, none⟩ = some v := by rw [hcell]; exact ⟨_, Array.getElem?_eq_getElem (by omega)⟩
                obtain ⟨e4, e4'⟩ : ∃ v, wr.cell? ⟨sg, 4, none⟩ = some v := by rw [hcell]; exact ⟨_, Array.getElem?_eq_getElem (by omega)⟩
                have zb : (0 : Int) < (bb : Int) := by have := HBB.out.2.1; omega
                clear hcell
                rw [HTB.out] at hO
                obtain ⟨ys', hR⟩ := hO.root nx
                have hTT : (⟨nx, L⟩ : Nd) :: f.flat 1 = (Fo.cons nx (fo Fs) .nil).flat 0 := by rw [HL.out, hff]; simp [Fo.flat]
                rw [hTT] at hR
                obtain ⟨TT, hTTe⟩ : ∃ TT, TT = (Fo.cons nx (fo Fs) .nil).flat 0 := ⟨_, rfl⟩
                have hTl : TT.length = bb := by rw [hTTe, Fo.len_flat]; simp only [Fo.size]; have := HBB.out.2.1; rw [hff] at this; omega
                have hsm : Sm TT := by
                  rw [hTTe]
                  refine sm_flat (fun d hd => ?_) (by simp only [Fo.size]; have := HCN.out; omega)
                  simp only [Fo.flat, List.append_nil, List.mem_cons] at hd
                  rcases hd with rfl | hd
                  · exact HX.out
                  · exact fo_xs SmX (fun f hf d hd => ((HS.out (tr f) (by rw [HFS.out.1]; exact List.mem_map_of_mem hf)).d d hd).x) _ d hd
                obtain ⟨er, her⟩ : ∃ er, er = ckE okP (.cons nx (fo Fs) .nil) := ⟨_, rfl⟩
                have HCK : Hid (∀ W aa cc, TAt W aa TT → Calls Try.prog 13 #[trV aa bb cc] W fun e w' => (∃ n : Int, e = .returned (.tuple #[.int .i64 n, .int .i64 er])) ∧ Below W.heap.size W w') := hidE fun W aa cc hT => by
                  have := rcheck_any TT aa cc W hT hsm
                  rw [hTl] at this
                  refine this.mono ?_
                  rintro e w' ⟨⟨n, v, he, hv⟩, hb⟩
                  have hv' : v = er := by
                    rw [hTTe] at hv
                    have := hv.whole (by have := HCN.out; omega)
                    rw [this, cke_same, her]
                  rw [hv'] at he
                  exact ⟨⟨n, he⟩, hb⟩
                rw [← hTTe] at hR
                have HER : Hid (er = ckE okP (.cons nx (fo Fs) .nil)) := hidE her
                have HTT : Hid (TT = (Fo.cons nx (fo Fs) .nil).flat 0 ∧ TT.length = bb) := hidE ⟨hTTe, hTl⟩
                obtain ⟨W5, hW5⟩ : ∃ W5, W5 = setNdL wr sg nx (.slice lv k lc) := ⟨_, rfl⟩
                rw [← hW5] at hR
                have hs5 : W5.heap.size = wr.heap.size := by rw [hW5, setNdL_size]
                have A1 : At W5 (w.heap.size + 1) (Tro none 0 0) := by rw [hW5]; exact (setNdL_off (by omega)).trans a1
                have hsgne : lo + 1 ≠ sg := fun e => by
                  have := hO.s1
                  rw [e] at this
                  exact this rfl
                have A2 : At W5 (lo + 1) (Tro (some ⟨sg, 0, none⟩) bb sc) := by rw [hW5]; exact (setNdL_off hsgne).trans a2
                have B5 : Below w.heap.size w W5 := by rw [hW5]; exact below_setNdL hB (by omega) _ _
                have HW5 : Hid (((((wr.setCell ⟨sg, 0, none⟩ (.int .u8 (nx.k : Int))).setCell ⟨sg, 1, none⟩ (.int .i64 nx.p)).setCell ⟨sg, 2, none⟩ (.int .i64 nx.n)).setCell ⟨sg, 3, none⟩ (.string (str nx.s))).setCell ⟨sg, 4, none⟩ (.slice lv k lc) = W5) := hidE hW5.symm
                have HR : Hid (OG lo W5 (.slice (some ⟨sg, 0, none⟩) bb sc) TT ys') := hidE hR
                have HRT : Hid (TAt W5 (some ⟨sg, 0, none⟩) TT) := hidE hR.tat
                clear hbcn hTT hTl hsm her hTTe hW5 hO hR hff hat hcs a0 a1 a2 hB
                have HA12 : Hid (At W5 (w.heap.size + 1) (Tro none 0 0) ∧ At W5 (lo + 1) (Tro (some ⟨sg, 0, none⟩) bb sc)) := hidE ⟨A1, A2⟩
                obtain ⟨r0, rf⟩ := A2.one
                by_cases hez : er = 0
                · have z3 : (er != 0) = false := by simp [hez]
                  go_wp2_with fail
                  rw [HW5.out]
                  go_wp2_with (first
                    | (go_at_call 13; refine (HCK.out _ _ _ HRT.out).mono ?_; rintro e w1 ⟨⟨n1, rfl⟩, hb1⟩; obtain ⟨t0, tf⟩ := (HA12.out.1.below hb1).one; obtain ⟨s0, sf⟩ := (HA12.out.2.below hb1).one))
                  have r5 := ((HA12.out.1.below hb1).setOne (.slice (some ⟨sg, 0, none⟩) bb sc)).one.1
                  refine bodyPost_ret (v := .tuple #[trV (some ⟨sg, 0, none⟩) bb sc, .int .i64 0]) (by simp [results, Try.results25, go_sem, r5]) rfl ⟨(below_aft B5 hb1).setCell (by show w.heap.size ≤ w.heap.size + 1; omega) _, .inr ⟨Fs, HFM.out, HFS.out.1, HFS.out.2, .inr ⟨?_, .inr ⟨?_, .slice (some ⟨sg, 0, none⟩) bb sc, ys', rfl, ?_⟩⟩⟩⟩
                  · have := HCN.out; omega
                  · rw [← HER.out]; exact hez
                  · rw [← HTT.out.1]
                    exact ((HR.out.below hb1).range (by simp) (fun b hb _ => Below.heap_setCell _ _ _ b (by show b ≠ w.heap.size + 1; omega))).low (by omega)
                · have z3 : (er != 0) = true := by simp [hez]
                  go_wp2_with fail
                  rw [HW5.out]
                  go_wp2_with (first
                    | (go_at_call 13; refine (HCK.out _ _ _ HRT.out).mono ?_; rintro e w1 ⟨⟨n1, rfl⟩, hb1⟩; obtain ⟨t0, tf⟩ := (HA12.out.1.below hb1).one; obtain ⟨s0, sf⟩ := (HA12.out.2.below hb1).one))
                  have r5 := ((HA12.out.1.below hb1).setOne (.slice none 0 0)).one.1
                  refine bodyPost_ret (v := .tuple #[trV none 0 0, .int .i64 er]) (by simp [results, Try.results25, go_sem, r5]) rfl ⟨(below_aft B5 hb1).setCell (by show w.heap.size ≤ w.heap.size + 1; omega) _, .inr ⟨Fs, HFM.out, HFS.out.1, HFS.out.2, .inr ⟨?_, .inl ⟨?_, by rw [← HER.out]⟩⟩⟩⟩
                  · have := HCN.out; omega
                  · rw [← HER.out]; exact hez
end Go.Proofs.Ytkidcmglidnaoaa
