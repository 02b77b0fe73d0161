import Derived.Test.YtkidcmglidnaoaaME
namespace Go.Proofs.Ytkidcmglidnaoaa
open Go.RowKit Go.Shelf
set_option linter.unusedVariables false
set_option linter.unusedSimpArgs false
/-- A node is as the reference asks. -/
def rAskB (T : List Nd) (d : Nd) : Bool := decide (d.l.length ≤ 16385) && (match kq T d.l with | none => false | some ks => fdB d.x && rcB d.x.k d.x.n ks)
theorem rask_long {T : List Nd} {d : Nd} (h : ¬ d.l.length ≤ 16385) : rAskB T d = false := by unfold rAskB; rw [decide_eq_false h]; rfl
theorem rask_out {T : List Nd} {d : Nd} {j : Nat} {c : Int} (h : d.l[j]? = some c) (hc : ¬ (0 ≤ c ∧ c < T.length)) : rAskB T d = false := by
  unfold rAskB
  rw [show kq T d.l = none by
    rw [kq_eq, if_neg]
    intro h'
    exact hc (of_decide_eq_true (List.all_eq_true.1 h' c (List.mem_of_getElem? h)))]
  simp
theorem rask_in {T : List Nd} {d : Nd} (h : d.l.length ≤ 16385) (hin : ∀ j c, j < d.l.length → d.l[j]? = some c → inT T c = true) : rAskB T d = (fdB d.x && rcB d.x.k d.x.n (d.l.map (kd T))) := by
  unfold rAskB
  rw [decide_eq_true h, Bool.true_and, kq_eq, if_pos]
  rw [List.all_eq_true]
  intro c hc
  obtain ⟨j, hj⟩ := List.getElem?_of_mem hc
  exact hin j c (List.getElem?_eq_some_iff.1 hj).1 hj
theorem fd_num {k : Nat} {p n : Int} {s : List UInt8} (h : fdB ⟨k, p, n, s⟩ = true) : k = 4 → 0 ≤ n ∧ n ≤ 8 := by
  rintro rfl
  unfold fdB at h
  simp only [Bool.and_eq_true] at h
  have := h.1.1.2
  simp [nuB] at this
  exact this
theorem row_slice46 {w : World} {B : Nat} {v : Value} {n : Nat} {xs : List Value} (h : w.ownsRow B 46 1 v n xs) : ∃ a c, v = .slice a n c := by
  rcases h.2 with ⟨rfl, rfl⟩ | ⟨g, cap, cur, rfl, _⟩
  · exact ⟨_, _, rfl⟩
  · exact ⟨_, _, rfl⟩
theorem krow_owns {w : World} {B : Nat} {a : Option Addr} {n c : Nat} {ks : List Nat} (h : w.ownsRow B 46 1 (.slice a n c) n (ks.map fun k : Nat => Value.int .u8 (k : Int))) : KRow w a ks := by
  intro hn
  rcases h.2 with ⟨h1, h2⟩ | ⟨g, cap, cur, h1, h2, h3, h4⟩
  · subst h2
    have hl := h.1
    rw [List.length_map] at hl
    exact absurd (List.length_eq_zero_iff.1 (by omega)) hn
  · simp only [Value.slice.injEq] at h1
    obtain ⟨rfl, -, -⟩ := h1
    have hc := World.ownsRow.cells h (g := g) rfl
    refine ⟨g, 0, rfl, (Array.getElem?_eq_some_iff.1 h3).1, fun i k hi => ?_⟩
    have := hc i (.int .u8 (k : Int)) (by rw [List.getElem?_map, hi]; rfl)
    rw [show (⟨g, 0, none⟩ : Addr).add i = ⟨g, 0 + i, none⟩ by unfold Addr.add; split <;> simp_all] at this
    exact this
def kxs (T : List Nd) (l : List Int) (m : Nat) : List Value := (l.take m).map fun c => .int .u8 (kd T c : Int)
theorem kxs_zero (T : List Nd) (l : List Int) : kxs T l 0 = [] := by simp [kxs]
theorem kxs_full (T : List Nd) (l : List Int) : kxs T l l.length = (l.map (kd T)).map fun k : Nat => Value.int .u8 (k : Int) := by simp [kxs]
theorem kxs_next {T : List Nd} {l : List Int} {m : Nat} {c : Int} (h : l[m]? = some c) : kxs T l (m + 1) = kxs T l m ++ [.int .u8 (kd T c : Int)] := by
  unfold kxs
  rw [List.take_add_one, h]
  simp
/-- While the kinds are being gathered. -/
structure AL (w W2 : World) (T : List Nd) (l : List Int) (v : Value) (m : Nat) (W : World) : Prop where
  own : W.ownsRow W2.heap.size 46 1 v m (kxs T l m)
  keep : Keep W2.heap.size W2 W
  bel : Below w.heap.size w W
theorem AL.vB {w W2 W : World} {T : List Nd} {l : List Int} {v : Value} {m : Nat} (h : AL w W2 T l v m W) : ∀ b, v.ownBlock = some b → W2.heap.size ≤ b := fun b e => (h.own.lt b e).1
theorem AL.step {w W2 W w4 : World} {T : List Nd} {l : List Int} {v v' : Value} {m : Nat} {o : Obj} {c : Int} (h : AL w W2 T l v m W) (hw : w.heap.size ≤ W2.heap.size) (hc : l[m]? = some c) (ho : w4.ownsRow W2.heap.size 46 1 v' (m + 1) (kxs T l m ++ [.int .u8 (kd T c : Int)])) (hg : (W.alloc o).grownBy w4 v.ownBlock) : AL w W2 T l v' (m + 1) w4 := by
  have hs := h.keep.size
  refine ⟨by rw [kxs_next hc]; exact ho, h.keep.trans ((Keep.alloc W _ hs).trans (Keep.grown hg (by simp; omega) h.vB)), ?_⟩
  exact (belA h.bel).grown hg (by simp; omega) (fun b e => Nat.le_trans hw (h.vB b e))
set_option maxRecDepth 100000 in
set_option maxHeartbeats 4000000 in
theorem rasks_any (T : List Nd) (a : Option Addr) (cap : Nat) (i : Nat) (d : Nd) (w : World) (hT : TAt w a T) (hS : Sm T) (hd : T[i]? = some d) :
    Calls Try.prog 40 #[trV a T.length cap, .int .i64 (i : Int)] w fun e w' => e = .returned (.bool (rAskB T d)) ∧ Below w.heap.size w w' := by
  obtain ⟨i46, hi46, hz460, hz461, hz462⟩ := info_parts Try.info46
  have hTn := hS.n
  have hSd := hS.d d (List.mem_of_getElem? hd)
  have hi : i < T.length := (List.getElem?_eq_some_iff.1 hd).1
  have A1 := At.new w (Tro a T.length cap)
  obtain ⟨c0, f0⟩ := A1.one
  have hB1 : Below w.heap.size w (w.alloc (Tro a T.length cap)) := belA (Below.refl _ _)
  have HS : Hid (Sm T) := hidE hS
  obtain ⟨g, off, rfl, hn'⟩ := (hT.below hB1) (by rintro rfl; simp at hi)
  obtain ⟨n0, n1, n2, n3, n4, al, capl, n5, n6⟩ := hn' i d hd
  have HT : Hid (TAt w (some ⟨g, off, none⟩) T) := hidE hT
  have HN6 : Hid (IRow (w.alloc (Tro (some ⟨g, off, none⟩) T.length cap)) al d.l) := hidE n6
  have i0 : (0 : Int) ≤ (i : Int) := by omega
  have i1 : (i : Int) < (T.length : Int) := by omega
  have hln := hSd.l
  have hsn := hSd.s
  obtain ⟨x, l⟩ := d
  obtain ⟨k, p, n, s⟩ := x
  simp only at *
  have HR1 : Hid (¬ l.length ≤ 16385 → rAskB T ⟨⟨k, p, n, s⟩, l⟩ = false) := fun h => rask_long h
  have HR2 : Hid (∀ (j : Nat) (c : Int), l[j]? = some c → ¬ (0 ≤ c ∧ c < T.length) → rAskB T ⟨⟨k, p, n, s⟩, l⟩ = false) := fun j c h hc => rask_out (d := ⟨⟨k, p, n, s⟩, l⟩) h hc
  have HR3 : Hid (l.length ≤ 16385 → (∀ j c, j < l.length → l[j]? = some c → inT T c = true) → rAskB T ⟨⟨k, p, n, s⟩, l⟩ = (fdB ⟨k, p, n, s⟩ && rcB k n (l.map (kd T)))) := fun h hin => rask_in (d := ⟨⟨k, p, n, s⟩, l⟩) h hin
  obtain ⟨r, hr⟩ : ∃ r, r = rAskB T ⟨⟨k, p, n, s⟩, l⟩ := ⟨_, rfl⟩
  rw [← hr] at HR1 HR2 HR3 ⊢
  clear hr hn' hT hS hSd n6 hd
  go_enter Try.func40, Try.ntmps40
  go_wp2_with fail
  obtain ⟨W2, hW2⟩ : ∃ W2, W2 = (w.alloc (Tro (some ⟨g, off, none⟩) T.length cap)).alloc (Ndo ⟨k, p, n, s⟩ al l.length capl) := ⟨_, rfl⟩
  have B2 : Below w.heap.size w W2 := by rw [hW2]; exact belA (belA (Below.refl _ _))
  have hs2 : W2.heap.size = w.heap.size + 2 := by rw [hW2]; simp
  have A1 : At W2 w.heap.size (Tro (some ⟨g, off, none⟩) T.length cap) := by rw [hW2]; exact at_fst _ _ _
  have A2 : At W2 (w.heap.size + 1) (Ndo ⟨k, p, n, s⟩ al l.length capl) := by rw [hW2]; exact at_snd _ _ _
  have HL : Hid (IRow W2 al l) := by rw [hW2]; exact hidE (HN6.out.below (belA (Below.refl _ _)))
  have HT2 : Hid (TAt W2 (some ⟨g, off, none⟩) T) := hidE (HT.out.below B2)
  rw [show (w.alloc (Obj.cells #[Value.slice (some ⟨g, off, none⟩) T.length cap] 24)).alloc (Obj.cells #[.int .u8 (k : Int), .int .i64 p, .int .i64 n, .string (str s), .slice al l.length capl] 48) = W2 from hW2.symm]
  have HA1 : Hid (At W2 w.heap.size (Tro (some ⟨g, off, none⟩) T.length cap)) := hidE A1
  have HA2 : Hid (At W2 (w.heap.size + 1) (Ndo ⟨k, p, n, s⟩ al l.length capl)) := hidE A2
  clear hW2 n0 n1 n2 n3 n4 n5 HT HN6 c0 f0 hB1 A1 A2
  go_loopw [6, 7] (fun v j W => ∃ m : Nat, m ≤ l.length ∧ m ≤ 16385 ∧ j = .int .i64 (m : Int) ∧ (∀ j c, j < m → l[j]? = some c → inT T c = true) ∧ AL w W2 T l v m W) (fun _ j _ => l.length - (intOf j).toNat)
  case atStart => exact ⟨0, Nat.zero_le _, Nat.zero_le _, rfl, fun j c h => absurd h (Nat.not_lt_zero j), ⟨by rw [kxs_zero]; exact World.ownsRow_nil _ _ _ _, Keep.refl _ _, B2⟩⟩
  case round =>
    obtain ⟨m, hm, hm2, rfl, hin, S⟩ := hrel
    have hkb := S.keep
    obtain ⟨c0, f0⟩ := (show At wr w.heap.size (Tro (some ⟨g, off, none⟩) T.length cap) from (hkb.same _ (by omega)).trans HA1.out).one
    obtain ⟨d0, d1, d2, d3, d4, df⟩ := (show At wr (w.heap.size + 1) (Ndo ⟨k, p, n, s⟩ al l.length capl) from (hkb.same _ (by omega)).trans HA2.out).nd
    have HIN : Hid (∀ j c, j < m → l[j]? = some c → inT T c = true) := hidE hin
    have HSS : Hid (AL w W2 T l _ m wr) := hidE S
    obtain ⟨sv, cv, hsv⟩ := row_slice46 S.own
    subst hsv
    have HSS : Hid (AL w W2 T l _ m wr) := hidE S
    have hwr : w.heap.size + 2 ≤ wr.heap.size := by have := hkb.size; omega
    have hown := S.own
    have BW : Below w.heap.size w wr := S.bel
    have VB : Hid (∀ b, (Value.slice sv m cv).ownBlock = some b → W2.heap.size ≤ b) := hidE S.vB
    by_cases hlt : m < l.length
    · obtain ⟨gl, ol, rfl, hgl, hlr⟩ := HL.out (by rintro rfl; simp at hlt)
      obtain ⟨c, hc⟩ : ∃ c, l[m]? = some c := ⟨_, List.getElem?_eq_getElem hlt⟩
      have cc := (hkb.cell hgl (o := ol + m)).trans (hlr m c hc)
      have m0 : (0 : Int) ≤ (m : Int) := by omega
      have m1 : (m : Int) < (l.length : Int) := by omega
      have m3 : IntKind.i64.wrap ((m : Int) + 1) = (m : Int) + 1 := by rw [IntKind.wrap_i64]; omega
      have HC : Hid (l[m]? = some c) := hidE hc
      clear hlr hc hin S
      by_cases hin : 0 ≤ c ∧ c < T.length
      · obtain ⟨h0, h1⟩ := hin
        obtain ⟨q, rfl⟩ : ∃ q : Nat, c = (q : Int) := ⟨c.toNat, by omega⟩
        have hq : q < T.length := by omega
        have hne : ¬ (q : Int) < 0 := by omega
        have hned : decide ((q : Int) < 0) = false := decide_eq_false hne
        have hge : ¬ (T.length : Int) ≤ (q : Int) := by omega
        have hged : decide ((T.length : Int) ≤ (q : Int)) = false := decide_eq_false hge
        by_cases hb : 16384 < m
        · have hbd : decide ((16384 : Int) < (m : Int)) = true := decide_eq_true (by omega)
          have hb2 : (16384 : Int) < (m : Int) := by omega
          have HRR : Hid (r = false) := hidE (HR1.out (by omega))
          clear hown HSS VB
          go_wp2_with fail
          go_ret
          exact ⟨ret_bool HRR.out.symm, BW⟩
        · have hbd : decide ((16384 : Int) < (m : Int)) = false := decide_eq_false (by omega)
          have hb2 : ¬ (16384 : Int) < (m : Int) := by omega
          obtain ⟨e, he⟩ : ∃ e, T[q]? = some e := ⟨_, List.getElem?_eq_getElem hq⟩
          obtain ⟨g', off', hgo, hn'⟩ := HT2.out (by rintro rfl; simp at hq)
          cases hgo
          obtain ⟨b0, b1, -⟩ := hn' q e he
          have bb := (hkb.cell b0 (o := off + q * 5)).trans b1
          have hkd : kd T (q : Int) = e.x.k := by simp [kd, he]
          have ho4 := World.ownsRow.alloc hown (.cells #[.int .u8 (e.x.k : Int)] 46)
          have news : ∀ j u, ([.int .u8 (e.x.k : Int)] : List Value)[j]? = some u → (wr.alloc (.cells #[.int .u8 (e.x.k : Int)] 46)).cell? ((⟨wr.heap.size, 0, none⟩ : Addr).add j) = some u := by
            intro j u hu
            have hN : (wr.alloc (.cells #[.int .u8 (e.x.k : Int)] 46)).heap[wr.heap.size]? = some (.cells #[.int .u8 (e.x.k : Int)] 46) := At.new wr _
            have hadd : (⟨wr.heap.size, 0, none⟩ : Addr).add j = ⟨wr.heap.size, j, none⟩ := by unfold Addr.add; split <;> simp_all
            rw [hadd]
            match j, hu with
            | 0, hu => simp at hu; rw [cell_of_row _ _ 0 _ _ _ hN, ← hu]; rfl
            | j + 1, hu => simp at hu
          have ones : ∀ u ∈ ([.int .u8 (e.x.k : Int)] : List Value), u.oneCell' = true := by
            intro u hu
            simp at hu
            rw [hu]; rfl
          have HKD : Hid (kd T (q : Int) = e.x.k) := hidE hkd
          have HQ : Hid (q < T.length) := hidE hq
          have HLT : Hid (m < l.length) := hidE hlt
          clear hn' he b0 b1 hkd hown VB h0 h1 hq
          go_wp2_with (at_builtin; refine wpList_append_own _ rfl _ _ 72 rfl W2.heap.size 46 i46 (.int .u8 0) 1 1 Try.underlying72 hi46 hz460 hz461 hz462 rfl (by decide) _ m _ rfl ho4 ⟨wr.heap.size, 0, none⟩ 1 1 [.int .u8 (e.x.k : Int)] rfl rfl news ones (by unfold maxLen; omega) (by omega) (by simp; omega) ?_; intro v' w4 ho5 hg4 hn4; obtain ⟨sa, sc, rfl⟩ := row_slice46 ho5)
          refine ⟨⟨m + 1, by omega, by omega, by go_num, fun j c hj hjc => ?_, HSS.out.step (by omega) HC.out (by rw [HKD.out]; exact ho5) hg4⟩, by simp [intOf]; omega⟩
          rcases Nat.lt_or_ge j m with h | h
          · exact HIN.out j c h hjc
          · obtain rfl : j = m := by omega
            rw [HC.out] at hjc
            cases hjc
            exact decide_eq_true ⟨by omega, by have := HQ.out; omega⟩
      · have HRR : Hid (r = false) := hidE (HR2.out m c HC.out hin)
        clear hown HSS VB
        by_cases hneg : c < 0
        · have hnd : decide (c < 0) = true := decide_eq_true hneg
          go_wp2_with fail
          go_ret
          exact ⟨ret_bool HRR.out.symm, BW⟩
        · have hnd : decide (c < 0) = false := decide_eq_false hneg
          have hge : (T.length : Int) ≤ c := by omega
          have hged : decide ((T.length : Int) ≤ c) = true := decide_eq_true hge
          go_wp2_with fail
          go_ret
          exact ⟨ret_bool HRR.out.symm, BW⟩
    · obtain rfl : m = l.length := by omega
      have lt : ¬ (l.length : Int) < (l.length : Int) := by omega
      have HRR : Hid (r = (fdB ⟨k, p, n, s⟩ && rcB k n (l.map (kd T)))) := hidE (HR3.out hm2 HIN.out)
      rw [kxs_full] at hown
      have HKR : Hid (KRow wr sv (l.map (kd T))) := hidE (krow_owns hown)
      have HA : Hid (At wr (w.heap.size + 1) (Ndo ⟨k, p, n, s⟩ al l.length capl)) := hidE ((hkb.same _ (by omega)).trans HA2.out)
      have HF := hidE (fields_any ⟨k, p, n, s⟩ al l.length capl wr hsn)
      have h255 : ∀ i d : Nat, (l.map (kd T))[i]? = some d → d ≤ 255 := by
        intro i d h
        rw [List.getElem?_map] at h
        obtain ⟨c, hc, rfl⟩ := Option.map_eq_some_iff.1 h
        unfold kd
        cases hT0 : T[c.toNat]? with
        | none => simp
        | some e => simpa using (HS.out.d e (List.mem_of_getElem? hT0)).k
      cases hfd : fdB ⟨k, p, n, s⟩ with
      | false =>
        rw [hfd] at HF HRR
        clear hown HSS VB hin S h255
        go_wp2_with (go_at_call 63; refine HF.out.mono ?_; rintro e w1 ⟨rfl, hb1⟩)
        go_ret
        exact ⟨ret_bool (by rw [HRR.out]; rfl), below_aft BW hb1⟩
      | true =>
        have HCH : Hid (∀ W, Below wr.heap.size wr W → Calls Try.prog 64 #[ndV ⟨k, p, n, s⟩ al l.length capl, .slice sv l.length cv] W fun e w' => e = .returned (.bool (rcB k n (l.map (kd T)))) ∧ Below W.heap.size W w') := hidE fun W hW => by
          have := children_any k p n s al l.length capl (l.map (kd T)) sv cv W (HKR.out.below hW) (by simpa using hln) h255 (fd_num hfd)
          simpa only [List.length_map] using this
        rw [hfd, Bool.true_and] at HRR
        rw [hfd] at HF
        clear hown HSS VB hin S h255
        go_wp2_with (first | (go_at_call 63; refine HF.out.mono ?_; rintro e w1 ⟨rfl, hb1⟩; obtain ⟨e0, e1, e2, e3, e4, ef⟩ := (At.below HA.out hb1).nd) | (go_at_call 64; refine (HCH.out _ hb1).mono ?_; rintro e w2 ⟨rfl, hb2⟩))
        go_ret
        exact ⟨ret_bool HRR.out.symm, below_aft (below_aft BW hb1) hb2⟩
end Go.Proofs.Ytkidcmglidnaoaa
