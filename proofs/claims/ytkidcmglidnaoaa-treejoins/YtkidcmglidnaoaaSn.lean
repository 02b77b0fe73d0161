import Derived.Test.YtkidcmglidnaoaaMF
namespace Go.Proofs.Ytkidcmglidnaoaa
open Go.RowKit Go.Shelf
set_option linter.unusedVariables false
set_option linter.unusedSimpArgs false
/-- Two nodes that the reference holds to be the same (with their places or without). -/
def ndE (f : Bool) (d e : Nd) : Prop := d.x.k = e.x.k ∧ d.x.n = e.x.n ∧ d.x.s = e.x.s ∧ (f = true → d.x.p = e.x.p) ∧ d.l = e.l
def reqP (f : Bool) (T U : List Nd) : Prop := T.length = U.length ∧ ∀ (i : Nat) (d e : Nd), T[i]? = some d → U[i]? = some e → ndE f d e
set_option maxRecDepth 100000 in
set_option maxHeartbeats 4000000 in
theorem req_bool (T U : List Nd) (a b : Option Addr) (ca cb : Nat) (f : Bool) (w : World) (hT : TAt w a T) (hU : TAt w b U) (hS : Sm T) (hS2 : Sm U) (r : Bool) (hr : r = true ↔ reqP f T U) :
    Calls Try.prog 19 #[trV a T.length ca, trV b U.length cb, .bool f] w fun e w' => e = .returned (.bool r) ∧ Below w.heap.size w w' := by
  have HR1 : Hid (reqP f T U → r = true) := hidE hr.2
  have HR0 : Hid (¬ reqP f T U → r = false) := hidE fun h => by
    cases r with
    | false => rfl
    | true => exact absurd (hr.1 rfl) h
  clear hr
  obtain ⟨W2, hW2⟩ : ∃ W2, W2 = (w.alloc (Tro a T.length ca)).alloc (Tro b U.length cb) := ⟨_, rfl⟩
  have B2 : Below w.heap.size w W2 := by rw [hW2]; exact belA (belA (Below.refl _ _))
  have A1 : At W2 w.heap.size (Tro a T.length ca) := by rw [hW2]; exact at_fst _ _ _
  have A2 : At W2 (w.heap.size + 1) (Tro b U.length cb) := by rw [hW2]; exact at_snd _ _ _
  have hTn := hS.n
  have hUn := hS2.n
  obtain ⟨c0, f0⟩ := A1.one
  obtain ⟨d0, g0⟩ := A2.one
  have HT : Hid (TAt w a T) := hidE hT
  have HU : Hid (TAt w b U) := hidE hU
  have HS : Hid (Sm T ∧ Sm U) := hidE ⟨hS, hS2⟩
  have HW2 : Hid ((w.alloc (.cells #[.slice a T.length ca] 24)).alloc (.cells #[.slice b U.length cb] 24) = W2) := hidE hW2.symm
  clear hW2 hT hU hS hS2
  by_cases hn : T.length = U.length
  · have e1 : ((T.length : Int) != (U.length : Int)) = false := by simp [hn]
    obtain ⟨n, hnT⟩ : ∃ n, n = T.length := ⟨_, rfl⟩
    have hnU : n = U.length := by omega
    rw [← hnT] at c0 A1 HW2 hTn ⊢
    rw [← hnU] at d0 A2 HW2 hUn ⊢
    have HN : Hid (n = T.length ∧ n = U.length) := hidE ⟨hnT, hnU⟩
    clear hn hnT hnU e1
    go_enter Try.func19, Try.ntmps19
    (first | go_wp2 | skip)
    try rw [HW2.out]
    go_wp2
    go_loopw [7] (fun v W => ∃ i : Nat, i ≤ n ∧ v = .int .i64 (i : Int) ∧ Hid (∀ (j : Nat) d e, j < i → T[j]? = some d → U[j]? = some e → ndE f d e) ∧ At W w.heap.size (Tro a n ca) ∧ At W (w.heap.size + 1) (Tro b n cb) ∧ Below w.heap.size w W) (fun v _ => n - (intOf v).toNat)
    case atStart => exact ⟨0, Nat.zero_le _, rfl, fun j d e h => absurd h (Nat.not_lt_zero j), A1, A2, B2⟩
    case round =>
      obtain ⟨i, hi, rfl, HALL, hA, hA2, hB⟩ := hrel
      clear c0 f0 d0 g0 A1 A2 B2
      obtain ⟨c0, f0⟩ := hA.one
      obtain ⟨d0, g0⟩ := hA2.one
      have s1 : w.heap.size < wr.heap.size := hA.lt
      have s2 : w.heap.size + 1 < wr.heap.size := hA2.lt
      have i3 : IntKind.i64.wrap ((i : Int) + 1) = (i : Int) + 1 := by rw [IntKind.wrap_i64]; omega
      by_cases hin : i < n
      · obtain ⟨d, hd⟩ : ∃ d, T[i]? = some d := ⟨_, List.getElem?_eq_getElem (by have := HN.out.1; omega)⟩
        obtain ⟨e, he⟩ : ∃ e, U[i]? = some e := ⟨_, List.getElem?_eq_getElem (by have := HN.out.2; omega)⟩
        obtain ⟨g, off, rfl, hn1⟩ := (HT.out.below hB) (by rintro rfl; simp at hd)
        obtain ⟨g2, off2, rfl, hn2⟩ := (HU.out.below hB) (by rintro rfl; simp at he)
        obtain ⟨k0, k1, k2, k3, k4, al, capl, k5, k6⟩ := hn1 i d hd
        obtain ⟨l0, l1, l2, l3, l4, al2, capl2, l5, l6⟩ := hn2 i e he
        have i0 : (0 : Int) ≤ (i : Int) := by omega
        have i1 : (i : Int) < (n : Int) := by omega
        have HD : Hid (T[i]? = some d ∧ U[i]? = some e) := hidE ⟨hd, he⟩
        clear hn1 hn2 hd he
        obtain ⟨⟨dk, dp, dn, ds⟩, dl⟩ := d
        obtain ⟨⟨ek, ep, en, es⟩, el⟩ := e
        simp only at k1 k2 k3 k4 k5 k6 l1 l2 l3 l4 l5 l6
        go_wp2_with fail
        go_region
        · obtain ⟨W3, hW3⟩ : ∃ W3, W3 = ((wr.alloc (Ndo ⟨dk, dp, dn, ds⟩ al dl.length capl)).alloc (Ndo ⟨ek, ep, en, es⟩ al2 el.length capl2)).drew := ⟨_, rfl⟩
          have B3 : Below wr.heap.size wr W3 := by rw [hW3]; exact (belA (belA (Below.refl _ _))).drew
          have E3 : At W3 (wr.heap.size + 1) (Ndo ⟨ek, ep, en, es⟩ al2 el.length capl2) := by rw [hW3]; exact (at_snd _ _ _).drew
          have D3 : At W3 wr.heap.size (Ndo ⟨dk, dp, dn, ds⟩ al dl.length capl) := by rw [hW3]; exact (at_fst _ _ _).drew
          show Exit.then _ _ Exit.normal _ ((wr.alloc (Ndo ⟨dk, dp, dn, ds⟩ al dl.length capl)).alloc (Ndo ⟨ek, ep, en, es⟩ al2 el.length capl2)).drew
          rw [← hW3]
          have HNO : Hid (¬ ndE f ⟨⟨dk, dp, dn, ds⟩, dl⟩ ⟨⟨ek, ep, en, es⟩, el⟩ → r = false) := hidE fun h => HR0.out fun hh => h (hh.2 i _ _ HD.out.1 HD.out.2)
          have B03 : Below w.heap.size w W3 := below_aft hB B3
          have K6 : Hid (IRow W3 al dl) := hidE (k6.below B3)
          have L6 : Hid (IRow W3 al2 el) := hidE (l6.below B3)
          have HA3 : Hid (At W3 w.heap.size (Tro (some ⟨g, off, none⟩) n ca)) := hidE (hA.below B3)
          have HA23 : Hid (At W3 (w.heap.size + 1) (Tro (some ⟨g2, off2, none⟩) n cb)) := hidE (hA2.below B3)
          have HDl : Hid (dl.length ≤ 20000 ∧ el.length ≤ 20000) := hidE ⟨(HS.out.1.d _ (List.mem_of_getElem? HD.out.1)).l, (HS.out.2.d _ (List.mem_of_getElem? HD.out.2)).l⟩
          obtain ⟨bo, hbo⟩ : ∃ bo, bo = wr.heap.size := ⟨_, rfl⟩
          rw [← hbo] at E3 D3 ⊢
          clear hbo
          obtain ⟨x0, x1, x2, x3, x4, xf⟩ := D3.nd
          obtain ⟨y0, y1, y2, y3, y4, yf⟩ := E3.nd
          clear hW3 k0 k1 k2 k3 k4 k5 k6 l0 l1 l2 l3 l4 l5 l6 c0 f0 d0 g0
          by_cases q1 : dk = ek
          · subst q1
            by_cases q2 : dn = en
            · subst q2
              by_cases q3 : ds = es
              · subst q3
                by_cases q4 : f = true → dp = ep
                · have v4 : f = false ∨ f = true ∧ dp = ep := by
                    cases f with
                    | false => exact .inl rfl
                    | true => exact .inr ⟨rfl, q4 rfl⟩
                  have HQ4 : Hid (f = true → dp = ep) := hidE q4
                  clear q4
                  by_cases q5 : dl.length = el.length
                  · have z5 : ((dl.length : Int) != (el.length : Int)) = false := by simp [q5]
                    have HF : Hid (f = false ∨ f = true ∧ dp = ep) := hidE v4
                    clear v4
                    rcases HF.out with rfl | ⟨rfl, rfl⟩
                    · as_aux_lemma =>
                      go_wp2_with fail
                      clear x0 x1 x2 x3 x4 xf y0 y1 y2 y3 y4 yf
                      go_loopw [10] (fun v W => ∃ j : Nat, j ≤ dl.length ∧ v = .int .i64 (j : Int) ∧ Hid (∀ q : Nat, q < j → dl[q]? = el[q]?) ∧ Below W3.heap.size W3 W) (fun v _ => dl.length - (intOf v).toNat)
                      case atStart => exact ⟨0, Nat.zero_le _, rfl, fun q h => absurd h (Nat.not_lt_zero q), Below.refl _ _⟩
                      case round =>
                        obtain ⟨j, hj, rfl, HQ, hB4⟩ := hrel
                        obtain ⟨x0, x1, x2, x3, x4, xf⟩ := (D3.below hB4).nd
                        obtain ⟨y0, y1, y2, y3, y4, yf⟩ := (E3.below hB4).nd
                        have j3 : IntKind.i64.wrap ((j : Int) + 1) = (j : Int) + 1 := by rw [IntKind.wrap_i64]; have := HDl.out.1; omega
                        have HB4 : Hid (Below w.heap.size w wr) := hidE (below_aft B03 hB4)
                        by_cases hjl : j < dl.length
                        · have hjl2 : j < el.length := by omega
                          obtain ⟨gl, ol, rfl, hgl, hlr⟩ := (K6.out.below hB4) (by intro h; rw [h] at hjl; simp at hjl)
                          obtain ⟨ge, oe, rfl, hge, her⟩ := (L6.out.below hB4) (by intro h; rw [h] at hjl2; simp at hjl2)
                          obtain ⟨c, hc⟩ : ∃ c, dl[j]? = some c := ⟨_, List.getElem?_eq_getElem hjl⟩
                          obtain ⟨c', hc'⟩ : ∃ c', el[j]? = some c' := ⟨_, List.getElem?_eq_getElem hjl2⟩
                          have cc := hlr j c hc
                          have cc' := her j c' hc'
                          have j0 : (0 : Int) ≤ (j : Int) := by omega
                          have j1 : (j : Int) < (dl.length : Int) := by omega
                          have j2 : (j : Int) < (el.length : Int) := by omega
                          have HCC : Hid (dl[j]? = some c ∧ el[j]? = some c') := hidE ⟨hc, hc'⟩
                          clear hlr her hc hc'
                          by_cases hcc : c = c'
                          · subst hcc
                            go_wp2_with fail
                            go_region
                            go_wp2_with fail
                            refine ⟨⟨j + 1, by omega, by go_num, fun q hq => ?_, hB4.drew⟩, by simp [intOf]; omega⟩
                            rcases Nat.lt_or_ge q j with h | h
                            · exact HQ.out q h
                            · obtain rfl : q = j := by omega
                              rw [HCC.out.1, HCC.out.2]
                          · have zc : (c != c') = true := by simpa using hcc
                            have HRR : Hid (r = false) := hidE (HNO.out fun h => hcc (by
                              have h5 := h.2.2.2.2
                              simp only at h5
                              have := HCC.out
                              rw [h5, this.2] at this
                              exact (Option.some.inj this.1).symm))
                            clear hcc
                            go_wp2_with fail
                            go_region
                            go_wp2_with fail
                            go_ret
                            exact ⟨ret_bool HRR.out.symm, HB4.out.drew⟩
                        · obtain rfl : j = dl.length := by omega
                          have lt : ¬ (dl.length : Int) < (dl.length : Int) := by omega
                          have HEQ : Hid (dl = el) := hidE (by
                            apply List.ext_getElem?
                            intro q
                            rcases Nat.lt_or_ge q dl.length with h | h
                            · exact HQ.out q h
                            · rw [List.getElem?_eq_none h, List.getElem?_eq_none (by omega)])
                          clear q5 z5
                          go_wp2_with fail
                          refine ⟨⟨i + 1, by omega, by go_num, fun q d e hq hd he => ?_, HA3.out.below hB4, HA23.out.below hB4, HB4.out⟩, by simp [intOf]; omega⟩
                          rcases Nat.lt_or_ge q i with h | h
                          · exact HALL.out q d e h hd he
                          · obtain rfl : q = i := by omega
                            rw [HD.out.1] at hd
                            rw [HD.out.2] at he
                            cases hd
                            cases he
                            exact ⟨rfl, rfl, rfl, (fun h => by cases h), HEQ.out⟩
                    · as_aux_lemma =>
                      go_wp2_with fail
                      clear x0 x1 x2 x3 x4 xf y0 y1 y2 y3 y4 yf
                      go_loopw [10] (fun v W => ∃ j : Nat, j ≤ dl.length ∧ v = .int .i64 (j : Int) ∧ Hid (∀ q : Nat, q < j → dl[q]? = el[q]?) ∧ Below W3.heap.size W3 W) (fun v _ => dl.length - (intOf v).toNat)
                      case atStart => exact ⟨0, Nat.zero_le _, rfl, fun q h => absurd h (Nat.not_lt_zero q), Below.refl _ _⟩
                      case round =>
                        obtain ⟨j, hj, rfl, HQ, hB4⟩ := hrel
                        obtain ⟨x0, x1, x2, x3, x4, xf⟩ := (D3.below hB4).nd
                        obtain ⟨y0, y1, y2, y3, y4, yf⟩ := (E3.below hB4).nd
                        have j3 : IntKind.i64.wrap ((j : Int) + 1) = (j : Int) + 1 := by rw [IntKind.wrap_i64]; have := HDl.out.1; omega
                        have HB4 : Hid (Below w.heap.size w wr) := hidE (below_aft B03 hB4)
                        by_cases hjl : j < dl.length
                        · have hjl2 : j < el.length := by omega
                          obtain ⟨gl, ol, rfl, hgl, hlr⟩ := (K6.out.below hB4) (by intro h; rw [h] at hjl; simp at hjl)
                          obtain ⟨ge, oe, rfl, hge, her⟩ := (L6.out.below hB4) (by intro h; rw [h] at hjl2; simp at hjl2)
                          obtain ⟨c, hc⟩ : ∃ c, dl[j]? = some c := ⟨_, List.getElem?_eq_getElem hjl⟩
                          obtain ⟨c', hc'⟩ : ∃ c', el[j]? = some c' := ⟨_, List.getElem?_eq_getElem hjl2⟩
                          have cc := hlr j c hc
                          have cc' := her j c' hc'
                          have j0 : (0 : Int) ≤ (j : Int) := by omega
                          have j1 : (j : Int) < (dl.length : Int) := by omega
                          have j2 : (j : Int) < (el.length : Int) := by omega
                          have HCC : Hid (dl[j]? = some c ∧ el[j]? = some c') := hidE ⟨hc, hc'⟩
                          clear hlr her hc hc'
                          by_cases hcc : c = c'
                          · subst hcc
                            go_wp2_with fail
                            go_region
                            go_wp2_with fail
                            refine ⟨⟨j + 1, by omega, by go_num, fun q hq => ?_, hB4.drew⟩, by simp [intOf]; omega⟩
                            rcases Nat.lt_or_ge q j with h | h
                            · exact HQ.out q h
                            · obtain rfl : q = j := by omega
                              rw [HCC.out.1, HCC.out.2]
                          · have zc : (c != c') = true := by simpa using hcc
                            have HRR : Hid (r = false) := hidE (HNO.out fun h => hcc (by
                              have h5 := h.2.2.2.2
                              simp only at h5
                              have := HCC.out
                              rw [h5, this.2] at this
                              exact (Option.some.inj this.1).symm))
                            clear hcc
                            go_wp2_with fail
                            go_region
                            go_wp2_with fail
                            go_ret
                            exact ⟨ret_bool HRR.out.symm, HB4.out.drew⟩
                        · obtain rfl : j = dl.length := by omega
                          have lt : ¬ (dl.length : Int) < (dl.length : Int) := by omega
                          have HEQ : Hid (dl = el) := hidE (by
                            apply List.ext_getElem?
                            intro q
                            rcases Nat.lt_or_ge q dl.length with h | h
                            · exact HQ.out q h
                            · rw [List.getElem?_eq_none h, List.getElem?_eq_none (by omega)])
                          clear q5 z5
                          go_wp2_with fail
                          refine ⟨⟨i + 1, by omega, by go_num, fun q d e hq hd he => ?_, HA3.out.below hB4, HA23.out.below hB4, HB4.out⟩, by simp [intOf]; omega⟩
                          rcases Nat.lt_or_ge q i with h | h
                          · exact HALL.out q d e h hd he
                          · obtain rfl : q = i := by omega
                            rw [HD.out.1] at hd
                            rw [HD.out.2] at he
                            cases hd
                            cases he
                            exact ⟨rfl, rfl, rfl, fun _ => rfl, HEQ.out⟩
                  · have z5 : ((dl.length : Int) != (el.length : Int)) = true := by simpa using (by omega : ¬ (dl.length : Int) = (el.length : Int))
                    have HRR : Hid (r = false) := hidE (HNO.out fun h => q5 (by have := h.2.2.2.2; simp only at this; rw [this]))
                    rcases v4 with rfl | ⟨rfl, rfl⟩
                    · as_aux_lemma =>
                      go_wp2_with fail
                      go_ret
                      exact ⟨ret_bool HRR.out.symm, B03⟩
                    · as_aux_lemma =>
                      go_wp2_with fail
                      go_ret
                      exact ⟨ret_bool HRR.out.symm, B03⟩
                · have HRR : Hid (r = false) := hidE (HNO.out fun h => q4 h.2.2.2.1)
                  have hf : f = true := Classical.byContradiction fun h => q4 fun g => absurd g h
                  subst hf
                  have z4 : (dp != ep) = true := by simpa using (fun h => q4 fun _ => h : ¬ dp = ep)
                  clear q4
                  go_wp2_with fail
                  go_ret
                  exact ⟨ret_bool HRR.out.symm, B03⟩
              · have HRR : Hid (r = false) := hidE (HNO.out fun h => q3 h.2.2.1)
                have hs2 : (str ds).toList ≠ (str es).toList := by rw [str_toList, str_toList]; exact q3
                have hs3 : ((str ds).toList == (str es).toList) = false := by simpa using hs2
                have hs4 : ¬ str ds = str es := fun h => q3 (str_inj h)
                go_wp2_with fail
                go_ret
                exact ⟨ret_bool HRR.out.symm, B03⟩
            · have HRR : Hid (r = false) := hidE (HNO.out fun h => q2 h.2.1)
              have z2 : (dn != en) = true := by simpa using q2
              go_wp2_with fail
              go_ret
              exact ⟨ret_bool HRR.out.symm, B03⟩
          · have HRR : Hid (r = false) := hidE (HNO.out fun h => q1 h.1)
            have z1 : ((dk : Int) != (ek : Int)) = true := by simpa using (by omega : ¬ (dk : Int) = (ek : Int))
            have z1' : (dk != ek) = true := by simpa using q1
            go_wp2_with fail
            go_ret
            exact ⟨ret_bool HRR.out.symm, B03⟩
        · obtain ⟨W3, hW3⟩ : ∃ W3, W3 = ((wr.alloc (Ndo ⟨ek, ep, en, es⟩ al2 el.length capl2)).alloc (Ndo ⟨dk, dp, dn, ds⟩ al dl.length capl)).drew := ⟨_, rfl⟩
          have B3 : Below wr.heap.size wr W3 := by rw [hW3]; exact (belA (belA (Below.refl _ _))).drew
          have E3 : At W3 wr.heap.size (Ndo ⟨ek, ep, en, es⟩ al2 el.length capl2) := by rw [hW3]; exact (at_fst _ _ _).drew
          have D3 : At W3 (wr.heap.size + 1) (Ndo ⟨dk, dp, dn, ds⟩ al dl.length capl) := by rw [hW3]; exact (at_snd _ _ _).drew
          show Exit.then _ _ Exit.normal _ ((wr.alloc (Ndo ⟨ek, ep, en, es⟩ al2 el.length capl2)).alloc (Ndo ⟨dk, dp, dn, ds⟩ al dl.length capl)).drew
          rw [← hW3]
          have HNO : Hid (¬ ndE f ⟨⟨dk, dp, dn, ds⟩, dl⟩ ⟨⟨ek, ep, en, es⟩, el⟩ → r = false) := hidE fun h => HR0.out fun hh => h (hh.2 i _ _ HD.out.1 HD.out.2)
          have B03 : Below w.heap.size w W3 := below_aft hB B3
          have K6 : Hid (IRow W3 al dl) := hidE (k6.below B3)
          have L6 : Hid (IRow W3 al2 el) := hidE (l6.below B3)
          have HA3 : Hid (At W3 w.heap.size (Tro (some ⟨g, off, none⟩) n ca)) := hidE (hA.below B3)
          have HA23 : Hid (At W3 (w.heap.size + 1) (Tro (some ⟨g2, off2, none⟩) n cb)) := hidE (hA2.below B3)
          have HDl : Hid (dl.length ≤ 20000 ∧ el.length ≤ 20000) := hidE ⟨(HS.out.1.d _ (List.mem_of_getElem? HD.out.1)).l, (HS.out.2.d _ (List.mem_of_getElem? HD.out.2)).l⟩
          obtain ⟨bo, hbo⟩ : ∃ bo, bo = wr.heap.size := ⟨_, rfl⟩
          rw [← hbo] at E3 D3 ⊢
          clear hbo
          obtain ⟨x0, x1, x2, x3, x4, xf⟩ := D3.nd
          obtain ⟨y0, y1, y2, y3, y4, yf⟩ := E3.nd
          clear hW3 k0 k1 k2 k3 k4 k5 k6 l0 l1 l2 l3 l4 l5 l6 c0 f0 d0 g0
          by_cases q1 : dk = ek
          · subst q1
            by_cases q2 : dn = en
            · subst q2
              by_cases q3 : ds = es
              · subst q3
                by_cases q4 : f = true → dp = ep
                · have v4 : f = false ∨ f = true ∧ dp = ep := by
                    cases f with
                    | false => exact .inl rfl
                    | true => exact .inr ⟨rfl, q4 rfl⟩
                  have HQ4 : Hid (f = true → dp = ep) := hidE q4
                  clear q4
                  by_cases q5 : dl.length = el.length
                  · have z5 : ((dl.length : Int) != (el.length : Int)) = false := by simp [q5]
                    have HF : Hid (f = false ∨ f = true ∧ dp = ep) := hidE v4
                    clear v4
                    rcases HF.out with rfl | ⟨rfl, rfl⟩
                    · as_aux_lemma =>
                      go_wp2_with fail
                      clear x0 x1 x2 x3 x4 xf y0 y1 y2 y3 y4 yf
                      go_loopw [10] (fun v W => ∃ j : Nat, j ≤ dl.length ∧ v = .int .i64 (j : Int) ∧ Hid (∀ q : Nat, q < j → dl[q]? = el[q]?) ∧ Below W3.heap.size W3 W) (fun v _ => dl.length - (intOf v).toNat)
                      case atStart => exact ⟨0, Nat.zero_le _, rfl, fun q h => absurd h (Nat.not_lt_zero q), Below.refl _ _⟩
                      case round =>
                        obtain ⟨j, hj, rfl, HQ, hB4⟩ := hrel
                        obtain ⟨x0, x1, x2, x3, x4, xf⟩ := (D3.below hB4).nd
                        obtain ⟨y0, y1, y2, y3, y4, yf⟩ := (E3.below hB4).nd
                        have j3 : IntKind.i64.wrap ((j : Int) + 1) = (j : Int) + 1 := by rw [IntKind.wrap_i64]; have := HDl.out.1; omega
                        have HB4 : Hid (Below w.heap.size w wr) := hidE (below_aft B03 hB4)
                        by_cases hjl : j < dl.length
                        · have hjl2 : j < el.length := by omega
                          obtain ⟨gl, ol, rfl, hgl, hlr⟩ := (K6.out.below hB4) (by intro h; rw [h] at hjl; simp at hjl)
                          obtain ⟨ge, oe, rfl, hge, her⟩ := (L6.out.below hB4) (by intro h; rw [h] at hjl2; simp at hjl2)
                          obtain ⟨c, hc⟩ : ∃ c, dl[j]? = some c := ⟨_, List.getElem?_eq_getElem hjl⟩
                          obtain ⟨c', hc'⟩ : ∃ c', el[j]? = some c' := ⟨_, List.getElem?_eq_getElem hjl2⟩
                          have cc := hlr j c hc
                          have cc' := her j c' hc'
                          have j0 : (0 : Int) ≤ (j : Int) := by omega
                          have j1 : (j : Int) < (dl.length : Int) := by omega
                          have j2 : (j : Int) < (el.length : Int) := by omega
                          have HCC : Hid (dl[j]? = some c ∧ el[j]? = some c') := hidE ⟨hc, hc'⟩
                          clear hlr her hc hc'
                          by_cases hcc : c = c'
                          · subst hcc
                            go_wp2_with fail
                            go_region
                            go_wp2_with fail
                            refine ⟨⟨j + 1, by omega, by go_num, fun q hq => ?_, hB4.drew⟩, by simp [intOf]; omega⟩
                            rcases Nat.lt_or_ge q j with h | h
                            · exact HQ.out q h
                            · obtain rfl : q = j := by omega
                              rw [HCC.out.1, HCC.out.2]
                          · have zc : (c != c') = true := by simpa using hcc
                            have HRR : Hid (r = false) := hidE (HNO.out fun h => hcc (by
                              have h5 := h.2.2.2.2
                              simp only at h5
                              have := HCC.out
                              rw [h5, this.2] at this
                              exact (Option.some.inj this.1).symm))
                            clear hcc
                            go_wp2_with fail
                            go_region
                            go_wp2_with fail
                            go_ret
                            exact ⟨ret_bool HRR.out.symm, HB4.out.drew⟩
                        · obtain rfl : j = dl.length := by omega
                          have lt : ¬ (dl.length : Int) < (dl.length : Int) := by omega
                          have HEQ : Hid (dl = el) := hidE (by
                            apply List.ext_getElem?
                            intro q
                            rcases Nat.lt_or_ge q dl.length with h | h
                            · exact HQ.out q h
                            · rw [List.getElem?_eq_none h, List.getElem?_eq_none (by omega)])
                          clear q5 z5
                          go_wp2_with fail
                          refine ⟨⟨i + 1, by omega, by go_num, fun q d e hq hd he => ?_, HA3.out.below hB4, HA23.out.below hB4, HB4.out⟩, by simp [intOf]; omega⟩
                          rcases Nat.lt_or_ge q i with h | h
                          · exact HALL.out q d e h hd he
                          · obtain rfl : q = i := by omega
                            rw [HD.out.1] at hd
                            rw [HD.out.2] at he
                            cases hd
                            cases he
                            exact ⟨rfl, rfl, rfl, (fun h => by cases h), HEQ.out⟩
                    · as_aux_lemma =>
                      go_wp2_with fail
                      clear x0 x1 x2 x3 x4 xf y0 y1 y2 y3 y4 yf
                      go_loopw [10] (fun v W => ∃ j : Nat, j ≤ dl.length ∧ v = .int .i64 (j : Int) ∧ Hid (∀ q : Nat, q < j → dl[q]? = el[q]?) ∧ Below W3.heap.size W3 W) (fun v _ => dl.length - (intOf v).toNat)
                      case atStart => exact ⟨0, Nat.zero_le _, rfl, fun q h => absurd h (Nat.not_lt_zero q), Below.refl _ _⟩
                      case round =>
                        obtain ⟨j, hj, rfl, HQ, hB4⟩ := hrel
                        obtain ⟨x0, x1, x2, x3, x4, xf⟩ := (D3.below hB4).nd
                        obtain ⟨y0, y1, y2, y3, y4, yf⟩ := (E3.below hB4).nd
                        have j3 : IntKind.i64.wrap ((j : Int) + 1) = (j : Int) + 1 := by rw [IntKind.wrap_i64]; have := HDl.out.1; omega
                        have HB4 : Hid (Below w.heap.size w wr) := hidE (below_aft B03 hB4)
                        by_cases hjl : j < dl.length
                        · have hjl2 : j < el.length := by omega
                          obtain ⟨gl, ol, rfl, hgl, hlr⟩ := (K6.out.below hB4) (by intro h; rw [h] at hjl; simp at hjl)
                          obtain ⟨ge, oe, rfl, hge, her⟩ := (L6.out.below hB4) (by intro h; rw [h] at hjl2; simp at hjl2)
                          obtain ⟨c, hc⟩ : ∃ c, dl[j]? = some c := ⟨_, List.getElem?_eq_getElem hjl⟩
                          obtain ⟨c', hc'⟩ : ∃ c', el[j]? = some c' := ⟨_, List.getElem?_eq_getElem hjl2⟩
                          have cc := hlr j c hc
                          have cc' := her j c' hc'
                          have j0 : (0 : Int) ≤ (j : Int) := by omega
                          have j1 : (j : Int) < (dl.length : Int) := by omega
                          have j2 : (j : Int) < (el.length : Int) := by omega
                          have HCC : Hid (dl[j]? = some c ∧ el[j]? = some c') := hidE ⟨hc, hc'⟩
                          clear hlr her hc hc'
                          by_cases hcc : c = c'
                          · subst hcc
                            go_wp2_with fail
                            go_region
                            go_wp2_with fail
                            refine ⟨⟨j + 1, by omega, by go_num, fun q hq => ?_, hB4.drew⟩, by simp [intOf]; omega⟩
                            rcases Nat.lt_or_ge q j with h | h
                            · exact HQ.out q h
                            · obtain rfl : q = j := by omega
                              rw [HCC.out.1, HCC.out.2]
                          · have zc : (c != c') = true := by simpa using hcc
                            have HRR : Hid (r = false) := hidE (HNO.out fun h => hcc (by
                              have h5 := h.2.2.2.2
                              simp only at h5
                              have := HCC.out
                              rw [h5, this.2] at this
                              exact (Option.some.inj this.1).symm))
                            clear hcc
                            go_wp2_with fail
                            go_region
                            go_wp2_with fail
                            go_ret
                            exact ⟨ret_bool HRR.out.symm, HB4.out.drew⟩
                        · obtain rfl : j = dl.length := by omega
                          have lt : ¬ (dl.length : Int) < (dl.length : Int) := by omega
                          have HEQ : Hid (dl = el) := hidE (by
                            apply List.ext_getElem?
                            intro q
                            rcases Nat.lt_or_ge q dl.length with h | h
                            · exact HQ.out q h
                            · rw [List.getElem?_eq_none h, List.getElem?_eq_none (by omega)])
                          clear q5 z5
                          go_wp2_with fail
                          refine ⟨⟨i + 1, by omega, by go_num, fun q d e hq hd he => ?_, HA3.out.below hB4, HA23.out.below hB4, HB4.out⟩, by simp [intOf]; omega⟩
                          rcases Nat.lt_or_ge q i with h | h
                          · exact HALL.out q d e h hd he
                          · obtain rfl : q = i := by omega
                            rw [HD.out.1] at hd
                            rw [HD.out.2] at he
                            cases hd
                            cases he
                            exact ⟨rfl, rfl, rfl, fun _ => rfl, HEQ.out⟩
                  · have z5 : ((dl.length : Int) != (el.length : Int)) = true := by simpa using (by omega : ¬ (dl.length : Int) = (el.length : Int))
                    have HRR : Hid (r = false) := hidE (HNO.out fun h => q5 (by have := h.2.2.2.2; simp only at this; rw [this]))
                    rcases v4 with rfl | ⟨rfl, rfl⟩
                    · as_aux_lemma =>
                      go_wp2_with fail
                      go_ret
                      exact ⟨ret_bool HRR.out.symm, B03⟩
                    · as_aux_lemma =>
                      go_wp2_with fail
                      go_ret
                      exact ⟨ret_bool HRR.out.symm, B03⟩
                · have HRR : Hid (r = false) := hidE (HNO.out fun h => q4 h.2.2.2.1)
                  have hf : f = true := Classical.byContradiction fun h => q4 fun g => absurd g h
                  subst hf
                  have z4 : (dp != ep) = true := by simpa using (fun h => q4 fun _ => h : ¬ dp = ep)
                  clear q4
                  go_wp2_with fail
                  go_ret
                  exact ⟨ret_bool HRR.out.symm, B03⟩
              · have HRR : Hid (r = false) := hidE (HNO.out fun h => q3 h.2.2.1)
                have hs2 : (str ds).toList ≠ (str es).toList := by rw [str_toList, str_toList]; exact q3
                have hs3 : ((str ds).toList == (str es).toList) = false := by simpa using hs2
                have hs4 : ¬ str ds = str es := fun h => q3 (str_inj h)
                go_wp2_with fail
                go_ret
                exact ⟨ret_bool HRR.out.symm, B03⟩
            · have HRR : Hid (r = false) := hidE (HNO.out fun h => q2 h.2.1)
              have z2 : (dn != en) = true := by simpa using q2
              go_wp2_with fail
              go_ret
              exact ⟨ret_bool HRR.out.symm, B03⟩
          · have HRR : Hid (r = false) := hidE (HNO.out fun h => q1 h.1)
            have z1 : ((dk : Int) != (ek : Int)) = true := by simpa using (by omega : ¬ (dk : Int) = (ek : Int))
            have z1' : (dk != ek) = true := by simpa using q1
            go_wp2_with fail
            go_ret
            exact ⟨ret_bool HRR.out.symm, B03⟩
      · obtain rfl : i = n := by omega
        have lt : ¬ (i : Int) < (i : Int) := by omega
        go_wp2_with fail
        go_ret
        refine ⟨ret_bool (HR1.out ⟨?_, fun j d e hd he => ?_⟩).symm, hB⟩
        · have := HN.out; omega
        · exact HALL.out j d e (by have := (List.getElem?_eq_some_iff.1 hd).1; have := HN.out; omega) hd he
  · have e1 : ((T.length : Int) != (U.length : Int)) = true := by simpa using (by omega : ¬ (T.length : Int) = (U.length : Int))
    have HNE : Hid (¬ T.length = U.length) := hidE hn
    clear hn
    go_enter Try.func19, Try.ntmps19
    (first | go_wp2 | skip)
    try rw [HW2.out]
    go_wp2
    go_ret
    exact ⟨ret_bool (HR0.out (fun h => HNE.out h.1)).symm, B2⟩
end Go.Proofs.Ytkidcmglidnaoaa
