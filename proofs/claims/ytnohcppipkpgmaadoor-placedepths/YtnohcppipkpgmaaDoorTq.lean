import Derived.Test.YtnohcppipkpgmaaDoorSe
namespace Go.Proofs.YtnohcppipkpgmaaDoor
open Go.RowKit Go.Shelf
set_option linter.unusedVariables false
set_option linter.unusedSimpArgs false

theorem wi1_mono {d : Nat} {g : Int} (h : wi1 d g = true) : wi1 (d + 1) g = true := by
  unfold wi1 at h ⊢
  rw [Bool.and_eq_true, Bool.and_eq_true, Bool.not_eq_true', Bool.not_eq_true', Bool.not_eq_true', Bool.and_eq_false_iff, Bool.and_eq_false_iff, decide_eq_false_iff_not, decide_eq_false_iff_not, decide_eq_false_iff_not, decide_eq_false_iff_not, decide_eq_false_iff_not] at h ⊢
  omega
theorem wiB_mono {d : Nat} {l : List Int} (h : wiB d l = true) : wiB (d + 1) l = true := by
  unfold wiB at h ⊢
  rw [List.all_eq_true] at h ⊢
  exact fun g hg => wi1_mono (h g hg)
theorem wiB_append (d : Nat) (l m : List Int) : wiB d (l ++ m) = (wiB d l && wiB d m) := by unfold wiB; rw [List.all_append]
theorem wayC_pre (fc : Nat → List Ch) : ∀ (q s : List Int) (c d : Ch) (gs : List Int), wayC fc c (q ++ s) = some (d, gs) → ∃ c', wayC fc c q = some (c', gs.take q.length)
  | [], s, c, d, gs, h => ⟨c, by simp [wayC]⟩
  | x :: q, s, c, d, gs, h => by
    rw [List.cons_append, wayC, Option.bind_eq_some_iff] at h
    obtain ⟨y, h1, h2⟩ := h
    rw [Option.map_eq_some_iff] at h2
    obtain ⟨⟨z1, z2⟩, h3, h4⟩ := h2
    obtain ⟨c', h5⟩ := wayC_pre fc q s y.1 z1 z2 h3
    cases h4
    refine ⟨c', ?_⟩
    rw [wayC, h1]
    show Option.map _ (wayC fc y.1 q) = _
    rw [h5]
    simp
/-- What a prefix's way is. -/
theorem wyX_pre {ok : Bool} {fc : Nat → List Ch} {cl : List Ch} {l : Int} {q r : List Int} {d : Ch} {gs : List Int} (h : wyX ok fc cl l r = some (d, gs)) (hq : q <+: r) : ∃ c', wyX ok fc cl l q = some (c', gs.take q.length) := by
  obtain ⟨s, rfl⟩ := hq
  unfold wyX at h ⊢
  split at h
  · rename_i hok
    rw [if_pos hok]
    unfold wayP at h ⊢
    split at h
    · rename_i hl
      rw [Option.bind_eq_some_iff] at h
      obtain ⟨c, h1, h2⟩ := h
      obtain ⟨c', h3⟩ := wayC_pre fc q s c d gs h2
      rw [if_pos ⟨hl.1, by have := hl.2; simp at this; omega⟩, h1]
      exact ⟨c', h3⟩
    · cases h
  · cases h
/-- What is within goes on. -/
theorem within_on {ok : Bool} {fc : Nat → List Ch} {cl : List Ch} {l : Int} {p q r : List Int} {cq cr : Ch} {gq gr : List Int} (hq : wyX ok fc cl l q = some (cq, gq)) (hr : wyX ok fc cl l r = some (cr, gr)) (hpq : p <+: q) (hqr : q <+: r) (d : Nat) :
    wiB d (gr.drop p.length) = (wiB d (gq.drop p.length) && wiB d (gr.drop q.length)) := by
  obtain ⟨c', h1⟩ := wyX_pre hr hqr
  rw [hq] at h1
  cases h1
  rw [← wiB_append]
  congr 1
  have hle : p.length ≤ q.length := hpq.length_le
  have e1 : gr.drop q.length = (gr.drop p.length).drop (q.length - p.length) := by rw [List.drop_drop]; congr 1; omega
  rw [List.drop_take, e1, List.take_append_drop]
theorem heldN_cons (g : Int) (l : List Int) : heldN (g :: l) = if isR g = true then 0 else heldN l + 1 := rfl
theorem heldN_take : ∀ gs : List Int, heldN (gs.take (heldN gs)) = heldN gs
  | [] => rfl
  | g :: l => by
    by_cases hg : isR g = true
    · rw [heldN_cons, if_pos hg]
      rfl
    · rw [heldN_cons, if_neg hg, List.take_succ_cons, heldN_cons, if_neg hg, heldN_take l]
theorem wi1_two (g : Int) : wi1 2 g = !isR g := by
  unfold wi1 isR
  simp
theorem held_within : ∀ gs : List Int, wiB 2 (gs.take (heldN gs)) = true
  | [] => rfl
  | g :: l => by
    by_cases hg : isR g = true
    · rw [heldN_cons, if_pos hg]
      rfl
    · rw [heldN_cons, if_neg hg, List.take_succ_cons]
      show (wi1 2 g && wiB 2 _) = true
      rw [wi1_two, held_within l, Bool.and_true, Bool.not_eq_true']
      simpa using hg
theorem held_whole : ∀ gs : List Int, wiB 2 gs = true ↔ heldN gs = gs.length
  | [] => by simp [wiB, heldN]
  | g :: l => by
    show (wi1 2 g && wiB 2 l) = true ↔ _
    rw [wi1_two, Bool.and_eq_true, Bool.not_eq_true', held_whole l, heldN_cons]
    by_cases hg : isR g = true
    · rw [if_pos hg]
      simp [hg]
    · rw [if_neg hg]
      simp [hg]
end Go.Proofs.YtnohcppipkpgmaaDoor
namespace Go.Proofs.YtnohcppipkpgmaaDoor
open Go.RowKit Go.Shelf
set_option linter.unusedVariables false
set_option linter.unusedSimpArgs false

/-- What fits says of structs, locals and places, from a world on. -/
def FitA (a : Option Addr) (n cap : Nat) (la : Option Addr) (ln lcap : Nat) (ps : List (List Int)) (b : Bool) (w : World) : Prop := ∀ (W : World) (g : Nat) (xs : List (Pt × List Int)), Below w.heap.size w W → PsAt W g xs → xs.map Prod.snd = ps →
  Calls Tryd.prog 9 #[.slice a n cap, .slice la ln lcap, .slice (some ⟨g, 0, none⟩) ps.length ps.length] W fun e w' => e = .returned (.bool b) ∧ Below W.heap.size W w'
set_option maxRecDepth 100000 in
set_option maxHeartbeats 8000000 in
theorem fitA_ex {w : World} {a la : Option Addr} {n cap ln lcap : Nat} {ss : List (List Ty)} {ts : List Ty} (h : StAt w a n cap ss) (hl : LcAt w la ln lcap ts) (ps : List (List Int)) (hk : ps.length ≤ 10) : ∃ b, FitA a n cap la ln lcap ps b w ∧ (b = true → n ≤ 60 ∧ ln ≤ 60 ∧ (∀ fs ∈ ss, fs.length ≤ 60) ∧ ∀ p ∈ ps, p.length ≤ 60) := by
  obtain ⟨k, hkk⟩ : ∃ k, k = ps.length := ⟨_, rfl⟩
  unfold FitA
  rw [← hkk] at hk ⊢
  by_cases hn : 60 < n
  · refine ⟨false, fun W g xs hW hX hx => ?_, fun e => by cases e⟩
    have k1 : (60 : Int) < (n : Int) := by omega
    clear h hl
    go_enter Tryd.func9, Tryd.ntmps9
    go_wp2_with fail
    go_ret
    exact ⟨rfl, Below.refl _ _⟩
  by_cases hn2 : 60 < ln
  · refine ⟨false, fun W g xs hW hX hx => ?_, fun e => by cases e⟩
    have k1 : ¬ (60 : Int) < (n : Int) := by omega
    have k2 : (60 : Int) < (ln : Int) := by omega
    clear h hl
    go_enter Tryd.func9, Tryd.ntmps9
    go_wp2_with fail
    go_ret
    exact ⟨rfl, Below.refl _ _⟩
  have hs : ∀ t : Ty, ∃ b, FitC 60 t b := fun t => fits_ex 60 60 rfl (by decide) t
  obtain ⟨bs, hbs⟩ : ∃ bs : Ty → Bool, ∀ t, FitC 60 t (bs t) := ⟨fun t => Classical.choose (hs t), fun t => Classical.choose_spec (hs t)⟩
  obtain ⟨b, hb⟩ := bool_of ((∀ (i : Nat) (fs : List Ty), ss[i]? = some fs → fs.length ≤ 60 ∧ ∀ t ∈ fs, bs t = true) ∧ (∀ (i : Nat) (t : Ty), ts[i]? = some t → bs t = true) ∧ ∀ (i : Nat) (p : List Int), ps[i]? = some p → p.length ≤ 60)
  refine ⟨b, fun W g xs hW hX hx => ?_, fun e => ⟨by omega, by omega, fun fs hf => by obtain ⟨i, hi⟩ := List.mem_iff_getElem?.1 hf; exact ((hb.1 e).1 i fs hi).1, fun p hp => by obtain ⟨i, hi⟩ := List.mem_iff_getElem?.1 hp; exact (hb.1 e).2.2 i p hi⟩⟩
  have k1 : ¬ (60 : Int) < (n : Int) := by omega
  have k1' : ¬ (60 : Int) < (ln : Int) := by omega
  have HS := hidD hbs
  have HB := hidD hb
  have HT := hidD (h.bel hW)
  have HLT := hidD (hl.bel hW)
  have hln : n = ss.length := h.len
  have HLN := hidD hln
  have hlln : ln = ts.length := hl.len
  have HLLN := hidD hlln
  have HK := hidD hkk
  have HX := hidD hX
  have HXP : Hid (∀ (i : Nat) (x : Pt) (p : List Int), xs[i]? = some (x, p) → ps[i]? = some p) := fun i x p hi => by rw [← hx, List.getElem?_map, hi]; rfl
  have HPX : Hid (∀ (i : Nat), i < k → ∃ (x : Pt) (p : List Int), xs[i]? = some (x, p)) := fun i hi => by
    have : xs.length = ps.length := by rw [← hx, List.length_map]
    exact ⟨_, _, List.getElem?_eq_getElem (by omega)⟩
  clear hbs hb h hl hW hs hln hlln hkk hX hx
  go_enter Tryd.func9, Tryd.ntmps9
  go_wp2_with fail
  go_loopw [7] (fun v V => ∃ i : Nat, i ≤ n ∧ v = .int .i64 i ∧ (∀ (i' : Nat) (fs : List Ty), i' < i → ss[i']? = some fs → fs.length ≤ 60 ∧ ∀ t ∈ fs, bs t = true) ∧ Below W.heap.size W V) (fun v _ => n - (intOf v).toNat)
  case atStart => exact ⟨0, Nat.zero_le _, rfl, fun i' fs hi => by omega, Below.refl _ _⟩
  case round =>
    obtain ⟨i, hi, rfl, hall, hBV⟩ := hrel
    obtain ⟨wo, rfl⟩ : ∃ wo, wo = wr := ⟨_, rfl⟩
    have HALL := hidD hall
    have HBV := hidD hBV
    have HV := hidD (HT.out.bel hBV)
    clear hall hBV
    by_cases hlt : i < n
    · obtain ⟨fs, hfs⟩ : ∃ fs, ss[i]? = some fs := ⟨_, List.getElem?_eq_getElem (by have := HLN.out; omega)⟩
      obtain ⟨g1, off, fa, fcap, hag, hg, hcell, hF⟩ := HV.out.one hfs
      have HF := hidD hF
      have HFS := hidD hfs
      subst hag
      have j0 : (0 : Int) ≤ (i : Int) := by omega
      have j1 : (i : Int) < (n : Int) := by omega
      have j2 : (i : Int) ≤ 1000 := by omega
      obtain ⟨m, hm⟩ : ∃ m, m = fs.length := ⟨_, rfl⟩
      have HM := hidD hm
      rw [← hm] at hcell
      clear hF hfs hm
      by_cases hm1 : 60 < m
      · have k2 : (60 : Int) < (m : Int) := by omega
        have hbf : b = false := by
          cases hb : b with
          | false => rfl
          | true =>
            have := ((HB.out.1 hb).1 i fs HFS.out).1
            have := HM.out
            omega
        subst hbf
        go_wp2_with fail
        go_ret
        exact ⟨rfl, HBV.out⟩
      · have k2 : ¬ (60 : Int) < (m : Int) := by omega
        go_wp2_with fail
        go_loopw [8] (fun v V => ∃ k : Nat, k ≤ m ∧ v = .int .i64 k ∧ (∀ k' t, k' < k → fs[k']? = some t → bs t = true) ∧ Below wo.heap.size wo V) (fun v _ => m - (intOf v).toNat)
        case atStart => exact ⟨0, Nat.zero_le _, rfl, fun k' t hk => by omega, Below.refl _ _⟩
        case round =>
          obtain ⟨kk, hkk, rfl, hall, hBk⟩ := hrel
          have HAK := hidD hall
          have HBk := hidD hBk
          have HFk := hidD (HF.out.bel hBk)
          have hc2 : wr.cell? ⟨g1, off + i * 2 + 1, none⟩ = some (.slice fa m fcap) := (hBk.cell (p := ⟨g1, off + i * 2 + 1, none⟩) hg).trans hcell
          have hg2 : g1 < wr.heap.size := Nat.lt_of_lt_of_le hg hBk.size
          clear hall hBk
          by_cases hlk : kk < m
          · obtain ⟨t, ht⟩ : ∃ t, fs[kk]? = some t := ⟨_, List.getElem?_eq_getElem (by have := HM.out; omega)⟩
            obtain ⟨g', off', hfa, hkk2⟩ := HFk.out.2 (fun e => by subst e; simp at ht)
            obtain ⟨V, nm, -, hV5, hVt⟩ := hkk2 kk t ht
            have HTT := hidD ht
            have CF : Hid (Calls Tryd.prog 35 #[V.v, .int .i64 60] wr fun e w' => e = .returned (.bool (bs t)) ∧ Below wr.heap.size wr w') := HS.out t V wr hVt
            obtain ⟨hl5, p0, p1, p2, p3, p4⟩ := hV5
            subst hfa
            have e0 : (0 : Int) ≤ (kk : Int) := by omega
            have e1 : (kk : Int) < (m : Int) := by omega
            have e2 : (kk : Int) ≤ 1000 := by omega
            clear hkk2 hVt ht
            obtain ⟨bt, hbt⟩ : ∃ bt, bt = bs t := ⟨_, rfl⟩
            rw [← hbt] at CF
            have HBT := hidD hbt
            clear hbt
            cases bt with
            | true =>
              go_wp2_with (go_at_call 35; refine CF.out.mono ?_; rintro e w1 ⟨rfl, hb1⟩)
              refine ⟨⟨kk + 1, hlk, rfl, fun k' t' hk' ht' => ?_, below_aft HBk.out hb1⟩, ?_⟩
              · by_cases e : k' = kk
                · subst e
                  rw [HTT.out] at ht'
                  cases ht'
                  exact HBT.out.symm
                · exact HAK.out k' t' (by omega) ht'
              · show m - ((kk : Int) + 1).toNat < m - (kk : Int).toNat
                omega
            | false =>
              have hbf : b = false := by
                cases hb : b with
                | false => rfl
                | true =>
                  have := ((HB.out.1 hb).1 i fs HFS.out).2 t (List.mem_of_getElem? HTT.out)
                  rw [← HBT.out] at this
                  cases this
              subst hbf
              go_wp2_with (go_at_call 35; refine CF.out.mono ?_; rintro e w1 ⟨rfl, hb1⟩)
              go_ret
              exact ⟨rfl, below_aft (below_aft HBV.out HBk.out) hb1⟩
          · obtain rfl : kk = m := by omega
            have z1 : ¬ ((kk : Int) < (kk : Int)) := by omega
            go_wp2_with fail
            refine ⟨⟨i + 1, hlt, rfl, fun i' fs' hi' hfs' => ?_, below_aft HBV.out HBk.out⟩, ?_⟩
            · by_cases e : i' = i
              · subst e
                rw [HFS.out] at hfs'
                cases hfs'
                refine ⟨by have := HM.out; omega, fun t ht => ?_⟩
                obtain ⟨k', hk'⟩ := List.mem_iff_getElem?.1 ht
                exact HAK.out k' t (by have := (List.getElem?_eq_some_iff.1 hk').1; have := HM.out; omega) hk'
              · exact HALL.out i' fs' (by omega) hfs'
            · show n - ((i : Int) + 1).toNat < n - (i : Int).toNat
              omega
    · obtain rfl : i = n := by omega
      have z1 : ¬ ((i : Int) < (i : Int)) := by omega
      go_wp2_with fail
      go_loopw [9] (fun v V => ∃ j : Nat, j ≤ ln ∧ v = .int .i64 j ∧ (∀ (j' : Nat) (t : Ty), j' < j → ts[j']? = some t → bs t = true) ∧ Below W.heap.size W V) (fun v _ => ln - (intOf v).toNat)
      case atStart => exact ⟨0, Nat.zero_le _, rfl, fun j' t hj => by omega, HBV.out⟩
      case round =>
        obtain ⟨j, hj, rfl, hall, hBj⟩ := hrel
        have HAJ := hidD hall
        have HBj := hidD hBj
        have HLj := hidD (HLT.out.bel hBj)
        clear hall hBj
        by_cases hlj : j < ln
        · obtain ⟨t, ht⟩ : ∃ t, ts[j]? = some t := ⟨_, List.getElem?_eq_getElem (by have := HLLN.out; omega)⟩
          obtain ⟨g1, off, V, hag, hV5, hVt⟩ := HLj.out.one ht
          have HTT := hidD ht
          have CF : Hid (Calls Tryd.prog 35 #[V.v, .int .i64 60] wr fun e w' => e = .returned (.bool (bs t)) ∧ Below wr.heap.size wr w') := HS.out t V wr hVt
          obtain ⟨hl5, p0, p1, p2, p3, p4⟩ := hV5
          subst hag
          have e0 : (0 : Int) ≤ (j : Int) := by omega
          have e1 : (j : Int) < (ln : Int) := by omega
          have e2 : (j : Int) ≤ 1000 := by omega
          clear hVt ht
          obtain ⟨bt, hbt⟩ : ∃ bt, bt = bs t := ⟨_, rfl⟩
          rw [← hbt] at CF
          have HBT := hidD hbt
          clear hbt
          cases bt with
          | true =>
            go_wp2_with (go_at_call 35; refine CF.out.mono ?_; rintro e w1 ⟨rfl, hb1⟩)
            refine ⟨⟨j + 1, hlj, rfl, fun k' t' hk' ht' => ?_, below_aft HBj.out hb1⟩, ?_⟩
            · by_cases e : k' = j
              · subst e
                rw [HTT.out] at ht'
                cases ht'
                exact HBT.out.symm
              · exact HAJ.out k' t' (by omega) ht'
            · show ln - ((j : Int) + 1).toNat < ln - (j : Int).toNat
              omega
          | false =>
            have hbf : b = false := by
              cases hb : b with
              | false => rfl
              | true =>
                have := (HB.out.1 hb).2.1 j t HTT.out
                rw [← HBT.out] at this
                cases this
            subst hbf
            go_wp2_with (go_at_call 35; refine CF.out.mono ?_; rintro e w1 ⟨rfl, hb1⟩)
            go_ret
            exact ⟨rfl, below_aft HBj.out hb1⟩
        · obtain rfl : j = ln := by omega
          have z2 : ¬ ((j : Int) < (j : Int)) := by omega
          have HXj := hidD (HX.out.bel HBj.out)
          go_wp2_with fail
          go_loopw [10] (fun v V => ∃ i : Nat, i ≤ k ∧ v = .int .i64 i ∧ (∀ (j' : Nat) (p : List Int), j' < i → ps[j']? = some p → p.length ≤ 60) ∧ V = wr) (fun v _ => k - (intOf v).toNat)
          case atStart => exact ⟨0, Nat.zero_le _, rfl, fun j' p hj => by omega, rfl⟩
          case round =>
            obtain ⟨q, hq, rfl, hall, rfl⟩ := hrel
            have HAQ := hidD hall
            clear hall
            by_cases hlq : q < k
            · obtain ⟨x, p, hx⟩ := HPX.out q hlq
              obtain ⟨c0, c1, hP⟩ := HXj.out.cells q x p hx
              have hgl := HXj.out.lt
              have HPP := hidD (HXP.out q x p hx)
              obtain ⟨l, pa, m, pcap⟩ := x
              have hm : m = p.length := hP.row.len
              have HM := hidD hm
              have i0 : (0 : Int) ≤ (q : Int) := by omega
              have i1 : (q : Int) < (k : Int) := by omega
              have i2 : (q : Int) ≤ 10 := by omega
              clear hx hP hm
              by_cases h60 : m ≤ 60
              · have j1 : ¬ (60 : Int) < (m : Int) := by omega
                go_wp2_with fail
                refine ⟨⟨q + 1, hlq, rfl, fun j' p' hj' hx' => ?_, trivial⟩, ?_⟩
                · by_cases e : j' = q
                  · subst e
                    rw [HPP.out] at hx'
                    cases hx'
                    have := HM.out
                    omega
                  · exact HAQ.out j' p' (by omega) hx'
                · show k - ((q : Int) + 1).toNat < k - (q : Int).toNat
                  omega
              · have j1 : (60 : Int) < (m : Int) := by omega
                have hbf : b = false := by
                  cases hbb : b with
                  | false => rfl
                  | true =>
                    have := (HB.out.1 hbb).2.2 q p HPP.out
                    have := HM.out
                    omega
                subst hbf
                go_wp2_with fail
                go_ret
                exact ⟨rfl, HBj.out⟩
            · obtain rfl : q = k := by omega
              have lt : ¬ (q : Int) < (q : Int) := by omega
              have hbt : b = true := HB.out.2 ⟨fun i' fs hi' => HALL.out i' fs (by have := (List.getElem?_eq_some_iff.1 hi').1; have := HLN.out; omega) hi', fun j' t hj' => HAJ.out j' t (by have := (List.getElem?_eq_some_iff.1 hj').1; have := HLLN.out; omega) hj', fun j' p hj' => HAQ.out j' p (by have := (List.getElem?_eq_some_iff.1 hj').1; have := HK.out; omega) hj'⟩
              subst hbt
              go_wp2_with fail
              go_ret
              exact ⟨rfl, HBj.out⟩
end Go.Proofs.YtnohcppipkpgmaaDoor
namespace Go.Proofs.YtnohcppipkpgmaaDoor
open Go.RowKit Go.Shelf
set_option linter.unusedVariables false
set_option linter.unusedSimpArgs false

theorem with_yes {x y : Pt} {p q : List Int} {d : Nat} {e : Ending} {c1 c2 : Ch} {g1 g2 : List Int} (h : WithPost (some (c1, g1)) (some (c2, g2)) x y p q d e) (h1 : 1 ≤ d) (h3 : d ≤ 3) {b : Bool} (hb : b = true ↔ (x.l = y.l ∧ p <+: q) ∧ wiB d (g2.drop p.length) = true) : e = .returned (.tuple #[.bool b, .int .i64 0]) := by
  unfold WithPost at h
  rw [if_pos ⟨rfl, rfl, h1, h3⟩] at h
  obtain ⟨b', rfl, hb'⟩ := h
  have : b' = b := by
    rw [Bool.eq_iff_iff, hb', hb]
    exact ⟨fun k => ⟨k.1, k.2 _ rfl⟩, fun k => ⟨k.1, fun z hz => by cases hz; exact k.2⟩⟩
  rw [this]
/-- Which places May is asked of. -/
inductive P16 (s t x y z : Value) (b1 b2 b3 : Bool) : Array Value → Bool → Prop
  | p : P16 s t x y z b1 b2 b3 #[s, t, x] b1
  | q : P16 s t x y z b1 b2 b3 #[s, t, y] b2
  | r : P16 s t x y z b1 b2 b3 #[s, t, z] b3
/-- Which places Within is asked of. -/
inductive P22 (s t x y z : Value) (d : Nat) (b1 b2 b3 : Bool) : Array Value → Bool → Prop
  | pq : P22 s t x y z d b1 b2 b3 #[s, t, x, y, .int .u8 (d : Int)] b1
  | qr : P22 s t x y z d b1 b2 b3 #[s, t, y, z, .int .u8 (d : Int)] b2
  | pr : P22 s t x y z d b1 b2 b3 #[s, t, x, z, .int .u8 (d : Int)] b3
/-- Two places that Prefix is asked of. -/
inductive Q24 (x y z : Value) (b1 b2 : Bool) : Array Value → Bool → Prop
  | pq : Q24 x y z b1 b2 #[x, y] b1
  | qr : Q24 x y z b1 b2 #[y, z] b2
theorem bools_of (P : Nat → Prop) : ∃ b : Nat → Bool, ∀ d, b d = true ↔ P d := ⟨fun d => Classical.choose (bool_of (P d)), fun d => Classical.choose_spec (bool_of (P d))⟩
set_option maxRecDepth 100000 in
set_option maxHeartbeats 8000000 in
/-- PlaceDepths, where something does not fit or may not be. -/
theorem depths_out {w : World} {a la : Option Addr} {n cap ln lcap : Nat} {ok : Bool} {fc : Nat → List Ch} {cl : List Ch} (hC : Cx w a la n cap ln lcap ok fc cl) {x y z : Pt} {p q r : List Int} (hP : PAt w x p) (hQ : PAt w y q) (hR : PAt w z r) {b : Bool} (hf : FitA a n cap la ln lcap [p, q, r] b w) {b1 b2 b3 : Bool} (e1 : b1 = (wyX ok fc cl x.l p).isSome) (e2 : b2 = (wyX ok fc cl y.l q).isSome) (e3 : b3 = (wyX ok fc cl z.l r).isSome) (hno : ¬ (b = true ∧ b1 = true ∧ b2 = true ∧ b3 = true)) :
    Calls Tryd.prog 7 #[.slice a n cap, .slice la ln lcap, x.v, y.v, z.v] w fun e w' => e = .returned (.bool true) ∧ Below w.heap.size w w' := by
  have AW : Hid (∀ W, Calls Tryd.prog 10 #[] W fun e w' => e = .returned (.bool true) ∧ Below W.heap.size W w') := awake_true
  obtain ⟨l, pa, m, pcap⟩ := x
  obtain ⟨l2, qa, m2, qcap⟩ := y
  obtain ⟨l3, ra, m3, rcap⟩ := z
  have CF := hidD (hf _ _ _ bel4 (ps_tri hP hQ hR) rfl)
  have HT0 := hidD (T3.start hP hQ hR)
  have HB0 : Hid (Below w.heap.size w ((((w.alloc (plO l pa m pcap)).alloc (plO l2 qa m2 qcap)).alloc (plO l3 ra m3 rcap)).alloc (triO ⟨l, pa, m, pcap⟩ ⟨l2, qa, m2, qcap⟩ ⟨l3, ra, m3, rcap⟩))) := bel4
  have C16 : Hid (∀ V args b, T3 V w.heap.size ⟨l, pa, m, pcap⟩ ⟨l2, qa, m2, qcap⟩ ⟨l3, ra, m3, rcap⟩ p q r → Below w.heap.size w V → P16 (.slice a n cap) (.slice la ln lcap) (plV l pa m pcap) (plV l2 qa m2 qcap) (plV l3 ra m3 rcap) b1 b2 b3 args b → Calls Tryd.prog 16 args V fun e w' => e = .returned (.bool b) ∧ Below V.heap.size V w') := fun V args b h hV k => by
    cases k
    · exact May_any hV hC h.p1 b1 e1
    · exact May_any hV hC h.p2 b2 e2
    · exact May_any hV hC h.p3 b3 e3
  show Calls Tryd.prog 7 #[.slice a n cap, .slice la ln lcap, plV l pa m pcap, plV l2 qa m2 qcap, plV l3 ra m3 rcap] w _
  clear hC hP hQ hR hf e1 e2 e3
  cases b <;> cases b1 <;> cases b2 <;> cases b3
  all_goals (try (exact absurd ⟨rfl, rfl, rfl, rfl⟩ hno))
  all_goals clear hno
  all_goals (
    go_enter Tryd.func7, Tryd.ntmps7
    go_wp2_with (first
      | (go_at_call 9; refine CF.out.mono ?_; rintro e w1 ⟨rfl, hb1⟩; have HT := hidD (HT0.out.bel hb1); have HB := hidD (below_aft HB0.out hb1); clear hb1; obtain ⟨a0, a1, c0, c1, d0, d1⟩ := HT.out.cells)
      | (go_at_call 16; refine (C16.out _ _ _ HT.out HB.out (by first | exact .p | exact .q | exact .r)).mono ?_; rintro e wn ⟨rfl, hbn⟩; have HT2 := hidD (HT.out.bel hbn); have HB2 := hidD (below_aft HB.out hbn); clear HT HB a0 a1 c0 c1 d0 d1 hbn; have HT := HT2; have HB := HB2; clear HT2 HB2; obtain ⟨a0, a1, c0, c1, d0, d1⟩ := HT.out.cells)
      | (go_at_call 10; refine (AW.out _).mono ?_; rintro e w8 ⟨rfl, hb8⟩; have HB8 := hidD (below_aft HB.out hb8); clear hb8))
    go_ret
    exact ⟨rfl, HB8.out⟩)
end Go.Proofs.YtnohcppipkpgmaaDoor
namespace Go.Proofs.YtnohcppipkpgmaaDoor
open Go.RowKit Go.Shelf
set_option linter.unusedVariables false
set_option linter.unusedSimpArgs false

/-- Behind the store of what is held. -/
theorem depth_h {w w2 w3 : World} {x y z : Pt} {p q r : List Int} {l : Int} {ga hn : Nat} (hT : T3 w2 w.heap.size x y z p q r) (hB : Below w.heap.size w w2) (hP : PAt w2 (preP l ga hn) (p.take hn)) (hw : w3 = S2 (w2.alloc (plO 0 none 0 0)) w2.heap.size (preP l ga hn)) :
    Below w2.heap.size w2 w3 ∧ T3 w3 w.heap.size x y z p q r ∧ Below w.heap.size w w3 ∧ At w3 w2.heap.size (preP l ga hn).o ∧ PAt w3 (preP l ga hn) (p.take hn) := by
  have hb : Below w2.heap.size w2 w3 := by
    rw [hw]
    exact below_s2 (belA (Below.refl _ _)) (Nat.le_refl _) _
  refine ⟨hb, hT.bel hb, below_aft hB hb, ?_, hP.bel hb⟩
  rw [hw]
  exact (At.new w2 _).set2 (x := ⟨0, none, 0, 0⟩) _
/-- What is held, and held of that, in variables. -/
structure H5 (w V : World) (bh bk : Nat) (x y z : Pt) (p q r : List Int) (l : Int) (ga ga2 hn : Nat) : Prop where
  t : T3 V w.heap.size x y z p q r
  b : Below w.heap.size w V
  ah : At V bh (plO l (preA ga hn) hn hn)
  ak : At V bk (plO l (preA ga2 hn) hn hn)
  ph : PAt V (preP l ga hn) (p.take hn)
  pk : PAt V (preP l ga2 hn) (p.take hn)
theorem H5.bel {w V V' : World} {bh bk : Nat} {x y z : Pt} {p q r : List Int} {l : Int} {ga ga2 hn : Nat} (h : H5 w V bh bk x y z p q r l ga ga2 hn) (hb : Below V.heap.size V V') : H5 w V' bh bk x y z p q r l ga ga2 hn := ⟨h.t.bel hb, below_aft h.b hb, h.ah.below hb, h.ak.below hb, h.ph.bel hb, h.pk.bel hb⟩
theorem H5.cells {w V : World} {bh bk : Nat} {x y z : Pt} {p q r : List Int} {l : Int} {ga ga2 hn : Nat} (h : H5 w V bh bk x y z p q r l ga ga2 hn) : V.cell? ⟨w.heap.size, 0, none⟩ = some (.int .i64 x.l) ∧ V.cell? ⟨w.heap.size, 1, none⟩ = some (.slice x.a x.n x.cap) ∧ V.cell? ⟨bh, 0, none⟩ = some (.int .i64 l) ∧ V.cell? ⟨bh, 1, none⟩ = some (.slice (preA ga hn) hn hn) ∧ V.cell? ⟨bk, 0, none⟩ = some (.int .i64 l) ∧ V.cell? ⟨bk, 1, none⟩ = some (.slice (preA ga2 hn) hn hn) := ⟨h.t.a1.pl.1, h.t.a1.pl.2, h.ah.pl.1, h.ah.pl.2, h.ak.pl.1, h.ak.pl.2⟩
/-- Which places Within is asked of behind the loop. -/
inductive Q22 (s t o x h : Value) (b : Bool) : Array Value → Bool → Prop
  | oh : Q22 s t o x h b #[s, t, o, h, .int .u8 2] true
  | ox : Q22 s t o x h b #[s, t, o, x, .int .u8 2] b
/-- Which places Same is asked of behind the loop. -/
inductive Q28 (x h k : Value) (b : Bool) : Array Value → Bool → Prop
  | hk : Q28 x h k b #[h, k] true
  | hx : Q28 x h k b #[h, x] b
set_option maxRecDepth 100000 in
set_option maxHeartbeats 16000000 in
/-- PlaceDepths, where all fits and may be. -/
theorem depths_in {w : World} {a la : Option Addr} {n cap ln lcap : Nat} {ok : Bool} {fc : Nat → List Ch} {cl : List Ch} (hC : Cx w a la n cap ln lcap ok fc cl) {x y z : Pt} {p q r : List Int} (hP : PAt w x p) (hQ : PAt w y q) (hR : PAt w z r) (hf : FitA a n cap la ln lcap [p, q, r] true w) {cp cq cr : Ch} {gp gq gr : List Int} (e1 : wyX ok fc cl x.l p = some (cp, gp)) (e2 : wyX ok fc cl y.l q = some (cq, gq)) (e3 : wyX ok fc cl z.l r = some (cr, gr)) :
    Calls Tryd.prog 7 #[.slice a n cap, .slice la ln lcap, x.v, y.v, z.v] w fun e w' => e = .returned (.bool true) ∧ Below w.heap.size w w' := by
  have AW : Hid (∀ W, Calls Tryd.prog 10 #[] W fun e w' => e = .returned (.bool true) ∧ Below W.heap.size W w') := awake_true
  obtain ⟨l, pa, m, pcap⟩ := x
  obtain ⟨l2, qa, m2, qcap⟩ := y
  obtain ⟨l3, ra, m3, rcap⟩ := z
  have CF := hidD (hf _ _ _ bel4 (ps_tri hP hQ hR) rfl)
  have HT0 := hidD (T3.start hP hQ hR)
  have HB0 : Hid (Below w.heap.size w ((((w.alloc (plO l pa m pcap)).alloc (plO l2 qa m2 qcap)).alloc (plO l3 ra m3 rcap)).alloc (triO ⟨l, pa, m, pcap⟩ ⟨l2, qa, m2, qcap⟩ ⟨l3, ra, m3, rcap⟩))) := bel4
  have C16 : Hid (∀ V args b, T3 V w.heap.size ⟨l, pa, m, pcap⟩ ⟨l2, qa, m2, qcap⟩ ⟨l3, ra, m3, rcap⟩ p q r → Below w.heap.size w V → P16 (.slice a n cap) (.slice la ln lcap) (plV l pa m pcap) (plV l2 qa m2 qcap) (plV l3 ra m3 rcap) true true true args b → Calls Tryd.prog 16 args V fun e w' => e = .returned (.bool b) ∧ Below V.heap.size V w') := fun V args b h hV k => by
    cases k
    · exact May_any hV hC h.p1 true (by rw [show wyX ok fc cl (Pt.mk l pa m pcap).l p = _ from e1]; rfl)
    · exact May_any hV hC h.p2 true (by rw [show wyX ok fc cl (Pt.mk l2 qa m2 qcap).l q = _ from e2]; rfl)
    · exact May_any hV hC h.p3 true (by rw [show wyX ok fc cl (Pt.mk l3 ra m3 rcap).l r = _ from e3]; rfl)
  obtain ⟨B1, hB1⟩ := bools_of (fun d => (l = l2 ∧ p <+: q) ∧ wiB d (gq.drop p.length) = true)
  obtain ⟨B2, hB2⟩ := bools_of (fun d => (l2 = l3 ∧ q <+: r) ∧ wiB d (gr.drop q.length) = true)
  obtain ⟨B3, hB3⟩ := bools_of (fun d => (l = l3 ∧ p <+: r) ∧ wiB d (gr.drop p.length) = true)
  obtain ⟨fpq, hfpq⟩ := bool_of (l = l2 ∧ p <+: q)
  obtain ⟨fqr, hfqr⟩ := bool_of (l2 = l3 ∧ q <+: r)
  have C22 : Hid (∀ V args b d, T3 V w.heap.size ⟨l, pa, m, pcap⟩ ⟨l2, qa, m2, qcap⟩ ⟨l3, ra, m3, rcap⟩ p q r → Below w.heap.size w V → 1 ≤ d ∧ d ≤ 3 → P22 (.slice a n cap) (.slice la ln lcap) (plV l pa m pcap) (plV l2 qa m2 qcap) (plV l3 ra m3 rcap) d (B1 d) (B2 d) (B3 d) args b → Calls Tryd.prog 22 args V fun e w' => e = .returned (.tuple #[.bool b, .int .i64 0]) ∧ Below V.heap.size V w') := fun V args b d h hV hd k => by
    cases k
    · exact (Within_any hV hC h.p1 h.p2 d (by omega) _ _ e1.symm e2.symm).mono fun e w' k => ⟨with_yes k.1 hd.1 hd.2 (hB1 d), k.2⟩
    · exact (Within_any hV hC h.p2 h.p3 d (by omega) _ _ e2.symm e3.symm).mono fun e w' k => ⟨with_yes k.1 hd.1 hd.2 (hB2 d), k.2⟩
    · exact (Within_any hV hC h.p1 h.p3 d (by omega) _ _ e1.symm e3.symm).mono fun e w' k => ⟨with_yes k.1 hd.1 hd.2 (hB3 d), k.2⟩
  have C24 : Hid (∀ V args b, T3 V w.heap.size ⟨l, pa, m, pcap⟩ ⟨l2, qa, m2, qcap⟩ ⟨l3, ra, m3, rcap⟩ p q r → Q24 (plV l pa m pcap) (plV l2 qa m2 qcap) (plV l3 ra m3 rcap) fpq fqr args b → Calls Tryd.prog 24 args V fun e w' => e = .returned (.bool b) ∧ Below V.heap.size V w') := fun V args b h k => by
    cases k
    · exact Prefix_any h.p1 h.p2 fpq hfpq
    · exact Prefix_any h.p2 h.p3 fqr hfqr
  have F1 : Hid (∀ d, B1 d = true → B1 (d + 1) = true) := fun d h => (hB1 _).2 ⟨((hB1 d).1 h).1, wiB_mono ((hB1 d).1 h).2⟩
  have F2 : Hid (∀ d, B1 d = true → fpq = true) := fun d h => hfpq.2 ((hB1 d).1 h).1
  have F3 : Hid (∀ d, fpq = true → fqr = true → B3 d = (B1 d && B2 d)) := fun d h h' => by
    obtain ⟨rfl, k1⟩ := hfpq.1 h
    obtain ⟨rfl, k2⟩ := hfqr.1 h'
    have := within_on e2 e3 k1 k2 d
    rw [Bool.eq_iff_iff, Bool.and_eq_true, hB3, hB1, hB2, this, Bool.and_eq_true]
    exact ⟨fun h => ⟨⟨⟨rfl, k1⟩, h.2.1⟩, ⟨rfl, k2⟩, h.2.2⟩, fun h => ⟨⟨rfl, k1.trans k2⟩, h.1.2, h.2.2⟩⟩
  -- what is held
  have hok := wyX_ok hC e1
  have hgl : gp.length = p.length := hok.2.2.1
  have hp8 : p.length ≤ 8 := hok.2.2.2.1
  have hm : m = p.length := hP.row.len
  have hle := heldN_le gp
  obtain ⟨hn, hhn⟩ : ∃ hn, hn = heldN gp := ⟨_, rfl⟩
  obtain ⟨bw, hbw⟩ := bool_of (wiB 2 gp = true)
  have htl : (p.take hn).length = hn := by rw [List.length_take]; omega
  obtain ⟨ch, e4⟩ := wyX_pre e1 (List.take_prefix hn p)
  rw [htl] at e4
  obtain ⟨c0, e5⟩ := wyX_pre e1 (List.nil_prefix (l := p))
  have hL : -9223372036854775808 ≤ l ∧ l ≤ 9223372036854775807 := ⟨hP.l0, hP.l1⟩
  have hG := hP.row.rng
  have C14 : Hid (∀ V, T3 V w.heap.size ⟨l, pa, m, pcap⟩ ⟨l2, qa, m2, qcap⟩ ⟨l3, ra, m3, rcap⟩ p q r → Below w.heap.size w V → Calls Tryd.prog 14 #[.slice a n cap, .slice la ln lcap, plV l pa m pcap] V fun e w' => ∃ ga, e = .returned (.tuple #[plV l (preA ga hn) hn hn, .int .i64 0]) ∧ PAt w' (preP l ga hn) (p.take hn) ∧ Below V.heap.size V w') := fun V h hV => by
    refine (Held_any hV hC h.p1 _ e1.symm).mono fun e w' k => ?_
    obtain ⟨⟨gl, ga, h1, h2⟩, h3⟩ := k
    refine ⟨ga, ?_, (h2.place hL hG (by omega) (i := hn) (by omega)).2.2, h3⟩
    rw [h1, hhn]
    rfl
  have C14b : Hid (∀ V ga, PAt V (preP l ga hn) (p.take hn) → Below w.heap.size w V → Calls Tryd.prog 14 #[.slice a n cap, .slice la ln lcap, plV l (preA ga hn) hn hn] V fun e w' => ∃ ga2, e = .returned (.tuple #[plV l (preA ga2 hn) hn hn, .int .i64 0]) ∧ PAt w' (preP l ga2 hn) (p.take hn) ∧ Below V.heap.size V w') := fun V ga h hV => by
    refine (Held_any hV hC h _ e4.symm).mono fun e w' k => ?_
    obtain ⟨⟨gl, ga2, h1, h2⟩, h3⟩ := k
    have hn2 : heldN (gp.take hn) = hn := by rw [hhn]; exact heldN_take gp
    have hpl := (h2.place hL (fun x hx => hG x (List.mem_of_mem_take hx)) (by omega) (i := hn) (by omega)).2.2
    rw [List.take_of_length_le (show (p.take hn).length ≤ hn by omega)] at hpl
    refine ⟨ga2, ?_, hpl, h3⟩
    rw [h1, hn2]
    rfl
  have PN : Hid (∀ V, PAt V ⟨l, none, 0, 0⟩ []) := fun V => ⟨⟨rfl, Nat.le_refl _, by simp, fun h => absurd rfl h, fun x hx => by simp at hx, fun _ => rfl⟩, hL.1, hL.2⟩
  have C22h : Hid (∀ V ga, PAt V (preP l ga hn) (p.take hn) → Below w.heap.size w V → Calls Tryd.prog 22 #[.slice a n cap, .slice la ln lcap, plV l none 0 0, plV l (preA ga hn) hn hn, .int .u8 2] V fun e w' => e = .returned (.tuple #[.bool true, .int .i64 0]) ∧ Below V.heap.size V w') := fun V ga h hV =>
    (Within_any hV hC (PN.out V) h 2 (by omega) _ _ e5.symm e4.symm).mono fun e w' k => ⟨with_yes k.1 (by omega) (by omega) ⟨fun _ => ⟨⟨rfl, List.nil_prefix⟩, by rw [hhn]; exact held_within gp⟩, fun _ => rfl⟩, k.2⟩
  have C22p : Hid (∀ V, T3 V w.heap.size ⟨l, pa, m, pcap⟩ ⟨l2, qa, m2, qcap⟩ ⟨l3, ra, m3, rcap⟩ p q r → Below w.heap.size w V → Calls Tryd.prog 22 #[.slice a n cap, .slice la ln lcap, plV l none 0 0, plV l pa m pcap, .int .u8 2] V fun e w' => e = .returned (.tuple #[.bool bw, .int .i64 0]) ∧ Below V.heap.size V w') := fun V h hV =>
    (Within_any hV hC (PN.out V) h.p1 2 (by omega) _ _ e5.symm e1.symm).mono fun e w' k => ⟨with_yes k.1 (by omega) (by omega) (hbw.trans ⟨fun h => ⟨⟨rfl, List.nil_prefix⟩, h⟩, fun h => h.2⟩), k.2⟩
  have C28a : Hid (∀ V ga ga2, PAt V (preP l ga hn) (p.take hn) → PAt V (preP l ga2 hn) (p.take hn) → Calls Tryd.prog 28 #[plV l (preA ga hn) hn hn, plV l (preA ga2 hn) hn hn] V fun e w' => e = .returned (.bool true) ∧ Below V.heap.size V w') := fun V ga ga2 h h' => Same_any h h' true ⟨fun _ => ⟨rfl, rfl⟩, fun _ => rfl⟩
  have C28b : Hid (∀ V ga, PAt V (preP l ga hn) (p.take hn) → T3 V w.heap.size ⟨l, pa, m, pcap⟩ ⟨l2, qa, m2, qcap⟩ ⟨l3, ra, m3, rcap⟩ p q r → Calls Tryd.prog 28 #[plV l (preA ga hn) hn hn, plV l pa m pcap] V fun e w' => e = .returned (.bool bw) ∧ Below V.heap.size V w') := fun V ga h h' => Same_any h h'.p1 bw (by
    rw [hbw, held_whole, ← hhn]
    refine ⟨fun e => ⟨rfl, by rw [e, hgl]; exact List.take_length⟩, fun e => ?_⟩
    have := congrArg List.length e.2
    omega)
  have C24h : Hid (∀ V ga, PAt V (preP l ga hn) (p.take hn) → T3 V w.heap.size ⟨l, pa, m, pcap⟩ ⟨l2, qa, m2, qcap⟩ ⟨l3, ra, m3, rcap⟩ p q r → Calls Tryd.prog 24 #[plV l (preA ga hn) hn hn, plV l pa m pcap] V fun e w' => e = .returned (.bool true) ∧ Below V.heap.size V w') := fun V ga h h' => Prefix_any h h'.p1 true ⟨fun _ => ⟨rfl, List.take_prefix _ _⟩, fun _ => rfl⟩
  show Calls Tryd.prog 7 #[.slice a n cap, .slice la ln lcap, plV l pa m pcap, plV l2 qa m2 qcap, plV l3 ra m3 rcap] w _
  clear hC hP hQ hR hf e1 e2 e3 e4 e5 hB1 hB2 hB3 hfpq hfqr hok hgl hp8 hm hle hhn hbw htl hL hG PN
  go_enter Tryd.func7, Tryd.ntmps7
  go_upto_region 3 with (first
      | (go_at_call 9; refine CF.out.mono ?_; rintro e w1 ⟨rfl, hb1⟩; have HT := hidD (HT0.out.bel hb1); have HB := hidD (below_aft HB0.out hb1); clear hb1; obtain ⟨a0, a1, c0, c1, d0, d1⟩ := HT.out.cells)
      | (go_at_call 16; refine (C16.out _ _ _ HT.out HB.out (by first | exact .p | exact .q | exact .r)).mono ?_; rintro e wn ⟨rfl, hbn⟩; have HT2 := hidD (HT.out.bel hbn); have HB2 := hidD (below_aft HB.out hbn); clear HT HB a0 a1 c0 c1 d0 d1 hbn; have HT := HT2; have HB := HB2; clear HT2 HB2; obtain ⟨a0, a1, c0, c1, d0, d1⟩ := HT.out.cells))
  clear CF HT0 HB0 C16
  go_wp2_with fail
  go_loopw [11, 12] (fun v u V => ∃ (d : Nat) (wb : Bool), 1 ≤ d ∧ d ≤ 4 ∧ v = .bool wb ∧ u = .int .u8 (d : Int) ∧ (wb = true → B1 d = true) ∧ T3 V w.heap.size ⟨l, pa, m, pcap⟩ ⟨l2, qa, m2, qcap⟩ ⟨l3, ra, m3, rcap⟩ p q r ∧ Below w.heap.size w V) (fun _ u _ => 4 - (intOf u).toNat)
  case atStart => exact ⟨1, false, Nat.le_refl _, by decide, rfl, rfl, (fun e => by cases e), HT.out, HB.out⟩
  case round =>
    clear HT HB a0 a1 c0 c1 d0 d1
    obtain ⟨d, wb, hd1, hd4, rfl, rfl, hwb, hT, hB⟩ := hrel
    have HT := hidD hT
    have HB := hidD hB
    have HW := hidD hwb
    obtain ⟨a0, a1, c0, c1, d0, d1⟩ := HT.out.cells
    clear hT hB hwb
    by_cases hd : d ≤ 3
    · have k1 : (d : Int) ≤ 3 := by omega
      have HD : Hid (1 ≤ d ∧ d ≤ 3) := ⟨hd1, hd⟩
      have wr1 : IntKind.u8.wrap ((d : Int) + 1) = (d : Int) + 1 := by
        have h1 : d = 1 ∨ d = 2 ∨ d = 3 := by omega
        rcases h1 with rfl | rfl | rfl <;> decide
      have F2 : Hid (B1 d = true → fpq = true) := F2.out d
      have F3 : Hid (fpq = true → fqr = true → B3 d = (B1 d && B2 d)) := F3.out d
      have F1 : Hid (B1 d = true → B1 (d + 1) = true) := F1.out d
      have CW : Hid (∀ V args b, T3 V w.heap.size ⟨l, pa, m, pcap⟩ ⟨l2, qa, m2, qcap⟩ ⟨l3, ra, m3, rcap⟩ p q r → Below w.heap.size w V → P22 (.slice a n cap) (.slice la ln lcap) (plV l pa m pcap) (plV l2 qa m2 qcap) (plV l3 ra m3 rcap) d (B1 d) (B2 d) (B3 d) args b → Calls Tryd.prog 22 args V fun e w' => e = .returned (.tuple #[.bool b, .int .i64 0]) ∧ Below V.heap.size V w') := fun V args b h hV k => C22.out V args b d h hV HD.out k
      clear hd1 hd4 hd C22
      obtain ⟨bpq, e1⟩ : ∃ b, b = B1 d := ⟨_, rfl⟩
      obtain ⟨bqr, e2⟩ : ∃ b, b = B2 d := ⟨_, rfl⟩
      obtain ⟨bpr, e3⟩ : ∃ b, b = B3 d := ⟨_, rfl⟩
      rw [← e1] at HW F1 F2 F3 CW
      rw [← e2] at F3 CW
      rw [← e3] at F3 CW
      clear e1 e2 e3 AW C14 C14b C22h C22p C28a C28b C24h
      go_upto_region 10 with (go_at_call 22; refine (CW.out _ _ _ HT.out HB.out (by first | exact .pq | exact .qr | exact .pr)).mono ?_; rintro e wn ⟨rfl, hbn⟩; have HT2 := hidD (HT.out.bel hbn); have HB2 := hidD (below_aft HB.out hbn); clear HT HB a0 a1 c0 c1 d0 d1 hbn; have HT := HT2; have HB := HB2; clear HT2 HB2; obtain ⟨a0, a1, c0, c1, d0, d1⟩ := HT.out.cells)
      have f2 := F2.out
      have f3 := F3.out
      have f0 := HW.out
      clear F2 F3 HW
      cases wb <;> cases bpq <;> cases fpq <;> cases fqr <;> cases bqr <;> cases bpr
      all_goals (try (exact absurd (f0 rfl) (by decide)))
      all_goals (try (exact absurd (f2 rfl) (by decide)))
      all_goals (try (exact absurd (f3 rfl rfl) (by decide)))
      all_goals clear f0 f2 f3
      all_goals as_aux_lemma =>
        go_wp2_with (go_at_call 24; refine (C24.out _ _ _ HT.out (by first | exact .pq | exact .qr)).mono ?_; rintro e wn ⟨rfl, hbn⟩; have HT2 := hidD (HT.out.bel hbn); have HB2 := hidD (below_aft HB.out hbn); clear HT HB a0 a1 c0 c1 d0 d1 hbn; have HT := HT2; have HB := HB2; clear HT2 HB2; obtain ⟨a0, a1, c0, c1, d0, d1⟩ := HT.out.cells)
        refine ⟨⟨d + 1, _, by omega, by have := HD.out; omega, rfl, rfl, (by first | exact F1.out | exact fun _ => F1.out trivial | (intro hh; cases hh)), HT.out, HB.out⟩, ?_⟩
        show 4 - ((d : Int) + 1).toNat < 4 - (d : Int).toNat
        have := HD.out
        omega
    · obtain rfl : d = 4 := by omega
      have k1 : ¬ (4 : Int) ≤ 3 := by omega
      clear HW hd hd1 hd4 C22 C24 F1 F2 F3
      go_upto_region 14 with (first
        | (go_at_call 14; refine (C14.out _ HT.out HB.out).mono ?_; rintro e w2 ⟨ga, rfl, hh, hb2⟩; have HT2 := hidD (HT.out.bel hb2); have HB2 := hidD (below_aft HB.out hb2); have HH2 := hidD hh; clear hh hb2)
        | ((with_reducible show wpList _ _ _ (Oper.mk none (Op.store 26 _ _) _ _ _ none :: _) _ _); refine wpl_storeP w2.heap.size ⟨0, none, 0, 0⟩ (preP l ga hn) (At.new w2 _) rfl rfl ?_; intro w3 hw3))
      have F3w := hidD (depth_h HT2.out HB2.out HH2.out hw3)
      clear hw3 HT HB a0 a1 c0 c1 d0 d1 HT2 HB2 HH2 C14
      obtain ⟨-, HT3', HB3', hA3, hP3⟩ := F3w.out
      have HT := hidD HT3'
      have HB := hidD HB3'
      have HA := hidD hA3
      have HP := hidD hP3
      clear HT3' HB3' hA3 hP3 F3w
      obtain ⟨h0, h1⟩ := At.pl (l := l) (a := preA ga hn) (n := hn) (cap := hn) HA.out
      go_upto_region 15 with (first
        | (go_at_call 14; refine (C14b.out _ ga HP.out HB.out).mono ?_; rintro e w4 ⟨ga2, rfl, hh, hb4⟩; have HT4 := hidD (HT.out.bel hb4); have HB4 := hidD (below_aft HB.out hb4); have HH4 := hidD hh; have HA4 := hidD (HA.out.below hb4); have HP4 := hidD (HP.out.bel hb4); clear hh hb4)
        | ((with_reducible show wpList _ _ _ (Oper.mk none (Op.store 26 _ _) _ _ _ none :: _) _ _); refine wpl_storeP w4.heap.size ⟨0, none, 0, 0⟩ (preP l ga2 hn) (At.new w4 _) rfl rfl ?_; intro w5 hw5))
      have H : Hid (H5 w w5 w2.heap.size w4.heap.size ⟨l, pa, m, pcap⟩ ⟨l2, qa, m2, qcap⟩ ⟨l3, ra, m3, rcap⟩ p q r l ga ga2 hn) := by
        obtain ⟨g1, g2, g3, g4, g5⟩ := depth_h HT4.out HB4.out HH4.out hw5
        exact ⟨g2, g3, HA4.out.below g1, g4, HP4.out.bel g1, g5⟩
      clear hw5 HT HB h0 h1 HA HP HT4 HB4 HH4 HA4 HP4 C14b
      have C22 : Hid (∀ V args b, H5 w V w2.heap.size w4.heap.size ⟨l, pa, m, pcap⟩ ⟨l2, qa, m2, qcap⟩ ⟨l3, ra, m3, rcap⟩ p q r l ga ga2 hn → Q22 (.slice a n cap) (.slice la ln lcap) (plV l none 0 0) (plV l pa m pcap) (plV l (preA ga hn) hn hn) bw args b → Calls Tryd.prog 22 args V fun e w' => e = .returned (.tuple #[.bool b, .int .i64 0]) ∧ Below V.heap.size V w') := fun V args b h k => by
        cases k
        · exact C22h.out V ga h.ph h.b
        · exact C22p.out V h.t h.b
      have C28 : Hid (∀ V args b, H5 w V w2.heap.size w4.heap.size ⟨l, pa, m, pcap⟩ ⟨l2, qa, m2, qcap⟩ ⟨l3, ra, m3, rcap⟩ p q r l ga ga2 hn → Q28 (plV l pa m pcap) (plV l (preA ga hn) hn hn) (plV l (preA ga2 hn) hn hn) bw args b → Calls Tryd.prog 28 args V fun e w' => e = .returned (.bool b) ∧ Below V.heap.size V w') := fun V args b h k => by
        cases k
        · exact C28a.out V ga ga2 h.ph h.pk
        · exact C28b.out V ga h.ph h.t
      have C24 : Hid (∀ V, H5 w V w2.heap.size w4.heap.size ⟨l, pa, m, pcap⟩ ⟨l2, qa, m2, qcap⟩ ⟨l3, ra, m3, rcap⟩ p q r l ga ga2 hn → Calls Tryd.prog 24 #[plV l (preA ga hn) hn hn, plV l pa m pcap] V fun e w' => e = .returned (.bool true) ∧ Below V.heap.size V w') := fun V h => C24h.out V ga h.ph h.t
      clear C22h C22p C28a C28b C24h
      obtain ⟨z0, z1, z2, z3, z4, z5⟩ := H.out.cells
      obtain ⟨bh, hbh⟩ : ∃ bh, bh = w2.heap.size := ⟨_, rfl⟩
      obtain ⟨bk, hbk⟩ : ∃ bk, bk = w4.heap.size := ⟨_, rfl⟩
      rw [← hbh] at H C22 C28 C24 z2 z3 ⊢
      rw [← hbk] at H C22 C28 C24 z4 z5 ⊢
      clear hbh hbk
      cases bw
      all_goals as_aux_lemma =>
        go_wp2_with (first
          | (go_at_call 22; refine (C22.out _ _ _ H.out (by first | exact .oh | exact .ox)).mono ?_; rintro e wn ⟨rfl, hbn⟩; have H' := hidD (H.out.bel hbn); clear H z0 z1 z2 z3 z4 z5 hbn; have H := H'; clear H'; obtain ⟨z0, z1, z2, z3, z4, z5⟩ := H.out.cells)
          | (go_at_call 28; refine (C28.out _ _ _ H.out (by first | exact .hk | exact .hx)).mono ?_; rintro e wn ⟨rfl, hbn⟩; have H' := hidD (H.out.bel hbn); clear H z0 z1 z2 z3 z4 z5 hbn; have H := H'; clear H'; obtain ⟨z0, z1, z2, z3, z4, z5⟩ := H.out.cells)
          | (go_at_call 24; refine (C24.out _ H.out).mono ?_; rintro e wn ⟨rfl, hbn⟩; have H' := hidD (H.out.bel hbn); clear H z0 z1 z2 z3 z4 z5 hbn; have H := H'; clear H'; obtain ⟨z0, z1, z2, z3, z4, z5⟩ := H.out.cells)
          | (go_at_call 10; refine (AW.out _).mono ?_; rintro e wn ⟨rfl, hbn⟩; have HB9 := hidD (below_aft H.out.b hbn); clear hbn))
        go_ret
        exact ⟨rfl, HB9.out⟩
end Go.Proofs.YtnohcppipkpgmaaDoor
