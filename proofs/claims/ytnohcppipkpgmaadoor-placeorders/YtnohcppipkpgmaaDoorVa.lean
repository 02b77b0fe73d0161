import Derived.Test.YtnohcppipkpgmaaDoorSe
namespace Go.Proofs.YtnohcppipkpgmaaDoor
open Go.RowKit Go.Shelf
set_option linter.unusedVariables false
set_option linter.unusedSimpArgs false

theorem wi1_mono {d : Nat} {g : Int} (h : wi1 d g = true) : wi1 (d + 1) g = true := by
  unfold wi1 at h ⊢
  rw [Bool.and_eq_true, Bool.and_eq_true, Bool.not_eq_true', Bool.not_eq_true', Bool.not_eq_true', Bool.and_eq_false_iff, Bool.and_eq_false_iff, decide_eq_false_iff_not, decide_eq_false_iff_not, decide_eq_false_iff_not, decide_eq_false_iff_not, decide_eq_false_iff_not] at h ⊢
  omega
theorem wiB_mono {d : Nat} {l : List Int} (h : wiB d l = true) : wiB (d + 1) l = true := by
  unfold wiB at h ⊢
  rw [List.all_eq_true] at h ⊢
  exact fun g hg => wi1_mono (h g hg)
theorem wiB_append (d : Nat) (l m : List Int) : wiB d (l ++ m) = (wiB d l && wiB d m) := by unfold wiB; rw [List.all_append]
theorem wayC_pre (fc : Nat → List Ch) : ∀ (q s : List Int) (c d : Ch) (gs : List Int), wayC fc c (q ++ s) = some (d, gs) → ∃ c', wayC fc c q = some (c', gs.take q.length)
  | [], s, c, d, gs, h => ⟨c, by simp [wayC]⟩
  | x :: q, s, c, d, gs, h => by
    rw [List.cons_append, wayC, Option.bind_eq_some_iff] at h
    obtain ⟨y, h1, h2⟩ := h
    rw [Option.map_eq_some_iff] at h2
    obtain ⟨⟨z1, z2⟩, h3, h4⟩ := h2
    obtain ⟨c', h5⟩ := wayC_pre fc q s y.1 z1 z2 h3
    cases h4
    refine ⟨c', ?_⟩
    rw [wayC, h1]
    show Option.map _ (wayC fc y.1 q) = _
    rw [h5]
    simp
/-- What a prefix's way is. -/
theorem wyX_pre {ok : Bool} {fc : Nat → List Ch} {cl : List Ch} {l : Int} {q r : List Int} {d : Ch} {gs : List Int} (h : wyX ok fc cl l r = some (d, gs)) (hq : q <+: r) : ∃ c', wyX ok fc cl l q = some (c', gs.take q.length) := by
  obtain ⟨s, rfl⟩ := hq
  unfold wyX at h ⊢
  split at h
  · rename_i hok
    rw [if_pos hok]
    unfold wayP at h ⊢
    split at h
    · rename_i hl
      rw [Option.bind_eq_some_iff] at h
      obtain ⟨c, h1, h2⟩ := h
      obtain ⟨c', h3⟩ := wayC_pre fc q s c d gs h2
      rw [if_pos ⟨hl.1, by have := hl.2; simp at this; omega⟩, h1]
      exact ⟨c', h3⟩
    · cases h
  · cases h
/-- What is within goes on. -/
theorem within_on {ok : Bool} {fc : Nat → List Ch} {cl : List Ch} {l : Int} {p q r : List Int} {cq cr : Ch} {gq gr : List Int} (hq : wyX ok fc cl l q = some (cq, gq)) (hr : wyX ok fc cl l r = some (cr, gr)) (hpq : p <+: q) (hqr : q <+: r) (d : Nat) :
    wiB d (gr.drop p.length) = (wiB d (gq.drop p.length) && wiB d (gr.drop q.length)) := by
  obtain ⟨c', h1⟩ := wyX_pre hr hqr
  rw [hq] at h1
  cases h1
  rw [← wiB_append]
  congr 1
  have hle : p.length ≤ q.length := hpq.length_le
  have e1 : gr.drop q.length = (gr.drop p.length).drop (q.length - p.length) := by rw [List.drop_drop]; congr 1; omega
  rw [List.drop_take, e1, List.take_append_drop]
theorem heldN_cons (g : Int) (l : List Int) : heldN (g :: l) = if isR g = true then 0 else heldN l + 1 := rfl
theorem heldN_take : ∀ gs : List Int, heldN (gs.take (heldN gs)) = heldN gs
  | [] => rfl
  | g :: l => by
    by_cases hg : isR g = true
    · rw [heldN_cons, if_pos hg]
      rfl
    · rw [heldN_cons, if_neg hg, List.take_succ_cons, heldN_cons, if_neg hg, heldN_take l]
theorem wi1_two (g : Int) : wi1 2 g = !isR g := by
  unfold wi1 isR
  simp
theorem held_within : ∀ gs : List Int, wiB 2 (gs.take (heldN gs)) = true
  | [] => rfl
  | g :: l => by
    by_cases hg : isR g = true
    · rw [heldN_cons, if_pos hg]
      rfl
    · rw [heldN_cons, if_neg hg, List.take_succ_cons]
      show (wi1 2 g && wiB 2 _) = true
      rw [wi1_two, held_within l, Bool.and_true, Bool.not_eq_true']
      simpa using hg
theorem held_whole : ∀ gs : List Int, wiB 2 gs = true ↔ heldN gs = gs.length
  | [] => by simp [wiB, heldN]
  | g :: l => by
    show (wi1 2 g && wiB 2 l) = true ↔ _
    rw [wi1_two, Bool.and_eq_true, Bool.not_eq_true', held_whole l, heldN_cons]
    by_cases hg : isR g = true
    · rw [if_pos hg]
      simp [hg]
    · rw [if_neg hg]
      simp [hg]
end Go.Proofs.YtnohcppipkpgmaaDoor
namespace Go.Proofs.YtnohcppipkpgmaaDoor
open Go.RowKit Go.Shelf
set_option linter.unusedVariables false
set_option linter.unusedSimpArgs false

/-- What fits says of structs, locals and places, from a world on. -/
def FitA (a : Option Addr) (n cap : Nat) (la : Option Addr) (ln lcap : Nat) (ps : List (List Int)) (b : Bool) (w : World) : Prop := ∀ (W : World) (g : Nat) (xs : List (Pt × List Int)), Below w.heap.size w W → PsAt W g xs → xs.map Prod.snd = ps →
  Calls Tryd.prog 9 #[.slice a n cap, .slice la ln lcap, .slice (some ⟨g, 0, none⟩) ps.length ps.length] W fun e w' => e = .returned (.bool b) ∧ Below W.heap.size W w'
set_option maxRecDepth 100000 in
set_option maxHeartbeats 8000000 in
theorem fitA_ex {w : World} {a la : Option Addr} {n cap ln lcap : Nat} {ss : List (List Ty)} {ts : List Ty} (h : StAt w a n cap ss) (hl : LcAt w la ln lcap ts) (ps : List (List Int)) (hk : ps.length ≤ 10) : ∃ b, FitA a n cap la ln lcap ps b w ∧ (b = true → n ≤ 60 ∧ ln ≤ 60 ∧ (∀ fs ∈ ss, fs.length ≤ 60) ∧ ∀ p ∈ ps, p.length ≤ 60) := by
  obtain ⟨k, hkk⟩ : ∃ k, k = ps.length := ⟨_, rfl⟩
  unfold FitA
  rw [← hkk] at hk ⊢
  by_cases hn : 60 < n
  · refine ⟨false, fun W g xs hW hX hx => ?_, fun e => by cases e⟩
    have k1 : (60 : Int) < (n : Int) := by omega
    clear h hl
    go_enter Tryd.func9, Tryd.ntmps9
    go_wp2_with fail
    go_ret
    exact ⟨rfl, Below.refl _ _⟩
  by_cases hn2 : 60 < ln
  · refine ⟨false, fun W g xs hW hX hx => ?_, fun e => by cases e⟩
    have k1 : ¬ (60 : Int) < (n : Int) := by omega
    have k2 : (60 : Int) < (ln : Int) := by omega
    clear h hl
    go_enter Tryd.func9, Tryd.ntmps9
    go_wp2_with fail
    go_ret
    exact ⟨rfl, Below.refl _ _⟩
  have hs : ∀ t : Ty, ∃ b, FitC 60 t b := fun t => fits_ex 60 60 rfl (by decide) t
  obtain ⟨bs, hbs⟩ : ∃ bs : Ty → Bool, ∀ t, FitC 60 t (bs t) := ⟨fun t => Classical.choose (hs t), fun t => Classical.choose_spec (hs t)⟩
  obtain ⟨b, hb⟩ := bool_of ((∀ (i : Nat) (fs : List Ty), ss[i]? = some fs → fs.length ≤ 60 ∧ ∀ t ∈ fs, bs t = true) ∧ (∀ (i : Nat) (t : Ty), ts[i]? = some t → bs t = true) ∧ ∀ (i : Nat) (p : List Int), ps[i]? = some p → p.length ≤ 60)
  refine ⟨b, fun W g xs hW hX hx => ?_, fun e => ⟨by omega, by omega, fun fs hf => by obtain ⟨i, hi⟩ := List.mem_iff_getElem?.1 hf; exact ((hb.1 e).1 i fs hi).1, fun p hp => by obtain ⟨i, hi⟩ := List.mem_iff_getElem?.1 hp; exact (hb.1 e).2.2 i p hi⟩⟩
  have k1 : ¬ (60 : Int) < (n : Int) := by omega
  have k1' : ¬ (60 : Int) < (ln : Int) := by omega
  have HS := hidD hbs
  have HB := hidD hb
  have HT := hidD (h.bel hW)
  have HLT := hidD (hl.bel hW)
  have hln : n = ss.length := h.len
  have HLN := hidD hln
  have hlln : ln = ts.length := hl.len
  have HLLN := hidD hlln
  have HK := hidD hkk
  have HX := hidD hX
  have HXP : Hid (∀ (i : Nat) (x : Pt) (p : List Int), xs[i]? = some (x, p) → ps[i]? = some p) := fun i x p hi => by rw [← hx, List.getElem?_map, hi]; rfl
  have HPX : Hid (∀ (i : Nat), i < k → ∃ (x : Pt) (p : List Int), xs[i]? = some (x, p)) := fun i hi => by
    have : xs.length = ps.length := by rw [← hx, List.length_map]
    exact ⟨_, _, List.getElem?_eq_getElem (by omega)⟩
  clear hbs hb h hl hW hs hln hlln hkk hX hx
  go_enter Tryd.func9, Tryd.ntmps9
  go_wp2_with fail
  go_loopw [7] (fun v V => ∃ i : Nat, i ≤ n ∧ v = .int .i64 i ∧ (∀ (i' : Nat) (fs : List Ty), i' < i → ss[i']? = some fs → fs.length ≤ 60 ∧ ∀ t ∈ fs, bs t = true) ∧ Below W.heap.size W V) (fun v _ => n - (intOf v).toNat)
  case atStart => exact ⟨0, Nat.zero_le _, rfl, fun i' fs hi => by omega, Below.refl _ _⟩
  case round =>
    obtain ⟨i, hi, rfl, hall, hBV⟩ := hrel
    obtain ⟨wo, rfl⟩ : ∃ wo, wo = wr := ⟨_, rfl⟩
    have HALL := hidD hall
    have HBV := hidD hBV
    have HV := hidD (HT.out.bel hBV)
    clear hall hBV
    by_cases hlt : i < n
    · obtain ⟨fs, hfs⟩ : ∃ fs, ss[i]? = some fs := ⟨_, List.getElem?_eq_getElem (by have := HLN.out; omega)⟩
      obtain ⟨g1, off, fa, fcap, hag, hg, hcell, hF⟩ := HV.out.one hfs
      have HF := hidD hF
      have HFS := hidD hfs
      subst hag
      have j0 : (0 : Int) ≤ (i : Int) := by omega
      have j1 : (i : Int) < (n : Int) := by omega
      have j2 : (i : Int) ≤ 1000 := by omega
      obtain ⟨m, hm⟩ : ∃ m, m = fs.length := ⟨_, rfl⟩
      have HM := hidD hm
      rw [← hm] at hcell
      clear hF hfs hm
      by_cases hm1 : 60 < m
      · have k2 : (60 : Int) < (m : Int) := by omega
        have hbf : b = false := by
          cases hb : b with
          | false => rfl
          | true =>
            have := ((HB.out.1 hb).1 i fs HFS.out).1
            have := HM.out
            omega
        subst hbf
        go_wp2_with fail
        go_ret
        exact ⟨rfl, HBV.out⟩
      · have k2 : ¬ (60 : Int) < (m : Int) := by omega
        go_wp2_with fail
        go_loopw [8] (fun v V => ∃ k : Nat, k ≤ m ∧ v = .int .i64 k ∧ (∀ k' t, k' < k → fs[k']? = some t → bs t = true) ∧ Below wo.heap.size wo V) (fun v _ => m - (intOf v).toNat)
        case atStart => exact ⟨0, Nat.zero_le _, rfl, fun k' t hk => by omega, Below.refl _ _⟩
        case round =>
          obtain ⟨kk, hkk, rfl, hall, hBk⟩ := hrel
          have HAK := hidD hall
          have HBk := hidD hBk
          have HFk := hidD (HF.out.bel hBk)
          have hc2 : wr.cell? ⟨g1, off + i * 2 + 1, none⟩ = some (.slice fa m fcap) := (hBk.cell (p := ⟨g1, off + i * 2 + 1, none⟩) hg).trans hcell
          have hg2 : g1 < wr.heap.size := Nat.lt_of_lt_of_le hg hBk.size
          clear hall hBk
          by_cases hlk : kk < m
          · obtain ⟨t, ht⟩ : ∃ t, fs[kk]? = some t := ⟨_, List.getElem?_eq_getElem (by have := HM.out; omega)⟩
            obtain ⟨g', off', hfa, hkk2⟩ := HFk.out.2 (fun e => by subst e; simp at ht)
            obtain ⟨V, nm, -, hV5, hVt⟩ := hkk2 kk t ht
            have HTT := hidD ht
            have CF : Hid (Calls Tryd.prog 35 #[V.v, .int .i64 60] wr fun e w' => e = .returned (.bool (bs t)) ∧ Below wr.heap.size wr w') := HS.out t V wr hVt
            obtain ⟨hl5, p0, p1, p2, p3, p4⟩ := hV5
            subst hfa
            have e0 : (0 : Int) ≤ (kk : Int) := by omega
            have e1 : (kk : Int) < (m : Int) := by omega
            have e2 : (kk : Int) ≤ 1000 := by omega
            clear hkk2 hVt ht
            obtain ⟨bt, hbt⟩ : ∃ bt, bt = bs t := ⟨_, rfl⟩
            rw [← hbt] at CF
            have HBT := hidD hbt
            clear hbt
            cases bt with
            | true =>
              go_wp2_with (go_at_call 35; refine CF.out.mono ?_; rintro e w1 ⟨rfl, hb1⟩)
              refine ⟨⟨kk + 1, hlk, rfl, fun k' t' hk' ht' => ?_, below_aft HBk.out hb1⟩, ?_⟩
              · by_cases e : k' = kk
                · subst e
                  rw [HTT.out] at ht'
                  cases ht'
                  exact HBT.out.symm
                · exact HAK.out k' t' (by omega) ht'
              · show m - ((kk : Int) + 1).toNat < m - (kk : Int).toNat
                omega
            | false =>
              have hbf : b = false := by
                cases hb : b with
                | false => rfl
                | true =>
                  have := ((HB.out.1 hb).1 i fs HFS.out).2 t (List.mem_of_getElem? HTT.out)
                  rw [← HBT.out] at this
                  cases this
              subst hbf
              go_wp2_with (go_at_call 35; refine CF.out.mono ?_; rintro e w1 ⟨rfl, hb1⟩)
              go_ret
              exact ⟨rfl, below_aft (below_aft HBV.out HBk.out) hb1⟩
          · obtain rfl : kk = m := by omega
            have z1 : ¬ ((kk : Int) < (kk : Int)) := by omega
            go_wp2_with fail
            refine ⟨⟨i + 1, hlt, rfl, fun i' fs' hi' hfs' => ?_, below_aft HBV.out HBk.out⟩, ?_⟩
            · by_cases e : i' = i
              · subst e
                rw [HFS.out] at hfs'
                cases hfs'
                refine ⟨by have := HM.out; omega, fun t ht => ?_⟩
                obtain ⟨k', hk'⟩ := List.mem_iff_getElem?.1 ht
                exact HAK.out k' t (by have := (List.getElem?_eq_some_iff.1 hk').1; have := HM.out; omega) hk'
              · exact HALL.out i' fs' (by omega) hfs'
            · show n - ((i : Int) + 1).toNat < n - (i : Int).toNat
              omega
    · obtain rfl : i = n := by omega
      have z1 : ¬ ((i : Int) < (i : Int)) := by omega
      go_wp2_with fail
      go_loopw [9] (fun v V => ∃ j : Nat, j ≤ ln ∧ v = .int .i64 j ∧ (∀ (j' : Nat) (t : Ty), j' < j → ts[j']? = some t → bs t = true) ∧ Below W.heap.size W V) (fun v _ => ln - (intOf v).toNat)
      case atStart => exact ⟨0, Nat.zero_le _, rfl, fun j' t hj => by omega, HBV.out⟩
      case round =>
        obtain ⟨j, hj, rfl, hall, hBj⟩ := hrel
        have HAJ := hidD hall
        have HBj := hidD hBj
        have HLj := hidD (HLT.out.bel hBj)
        clear hall hBj
        by_cases hlj : j < ln
        · obtain ⟨t, ht⟩ : ∃ t, ts[j]? = some t := ⟨_, List.getElem?_eq_getElem (by have := HLLN.out; omega)⟩
          obtain ⟨g1, off, V, hag, hV5, hVt⟩ := HLj.out.one ht
          have HTT := hidD ht
          have CF : Hid (Calls Tryd.prog 35 #[V.v, .int .i64 60] wr fun e w' => e = .returned (.bool (bs t)) ∧ Below wr.heap.size wr w') := HS.out t V wr hVt
          obtain ⟨hl5, p0, p1, p2, p3, p4⟩ := hV5
          subst hag
          have e0 : (0 : Int) ≤ (j : Int) := by omega
          have e1 : (j : Int) < (ln : Int) := by omega
          have e2 : (j : Int) ≤ 1000 := by omega
          clear hVt ht
          obtain ⟨bt, hbt⟩ : ∃ bt, bt = bs t := ⟨_, rfl⟩
          rw [← hbt] at CF
          have HBT := hidD hbt
          clear hbt
          cases bt with
          | true =>
            go_wp2_with (go_at_call 35; refine CF.out.mono ?_; rintro e w1 ⟨rfl, hb1⟩)
            refine ⟨⟨j + 1, hlj, rfl, fun k' t' hk' ht' => ?_, below_aft HBj.out hb1⟩, ?_⟩
            · by_cases e : k' = j
              · subst e
                rw [HTT.out] at ht'
                cases ht'
                exact HBT.out.symm
              · exact HAJ.out k' t' (by omega) ht'
            · show ln - ((j : Int) + 1).toNat < ln - (j : Int).toNat
              omega
          | false =>
            have hbf : b = false := by
              cases hb : b with
              | false => rfl
              | true =>
                have := (HB.out.1 hb).2.1 j t HTT.out
                rw [← HBT.out] at this
                cases this
            subst hbf
            go_wp2_with (go_at_call 35; refine CF.out.mono ?_; rintro e w1 ⟨rfl, hb1⟩)
            go_ret
            exact ⟨rfl, below_aft HBj.out hb1⟩
        · obtain rfl : j = ln := by omega
          have z2 : ¬ ((j : Int) < (j : Int)) := by omega
          have HXj := hidD (HX.out.bel HBj.out)
          go_wp2_with fail
          go_loopw [10] (fun v V => ∃ i : Nat, i ≤ k ∧ v = .int .i64 i ∧ (∀ (j' : Nat) (p : List Int), j' < i → ps[j']? = some p → p.length ≤ 60) ∧ V = wr) (fun v _ => k - (intOf v).toNat)
          case atStart => exact ⟨0, Nat.zero_le _, rfl, fun j' p hj => by omega, rfl⟩
          case round =>
            obtain ⟨q, hq, rfl, hall, rfl⟩ := hrel
            have HAQ := hidD hall
            clear hall
            by_cases hlq : q < k
            · obtain ⟨x, p, hx⟩ := HPX.out q hlq
              obtain ⟨c0, c1, hP⟩ := HXj.out.cells q x p hx
              have hgl := HXj.out.lt
              have HPP := hidD (HXP.out q x p hx)
              obtain ⟨l, pa, m, pcap⟩ := x
              have hm : m = p.length := hP.row.len
              have HM := hidD hm
              have i0 : (0 : Int) ≤ (q : Int) := by omega
              have i1 : (q : Int) < (k : Int) := by omega
              have i2 : (q : Int) ≤ 10 := by omega
              clear hx hP hm
              by_cases h60 : m ≤ 60
              · have j1 : ¬ (60 : Int) < (m : Int) := by omega
                go_wp2_with fail
                refine ⟨⟨q + 1, hlq, rfl, fun j' p' hj' hx' => ?_, trivial⟩, ?_⟩
                · by_cases e : j' = q
                  · subst e
                    rw [HPP.out] at hx'
                    cases hx'
                    have := HM.out
                    omega
                  · exact HAQ.out j' p' (by omega) hx'
                · show k - ((q : Int) + 1).toNat < k - (q : Int).toNat
                  omega
              · have j1 : (60 : Int) < (m : Int) := by omega
                have hbf : b = false := by
                  cases hbb : b with
                  | false => rfl
                  | true =>
                    have := (HB.out.1 hbb).2.2 q p HPP.out
                    have := HM.out
                    omega
                subst hbf
                go_wp2_with fail
                go_ret
                exact ⟨rfl, HBj.out⟩
            · obtain rfl : q = k := by omega
              have lt : ¬ (q : Int) < (q : Int) := by omega
              have hbt : b = true := HB.out.2 ⟨fun i' fs hi' => HALL.out i' fs (by have := (List.getElem?_eq_some_iff.1 hi').1; have := HLN.out; omega) hi', fun j' t hj' => HAJ.out j' t (by have := (List.getElem?_eq_some_iff.1 hj').1; have := HLLN.out; omega) hj', fun j' p hj' => HAQ.out j' p (by have := (List.getElem?_eq_some_iff.1 hj').1; have := HK.out; omega) hj'⟩
              subst hbt
              go_wp2_with fail
              go_ret
              exact ⟨rfl, HBj.out⟩
end Go.Proofs.YtnohcppipkpgmaaDoor
namespace Go.Proofs.YtnohcppipkpgmaaDoor
open Go.RowKit Go.Shelf
set_option linter.unusedVariables false
set_option linter.unusedSimpArgs false

/-- Two places in variables. -/
structure T2 (V : World) (B : Nat) (x y : Pt) (p q : List Int) : Prop where
  a1 : At V B x.o
  a2 : At V (B + 1) y.o
  p1 : PAt V x p
  p2 : PAt V y q
theorem T2.bel {V V' : World} {B : Nat} {x y : Pt} {p q : List Int} (h : T2 V B x y p q) (hb : Below V.heap.size V V') : T2 V' B x y p q := ⟨h.a1.below hb, h.a2.below hb, h.p1.bel hb, h.p2.bel hb⟩
theorem T2.cells {V : World} {B : Nat} {x y : Pt} {p q : List Int} (h : T2 V B x y p q) : V.cell? ⟨B, 0, none⟩ = some (.int .i64 x.l) ∧ V.cell? ⟨B, 1, none⟩ = some (.slice x.a x.n x.cap) ∧ V.cell? ⟨B + 1, 0, none⟩ = some (.int .i64 y.l) ∧ V.cell? ⟨B + 1, 1, none⟩ = some (.slice y.a y.n y.cap) := ⟨h.a1.pl.1, h.a1.pl.2, h.a2.pl.1, h.a2.pl.2⟩
theorem T2.start {w : World} {x y : Pt} {p q : List Int} (h1 : PAt w x p) (h2 : PAt w y q) : T2 ((w.alloc x.o).alloc y.o) w.heap.size x y p q := ⟨(At.new w x.o).alloc _, at_snd w x.o y.o, h1.bel bel2, h2.bel bel2⟩
theorem PAt.big {w : World} {x : Pt} {p : List Int} (h : PAt w x p) : x.n ≤ 9223372036854775807 := by
  have := h.row.le
  have := h.row.big
  unfold maxLen at *
  omega
theorem ordL_nil_left (q : List Int) : ordL [] q = if q = [] then 0 else -1 := by cases q <;> rfl
theorem ordL_nil_right (p : List Int) : ordL p [] = if p = [] then 0 else 1 := by cases p <;> rfl
set_option maxRecDepth 100000 in
set_option maxHeartbeats 4000000 in
/-- The reference's Order. -/
theorem rOrder_any {w : World} {x y : Pt} {p q : List Int} (h : PAt w x p) (h' : PAt w y q) (r : Int) (hr : r = ordP x.l y.l p q) :
    Calls Tryd.prog 27 #[x.v, y.v] w fun e w' => e = .returned (.int .i64 r) ∧ Below w.heap.size w w' := by
  have HT0 := hidD (T2.start h h')
  have hb1 := h.big
  have hb2 := h'.big
  have e1 := h.row.len
  have e2 := h'.row.len
  obtain ⟨l, a, n, cap⟩ := x
  obtain ⟨l', a', n', cap'⟩ := y
  show Calls Tryd.prog 27 #[plV l a n cap, plV l' a' n' cap'] w _
  have HE1 : Hid (n = p.length) := hidD e1
  have HE2 : Hid (n' = q.length) := hidD e2
  have g1 : n ≤ 9223372036854775807 := hb1
  have g2 : n' ≤ 9223372036854775807 := hb2
  have hr2 : r = ordP l l' p q := hr
  unfold ordP at hr2
  clear h h' e1 e2 hb1 hb2 hr
  by_cases hl : l = l'
  · subst hl
    rw [if_neg (Int.lt_irrefl l), if_neg (Int.lt_irrefl l)] at hr2
    have HR := hidD hr2
    have HG : Hid (n ≤ 9223372036854775807 ∧ n' ≤ 9223372036854775807) := ⟨g1, g2⟩
    clear hr2 g1 g2
    go_enter Tryd.func27, Tryd.ntmps27
    go_wp2_with fail
    go_loopw [5] (fun v V => ∃ i : Nat, i ≤ n ∧ i ≤ n' ∧ v = .int .i64 i ∧ r = ordL (p.drop i) (q.drop i) ∧ T2 V w.heap.size ⟨l, a, n, cap⟩ ⟨l, a', n', cap'⟩ p q ∧ Below w.heap.size w V) (fun v _ => n - (intOf v).toNat)
    case atStart => exact ⟨0, Nat.zero_le _, Nat.zero_le _, rfl, HR.out, HT0.out, bel2⟩
    case round =>
      clear HT0 HR
      obtain ⟨i, hi, hi', rfl, hT, hT2, hB⟩ := hrel
      have HT := hidD hT
      have HT2 := hidD hT2
      have HB := hidD hB
      obtain ⟨z0, z1, z2, z3⟩ := hT2.cells
      clear hT hT2 hB
      by_cases hlt : i < n
      · obtain ⟨x, hx⟩ : ∃ x, p[i]? = some x := ⟨_, List.getElem?_eq_getElem (by have := HE1.out; omega)⟩
        obtain ⟨g, off, ea, hg, hc, -⟩ := HT2.out.p1.row.nth hx
        have HX := hidD hx
        have ea2 : a = some ⟨g, off, none⟩ := ea
        subst ea2
        clear hx ea
        have j0 : (0 : Int) ≤ (i : Int) := by omega
        have j1 : (i : Int) < (n : Int) := by omega
        have j2 : (i : Int) + 1 ≤ 9223372036854775807 := by have := HG.out; omega
        by_cases hlt' : i < n'
        · obtain ⟨y, hy⟩ : ∃ y, q[i]? = some y := ⟨_, List.getElem?_eq_getElem (by have := HE2.out; omega)⟩
          obtain ⟨g', off', ea, hg', hc', -⟩ := HT2.out.p2.row.nth hy
          have HY := hidD hy
          have ea2 : a' = some ⟨g', off', none⟩ := ea
          subst ea2
          clear hy ea
          have j3 : (i : Int) < (n' : Int) := by omega
          have hstep := HT.out
          rw [ordL_step HX.out HY.out] at hstep
          by_cases hxy : x < y
          · rw [if_pos hxy] at hstep
            subst hstep
            go_wp2_with fail
            go_quiet (fail)
            go_wp2_with fail
            go_ret
            exact ⟨rfl, belN HB.out _⟩
          · rw [if_neg hxy] at hstep
            by_cases hyx : y < x
            · rw [if_pos hyx] at hstep
              subst hstep
              have HYX := hidD hyx
              have HJ : Hid ((0 : Int) ≤ (i : Int) ∧ (i : Int) < (n : Int) ∧ (i : Int) < (n' : Int)) := ⟨j0, j1, j3⟩
              clear hyx
              go_wp2_with fail
              go_quiet (fail)
              clear j0 j1 j2 j3 hi hi' hlt hlt'
              go_wp2_with fail
              obtain ⟨j0, j1, j3⟩ := HJ.out
              have hyx := HYX.out
              clear hxy
              go_quiet (fail)
              go_wp2_with fail
              go_ret
              exact ⟨rfl, belN (belN HB.out _) _⟩
            · rw [if_neg hyx] at hstep
              have HST := hidD hstep
              clear hstep
              have HYX := hidD hyx
              have HJ : Hid ((0 : Int) ≤ (i : Int) ∧ (i : Int) < (n : Int) ∧ (i : Int) < (n' : Int) ∧ (i : Int) + 1 ≤ 9223372036854775807) := ⟨j0, j1, j3, j2⟩
              have HI : Hid (i < n ∧ i < n') := ⟨hlt, hlt'⟩
              clear hyx
              go_wp2_with fail
              go_quiet (fail)
              clear j0 j1 j2 j3 hi hi' hlt hlt'
              go_wp2_with fail
              obtain ⟨j0, j1, j3, j2⟩ := HJ.out
              have hyx := HYX.out
              clear hxy
              go_quiet (fail)
              have wr1 : IntKind.i64.wrap ((i : Int) + 1) = (i : Int) + 1 := by rw [IntKind.wrap_i64]; omega
              clear j0 j1 j2 j3
              go_wp2_with fail
              obtain ⟨hlt, hlt'⟩ := HI.out
              refine ⟨⟨i + 1, hlt, hlt', rfl, HST.out, HT2.out.bel (belN (Below.refl _ _) _), belN HB.out _⟩, ?_⟩
              show n - ((i : Int) + 1).toNat < n - (i : Int).toNat
              omega
        · obtain rfl : i = n' := by omega
          have k1 : ¬ (i : Int) < (i : Int) := by omega
          have k2 : ¬ (n : Int) < (i : Int) := by omega
          have k3 : (i : Int) < (n : Int) := by omega
          have hr1 : r = 1 := by
            rw [HT.out, show q.drop i = [] from List.drop_eq_nil_of_le (by have := HE2.out; omega), ordL_nil_right, if_neg]
            intro e
            have := congrArg List.length e
            simp at this
            have := HE1.out
            omega
          subst hr1
          go_wp2_with fail
          go_ret
          exact ⟨rfl, HB.out⟩
      · obtain rfl : i = n := by omega
        have k1 : ¬ (i : Int) < (i : Int) := by omega
        by_cases hlt' : i < n'
        · have k2 : (i : Int) < (n' : Int) := by omega
          have hr1 : r = -1 := by
            rw [HT.out, show p.drop i = [] from List.drop_eq_nil_of_le (by have := HE1.out; omega), ordL_nil_left, if_neg]
            intro e
            have := congrArg List.length e
            simp at this
            have := HE2.out
            omega
          subst hr1
          go_wp2_with fail
          go_ret
          exact ⟨rfl, HB.out⟩
        · have k2 : ¬ (i : Int) < (n' : Int) := by omega
          have k3 : ¬ (n' : Int) < (i : Int) := by omega
          have hr1 : r = 0 := by
            rw [HT.out, show p.drop i = [] from List.drop_eq_nil_of_le (by have := HE1.out; omega), show q.drop i = [] from List.drop_eq_nil_of_le (by have := HE2.out; omega)]
            rfl
          subst hr1
          go_wp2_with fail
          go_ret
          exact ⟨rfl, HB.out⟩
  · have j1 : ¬ l = l' := hl
    by_cases hlt : l < l'
    · rw [if_pos hlt] at hr2
      subst hr2
      clear g1 g2
      go_enter Tryd.func27, Tryd.ntmps27
      go_wp2_with fail
      go_ret
      exact ⟨rfl, bel2⟩
    · rw [if_neg hlt, if_pos (by omega)] at hr2
      subst hr2
      clear g1 g2
      go_enter Tryd.func27, Tryd.ntmps27
      go_wp2_with fail
      go_ret
      exact ⟨rfl, bel2⟩
set_option maxRecDepth 100000 in
/-- The reference's Same. -/
theorem rSame_any {w : World} {x y : Pt} {p q : List Int} (h : PAt w x p) (h' : PAt w y q) (b : Bool) (hb : b = true ↔ x.l = y.l ∧ p = q) :
    Calls Tryd.prog 18 #[x.v, y.v] w fun e w' => e = .returned (.bool b) ∧ Below w.heap.size w w' := by
  obtain ⟨o, ho⟩ : ∃ o, o = ordP x.l y.l p q := ⟨_, rfl⟩
  have hb2 : b = decide (o = 0) := by
    rw [Bool.eq_iff_iff, hb, decide_eq_true_iff, ho, ordP_zero]
  have C : Hid (∀ W, Below w.heap.size w W → Calls Tryd.prog 27 #[x.v, y.v] W fun e w' => e = .returned (.int .i64 o) ∧ Below W.heap.size W w') := fun W hW => rOrder_any (h.bel hW) (h'.bel hW) o ho
  obtain ⟨l, a, n, cap⟩ := x
  obtain ⟨l', a', n', cap'⟩ := y
  show Calls Tryd.prog 18 #[plV l a n cap, plV l' a' n' cap'] w _
  have HB2 := hidD hb2
  clear h h' hb ho hb2
  go_enter Tryd.func18, Tryd.ntmps18
  go_wp2_with (go_at_call 27; refine (C.out _ bel2).mono ?_; rintro e w1 ⟨rfl, hb1⟩)
  go_ret
  exact ⟨ret_bool HB2.out.symm, below_aft bel2 hb1⟩
set_option maxRecDepth 100000 in
set_option maxHeartbeats 4000000 in
/-- The reference's Prefix. -/
theorem rPrefix_any {w : World} {x y : Pt} {p q : List Int} (h : PAt w x p) (h' : PAt w y q) (b : Bool) (hb : b = true ↔ x.l = y.l ∧ p <+: q) :
    Calls Tryd.prog 25 #[x.v, y.v] w fun e w' => e = .returned (.bool b) ∧ Below w.heap.size w w' := by
  have HT0 := hidD (T2.start h h')
  have hb1 := h.big
  have hb2 := h'.big
  have e1 := h.row.len
  have e2 := h'.row.len
  obtain ⟨l, a, n, cap⟩ := x
  obtain ⟨l', a', n', cap'⟩ := y
  show Calls Tryd.prog 25 #[plV l a n cap, plV l' a' n' cap'] w _
  have hbb : b = true ↔ l = l' ∧ p <+: q := hb
  have HE1 : Hid (n = p.length) := hidD e1
  have HE2 : Hid (n' = q.length) := hidD e2
  have HG : Hid (n ≤ 9223372036854775807 ∧ n' ≤ 9223372036854775807) := ⟨hb1, hb2⟩
  clear h h' e1 e2 hb1 hb2 hb
  by_cases hl : l = l'
  · subst hl
    by_cases hn : n ≤ n'
    · have k1 : ¬ (n' : Int) < (n : Int) := by omega
      have HBB := hidD hbb
      clear hbb
      go_enter Tryd.func25, Tryd.ntmps25
      go_wp2_with fail
      go_loopw [5] (fun v V => ∃ i : Nat, i ≤ n ∧ v = .int .i64 i ∧ p.take i = q.take i ∧ T2 V w.heap.size ⟨l, a, n, cap⟩ ⟨l, a', n', cap'⟩ p q ∧ Below w.heap.size w V) (fun v _ => n - (intOf v).toNat)
      case atStart => exact ⟨0, Nat.zero_le _, rfl, rfl, HT0.out, bel2⟩
      case round =>
        clear HT0
        obtain ⟨i, hi, rfl, hT, hT2, hB⟩ := hrel
        have HT := hidD hT
        have HT2 := hidD hT2
        have HB := hidD hB
        obtain ⟨z0, z1, z2, z3⟩ := hT2.cells
        clear hT hT2 hB
        by_cases hlt : i < n
        · obtain ⟨x, hx⟩ : ∃ x, p[i]? = some x := ⟨_, List.getElem?_eq_getElem (by have := HE1.out; omega)⟩
          obtain ⟨y, hy⟩ : ∃ y, q[i]? = some y := ⟨_, List.getElem?_eq_getElem (by have := HE2.out; omega)⟩
          obtain ⟨g, off, ea, hg, hc, -⟩ := HT2.out.p1.row.nth hx
          obtain ⟨g', off', ea', hg', hc', -⟩ := HT2.out.p2.row.nth hy
          have HX := hidD hx
          have HY := hidD hy
          have ea2 : a = some ⟨g, off, none⟩ := ea
          have ea3 : a' = some ⟨g', off', none⟩ := ea'
          subst ea2 ea3
          clear hx ea hy ea'
          have j0 : (0 : Int) ≤ (i : Int) := by omega
          have j1 : (i : Int) < (n : Int) := by omega
          have j3 : (i : Int) < (n' : Int) := by omega
          have j2 : (i : Int) + 1 ≤ 9223372036854775807 := by have := HG.out; omega
          by_cases hxy : x = y
          · subst hxy
            go_wp2_with fail
            go_quiet (fail)
            go_wp2_with fail
            refine ⟨⟨i + 1, hlt, rfl, ?_, HT2.out.bel (belN (Below.refl _ _) _), belN HB.out _⟩, ?_⟩
            · rw [List.take_add_one, List.take_add_one, HT.out, HX.out, HY.out]
            · show n - ((i : Int) + 1).toNat < n - (i : Int).toNat
              omega
          · have hbf : b = false := by
              cases hb : b with
              | false => rfl
              | true =>
                obtain ⟨-, s, rfl⟩ := HBB.out.1 hb
                have h1 := HX.out
                have h2 := HY.out
                rw [List.getElem?_append_left (List.getElem?_eq_some_iff.1 h1).1, h1] at h2
                exact absurd (Option.some.inj h2) hxy
            subst hbf
            go_wp2_with fail
            go_quiet (fail)
            clear j0 j1 j2 j3 hi hlt hn k1
            go_wp2_with fail
            go_ret
            exact ⟨by simp, belN HB.out _⟩
        · obtain rfl : i = n := by omega
          have k2 : ¬ (i : Int) < (i : Int) := by omega
          have hbt : b = true := HBB.out.2 ⟨by first | rfl | trivial, by
            have := HT.out
            rw [HE1.out, List.take_length] at this
            rw [this]
            exact List.take_prefix _ _⟩
          subst hbt
          go_wp2_with fail
          go_ret
          exact ⟨rfl, HB.out⟩
    · have k1 : (n' : Int) < (n : Int) := by omega
      have hbf : b = false := by
        cases hb : b with
        | false => rfl
        | true =>
          have := (hbb.1 hb).2.length_le
          have := HE1.out
          have := HE2.out
          omega
      subst hbf
      clear hbb
      go_enter Tryd.func25, Tryd.ntmps25
      go_wp2_with fail
      go_ret
      exact ⟨rfl, bel2⟩
  · have hbf : b = false := by
      cases hb : b with
      | false => rfl
      | true => exact absurd (hbb.1 hb).1 hl
    subst hbf
    clear hbb
    go_enter Tryd.func25, Tryd.ntmps25
    go_wp2_with fail
    go_ret
    exact ⟨rfl, bel2⟩
end Go.Proofs.YtnohcppipkpgmaaDoor
namespace Go.Proofs.YtnohcppipkpgmaaDoor
open Go.RowKit Go.Shelf
set_option linter.unusedVariables false
set_option linter.unusedSimpArgs false

/-- May it be, so many levels at most, with references or without? -/
def mayR (refs : Bool) (n : Int) : Nat → Ty → Bool
  | 0, _ => false
  | d + 1, .mk k m r s of =>
    if k = 1 ∨ k = 2 then !m && decide (r = 0) && decide (s = 0) && decide (of.length = 0)
    else if k = 3 then !m && decide (r = 0) && decide (s = 0) && (match of with | [x] => mayR refs n d x | _ => false)
    else if k = 4 then refs && decide (-1 ≤ r) && decide (s = 0) && (match of with | [x] => mayR refs n d x | _ => false)
    else if k = 5 then !m && decide (r = 0) && decide (0 ≤ s) && decide (s < n) && decide (of.length = 0)
    else false
def inR (refs : Bool) (n : Int) (d : Nat) (of : List Ty) : Bool := match of with | [x] => mayR refs n d x | _ => false
theorem mayR_succ (refs : Bool) (n : Int) (d k : Nat) (m : Bool) (r s : Int) (of : List Ty) : mayR refs n (d + 1) (.mk k m r s of) = if k = 1 ∨ k = 2 then !m && decide (r = 0) && decide (s = 0) && decide ((of.length : Int) = 0)
    else if k = 3 then !m && decide (r = 0) && decide (s = 0) && inR refs n d of
    else if k = 4 then refs && decide (-1 ≤ r) && decide (s = 0) && inR refs n d of
    else if k = 5 then !m && decide (r = 0) && decide (0 ≤ s) && decide (s < n) && decide ((of.length : Int) = 0)
    else false := by
  have e0 : decide (of.length = 0) = decide ((of.length : Int) = 0) := by apply decide_eq_decide.2; omega
  rw [← e0]
  match of with
  | [] => simp only [mayR, inR]
  | [x] => simp only [mayR, inR]
  | x :: y :: r => simp only [mayR, inR]
theorem mayR_true (n : Int) : ∀ (d : Nat) (t : Ty), mayR true n d t = mayB n d t
  | 0, t => rfl
  | d + 1, .mk k m r s of => by
    rw [mayR_succ, mayB_succ]
    have e : inR true n d of = inB n d of := by
      match of with
      | [] => rfl
      | [x] => exact mayR_true n d x
      | x :: y :: r => rfl
    rw [e, Bool.true_and]
theorem mayR_plain (n : Int) : ∀ (d : Nat) (t : Ty), mayR false n d t = true ↔ ∃ c : Ch, t = c.ty ∧ c.ok n ∧ c.depth ≤ d ∧ c.regs = []
  | 0, t => by
    refine ⟨fun h => (by cases h), ?_⟩
    rintro ⟨c, -, -, h, -⟩
    have := c.depth_pos
    omega
  | d + 1, .mk k m r s of => by
    constructor
    · intro h
      have hB : mayB n (d + 1) (.mk k m r s of) = true := by
        rw [mayR_succ] at h
        rw [mayB_succ]
        have e : inR false n d of = true → inB n d of = true := by
          match of with
          | [] => exact fun h => h
          | [x] =>
            intro h
            obtain ⟨c, rfl, h1, h2, -⟩ := (mayR_plain n d x).1 h
            exact ch_mayB h1 h2
          | x :: y :: r => exact fun h => h
        by_cases k1 : k = 1 ∨ k = 2
        · rw [if_pos k1] at h ⊢
          exact h
        rw [if_neg k1] at h ⊢
        by_cases k3 : k = 3
        · rw [if_pos k3] at h ⊢
          rw [Bool.and_eq_true] at h ⊢
          exact ⟨h.1, e h.2⟩
        rw [if_neg k3] at h ⊢
        by_cases k4 : k = 4
        · rw [if_pos k4] at h
          simp at h
        rw [if_neg k4] at h ⊢
        exact h
      obtain ⟨c, hc, h1, h2⟩ := mayB_ch hB
      refine ⟨c, hc, h1, h2, ?_⟩
      rw [hc] at h
      clear hB
      cases c with
      | leaf k s => rfl
      | box c =>
        simp only [Ch.ty] at h
        rw [mayR_succ] at h
        simp [inR] at h
        obtain ⟨c', e1, -, -, e2⟩ := (mayR_plain n d c.ty).1 h
        rw [Ch.ty_inj e1]
        exact e2
      | ref m r c =>
        simp only [Ch.ty] at h
        rw [mayR_succ] at h
        simp at h
    · rintro ⟨c, hc, h1, h2, h3⟩
      cases c with
      | leaf k s =>
        simp only [Ch.ty] at hc
        cases hc
        rw [mayR_succ]
        rcases h1 with ⟨h, rfl⟩ | ⟨rfl, h4, h5⟩
        · simp [h]
        · simp [h4, h5]
      | box c =>
        simp only [Ch.ty] at hc
        cases hc
        rw [mayR_succ]
        have := (mayR_plain n d c.ty).2 ⟨c, rfl, h1, by simp [Ch.depth] at h2; omega, h3⟩
        simp [inR, this]
      | ref m r c => simp [Ch.regs] at h3
set_option maxRecDepth 100000 in
set_option maxHeartbeats 8000000 in
def RMayC (refs : Bool) (n : Int) (d : Nat) : Prop := ∀ (t : Ty) (f : Fv) (w : World) (D : Int), D = d → TyAt w f t → Calls Tryd.prog 61 #[f.v, .int .i64 n, .int .i64 D, .bool refs] w fun e w' => e = .returned (.bool (mayR refs n d t)) ∧ Below w.heap.size w w'
theorem rmay_zero (refs : Bool) (n : Int) : RMayC refs n 0 := fun t f w D hD h => by
    obtain rfl : D = 0 := hD
    obtain ⟨k, m, r, s, a, q, cap⟩ := f
    show Calls Tryd.prog 61 #[tyV k m r s a q cap, .int .i64 n, .int .i64 0, .bool refs] w _
    clear h
    go_enter Tryd.func61, Tryd.ntmps61
    go_wp2_with fail
    go_ret
    exact ⟨rfl, belA (Below.refl _ _)⟩
set_option maxRecDepth 100000 in
set_option maxHeartbeats 8000000 in
theorem rmay_step (refs : Bool) (n : Int) (d : Nat) (hd : d + 1 ≤ 48) (ih : RMayC refs n d) : RMayC refs n (d + 1) := by
    rintro ⟨k, m, r, s, of⟩ f w D hD h
    obtain ⟨a, cap, rfl⟩ := h.inv
    have IH : Hid (∀ w', Below w.heap.size w w' → ∀ x f', TyAt w' f' x → Calls Tryd.prog 61 #[f'.v, .int .i64 n, .int .i64 (D - 1), .bool refs] w' fun e w1 => e = .returned (.bool (mayR refs n d x)) ∧ Below w'.heap.size w' w1) := fun w' hb x f' hx => ih x f' w' (D - 1) (by omega) hx
    have d1 : ¬ D < 1 := by omega
    have w1 : IntKind.i64.wrap (D - 1) = D - 1 := by rw [IntKind.wrap_i64]; omega
    have hres := mayR_succ refs n d k m r s of
    show Calls Tryd.prog 61 #[tyV k m r s a of.length cap, .int .i64 n, .int .i64 D, .bool refs] w _
    match of, h, hres with
    | [x], h, hres =>
      obtain ⟨g, off, cap', f', e, hc, ht, _⟩ := h.one
      injection e with _ _ _ _ ea en ec
      subst ea ec
      obtain ⟨ib, hib⟩ : ∃ ib, ib = mayR refs n d x := ⟨_, rfl⟩
      have C : Hid (∀ w', Below w.heap.size w w' → Calls Tryd.prog 61 #[f'.v, .int .i64 n, .int .i64 (D - 1), .bool refs] w' fun e w1 => e = .returned (.bool ib) ∧ Below w'.heap.size w' w1) := fun w' hb => by rw [hib]; exact IH.out w' hb x f' (ht.bel hb)
      have e1 : inR refs n d [x] = ib := hib.symm
      rw [e1] at hres
      rw [hres]
      clear hres e1 hib IH h ht en hD hd ih
      obtain ⟨hg, c0, c1, c2, c3, c4⟩ := hc
      show Calls Tryd.prog 61 #[tyV k m r s (some ⟨g, off, none⟩) 1 cap, .int .i64 n, .int .i64 D, .bool refs] w _
      have hl1 : (([x].length : Nat) : Int) = 1 := rfl
      rw [hl1]
      clear hl1
      by_cases k1 : k = 1
      · subst k1
        simp only [true_or, if_true]
        cases m with
        | true =>
          go_enter Tryd.func61, Tryd.ntmps61
          go_wp2_with fail
          all_goals go_ret
          all_goals exact ⟨ret_bool (by first | rfl | (simp; done) | (simp; omega) | (simp; intros; omega)), belA (Below.refl _ _)⟩
        | false =>
          by_cases hr : r = 0
          · subst hr
            by_cases hs : s = 0
            · subst hs
              go_enter Tryd.func61, Tryd.ntmps61
              go_wp2_with fail
              all_goals go_ret
              all_goals exact ⟨ret_bool (by first | rfl | (simp; done) | (simp; omega) | (simp; intros; omega)), belA (Below.refl _ _)⟩
            · go_enter Tryd.func61, Tryd.ntmps61
              go_wp2_with fail
              all_goals go_ret
              all_goals exact ⟨ret_bool (by first | rfl | (simp [hs]; done) | (simp; omega) | (simp; intros; omega)), belA (Below.refl _ _)⟩
          · go_enter Tryd.func61, Tryd.ntmps61
            go_wp2_with fail
            all_goals go_ret
            all_goals exact ⟨ret_bool (by first | rfl | (simp [hr]; done) | (simp; omega) | (simp; intros; omega)), belA (Below.refl _ _)⟩
      have kk1 : ¬ ((k : Int) = 1) := fun e => k1 (by omega)
      by_cases k2 : k = 2
      · subst k2
        simp only [or_true, if_true]
        cases m with
        | true =>
          go_enter Tryd.func61, Tryd.ntmps61
          go_wp2_with fail
          all_goals go_ret
          all_goals exact ⟨ret_bool (by first | rfl | (simp; done) | (simp; omega) | (simp; intros; omega)), belA (Below.refl _ _)⟩
        | false =>
          by_cases hr : r = 0
          · subst hr
            by_cases hs : s = 0
            · subst hs
              go_enter Tryd.func61, Tryd.ntmps61
              go_wp2_with fail
              all_goals go_ret
              all_goals exact ⟨ret_bool (by first | rfl | (simp; done) | (simp; omega) | (simp; intros; omega)), belA (Below.refl _ _)⟩
            · go_enter Tryd.func61, Tryd.ntmps61
              go_wp2_with fail
              all_goals go_ret
              all_goals exact ⟨ret_bool (by first | rfl | (simp [hs]; done) | (simp; omega) | (simp; intros; omega)), belA (Below.refl _ _)⟩
          · go_enter Tryd.func61, Tryd.ntmps61
            go_wp2_with fail
            all_goals go_ret
            all_goals exact ⟨ret_bool (by first | rfl | (simp [hr]; done) | (simp; omega) | (simp; intros; omega)), belA (Below.refl _ _)⟩
      have kk2 : ¬ ((k : Int) = 2) := fun e => k2 (by omega)
      by_cases k3 : k = 3
      · subst k3
        simp only [show ¬ ((3 : Nat) = 1 ∨ (3 : Nat) = 2) from by omega, if_false, if_true]
        cases m with
        | true =>
          go_enter Tryd.func61, Tryd.ntmps61
          go_wp2_with fail
          all_goals go_ret
          all_goals exact ⟨ret_bool (by first | rfl | (simp; done) | (simp; omega) | (simp; intros; omega)), belA (Below.refl _ _)⟩
        | false =>
          by_cases hr : r = 0
          · subst hr
            by_cases hs : s = 0
            · subst hs
              go_enter Tryd.func61, Tryd.ntmps61
              go_wp2_with (go_at_call 61; refine (C.out _ (belA (Below.refl _ _))).mono ?_; rintro e w2 ⟨rfl, hb2⟩)
              all_goals go_ret
              all_goals exact ⟨ret_bool (by first | rfl | (simp; done) | (simp; omega) | (simp; intros; omega)), below1 hb2⟩
            · go_enter Tryd.func61, Tryd.ntmps61
              go_wp2_with fail
              all_goals go_ret
              all_goals exact ⟨ret_bool (by first | rfl | (simp [hs]; done) | (simp; omega) | (simp; intros; omega)), belA (Below.refl _ _)⟩
          · go_enter Tryd.func61, Tryd.ntmps61
            go_wp2_with fail
            all_goals go_ret
            all_goals exact ⟨ret_bool (by first | rfl | (simp [hr]; done) | (simp; omega) | (simp; intros; omega)), belA (Below.refl _ _)⟩
      have kk3 : ¬ ((k : Int) = 3) := fun e => k3 (by omega)
      by_cases k4 : k = 4
      · subst k4
        simp only [show ¬ ((4 : Nat) = 1 ∨ (4 : Nat) = 2) from by omega, show ¬ ((4 : Nat) = 3) from by omega, if_false, if_true]
        by_cases hs : s = 0
        · subst hs
          cases refs with
          | false =>
            go_enter Tryd.func61, Tryd.ntmps61
            go_wp2_with fail
            all_goals go_ret
            all_goals exact ⟨ret_bool (by first | rfl | (simp; done) | (simp; omega) | (simp; intros; omega)), belA (Below.refl _ _)⟩
          | true =>
            by_cases hr : -1 ≤ r
            · go_enter Tryd.func61, Tryd.ntmps61
              go_wp2_with (go_at_call 61; refine (C.out _ (belA (Below.refl _ _))).mono ?_; rintro e w2 ⟨rfl, hb2⟩)
              all_goals go_ret
              all_goals exact ⟨ret_bool (by first | rfl | (simp [hr]; done) | (simp; omega) | (simp; intros; omega)), below1 hb2⟩
            · go_enter Tryd.func61, Tryd.ntmps61
              go_wp2_with fail
              all_goals go_ret
              all_goals exact ⟨ret_bool (by first | rfl | (simp [hr]; done) | (simp; omega) | (simp; intros; omega)), belA (Below.refl _ _)⟩
        · go_enter Tryd.func61, Tryd.ntmps61
          go_wp2_with fail
          all_goals go_ret
          all_goals exact ⟨ret_bool (by first | rfl | (simp [hs]; done) | (simp; omega) | (simp; intros; omega)), belA (Below.refl _ _)⟩
      have kk4 : ¬ ((k : Int) = 4) := fun e => k4 (by omega)
      by_cases k5 : k = 5
      · subst k5
        simp only [show ¬ ((5 : Nat) = 1 ∨ (5 : Nat) = 2) from by omega, show ¬ ((5 : Nat) = 3) from by omega, show ¬ ((5 : Nat) = 4) from by omega, if_false, if_true]
        cases m with
        | true =>
          go_enter Tryd.func61, Tryd.ntmps61
          go_wp2_with fail
          all_goals go_ret
          all_goals exact ⟨ret_bool (by first | rfl | (simp; done) | (simp; omega) | (simp; intros; omega)), belA (Below.refl _ _)⟩
        | false =>
          by_cases hr : r = 0
          · subst hr
            go_enter Tryd.func61, Tryd.ntmps61
            go_wp2_with fail
            all_goals go_ret
            all_goals exact ⟨ret_bool (by first | rfl | (simp; done) | (simp; omega) | (simp; intros; omega)), belA (Below.refl _ _)⟩
          · go_enter Tryd.func61, Tryd.ntmps61
            go_wp2_with fail
            all_goals go_ret
            all_goals exact ⟨ret_bool (by first | rfl | (simp [hr]; done) | (simp; omega) | (simp; intros; omega)), belA (Below.refl _ _)⟩
      have kk5 : ¬ ((k : Int) = 5) := fun e => k5 (by omega)
      simp only [k1, k2, k3, k4, k5, or_self, if_false]
      clear k1 k2 k3 k4 k5
      cases m with
      | true =>
        go_enter Tryd.func61, Tryd.ntmps61
        go_wp2_with fail
        all_goals go_ret
        all_goals exact ⟨ret_bool (by first | rfl | (simp; done) | (simp; omega) | (simp; intros; omega)), belA (Below.refl _ _)⟩
      | false =>
        by_cases hr : r = 0
        · subst hr
          by_cases hs : s = 0
          · subst hs
            go_enter Tryd.func61, Tryd.ntmps61
            go_wp2_with fail
            all_goals go_ret
            all_goals exact ⟨ret_bool (by first | rfl | (simp; done) | (simp; omega) | (simp; intros; omega)), belA (Below.refl _ _)⟩
          · go_enter Tryd.func61, Tryd.ntmps61
            go_wp2_with fail
            all_goals go_ret
            all_goals exact ⟨ret_bool (by first | rfl | (simp [hs]; done) | (simp; omega) | (simp; intros; omega)), belA (Below.refl _ _)⟩
        · go_enter Tryd.func61, Tryd.ntmps61
          go_wp2_with fail
          all_goals go_ret
          all_goals exact ⟨ret_bool (by first | rfl | (simp [hr]; done) | (simp; omega) | (simp; intros; omega)), belA (Below.refl _ _)⟩
    | [], h, hres =>
      rw [hres]
      show Calls Tryd.prog 61 #[tyV k m r s a 0 cap, .int .i64 n, .int .i64 D, .bool refs] w _
      clear hres h IH hD hd ih
      have i0 : inR refs n d [] = false := rfl
      rw [i0]
      clear i0
      simp only [List.length_nil]
      by_cases k1 : k = 1
      · subst k1
        simp only [true_or, if_true]
        cases m with
        | true =>
          go_enter Tryd.func61, Tryd.ntmps61
          go_wp2_with fail
          all_goals go_ret
          all_goals exact ⟨ret_bool (by first | rfl | (simp; done) | (simp; omega) | (simp; intros; omega)), belA (Below.refl _ _)⟩
        | false =>
          by_cases hr : r = 0
          · subst hr
            by_cases hs : s = 0
            · subst hs
              go_enter Tryd.func61, Tryd.ntmps61
              go_wp2_with fail
              all_goals go_ret
              all_goals exact ⟨ret_bool (by first | rfl | (simp; done) | (simp; omega) | (simp; intros; omega)), belA (Below.refl _ _)⟩
            · go_enter Tryd.func61, Tryd.ntmps61
              go_wp2_with fail
              all_goals go_ret
              all_goals exact ⟨ret_bool (by first | rfl | (simp [hs]; done) | (simp; omega) | (simp; intros; omega)), belA (Below.refl _ _)⟩
          · go_enter Tryd.func61, Tryd.ntmps61
            go_wp2_with fail
            all_goals go_ret
            all_goals exact ⟨ret_bool (by first | rfl | (simp [hr]; done) | (simp; omega) | (simp; intros; omega)), belA (Below.refl _ _)⟩
      have kk1 : ¬ ((k : Int) = 1) := fun e => k1 (by omega)
      by_cases k2 : k = 2
      · subst k2
        simp only [or_true, if_true]
        cases m with
        | true =>
          go_enter Tryd.func61, Tryd.ntmps61
          go_wp2_with fail
          all_goals go_ret
          all_goals exact ⟨ret_bool (by first | rfl | (simp; done) | (simp; omega) | (simp; intros; omega)), belA (Below.refl _ _)⟩
        | false =>
          by_cases hr : r = 0
          · subst hr
            by_cases hs : s = 0
            · subst hs
              go_enter Tryd.func61, Tryd.ntmps61
              go_wp2_with fail
              all_goals go_ret
              all_goals exact ⟨ret_bool (by first | rfl | (simp; done) | (simp; omega) | (simp; intros; omega)), belA (Below.refl _ _)⟩
            · go_enter Tryd.func61, Tryd.ntmps61
              go_wp2_with fail
              all_goals go_ret
              all_goals exact ⟨ret_bool (by first | rfl | (simp [hs]; done) | (simp; omega) | (simp; intros; omega)), belA (Below.refl _ _)⟩
          · go_enter Tryd.func61, Tryd.ntmps61
            go_wp2_with fail
            all_goals go_ret
            all_goals exact ⟨ret_bool (by first | rfl | (simp [hr]; done) | (simp; omega) | (simp; intros; omega)), belA (Below.refl _ _)⟩
      have kk2 : ¬ ((k : Int) = 2) := fun e => k2 (by omega)
      by_cases k3 : k = 3
      · subst k3
        simp only [show ¬ ((3 : Nat) = 1 ∨ (3 : Nat) = 2) from by omega, if_false, if_true]
        cases m with
        | true =>
          go_enter Tryd.func61, Tryd.ntmps61
          go_wp2_with fail
          all_goals go_ret
          all_goals exact ⟨ret_bool (by first | rfl | (simp; done) | (simp; omega) | (simp; intros; omega)), belA (Below.refl _ _)⟩
        | false =>
          by_cases hr : r = 0
          · subst hr
            by_cases hs : s = 0
            · subst hs
              go_enter Tryd.func61, Tryd.ntmps61
              go_wp2_with fail
              all_goals go_ret
              all_goals exact ⟨ret_bool (by first | rfl | (simp; done) | (simp; omega) | (simp; intros; omega)), belA (Below.refl _ _)⟩
            · go_enter Tryd.func61, Tryd.ntmps61
              go_wp2_with fail
              all_goals go_ret
              all_goals exact ⟨ret_bool (by first | rfl | (simp [hs]; done) | (simp; omega) | (simp; intros; omega)), belA (Below.refl _ _)⟩
          · go_enter Tryd.func61, Tryd.ntmps61
            go_wp2_with fail
            all_goals go_ret
            all_goals exact ⟨ret_bool (by first | rfl | (simp [hr]; done) | (simp; omega) | (simp; intros; omega)), belA (Below.refl _ _)⟩
      have kk3 : ¬ ((k : Int) = 3) := fun e => k3 (by omega)
      by_cases k4 : k = 4
      · subst k4
        simp only [show ¬ ((4 : Nat) = 1 ∨ (4 : Nat) = 2) from by omega, show ¬ ((4 : Nat) = 3) from by omega, if_false, if_true]
        by_cases hs : s = 0
        · subst hs
          cases refs with
          | false =>
            go_enter Tryd.func61, Tryd.ntmps61
            go_wp2_with fail
            all_goals go_ret
            all_goals exact ⟨ret_bool (by first | rfl | (simp; done) | (simp; omega) | (simp; intros; omega)), belA (Below.refl _ _)⟩
          | true =>
            go_enter Tryd.func61, Tryd.ntmps61
            go_wp2_with fail
            all_goals go_ret
            all_goals exact ⟨ret_bool (by first | rfl | (simp; done) | (simp; omega) | (simp; intros; omega)), belA (Below.refl _ _)⟩
        · go_enter Tryd.func61, Tryd.ntmps61
          go_wp2_with fail
          all_goals go_ret
          all_goals exact ⟨ret_bool (by first | rfl | (simp [hs]; done) | (simp; omega) | (simp; intros; omega)), belA (Below.refl _ _)⟩
      have kk4 : ¬ ((k : Int) = 4) := fun e => k4 (by omega)
      by_cases k5 : k = 5
      · subst k5
        simp only [show ¬ ((5 : Nat) = 1 ∨ (5 : Nat) = 2) from by omega, show ¬ ((5 : Nat) = 3) from by omega, show ¬ ((5 : Nat) = 4) from by omega, if_false, if_true]
        cases m with
        | true =>
          go_enter Tryd.func61, Tryd.ntmps61
          go_wp2_with fail
          all_goals go_ret
          all_goals exact ⟨ret_bool (by first | rfl | (simp; done) | (simp; omega) | (simp; intros; omega)), belA (Below.refl _ _)⟩
        | false =>
          by_cases hr : r = 0
          · subst hr
            by_cases h0 : 0 ≤ s
            · by_cases h1 : s < n
              · go_enter Tryd.func61, Tryd.ntmps61
                go_wp2_with fail
                all_goals go_ret
                all_goals exact ⟨ret_bool (by first | rfl | (simp [h0, h1]; done) | (simp; omega) | (simp; intros; omega)), belA (Below.refl _ _)⟩
              · go_enter Tryd.func61, Tryd.ntmps61
                go_wp2_with fail
                all_goals go_ret
                all_goals exact ⟨ret_bool (by first | rfl | (simp [h0, h1]; done) | (simp; omega) | (simp; intros; omega)), belA (Below.refl _ _)⟩
            · go_enter Tryd.func61, Tryd.ntmps61
              go_wp2_with fail
              all_goals go_ret
              all_goals exact ⟨ret_bool (by first | rfl | (simp [h0]; done) | (simp; omega) | (simp; intros; omega)), belA (Below.refl _ _)⟩
          · go_enter Tryd.func61, Tryd.ntmps61
            go_wp2_with fail
            all_goals go_ret
            all_goals exact ⟨ret_bool (by first | rfl | (simp [hr]; done) | (simp; omega) | (simp; intros; omega)), belA (Below.refl _ _)⟩
      have kk5 : ¬ ((k : Int) = 5) := fun e => k5 (by omega)
      simp only [k1, k2, k3, k4, k5, or_self, if_false]
      clear k1 k2 k3 k4 k5
      cases m with
      | true =>
        go_enter Tryd.func61, Tryd.ntmps61
        go_wp2_with fail
        all_goals go_ret
        all_goals exact ⟨ret_bool (by first | rfl | (simp; done) | (simp; omega) | (simp; intros; omega)), belA (Below.refl _ _)⟩
      | false =>
        by_cases hr : r = 0
        · subst hr
          by_cases hs : s = 0
          · subst hs
            go_enter Tryd.func61, Tryd.ntmps61
            go_wp2_with fail
            all_goals go_ret
            all_goals exact ⟨ret_bool (by first | rfl | (simp; done) | (simp; omega) | (simp; intros; omega)), belA (Below.refl _ _)⟩
          · go_enter Tryd.func61, Tryd.ntmps61
            go_wp2_with fail
            all_goals go_ret
            all_goals exact ⟨ret_bool (by first | rfl | (simp [hs]; done) | (simp; omega) | (simp; intros; omega)), belA (Below.refl _ _)⟩
        · go_enter Tryd.func61, Tryd.ntmps61
          go_wp2_with fail
          all_goals go_ret
          all_goals exact ⟨ret_bool (by first | rfl | (simp [hr]; done) | (simp; omega) | (simp; intros; omega)), belA (Below.refl _ _)⟩
    | x :: y :: of, h, hres =>
      have hn : ¬ (((x :: y :: of).length : Nat) : Int) = 1 := by simp; omega
      have hz : ¬ (((x :: y :: of).length : Nat) : Int) = 0 := by simp; omega
      have i0 : inR refs n d (x :: y :: of) = false := rfl
      rw [i0] at hres
      rw [hres]
      clear hres h IH hD hd i0 ih
      obtain ⟨q, hq⟩ : ∃ q, q = (x :: y :: of).length := ⟨_, rfl⟩
      rw [← hq] at hn hz ⊢
      clear hq
      by_cases k1 : k = 1
      · subst k1
        simp only [true_or, if_true]
        cases m with
        | true =>
          go_enter Tryd.func61, Tryd.ntmps61
          go_wp2_with fail
          all_goals go_ret
          all_goals exact ⟨ret_bool (by first | rfl | (simp; done) | (simp; omega) | (simp; intros; omega)), belA (Below.refl _ _)⟩
        | false =>
          by_cases hr : r = 0
          · subst hr
            by_cases hs : s = 0
            · subst hs
              go_enter Tryd.func61, Tryd.ntmps61
              go_wp2_with fail
              all_goals go_ret
              all_goals exact ⟨ret_bool (by first | rfl | exact qz _ | (simp [hz]; done) | (simp; omega) | (simp; intros; omega)), belA (Below.refl _ _)⟩
            · go_enter Tryd.func61, Tryd.ntmps61
              go_wp2_with fail
              all_goals go_ret
              all_goals exact ⟨ret_bool (by first | rfl | (simp [hs]; done) | (simp; omega) | (simp; intros; omega)), belA (Below.refl _ _)⟩
          · go_enter Tryd.func61, Tryd.ntmps61
            go_wp2_with fail
            all_goals go_ret
            all_goals exact ⟨ret_bool (by first | rfl | (simp [hr]; done) | (simp; omega) | (simp; intros; omega)), belA (Below.refl _ _)⟩
      have kk1 : ¬ ((k : Int) = 1) := fun e => k1 (by omega)
      by_cases k2 : k = 2
      · subst k2
        simp only [or_true, if_true]
        cases m with
        | true =>
          go_enter Tryd.func61, Tryd.ntmps61
          go_wp2_with fail
          all_goals go_ret
          all_goals exact ⟨ret_bool (by first | rfl | (simp; done) | (simp; omega) | (simp; intros; omega)), belA (Below.refl _ _)⟩
        | false =>
          by_cases hr : r = 0
          · subst hr
            by_cases hs : s = 0
            · subst hs
              go_enter Tryd.func61, Tryd.ntmps61
              go_wp2_with fail
              all_goals go_ret
              all_goals exact ⟨ret_bool (by first | rfl | exact qz _ | (simp [hz]; done) | (simp; omega) | (simp; intros; omega)), belA (Below.refl _ _)⟩
            · go_enter Tryd.func61, Tryd.ntmps61
              go_wp2_with fail
              all_goals go_ret
              all_goals exact ⟨ret_bool (by first | rfl | (simp [hs]; done) | (simp; omega) | (simp; intros; omega)), belA (Below.refl _ _)⟩
          · go_enter Tryd.func61, Tryd.ntmps61
            go_wp2_with fail
            all_goals go_ret
            all_goals exact ⟨ret_bool (by first | rfl | (simp [hr]; done) | (simp; omega) | (simp; intros; omega)), belA (Below.refl _ _)⟩
      have kk2 : ¬ ((k : Int) = 2) := fun e => k2 (by omega)
      by_cases k3 : k = 3
      · subst k3
        simp only [show ¬ ((3 : Nat) = 1 ∨ (3 : Nat) = 2) from by omega, if_false, if_true]
        cases m with
        | true =>
          go_enter Tryd.func61, Tryd.ntmps61
          go_wp2_with fail
          all_goals go_ret
          all_goals exact ⟨ret_bool (by first | rfl | (simp; done) | (simp; omega) | (simp; intros; omega)), belA (Below.refl _ _)⟩
        | false =>
          by_cases hr : r = 0
          · subst hr
            by_cases hs : s = 0
            · subst hs
              go_enter Tryd.func61, Tryd.ntmps61
              go_wp2_with fail
              all_goals go_ret
              all_goals exact ⟨ret_bool (by first | rfl | (simp; done) | (simp; omega) | (simp; intros; omega)), belA (Below.refl _ _)⟩
            · go_enter Tryd.func61, Tryd.ntmps61
              go_wp2_with fail
              all_goals go_ret
              all_goals exact ⟨ret_bool (by first | rfl | (simp [hs]; done) | (simp; omega) | (simp; intros; omega)), belA (Below.refl _ _)⟩
          · go_enter Tryd.func61, Tryd.ntmps61
            go_wp2_with fail
            all_goals go_ret
            all_goals exact ⟨ret_bool (by first | rfl | (simp [hr]; done) | (simp; omega) | (simp; intros; omega)), belA (Below.refl _ _)⟩
      have kk3 : ¬ ((k : Int) = 3) := fun e => k3 (by omega)
      by_cases k4 : k = 4
      · subst k4
        simp only [show ¬ ((4 : Nat) = 1 ∨ (4 : Nat) = 2) from by omega, show ¬ ((4 : Nat) = 3) from by omega, if_false, if_true]
        by_cases hs : s = 0
        · subst hs
          cases refs with
          | false =>
            go_enter Tryd.func61, Tryd.ntmps61
            go_wp2_with fail
            all_goals go_ret
            all_goals exact ⟨ret_bool (by first | rfl | (simp; done) | (simp; omega) | (simp; intros; omega)), belA (Below.refl _ _)⟩
          | true =>
            go_enter Tryd.func61, Tryd.ntmps61
            go_wp2_with fail
            all_goals go_ret
            all_goals exact ⟨ret_bool (by first | rfl | (simp; done) | (simp; omega) | (simp; intros; omega)), belA (Below.refl _ _)⟩
        · go_enter Tryd.func61, Tryd.ntmps61
          go_wp2_with fail
          all_goals go_ret
          all_goals exact ⟨ret_bool (by first | rfl | (simp [hs]; done) | (simp; omega) | (simp; intros; omega)), belA (Below.refl _ _)⟩
      have kk4 : ¬ ((k : Int) = 4) := fun e => k4 (by omega)
      by_cases k5 : k = 5
      · subst k5
        simp only [show ¬ ((5 : Nat) = 1 ∨ (5 : Nat) = 2) from by omega, show ¬ ((5 : Nat) = 3) from by omega, show ¬ ((5 : Nat) = 4) from by omega, if_false, if_true]
        cases m with
        | true =>
          go_enter Tryd.func61, Tryd.ntmps61
          go_wp2_with fail
          all_goals go_ret
          all_goals exact ⟨ret_bool (by first | rfl | (simp; done) | (simp; omega) | (simp; intros; omega)), belA (Below.refl _ _)⟩
        | false =>
          by_cases hr : r = 0
          · subst hr
            go_enter Tryd.func61, Tryd.ntmps61
            go_wp2_with fail
            all_goals go_ret
            all_goals exact ⟨ret_bool (by first | rfl | exact qz _ | (simp [hz]; done) | (simp; omega) | (simp; intros; omega)), belA (Below.refl _ _)⟩
          · go_enter Tryd.func61, Tryd.ntmps61
            go_wp2_with fail
            all_goals go_ret
            all_goals exact ⟨ret_bool (by first | rfl | (simp [hr]; done) | (simp; omega) | (simp; intros; omega)), belA (Below.refl _ _)⟩
      have kk5 : ¬ ((k : Int) = 5) := fun e => k5 (by omega)
      simp only [k1, k2, k3, k4, k5, or_self, if_false]
      clear k1 k2 k3 k4 k5
      cases m with
      | true =>
        go_enter Tryd.func61, Tryd.ntmps61
        go_wp2_with fail
        all_goals go_ret
        all_goals exact ⟨ret_bool (by first | rfl | (simp; done) | (simp; omega) | (simp; intros; omega)), belA (Below.refl _ _)⟩
      | false =>
        by_cases hr : r = 0
        · subst hr
          by_cases hs : s = 0
          · subst hs
            go_enter Tryd.func61, Tryd.ntmps61
            go_wp2_with fail
            all_goals go_ret
            all_goals exact ⟨ret_bool (by first | rfl | (simp; done) | (simp; omega) | (simp; intros; omega)), belA (Below.refl _ _)⟩
          · go_enter Tryd.func61, Tryd.ntmps61
            go_wp2_with fail
            all_goals go_ret
            all_goals exact ⟨ret_bool (by first | rfl | (simp [hs]; done) | (simp; omega) | (simp; intros; omega)), belA (Below.refl _ _)⟩
        · go_enter Tryd.func61, Tryd.ntmps61
          go_wp2_with fail
          all_goals go_ret
          all_goals exact ⟨ret_bool (by first | rfl | (simp [hr]; done) | (simp; omega) | (simp; intros; omega)), belA (Below.refl _ _)⟩
/-- The reference's MayType. -/
theorem rmay_any (refs : Bool) (n : Int) : ∀ (d : Nat), d ≤ 48 → RMayC refs n d
  | 0, _ => rmay_zero refs n
  | d + 1, h => rmay_step refs n d h (rmay_any refs n d (by omega))
end Go.Proofs.YtnohcppipkpgmaaDoor
namespace Go.Proofs.YtnohcppipkpgmaaDoor
open Go.RowKit Go.Shelf
set_option linter.unusedVariables false
set_option linter.unusedSimpArgs false

/-- A set that has what stands right in i, and with each of its own what stands right in that. -/
def Clo (ss : List (List Ty)) (i : Nat) (M : Nat → Bool) : Prop := (∀ j, Stp ss i j → M j = true) ∧ ∀ j k, M j = true → Stp ss j k → M k = true
theorem stn_lt {ss : List (List Ty)} (hF : Fine ss) : ∀ {i j : Nat}, Stn ss i j → j < ss.length := fun {i j} h => by
  induction h with
  | one h => exact hF.lt _ _ h
  | more _ _ ih => exact ih
theorem stn_snoc {ss : List (List Ty)} {i j k : Nat} (h : Stn ss i j) (h' : Stp ss j k) : Stn ss i k := h.trans (.one h')
theorem left_32 (M : Nat → Bool) : left M ≤ 32 := by
  have := List.length_filter_le (fun j => !M j) (List.range 32)
  simpa [left] using this
theorem left_up : ∀ n : Fin 33, left (fun j => decide (j < n.val)) = 32 - n.val := by decide +kernel
theorem left_ge {M : Nat → Bool} {n : Nat} (hn : n ≤ 32) (h : ∀ j, M j = true → j < n) : 32 - n ≤ left M := by
  have h1 := left_up ⟨n, by omega⟩
  have h2 : left (fun j => decide (j < n)) ≤ left M := left_le (fun j hj => decide_eq_true (h j hj))
  simp only at h1
  omega
/-- A round either closes the set, or has marked one more. -/
theorem clo_round {ss : List (List Ty)} {i r : Nat} {M M' : Nat → Bool} (hF : Fine ss) (h32 : ss.length ≤ 32) (hi : i < ss.length) (hI : ∀ j, M' j = true → Stn ss i j) (hsub : ∀ j, M j = true → M' j = true) (hst : ∀ c, c < ss.length → (c = i ∨ M c = true) → ∀ j, Stp ss c j → M' j = true) (h : Clo ss i M ∨ left M + r ≤ 32) : Clo ss i M' ∨ left M' + (r + 1) ≤ 32 := by
  by_cases hc : Clo ss i M
  · have back : ∀ j, M' j = true → M j = true := fun j hj => Stn.closed (M := fun j => M j = true) hc.1 hc.2 (hI j hj)
    exact .inl ⟨fun j hj => hsub j (hc.1 j hj), fun j k hj hk => hsub k (hc.2 j k (back j hj) hk)⟩
  · have hl : left M + r ≤ 32 := h.resolve_left hc
    by_cases hx : ∃ j, M j = false ∧ M' j = true
    · obtain ⟨j, h1, h2⟩ := hx
      have hj32 : j < 32 := Nat.lt_of_lt_of_le (stn_lt hF (hI j h2)) h32
      have h3 := left_lt hj32 h1
      have h4 : left M' ≤ left (upd M j true) := left_le (fun k hk => by
        by_cases e : k = j
        · subst e; exact h2
        · rw [upd_other _ _ e] at hk; exact hsub k hk)
      right
      omega
    · have back : ∀ j, M' j = true → M j = true := fun j hj => by
        cases hm : M j with
        | true => rfl
        | false => exact absurd ⟨j, hm, hj⟩ hx
      exact absurd ⟨fun j hj => back j (hst i hi (.inl rfl) j hj), fun j k hj hk => back k (hst j (stn_lt hF (hI j (hsub j hj))) (.inr hj) k hk)⟩ hc
theorem clo_end {ss : List (List Ty)} {i : Nat} {M : Nat → Bool} (hF : Fine ss) (h32 : ss.length ≤ 32) (hI : ∀ j, M j = true → Stn ss i j) (h : Clo ss i M ∨ left M + (ss.length + 1) ≤ 32) : M i = true ↔ Stn ss i i := by
  have hc : Clo ss i M := by
    rcases h with h | h
    · exact h
    · have := left_ge h32 (fun j hj => stn_lt hF (hI j hj))
      omega
  exact ⟨fun h => hI i h, fun h => Stn.closed (M := fun j => M j = true) hc.1 hc.2 h⟩
/-- The marks so far: in memory, of what stands in i. -/
structure Mk (ss : List (List Ty)) (i : Nat) (w V : World) (M : Nat → Bool) : Prop where
  arr : Arr V w.heap.size 130 (bV M)
  st : ∀ j, M j = true → Stn ss i j
  bel : Below w.heap.size w V
theorem Mk.set {ss : List (List Ty)} {i c j : Nat} {w V : World} {M : Nat → Bool} (h : Mk ss i w V M) (hs : Stn ss i j) : Mk ss i w (V.setCell ⟨w.heap.size, j, none⟩ (.bool true)) (upd M j true) := by
  refine ⟨?_, fun k hk => ?_, h.bel.setCell (p := ⟨w.heap.size, j, none⟩) (Nat.le_refl _) _⟩
  · have := h.arr.arrs j (.bool true)
    rw [bV_upd] at this
    exact this
  · by_cases e : k = j
    · subst e; exact hs
    · rw [upd_other _ _ e] at hk; exact h.st k hk
theorem upd_mono {M : Nat → Bool} {j : Nat} : ∀ k, M k = true → upd M j true k = true := fun k hk => by
  by_cases e : k = j
  · subst e; exact upd_same _ _ _
  · rw [upd_other _ _ e]; exact hk
set_option maxRecDepth 100000 in
set_option maxHeartbeats 8000000 in
/-- The reference's endless. -/
theorem rendless_any (a : Option Addr) (n cap : Nat) (ss : List (List Ty)) (w : World) (h : StAt w a n cap ss) (hn : n ≤ 32) (hF : Fine ss) (i : Nat) (hi : i < n) (b : Bool) (hb : b = true ↔ Stn ss i i) :
    Calls Tryd.prog 74 #[.slice a n cap, .int .i64 (i : Int)] w fun e w' => e = .returned (.bool b) ∧ Below w.heap.size w w' := by
  have HB := hidD hb
  have hln := h.len
  have HLN := hidD hln
  have HST := hidD h
  have HF := hidD hF
  have HN : Hid (i < n ∧ n ≤ 32) := ⟨hi, hn⟩
  have HA1 : Hid (∀ o, o = Obj.cells (arr (bV fun _ => false)) 130 → Arr (w.alloc o) w.heap.size 130 (bV fun _ => false)) := hidD (fun o e => by subst e; exact At.new _ _)
  clear h hF hb hi hn hln
  go_enter Tryd.func74, Tryd.ntmps74
  go_wp2_with fail
  go_loopw [6] (fun v V => ∃ (r : Nat) (M : Nat → Bool), r ≤ n + 1 ∧ v = .int .i64 r ∧ Mk ss i w V M ∧ (Clo ss i M ∨ left M + r ≤ 32)) (fun v _ => n + 1 - (intOf v).toNat)
  case atStart => exact ⟨0, fun _ => false, Nat.zero_le _, rfl, ⟨HA1.out _ (by rw [arr_false]), fun j hj => (by cases hj), belA (Below.refl _ _)⟩, .inr (left_32 _)⟩
  case round =>
    obtain ⟨r, M, hr, rfl, hM, hC⟩ := hrel
    have HM := hidD hM
    have HC := hidD hC
    have hlA := hM.arr.lt
    have hci := At.arrc hM.arr (show i < 32 by have := HN.out; omega)
    clear hM hC
    by_cases hrn : r ≤ n
    · have k1 : (r : Int) ≤ (n : Int) := by omega
      have k2 : (r : Int) ≤ 32 := by have := HN.out; omega
      go_wp2_with fail
      go_loopw [7] (fun v V => ∃ (c : Nat) (M1 : Nat → Bool), c ≤ n ∧ v = .int .i64 c ∧ Mk ss i w V M1 ∧ (∀ j, M j = true → M1 j = true) ∧ (∀ c', c' < c → (c' = i ∨ M c' = true) → ∀ j, Stp ss c' j → M1 j = true)) (fun v _ => n - (intOf v).toNat)
      case atStart => exact ⟨0, M, Nat.zero_le _, rfl, HM.out, fun j hj => hj, fun c' hc => by omega⟩
      case round =>
        clear hlA hci
        obtain ⟨c, M1, hc, rfl, hM1, hs1, ho1⟩ := hrel
        have HM1 := hidD hM1
        have HS1 := hidD hs1
        have HO1 := hidD ho1
        clear hM1 hs1 ho1
        by_cases hcn : c < n
        · obtain ⟨fs, hfs⟩ : ∃ fs, ss[c]? = some fs := ⟨_, List.getElem?_eq_getElem (by have := HLN.out; omega)⟩
          have HFL := hidD (fld_of hfs)
          have HFS := hidD hfs
          obtain ⟨f1, f2, f3⟩ := HF.out c fs hfs
          have HP := hidD f3
          obtain ⟨m, hm⟩ : ∃ m, m = fs.length := ⟨_, rfl⟩
          have HMM := hidD hm
          have m8 : m ≤ 8 := by omega
          clear hfs f1 f2 f3 hm
          go_wp2_with fail
          go_loopw [8] (fun v V => ∃ (k : Nat) (M2 : Nat → Bool), k ≤ m ∧ v = .int .i64 k ∧ Mk ss i w V M2 ∧ (∀ j, M1 j = true → M2 j = true) ∧ (∀ k' t j, k' < k → (fld ss c)[k']? = some t → subT t = some j → M2 j = true)) (fun v _ => m - (intOf v).toNat)
          case atStart => exact ⟨0, M1, Nat.zero_le _, rfl, HM1.out, fun j hj => hj, fun k' t j hk => by omega⟩
          case round =>
            obtain ⟨k, M2, hk, rfl, hM2, hs2, ho2⟩ := hrel
            have HM2 := hidD hM2
            have HS2 := hidD hs2
            have HO2 := hidD ho2
            obtain ⟨g, off, fa, fcap, hag, hg, hcell, hFd⟩ := HST.out.field hM2.bel HFS.out
            have hg2 : g < wr.heap.size := Nat.lt_of_lt_of_le hg hM2.bel.size
            have hblk := hM2.arr.lt
            have HFk := hidD (hFd.bel hM2.bel)
            have hcc := At.arrc hM2.arr (show c < 32 by have := HN.out; omega)
            rw [← HMM.out] at hcell
            clear hM2 hs2 ho2 hFd hg
            subst hag
            have j0 : (0 : Int) ≤ (c : Int) := by omega
            have j1 : (c : Int) < (n : Int) := by omega
            have j2 : (c : Int) < 32 := by have := HN.out; omega
            have j3 : (c : Int) ≤ 1000 := by omega
            have NEXT : Hid (∀ M3 V, Mk ss i w V M3 → (∀ j, M2 j = true → M3 j = true) → ((c = i ∨ M c = true) → ∀ j, Stp ss c j → M3 j = true) → ∃ (c2 : Nat) (M1' : Nat → Bool), c2 ≤ n ∧ (Value.int .i64 ((c : Int) + 1)) = .int .i64 c2 ∧ Mk ss i w V M1' ∧ (∀ j, M j = true → M1' j = true) ∧ (∀ c', c' < c2 → (c' = i ∨ M c' = true) → ∀ j, Stp ss c' j → M1' j = true)) := fun M3 V h1 h2 h3 => ⟨c + 1, M3, hcn, rfl, h1, fun j hj => h2 j (HS2.out j (HS1.out j hj)), fun c' hc' ha j hj => by
              by_cases e : c' = c
              · subst e; exact h3 ha j hj
              · exact h2 j (HS2.out j (HO1.out c' (by omega) ha j hj))⟩
            by_cases hlk : k < m
            · obtain ⟨t, ht⟩ : ∃ t, fs[k]? = some t := ⟨_, List.getElem?_eq_getElem (by have := HMM.out; omega)⟩
              obtain ⟨g', off', hfa, hkk⟩ := HFk.out.2 (fun e => by subst e; simp at ht)
              obtain ⟨V, nm, hnm, hV5, hVt⟩ := hkk k t ht
              have HTT : Hid ((fld ss c)[k]? = some t) := hidD (by rw [HFL.out]; exact ht)
              have HPT := hidD (HP.out t (List.mem_of_getElem? ht))
              obtain ⟨hl5, p0, p1, p2, p3, p4⟩ := hV5
              subst hfa
              have e0 : (0 : Int) ≤ (k : Int) := by omega
              have e1 : (k : Int) < (m : Int) := by omega
              have e2 : (k : Int) ≤ 1000 := by omega
              have STEP : Hid (∀ M3 V, Mk ss i w V M3 → (∀ j, M2 j = true → M3 j = true) → (∀ j, subT t = some j → M3 j = true) → ∃ (k2 : Nat) (M2' : Nat → Bool), k2 ≤ m ∧ (Value.int .i64 ((k : Int) + 1)) = .int .i64 k2 ∧ Mk ss i w V M2' ∧ (∀ j, M1 j = true → M2' j = true) ∧ (∀ k' t j, k' < k2 → (fld ss c)[k']? = some t → subT t = some j → M2' j = true)) := fun M3 V h1 h2 h3 => ⟨k + 1, M3, hlk, rfl, h1, fun j hj => h2 j (HS2.out j hj), fun k' t' j hk' ht' hj => by
                by_cases e : k' = k
                · subst e
                  rw [HTT.out] at ht'
                  cases ht'
                  exact h3 j hj
                · exact h2 j (HO2.out k' t' j (by omega) ht' hj)⟩
              have DEC : m - ((k : Int) + 1).toNat < m - (k : Int).toNat := by omega
              have HDEC := hidD DEC
              clear hkk ht DEC hnm
              by_cases hcx : c = i
              · subst hcx
                have STNC : Hid (∀ j, Stp ss c j → Stn ss c j) := fun j hj => .one hj
                clear hcc
                rcases HPT.out.kind with ⟨j, hj, hs, -, rfl⟩ | ⟨hs, ch, rfl, -, hch⟩
                · obtain ⟨ta, tcap, rfl, -⟩ := hVt.leaf
                  have HS := hidD hs
                  have q0 : (0 : Int) ≤ (j : Int) := by omega
                  have q1 : (j : Int) < 32 := by have := HN.out; have := HLN.out; omega
                  have hj32 : j < 32 := by omega
                  have hc0 := HM2.out.arr.arrc hj32
                  have hf0 := HM2.out.arr.arrf j
                  have HNEW : Hid (Stn ss c j) := by
                    have hsp : Stp ss c j := ⟨_, List.mem_of_getElem? HTT.out, HS.out⟩
                    exact STNC.out j hsp
                  have HSET := hidD (HM2.out.set (c := c) HNEW.out)
                  clear hs hVt hj32 STNC
                  go_wp2_with fail
                  exact ⟨STEP.out _ _ HSET.out upd_mono (fun j' hj' => by rw [HS.out] at hj'; cases hj'; exact upd_same _ _ _), HDEC.out⟩
                · have HS := hidD hs
                  have hk5 : ¬ (V.k : Int) = 5 := by
                    rcases hch with ⟨kk, s, rfl, hkk, -⟩ | ⟨d, rfl, -⟩
                    · obtain ⟨ta, tcap, rfl, -⟩ := hVt.leaf
                      show ¬ (kk : Int) = 5
                      omega
                    · obtain ⟨_, _, _, _, rfl, -⟩ := hVt.box
                      show ¬ ((3 : Nat) : Int) = 5
                      omega
                  have hk6 : ((V.k : Int) == 5) = false := by simpa using hk5
                  clear hs hVt hch STNC
                  go_wp2_with fail
                  exact ⟨STEP.out _ _ HM2.out (fun j' hj' => hj') (fun j' hj' => by rw [HS.out] at hj'; cases hj'), HDEC.out⟩
              · have hce : ¬ (c : Int) = (i : Int) := by omega
                cases hmc : M2 c with
                | true =>
                  rw [show bV M2 c = .bool true from by simp [bV, hmc]] at hcc
                  have STNC : Hid (∀ j, Stp ss c j → Stn ss i j) := fun j hj => stn_snoc (HM2.out.st c hmc) hj
                  clear hmc hcx
                  rcases HPT.out.kind with ⟨j, hj, hs, -, rfl⟩ | ⟨hs, ch, rfl, -, hch⟩
                  · obtain ⟨ta, tcap, rfl, -⟩ := hVt.leaf
                    have HS := hidD hs
                    have q0 : (0 : Int) ≤ (j : Int) := by omega
                    have q1 : (j : Int) < 32 := by have := HN.out; have := HLN.out; omega
                    have hj32 : j < 32 := by omega
                    have hc0 := HM2.out.arr.arrc hj32
                    have hf0 := HM2.out.arr.arrf j
                    have HNEW : Hid (Stn ss i j) := by
                      have hsp : Stp ss c j := ⟨_, List.mem_of_getElem? HTT.out, HS.out⟩
                      exact STNC.out j hsp
                    have HSET := hidD (HM2.out.set (c := c) HNEW.out)
                    clear hs hVt hj32 STNC
                    go_wp2_with fail
                    exact ⟨STEP.out _ _ HSET.out upd_mono (fun j' hj' => by rw [HS.out] at hj'; cases hj'; exact upd_same _ _ _), HDEC.out⟩
                  · have HS := hidD hs
                    have hk5 : ¬ (V.k : Int) = 5 := by
                      rcases hch with ⟨kk, s, rfl, hkk, -⟩ | ⟨d, rfl, -⟩
                      · obtain ⟨ta, tcap, rfl, -⟩ := hVt.leaf
                        show ¬ (kk : Int) = 5
                        omega
                      · obtain ⟨_, _, _, _, rfl, -⟩ := hVt.box
                        show ¬ ((3 : Nat) : Int) = 5
                        omega
                    have hk6 : ((V.k : Int) == 5) = false := by simpa using hk5
                    clear hs hVt hch STNC
                    go_wp2_with fail
                    exact ⟨STEP.out _ _ HM2.out (fun j' hj' => hj') (fun j' hj' => by rw [HS.out] at hj'; cases hj'), HDEC.out⟩
                | false =>
                  rw [show bV M2 c = .bool false from by simp [bV, hmc]] at hcc
                  have HMC := hidD hmc
                  have HCX := hidD hcx
                  clear hmc hcx
                  go_wp2_with fail
                  refine ⟨NEXT.out _ _ HM2.out (fun j hj => hj) (fun ha j hj => ?_), ?_⟩
                  · rcases ha with ha | ha
                    · exact absurd ha HCX.out
                    · have := HS2.out c (HS1.out c ha)
                      rw [HMC.out] at this
                      cases this
                  · show n - ((c : Int) + 1).toNat < n - (c : Int).toNat
                    omega
            · obtain rfl : k = m := by omega
              have z1 : ¬ ((k : Int) < (k : Int)) := by omega
              clear hcc
              go_wp2_with fail
              refine ⟨NEXT.out _ _ HM2.out (fun j hj => hj) (fun ha j hj => ?_), ?_⟩
              · obtain ⟨t, ht, hj'⟩ := hj
                obtain ⟨k', hk'⟩ := List.mem_iff_getElem?.1 ht
                refine HO2.out k' t j ?_ hk' hj'
                have h1 := (List.getElem?_eq_some_iff.1 hk').1
                rw [HFL.out] at h1
                have := HMM.out
                omega
              · show n - ((c : Int) + 1).toNat < n - (c : Int).toNat
                omega
        · obtain rfl : c = n := by omega
          have z1 : ¬ ((c : Int) < (c : Int)) := by omega
          go_wp2_with fail
          refine ⟨⟨r + 1, M1, by omega, by go_num, HM1.out, ?_⟩, ?_⟩
          · refine clo_round HF.out (by have := HN.out; have := HLN.out; omega) (by have := HN.out; have := HLN.out; omega) HM1.out.st HS1.out (fun c' hc' ha j hj => HO1.out c' (by have := HLN.out; omega) ha j hj) HC.out
          · show c + 1 - ((r : Int) + 1).toNat < c + 1 - (r : Int).toNat
            omega
    · obtain rfl : r = n + 1 := by omega
      have k1 : ¬ ((n + 1 : Nat) : Int) ≤ (n : Int) := by omega
      have i0 : (0 : Int) ≤ (i : Int) := by omega
      have i1 : (i : Int) < 32 := by have := HN.out; omega
      have hbb : M i = b := by
        have h1 := clo_end HF.out (by have := HN.out; have := HLN.out; omega) HM.out.st (by have := HC.out; rw [HLN.out] at this; exact this)
        rw [Bool.eq_iff_iff, h1, HB.out]
      rw [show bV M i = .bool b from by simp [bV, hbb]] at hci
      go_wp2_with fail
      go_ret
      exact ⟨rfl, HM.out.bel⟩
end Go.Proofs.YtnohcppipkpgmaaDoor
namespace Go.Proofs.YtnohcppipkpgmaaDoor
open Go.RowKit Go.Shelf
set_option linter.unusedVariables false
set_option linter.unusedSimpArgs false

/-- A number, told as far as above sixteen. -/
def WOk (v x : Nat) : Prop := (x ≤ 16 → v = x) ∧ (16 < x → 16 < v)
theorem sum_step {α : Type} (f : α → Nat) {l : List α} {k : Nat} {t : α} (h : l[k]? = some t) : ((l.take (k + 1)).map f).sum = ((l.take k).map f).sum + f t := by
  rw [List.take_add_one, h]
  simp
theorem sum_take_le {α : Type} (f : α → Nat) (l : List α) (k : Nat) : ((l.take k).map f).sum ≤ (l.map f).sum := by
  have : (l.map f).sum = ((l.take k).map f).sum + ((l.drop k).map f).sum := by
    rw [← List.sum_append, ← List.map_append, List.take_append_drop]
  omega
set_option maxRecDepth 100000 in
set_option maxHeartbeats 8000000 in
/-- The reference's words. -/
theorem rwords_any (w0 : World) (a : Option Addr) (n cap : Nat) (ss : List (List Ty)) (h : StAt w0 a n cap ss) (hn : n ≤ 32) (hF : Fine ss) (rk : Nat → Nat) (hr : Rank ss rk) :
    ∀ (q : Nat), q ≤ 100 → ∀ (t : Ty) (f : Fv) (W : World), PlainT n t → (∀ j, subT t = some j → rk j < q) → Below w0.heap.size w0 W → TyAt W f t →
      Calls Tryd.prog 75 #[.slice a n cap, f.v] W fun e w' => (∃ v : Nat, e = .returned (.int .i64 (v : Int)) ∧ WOk v (wdT ss t) ∧ v ≤ 1 + 17 * q) ∧ Below W.heap.size W w' := by
  intro q
  induction q with
  | zero =>
    intro hq t f W hp hj hB hT
    rcases hp.kind with ⟨j, hjn, hs, -, -⟩ | ⟨hs, ch, rfl, -, hch⟩
    · exact absurd (hj j hs) (Nat.not_lt_zero _)
    · have hw : wdT ss ch.ty = 1 := by unfold wdT; rw [hs]
      rw [hw]
      have hk5 : ¬ (f.k : Int) = 5 := by
        rcases hch with ⟨kk, s, rfl, hkk, -⟩ | ⟨d, rfl, -⟩
        · obtain ⟨ta, tcap, rfl, -⟩ := hT.leaf
          show ¬ (kk : Int) = 5
          omega
        · obtain ⟨_, _, _, _, rfl, -⟩ := hT.box
          show ¬ ((3 : Nat) : Int) = 5
          omega
      obtain ⟨k, m, r, s, fa, fn, fc⟩ := f
      show Calls Tryd.prog 75 #[.slice a n cap, tyV k m r s fa fn fc] W _
      have hk6 : ¬ (k : Int) = 5 := hk5
      clear hp hj hB hT hs hch hw hk5 h hF hr
      go_enter Tryd.func75, Tryd.ntmps75
      go_wp2_with fail
      go_ret
      exact ⟨⟨1, rfl, ⟨fun _ => rfl, fun h => by omega⟩, by omega⟩, belA (Below.refl _ _)⟩
  | succ q ih =>
    intro hq t f W hp hj hB hT
    rcases hp.kind with ⟨j, hjn, hs, -, rfl⟩ | ⟨hs, ch, rfl, -, hch⟩
    · obtain ⟨ta, tcap, rfl, -⟩ := hT.leaf
      have hrk := hj j hs
      obtain ⟨fs, hfs⟩ : ∃ fs, ss[j]? = some fs := ⟨_, List.getElem?_eq_getElem (by have := h.len; omega)⟩
      have hfl := fld_of hfs
      have htw : wdT ss (Ch.leaf 5 (j : Int)).ty = (fs.map (wdT ss)).sum := by
        have e1 : wdT ss (Ch.leaf 5 (j : Int)).ty = tw ss j := by unfold wdT; rw [hs]
        rw [e1, tw_eq hr, hfl]
      rw [htw]
      have HFS := hidD hfs
      have HST := hidD h
      have HP : Hid (∀ t ∈ fs, PlainT n t) := (by have := (hF j fs hfs).2.2; rw [h.len]; exact this : ∀ t ∈ fs, PlainT n t)
      have h8 := (hF j fs hfs).2.1
      have HRK : Hid (∀ t ∈ fs, ∀ j', subT t = some j' → rk j' < q) := fun t ht j' hj' => by
        have := hr.2 j j' ⟨t, by rw [hfl]; exact ht, hj'⟩
        omega
      obtain ⟨m, hm⟩ : ∃ m, m = fs.length := ⟨_, rfl⟩
      have HM := hidD hm
      have m8 : m ≤ 8 := by omega
      have IH := hidD (ih (by omega))
      have HB0 := hidD hB
      have HQ := hidD hq
      have j0 : (0 : Int) ≤ (j : Int) := by omega
      have j1 : (j : Int) < (n : Int) := by omega
      have A1 := hidD (At.new W (tyO 5 false 0 (j : Int) ta 0 tcap))
      show Calls Tryd.prog 75 #[.slice a n cap, tyV 5 false 0 (j : Int) ta 0 tcap] W _
      clear hp hj hT hs hrk hfs hfl htw h8 hm ih h hF hr hB hq hjn
      go_enter Tryd.func75, Tryd.ntmps75
      go_wp2_with fail
      go_loopw [5, 6] (fun v u V => ∃ k c : Nat, k ≤ m ∧ u = .int .i64 (k : Int) ∧ v = .int .i64 (c : Int) ∧ WOk c ((fs.take k).map (wdT ss)).sum ∧ c ≤ 1 + 17 * (q + 1) ∧ At V W.heap.size (tyO 5 false 0 (j : Int) ta 0 tcap) ∧ Below W.heap.size W V) (fun _ u _ => m - (intOf u).toNat)
      case atStart => exact ⟨0, 0, Nat.zero_le _, rfl, rfl, ⟨fun _ => rfl, fun h => absurd h (by simp)⟩, by omega, A1.out, belA (Below.refl _ _)⟩
      case round =>
        clear A1
        obtain ⟨k, c, hk, rfl, rfl, hW, hc, hA, hBV⟩ := hrel
        have HW := hidD hW
        have HA := hidD hA
        have HBV := hidD hBV
        have hB0 := below_aft HB0.out hBV
        obtain ⟨g, off, fa, fcap, hag, hg, hcell, hFd⟩ := HST.out.field hB0 HFS.out
        have hg2 : g < wr.heap.size := Nat.lt_of_lt_of_le hg hB0.size
        have HFk := hidD (hFd.bel hB0)
        have HBw := hidD hB0
        rw [← HM.out] at hcell
        subst hag
        obtain ⟨-, z0, z1, z2, z3, z4⟩ := (At.ty (f := ⟨5, false, 0, (j : Int), ta, 0, tcap⟩) hA)
        simp only [Nat.zero_add] at z0 z1 z2 z3 z4
        clear hW hA hBV hB0 hFd hg
        by_cases hlk : k < m
        · have e0 : (0 : Int) ≤ (k : Int) := by omega
          have e1 : (k : Int) < (m : Int) := by omega
          have e2 : (k : Int) ≤ 1000 := by omega
          by_cases hc16 : c ≤ 16
          · obtain ⟨t, ht⟩ : ∃ t, fs[k]? = some t := ⟨_, List.getElem?_eq_getElem (by have := HM.out; omega)⟩
            obtain ⟨g', off', hfa, hkk⟩ := HFk.out.2 (fun e => by subst e; simp at ht)
            obtain ⟨V, nm, hnm, hV5, hVt⟩ := hkk k t ht
            have CC : Hid (Calls Tryd.prog 75 #[.slice (some ⟨g, off, none⟩) n cap, V.v] wr fun e w' => (∃ v : Nat, e = .returned (.int .i64 (v : Int)) ∧ WOk v (wdT ss t) ∧ v ≤ 1 + 17 * q) ∧ Below wr.heap.size wr w') := IH.out t V wr (HP.out t (List.mem_of_getElem? ht)) (HRK.out t (List.mem_of_getElem? ht)) HBw.out hVt
            have HTT := hidD ht
            obtain ⟨hl5, p0, p1, p2, p3, p4⟩ := hV5
            subst hfa
            have d1 : (c : Int) ≤ 16 := by omega
            have d2 : q ≤ 99 := by have := HQ.out; omega
            have NUM : Hid (∀ v : Nat, v ≤ 1 + 17 * q → IntKind.i64.wrap ((c : Int) + (v : Int)) = (c : Int) + (v : Int)) := fun v hv => by rw [IntKind.wrap_i64]; omega
            have HCC : Hid (c ≤ 16) := hc16
            clear hkk hVt ht hnm hc hc16 d2
            go_wp2_with (go_at_call 75; refine CC.out.mono ?_; rintro e w1 ⟨⟨v, rfl, hv1, hv2⟩, hb1⟩; have HV1 := hidD hv1; have HV2 := hidD hv2; have wv := NUM.out v hv2; clear hv1 hv2)
            refine ⟨⟨k + 1, c + v, hlk, rfl, by first | rfl | (simp; done), ?_, by have := HV2.out; have := HCC.out; omega, HA.out.below hb1, below_aft HBV.out hb1⟩, ?_⟩
            · rw [sum_step (wdT ss) HTT.out]
              have h1 := HW.out
              have h2 := HV1.out
              have h3 := HCC.out
              unfold WOk at h1 h2 ⊢
              omega
            · show m - ((k : Int) + 1).toNat < m - (k : Int).toNat
              omega
          · have d1 : ¬ (c : Int) ≤ 16 := by omega
            go_wp2_with fail
            go_ret
            refine ⟨⟨c, rfl, ?_, hc⟩, HBV.out⟩
            have h1 := HW.out
            have h2 := sum_take_le (wdT ss) fs k
            unfold WOk at h1 ⊢
            omega
        · obtain rfl : k = m := by omega
          have zz : ¬ ((k : Int) < (k : Int)) := by omega
          go_wp2_with fail
          go_ret
          refine ⟨⟨c, rfl, ?_, hc⟩, HBV.out⟩
          have h1 := HW.out
          rw [HM.out, List.take_length] at h1
          exact h1
    · have hw : wdT ss ch.ty = 1 := by unfold wdT; rw [hs]
      rw [hw]
      have hk5 : ¬ (f.k : Int) = 5 := by
        rcases hch with ⟨kk, s, rfl, hkk, -⟩ | ⟨d, rfl, -⟩
        · obtain ⟨ta, tcap, rfl, -⟩ := hT.leaf
          show ¬ (kk : Int) = 5
          omega
        · obtain ⟨_, _, _, _, rfl, -⟩ := hT.box
          show ¬ ((3 : Nat) : Int) = 5
          omega
      obtain ⟨k, m, r, s, fa, fn, fc⟩ := f
      show Calls Tryd.prog 75 #[.slice a n cap, tyV k m r s fa fn fc] W _
      have hk6 : ¬ (k : Int) = 5 := hk5
      clear hp hj hB hT hs hch hw hk5 h hF hr ih
      go_enter Tryd.func75, Tryd.ntmps75
      go_wp2_with fail
      go_ret
      exact ⟨⟨1, rfl, ⟨fun _ => rfl, fun h => by omega⟩, by omega⟩, belA (Below.refl _ _)⟩
end Go.Proofs.YtnohcppipkpgmaaDoor
namespace Go.Proofs.YtnohcppipkpgmaaDoor
open Go.RowKit Go.Shelf
set_option linter.unusedVariables false
set_option linter.unusedSimpArgs false

theorem so_iff {n : Nat} {b1 b2 b3 : Nat → Bool} : decide ((stRes n b1 b2 b3).2 = 0) = true ↔ ¬ 32 < n ∧ (∀ j, j < n → b1 j = false) ∧ (∀ j, j < n → b2 j = false) ∧ ∀ j, j < n → b3 j = false := by
  rw [decide_eq_true_iff]
  constructor
  · intro h
    obtain ⟨h1, h2, h3, h4, -⟩ := stRes_ok h
    exact ⟨h1, h2, h3, h4⟩
  · rintro ⟨h1, h2, h3, h4⟩
    rw [stRes_0 h1 h2 h3 h4]
theorem leaf5_at (W : World) (i : Nat) (hi : i ≤ 1000) : TyAt W ⟨5, false, 0, (i : Int), none, 0, 0⟩ (Ch.leaf 5 (i : Int)).ty :=
  .mk _ _ _ _ none 0 0 [] (fun _ => ⟨0, false, 0, 0, none, 0, 0⟩) rfl (by simp) (by omega) (by omega) (by omega) (by omega) (by omega) (fun hh => absurd rfl hh) (fun i t ht => by simp at ht)
set_option maxRecDepth 100000 in
set_option maxHeartbeats 8000000 in
/-- The reference's Structs. -/
theorem rStructs_any (a : Option Addr) (n cap : Nat) (ss : List (List Ty)) (w : World) (h : StAt w a n cap ss) (b1 b2 b3 : Nat → Bool) (hb : Flt ss b1 b2 b3) (so : Bool) (hso : so = decide ((stRes n b1 b2 b3).2 = 0)) :
    Calls Tryd.prog 60 #[.slice a n cap] w fun e w' => e = .returned (.bool so) ∧ Below w.heap.size w w' := by
  have hso2 : so = true ↔ ¬ 32 < n ∧ (∀ j, j < n → b1 j = false) ∧ (∀ j, j < n → b2 j = false) ∧ ∀ j, j < n → b3 j = false := by rw [hso]; exact so_iff
  by_cases hn : 32 < n
  · have e : so = false := by
      cases so with
      | false => rfl
      | true => exact absurd hn (hso2.1 rfl).1
    subst e
    have k1 : (32 : Int) < (n : Int) := by omega
    clear h hb hso hso2
    go_enter Tryd.func60, Tryd.ntmps60
    go_wp2_with fail
    go_ret
    exact ⟨rfl, Below.refl _ _⟩
  have k1 : ¬ (32 : Int) < (n : Int) := by omega
  have HSO := hidD hso2
  have HST := hidD h
  have hln := h.len
  have HLN := hidD hln
  have HFT := hidD hb
  have HN : Hid (n ≤ 32) := (by omega : n ≤ 32)
  clear h hb hso hso2 hln hn
  go_enter Tryd.func60, Tryd.ntmps60
  go_wp2_with fail
  go_loopw [3] (fun v V => ∃ i : Nat, i ≤ n ∧ v = .int .i64 (i : Int) ∧ (∀ j, j < i → b1 j = false) ∧ Below w.heap.size w V) (fun v _ => n - (intOf v).toNat)
  case atStart => exact ⟨0, Nat.zero_le _, rfl, fun j hj => by omega, Below.refl _ _⟩
  case round =>
    obtain ⟨i, hi, rfl, hall, hBV⟩ := hrel
    obtain ⟨wo, rfl⟩ : ∃ wo, wo = wr := ⟨_, rfl⟩
    have HALL := hidD hall
    have HBV := hidD hBV
    have HV := hidD (HST.out.bel hBV)
    clear hall hBV
    by_cases hlt : i < n
    · obtain ⟨fs, hfs⟩ : ∃ fs, ss[i]? = some fs := ⟨_, List.getElem?_eq_getElem (by have := HLN.out; omega)⟩
      obtain ⟨g1, off, fa, fcap, hag, hg, hcell, hF⟩ := HV.out.one hfs
      have HF := hidD hF
      have hb1 := HFT.out.h1 i fs hfs
      rw [← HLN.out] at hb1
      have HB1 := hidD hb1
      subst hag
      have j0 : (0 : Int) ≤ (i : Int) := by omega
      have j1 : (i : Int) < (n : Int) := by omega
      have j2 : (i : Int) ≤ 1000 := by have := HN.out; omega
      obtain ⟨m, hm⟩ : ∃ m, m = fs.length := ⟨_, rfl⟩
      have HM := hidD hm
      rw [← hm] at hcell
      have BAD : Hid (b1 i = true → so = false) := fun hbi => by
        cases hs : so with
        | false => rfl
        | true =>
          have := (HSO.out.1 hs).2.1 i hlt
          rw [hbi] at this
          cases this
      clear hF hm hb1 hfs
      by_cases hm1 : m < 1
      · have k2 : (m : Int) < 1 := by omega
        have hsf := BAD.out (HB1.out.2 (fun h => by have := h.1; have := HM.out; omega))
        subst hsf
        clear hm1
        go_wp2_with fail
        go_ret
        exact ⟨rfl, HBV.out⟩
      have k2 : ¬ (m : Int) < 1 := by omega
      by_cases hm8 : 8 < m
      · have k3 : (8 : Int) < (m : Int) := by omega
        have hsf := BAD.out (HB1.out.2 (fun h => by have := h.2.1; have := HM.out; omega))
        subst hsf
        clear hm1 hm8
        go_wp2_with fail
        go_ret
        exact ⟨rfl, HBV.out⟩
      have k3 : ¬ (8 : Int) < (m : Int) := by omega
      have HMM : Hid (1 ≤ m ∧ m ≤ 8) := ⟨by omega, by omega⟩
      clear hm1 hm8
      go_wp2_with fail
      go_loopw [4] (fun v V => ∃ k : Nat, k ≤ m ∧ v = .int .i64 (k : Int) ∧ (∀ k' t, k' < k → fs[k']? = some t → PlainT n t) ∧ Below wo.heap.size wo V) (fun v _ => m - (intOf v).toNat)
      case atStart => exact ⟨0, Nat.zero_le _, rfl, fun k' t hk => by omega, Below.refl _ _⟩
      case round =>
        obtain ⟨kk, hkk, rfl, hall, hBk⟩ := hrel
        have HAK := hidD hall
        have HBk := hidD hBk
        have HFk := hidD (HF.out.bel hBk)
        have hc2 : wr.cell? ⟨g1, off + i * 2 + 1, none⟩ = some (.slice fa m fcap) := (hBk.cell (p := ⟨g1, off + i * 2 + 1, none⟩) hg).trans hcell
        have hg2 : g1 < wr.heap.size := Nat.lt_of_lt_of_le hg hBk.size
        clear hall hBk
        by_cases hlk : kk < m
        · obtain ⟨t, ht⟩ : ∃ t, fs[kk]? = some t := ⟨_, List.getElem?_eq_getElem (by have := HM.out; omega)⟩
          obtain ⟨g', off', hfa, hkk2⟩ := HFk.out.2 (fun e => by subst e; simp at ht)
          obtain ⟨V, nm, -, hV5, hVt⟩ := hkk2 kk t ht
          have HTT := hidD ht
          obtain ⟨bt, hbt⟩ : ∃ bt, bt = mayR false n 48 t := ⟨_, rfl⟩
          have hpl : bt = true ↔ PlainT n t := by rw [hbt]; exact mayR_plain n 48 t
          have HPL := hidD hpl
          have CF : Hid (Calls Tryd.prog 61 #[V.v, .int .i64 n, .int .i64 48, .bool false] wr fun e w' => e = .returned (.bool bt) ∧ Below wr.heap.size wr w') := by rw [hbt]; exact rmay_any false n 48 (Nat.le_refl _) t V wr 48 rfl hVt
          obtain ⟨hl5, p0, p1, p2, p3, p4⟩ := hV5
          subst hfa
          have e0 : (0 : Int) ≤ (kk : Int) := by omega
          have e1 : (kk : Int) < (m : Int) := by omega
          have e2 : (kk : Int) ≤ 1000 := by have := HMM.out; omega
          clear hkk2 hVt ht hpl hbt
          cases bt with
          | true =>
            go_wp2_with (go_at_call 61; refine CF.out.mono ?_; rintro e w1 ⟨rfl, hb1⟩)
            refine ⟨⟨kk + 1, hlk, rfl, fun k' t' hk' ht' => ?_, below_aft HBk.out hb1⟩, ?_⟩
            · by_cases e : k' = kk
              · subst e
                rw [HTT.out] at ht'
                cases ht'
                exact HPL.out.1 (by first | rfl | trivial)
              · exact HAK.out k' t' (by omega) ht'
            · show m - ((kk : Int) + 1).toNat < m - (kk : Int).toNat
              omega
          | false =>
            have hnp : ¬ PlainT n t := fun h => by have := HPL.out.2 h; cases this
            have hsf := BAD.out (HB1.out.2 (fun h => hnp (h.2.2 t (List.mem_of_getElem? HTT.out))))
            subst hsf
            clear hnp
            go_wp2_with (go_at_call 61; refine CF.out.mono ?_; rintro e w1 ⟨rfl, hb1⟩)
            go_ret
            exact ⟨rfl, below_aft (below_aft HBV.out HBk.out) hb1⟩
        · obtain rfl : kk = m := by omega
          have z1 : ¬ ((kk : Int) < (kk : Int)) := by omega
          go_wp2_with fail
          refine ⟨⟨i + 1, hlt, rfl, fun j hj => ?_, below_aft HBV.out HBk.out⟩, ?_⟩
          · by_cases e : j = i
            · subst e
              cases hbj : b1 j with
              | false => rfl
              | true =>
                refine absurd ⟨?_, ?_, fun t ht => ?_⟩ (HB1.out.1 hbj)
                · have := HMM.out; have := HM.out; omega
                · have := HMM.out; have := HM.out; omega
                · obtain ⟨k', hk'⟩ := List.mem_iff_getElem?.1 ht
                  exact HAK.out k' t (by have := (List.getElem?_eq_some_iff.1 hk').1; have := HM.out; omega) hk'
            · exact HALL.out j (by omega)
          · show n - ((i : Int) + 1).toNat < n - (i : Int).toNat
            omega
    · obtain rfl : i = n := by omega
      have z1 : ¬ ((i : Int) < (i : Int)) := by omega
      have HFI : Hid (Fine ss) := HFT.out.fine (fun j hj => HALL.out j (by have := HLN.out; omega))
      clear HV hlt hi
      go_wp2_with fail
      go_loopw [5] (fun v V => ∃ q : Nat, q ≤ i ∧ v = .int .i64 (q : Int) ∧ (∀ j, j < q → b2 j = false) ∧ Below w.heap.size w V) (fun v _ => i - (intOf v).toNat)
      case atStart => exact ⟨0, Nat.zero_le _, rfl, fun j hj => by omega, HBV.out⟩
      case round =>
        obtain ⟨q, hq, rfl, hall, hBq⟩ := hrel
        have HAQ := hidD hall
        have HBq := hidD hBq
        clear hall hBq
        by_cases hlq : q < i
        · obtain ⟨bt, hbt⟩ : ∃ bt, bt = b2 q := ⟨_, rfl⟩
          have HBT := hidD hbt
          have CF : Hid (Calls Tryd.prog 74 #[.slice a i cap, .int .i64 (q : Int)] wr fun e w' => e = .returned (.bool bt) ∧ Below wr.heap.size wr w') := rendless_any a i cap ss wr (HST.out.bel HBq.out) HN.out HFI.out q hlq bt (by rw [hbt]; exact HFT.out.h2 q)
          have e0 : (0 : Int) ≤ (q : Int) := by omega
          have e1 : (q : Int) < (i : Int) := by omega
          have e2 : (q : Int) ≤ 1000 := by have := HN.out; omega
          clear hbt
          cases bt with
          | true =>
            have hsf : so = false := by
              cases hs : so with
              | false => rfl
              | true =>
                have := (HSO.out.1 hs).2.2.1 q hlq
                rw [← HBT.out] at this
                cases this
            subst hsf
            go_wp2_with (go_at_call 74; refine CF.out.mono ?_; rintro e w1 ⟨rfl, hb1⟩)
            go_ret
            exact ⟨rfl, below_aft HBq.out hb1⟩
          | false =>
            go_wp2_with (go_at_call 74; refine CF.out.mono ?_; rintro e w1 ⟨rfl, hb1⟩)
            refine ⟨⟨q + 1, hlq, rfl, fun j hj => ?_, below_aft HBq.out hb1⟩, ?_⟩
            · by_cases e : j = q
              · subst e; exact HBT.out.symm
              · exact HAQ.out j (by omega)
            · show i - ((q : Int) + 1).toNat < i - (q : Int).toNat
              omega
        · obtain rfl : q = i := by omega
          have z2 : ¬ ((q : Int) < (q : Int)) := by omega
          obtain ⟨rk, hrk⟩ := HFT.out.rank HFI.out (fun j hj => HAQ.out j (by have := HLN.out; omega))
          have HRK := hidD hrk
          clear hlq hq hrk
          go_wp2_with fail
          go_loopw [6] (fun v V => ∃ p : Nat, p ≤ q ∧ v = .int .i64 (p : Int) ∧ (∀ j, j < p → b3 j = false) ∧ Below w.heap.size w V) (fun v _ => q - (intOf v).toNat)
          case atStart => exact ⟨0, Nat.zero_le _, rfl, fun j hj => by omega, HBq.out⟩
          case round =>
            obtain ⟨p, hp, rfl, hall, hBp⟩ := hrel
            have HAP := hidD hall
            have HBp := hidD hBp
            clear hall hBp
            by_cases hlp : p < q
            · have h3 := HFT.out.h3 p
              have H3 := hidD h3
              have hsub : subT (Ch.leaf 5 (p : Int)).ty = some p := by simp [Ch.ty, subT]
              have hwd : wdT ss (Ch.leaf 5 (p : Int)).ty = tw ss p := by unfold wdT; rw [hsub]
              have CF : Hid (Calls Tryd.prog 75 #[.slice a q cap, tyV 5 false 0 (p : Int) none 0 0] wr fun e w' => (∃ v : Nat, e = .returned (.int .i64 (v : Int)) ∧ WOk v (tw ss p)) ∧ Below wr.heap.size wr w') := by
                refine (rwords_any w a q cap ss HST.out HN.out HFI.out rk HRK.out (ss.length + 1) (by have := HN.out; have := HLN.out; omega) (Ch.leaf 5 (p : Int)).ty ⟨5, false, 0, (p : Int), none, 0, 0⟩ wr ⟨.leaf 5 (p : Int), rfl, .inr ⟨rfl, by omega, by omega⟩, by simp [Ch.depth], rfl⟩ (fun j hj => ?_) HBp.out (leaf5_at wr p (by have := HN.out; omega))).mono ?_
                · have := HRK.out.1 j
                  omega
                · rintro e w' ⟨⟨v, h1, h2, -⟩, h4⟩
                  rw [hwd] at h2
                  exact ⟨⟨v, h1, h2⟩, h4⟩
              have e0 : (0 : Int) ≤ (p : Int) := by omega
              have e1 : (p : Int) < (q : Int) := by omega
              have e2 : (p : Int) ≤ 1000 := by have := HN.out; omega
              clear h3 hsub hwd
              by_cases h16 : 16 < tw ss p
              · have CF2 : Hid (Calls Tryd.prog 75 #[.slice a q cap, tyV 5 false 0 (p : Int) none 0 0] wr fun e w' => (∃ v : Nat, e = .returned (.int .i64 (v : Int)) ∧ 16 < (v : Int)) ∧ Below wr.heap.size wr w') := CF.out.mono fun e w' k => ⟨by obtain ⟨v, h1, h2⟩ := k.1; exact ⟨v, h1, by have := h2.2 h16; omega⟩, k.2⟩
                have hsf : so = false := by
                  cases hs : so with
                  | false => rfl
                  | true =>
                    have := (HSO.out.1 hs).2.2.2 p hlp
                    rw [H3.out.2 h16] at this
                    cases this
                subst hsf
                clear CF h16
                go_wp2_with (go_at_call 75; refine CF2.out.mono ?_; rintro e w1 ⟨⟨v, rfl, hv⟩, hb1⟩)
                go_ret
                exact ⟨rfl, below_aft HBp.out hb1⟩
              · have CF2 : Hid (Calls Tryd.prog 75 #[.slice a q cap, tyV 5 false 0 (p : Int) none 0 0] wr fun e w' => (∃ v : Nat, e = .returned (.int .i64 (v : Int)) ∧ ¬ 16 < (v : Int)) ∧ Below wr.heap.size wr w') := CF.out.mono fun e w' k => ⟨by obtain ⟨v, h1, h2⟩ := k.1; exact ⟨v, h1, by have := h2.1 (by omega); omega⟩, k.2⟩
                have HBF : Hid (b3 p = false) := by
                  cases hs : b3 p with
                  | false => rfl
                  | true => exact absurd (H3.out.1 hs) h16
                clear CF h16
                go_wp2_with (go_at_call 75; refine CF2.out.mono ?_; rintro e w1 ⟨⟨v, rfl, hv⟩, hb1⟩)
                refine ⟨⟨p + 1, hlp, rfl, fun j hj => ?_, below_aft HBp.out hb1⟩, ?_⟩
                · by_cases e : j = p
                  · subst e; exact HBF.out
                  · exact HAP.out j (by omega)
                · show q - ((p : Int) + 1).toNat < q - (p : Int).toNat
                  omega
            · obtain rfl : p = q := by omega
              have z3 : ¬ ((p : Int) < (p : Int)) := by omega
              have hst : so = true := HSO.out.2 ⟨by have := HN.out; omega, fun j hj => HALL.out j hj, fun j hj => HAQ.out j hj, fun j hj => HAP.out j hj⟩
              subst hst
              go_wp2_with fail
              go_ret
              exact ⟨rfl, HBp.out⟩
set_option maxRecDepth 100000 in
set_option maxHeartbeats 4000000 in
/-- The reference's Types. -/
theorem rTypes_any {w : World} {a la : Option Addr} {n cap ln lcap : Nat} {ss : List (List Ty)} {ts : List Ty} (h : StAt w a n cap ss) (hl : LcAt w la ln lcap ts) {b1 b2 b3 : Nat → Bool} (hb : Flt ss b1 b2 b3) (ok : Bool) (hok : ok = mayL n (decide ((stRes n b1 b2 b3).2 = 0)) ts) :
    Calls Tryd.prog 40 #[.slice a n cap, .slice la ln lcap] w fun e w' => e = .returned (.bool ok) ∧ Below w.heap.size w w' := by
  obtain ⟨so, hso⟩ : ∃ so, so = decide ((stRes n b1 b2 b3).2 = 0) := ⟨_, rfl⟩
  have C60 : Hid (Calls Tryd.prog 60 #[.slice a n cap] w fun e w' => e = .returned (.bool so) ∧ Below w.heap.size w w') := rStructs_any a n cap ss w h b1 b2 b3 hb so hso
  rw [← hso] at hok
  have hok2 : ok = true ↔ so = true ∧ ∀ t ∈ ts, mayB n 48 t = true := by rw [hok]; exact mayL_iff
  have hln : ln = ts.length := hl.len
  have HLT := hidD hl
  have HLN := hidD hln
  have HOK := hidD hok2
  have hbig : ln ≤ 9223372036854775807 := by have := hl.big; unfold maxLen at this; omega
  have HBIG := hidD hbig
  clear h hl hb hok hok2 hln hso hbig
  cases so with
  | false =>
    have e : ok = false := by
      cases ho : ok with
      | false => rfl
      | true => have := (HOK.out.1 ho).1; cases this
    subst e
    go_enter Tryd.func40, Tryd.ntmps40
    go_wp2_with (go_at_call 60; refine C60.out.mono ?_; rintro e w1 ⟨rfl, hb1⟩)
    go_ret
    exact ⟨rfl, hb1⟩
  | true =>
    go_enter Tryd.func40, Tryd.ntmps40
    go_wp2_with (go_at_call 60; refine C60.out.mono ?_; rintro e w1 ⟨rfl, hb1⟩; have HB1 := hidD hb1; clear hb1)
    go_loopw [5] (fun v V => ∃ j : Nat, j ≤ ln ∧ v = .int .i64 (j : Int) ∧ (∀ (j' : Nat) (t : Ty), j' < j → ts[j']? = some t → mayB n 48 t = true) ∧ Below w.heap.size w V) (fun v _ => ln - (intOf v).toNat)
    case atStart => exact ⟨0, Nat.zero_le _, rfl, fun j' t hj => by omega, HB1.out⟩
    case round =>
      obtain ⟨j, hj, rfl, hall, hBj⟩ := hrel
      have HAJ := hidD hall
      have HBj := hidD hBj
      have HLj := hidD (HLT.out.bel hBj)
      clear hall hBj
      by_cases hlj : j < ln
      · obtain ⟨t, ht⟩ : ∃ t, ts[j]? = some t := ⟨_, List.getElem?_eq_getElem (by have := HLN.out; omega)⟩
        obtain ⟨g1, off, V, hag, hV5, hVt⟩ := HLj.out.one ht
        have HTT := hidD ht
        obtain ⟨bt, hbt⟩ : ∃ bt, bt = mayB n 48 t := ⟨_, rfl⟩
        have HBT := hidD hbt
        have CF : Hid (Calls Tryd.prog 61 #[V.v, .int .i64 n, .int .i64 48, .bool true] wr fun e w' => e = .returned (.bool bt) ∧ Below wr.heap.size wr w') := by rw [hbt, ← mayR_true]; exact rmay_any true n 48 (Nat.le_refl _) t V wr 48 rfl hVt
        obtain ⟨hl5, p0, p1, p2, p3, p4⟩ := hV5
        subst hag
        have e0 : (0 : Int) ≤ (j : Int) := by omega
        have e1 : (j : Int) < (ln : Int) := by omega
        have e2 : (j : Int) + 1 ≤ 9223372036854775807 := by have := HBIG.out; omega
        clear hVt ht hbt
        cases bt with
        | true =>
          go_wp2_with (go_at_call 61; refine CF.out.mono ?_; rintro e w2 ⟨rfl, hb2⟩)
          refine ⟨⟨j + 1, hlj, rfl, fun k' t' hk' ht' => ?_, below_aft HBj.out hb2⟩, ?_⟩
          · by_cases e : k' = j
            · subst e
              rw [HTT.out] at ht'
              cases ht'
              exact HBT.out.symm
            · exact HAJ.out k' t' (by omega) ht'
          · show ln - ((j : Int) + 1).toNat < ln - (j : Int).toNat
            omega
        | false =>
          have e : ok = false := by
            cases ho : ok with
            | false => rfl
            | true =>
              have := (HOK.out.1 ho).2 t (List.mem_of_getElem? HTT.out)
              rw [← HBT.out] at this
              cases this
          subst e
          go_wp2_with (go_at_call 61; refine CF.out.mono ?_; rintro e w2 ⟨rfl, hb2⟩)
          go_ret
          exact ⟨rfl, below_aft HBj.out hb2⟩
      · obtain rfl : j = ln := by omega
        have z2 : ¬ ((j : Int) < (j : Int)) := by omega
        have e : ok = true := HOK.out.2 ⟨by first | rfl | trivial, fun t ht => by
          obtain ⟨k', hk'⟩ := List.mem_iff_getElem?.1 ht
          exact HAJ.out k' t (by have := (List.getElem?_eq_some_iff.1 hk').1; have := HLN.out; omega) hk'⟩
        subst e
        go_wp2_with fail
        go_ret
        exact ⟨rfl, HBj.out⟩
end Go.Proofs.YtnohcppipkpgmaaDoor
