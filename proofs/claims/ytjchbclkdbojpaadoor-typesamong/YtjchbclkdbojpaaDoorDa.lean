import Derived.Test.YtjchbclkdbojpaaDoorE
import Derived.Test.YtjchbclkdbojpaaDoorH
import Derived.OwnWalk
namespace Go.Proofs.YtjchbclkdbojpaaDoor
open Go.RowKit
set_option linter.unusedVariables false
set_option linter.unusedSimpArgs false

theorem hidD {p : Prop} (h : p) : Hid p := h
/-- Fields in memory: their types. -/
def FdAt (w : World) (fa : Option Addr) (fs : List Ty) : Prop := fs.length ≤ maxLen ∧ (fs ≠ [] → ∃ g off, fa = some ⟨g, off, none⟩ ∧ ∀ k t, fs[k]? = some t → ∃ (V : Fv) (nm : ByteArray), w.cell? ⟨g, off + k * 6, none⟩ = some (.string nm) ∧ C5 w g (off + k * 6 + 1) V ∧ TyAt w V t)
theorem FdAt.bel {w w' : World} {fa : Option Addr} {fs : List Ty} (h : FdAt w fa fs) (hb : Below w.heap.size w w') : FdAt w' fa fs :=
  ⟨h.1, fun hne => by
    obtain ⟨g, off, e, hk⟩ := h.2 hne
    refine ⟨g, off, e, fun k t ht => ?_⟩
    obtain ⟨V, nm, h0, h1, h2⟩ := hk k t ht
    exact ⟨V, nm, (hb.cell (p := ⟨g, off + k * 6, none⟩) h1.1).trans h0, h1.below hb, h2.bel hb⟩⟩
/-- Structs in memory: their fields' types. -/
structure StAt (w : World) (a : Option Addr) (n cap : Nat) (ss : List (List Ty)) : Prop where
  len : n = ss.length
  big : n ≤ maxLen
  cells : ss ≠ [] → ∃ g off, a = some ⟨g, off, none⟩ ∧ g < w.heap.size ∧ ∀ i fs, ss[i]? = some fs → ∃ fa fcap, w.cell? ⟨g, off + i * 2 + 1, none⟩ = some (.slice fa fs.length fcap) ∧ FdAt w fa fs
theorem StAt.bel {w w' : World} {a : Option Addr} {n cap : Nat} {ss : List (List Ty)} (h : StAt w a n cap ss) (hb : Below w.heap.size w w') : StAt w' a n cap ss :=
  ⟨h.len, h.big, fun hne => by
    obtain ⟨g, off, e, hg, hk⟩ := h.cells hne
    refine ⟨g, off, e, Nat.lt_of_lt_of_le hg hb.size, fun i fs hi => ?_⟩
    obtain ⟨fa, fcap, h1, h2⟩ := hk i fs hi
    exact ⟨fa, fcap, (hb.cell (p := ⟨g, off + i * 2 + 1, none⟩) hg).trans h1, h2.bel hb⟩⟩
/-- One struct of them. -/
theorem StAt.one {w : World} {a : Option Addr} {n cap : Nat} {ss : List (List Ty)} (h : StAt w a n cap ss) {i : Nat} {fs : List Ty} (hi : ss[i]? = some fs) : ∃ g off fa fcap, a = some ⟨g, off, none⟩ ∧ g < w.heap.size ∧ w.cell? ⟨g, off + i * 2 + 1, none⟩ = some (.slice fa fs.length fcap) ∧ FdAt w fa fs := by
  obtain ⟨g, off, e, hg, hk⟩ := h.cells (fun e => by subst e; simp at hi)
  obtain ⟨fa, fcap, h1, h2⟩ := hk i fs hi
  exact ⟨g, off, fa, fcap, e, hg, h1, h2⟩
def FitS (a : Option Addr) (n cap : Nat) (b : Bool) (w : World) : Prop := ∀ W, Below w.heap.size w W → Calls Tryd.prog 9 #[.slice a n cap] W fun e w' => e = .returned (.bool b) ∧ Below W.heap.size W w'
set_option maxRecDepth 100000 in
set_option maxHeartbeats 4000000 in
theorem fitS_ex (a : Option Addr) (n cap : Nat) (ss : List (List Ty)) (w : World) (h : StAt w a n cap ss) : ∃ b, FitS a n cap b w ∧ (b = true → n ≤ 100 ∧ ∀ fs ∈ ss, fs.length ≤ 100) := by
  by_cases hn : 100 < n
  · refine ⟨false, fun W hW => ?_, fun e => by cases e⟩
    have k1 : (100 : Int) < (n : Int) := by omega
    clear h
    go_enter Tryd.func9, Tryd.ntmps9
    go_wp2_with fail
    go_ret
    exact ⟨rfl, Below.refl _ _⟩
  have hs : ∀ t : Ty, ∃ b, FitC 60 t b := fun t => fits_ex 60 60 rfl (by decide) t
  obtain ⟨bs, hbs⟩ : ∃ bs : Ty → Bool, ∀ t, FitC 60 t (bs t) := ⟨fun t => Classical.choose (hs t), fun t => Classical.choose_spec (hs t)⟩
  obtain ⟨b, hb⟩ : ∃ b : Bool, b = true ↔ ∀ (i : Nat) (fs : List Ty), ss[i]? = some fs → fs.length ≤ 100 ∧ ∀ t ∈ fs, bs t = true := by
    by_cases hh : ∀ (i : Nat) (fs : List Ty), ss[i]? = some fs → fs.length ≤ 100 ∧ ∀ t ∈ fs, bs t = true
    · exact ⟨true, by simpa using hh⟩
    · exact ⟨false, by simpa using hh⟩
  refine ⟨b, fun W hW => ?_, fun e => ⟨by omega, fun fs hf => by obtain ⟨i, hi⟩ := List.mem_iff_getElem?.1 hf; exact (hb.1 e i fs hi).1⟩⟩
  have k1 : ¬ (100 : Int) < (n : Int) := by omega
  have HS := hidD hbs
  have HB := hidD hb
  have HT := hidD (h.bel hW)
  have hln : n = ss.length := h.len
  have HLN := hidD hln
  clear hbs hb h hW hs hln
  go_enter Tryd.func9, Tryd.ntmps9
  go_wp2_with fail
  go_loopw [3] (fun v V => ∃ i : Nat, i ≤ n ∧ v = .int .i64 i ∧ (∀ (i' : Nat) (fs : List Ty), i' < i → ss[i']? = some fs → fs.length ≤ 100 ∧ ∀ t ∈ fs, bs t = true) ∧ Below W.heap.size W V) (fun v _ => n - (intOf v).toNat)
  case atStart => exact ⟨0, Nat.zero_le _, rfl, fun i' fs hi => by omega, Below.refl _ _⟩
  case round =>
    obtain ⟨i, hi, rfl, hall, hBV⟩ := hrel
    obtain ⟨wo, rfl⟩ : ∃ wo, wo = wr := ⟨_, rfl⟩
    have HALL := hidD hall
    have HBV := hidD hBV
    have HV := hidD (HT.out.bel hBV)
    clear hall hBV
    by_cases hlt : i < n
    · obtain ⟨fs, hfs⟩ : ∃ fs, ss[i]? = some fs := ⟨_, List.getElem?_eq_getElem (by have := HLN.out; omega)⟩
      obtain ⟨g, off, fa, fcap, hag, hg, hcell, hF⟩ := HV.out.one hfs
      have HF := hidD hF
      have HFS := hidD hfs
      subst hag
      have j0 : (0 : Int) ≤ (i : Int) := by omega
      have j1 : (i : Int) < (n : Int) := by omega
      have j2 : (i : Int) ≤ 1000 := by omega
      obtain ⟨m, hm⟩ : ∃ m, m = fs.length := ⟨_, rfl⟩
      have HM := hidD hm
      rw [← hm] at hcell
      clear hF hfs hm
      by_cases hm1 : 100 < m
      · have k2 : (100 : Int) < (m : Int) := by omega
        go_wp2_with fail
        go_ret
        refine ⟨?_, HBV.out⟩
        cases hb : b with
        | false => rfl
        | true =>
          have := (HB.out.1 hb i fs HFS.out).1
          have := HM.out
          omega
      · have k2 : ¬ (100 : Int) < (m : Int) := by omega
        go_wp2_with fail
        go_loopw [4] (fun v V => ∃ k : Nat, k ≤ m ∧ v = .int .i64 k ∧ (∀ k' t, k' < k → fs[k']? = some t → bs t = true) ∧ Below wo.heap.size wo V) (fun v _ => m - (intOf v).toNat)
        case atStart => exact ⟨0, Nat.zero_le _, rfl, fun k' t hk => by omega, Below.refl _ _⟩
        case round =>
          obtain ⟨k, hk, rfl, hall, hBk⟩ := hrel
          have HAK := hidD hall
          have HBk := hidD hBk
          have HFk := hidD (HF.out.bel hBk)
          have hc2 : wr.cell? ⟨g, off + i * 2 + 1, none⟩ = some (.slice fa m fcap) := (hBk.cell (p := ⟨g, off + i * 2 + 1, none⟩) hg).trans hcell
          have hg2 : g < wr.heap.size := Nat.lt_of_lt_of_le hg hBk.size
          clear hall hBk
          by_cases hlk : k < m
          · obtain ⟨t, ht⟩ : ∃ t, fs[k]? = some t := ⟨_, List.getElem?_eq_getElem (by have := HM.out; omega)⟩
            obtain ⟨g', off', hfa, hkk⟩ := HFk.out.2 (fun e => by subst e; simp at ht)
            obtain ⟨V, nm, -, hV5, hVt⟩ := hkk k t ht
            have HTT := hidD ht
            have CF : Hid (Calls Tryd.prog 10 #[V.v, .int .i64 60] wr fun e w' => e = .returned (.bool (bs t)) ∧ Below wr.heap.size wr w') := HS.out t V wr hVt
            obtain ⟨hl5, p0, p1, p2, p3, p4⟩ := hV5
            subst hfa
            have e0 : (0 : Int) ≤ (k : Int) := by omega
            have e1 : (k : Int) < (m : Int) := by omega
            have e2 : (k : Int) ≤ 1000 := by omega
            clear hkk hVt ht
            cases hbt : bs t with
            | true =>
              rw [hbt] at CF
              go_wp2_with (go_at_call 10; refine CF.out.mono ?_; rintro e w1 ⟨rfl, hb1⟩)
              refine ⟨⟨k + 1, hlk, rfl, fun k' t' hk' ht' => ?_, below_aft HBk.out hb1⟩, ?_⟩
              · by_cases e : k' = k
                · subst e
                  rw [HTT.out] at ht'
                  cases ht'
                  exact hbt
                · exact HAK.out k' t' (by omega) ht'
              · show m - ((k : Int) + 1).toNat < m - (k : Int).toNat
                omega
            | false =>
              rw [hbt] at CF
              go_wp2_with (go_at_call 10; refine CF.out.mono ?_; rintro e w1 ⟨rfl, hb1⟩)
              go_ret
              refine ⟨?_, below_aft (below_aft HBV.out HBk.out) hb1⟩
              cases hb : b with
              | false => rfl
              | true =>
                have := (HB.out.1 hb i fs HFS.out).2 t (List.mem_of_getElem? HTT.out)
                rw [hbt] at this
                cases this
          · obtain rfl : k = m := by omega
            have z1 : ¬ ((k : Int) < (k : Int)) := by omega
            go_wp2_with fail
            refine ⟨⟨i + 1, hlt, rfl, fun i' fs' hi' hfs' => ?_, below_aft HBV.out HBk.out⟩, ?_⟩
            · by_cases e : i' = i
              · subst e
                rw [HFS.out] at hfs'
                cases hfs'
                refine ⟨by have := HM.out; omega, fun t ht => ?_⟩
                obtain ⟨k', hk'⟩ := List.mem_iff_getElem?.1 ht
                exact HAK.out k' t (by have := (List.getElem?_eq_some_iff.1 hk').1; have := HM.out; omega) hk'
              · exact HALL.out i' fs' (by omega) hfs'
            · show n - ((i : Int) + 1).toNat < n - (i : Int).toNat
              omega
    · obtain rfl : i = n := by omega
      have z1 : ¬ ((i : Int) < (i : Int)) := by omega
      go_wp2_with fail
      go_ret
      have hb1 : b = true := HB.out.2 (fun i' fs hi' => HALL.out i' fs (by have := (List.getElem?_eq_some_iff.1 hi').1; have := HLN.out; omega) hi')
      rw [hb1]
      exact ⟨rfl, HBV.out⟩
end Go.Proofs.YtjchbclkdbojpaaDoor
