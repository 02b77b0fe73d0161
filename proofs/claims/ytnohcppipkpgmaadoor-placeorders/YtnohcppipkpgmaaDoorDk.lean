import Derived.Test.YtnohcppipkpgmaaDoorDe
import Derived.Test.YtnohcppipkpgmaaDoorShelf

namespace Go.Proofs.YtnohcppipkpgmaaDoor
open Go.RowKit Go.Shelf
set_option linter.unusedVariables false
set_option linter.unusedSimpArgs false

/-- What is wrong with each struct. -/
structure Flt (ss : List (List Ty)) (b1 b2 b3 : Nat → Bool) : Prop where
  h1 : ∀ (i : Nat) (fs : List Ty), ss[i]? = some fs → (b1 i = true ↔ ¬ (1 ≤ fs.length ∧ fs.length ≤ 8 ∧ ∀ t ∈ fs, PlainT ss.length t))
  h2 : ∀ i, b2 i = true ↔ Stn ss i i
  h3 : ∀ i, b3 i = true ↔ 16 < tw ss i
theorem flt_ex (ss : List (List Ty)) : ∃ b1 b2 b3, Flt ss b1 b2 b3 := by
  have dec : ∀ p : Prop, Decidable p := fun p => Classical.propDecidable p
  exact ⟨fun i => decide (¬ (1 ≤ (fld ss i).length ∧ (fld ss i).length ≤ 8 ∧ ∀ t ∈ fld ss i, PlainT ss.length t)), fun i => decide (Stn ss i i), fun i => decide (16 < tw ss i),
    ⟨fun i fs h => by rw [← fld_of h]; exact decide_eq_true_iff, fun i => decide_eq_true_iff, fun i => decide_eq_true_iff⟩⟩
theorem Flt.fine {ss : List (List Ty)} {b1 b2 b3 : Nat → Bool} (h : Flt ss b1 b2 b3) (h1 : ∀ i, i < ss.length → b1 i = false) : Fine ss := fun i fs hi => by
  have hl := (List.getElem?_eq_some_iff.1 hi).1
  rcases Classical.em (1 ≤ fs.length ∧ fs.length ≤ 8 ∧ ∀ t ∈ fs, PlainT ss.length t) with h' | h'
  · exact h'
  · have := (h.h1 i fs hi).2 h'
    rw [h1 i hl] at this
    cases this
theorem Flt.rank {ss : List (List Ty)} {b1 b2 b3 : Nat → Bool} (h : Flt ss b1 b2 b3) (hF : Fine ss) (h2 : ∀ i, i < ss.length → b2 i = false) : ∃ rk, Rank ss rk :=
  rank_ex hF.lt (fun i hi hs => by have := (h.h2 i).2 hs; rw [h2 i hi] at this; cases this)
theorem stRes_big {n : Nat} {b1 b2 b3 : Nat → Bool} (h : 32 < n) : stRes n b1 b2 b3 = (32, 2) := by unfold stRes; rw [if_pos h]
theorem stRes_1 {n i : Nat} {b1 b2 b3 : Nat → Bool} (h : ¬ 32 < n) (hi : i < n) (hb : b1 i = true) (hb' : ∀ j, j < i → b1 j = false) : stRes n b1 b2 b3 = (i, 2) := by
  unfold stRes; rw [if_neg h, fstB_some hi hb hb']
theorem stRes_2 {n i : Nat} {b1 b2 b3 : Nat → Bool} (h : ¬ 32 < n) (h1 : ∀ j, j < n → b1 j = false) (hi : i < n) (hb : b2 i = true) (hb' : ∀ j, j < i → b2 j = false) : stRes n b1 b2 b3 = (i, 2) := by
  unfold stRes; rw [if_neg h, fstB_none h1, fstB_some hi hb hb']
theorem stRes_3 {n i : Nat} {b1 b2 b3 : Nat → Bool} (h : ¬ 32 < n) (h1 : ∀ j, j < n → b1 j = false) (h2 : ∀ j, j < n → b2 j = false) (hi : i < n) (hb : b3 i = true) (hb' : ∀ j, j < i → b3 j = false) : stRes n b1 b2 b3 = (i, 2) := by
  unfold stRes; rw [if_neg h, fstB_none h1, fstB_none h2, fstB_some hi hb hb']
theorem stRes_0 {n : Nat} {b1 b2 b3 : Nat → Bool} (h : ¬ 32 < n) (h1 : ∀ j, j < n → b1 j = false) (h2 : ∀ j, j < n → b2 j = false) (h3 : ∀ j, j < n → b3 j = false) : stRes n b1 b2 b3 = (0, 0) := by
  unfold stRes; rw [if_neg h, fstB_none h1, fstB_none h2, fstB_none h3]
theorem stRes_ok {n : Nat} {b1 b2 b3 : Nat → Bool} (h : (stRes n b1 b2 b3).2 = 0) : ¬ 32 < n ∧ (∀ j, j < n → b1 j = false) ∧ (∀ j, j < n → b2 j = false) ∧ (∀ j, j < n → b3 j = false) ∧ stRes n b1 b2 b3 = (0, 0) := by
  unfold stRes at h ⊢
  split at h
  · cases h
  · rename_i hn
    cases e1 : fstB b1 n with
    | some i => rw [e1] at h; cases h
    | none =>
      cases e2 : fstB b2 n with
      | some i => rw [e1, e2] at h; cases h
      | none =>
        cases e3 : fstB b3 n with
        | some i => rw [e1, e2, e3] at h; cases h
        | none => exact ⟨hn, fstB_no e1, fstB_no e2, fstB_no e3, by rw [if_neg hn]⟩
theorem stRes_e (n : Nat) (b1 b2 b3 : Nat → Bool) : (stRes n b1 b2 b3).2 = 0 ∨ (stRes n b1 b2 b3).2 = 2 := by
  unfold stRes
  split
  · exact .inr rfl
  · cases fstB b1 n with
    | some i => exact .inr rfl
    | none =>
      cases fstB b2 n with
      | some i => exact .inr rfl
      | none =>
        cases fstB b3 n with
        | some i => exact .inr rfl
        | none => exact .inl rfl
abbrev fnV (n : Nat) : Value := .func (.func n) #[] #[]
abbrev fnO : Obj := .cells #[fnV 80, fnV 81, fnV 82] 122
set_option maxRecDepth 100000 in
set_option maxHeartbeats 4000000 in
/-- Structs (12): which struct is at fault, or none. -/
theorem Structs_any (a : Option Addr) (n cap : Nat) (ss : List (List Ty)) (w : World) (h : StAt w a n cap ss) (b1 b2 b3 : Nat → Bool) (hb : Flt ss b1 b2 b3) :
    Calls Tryd.prog 68 #[.slice a n cap] w fun e w' => e = .returned (.tuple #[.int .i64 ((stRes n b1 b2 b3).1 : Int), .int .i64 ((stRes n b1 b2 b3).2 : Int)]) ∧ Below w.heap.size w w' := by
  by_cases hn : 32 < n
  · rw [stRes_big hn]
    have k1 : (32 : Int) < (n : Int) := by omega
    clear h hb
    go_enter Tryd.func68, Tryd.ntmps68
    go_wp2_with fail
    go_ret2
    exact ⟨rfl, Below.refl _ _⟩
  have k1 : ¬ (32 : Int) < (n : Int) := by omega
  obtain ⟨R, hR⟩ : ∃ R, R = stRes n b1 b2 b3 := ⟨_, rfl⟩
  rw [← hR]
  have HR := hidD hR
  have HN := hidD hn
  have hlen : n = ss.length := h.len
  have HLN := hidD hlen
  have C1 : Hid (∀ W i, Below w.heap.size w W → i < n → ∀ x, x = b1 i → Calls Tryd.prog 80 #[.slice a n cap, .int .i64 (i : Int)] W fun e w' => e = .returned (.bool x) ∧ Below W.heap.size W w') := hidD (fun W i hW hi x hx => by
    obtain ⟨fs, hfs⟩ : ∃ fs, ss[i]? = some fs := ⟨_, List.getElem?_eq_getElem (by omega)⟩
    exact wrong_any a n cap ss W (h.bel hW) (by omega) i fs hfs x (by rw [hx, hlen]; exact hb.h1 i fs hfs))
  have C2 : Hid ((∀ j, j < n → b1 j = false) → ∀ W i, Below w.heap.size w W → i < n → ∀ x, x = b2 i → Calls Tryd.prog 81 #[.slice a n cap, .int .i64 (i : Int)] W fun e w' => e = .returned (.bool x) ∧ Below W.heap.size W w') := hidD (fun h1 W i hW hi x hx => endless_any a n cap ss W (h.bel hW) (by omega) (hb.fine (fun j hj => h1 j (by omega))) i hi x (by rw [hx]; exact hb.h2 i))
  have C3 : Hid ((∀ j, j < n → b1 j = false) → (∀ j, j < n → b2 j = false) → ∀ W i, Below w.heap.size w W → i < n → ∀ x, x = b3 i → Calls Tryd.prog 82 #[.slice a n cap, .int .i64 (i : Int)] W fun e w' => e = .returned (.bool x) ∧ Below W.heap.size W w') := hidD (fun h1 h2 W i hW hi x hx => by
    have hF := hb.fine (fun j hj => h1 j (by omega))
    obtain ⟨rk, hr⟩ := hb.rank hF (fun j hj => h2 j (by omega))
    exact large_any a n cap ss W (h.bel hW) (by omega) hF rk hr i hi x (by rw [hx]; exact hb.h3 i))
  clear h hb hR hn hlen
  go_enter Tryd.func68, Tryd.ntmps68
  go_wp2_with fail
  go_loopw [12] (fun i W => ∃ k : Nat, k ≤ 3 ∧ i = .int .i64 k ∧ (1 ≤ k → ∀ j, j < n → b1 j = false) ∧ (2 ≤ k → ∀ j, j < n → b2 j = false) ∧ (3 ≤ k → ∀ j, j < n → b3 j = false) ∧ Below w.heap.size w W ∧ At W w.heap.size fnO) (fun i _ => 3 - (intOf i).toNat)
  case atStart => exact ⟨0, by omega, rfl, by omega, by omega, by omega, belA (Below.refl _ _), At.new _ _⟩
  case round =>
    obtain ⟨k, hk, rfl, hk1, hk2, hk3, hB, hA⟩ := hrel
    have H1 := hidD hk1
    have H2 := hidD hk2
    have H3 := hidD hk3
    have HB := hidD hB
    have HA := hidD hA
    obtain ⟨wo, rfl⟩ : ∃ wo, wo = wr := ⟨_, rfl⟩
    have hlw := hA.lt
    unfold At at hA
    have c0 : wo.cell? ⟨w.heap.size, 0, none⟩ = some (fnV 80) := by simp [World.cell?, hA]
    have c1 : wo.cell? ⟨w.heap.size, 1, none⟩ = some (fnV 81) := by simp [World.cell?, hA]
    have c2 : wo.cell? ⟨w.heap.size, 2, none⟩ = some (fnV 82) := by simp [World.cell?, hA]
    clear hA hB hk1 hk2 hk3
    have hk3 : k = 0 ∨ k = 1 ∨ k = 2 ∨ k = 3 := by omega
    rcases hk3 with rfl | rfl | rfl | rfl
    · rw [show ((0 : Nat) : Int) = (0 : Int) from rfl]
      go_wp2_with fail
      go_loopw [18] (fun v V => ∃ i : Nat, i ≤ n ∧ v = .int .i64 i ∧ (∀ j, j < i → b1 j = false) ∧ Below wo.heap.size wo V) (fun v _ => n - (intOf v).toNat)
      case atStart => exact ⟨0, Nat.zero_le _, rfl, fun j hj => by omega, Below.refl _ _⟩
      case round =>
        obtain ⟨i, hi, rfl, hall, hBi⟩ := hrel
        have HALL := hidD hall
        have HBi := hidD hBi
        have HBw := hidD (below_aft HB.out hBi)
        clear hall hBi
        by_cases hlt : i < n
        · have j1 : (i : Int) < (n : Int) := by omega
          have j2 : (i : Int) ≤ 1000 := by have := HN.out; omega
          cases hx : b1 i with
          | true =>
            have CC := hidD (C1.out wr i HBw.out hlt true hx.symm)
            have HRR := hidD (HR.out.trans (stRes_1 HN.out hlt hx HALL.out))
            go_wp2_with (go_at_call 80; refine CC.out.mono ?_; rintro e w1 ⟨rfl, hb1⟩)
            go_ret2
            rw [HRR.out]
            exact ⟨rfl, below_aft HBw.out hb1⟩
          | false =>
            have CC := hidD (C1.out wr i HBw.out hlt false hx.symm)
            have HXF := hidD hx
            clear hx
            go_wp2_with (go_at_call 80; refine CC.out.mono ?_; rintro e w1 ⟨rfl, hb1⟩)
            refine ⟨⟨i + 1, hlt, by go_num, fun j hj => ?_, below_aft HBi.out hb1⟩, ?_⟩
            · by_cases e : j = i
              · subst e; exact HXF.out
              · exact HALL.out j (by omega)
            · show n - ((i : Int) + 1).toNat < n - (i : Int).toNat
              omega
        · obtain rfl : i = n := by omega
          have z1 : ¬ ((i : Int) < (i : Int)) := by omega
          go_wp2_with fail
          exact ⟨⟨1, by omega, by go_num, fun _ => HALL.out, fun h => by omega, fun h => by omega, HBw.out, HA.out.below HBi.out⟩, by simp [intOf]⟩
    · rw [show ((1 : Nat) : Int) = (1 : Int) from rfl]
      go_wp2_with fail
      go_loopw [18] (fun v V => ∃ i : Nat, i ≤ n ∧ v = .int .i64 i ∧ (∀ j, j < i → b2 j = false) ∧ Below wo.heap.size wo V) (fun v _ => n - (intOf v).toNat)
      case atStart => exact ⟨0, Nat.zero_le _, rfl, fun j hj => by omega, Below.refl _ _⟩
      case round =>
        obtain ⟨i, hi, rfl, hall, hBi⟩ := hrel
        have HALL := hidD hall
        have HBi := hidD hBi
        have HBw := hidD (below_aft HB.out hBi)
        clear hall hBi
        by_cases hlt : i < n
        · have j1 : (i : Int) < (n : Int) := by omega
          have j2 : (i : Int) ≤ 1000 := by have := HN.out; omega
          cases hx : b2 i with
          | true =>
            have CC := hidD (C2.out (H1.out (by omega)) wr i HBw.out hlt true hx.symm)
            have HRR := hidD (HR.out.trans (stRes_2 HN.out (H1.out (by omega)) hlt hx HALL.out))
            go_wp2_with (go_at_call 81; refine CC.out.mono ?_; rintro e w1 ⟨rfl, hb1⟩)
            go_ret2
            rw [HRR.out]
            exact ⟨rfl, below_aft HBw.out hb1⟩
          | false =>
            have CC := hidD (C2.out (H1.out (by omega)) wr i HBw.out hlt false hx.symm)
            have HXF := hidD hx
            clear hx
            go_wp2_with (go_at_call 81; refine CC.out.mono ?_; rintro e w1 ⟨rfl, hb1⟩)
            refine ⟨⟨i + 1, hlt, by go_num, fun j hj => ?_, below_aft HBi.out hb1⟩, ?_⟩
            · by_cases e : j = i
              · subst e; exact HXF.out
              · exact HALL.out j (by omega)
            · show n - ((i : Int) + 1).toNat < n - (i : Int).toNat
              omega
        · obtain rfl : i = n := by omega
          have z1 : ¬ ((i : Int) < (i : Int)) := by omega
          go_wp2_with fail
          exact ⟨⟨2, by omega, by go_num, fun _ => H1.out (by omega), fun _ => HALL.out, fun h => by omega, HBw.out, HA.out.below HBi.out⟩, by simp [intOf]⟩
    · rw [show ((2 : Nat) : Int) = (2 : Int) from rfl]
      go_wp2_with fail
      go_loopw [18] (fun v V => ∃ i : Nat, i ≤ n ∧ v = .int .i64 i ∧ (∀ j, j < i → b3 j = false) ∧ Below wo.heap.size wo V) (fun v _ => n - (intOf v).toNat)
      case atStart => exact ⟨0, Nat.zero_le _, rfl, fun j hj => by omega, Below.refl _ _⟩
      case round =>
        obtain ⟨i, hi, rfl, hall, hBi⟩ := hrel
        have HALL := hidD hall
        have HBi := hidD hBi
        have HBw := hidD (below_aft HB.out hBi)
        clear hall hBi
        by_cases hlt : i < n
        · have j1 : (i : Int) < (n : Int) := by omega
          have j2 : (i : Int) ≤ 1000 := by have := HN.out; omega
          cases hx : b3 i with
          | true =>
            have CC := hidD (C3.out (H1.out (by omega)) (H2.out (by omega)) wr i HBw.out hlt true hx.symm)
            have HRR := hidD (HR.out.trans (stRes_3 HN.out (H1.out (by omega)) (H2.out (by omega)) hlt hx HALL.out))
            go_wp2_with (go_at_call 82; refine CC.out.mono ?_; rintro e w1 ⟨rfl, hb1⟩)
            go_ret2
            rw [HRR.out]
            exact ⟨rfl, below_aft HBw.out hb1⟩
          | false =>
            have CC := hidD (C3.out (H1.out (by omega)) (H2.out (by omega)) wr i HBw.out hlt false hx.symm)
            have HXF := hidD hx
            clear hx
            go_wp2_with (go_at_call 82; refine CC.out.mono ?_; rintro e w1 ⟨rfl, hb1⟩)
            refine ⟨⟨i + 1, hlt, by go_num, fun j hj => ?_, below_aft HBi.out hb1⟩, ?_⟩
            · by_cases e : j = i
              · subst e; exact HXF.out
              · exact HALL.out j (by omega)
            · show n - ((i : Int) + 1).toNat < n - (i : Int).toNat
              omega
        · obtain rfl : i = n := by omega
          have z1 : ¬ ((i : Int) < (i : Int)) := by omega
          go_wp2_with fail
          exact ⟨⟨3, by omega, by go_num, fun _ => H1.out (by omega), fun _ => H2.out (by omega), fun _ => HALL.out, HBw.out, HA.out.below HBi.out⟩, by simp [intOf]⟩
    · have HRR := hidD (HR.out.trans (stRes_0 HN.out (H1.out (by omega)) (H2.out (by omega)) (H3.out (by omega))))
      go_wp2_with fail
      go_ret2
      rw [HRR.out]
      exact ⟨rfl, HB.out⟩
end Go.Proofs.YtnohcppipkpgmaaDoor
namespace Go.Proofs.YtnohcppipkpgmaaDoor
open Go.RowKit Go.Shelf
set_option linter.unusedVariables false
set_option linter.unusedSimpArgs false

/-- May structs be, and a type among them? -/
def mayS (n : Nat) (b1 b2 b3 : Nat → Bool) (t : Ty) : Bool := decide ((stRes n b1 b2 b3).2 = 0) && mayB n 48 t
/-- Structs that may be, and what is known of them. -/
structure Well (n : Nat) (ss : List (List Ty)) : Prop where
  len : n = ss.length
  le : n ≤ 32
  fine : Fine ss
  rank : ∃ rk, Rank ss rk
  small : ∀ i, i < n → tw ss i ≤ 16
theorem well_of {a : Option Addr} {n cap : Nat} {ss : List (List Ty)} {w : World} (h : StAt w a n cap ss) {b1 b2 b3 : Nat → Bool} (hb : Flt ss b1 b2 b3) {t : Ty} (hm : mayS n b1 b2 b3 t = true) : Well n ss ∧ mayB n 48 t = true := by
  unfold mayS at hm
  rw [Bool.and_eq_true, decide_eq_true_iff] at hm
  obtain ⟨h1, h2, h3, h4, -⟩ := stRes_ok hm.1
  have hl := h.len
  have hF := hb.fine (fun j hj => h2 j (by omega))
  refine ⟨⟨hl, by omega, hF, hb.rank hF (fun j hj => h3 j (by omega)), fun i hi => ?_⟩, hm.2⟩
  rcases Nat.lt_or_ge 16 (tw ss i) with h' | h'
  · have := (hb.h3 i).2 h'
    rw [h4 i hi] at this
    cases this
  · exact h'
/-- A type that may be among structs: a struct's, or none's. -/
theorem may_kind {n : Nat} {t : Ty} {f : Fv} {w : World} (hm : mayB n 48 t = true) (ht : TyAt w f t) (ss : List (List Ty)) : (∃ j : Nat, j < n ∧ subT t = some j ∧ f.k = 5 ∧ f.s = (j : Int)) ∨ subT t = none ∧ ¬ (f.k : Int) = 5 ∧ dpT ss t = decide ((f.k : Int) = 3) := by
  obtain ⟨c, rfl, h1, h2⟩ := mayB_ch hm
  cases c with
  | leaf k s =>
    obtain ⟨ta, tcap, rfl, -⟩ := ht.leaf
    rcases h1 with ⟨h1, -⟩ | ⟨rfl, h1, h4⟩
    · refine .inr ⟨?_, ?_, ?_⟩
      · simp only [Ch.ty, subT]; rw [if_neg (by omega)]
      · show ¬ (k : Int) = 5
        omega
      · simp only [Ch.ty, dpT, subT]
        rw [if_neg (by omega)]
        simp only [boxT]
        rw [decide_eq_false (by omega), decide_eq_false (by omega)]
    · exact .inl ⟨s.toNat, by omega, rfl, rfl, by show s = _; omega⟩
  | box c =>
    obtain ⟨_, _, _, _, rfl, -⟩ := ht.box
    exact .inr ⟨rfl, by show ¬ ((3 : Nat) : Int) = 5; omega, rfl⟩
  | ref m r c =>
    obtain ⟨_, _, _, _, rfl, -⟩ := ht.ref
    exact .inr ⟨rfl, by show ¬ ((4 : Nat) : Int) = 5; omega, rfl⟩
theorem wd_le {n : Nat} {ss : List (List Ty)} (h : Well n ss) {t : Ty} (hj : ∀ j, subT t = some j → j < n) : wdT ss t ≤ 16 ∧ 1 ≤ wdT ss t := by
  unfold wdT
  cases hs : subT t with
  | none => simp
  | some j =>
    obtain ⟨rk, hr⟩ := h.rank
    exact ⟨h.small j (hj j hs), tw_pos hr h.fine.lt (fun i hi => by
      obtain ⟨fs, hfs⟩ : ∃ fs, ss[i]? = some fs := ⟨_, List.getElem?_eq_getElem hi⟩
      rw [fld_of hfs]
      exact (h.fine i fs hfs).1) _ j (Nat.lt_succ_self _) (by have := hj j hs; have := h.len; omega)⟩
end Go.Proofs.YtnohcppipkpgmaaDoor
