import Derived.Test.YtjchbclkdbojpaaDoorDe
import Derived.Test.YtjchbclkdbojpaaDoorAa
namespace Go.Proofs.YtjchbclkdbojpaaDoor
open Go.RowKit Go.Shelf
set_option linter.unusedVariables false
set_option linter.unusedSimpArgs false

/-- What is wrong with each struct. -/
structure Flt (ss : List (List Ty)) (b1 b2 b3 : Nat → Bool) : Prop where
  h1 : ∀ (i : Nat) (fs : List Ty), ss[i]? = some fs → (b1 i = true ↔ ¬ (1 ≤ fs.length ∧ fs.length ≤ 8 ∧ ∀ t ∈ fs, PlainT ss.length t))
  h2 : ∀ i, b2 i = true ↔ Stn ss i i
  h3 : ∀ i, b3 i = true ↔ 16 < tw ss i
theorem flt_ex (ss : List (List Ty)) : ∃ b1 b2 b3, Flt ss b1 b2 b3 := by
  have dec : ∀ p : Prop, Decidable p := fun p => Classical.propDecidable p
  exact ⟨fun i => decide (¬ (1 ≤ (fld ss i).length ∧ (fld ss i).length ≤ 8 ∧ ∀ t ∈ fld ss i, PlainT ss.length t)), fun i => decide (Stn ss i i), fun i => decide (16 < tw ss i),
    ⟨fun i fs h => by rw [← fld_of h]; exact decide_eq_true_iff, fun i => decide_eq_true_iff, fun i => decide_eq_true_iff⟩⟩
theorem Flt.fine {ss : List (List Ty)} {b1 b2 b3 : Nat → Bool} (h : Flt ss b1 b2 b3) (h1 : ∀ i, i < ss.length → b1 i = false) : Fine ss := fun i fs hi => by
  have hl := (List.getElem?_eq_some_iff.1 hi).1
  rcases Classical.em (1 ≤ fs.length ∧ fs.length ≤ 8 ∧ ∀ t ∈ fs, PlainT ss.length t) with h' | h'
  · exact h'
  · have := (h.h1 i fs hi).2 h'
    rw [h1 i hl] at this
    cases this
theorem Flt.rank {ss : List (List Ty)} {b1 b2 b3 : Nat → Bool} (h : Flt ss b1 b2 b3) (hF : Fine ss) (h2 : ∀ i, i < ss.length → b2 i = false) : ∃ rk, Rank ss rk :=
  rank_ex hF.lt (fun i hi hs => by have := (h.h2 i).2 hs; rw [h2 i hi] at this; cases this)
theorem stRes_big {n : Nat} {b1 b2 b3 : Nat → Bool} (h : 32 < n) : stRes n b1 b2 b3 = (32, 2) := by unfold stRes; rw [if_pos h]
theorem stRes_1 {n i : Nat} {b1 b2 b3 : Nat → Bool} (h : ¬ 32 < n) (hi : i < n) (hb : b1 i = true) (hb' : ∀ j, j < i → b1 j = false) : stRes n b1 b2 b3 = (i, 2) := by
  unfold stRes; rw [if_neg h, fstB_some hi hb hb']
theorem stRes_2 {n i : Nat} {b1 b2 b3 : Nat → Bool} (h : ¬ 32 < n) (h1 : ∀ j, j < n → b1 j = false) (hi : i < n) (hb : b2 i = true) (hb' : ∀ j, j < i → b2 j = false) : stRes n b1 b2 b3 = (i, 2) := by
  unfold stRes; rw [if_neg h, fstB_none h1, fstB_some hi hb hb']
theorem stRes_3 {n i : Nat} {b1 b2 b3 : Nat → Bool} (h : ¬ 32 < n) (h1 : ∀ j, j < n → b1 j = false) (h2 : ∀ j, j < n → b2 j = false) (hi : i < n) (hb : b3 i = true) (hb' : ∀ j, j < i → b3 j = false) : stRes n b1 b2 b3 = (i, 2) := by
  unfold stRes; rw [if_neg h, fstB_none h1, fstB_none h2, fstB_some hi hb hb']
theorem stRes_0 {n : Nat} {b1 b2 b3 : Nat → Bool} (h : ¬ 32 < n) (h1 : ∀ j, j < n → b1 j = false) (h2 : ∀ j, j < n → b2 j = false) (h3 : ∀ j, j < n → b3 j = false) : stRes n b1 b2 b3 = (0, 0) := by
  unfold stRes; rw [if_neg h, fstB_none h1, fstB_none h2, fstB_none h3]
theorem stRes_ok {n : Nat} {b1 b2 b3 : Nat → Bool} (h : (stRes n b1 b2 b3).2 = 0) : ¬ 32 < n ∧ (∀ j, j < n → b1 j = false) ∧ (∀ j, j < n → b2 j = false) ∧ (∀ j, j < n → b3 j = false) ∧ stRes n b1 b2 b3 = (0, 0) := by
  unfold stRes at h ⊢
  split at h
  · cases h
  · rename_i hn
    cases e1 : fstB b1 n with
    | some i => rw [e1] at h; cases h
    | none =>
      cases e2 : fstB b2 n with
      | some i => rw [e1, e2] at h; cases h
      | none =>
        cases e3 : fstB b3 n with
        | some i => rw [e1, e2, e3] at h; cases h
        | none => exact ⟨hn, fstB_no e1, fstB_no e2, fstB_no e3, by rw [if_neg hn]⟩
theorem stRes_e (n : Nat) (b1 b2 b3 : Nat → Bool) : (stRes n b1 b2 b3).2 = 0 ∨ (stRes n b1 b2 b3).2 = 2 := by
  unfold stRes
  split
  · exact .inr rfl
  · cases fstB b1 n with
    | some i => exact .inr rfl
    | none =>
      cases fstB b2 n with
      | some i => exact .inr rfl
      | none =>
        cases fstB b3 n with
        | some i => exact .inr rfl
        | none => exact .inl rfl
abbrev fnO : Obj := .cells #[fnV 48, fnV 49, fnV 50] 86
set_option maxRecDepth 100000 in
set_option maxHeartbeats 4000000 in
/-- Structs (12): which struct is at fault, or none. -/
theorem Structs_any (a : Option Addr) (n cap : Nat) (ss : List (List Ty)) (w : World) (h : StAt w a n cap ss) (b1 b2 b3 : Nat → Bool) (hb : Flt ss b1 b2 b3) :
    Calls Tryd.prog 12 #[.slice a n cap] w fun e w' => e = .returned (.tuple #[.int .i64 ((stRes n b1 b2 b3).1 : Int), .int .i64 ((stRes n b1 b2 b3).2 : Int)]) ∧ Below w.heap.size w w' := by
  by_cases hn : 32 < n
  · rw [stRes_big hn]
    have k1 : (32 : Int) < (n : Int) := by omega
    clear h hb
    go_enter Tryd.func12, Tryd.ntmps12
    go_wp2_with fail
    go_ret2
    exact ⟨rfl, Below.refl _ _⟩
  have k1 : ¬ (32 : Int) < (n : Int) := by omega
  obtain ⟨R, hR⟩ : ∃ R, R = stRes n b1 b2 b3 := ⟨_, rfl⟩
  rw [← hR]
  have HR := hidD hR
  have HN := hidD hn
  have hlen : n = ss.length := h.len
  have HLN := hidD hlen
  have C1 : Hid (∀ W i, Below w.heap.size w W → i < n → ∀ x, x = b1 i → Calls Tryd.prog 48 #[.slice a n cap, .int .i64 (i : Int)] W fun e w' => e = .returned (.bool x) ∧ Below W.heap.size W w') := hidD (fun W i hW hi x hx => by
    obtain ⟨fs, hfs⟩ : ∃ fs, ss[i]? = some fs := ⟨_, List.getElem?_eq_getElem (by omega)⟩
    exact wrong_any a n cap ss W (h.bel hW) (by omega) i fs hfs x (by rw [hx, hlen]; exact hb.h1 i fs hfs))
  have C2 : Hid ((∀ j, j < n → b1 j = false) → ∀ W i, Below w.heap.size w W → i < n → ∀ x, x = b2 i → Calls Tryd.prog 49 #[.slice a n cap, .int .i64 (i : Int)] W fun e w' => e = .returned (.bool x) ∧ Below W.heap.size W w') := hidD (fun h1 W i hW hi x hx => endless_any a n cap ss W (h.bel hW) (by omega) (hb.fine (fun j hj => h1 j (by omega))) i hi x (by rw [hx]; exact hb.h2 i))
  have C3 : Hid ((∀ j, j < n → b1 j = false) → (∀ j, j < n → b2 j = false) → ∀ W i, Below w.heap.size w W → i < n → ∀ x, x = b3 i → Calls Tryd.prog 50 #[.slice a n cap, .int .i64 (i : Int)] W fun e w' => e = .returned (.bool x) ∧ Below W.heap.size W w') := hidD (fun h1 h2 W i hW hi x hx => by
    have hF := hb.fine (fun j hj => h1 j (by omega))
    obtain ⟨rk, hr⟩ := hb.rank hF (fun j hj => h2 j (by omega))
    exact large_any a n cap ss W (h.bel hW) (by omega) hF rk hr i hi x (by rw [hx]; exact hb.h3 i))
  clear h hb hR hn hlen
  go_enter Tryd.func12, Tryd.ntmps12
  go_wp2_with fail
  go_loopw [12] (fun i W => ∃ k : Nat, k ≤ 3 ∧ i = .int .i64 k ∧ (1 ≤ k → ∀ j, j < n → b1 j = false) ∧ (2 ≤ k → ∀ j, j < n → b2 j = false) ∧ (3 ≤ k → ∀ j, j < n → b3 j = false) ∧ Below w.heap.size w W ∧ At W w.heap.size fnO) (fun i _ => 3 - (intOf i).toNat)
  case atStart => exact ⟨0, by omega, rfl, by omega, by omega, by omega, belA (Below.refl _ _), At.new _ _⟩
  case round =>
    obtain ⟨k, hk, rfl, hk1, hk2, hk3, hB, hA⟩ := hrel
    have H1 := hidD hk1
    have H2 := hidD hk2
    have H3 := hidD hk3
    have HB := hidD hB
    have HA := hidD hA
    obtain ⟨wo, rfl⟩ : ∃ wo, wo = wr := ⟨_, rfl⟩
    have hlw := hA.lt
    unfold At at hA
    have c0 : wo.cell? ⟨w.heap.size, 0, none⟩ = some (fnV 48) := by simp [World.cell?, hA]
    have c1 : wo.cell? ⟨w.heap.size, 1, none⟩ = some (fnV 49) := by simp [World.cell?, hA]
    have c2 : wo.cell? ⟨w.heap.size, 2, none⟩ = some (fnV 50) := by simp [World.cell?, hA]
    clear hA hB hk1 hk2 hk3
    have hk3 : k = 0 ∨ k = 1 ∨ k = 2 ∨ k = 3 := by omega
    rcases hk3 with rfl | rfl | rfl | rfl
    · rw [show ((0 : Nat) : Int) = (0 : Int) from rfl]
      go_wp2_with fail
      go_loopw [18] (fun v V => ∃ i : Nat, i ≤ n ∧ v = .int .i64 i ∧ (∀ j, j < i → b1 j = false) ∧ Below wo.heap.size wo V) (fun v _ => n - (intOf v).toNat)
      case atStart => exact ⟨0, Nat.zero_le _, rfl, fun j hj => by omega, Below.refl _ _⟩
      case round =>
        obtain ⟨i, hi, rfl, hall, hBi⟩ := hrel
        have HALL := hidD hall
        have HBi := hidD hBi
        have HBw := hidD (below_aft HB.out hBi)
        clear hall hBi
        by_cases hlt : i < n
        · have j1 : (i : Int) < (n : Int) := by omega
          have j2 : (i : Int) ≤ 1000 := by have := HN.out; omega
          cases hx : b1 i with
          | true =>
            have CC := hidD (C1.out wr i HBw.out hlt true hx.symm)
            have HRR := hidD (HR.out.trans (stRes_1 HN.out hlt hx HALL.out))
            go_wp2_with (go_at_call 48; refine CC.out.mono ?_; rintro e w1 ⟨rfl, hb1⟩)
            go_ret2
            rw [HRR.out]
            exact ⟨rfl, below_aft HBw.out hb1⟩
          | false =>
            have CC := hidD (C1.out wr i HBw.out hlt false hx.symm)
            have HXF := hidD hx
            clear hx
            go_wp2_with (go_at_call 48; refine CC.out.mono ?_; rintro e w1 ⟨rfl, hb1⟩)
            refine ⟨⟨i + 1, hlt, by go_num, fun j hj => ?_, below_aft HBi.out hb1⟩, ?_⟩
            · by_cases e : j = i
              · subst e; exact HXF.out
              · exact HALL.out j (by omega)
            · show n - ((i : Int) + 1).toNat < n - (i : Int).toNat
              omega
        · obtain rfl : i = n := by omega
          have z1 : ¬ ((i : Int) < (i : Int)) := by omega
          go_wp2_with fail
          exact ⟨⟨1, by omega, by go_num, fun _ => HALL.out, fun h => by omega, fun h => by omega, HBw.out, HA.out.below HBi.out⟩, by simp [intOf]⟩
    · rw [show ((1 : Nat) : Int) = (1 : Int) from rfl]
      go_wp2_with fail
      go_loopw [18] (fun v V => ∃ i : Nat, i ≤ n ∧ v = .int .i64 i ∧ (∀ j, j < i → b2 j = false) ∧ Below wo.heap.size wo V) (fun v _ => n - (intOf v).toNat)
      case atStart => exact ⟨0, Nat.zero_le _, rfl, fun j hj => by omega, Below.refl _ _⟩
      case round =>
        obtain ⟨i, hi, rfl, hall, hBi⟩ := hrel
        have HALL := hidD hall
        have HBi := hidD hBi
        have HBw := hidD (below_aft HB.out hBi)
        clear hall hBi
        by_cases hlt : i < n
        · have j1 : (i : Int) < (n : Int) := by omega
          have j2 : (i : Int) ≤ 1000 := by have := HN.out; omega
          cases hx : b2 i with
          | true =>
            have CC := hidD (C2.out (H1.out (by omega)) wr i HBw.out hlt true hx.symm)
            have HRR := hidD (HR.out.trans (stRes_2 HN.out (H1.out (by omega)) hlt hx HALL.out))
            go_wp2_with (go_at_call 49; refine CC.out.mono ?_; rintro e w1 ⟨rfl, hb1⟩)
            go_ret2
            rw [HRR.out]
            exact ⟨rfl, below_aft HBw.out hb1⟩
          | false =>
            have CC := hidD (C2.out (H1.out (by omega)) wr i HBw.out hlt false hx.symm)
            have HXF := hidD hx
            clear hx
            go_wp2_with (go_at_call 49; refine CC.out.mono ?_; rintro e w1 ⟨rfl, hb1⟩)
            refine ⟨⟨i + 1, hlt, by go_num, fun j hj => ?_, below_aft HBi.out hb1⟩, ?_⟩
            · by_cases e : j = i
              · subst e; exact HXF.out
              · exact HALL.out j (by omega)
            · show n - ((i : Int) + 1).toNat < n - (i : Int).toNat
              omega
        · obtain rfl : i = n := by omega
          have z1 : ¬ ((i : Int) < (i : Int)) := by omega
          go_wp2_with fail
          exact ⟨⟨2, by omega, by go_num, fun _ => H1.out (by omega), fun _ => HALL.out, fun h => by omega, HBw.out, HA.out.below HBi.out⟩, by simp [intOf]⟩
    · rw [show ((2 : Nat) : Int) = (2 : Int) from rfl]
      go_wp2_with fail
      go_loopw [18] (fun v V => ∃ i : Nat, i ≤ n ∧ v = .int .i64 i ∧ (∀ j, j < i → b3 j = false) ∧ Below wo.heap.size wo V) (fun v _ => n - (intOf v).toNat)
      case atStart => exact ⟨0, Nat.zero_le _, rfl, fun j hj => by omega, Below.refl _ _⟩
      case round =>
        obtain ⟨i, hi, rfl, hall, hBi⟩ := hrel
        have HALL := hidD hall
        have HBi := hidD hBi
        have HBw := hidD (below_aft HB.out hBi)
        clear hall hBi
        by_cases hlt : i < n
        · have j1 : (i : Int) < (n : Int) := by omega
          have j2 : (i : Int) ≤ 1000 := by have := HN.out; omega
          cases hx : b3 i with
          | true =>
            have CC := hidD (C3.out (H1.out (by omega)) (H2.out (by omega)) wr i HBw.out hlt true hx.symm)
            have HRR := hidD (HR.out.trans (stRes_3 HN.out (H1.out (by omega)) (H2.out (by omega)) hlt hx HALL.out))
            go_wp2_with (go_at_call 50; refine CC.out.mono ?_; rintro e w1 ⟨rfl, hb1⟩)
            go_ret2
            rw [HRR.out]
            exact ⟨rfl, below_aft HBw.out hb1⟩
          | false =>
            have CC := hidD (C3.out (H1.out (by omega)) (H2.out (by omega)) wr i HBw.out hlt false hx.symm)
            have HXF := hidD hx
            clear hx
            go_wp2_with (go_at_call 50; refine CC.out.mono ?_; rintro e w1 ⟨rfl, hb1⟩)
            refine ⟨⟨i + 1, hlt, by go_num, fun j hj => ?_, below_aft HBi.out hb1⟩, ?_⟩
            · by_cases e : j = i
              · subst e; exact HXF.out
              · exact HALL.out j (by omega)
            · show n - ((i : Int) + 1).toNat < n - (i : Int).toNat
              omega
        · obtain rfl : i = n := by omega
          have z1 : ¬ ((i : Int) < (i : Int)) := by omega
          go_wp2_with fail
          exact ⟨⟨3, by omega, by go_num, fun _ => H1.out (by omega), fun _ => H2.out (by omega), fun _ => HALL.out, HBw.out, HA.out.below HBi.out⟩, by simp [intOf]⟩
    · have HRR := hidD (HR.out.trans (stRes_0 HN.out (H1.out (by omega)) (H2.out (by omega)) (H3.out (by omega))))
      go_wp2_with fail
      go_ret2
      rw [HRR.out]
      exact ⟨rfl, HB.out⟩
end Go.Proofs.YtjchbclkdbojpaaDoor
namespace Go.Proofs.YtjchbclkdbojpaaDoor
open Go.RowKit Go.Shelf
set_option linter.unusedVariables false
set_option linter.unusedSimpArgs false

/-- May structs be, and a type among them? -/
def mayS (n : Nat) (b1 b2 b3 : Nat → Bool) (t : Ty) : Bool := decide ((stRes n b1 b2 b3).2 = 0) && mayB n 48 t
set_option maxRecDepth 100000 in
set_option maxHeartbeats 2000000 in
theorem May_any (a : Option Addr) (n cap : Nat) (ss : List (List Ty)) (w : World) (h : StAt w a n cap ss) (b1 b2 b3 : Nat → Bool) (hb : Flt ss b1 b2 b3) (t : Ty) (f : Fv) (ht : TyAt w f t) (x : Bool) (hx : x = mayS n b1 b2 b3 t) :
    Calls Tryd.prog 14 #[.slice a n cap, f.v] w fun e w' => e = .returned (.bool x) ∧ Below w.heap.size w w' := by
  have A0 : At (w.alloc f.o) w.heap.size f.o := At.new _ _
  obtain ⟨rr, hrr⟩ : ∃ rr, rr = mayB n 48 t := ⟨_, rfl⟩
  have CM : Hid (∀ W, Below w.heap.size w W → Calls Tryd.prog 55 #[.int .i64 (n : Int), f.v] W fun e w' => e = .returned (.bool rr) ∧ Below W.heap.size W w') := hidD (fun W hW => by rw [hrr]; exact mayAmong_any n t f W (ht.bel hW))
  have HX : Hid (x = (decide ((stRes n b1 b2 b3).2 = 0) && rr)) := hidD (by rw [hx, hrr]; rfl)
  rcases stRes_e n b1 b2 b3 with he | he
  · have CS : Hid (∀ W, Below w.heap.size w W → Calls Tryd.prog 12 #[.slice a n cap] W fun e w' => e = .returned (.tuple #[.int .i64 0, .int .i64 0]) ∧ Below W.heap.size W w') := hidD (fun W hW => by
      have := Structs_any a n cap ss W (h.bel hW) b1 b2 b3 hb
      rw [(stRes_ok he).2.2.2.2] at this
      exact this)
    have HX2 : Hid (x = rr) := hidD (by rw [HX.out, he]; rfl)
    obtain ⟨k, m, r, s, aa, nn, cc⟩ := f
    show Calls Tryd.prog 14 #[.slice a n cap, tyV k m r s aa nn cc] w _
    clear h hb hrr he hx ht HX
    go_enter Tryd.func14, Tryd.ntmps14
    go_wp2_with (first
      | (go_at_call 12; refine (CS.out _ (belA (Below.refl _ _))).mono ?_; rintro e w1 ⟨rfl, hb1⟩; obtain ⟨hl, p0, p1, p2, p3, p4⟩ := (A0.below hb1).ty)
      | (go_at_call 55; refine (CM.out w1 (below1 hb1)).mono ?_; rintro e w2 ⟨rfl, hb2⟩))
    go_ret
    rw [HX2.out]
    exact ⟨rfl, below_aft (below1 hb1) hb2⟩
  · have CS : Hid (∀ W, Below w.heap.size w W → ∃ q : Int, Calls Tryd.prog 12 #[.slice a n cap] W fun e w' => e = .returned (.tuple #[.int .i64 q, .int .i64 2]) ∧ Below W.heap.size W w') := hidD (fun W hW => by
      have := Structs_any a n cap ss W (h.bel hW) b1 b2 b3 hb
      rw [he] at this
      exact ⟨_, this⟩)
    have HX2 : Hid (x = false) := hidD (by rw [HX.out, he]; rfl)
    obtain ⟨k, m, r, s, aa, nn, cc⟩ := f
    obtain ⟨q, hq⟩ := CS.out _ (belA (o := tyO k m r s aa nn cc) (Below.refl _ _))
    have CQ := hidD hq
    show Calls Tryd.prog 14 #[.slice a n cap, tyV k m r s aa nn cc] w _
    clear h hb hrr he hx ht HX CS hq
    go_enter Tryd.func14, Tryd.ntmps14
    go_wp2_with (go_at_call 12; refine CQ.out.mono ?_; rintro e w1 ⟨rfl, hb1⟩; obtain ⟨hl, p0, p1, p2, p3, p4⟩ := (A0.below hb1).ty)
    go_ret
    rw [HX2.out]
    exact ⟨rfl, below1 hb1⟩
/-- Structs that may be, and what is known of them. -/
structure Well (n : Nat) (ss : List (List Ty)) : Prop where
  len : n = ss.length
  le : n ≤ 32
  fine : Fine ss
  rank : ∃ rk, Rank ss rk
  small : ∀ i, i < n → tw ss i ≤ 16
theorem well_of {a : Option Addr} {n cap : Nat} {ss : List (List Ty)} {w : World} (h : StAt w a n cap ss) {b1 b2 b3 : Nat → Bool} (hb : Flt ss b1 b2 b3) {t : Ty} (hm : mayS n b1 b2 b3 t = true) : Well n ss ∧ mayB n 48 t = true := by
  unfold mayS at hm
  rw [Bool.and_eq_true, decide_eq_true_iff] at hm
  obtain ⟨h1, h2, h3, h4, -⟩ := stRes_ok hm.1
  have hl := h.len
  have hF := hb.fine (fun j hj => h2 j (by omega))
  refine ⟨⟨hl, by omega, hF, hb.rank hF (fun j hj => h3 j (by omega)), fun i hi => ?_⟩, hm.2⟩
  rcases Nat.lt_or_ge 16 (tw ss i) with h' | h'
  · have := (hb.h3 i).2 h'
    rw [h4 i hi] at this
    cases this
  · exact h'
/-- A type that may be among structs: a struct's, or none's. -/
theorem may_kind {n : Nat} {t : Ty} {f : Fv} {w : World} (hm : mayB n 48 t = true) (ht : TyAt w f t) (ss : List (List Ty)) : (∃ j : Nat, j < n ∧ subT t = some j ∧ f.k = 5 ∧ f.s = (j : Int)) ∨ subT t = none ∧ ¬ (f.k : Int) = 5 ∧ dpT ss t = decide ((f.k : Int) = 3) := by
  obtain ⟨c, rfl, h1, h2⟩ := mayB_ch hm
  cases c with
  | leaf k s =>
    obtain ⟨ta, tcap, rfl, -⟩ := ht.leaf
    rcases h1 with ⟨h1, -⟩ | ⟨rfl, h1, h4⟩
    · refine .inr ⟨?_, ?_, ?_⟩
      · simp only [Ch.ty, subT]; rw [if_neg (by omega)]
      · show ¬ (k : Int) = 5
        omega
      · simp only [Ch.ty, dpT, subT]
        rw [if_neg (by omega)]
        simp only [boxT]
        rw [decide_eq_false (by omega), decide_eq_false (by omega)]
    · exact .inl ⟨s.toNat, by omega, rfl, rfl, by show s = _; omega⟩
  | box c =>
    obtain ⟨_, _, _, _, rfl, -⟩ := ht.box
    exact .inr ⟨rfl, by show ¬ ((3 : Nat) : Int) = 5; omega, rfl⟩
  | ref m r c =>
    obtain ⟨_, _, _, _, rfl, -⟩ := ht.ref
    exact .inr ⟨rfl, by show ¬ ((4 : Nat) : Int) = 5; omega, rfl⟩
theorem wd_le {n : Nat} {ss : List (List Ty)} (h : Well n ss) {t : Ty} (hj : ∀ j, subT t = some j → j < n) : wdT ss t ≤ 16 ∧ 1 ≤ wdT ss t := by
  unfold wdT
  cases hs : subT t with
  | none => simp
  | some j =>
    obtain ⟨rk, hr⟩ := h.rank
    exact ⟨h.small j (hj j hs), tw_pos hr h.fine.lt (fun i hi => by
      obtain ⟨fs, hfs⟩ : ∃ fs, ss[i]? = some fs := ⟨_, List.getElem?_eq_getElem hi⟩
      rw [fld_of hfs]
      exact (h.fine i fs hfs).1) _ j (Nat.lt_succ_self _) (by have := hj j hs; have := h.len; omega)⟩
set_option maxRecDepth 100000 in
set_option maxHeartbeats 2000000 in
theorem Words_no (a : Option Addr) (n cap : Nat) (ss : List (List Ty)) (w : World) (h : StAt w a n cap ss) (b1 b2 b3 : Nat → Bool) (hb : Flt ss b1 b2 b3) (t : Ty) (f : Fv) (ht : TyAt w f t) (hx : mayS n b1 b2 b3 t = false) :
    Calls Tryd.prog 18 #[.slice a n cap, f.v] w fun e w' => e = .returned (.tuple #[.int .i64 0, .int .i64 2]) ∧ Below w.heap.size w w' := by
  have CM : Hid (Calls Tryd.prog 14 #[.slice a n cap, f.v] (w.alloc f.o) fun e w' => e = .returned (.bool false) ∧ Below (w.alloc f.o).heap.size (w.alloc f.o) w') := hidD (May_any a n cap ss _ (h.bel (belA (Below.refl _ _))) b1 b2 b3 hb t f (ht.bel (belA (Below.refl _ _))) false hx.symm)
  obtain ⟨k, m, r, s, aa, nn, cc⟩ := f
  show Calls Tryd.prog 18 #[.slice a n cap, tyV k m r s aa nn cc] w _
  clear h hb ht hx
  go_enter Tryd.func18, Tryd.ntmps18
  go_wp2_with (go_at_call 14; refine CM.out.mono ?_; rintro e w1 ⟨rfl, hb1⟩)
  go_ret2
  exact ⟨rfl, below1 hb1⟩
set_option maxRecDepth 100000 in
set_option maxHeartbeats 2000000 in
theorem Words_yes (a : Option Addr) (n cap : Nat) (ss : List (List Ty)) (w : World) (h : StAt w a n cap ss) (b1 b2 b3 : Nat → Bool) (hb : Flt ss b1 b2 b3) (t : Ty) (f : Fv) (ht : TyAt w f t) (hx : mayS n b1 b2 b3 t = true) (q : Nat) (hq : q = wdT ss t) :
    Calls Tryd.prog 18 #[.slice a n cap, f.v] w fun e w' => e = .returned (.tuple #[.int .i64 (q : Int), .int .i64 0]) ∧ Below w.heap.size w w' := by
  have CM : Hid (Calls Tryd.prog 14 #[.slice a n cap, f.v] (w.alloc f.o) fun e w' => e = .returned (.bool true) ∧ Below (w.alloc f.o).heap.size (w.alloc f.o) w') := hidD (May_any a n cap ss _ (h.bel (belA (Below.refl _ _))) b1 b2 b3 hb t f (ht.bel (belA (Below.refl _ _))) true hx.symm)
  obtain ⟨hW, hmb⟩ := well_of h hb hx
  have A0 : At (w.alloc f.o) w.heap.size f.o := At.new _ _
  have CW : Hid (∀ W b, Below w.heap.size w W → w.heap.size ≤ b → Arr W b 93 (iV fun _ => 0) → Calls Tryd.prog 57 #[.slice a n cap, f.v, .pointer (some ⟨b, 0, none⟩)] W fun e w' => e = .returned (.int .i64 (q : Int)) ∧ But b W w') := hidD (fun W b hB hb0 hA => by
    rcases may_kind hmb ht ss with ⟨j, hj, hs, h1, h2⟩ | ⟨hs, h1, -⟩
    · obtain ⟨rk, hr⟩ := hW.rank
      have e : q = cwS ss j := by
        have h3 := hW.small j hj
        have h4 : cwS ss j = min (tw ss j) 17 := rfl
        rw [hq]
        unfold wdT
        rw [hs, h4]
        show tw ss j = _
        omega
      refine (words_any w a n cap ss h hW.le hW.fine rk hr b hb0 _ j _ W f (Nat.lt_succ_self _) hj hB hA (KOk.zero ss) h1 h2).mono ?_
      rintro e' w' ⟨rfl, K', -, -, h3⟩
      exact ⟨by rw [e], h3⟩
    · refine (words_ne f W h1 _ _).mono ?_
      rintro e' w' ⟨rfl, h3⟩
      have e : q = 1 := by rw [hq]; unfold wdT; rw [hs]
      exact ⟨by rw [e]; rfl, But.below h3⟩)
  obtain ⟨k, m, r, s, aa, nn, cc⟩ := f
  show Calls Tryd.prog 18 #[.slice a n cap, tyV k m r s aa nn cc] w _
  clear h hb ht hx hW hmb hq
  go_enter Tryd.func18, Tryd.ntmps18
  go_wp2_with (first
    | (go_at_call 14; refine CM.out.mono ?_; rintro e w1 ⟨rfl, hb1⟩; obtain ⟨hl, p0, p1, p2, p3, p4⟩ := (A0.below hb1).ty; have HB1 := hidD hb1; clear hb1)
    | (go_at_call 57; refine (CW.out _ w1.heap.size (belA (below1 HB1.out)) (below1 HB1.out).size (by have := At.new w1 (.cells (arr (iV fun _ => 0)) 93); rw [arr_zero] at this; unfold Arr; rw [arr_zero]; exact this)).mono ?_; rintro e w2 ⟨rfl, hb2⟩; have HB2 := hidD hb2; clear hb2))
  go_ret2
  exact ⟨rfl, belBut (belA (below1 HB1.out)) HB2.out (below1 HB1.out).size (by have := (below1 HB1.out).size; simp; omega)⟩
set_option maxRecDepth 100000 in
set_option maxHeartbeats 2000000 in
theorem Drops_no (a : Option Addr) (n cap : Nat) (ss : List (List Ty)) (w : World) (h : StAt w a n cap ss) (b1 b2 b3 : Nat → Bool) (hb : Flt ss b1 b2 b3) (t : Ty) (f : Fv) (ht : TyAt w f t) (hx : mayS n b1 b2 b3 t = false) :
    Calls Tryd.prog 20 #[.slice a n cap, f.v] w fun e w' => e = .returned (.tuple #[.bool false, .int .i64 2]) ∧ Below w.heap.size w w' := by
  have CM : Hid (Calls Tryd.prog 14 #[.slice a n cap, f.v] (w.alloc f.o) fun e w' => e = .returned (.bool false) ∧ Below (w.alloc f.o).heap.size (w.alloc f.o) w') := hidD (May_any a n cap ss _ (h.bel (belA (Below.refl _ _))) b1 b2 b3 hb t f (ht.bel (belA (Below.refl _ _))) false hx.symm)
  obtain ⟨k, m, r, s, aa, nn, cc⟩ := f
  show Calls Tryd.prog 20 #[.slice a n cap, tyV k m r s aa nn cc] w _
  clear h hb ht hx
  go_enter Tryd.func20, Tryd.ntmps20
  go_wp2_with (go_at_call 14; refine CM.out.mono ?_; rintro e w1 ⟨rfl, hb1⟩)
  go_ret2
  exact ⟨rfl, below1 hb1⟩
set_option maxRecDepth 100000 in
set_option maxHeartbeats 2000000 in
theorem Drops_yes (a : Option Addr) (n cap : Nat) (ss : List (List Ty)) (w : World) (h : StAt w a n cap ss) (b1 b2 b3 : Nat → Bool) (hb : Flt ss b1 b2 b3) (t : Ty) (f : Fv) (ht : TyAt w f t) (hx : mayS n b1 b2 b3 t = true) (q : Bool) (hq : q = dpT ss t) :
    Calls Tryd.prog 20 #[.slice a n cap, f.v] w fun e w' => e = .returned (.tuple #[.bool q, .int .i64 0]) ∧ Below w.heap.size w w' := by
  have CM : Hid (Calls Tryd.prog 14 #[.slice a n cap, f.v] (w.alloc f.o) fun e w' => e = .returned (.bool true) ∧ Below (w.alloc f.o).heap.size (w.alloc f.o) w') := hidD (May_any a n cap ss _ (h.bel (belA (Below.refl _ _))) b1 b2 b3 hb t f (ht.bel (belA (Below.refl _ _))) true hx.symm)
  obtain ⟨hW, hmb⟩ := well_of h hb hx
  have A0 : At (w.alloc f.o) w.heap.size f.o := At.new _ _
  have CW : Hid (∀ W, Below w.heap.size w W → Calls Tryd.prog 58 #[.slice a n cap, f.v] W fun e w' => e = .returned (.bool q) ∧ Below W.heap.size W w') := hidD (fun W hB => by
    rcases may_kind hmb ht ss with ⟨j, hj, hs, h1, h2⟩ | ⟨hs, h1, h2⟩
    · obtain ⟨rk, hr⟩ := hW.rank
      have e : q = dp ss j := by rw [hq]; unfold dpT; rw [hs]
      rw [e]
      exact drops_any w a n cap ss h hW.le hW.fine rk hr _ j W f (Nat.lt_succ_self _) hj hB h1 h2
    · rw [hq, h2]
      exact drops_ne f W h1 _)
  obtain ⟨k, m, r, s, aa, nn, cc⟩ := f
  show Calls Tryd.prog 20 #[.slice a n cap, tyV k m r s aa nn cc] w _
  clear h hb ht hx hW hmb hq
  go_enter Tryd.func20, Tryd.ntmps20
  go_wp2_with (first
    | (go_at_call 14; refine CM.out.mono ?_; rintro e w1 ⟨rfl, hb1⟩; obtain ⟨hl, p0, p1, p2, p3, p4⟩ := (A0.below hb1).ty; have HB1 := hidD hb1; clear hb1)
    | (go_at_call 58; refine (CW.out _ (below1 HB1.out)).mono ?_; rintro e w2 ⟨rfl, hb2⟩; have HB2 := hidD hb2; clear hb2))
  go_ret2
  exact ⟨rfl, below_aft (below1 HB1.out) HB2.out⟩
end Go.Proofs.YtjchbclkdbojpaaDoor
