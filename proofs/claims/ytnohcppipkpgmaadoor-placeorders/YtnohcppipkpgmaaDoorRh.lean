import Derived.Test.YtnohcppipkpgmaaDoorRg
import Derived.Deep.LoopGhost
namespace Go.Proofs.YtnohcppipkpgmaaDoor
open Go.RowKit Go.Shelf
set_option linter.unusedVariables false
set_option linter.unusedSimpArgs false

/-- A list of types in memory. -/
structure LcAt (w : World) (a : Option Addr) (n cap : Nat) (ts : List Ty) : Prop where
  len : n = ts.length
  big : n ≤ maxLen
  cells : ts ≠ [] → ∃ g off, a = some ⟨g, off, none⟩ ∧ ∀ i t, ts[i]? = some t → ∃ V : Fv, C5 w g (off + i * 5) V ∧ TyAt w V t
theorem LcAt.bel {w w' : World} {a : Option Addr} {n cap : Nat} {ts : List Ty} (h : LcAt w a n cap ts) (hb : Below w.heap.size w w') : LcAt w' a n cap ts :=
  ⟨h.len, h.big, fun hne => by
    obtain ⟨g, off, e, hk⟩ := h.cells hne
    refine ⟨g, off, e, fun i t hi => ?_⟩
    obtain ⟨V, h1, h2⟩ := hk i t hi
    exact ⟨V, h1.below hb, h2.bel hb⟩⟩
theorem LcAt.one {w : World} {a : Option Addr} {n cap : Nat} {ts : List Ty} (h : LcAt w a n cap ts) {i : Nat} {t : Ty} (hi : ts[i]? = some t) : ∃ g off V, a = some ⟨g, off, none⟩ ∧ C5 w g (off + i * 5) V ∧ TyAt w V t := by
  obtain ⟨g, off, e, hk⟩ := h.cells (fun e => by subst e; simp at hi)
  obtain ⟨V, h1, h2⟩ := hk i t hi
  exact ⟨g, off, V, e, h1, h2⟩
theorem below_S5 {w W : World} (h : Below w.heap.size w W) {b : Nat} (hb : w.heap.size ≤ b) (g : Fv) : Below w.heap.size w (S5 W b g) := h.grown (but_s5 W b g) h.size (fun k hk => by cases hk; exact hb)
theorem mayB_mono {n m : Int} (h : n ≤ m) {d : Nat} {t : Ty} (ht : mayB n d t = true) : mayB m d t = true := by
  obtain ⟨c, rfl, h1, h2⟩ := mayB_ch ht
  exact ch_mayB (Ch.ok_mono h c h1) h2
/-- A type on its way down. -/
def MA (w : World) (n : Int) (rr : Bool) (k : Nat) (W : World) : Prop := ∃ (c : Ch) (f : Fv), k = c.depth ∧ At W w.heap.size f.o ∧ TyAt w f c.ty ∧ c.ok 32 ∧ (rr = true ↔ c.ok n) ∧ Below w.heap.size w W
set_option maxRecDepth 100000 in
set_option maxHeartbeats 4000000 in
/-- mayAmong. -/
theorem among_any (n : Nat) (hn : n ≤ 32) (t : Ty) (f : Fv) (w : World) (h : TyAt w f t) : Calls Tryd.prog 69 #[.int .i64 n, f.v] w fun e w' => e = .returned (.bool (mayB n 48 t)) ∧ Below w.heap.size w w' := by
  have HA0 := hidD (At.new w f.o)
  cases hb : isT t with
  | false =>
    have hf : mayB n 48 t = false := by
      cases hm : mayB n 48 t with
      | false => rfl
      | true => rw [show isT t = true from mayB_mono (by omega) hm] at hb; cases hb
    rw [hf]
    have C : Hid (Calls Tryd.prog 83 #[f.v, f.v] (w.alloc f.o) fun e w' => e = .returned (.bool false) ∧ Below (w.alloc f.o).heap.size (w.alloc f.o) w') := Alike_no t t f f _ (h.bel (belA (Below.refl _ _))) (h.bel (belA (Below.refl _ _))) (.inl hb)
    obtain ⟨k, m, r, s, a, n', cap⟩ := f
    show Calls Tryd.prog 69 #[.int .i64 n, tyV k m r s a n' cap] w _
    obtain ⟨hlt, p0, p1, p2, p3, p4⟩ := HA0.out.ty
    clear h hb hf
    go_enter Tryd.func69, Tryd.ntmps69
    go_wp2_with (go_at_call 83; refine C.out.mono ?_; rintro e w1 ⟨rfl, hb1⟩)
    go_ret
    exact ⟨rfl, below1 hb1⟩
  | true =>
    obtain ⟨c, rfl, hc⟩ := ok_of hb
    obtain ⟨rr, hrr⟩ : ∃ rr, rr = mayB n 48 c.ty := ⟨_, rfl⟩
    have hr2 : rr = true ↔ c.ok n := by rw [hrr, mayB_iff]; exact ⟨fun h => h.1, fun h => ⟨h, hc.deep⟩⟩
    rw [← hrr]
    have C : Hid (Calls Tryd.prog 83 #[f.v, f.v] (w.alloc f.o) fun e w' => e = .returned (.bool true) ∧ Below (w.alloc f.o).heap.size (w.alloc f.o) w') := by
      have := Alike_yes c c f f (w.alloc f.o) (h.bel (belA (Below.refl _ _))) (h.bel (belA (Below.refl _ _))) hc hc
      rw [alike_self] at this
      exact this
    have HM0 : Hid (∀ W, Below (w.alloc f.o).heap.size (w.alloc f.o) W → MA w n rr c.depth W) := fun W hW => ⟨c, f, rfl, HA0.out.below hW, h, hc.ok, hr2, below1 hW⟩
    obtain ⟨k, m, r, s, a, n', cap⟩ := f
    show Calls Tryd.prog 69 #[.int .i64 n, tyV k m r s a n' cap] w _
    obtain ⟨hlt, p0, p1, p2, p3, p4⟩ := HA0.out.ty
    clear h hb hrr hr2
    go_enter Tryd.func69, Tryd.ntmps69
    go_wp2_with (go_at_call 83; refine C.out.mono ?_; rintro e w1 ⟨rfl, hb1⟩)
    have HM1 := hidD (HM0.out w1 hb1)
    clear HM0 hb1 C HA0 hlt p0 p1 p2 p3 p4
    go_loopg [9] c.depth (fun k v W => MA w n rr k W)
    case atStart => exact HM1.out
    case round =>
      obtain ⟨c', f', hk, hA, hT, hok, hrr, hB⟩ := hrel
      clear HM1
      obtain ⟨hlt, p0, p1, p2, p3, p4⟩ := hA.ty
      have HB := hidD hB
      have HR := hidD hrr
      cases c' with
      | leaf k' s' =>
        obtain ⟨a', cap', rfl, -⟩ := hT.leaf
        have hk' : (k' = 1 ∨ k' = 2) ∧ s' = 0 ∨ k' = 5 ∧ 0 ≤ s' ∧ s' < 32 := hok
        have k3 : ¬ (k' : Int) = 3 := by omega
        have k4 : ¬ (k' : Int) = 4 := by omega
        have k3b : ((k' : Int) == 3) = false := by simpa using k3
        have hr3 : rr = true ↔ ((k' = 1 ∨ k' = 2) ∧ s' = 0 ∨ k' = 5 ∧ 0 ≤ s' ∧ s' < n) := hrr
        by_cases k5 : k' = 5
        · subst k5
          have hrs : rr = decide (s' < (n : Int)) := by
            rw [Bool.eq_iff_iff, hr3, decide_eq_true_iff]
            omega
          subst hrs
          clear hT hA hok hrr hB hk' hr3 HR hk
          go_wp2_with fail
          go_ret
          exact ⟨rfl, HB.out⟩
        · have hrs : rr = true := by rw [hr3]; omega
          subst hrs
          have k5i : ¬ (k' : Int) = 5 := by omega
          clear hT hA hok hrr hB hk' hr3 HR hk
          go_wp2_with fail
          go_ret
          exact ⟨rfl, HB.out⟩
      | box d =>
        obtain ⟨g, off, cap', f2, rfl, hc5, ht2⟩ := hT.box
        obtain ⟨hg, q0, q1, q2, q3, q4⟩ := hc5.below hB
        have g0 := hA.tyF 0
        have g1 := hA.tyF 1
        have g2 := hA.tyF 2
        have g3 := hA.tyF 3
        have g4 := hA.tyF 4
        have FIN : Hid (MA w n rr d.depth (S5 wr w.heap.size f2)) := ⟨d, f2, rfl, hA.set5 f2, ht2, hok, hrr, below_S5 hB (Nat.le_refl _) f2⟩
        have HK : Hid (gk = (Ch.box d).depth) := hk
        clear hT hok hk hB hA hc5 ht2 hrr
        go_wp2_with fail
        go_roundg d.depth
        case measure => rw [HK.out]; simp [Ch.depth]
        case rel => exact FIN.out
      | ref m' r' d =>
        obtain ⟨g, off, cap', f2, rfl, hc5, ht2, r0, r1⟩ := hT.ref
        obtain ⟨hg, q0, q1, q2, q3, q4⟩ := hc5.below hB
        have g0 := hA.tyF 0
        have g1 := hA.tyF 1
        have g2 := hA.tyF 2
        have g3 := hA.tyF 3
        have g4 := hA.tyF 4
        have hrr2 : rr = true ↔ d.ok n := hrr.trans ⟨fun h => h.2, fun h => ⟨hok.1, h⟩⟩
        have FIN : Hid (MA w n rr d.depth (S5 wr w.heap.size f2)) := ⟨d, f2, rfl, hA.set5 f2, ht2, hok.2, hrr2, below_S5 hB (Nat.le_refl _) f2⟩
        have HK : Hid (gk = (Ch.ref m' r' d).depth) := hk
        clear hT hok hk hB hA hc5 ht2 hrr hrr2
        go_wp2_with fail
        go_roundg d.depth
        case measure => rw [HK.out]; simp [Ch.depth]
        case rel => exact FIN.out
/-- May structs be? -/
structure SC (w : World) (a : Option Addr) (n cap : Nat) (so : Bool) : Prop where
  call : ∀ W, Below w.heap.size w W → Calls Tryd.prog 68 #[.slice a n cap] W fun e w' => (∃ i e0 : Int, e = .returned (.tuple #[.int .i64 i, .int .i64 e0]) ∧ (e0 = 0 ↔ so = true)) ∧ Below W.heap.size W w'
  le : so = true → n ≤ 32
theorem sc_of {w : World} {a : Option Addr} {n cap : Nat} {ss : List (List Ty)} (h : StAt w a n cap ss) {b1 b2 b3 : Nat → Bool} (hb : Flt ss b1 b2 b3) : SC w a n cap (decide ((stRes n b1 b2 b3).2 = 0)) where
  call := fun W hW => (Structs_any a n cap ss W (h.bel hW) b1 b2 b3 hb).mono fun e w' k => ⟨⟨_, _, k.1, by rw [decide_eq_true_iff]; omega⟩, k.2⟩
  le := fun hs => by
    rw [decide_eq_true_iff] at hs
    have := (stRes_ok hs).1
    omega
set_option maxRecDepth 100000 in
set_option maxHeartbeats 4000000 in
/-- mayAll. -/
theorem all_any {w : World} {a la : Option Addr} {n cap ln lcap : Nat} {ts : List Ty} {so : Bool} (hS : SC w a n cap so) (h : LcAt w la ln lcap ts) (b : Bool) (hb : b = true ↔ so = true ∧ ∀ t ∈ ts, mayB n 48 t = true) :
    Calls Tryd.prog 56 #[.slice a n cap, .slice la ln lcap] w fun e w' => e = .returned (.bool b) ∧ Below w.heap.size w w' := by
  have C1 := hidD (hS.call w (Below.refl _ _))
  cases hso : so with
  | false =>
    rw [hso] at C1 hb
    have hbf : b = false := by
      cases hbb : b with
      | false => rfl
      | true => exact absurd (hb.1 hbb).1 (by simp)
    subst hbf
    clear hb hS h
    go_enter Tryd.func56, Tryd.ntmps56
    go_wp2_with (go_at_call 68; refine C1.out.mono ?_; rintro e w1 ⟨⟨i, e0, rfl, he⟩, hb1⟩; have he0 : ¬ e0 = 0 := (fun e => by have := he.1 e; cases this); clear he)
    go_ret
    exact ⟨rfl, hb1⟩
  | true =>
    have hn := hS.le hso
    rw [hso] at C1 hb
    have HL := hidD h
    have hb2 : b = true ↔ ∀ t ∈ ts, mayB n 48 t = true := hb.trans ⟨fun h => h.2, fun h => ⟨rfl, h⟩⟩
    have HB := hidD hb2
    have hln : ln = ts.length := h.len
    have HLN := hidD hln
    have hbig : ln ≤ 9223372036854775807 := by have := h.big; unfold maxLen at this; omega
    have C2 : Hid (∀ t (f : Fv) W, TyAt W f t → Calls Tryd.prog 69 #[.int .i64 n, f.v] W fun e w' => e = .returned (.bool (mayB n 48 t)) ∧ Below W.heap.size W w') := fun t f W hT => among_any n hn t f W hT
    clear hb hb2 hS h hln hso hn
    go_enter Tryd.func56, Tryd.ntmps56
    go_wp2_with (go_at_call 68; refine C1.out.mono ?_; rintro e w1 ⟨⟨i, e0, rfl, he⟩, hb1⟩; obtain rfl := he.2 rfl; clear he)
    have HB1 := hidD hb1
    clear hb1 C1
    go_loopw [18] (fun v V => ∃ i : Nat, i ≤ ln ∧ v = .int .i64 i ∧ (∀ j t, j < i → ts[j]? = some t → mayB n 48 t = true) ∧ Below w.heap.size w V) (fun v _ => ln - (intOf v).toNat)
    case atStart => exact ⟨0, Nat.zero_le _, rfl, fun j t hj => by omega, HB1.out⟩
    case round =>
      obtain ⟨i, hi, rfl, hall, hBV⟩ := hrel
      have HALL := hidD hall
      have HBV := hidD hBV
      clear hall hBV HB1
      by_cases hlt : i < ln
      · obtain ⟨t, ht⟩ : ∃ t, ts[i]? = some t := ⟨_, List.getElem?_eq_getElem (by have := HLN.out; omega)⟩
        obtain ⟨g, off, V, ea, hc5, hT⟩ := (HL.out.bel HBV.out).one ht
        subst ea
        have HTT := hidD ht
        obtain ⟨hg, p0, p1, p2, p3, p4⟩ := hc5
        obtain ⟨bt, hbt⟩ : ∃ bt, bt = mayB n 48 t := ⟨_, rfl⟩
        have HBT := hidD hbt
        have C3 : Hid (Calls Tryd.prog 69 #[.int .i64 n, V.v] (wr.alloc V.o) fun e w' => e = .returned (.bool bt) ∧ Below (wr.alloc V.o).heap.size (wr.alloc V.o) w') := by
          have := C2.out t V (wr.alloc V.o) (hT.bel (belA (Below.refl _ _)))
          rw [← hbt] at this
          exact this
        have j0 : (0 : Int) ≤ (i : Int) := by omega
        have j1 : (i : Int) < (ln : Int) := by omega
        clear hT ht hbt
        cases bt with
        | false =>
          have hbf : b = false := by
            cases hbb : b with
            | false => rfl
            | true =>
              have := HB.out.1 hbb t (List.mem_of_getElem? HTT.out)
              rw [← HBT.out] at this
              cases this
          subst hbf
          go_wp2_with (go_at_call 69; refine C3.out.mono ?_; rintro e w2 ⟨rfl, hb2⟩)
          go_ret
          exact ⟨rfl, below_aft HBV.out (below1 hb2)⟩
        | true =>
          have j2 : (i : Int) + 1 ≤ 9223372036854775807 := by omega
          go_wp2_with (go_at_call 69; refine C3.out.mono ?_; rintro e w2 ⟨rfl, hb2⟩)
          refine ⟨⟨i + 1, hlt, rfl, fun j t' hj ht' => ?_, below_aft HBV.out (below1 hb2)⟩, ?_⟩
          · by_cases e : j = i
            · subst e
              rw [HTT.out] at ht'
              cases ht'
              exact HBT.out.symm
            · exact HALL.out j t' (by omega) ht'
          · show ln - ((i : Int) + 1).toNat < ln - (i : Int).toNat
            omega
      · obtain rfl : i = ln := by omega
        have lt : ¬ (i : Int) < (i : Int) := by omega
        have hbt : b = true := HB.out.2 fun t ht => by
          obtain ⟨j, hj⟩ := List.mem_iff_getElem?.1 ht
          exact HALL.out j t (by have := (List.getElem?_eq_some_iff.1 hj).1; have := HLN.out; omega) hj
        subst hbt
        go_wp2_with fail
        go_ret
        exact ⟨rfl, HBV.out⟩
end Go.Proofs.YtnohcppipkpgmaaDoor
