import Derived.Test.YtjchbclkdbojpaaDoorCf
import Derived.Test.YtjchbclkdbojpaaDoorCg
import Derived.Test.YtjchbclkdbojpaaDoorAf
import Derived.Test.YtjchbclkdbojpaaDoorPw
import Derived.Lib.AppendIntMem
namespace Go.Proofs.YtjchbclkdbojpaaDoor
open Go.RowKit Go.Shelf
set_option linter.unusedVariables false
set_option linter.unusedSimpArgs false

def TabOk (w : World) : Prop := ∀ W, Below w.heap.size w W → Lib.TabIs Tryd.prog W "internal/strconv.uint64pow10" .u64 Lib.pow10Tab
theorem it_tab {w : World} (h : TabOk w) {n : Int} (h0 : -9223372036854775808 ≤ n) (h1 : n ≤ 9223372036854775807) : ItC w n := fun W hW =>
  (Tryd.strconv_Itoa n h0 h1 W (h W hW)).mono fun e w' k => ⟨k.1, by obtain ⟨q, os, rfl⟩ := k.2; exact Lib.below_grow _ _ (Nat.le_refl _) _ _⟩
theorem TabOk.bel {w W : World} (h : TabOk w) (hW : Below w.heap.size w W) : TabOk W := fun V hV => h V (below_aft hW hV)
theorem nums_rg : ∀ (c : Ch), c.rg → ∀ n ∈ c.nums, -9223372036854775808 ≤ n ∧ n ≤ 9223372036854775807
  | .leaf k s, h, n, hn => by
    unfold Ch.nums at hn
    split at hn
    · simp at hn; subst hn; exact h.2
    · cases hn
  | .box c, h, n, hn => nums_rg c h n hn
  | .ref m r c, h, n, hn => by
    unfold Ch.nums at hn
    split at hn
    · rw [List.mem_cons] at hn
      rcases hn with rfl | hn
      · exact h.1
      · exact nums_rg c h.2 n hn
    · exact nums_rg c h.2 n hn
theorem ty_rg {w : World} : ∀ {c : Ch} {f : Fv}, TyAt w f c.ty → c.rg
  | .leaf k s, f, h => by obtain ⟨a, cap, rfl, h1, h2, h3⟩ := h.leaf; exact ⟨h1, h2, h3⟩
  | .box c, f, h => by obtain ⟨g, off, cap, f', rfl, _, h2⟩ := h.box; exact ty_rg (c := c) h2
  | .ref m r c, f, h => by obtain ⟨g, off, cap, f', rfl, _, h2, h3, h4⟩ := h.ref; exact ⟨⟨h3, h4⟩, ty_rg (c := c) h2⟩
/-- What a text is read to, on both sides. -/
def RdC (fn : Nat) (S : List UInt8) (p no : Int) (C : Ch) : Prop := ∀ W, Calls Tryd.prog fn #[.string (str S)] W fun e w' => ∃ f : Fv, e = .returned (.tuple #[f.v, .int .i64 p, .int .i64 no]) ∧ New W w' f C
def TxC (fn : Nat) (f : Fv) (T : ByteArray) (no : Int) (w : World) : Prop := ∀ W, Below w.heap.size w W → Calls Tryd.prog fn #[f.v] W fun e w' => e = .returned (.tuple #[.string T, .int .i64 no]) ∧ Below W.heap.size W w'
theorem read_both (S : List UInt8) (hS : S.length ≤ 16384) : ∃ p no C, RdC 42 S p no C ∧ RdC 43 S p no C ∧ C.rg := by
  have zr : (Ch.leaf 0 0).rg := ⟨by decide, by decide, by decide⟩
  have none_new : ∀ {W w' : World}, Below W.heap.size W w' → New W w' zT (.leaf 0 0) := fun hb => ⟨.leaf 0 0 none 0, hb⟩
  obtain ⟨q, oc, hR⟩ : ∃ q oc, rdT S 48 0 = (q, oc) := ⟨_, _, rfl⟩
  cases oc with
  | none =>
    refine ⟨(q : Int), 60, .leaf 0 0, fun W => (Read_none S W hS _ rfl q none hR rfl).mono ?_, fun W => rRead_none S W hS _ rfl q hR, zr⟩
    rintro e w' ⟨rfl, hb⟩
    exact ⟨zT, rfl, none_new hb⟩
  | some c =>
    obtain ⟨h1, h2, h3, h4⟩ := rd_back S 48 0 q c hR
    rcases Nat.lt_or_ge q S.length with hlt | hge
    · refine ⟨(q : Int), 60, .leaf 0 0, fun W => (Read_part S W hS _ rfl q _ c hR hlt rfl).mono ?_, fun W => rRead_part S W hS _ rfl q c hlt hR, zr⟩
      rintro e w' ⟨rfl, hb⟩
      exact ⟨zT, rfl, none_new hb⟩
    · have hle : q ≤ S.length := by
        have e1 := h4.1
        have e2 := congrArg List.length h4.2
        simp at e2
        omega
      refine ⟨0, 0, c, fun W => (Read_yes S W hS _ rfl q _ c hR (by omega) rfl).mono ?_, fun W => rRead_yes S W hS _ rfl q c hR (by omega), h2⟩
      rintro e w' ⟨⟨f, rfl, ho⟩, hb⟩
      exact ⟨f, rfl, ⟨ho.toL, hb⟩⟩
theorem text_both (t : Ty) (f : Fv) (w : World) (h : TyAt w f t) (hT : TabOk w) : ∃ T no, TxC 40 f T no w ∧ TxC 41 f T no w := by
  cases hb : isT t with
  | false => exact ⟨str [], 2, fun W hW => Text_no t f W (h.bel hW) hb, fun W hW => rText_no t f W (h.bel hW) hb⟩
  | true =>
    obtain ⟨c, rfl, hc⟩ := ok_of hb
    have hr := ty_rg h
    have hI : ∀ W, Below w.heap.size w W → ∀ n ∈ c.nums, ItC W n := fun W hW n hn => it_tab (hT.bel hW) (nums_rg c hr n hn).1 (nums_rg c hr n hn).2
    exact ⟨str (txt c), 0, fun W hW => Text_yes c f W hc hr (h.bel hW) (hI W hW), fun W hW => rText_yes c f W hc hr (h.bel hW) (hI W hW)⟩
set_option maxRecDepth 100000 in
set_option maxHeartbeats 1000000 in
theorem texts_big1 (t : Ty) (f : Fv) (v : Value) (w : World) (h : TyAt w f t) (hF : FitC 60 t false) :
    Calls Tryd.prog 6 #[f.v, v] w fun e w' => e = .returned (.bool true) ∧ Below w.heap.size w w' := by
  have CA : Hid (∀ W, Calls Tryd.prog 11 #[] W fun e w' => e = .returned (.bool true) ∧ Below W.heap.size W w') := awake_true
  have CF : Hid (Calls Tryd.prog 10 #[f.v, .int .i64 60] (w.alloc f.o) fun e w' => e = .returned (.bool false) ∧ Below (w.alloc f.o).heap.size (w.alloc f.o) w') := hF f _ (h.bel (belA (Below.refl _ _)))
  obtain ⟨k, m, r, s, a, n, cap⟩ := f
  show Calls Tryd.prog 6 #[tyV k m r s a n cap, v] w _
  clear h hF
  go_enter Tryd.func6, Tryd.ntmps6
  go_wp2_with (first
    | (go_at_call 10; refine CF.out.mono ?_; rintro e w1 ⟨rfl, hb1⟩)
    | (go_at_call 11; refine (CA.out _).mono ?_; rintro e w7 ⟨rfl, hb7⟩))
  go_ret
  exact ⟨rfl, below_aft (below1 hb1) hb7⟩
set_option maxRecDepth 100000 in
set_option maxHeartbeats 1000000 in
theorem texts_big2 (t : Ty) (f : Fv) (S : List UInt8) (n0 : Nat) (hn0 : S.length = n0) (hbig : 8192 < n0) (w : World) (h : TyAt w f t) (hF : FitC 60 t true) :
    Calls Tryd.prog 6 #[f.v, .string (str S)] w fun e w' => e = .returned (.bool true) ∧ Below w.heap.size w w' := by
  have CA : Hid (∀ W, Calls Tryd.prog 11 #[] W fun e w' => e = .returned (.bool true) ∧ Below W.heap.size W w') := awake_true
  have CF : Hid (Calls Tryd.prog 10 #[f.v, .int .i64 60] (w.alloc f.o) fun e w' => e = .returned (.bool true) ∧ Below (w.alloc f.o).heap.size (w.alloc f.o) w') := hF f _ (h.bel (belA (Below.refl _ _)))
  have hsz : (str S).size = n0 := hn0
  have k1 : (8192 : Int) < (n0 : Int) := by omega
  obtain ⟨k, m, r, s, a, n, cap⟩ := f
  show Calls Tryd.prog 6 #[tyV k m r s a n cap, .string (str S)] w _
  clear h hF hn0
  go_enter Tryd.func6, Tryd.ntmps6
  go_wp2_with (first
    | (go_at_call 10; refine CF.out.mono ?_; rintro e w1 ⟨rfl, hb1⟩)
    | (go_at_call 11; refine (CA.out _).mono ?_; rintro e w7 ⟨rfl, hb7⟩))
  go_ret
  exact ⟨rfl, below_aft (below1 hb1) hb7⟩
set_option maxRecDepth 100000 in
set_option maxHeartbeats 4000000 in
theorem texts_fit (t : Ty) (f : Fv) (S : List UInt8) (n0 : Nat) (hn0 : S.length = n0) (hbig : n0 ≤ 8192) (w : World) (h : TyAt w f t) (hF : FitC 60 t true) (T : ByteArray) (nt : Int) (ht1 : TxC 40 f T nt w) (ht2 : TxC 41 f T nt w) (p no : Int) (C : Ch) (hr1 : RdC 42 S p no C) (hr2 : RdC 43 S p no C) (hrg : C.rg) :
    Calls Tryd.prog 6 #[f.v, .string (str S)] w fun e w' => e = .returned (.bool true) ∧ Below w.heap.size w w' := by
  have CA : Hid (∀ W, Calls Tryd.prog 11 #[] W fun e w' => e = .returned (.bool true) ∧ Below W.heap.size W w') := awake_true
  have CF : Hid (Calls Tryd.prog 10 #[f.v, .int .i64 60] (w.alloc f.o) fun e w' => e = .returned (.bool true) ∧ Below (w.alloc f.o).heap.size (w.alloc f.o) w') := hF f _ (h.bel (belA (Below.refl _ _)))
  have HA1 : Hid (At (w.alloc f.o) w.heap.size f.o) := At.new _ _
  have H1 := hid ht1
  have H2 := hid ht2
  have HR1 := hid hr1
  have HR2 := hid hr2
  have HRG := hid hrg
  have hsz : (str S).size = n0 := hn0
  have k1 : ¬ (8192 : Int) < (n0 : Int) := by omega
  obtain ⟨k, m, r, s, a, n, cap⟩ := f
  show Calls Tryd.prog 6 #[tyV k m r s a n cap, .string (str S)] w _
  obtain ⟨SS, hSS⟩ : ∃ SS, SS = str S := ⟨_, rfl⟩
  have HR1' : Hid (∀ W, Calls Tryd.prog 42 #[.string SS] W fun e w' => ∃ f : Fv, e = .returned (.tuple #[f.v, .int .i64 p, .int .i64 no]) ∧ New W w' f C) := by rw [hSS]; exact hr1
  have HR2' : Hid (∀ W, Calls Tryd.prog 43 #[.string SS] W fun e w' => ∃ f : Fv, e = .returned (.tuple #[f.v, .int .i64 p, .int .i64 no]) ∧ New W w' f C) := by rw [hSS]; exact hr2
  rw [← hSS] at hsz ⊢
  clear h hF hn0 hSS ht1 ht2 hr1 hr2 hrg HR1 HR2
  have st1 : Stg 1 := .mk 1
  go_enter Tryd.func6, Tryd.ntmps6
  go_wp2_with (first
    | (go_at_call 10; refine CF.out.mono ?_; rintro e w1 ⟨rfl, hb1⟩; obtain ⟨hlp, p0, p1, p2, p3, p4⟩ := (HA1.out.below hb1).ty)
    | (go_at_call 40; refine (H1.out w1 (below1 hb1)).mono ?_; rintro e w2 ⟨rfl, hb2⟩; clear p0 p1 p2 p3 p4 hlp; obtain ⟨hlp, p0, p1, p2, p3, p4⟩ := ((HA1.out.below hb1).below hb2).ty)
    | (go_at_call 41; refine (H2.out w2 (below_aft (below1 hb1) hb2)).mono ?_; rintro e w3 ⟨rfl, hb3⟩; clear p0 p1 p2 p3 p4 hlp)
    | (have _s := st1; clear st1 _s; go_at_call 42; refine (HR1'.out w3).mono ?_; rintro e w4 ⟨fa, rfl, hN4⟩; have st2 : Stg 2 := .mk 2)
    | (have _s := st2; clear st2 _s; go_at_call 42; refine (HR1'.out (w4.alloc fa.o)).mono ?_; rintro e w5 ⟨fb, rfl, hN5⟩)
    | (go_at_call 43; refine (HR2'.out (w5.alloc fb.o)).mono ?_; rintro e w6 ⟨fx, rfl, hN6⟩; have A6 : Hid (At w6 w4.heap.size fa.o) := (((At.new w4 fa.o).below hN5.bel).alloc fb.o).below hN6.bel; have B6 : Hid (At w6 w5.heap.size fb.o) := (At.new w5 fb.o).below hN6.bel; have X6 : Hid (At (w6.alloc fx.o) w6.heap.size fx.o) := At.new w6 fx.o; have OA : Hid (OwnL (w6.alloc fx.o) w3.heap.size w4.heap.size fa C) := (((hN4.own.bel (belA (Below.refl _ _))).bel hN5.bel).bel (belA (Below.refl _ _))).bel hN6.bel |>.bel (belA (Below.refl _ _)); have OB : Hid (OwnL (w6.alloc fx.o) (w4.heap.size + 1) w5.heap.size fb C) := (((hN5.own.low (by simp) (Nat.le_refl _)).bel (belA (Below.refl _ _))).bel hN6.bel).bel (belA (Below.refl _ _)); have OX : Hid (OwnL (w6.alloc fx.o) (w5.heap.size + 1) w6.heap.size fx C) := (hN6.own.low (by simp) (Nat.le_refl _)).bel (belA (Below.refl _ _)); have s34 := hN4.bel.size; have s45 : w4.heap.size + 1 ≤ w5.heap.size := (by have := hN5.bel.size; simp only [World.size_alloc] at this; exact this); have s56 : w5.heap.size + 1 ≤ w6.heap.size := (by have := hN6.bel.size; simp only [World.size_alloc] at this; exact this); have HBw : Hid (Below w.heap.size w (w6.alloc fx.o)) := belA (below_aft (belA (below_aft (belA (below_aft (below_aft (below_aft (below1 hb1) hb2) hb3) hN4.bel)) hN5.bel)) hN6.bel); clear hN4 hN5 hN6; have st3 : Stg 3 := .mk 3; obtain ⟨hlp, p0, p1, p2, p3, p4⟩ := A6.out.ty; simp only [Nat.zero_add] at p0 p1 p2 p3 p4)
    | (have _s := st3; clear st3 _s; go_at_call 24; refine (equal_same C fa fx (w6.alloc fx.o) (OA.out.ty HRG.out) (OX.out.ty HRG.out)).mono ?_; rintro e w7 ⟨rfl, hb7⟩; clear p0 p1 p2 p3 p4 hlp; obtain ⟨hlp, p0, p1, p2, p3, p4⟩ := ((A6.out.alloc fx.o).below hb7).ty; simp only [Nat.zero_add] at p0 p1 p2 p3 p4; have st4 : Stg 4 := .mk 4)
    | (go_at_call 25; refine (spoil_any C fa w7 _ _ (OA.out.bel hb7) s34 (by have := hb7.size; simp only [World.size_alloc] at this; omega)).mono ?_; rintro e w8 ⟨rfl, ho8⟩; have B8 := ho8.at ((B6.out.alloc fx.o).below hb7) (.inr (by omega)); have X8 := ho8.at (X6.out.below hb7) (.inr (by omega)); have OB8 := hid ((OB.out.bel hb7).out ho8 (.inr (by omega))); have OX8 := hid ((OX.out.bel hb7).out ho8 (.inr (by omega))); have HB8 : Hid (Below w.heap.size w w8) := (below_aft HBw.out hb7).trans (ho8.bel.mono (by have h1 := hb1.size; have h2 := hb2.size; have h3 := hb3.size; simp only [World.size_alloc] at h1; omega)); clear p0 p1 p2 p3 p4 hlp; obtain ⟨hlp, p0, p1, p2, p3, p4⟩ := B8.ty; obtain ⟨hlq, q0, q1, q2, q3, q4⟩ := X8.ty; simp only [Nat.zero_add] at p0 p1 p2 p3 p4 q0 q1 q2 q3 q4)
    | (have _s := st4; clear st4 _s; go_at_call 24; refine (equal_same C fb fx w8 (OB8.out.ty HRG.out) (OX8.out.ty HRG.out)).mono ?_; rintro e w9 ⟨rfl, hb9⟩)
    | (go_at_call 11; refine (CA.out _).mono ?_; rintro e w10 ⟨rfl, hb10⟩))
  go_ret
  exact ⟨rfl, below_aft (below_aft HB8.out hb9) hb10⟩
theorem texts_walk (t : Ty) (f : Fv) (S : List UInt8) (w : World) (h : TyAt w f t) (hT : TabOk w) :
    Calls Tryd.prog 6 #[f.v, .string (str S)] w fun e w' => e = .returned (.bool true) ∧ Below w.heap.size w w' := by
  obtain ⟨b1, hF⟩ := fits_ex 60 60 rfl (by decide) t
  cases b1 with
  | false => exact texts_big1 t f _ w h hF
  | true =>
    rcases Nat.lt_or_ge 8192 S.length with hn | hn
    · exact texts_big2 t f S _ rfl hn w h hF
    · obtain ⟨T, nt, h1, h2⟩ := text_both t f w h hT
      obtain ⟨p, no, C, h3, h4, h5⟩ := read_both S (by omega)
      exact texts_fit t f S _ rfl hn w h hF T nt h1 h2 p no C h3 h4 h5
end Go.Proofs.YtjchbclkdbojpaaDoor
