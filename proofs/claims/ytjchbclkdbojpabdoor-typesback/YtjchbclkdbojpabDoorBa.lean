import Derived.Test.YtjchbclkdbojpabDoorAb
import Derived.Test.YtjchbclkdbojpabDoorE
import Derived.Test.YtjchbclkdbojpabDoorPw
import Derived.Lib.AppendIntMem
namespace Go.Proofs.YtjchbclkdbojpabDoor
open Go.RowKit Go.Shelf
set_option linter.unusedVariables false
set_option linter.unusedSimpArgs false

def TabOk (w : World) : Prop := ∀ W, Below w.heap.size w W → Lib.TabIs Tryd.prog W "internal/strconv.uint64pow10" .u64 Lib.pow10Tab
theorem it_tab {w : World} (h : TabOk w) {n : Int} (h0 : -9223372036854775808 ≤ n) (h1 : n ≤ 9223372036854775807) : ItC w n := fun W hW =>
  (Tryd.strconv_Itoa n h0 h1 W (h W hW)).mono fun e w' k => ⟨k.1, by obtain ⟨q, os, rfl⟩ := k.2; exact Lib.below_grow _ _ (Nat.le_refl _) _ _⟩
theorem TabOk.bel {w W : World} (h : TabOk w) (hW : Below w.heap.size w W) : TabOk W := fun V hV => h V (below_aft hW hV)
theorem nums_rg : ∀ (c : Ch), c.rg → ∀ n ∈ c.nums, -9223372036854775808 ≤ n ∧ n ≤ 9223372036854775807
  | .leaf k s, h, n, hn => by
    unfold Ch.nums at hn
    split at hn
    · simp at hn; subst hn; exact h.2
    · cases hn
  | .box c, h, n, hn => nums_rg c h n hn
  | .ref m r c, h, n, hn => by
    unfold Ch.nums at hn
    split at hn
    · rw [List.mem_cons] at hn
      rcases hn with rfl | hn
      · exact h.1
      · exact nums_rg c h.2 n hn
    · exact nums_rg c h.2 n hn
theorem rg_of : ∀ {c : Ch} {w : World} {f : Fv}, TyAt w f c.ty → c.rg
  | .leaf k s, w, f, h => by obtain ⟨a, cap, rfl, h1, h2, h3⟩ := h.leaf; exact ⟨h1, h2, h3⟩
  | .box c, w, f, h => by obtain ⟨g, off, cap, f', rfl, h1, h2⟩ := h.box; exact rg_of (c := c) h2
  | .ref m r c, w, f, h => by obtain ⟨g, off, cap, f', rfl, h1, h2, h3, h4⟩ := h.ref; exact ⟨⟨h3, h4⟩, rg_of (c := c) h2⟩
theorem rdT_le (S : List UInt8) : ∀ (n p : Nat), p ≤ S.length → (rdT S n p).1 ≤ S.length
  | 0, p, h => h
  | n + 1, p, h => by
    have hlt : ∀ {x}, ah S p = x → x ≠ 0 → p + 1 ≤ S.length := fun he hx => ah_lt (by rw [he]; exact hx)
    unfold rdT
    split
    · exact tk_le S _ p h (by simp)
    split
    · exact tk_le S _ p h (by simp)
    split
    · rename_i ha
      exact (nm_le S 31 (p + 1) _ 0 (p + 1) (hlt ha (by omega)) (by omega)).1
    split
    · have h1 := tk_le S [66, 111, 120, 60] p h (by simp)
      have h2 := rdT_le S n _ h1
      split
      · split
        · exact h2
        · exact tk_le S _ _ h2 (by simp)
      · exact h1
    split
    · rename_i ha
      have hp1 : p + 1 ≤ S.length := hlt ha.1 (by omega)
      have h1 : (hdP S (n + 1) (p + 1)).2.2.1 ≤ S.length := by
        unfold hdP
        split
        · rename_i a39
          have hg := (rg_le (S := S) (p := p + 1) (ah_lt (by rw [a39]; omega))).1
          split
          · split
            · exact tk_le S _ _ hg (by simp)
            · exact hg
          · exact hg
        split
        · exact tk_le S _ _ hp1 (by simp)
        · exact ap_le hp1
      split
      · exact rdT_le S n _ h1
      · exact h1
    · exact h
/-- What Read says of any text. -/
theorem read_any (S : List UInt8) (hS : S.length ≤ 16384) : (∃ c, rdT S 48 0 = (S.length, some c) ∧ ∀ w, Calls Tryd.prog 7 #[.string (str S)] w fun e w' => (∃ f : Fv, e = .returned (.tuple #[f.v, .int .i64 0, .int .i64 0]) ∧ Own w' w.heap.size f c) ∧ Below w.heap.size w w') ∨
    (∃ q : Nat, q ≤ S.length ∧ ∀ w, Calls Tryd.prog 7 #[.string (str S)] w fun e w' => e = .returned (.tuple #[zT.v, .int .i64 (q : Int), .int .i64 60]) ∧ Below w.heap.size w w') := by
  obtain ⟨⟨q, oc⟩, hR⟩ : ∃ T, rdT S 48 0 = T := ⟨_, rfl⟩
  have hq : q ≤ S.length := by
    have h := rdT_le S 48 0 (Nat.zero_le _)
    rw [hR] at h
    exact h
  cases oc with
  | none => exact .inr ⟨q, hq, fun w => Read_none S w hS _ rfl q none hR rfl⟩
  | some c =>
    by_cases e : q = S.length
    · left
      refine ⟨c, by rw [hR, e], ?_⟩
      exact fun w => Read_yes S w hS _ rfl q (some c) c hR e rfl
    · exact .inr ⟨q, hq, fun w => Read_part S w hS _ rfl q (some c) c hR (by omega) rfl⟩
set_option maxRecDepth 100000 in
set_option maxHeartbeats 4000000 in
theorem back_big (t : Ty) (f : Fv) (S : List UInt8) (n : Nat) (hn : S.length = n) (w : World) (h : TyAt w f t) (hF : FitC 60 t false) :
    Calls Tryd.prog 3 #[f.v, .string (str S)] w fun e w' => e = .returned (.bool true) ∧ Below w.heap.size w w' := by
  have CA : Hid (∀ W, Calls Tryd.prog 5 #[] W fun e w' => e = .returned (.bool true) ∧ Below W.heap.size W w') := awake_true
  have A0 : At (w.alloc f.o) w.heap.size f.o := At.new _ _
  have hsz : (str S).size = n := hn
  have HT : Hid (TyAt w f t) := h
  have CF : Hid (Calls Tryd.prog 4 #[f.v, .int .i64 60] (w.alloc f.o) fun e w' => e = .returned (.bool false) ∧ Below (w.alloc f.o).heap.size (w.alloc f.o) w') := hF f _ (h.bel (belA (Below.refl _ _)))
  obtain ⟨k, m, r, s, a, nn, cap⟩ := f
  show Calls Tryd.prog 3 #[tyV k m r s a nn cap, .string (str S)] w _
  clear h hn hF
  have st1 : Stg 1 := .mk 1
  go_enter Tryd.func3, Tryd.ntmps3
  go_wp2_with (first
    | (go_at_call 4; refine CF.out.mono ?_; rintro e w1 ⟨rfl, hb1⟩; have B1 : Below w.heap.size w w1 := below1 hb1; obtain ⟨hl, p0, p1, p2, p3, p4⟩ := (A0.below hb1).ty)
    | (go_at_call 5; refine (CA.out _).mono ?_; rintro e w2 ⟨rfl, hb2⟩))
  go_ret
  exact ⟨rfl, below_aft B1 hb2⟩
set_option maxRecDepth 100000 in
set_option maxHeartbeats 4000000 in
theorem back_long (t : Ty) (f : Fv) (S : List UInt8) (n : Nat) (hn : S.length = n) (w : World) (h : TyAt w f t) (hF : FitC 60 t true) (hl : 8192 < n) :
    Calls Tryd.prog 3 #[f.v, .string (str S)] w fun e w' => e = .returned (.bool true) ∧ Below w.heap.size w w' := by
  have CA : Hid (∀ W, Calls Tryd.prog 5 #[] W fun e w' => e = .returned (.bool true) ∧ Below W.heap.size W w') := awake_true
  have A0 : At (w.alloc f.o) w.heap.size f.o := At.new _ _
  have hsz : (str S).size = n := hn
  have HT : Hid (TyAt w f t) := h
  have CF : Hid (Calls Tryd.prog 4 #[f.v, .int .i64 60] (w.alloc f.o) fun e w' => e = .returned (.bool true) ∧ Below (w.alloc f.o).heap.size (w.alloc f.o) w') := hF f _ (h.bel (belA (Below.refl _ _)))
  have hl2 : (8192 : Int) < (n : Int) := by omega
  obtain ⟨k, m, r, s, a, nn, cap⟩ := f
  show Calls Tryd.prog 3 #[tyV k m r s a nn cap, .string (str S)] w _
  clear h hn hF hl
  have st1 : Stg 1 := .mk 1
  go_enter Tryd.func3, Tryd.ntmps3
  go_wp2_with (first
    | (go_at_call 4; refine CF.out.mono ?_; rintro e w1 ⟨rfl, hb1⟩; have B1 : Below w.heap.size w w1 := below1 hb1; obtain ⟨hl, p0, p1, p2, p3, p4⟩ := (A0.below hb1).ty)
    | (go_at_call 5; refine (CA.out _).mono ?_; rintro e w2 ⟨rfl, hb2⟩))
  go_ret
  exact ⟨rfl, below_aft B1 hb2⟩
set_option maxRecDepth 100000 in
set_option maxHeartbeats 4000000 in
theorem back_cyy (c : Ch) (f : Fv) (S : List UInt8) (n : Nat) (hn : S.length = n) (w : World) (h : TyAt w f c.ty) (hlen : n ≤ 8192) (hF : FitC 60 c.ty true) (hc : Ok c) (hTab : TabOk w) (d : Ch) (hR : rdT S 48 0 = (n, some d)) (hRd : ∀ W, Calls Tryd.prog 7 #[.string (str S)] W fun e w' => (∃ f : Fv, e = .returned (.tuple #[f.v, .int .i64 0, .int .i64 0]) ∧ Own w' W.heap.size f d) ∧ Below W.heap.size W w')  :
    Calls Tryd.prog 3 #[f.v, .string (str S)] w fun e w' => e = .returned (.bool true) ∧ Below w.heap.size w w' := by
  have CA : Hid (∀ W, Calls Tryd.prog 5 #[] W fun e w' => e = .returned (.bool true) ∧ Below W.heap.size W w') := awake_true
  have A0 : At (w.alloc f.o) w.heap.size f.o := At.new _ _
  have hsz : (str S).size = n := hn
  have HT : Hid (TyAt w f c.ty) := h
  have CF : Hid (Calls Tryd.prog 4 #[f.v, .int .i64 60] (w.alloc f.o) fun e w' => e = .returned (.bool true) ∧ Below (w.alloc f.o).heap.size (w.alloc f.o) w') := hF f _ (h.bel (belA (Below.refl _ _)))
  have hl2 : ¬ (8192 : Int) < (n : Int) := by omega
  have hr := rg_of h
  have CT : Hid (∀ W, Below w.heap.size w W → Calls Tryd.prog 6 #[f.v] W fun e w' => e = .returned (.tuple #[.string (str (txt c)), .int .i64 0]) ∧ Below W.heap.size W w') := fun W hW => Text_yes c f W hc hr (h.bel hW) (fun n hn => it_tab (hTab.bel hW) (nums_rg c hr n hn).1 (nums_rg c hr n hn).2)
  have CR : Hid (∀ W, Calls Tryd.prog 7 #[.string (str (txt c))] W fun e w' => (∃ f : Fv, e = .returned (.tuple #[f.v, .int .i64 0, .int .i64 0]) ∧ Own w' W.heap.size f c) ∧ Below W.heap.size W w') := fun W => Read_yes (txt c) W (by have := txt_len c hr; have := hc.deep; omega) _ rfl _ _ c (read_txt c hc hr) rfl rfl
  have CS : Hid (∀ W (g : Fv), Below w.heap.size w W → TyAt W g c.ty → Calls Tryd.prog 8 #[g.v, f.v] W fun e w' => e = .returned (.bool true) ∧ Below W.heap.size W w') := fun W g hW hg => by
    have := Same_yes c c g f W hg (h.bel hW) hc hc
    rw [same_self c] at this
    exact this
  have HRG : Hid c.rg := hr
  obtain ⟨tx, htx⟩ : ∃ tx, tx = str (txt c) := ⟨_, rfl⟩
  rw [← htx] at CT CR
  obtain ⟨hd, hdr, hde⟩ := txt_read S d (by rw [hR, hn])
  have CD : Hid (∀ W, Calls Tryd.prog 7 #[.string (str S)] W fun e w' => (∃ f : Fv, e = .returned (.tuple #[f.v, .int .i64 0, .int .i64 0]) ∧ Own w' W.heap.size f d) ∧ Below W.heap.size W w') := hRd
  have CX : Hid (∀ W (g : Fv), Below w.heap.size w W → TyAt W g d.ty → Calls Tryd.prog 6 #[g.v] W fun e w' => e = .returned (.tuple #[.string (str S), .int .i64 0]) ∧ Below W.heap.size W w') := fun W g hW hg => by
    have := Text_yes d g W hd hdr hg (fun n hn => it_tab (hTab.bel hW) (nums_rg d hdr n hn).1 (nums_rg d hdr n hn).2)
    rw [hde] at this
    exact this
  have HDR : Hid d.rg := hdr
  obtain ⟨k, m, r, s, a, nn, cap⟩ := f
  show Calls Tryd.prog 3 #[tyV k m r s a nn cap, .string (str S)] w _
  clear h hn hF hlen hc hTab hr htx hR hRd hd hdr hde
  have st1 : Stg 1 := .mk 1
  go_enter Tryd.func3, Tryd.ntmps3
  go_wp2_with (first
    | (go_at_call 4; refine CF.out.mono ?_; rintro e w1 ⟨rfl, hb1⟩; have B1 : Below w.heap.size w w1 := below1 hb1; obtain ⟨hl, p0, p1, p2, p3, p4⟩ := (A0.below hb1).ty)
    | (have _s := st1; clear st1 _s; go_at_call 6; refine (CT.out _ B1).mono ?_; rintro e w2 ⟨rfl, hb2⟩; have st2 : Stg 2 := .mk 2; have B2 := below_aft B1 hb2; have K2 : Below (w.alloc (tyO k m r s a nn cap)).heap.size (w.alloc (tyO k m r s a nn cap)) w2 := below_aft hb1 hb2; clear p0 p1 p2 p3 p4 hl)
    | (have _s := st2; clear st2 _s; go_at_call 7; refine (CR.out _).mono ?_; rintro e w3 ⟨⟨fx, rfl, ox⟩, hb3⟩; have st3 : Stg 3 := .mk 3; have B3 := below_aft B2 hb3; have K3 := below_aft K2 hb3; have AX : At (w3.alloc fx.o) w3.heap.size fx.o := At.new _ _; have HX := (show Hid (TyAt w3 fx c.ty) from ox.ty HRG.out); obtain ⟨hl, p0, p1, p2, p3, p4⟩ := (A0.below K3).ty; clear ox)
    | (go_at_call 8; refine (CS.out _ fx (belA B3) (HX.out.bel (belA (Below.refl _ _)))).mono ?_; rintro e w4 ⟨rfl, hb4⟩; have B4 := below_aft (belA B3) hb4; clear p0 p1 p2 p3 p4 hl)
    | (have _s := st3; clear st3 _s; go_at_call 7; refine (CD.out _).mono ?_; rintro e w5 ⟨⟨fy, rfl, oy⟩, hb5⟩; have st4 : Stg 4 := .mk 4; have B5 := below_aft B4 hb5; have HY := (show Hid (TyAt w5 fy d.ty) from oy.ty HDR.out); clear oy)
    | (have _s := st4; clear st4 _s; go_at_call 6; refine (CX.out _ fy (belA B5) (HY.out.bel (belA (Below.refl _ _)))).mono ?_; rintro e w6 ⟨rfl, hb6⟩; have B6 := below_aft (belA B5) hb6)
    | (go_at_call 5; refine (CA.out _).mono ?_; rintro e w7 ⟨rfl, hb7⟩))
  go_ret
  exact ⟨rfl, below_aft B6 hb7⟩
set_option maxRecDepth 100000 in
set_option maxHeartbeats 4000000 in
theorem back_cyn (c : Ch) (f : Fv) (S : List UInt8) (n : Nat) (hn : S.length = n) (w : World) (h : TyAt w f c.ty) (hlen : n ≤ 8192) (hF : FitC 60 c.ty true) (hc : Ok c) (hTab : TabOk w) (q : Nat) (hq : q ≤ n) (hRd : ∀ W, Calls Tryd.prog 7 #[.string (str S)] W fun e w' => e = .returned (.tuple #[zT.v, .int .i64 (q : Int), .int .i64 60]) ∧ Below W.heap.size W w')  :
    Calls Tryd.prog 3 #[f.v, .string (str S)] w fun e w' => e = .returned (.bool true) ∧ Below w.heap.size w w' := by
  have CA : Hid (∀ W, Calls Tryd.prog 5 #[] W fun e w' => e = .returned (.bool true) ∧ Below W.heap.size W w') := awake_true
  have A0 : At (w.alloc f.o) w.heap.size f.o := At.new _ _
  have hsz : (str S).size = n := hn
  have HT : Hid (TyAt w f c.ty) := h
  have CF : Hid (Calls Tryd.prog 4 #[f.v, .int .i64 60] (w.alloc f.o) fun e w' => e = .returned (.bool true) ∧ Below (w.alloc f.o).heap.size (w.alloc f.o) w') := hF f _ (h.bel (belA (Below.refl _ _)))
  have hl2 : ¬ (8192 : Int) < (n : Int) := by omega
  have hr := rg_of h
  have CT : Hid (∀ W, Below w.heap.size w W → Calls Tryd.prog 6 #[f.v] W fun e w' => e = .returned (.tuple #[.string (str (txt c)), .int .i64 0]) ∧ Below W.heap.size W w') := fun W hW => Text_yes c f W hc hr (h.bel hW) (fun n hn => it_tab (hTab.bel hW) (nums_rg c hr n hn).1 (nums_rg c hr n hn).2)
  have CR : Hid (∀ W, Calls Tryd.prog 7 #[.string (str (txt c))] W fun e w' => (∃ f : Fv, e = .returned (.tuple #[f.v, .int .i64 0, .int .i64 0]) ∧ Own w' W.heap.size f c) ∧ Below W.heap.size W w') := fun W => Read_yes (txt c) W (by have := txt_len c hr; have := hc.deep; omega) _ rfl _ _ c (read_txt c hc hr) rfl rfl
  have CS : Hid (∀ W (g : Fv), Below w.heap.size w W → TyAt W g c.ty → Calls Tryd.prog 8 #[g.v, f.v] W fun e w' => e = .returned (.bool true) ∧ Below W.heap.size W w') := fun W g hW hg => by
    have := Same_yes c c g f W hg (h.bel hW) hc hc
    rw [same_self c] at this
    exact this
  have HRG : Hid c.rg := hr
  obtain ⟨tx, htx⟩ : ∃ tx, tx = str (txt c) := ⟨_, rfl⟩
  rw [← htx] at CT CR
  have CD : Hid (∀ W, Calls Tryd.prog 7 #[.string (str S)] W fun e w' => e = .returned (.tuple #[zT.v, .int .i64 (q : Int), .int .i64 60]) ∧ Below W.heap.size W w') := hRd
  have q0 : (0 : Int) ≤ (q : Int) := by omega
  have q1 : (q : Int) ≤ (n : Int) := by omega
  obtain ⟨k, m, r, s, a, nn, cap⟩ := f
  show Calls Tryd.prog 3 #[tyV k m r s a nn cap, .string (str S)] w _
  clear h hn hF hlen hc hTab hr htx hRd hq
  have st1 : Stg 1 := .mk 1
  go_enter Tryd.func3, Tryd.ntmps3
  go_wp2_with (first
    | (go_at_call 4; refine CF.out.mono ?_; rintro e w1 ⟨rfl, hb1⟩; have B1 : Below w.heap.size w w1 := below1 hb1; obtain ⟨hl, p0, p1, p2, p3, p4⟩ := (A0.below hb1).ty)
    | (have _s := st1; clear st1 _s; go_at_call 6; refine (CT.out _ B1).mono ?_; rintro e w2 ⟨rfl, hb2⟩; have st2 : Stg 2 := .mk 2; have B2 := below_aft B1 hb2; have K2 : Below (w.alloc (tyO k m r s a nn cap)).heap.size (w.alloc (tyO k m r s a nn cap)) w2 := below_aft hb1 hb2; clear p0 p1 p2 p3 p4 hl)
    | (have _s := st2; clear st2 _s; go_at_call 7; refine (CR.out _).mono ?_; rintro e w3 ⟨⟨fx, rfl, ox⟩, hb3⟩; have st3 : Stg 3 := .mk 3; have B3 := below_aft B2 hb3; have K3 := below_aft K2 hb3; have AX : At (w3.alloc fx.o) w3.heap.size fx.o := At.new _ _; have HX := (show Hid (TyAt w3 fx c.ty) from ox.ty HRG.out); obtain ⟨hl, p0, p1, p2, p3, p4⟩ := (A0.below K3).ty; clear ox)
    | (go_at_call 8; refine (CS.out _ fx (belA B3) (HX.out.bel (belA (Below.refl _ _)))).mono ?_; rintro e w4 ⟨rfl, hb4⟩; have B4 := below_aft (belA B3) hb4; clear p0 p1 p2 p3 p4 hl)
    | (have _s := st3; clear st3 _s; go_at_call 7; refine (CD.out _).mono ?_; rintro e w5 ⟨rfl, hb5⟩; have B5 := below_aft B4 hb5)
    | (go_at_call 5; refine (CA.out _).mono ?_; rintro e w7 ⟨rfl, hb7⟩))
  go_ret
  exact ⟨rfl, below_aft (belA B5) hb7⟩
set_option maxRecDepth 100000 in
set_option maxHeartbeats 4000000 in
theorem back_cny (t : Ty) (f : Fv) (S : List UInt8) (n : Nat) (hn : S.length = n) (w : World) (h : TyAt w f t) (hlen : n ≤ 8192) (hF : FitC 60 t true) (hno : isT t = false) (d : Ch) (hR : rdT S 48 0 = (n, some d)) (hRd : ∀ W, Calls Tryd.prog 7 #[.string (str S)] W fun e w' => (∃ f : Fv, e = .returned (.tuple #[f.v, .int .i64 0, .int .i64 0]) ∧ Own w' W.heap.size f d) ∧ Below W.heap.size W w') (hTab : TabOk w)  :
    Calls Tryd.prog 3 #[f.v, .string (str S)] w fun e w' => e = .returned (.bool true) ∧ Below w.heap.size w w' := by
  have CA : Hid (∀ W, Calls Tryd.prog 5 #[] W fun e w' => e = .returned (.bool true) ∧ Below W.heap.size W w') := awake_true
  have A0 : At (w.alloc f.o) w.heap.size f.o := At.new _ _
  have hsz : (str S).size = n := hn
  have HT : Hid (TyAt w f t) := h
  have CF : Hid (Calls Tryd.prog 4 #[f.v, .int .i64 60] (w.alloc f.o) fun e w' => e = .returned (.bool true) ∧ Below (w.alloc f.o).heap.size (w.alloc f.o) w') := hF f _ (h.bel (belA (Below.refl _ _)))
  have hl2 : ¬ (8192 : Int) < (n : Int) := by omega
  have CT : Hid (∀ W, Below w.heap.size w W → Calls Tryd.prog 6 #[f.v] W fun e w' => e = .returned (.tuple #[.string (str []), .int .i64 2]) ∧ Below W.heap.size W w') := fun W hW => Text_no t f W (h.bel hW) hno
  obtain ⟨hd, hdr, hde⟩ := txt_read S d (by rw [hR, hn])
  have CD : Hid (∀ W, Calls Tryd.prog 7 #[.string (str S)] W fun e w' => (∃ f : Fv, e = .returned (.tuple #[f.v, .int .i64 0, .int .i64 0]) ∧ Own w' W.heap.size f d) ∧ Below W.heap.size W w') := hRd
  have CX : Hid (∀ W (g : Fv), Below w.heap.size w W → TyAt W g d.ty → Calls Tryd.prog 6 #[g.v] W fun e w' => e = .returned (.tuple #[.string (str S), .int .i64 0]) ∧ Below W.heap.size W w') := fun W g hW hg => by
    have := Text_yes d g W hd hdr hg (fun n hn => it_tab (hTab.bel hW) (nums_rg d hdr n hn).1 (nums_rg d hdr n hn).2)
    rw [hde] at this
    exact this
  have HDR : Hid d.rg := hdr
  obtain ⟨k, m, r, s, a, nn, cap⟩ := f
  show Calls Tryd.prog 3 #[tyV k m r s a nn cap, .string (str S)] w _
  clear h hn hF hlen hno hR hRd hd hdr hde hTab
  have st1 : Stg 1 := .mk 1
  go_enter Tryd.func3, Tryd.ntmps3
  go_wp2_with (first
    | (go_at_call 4; refine CF.out.mono ?_; rintro e w1 ⟨rfl, hb1⟩; have B1 : Below w.heap.size w w1 := below1 hb1; obtain ⟨hl, p0, p1, p2, p3, p4⟩ := (A0.below hb1).ty)
    | (have _s := st1; clear st1 _s; go_at_call 6; refine (CT.out _ B1).mono ?_; rintro e w4 ⟨rfl, hb2⟩; have st3 : Stg 3 := .mk 3; have B4 := below_aft B1 hb2; clear p0 p1 p2 p3 p4 hl)
    | (have _s := st3; clear st3 _s; go_at_call 7; refine (CD.out _).mono ?_; rintro e w5 ⟨⟨fy, rfl, oy⟩, hb5⟩; have st4 : Stg 4 := .mk 4; have B5 := below_aft B4 hb5; have HY := (show Hid (TyAt w5 fy d.ty) from oy.ty HDR.out); clear oy)
    | (have _s := st4; clear st4 _s; go_at_call 6; refine (CX.out _ fy (belA B5) (HY.out.bel (belA (Below.refl _ _)))).mono ?_; rintro e w6 ⟨rfl, hb6⟩; have B6 := below_aft (belA B5) hb6)
    | (go_at_call 5; refine (CA.out _).mono ?_; rintro e w7 ⟨rfl, hb7⟩))
  go_ret
  exact ⟨rfl, below_aft B6 hb7⟩
set_option maxRecDepth 100000 in
set_option maxHeartbeats 4000000 in
theorem back_cnn (t : Ty) (f : Fv) (S : List UInt8) (n : Nat) (hn : S.length = n) (w : World) (h : TyAt w f t) (hlen : n ≤ 8192) (hF : FitC 60 t true) (hno : isT t = false) (q : Nat) (hq : q ≤ n) (hRd : ∀ W, Calls Tryd.prog 7 #[.string (str S)] W fun e w' => e = .returned (.tuple #[zT.v, .int .i64 (q : Int), .int .i64 60]) ∧ Below W.heap.size W w')  :
    Calls Tryd.prog 3 #[f.v, .string (str S)] w fun e w' => e = .returned (.bool true) ∧ Below w.heap.size w w' := by
  have CA : Hid (∀ W, Calls Tryd.prog 5 #[] W fun e w' => e = .returned (.bool true) ∧ Below W.heap.size W w') := awake_true
  have A0 : At (w.alloc f.o) w.heap.size f.o := At.new _ _
  have hsz : (str S).size = n := hn
  have HT : Hid (TyAt w f t) := h
  have CF : Hid (Calls Tryd.prog 4 #[f.v, .int .i64 60] (w.alloc f.o) fun e w' => e = .returned (.bool true) ∧ Below (w.alloc f.o).heap.size (w.alloc f.o) w') := hF f _ (h.bel (belA (Below.refl _ _)))
  have hl2 : ¬ (8192 : Int) < (n : Int) := by omega
  have CT : Hid (∀ W, Below w.heap.size w W → Calls Tryd.prog 6 #[f.v] W fun e w' => e = .returned (.tuple #[.string (str []), .int .i64 2]) ∧ Below W.heap.size W w') := fun W hW => Text_no t f W (h.bel hW) hno
  have CD : Hid (∀ W, Calls Tryd.prog 7 #[.string (str S)] W fun e w' => e = .returned (.tuple #[zT.v, .int .i64 (q : Int), .int .i64 60]) ∧ Below W.heap.size W w') := hRd
  have q0 : (0 : Int) ≤ (q : Int) := by omega
  have q1 : (q : Int) ≤ (n : Int) := by omega
  obtain ⟨k, m, r, s, a, nn, cap⟩ := f
  show Calls Tryd.prog 3 #[tyV k m r s a nn cap, .string (str S)] w _
  clear h hn hF hlen hno hRd hq
  have st1 : Stg 1 := .mk 1
  go_enter Tryd.func3, Tryd.ntmps3
  go_wp2_with (first
    | (go_at_call 4; refine CF.out.mono ?_; rintro e w1 ⟨rfl, hb1⟩; have B1 : Below w.heap.size w w1 := below1 hb1; obtain ⟨hl, p0, p1, p2, p3, p4⟩ := (A0.below hb1).ty)
    | (have _s := st1; clear st1 _s; go_at_call 6; refine (CT.out _ B1).mono ?_; rintro e w4 ⟨rfl, hb2⟩; have st3 : Stg 3 := .mk 3; have B4 := below_aft B1 hb2; clear p0 p1 p2 p3 p4 hl)
    | (have _s := st3; clear st3 _s; go_at_call 7; refine (CD.out _).mono ?_; rintro e w5 ⟨rfl, hb5⟩; have B5 := below_aft B4 hb5)
    | (go_at_call 5; refine (CA.out _).mono ?_; rintro e w7 ⟨rfl, hb7⟩))
  go_ret
  exact ⟨rfl, below_aft (belA B5) hb7⟩
theorem back_walk (t : Ty) (f : Fv) (S : List UInt8) (w : World) (h : TyAt w f t) (hTab : TabOk w) :
    Calls Tryd.prog 3 #[f.v, .string (str S)] w fun e w' => e = .returned (.bool true) ∧ Below w.heap.size w w' := by
  obtain ⟨b, hF⟩ := fits_ex 60 60 rfl (by omega) t
  cases b with
  | false => exact back_big t f S _ rfl w h hF
  | true =>
    by_cases hl : 8192 < S.length
    · exact back_long t f S _ rfl w h hF hl
    · have hS : S.length ≤ 8192 := by omega
      cases ht : isT t with
      | true =>
        obtain ⟨c, rfl, hc⟩ := ok_of ht
        rcases read_any S (by omega) with ⟨d, hR, hRd⟩ | ⟨q, hq, hRd⟩
        · exact back_cyy c f S _ rfl w h hS hF hc hTab d hR hRd
        · exact back_cyn c f S _ rfl w h hS hF hc hTab q hq hRd
      | false =>
        rcases read_any S (by omega) with ⟨d, hR, hRd⟩ | ⟨q, hq, hRd⟩
        · exact back_cny t f S _ rfl w h hS hF ht d hR hRd hTab
        · exact back_cnn t f S _ rfl w h hS hF ht q hq hRd
end Go.Proofs.YtjchbclkdbojpabDoor
