import Derived.Test.YtjchbclkdbojpaaDoorU
namespace Go.Proofs.YtjchbclkdbojpaaDoor
open Go.RowKit
set_option linter.unusedVariables false
set_option linter.unusedSimpArgs false

theorem nm_le (S : List UInt8) (most : Int) (fr : Nat) : ∀ (fuel : Nat) (n : Int) (p : Nat), p ≤ S.length → 0 ≤ n → (nmG S most fr fuel n p).2 ≤ S.length ∧ 0 ≤ (nmG S most fr fuel n p).1
  | 0, n, p, h, h0 => ⟨h, h0⟩
  | fuel + 1, n, p, h, h0 => by
    unfold nmG
    split
    · rename_i hc
      exact nm_le S most fr fuel _ _ (ah_lt (by omega)) (by omega)
    · exact ⟨h, h0⟩
theorem rg_le {S : List UInt8} {p : Nat} (hp : p < S.length) : (rgP S p).2.1 ≤ S.length ∧ 0 ≤ (rgP S p).1 := by
  have h1 := nm_le S maxR (p + 1) (S.length - (p + 1)) 0 (p + 1) hp (by omega)
  unfold rgP
  split
  · exact ⟨tk_le S [32] _ h1.1 (by simp), h1.2⟩
  · exact h1
theorem ap_le {S : List UInt8} {n p : Nat} (hp : p ≤ S.length) : (apP S n p).1 ≤ S.length := by
  unfold apP
  split
  · exact hp
  split
  · exact hp
  · rename_i h _
    exact ah_lt (by simp at h; omega)
theorem typ_step (n : Nat) (hn : n ≤ 47) (ih : 1 ≤ n → TypC n) : TypC (n + 1) := by
  intro b S p w deep R hR hdeep h hp hS
  have hd : deep = 48 - n := by omega
  obtain ⟨x, hx⟩ : ∃ x, ah S p = x := ⟨_, rfl⟩
  unfold rdT at hR
  rw [hx] at hR
  by_cases h1 : x = 105
  · rw [if_pos h1] at hR
    subst hR
    have e : (if (tk S [105, 54, 52] p).2 = true then some (Ch.leaf 1 0) else none).isSome = (tk S [105, 54, 52] p).2 := by cases (tk S [105, 54, 52] p).2 <;> rfl
    show Calls _ _ _ _ fun e w' => ∃ f : Fv, e = .returned (.tuple #[f.v, .bool (if (tk S [105, 54, 52] p).2 = true then some (Ch.leaf 1 0) else none).isSome]) ∧ _
    rw [e]
    exact typ_i b S p w deep n hd hn h hp hS x hx h1 _ _ rfl _ rfl
  rw [if_neg h1] at hR
  by_cases h2 : x = 98
  · rw [if_pos h2] at hR
    subst hR
    have e : (if (tk S [98, 111, 111, 108] p).2 = true then some (Ch.leaf 2 0) else none).isSome = (tk S [98, 111, 111, 108] p).2 := by cases (tk S [98, 111, 111, 108] p).2 <;> rfl
    show Calls _ _ _ _ fun e w' => ∃ f : Fv, e = .returned (.tuple #[f.v, .bool (if (tk S [98, 111, 111, 108] p).2 = true then some (Ch.leaf 2 0) else none).isSome]) ∧ _
    rw [e]
    exact typ_b b S p w deep n hd hn h hp hS x hx h2 _ _ rfl _ rfl
  rw [if_neg h2] at hR
  by_cases h3 : x = 35
  · rw [if_pos h3] at hR
    subst hR
    have e : (if p + 1 < (nm S 31 (p + 1)).2 then some (Ch.leaf 5 (nm S 31 (p + 1)).1) else none).isSome = decide (p + 1 < (nm S 31 (p + 1)).2) := by split <;> simp_all
    show Calls _ _ _ _ fun e w' => ∃ f : Fv, e = .returned (.tuple #[f.v, .bool (if p + 1 < (nm S 31 (p + 1)).2 then some (Ch.leaf 5 (nm S 31 (p + 1)).1) else none).isSome]) ∧ _
    rw [e]
    exact typ_s b S p w deep n hd hn h hp hS x hx h3 (nm S 31 (p + 1)).1 (nm S 31 (p + 1)).2 _ rfl rfl _ (by by_cases hh : p + 1 < (nm S 31 (p + 1)).2 <;> simp [hh])
  rw [if_neg h3] at hR
  by_cases hn1 : 1 ≤ n
  · by_cases h4 : x = 66
    · rw [if_pos ⟨h4, hn1⟩] at hR
      obtain ⟨⟨q, ok⟩, hT⟩ : ∃ T, tk S [66, 111, 120, 60] p = T := ⟨_, rfl⟩
      rw [hT] at hR
      cases ok with
      | false =>
        simp only [Bool.false_eq_true, if_false] at hR
        subst hR
        exact typ_x b S p w deep n hd hn h hp hS x hx h4 hn1 q none false (fun W hW => box_no b S p W deep q hT hW hp hS)
      | true =>
        simp only [if_true] at hR
        obtain ⟨⟨q1, oc⟩, hR1⟩ : ∃ T, rdT S n q = T := ⟨_, rfl⟩
        rw [hR1] at hR
        cases oc with
        | none =>
          simp only at hR
          subst hR
          exact typ_x b S p w deep n hd hn h hp hS x hx h4 hn1 q1 none false (fun W hW => box_none b S p W deep n (by omega) (by omega) (by omega) q q1 none hT hR1 (ih hn1) rfl hW hp hS)
        | some c =>
          simp only at hR
          subst hR
          have e : (if (tk S [62] q1).2 = true then some (Ch.box c) else none).isSome = (tk S [62] q1).2 := by cases (tk S [62] q1).2 <;> rfl
          show Calls _ _ _ _ fun e w' => ∃ f : Fv, e = .returned (.tuple #[f.v, .bool (if (tk S [62] q1).2 = true then some (Ch.box c) else none).isSome]) ∧ _
          rw [e]
          exact typ_x b S p w deep n hd hn h hp hS x hx h4 hn1 _ _ _ (fun W hW => box_some b S p W deep n (by omega) (by omega) (by omega) q q1 (some c) hT hR1 (ih hn1) c rfl _ _ rfl _ rfl hW hp hS)
    · rw [if_neg (fun hh => h4 hh.1)] at hR
      by_cases h5 : x = 38
      · rw [if_pos ⟨h5, hn1⟩] at hR
        have hq1 : p + 1 ≤ S.length := ah_lt (by rw [hx, h5]; simp)
        have go : ∀ (m : Bool) (r : Int) (q4 : Nat), hdP S (n + 1) (p + 1) = (m, r, q4, true) → (∀ q5 oc okc, rdT S n q4 = (q5, oc) → oc.isSome = okc → ∀ W, Rd b S p 114 W → Calls Tryd.prog 93 #[.pointer (some ⟨b, 0, none⟩), .int .i64 deep] W fun e w' => ∃ f : Fv, e = .returned (.tuple #[f.v, .bool okc]) ∧ TPost b S W (q5, oc.map (fun c => Ch.ref m r c)) f w') → Calls Tryd.prog 78 #[.pointer (some ⟨b, 0, none⟩), .int .i64 deep] w fun e w' => ∃ f : Fv, e = .returned (.tuple #[f.v, .bool R.2.isSome]) ∧ TPost b S w R f w' := fun m r q4 hh hC => by
          rw [hh] at hR
          simp only [if_true] at hR
          subst hR
          have e : ((rdT S n q4).2.map (fun c => Ch.ref m r c)).isSome = (rdT S n q4).2.isSome := by cases (rdT S n q4).2 <;> rfl
          show Calls _ _ _ _ fun e w' => ∃ f : Fv, e = .returned (.tuple #[f.v, .bool ((rdT S n q4).2.map (fun c => Ch.ref m r c)).isSome]) ∧ _
          rw [e]
          exact typ_r b S p w deep n hd hn h hp hS x hx h5 hn1 _ _ _ (hC _ _ _ rfl rfl)
        have stop : ∀ (m : Bool) (r : Int) (q4 : Nat), hdP S (n + 1) (p + 1) = (m, r, q4, false) → (∀ W, Rd b S p 114 W → Calls Tryd.prog 93 #[.pointer (some ⟨b, 0, none⟩), .int .i64 deep] W fun e w' => ∃ f : Fv, e = .returned (.tuple #[f.v, .bool false]) ∧ TPost b S W (q4, none) f w') → Calls Tryd.prog 78 #[.pointer (some ⟨b, 0, none⟩), .int .i64 deep] w fun e w' => ∃ f : Fv, e = .returned (.tuple #[f.v, .bool R.2.isSome]) ∧ TPost b S w R f w' := fun m r q4 hh hC => by
          rw [hh] at hR
          simp only [Bool.false_eq_true, if_false] at hR
          subst hR
          exact typ_r b S p w deep n hd hn h hp hS x hx h5 hn1 _ _ _ hC
        clear hR
        obtain ⟨x1, hx1⟩ : ∃ x1, ah S (p + 1) = x1 := ⟨_, rfl⟩
        by_cases a39 : x1 = 39
        · subst a39
          obtain ⟨⟨r, q2, ok1⟩, hG⟩ : ∃ T, rgP S (p + 1) = T := ⟨_, rfl⟩
          have hrl := rg_le (S := S) (p := p + 1) (ah_lt (by rw [hx1]; simp))
          rw [hG] at hrl
          cases ok1 with
          | false => exact stop false r q2 (by unfold hdP; rw [if_pos hx1, hG]; rfl) (fun W hW => ref_L1 b S p W deep n hd hn1 hn hW hq1 hS r q2 hx1 hG)
          | true =>
            obtain ⟨x2, hx2⟩ : ∃ x2, ah S q2 = x2 := ⟨_, rfl⟩
            by_cases a109 : x2 = 109
            · subst a109
              obtain ⟨⟨q3, ok2⟩, hT⟩ : ∃ T, tk S [109, 117, 116, 32] q2 = T := ⟨_, rfl⟩
              have e : hdP S (n + 1) (p + 1) = (true, r, q3, ok2) := by unfold hdP; rw [if_pos hx1, hG]; simp only [if_true]; rw [if_pos hx2, hT]
              have hl3 := tk_le S [109, 117, 116, 32] q2 hrl.1 (by simp)
              rw [hT] at hl3
              cases ok2 with
              | false => exact stop true r q3 e (fun W hW => ref_L3 b S p W deep n hd hn1 hn hW hq1 hS r q2 q3 hx1 hG hrl.1 hrl.2 hx2 hT)
              | true => exact go true r q3 e (fun q5 oc okc h6 h7 W hW => ref_L2 b S p W deep n hd hn1 hn hW hq1 hS r q2 q3 q5 oc okc hx1 hG hrl.1 hrl.2 hx2 hT hl3 h6 h7 (ih hn1))
            · have e : hdP S (n + 1) (p + 1) = (false, r, q2, true) := by unfold hdP; rw [if_pos hx1, hG]; simp only [if_true]; rw [if_neg (by rw [hx2]; exact a109)]
              exact go false r q2 e (fun q5 oc okc h6 h7 W hW => ref_L4 b S p W deep n hd hn1 hn hW hq1 hS r q2 x2 q5 oc okc hx1 hG hrl.1 hrl.2 hx2 a109 h6 h7 (ih hn1))
        · by_cases a109 : x1 = 109
          · subst a109
            obtain ⟨⟨q3, ok2⟩, hT⟩ : ∃ T, tk S [109, 117, 116, 32] (p + 1) = T := ⟨_, rfl⟩
            have e : hdP S (n + 1) (p + 1) = (true, -1, q3, ok2) := by unfold hdP; rw [if_neg (by rw [hx1]; simp), if_pos hx1, hT]
            have hl3 := tk_le S [109, 117, 116, 32] (p + 1) hq1 (by simp)
            rw [hT] at hl3
            cases ok2 with
            | false => exact stop true (-1) q3 e (fun W hW => ref_L6 b S p W deep n hd hn1 hn hW hq1 hS q3 hx1 hT)
            | true => exact go true (-1) q3 e (fun q5 oc okc h6 h7 W hW => ref_L5 b S p W deep n hd hn1 hn hW hq1 hS q3 q5 oc okc hx1 hT hl3 h6 h7 (ih hn1))
          · obtain ⟨⟨q4, ok3⟩, hP⟩ : ∃ T, apP S (n + 1) (p + 1) = T := ⟨_, rfl⟩
            have e : hdP S (n + 1) (p + 1) = (false, -1, q4, ok3) := by unfold hdP; rw [if_neg (by rw [hx1]; exact a39), if_neg (by rw [hx1]; exact a109), hP]
            have hl4 := ap_le (S := S) (n := n + 1) hq1
            rw [hP] at hl4
            cases ok3 with
            | false => exact stop false (-1) q4 e (fun W hW => ref_L8 b S p W deep n hd hn1 hn hW hq1 hS x1 q4 hx1 a109 a39 hP)
            | true => exact go false (-1) q4 e (fun q5 oc okc h6 h7 W hW => ref_L7 b S p W deep n hd hn1 hn hW hq1 hS x1 q4 q5 oc okc hx1 a109 a39 hP hl4 h6 h7 (ih hn1))
      · rw [if_neg (fun hh => h5 hh.1)] at hR
        subst hR
        exact typ_n1 b S p w deep n hd hn h hp hS x hx h1 h2 h3 h4 h5
  · rw [if_neg (fun hh => hn1 hh.2), if_neg (fun hh => hn1 hh.2)] at hR
    subst hR
    exact typ_n0 b S p w deep n hd hn h hp hS x hx h1 h2 h3 (by omega)
theorem typ_all : ∀ n, 1 ≤ n → n ≤ 48 → TypC n
  | 0, h, _ => by omega
  | n + 1, _, h => typ_step n (by omega) (fun h1 => typ_all n h1 (by omega))
theorem Tryd.results42 : Tryd.f42.results = #[.cell 2 26, .tmp 3, .tmp 4] := rfl
set_option maxRecDepth 100000 in
theorem results_ty3 {fn : Func} (h : fn.results = #[.cell 2 26, .tmp 3, .tmp 4]) {tmps : Array Value} {W : World} {b4 : Nat} {g : Fv} (ht : tmps.getD 2 undef = .pointer (some ⟨b4, 0, none⟩)) (hC : C5 W b4 0 g) : (results fn tmps).run Tryd.prog W = .ok (.tuple #[g.v, tmps.getD 3 undef, tmps.getD 4 undef]) W := by
  obtain ⟨-, e0, e1, e2, e3, e4⟩ := hC
  simp only [Nat.zero_add] at e1 e2 e3 e4
  have ht2 : tmps[2]?.getD undef = .pointer (some ⟨b4, 0, none⟩) := by rw [← ht]; simp
  simp only [results, h]
  simp [go_sem, ht2, e0, e1, e2, e3, e4]
theorem fin_ret3 {fn : Func} {a : Act} {W : World} {b4 : Nat} {g : Fv} {x y : Value} {Q : Ending → World → Prop} (hf : fn.results = #[.cell 2 26, .tmp 3, .tmp 4]) (hd : a.defers = []) (ht : a.tmps.getD 2 undef = .pointer (some ⟨b4, 0, none⟩)) (h3 : a.tmps.getD 3 undef = x) (h4 : a.tmps.getD 4 undef = y) (hC : C5 W b4 0 g) (hP : Q (.returned (.tuple #[g.v, x, y])) W) :
    bodyPost Tryd.prog fn Q .ret a W := bodyPost_ret (h3 ▸ h4 ▸ results_ty3 hf ht hC) hd hP
theorem below_of_but {w w1 : World} {b : Nat} (h : But b w w1) (hb : w.heap.size ≤ b) : Below w.heap.size w w1 := ⟨h.os, h.tape, h.output, h.size, fun i hi => h.block i hi (fun e => by have := Option.some.inj e; omega)⟩
theorem below_but {x y : World} {b B : Nat} (h : But b x y) (hb : B ≤ b) (hB : B ≤ x.heap.size) : Below B x y := ⟨h.os, h.tape, h.output, h.size, fun i hi => h.block i (by omega) (fun e => by have := Option.some.inj e; omega)⟩
theorem below_S5 {w w1 : World} {b : Nat} (h : Below w.heap.size w w1) (hb : w.heap.size ≤ b) (g : Fv) : Below w.heap.size w (S5 w1 b g) :=
  ((((h.setCell (p := ⟨b, 0, none⟩) hb _).setCell (p := ⟨b, 1, none⟩) hb _).setCell (p := ⟨b, 2, none⟩) hb _).setCell (p := ⟨b, 3, none⟩) hb _).setCell (p := ⟨b, 4, none⟩) hb _
set_option maxRecDepth 100000 in
set_option maxHeartbeats 2000000 in
theorem Read_yes (S : List UInt8) (w : World) (hS : S.length ≤ 16384) (n : Nat) (hn : S.length = n) (q : Nat) (oc : Option Ch) (c : Ch) (hR : rdT S 48 0 = (q, oc)) (hq : q = n) (hoc : oc = some c) :
    Calls Tryd.prog 42 #[.string (str S)] w fun e w' => (∃ f : Fv, e = .returned (.tuple #[f.v, .int .i64 0, .int .i64 0]) ∧ Own w' w.heap.size f c) ∧ Below w.heap.size w w' := by
  have A4 : At ((w.alloc zT.o).alloc (Two (.string (str S)) (.int .i64 0) 114)) w.heap.size zT.o := (At.new w _).alloc _
  have R0 : Rd (w.heap.size + 1) S 0 114 ((w.alloc zT.o).alloc (Two (.string (str S)) (.int .i64 0) 114)) := at_snd w _ _
  have CR : Hid (Calls Tryd.prog 78 #[.pointer (some ⟨w.heap.size + 1, 0, none⟩), .int .i64 1] ((w.alloc zT.o).alloc (Two (.string (str S)) (.int .i64 0) 114)) fun e w' => ∃ f : Fv, e = .returned (.tuple #[f.v, .bool true]) ∧ TPost (w.heap.size + 1) S ((w.alloc zT.o).alloc (Two (.string (str S)) (.int .i64 0) 114)) (q, oc) f w') := by
    have := typ_all 48 (by omega) (by omega) (w.heap.size + 1) S 0 _ 1 (q, oc) hR.symm (by omega) R0 (Nat.zero_le _) hS
    rw [show (q, oc).2.isSome = true by rw [hoc]; rfl] at this
    exact this
  have hB0 : Below w.heap.size w ((w.alloc zT.o).alloc (Two (.string (str S)) (.int .i64 0) 114)) := belA (belA (Below.refl _ _))
  have hsz : (str S).size = n := hn
  subst hq
  clear hR
  go_enter Tryd.func42, Tryd.ntmps42
  go_wp2_with (go_at_call 78; refine CR.out.mono ?_; rintro e w1 ⟨f', rfl, hp1⟩; have A5 := A4.but hp1.but (by omega); obtain ⟨hl4, d0, d1, d2, d3, d4⟩ := A5.ty; have g0 := A5.tyF 0; have g1 := A5.tyF 1; have g2 := A5.tyF 2; have g3 := A5.tyF 3; have g4 := A5.tyF 4; obtain ⟨c0, c1⟩ := At.two hp1.rd; have hb1 := hp1.but; have hbl := hp1.rd.lt; have HP := (show Hid _ from hp1); clear hp1 hb1)
  have hp1 := HP.out
  have hB1 : Below w.heap.size w w1 := hB0.trans (below_but hp1.but (by omega) hB0.size)
  have O1 := hp1.own c hoc
  refine fin_ret3 Tryd.results42 rfl rfl rfl rfl ((A5.set5 f').ty.below (belA (Below.refl _ _))) ⟨⟨f', rfl, ?_⟩, belA (below_S5 hB1 (Nat.le_refl _) f')⟩
  have O2 : Own (S5 w1 w.heap.size f') (w.heap.size + 1) f' c := (O1.low (lo' := w.heap.size + 1) (by simp)).keep fun i o hi hA => hA.S5 (by omega) f'
  exact (O2.bel (belA (Below.refl _ _))).low (by omega)
set_option maxRecDepth 100000 in
set_option maxHeartbeats 2000000 in
theorem Read_none (S : List UInt8) (w : World) (hS : S.length ≤ 16384) (n : Nat) (hn : S.length = n) (q : Nat) (oc : Option Ch) (hR : rdT S 48 0 = (q, oc)) (hoc : oc = none) :
    Calls Tryd.prog 42 #[.string (str S)] w fun e w' => e = .returned (.tuple #[zT.v, .int .i64 (q : Int), .int .i64 60]) ∧ Below w.heap.size w w' := by
  have A4 : At ((w.alloc zT.o).alloc (Two (.string (str S)) (.int .i64 0) 114)) w.heap.size zT.o := (At.new w _).alloc _
  have R0 : Rd (w.heap.size + 1) S 0 114 ((w.alloc zT.o).alloc (Two (.string (str S)) (.int .i64 0) 114)) := at_snd w _ _
  have CR : Hid (Calls Tryd.prog 78 #[.pointer (some ⟨w.heap.size + 1, 0, none⟩), .int .i64 1] ((w.alloc zT.o).alloc (Two (.string (str S)) (.int .i64 0) 114)) fun e w' => ∃ f : Fv, e = .returned (.tuple #[f.v, .bool false]) ∧ TPost (w.heap.size + 1) S ((w.alloc zT.o).alloc (Two (.string (str S)) (.int .i64 0) 114)) (q, oc) f w') := by
    have := typ_all 48 (by omega) (by omega) (w.heap.size + 1) S 0 _ 1 (q, oc) hR.symm (by omega) R0 (Nat.zero_le _) hS
    rw [show (q, oc).2.isSome = false by rw [hoc]; rfl] at this
    exact this
  have hB0 : Below w.heap.size w ((w.alloc zT.o).alloc (Two (.string (str S)) (.int .i64 0) 114)) := belA (belA (Below.refl _ _))
  have hsz : (str S).size = n := hn
  have st0 : True := trivial
  clear hR
  go_enter Tryd.func42, Tryd.ntmps42
  go_wp2_with (go_at_call 78; refine CR.out.mono ?_; rintro e w1 ⟨f', rfl, hp1⟩; have A5 := A4.but hp1.but (by omega); obtain ⟨hl4, d0, d1, d2, d3, d4⟩ := A5.ty; have g0 := A5.tyF 0; have g1 := A5.tyF 1; have g2 := A5.tyF 2; have g3 := A5.tyF 3; have g4 := A5.tyF 4; obtain ⟨c0, c1⟩ := At.two hp1.rd; have hb1 := hp1.but; have hbl := hp1.rd.lt; have HP := (show Hid _ from hp1); clear hp1 hb1)
  refine beginH (S := fun W' => Rd (w.heap.size + 1) S q 114 W') (fun _ _ _ _ _ h => h) (by kernel_rfl) (At.drew (At.alloc HP.out.rd _)) (fun hq hHeld => ?_)
  refine takeH (i := 0) (d := 27) zT.v hq rfl rfl (by kernel_rfl) (by kernel_rfl) (by kernel_rfl) (by rfl) (fun W hSw => by (go_simp; try rfl)) hHeld ?_
  try simp only [Act.put, List.setIfInBounds_toArray, List.set_cons_zero, List.set_cons_succ]
  refine takeH (i := 1) (d := 28) _ hq rfl rfl (by kernel_rfl) (by kernel_rfl) (by kernel_rfl) (by rfl) (fun W hSw => by (go_simp; try rfl)) hHeld ?_
  try simp only [Act.put, List.setIfInBounds_toArray, List.set_cons_zero, List.set_cons_succ]
  refine takeH (i := 2) (d := 29) (.pointer (some ⟨w.heap.size + 1, 0, none⟩)) hq rfl rfl (by kernel_rfl) (by kernel_rfl) (by kernel_rfl) (by rfl) (fun W hSw => by (go_simp; try rfl)) hHeld ?_
  try simp only [Act.put, List.setIfInBounds_toArray, List.set_cons_zero, List.set_cons_succ]
  refine takeH (i := 3) (d := 30) _ hq rfl rfl (by kernel_rfl) (by kernel_rfl) (by kernel_rfl) (by rfl) (fun W hSw => by (go_simp; try rfl)) hHeld ?_
  try simp only [Act.put, List.setIfInBounds_toArray, List.set_cons_zero, List.set_cons_succ]
  refine takeH (i := 4) (d := 31) (.int .i64 (q : Int)) hq rfl rfl (by kernel_rfl) (by kernel_rfl) (by kernel_rfl) (by rfl) (fun W hSw => by (obtain ⟨s0, s1⟩ := At.two hSw; go_simp; try rfl)) hHeld ?_
  try simp only [Act.put, List.setIfInBounds_toArray, List.set_cons_zero, List.set_cons_succ]
  have X8 : Rd (w.heap.size + 1) S q 114 ((S5 w1 w.heap.size zT).alloc f'.o).drew := At.drew ((At.S5 HP.out.rd (by omega) zT).alloc _)
  simp only [S5, Int.cast_ofNat_Int] at X8
  refine wpAnyH_ready (rs := [5]) (by kernel_rfl) (by simp) ?_
  refine AllReadyH.cons rfl (fun K hK => ?_) AllReadyH.nil
  go_simp
  go_wp2_with fail
  refine hK.out _ _ ?_ (fun hHeld => ?_)
  · with_reducible exact X8
  clear hK K
  try simp only [Act.put, List.setIfInBounds_toArray, List.set_cons_zero, List.set_cons_succ]
  refine takeH (i := 6) (d := 3) _ hq rfl rfl (by kernel_rfl) (by kernel_rfl) (by kernel_rfl) (by rfl) (fun W hSw => by (go_simp; try rfl)) hHeld ?_
  try simp only [Act.put, List.setIfInBounds_toArray, List.set_cons_zero, List.set_cons_succ]
  refine takeH (i := 7) (d := 4) _ hq rfl rfl (by kernel_rfl) (by kernel_rfl) (by kernel_rfl) (by rfl) (fun W hSw => by (go_simp; try rfl)) hHeld ?_
  try simp only [Act.put, List.setIfInBounds_toArray, List.set_cons_zero, List.set_cons_succ]
  refine wpAnyH_done (by kernel_rfl) ?_ _
  clear hHeld hq X8
  go_wp2_with fail
  have hp1 := HP.out
  have hB1 : Below w.heap.size w w1 := hB0.trans (below_but hp1.but (by omega) hB0.size)
  have C := C5.drew ((A5.set5 zT).ty.below (belA (Below.refl _ _) (o := f'.o)))
  simp only [Int.cast_ofNat_Int] at C
  have B9 := (belA (o := f'.o) (below_S5 hB1 (Nat.le_refl _) zT)).drew
  simp only [S5, Int.cast_ofNat_Int] at B9
  exact fin_ret3 Tryd.results42 rfl rfl rfl rfl C ⟨rfl, B9⟩
set_option maxRecDepth 100000 in
set_option maxHeartbeats 2000000 in
theorem Read_part (S : List UInt8) (w : World) (hS : S.length ≤ 16384) (n : Nat) (hn : S.length = n) (q : Nat) (oc : Option Ch) (c : Ch) (hR : rdT S 48 0 = (q, oc)) (hqn : q < n) (hoc : oc = some c) :
    Calls Tryd.prog 42 #[.string (str S)] w fun e w' => e = .returned (.tuple #[zT.v, .int .i64 (q : Int), .int .i64 60]) ∧ Below w.heap.size w w' := by
  have A4 : At ((w.alloc zT.o).alloc (Two (.string (str S)) (.int .i64 0) 114)) w.heap.size zT.o := (At.new w _).alloc _
  have R0 : Rd (w.heap.size + 1) S 0 114 ((w.alloc zT.o).alloc (Two (.string (str S)) (.int .i64 0) 114)) := at_snd w _ _
  have CR : Hid (Calls Tryd.prog 78 #[.pointer (some ⟨w.heap.size + 1, 0, none⟩), .int .i64 1] ((w.alloc zT.o).alloc (Two (.string (str S)) (.int .i64 0) 114)) fun e w' => ∃ f : Fv, e = .returned (.tuple #[f.v, .bool true]) ∧ TPost (w.heap.size + 1) S ((w.alloc zT.o).alloc (Two (.string (str S)) (.int .i64 0) 114)) (q, oc) f w') := by
    have := typ_all 48 (by omega) (by omega) (w.heap.size + 1) S 0 _ 1 (q, oc) hR.symm (by omega) R0 (Nat.zero_le _) hS
    rw [show (q, oc).2.isSome = true by rw [hoc]; rfl] at this
    exact this
  have hB0 : Below w.heap.size w ((w.alloc zT.o).alloc (Two (.string (str S)) (.int .i64 0) 114)) := belA (belA (Below.refl _ _))
  have hsz : (str S).size = n := hn
  have hql : (q : Int) < (n : Int) := by omega
  clear hR
  go_enter Tryd.func42, Tryd.ntmps42
  go_wp2_with (go_at_call 78; refine CR.out.mono ?_; rintro e w1 ⟨f', rfl, hp1⟩; have A5 := A4.but hp1.but (by omega); obtain ⟨hl4, d0, d1, d2, d3, d4⟩ := A5.ty; have g0 := A5.tyF 0; have g1 := A5.tyF 1; have g2 := A5.tyF 2; have g3 := A5.tyF 3; have g4 := A5.tyF 4; obtain ⟨c0, c1⟩ := At.two hp1.rd; have hb1 := hp1.but; have hbl := hp1.rd.lt; have HP := (show Hid _ from hp1); clear hp1 hb1)
  refine beginH (S := fun W' => Rd (w.heap.size + 1) S q 114 W') (fun _ _ _ _ _ h => h) (by kernel_rfl) (At.drew (At.alloc HP.out.rd _)) (fun hq hHeld => ?_)
  refine takeH (i := 0) (d := 27) zT.v hq rfl rfl (by kernel_rfl) (by kernel_rfl) (by kernel_rfl) (by rfl) (fun W hSw => by (go_simp; try rfl)) hHeld ?_
  try simp only [Act.put, List.setIfInBounds_toArray, List.set_cons_zero, List.set_cons_succ]
  refine takeH (i := 1) (d := 28) _ hq rfl rfl (by kernel_rfl) (by kernel_rfl) (by kernel_rfl) (by rfl) (fun W hSw => by (go_simp; try rfl)) hHeld ?_
  try simp only [Act.put, List.setIfInBounds_toArray, List.set_cons_zero, List.set_cons_succ]
  refine takeH (i := 2) (d := 29) (.pointer (some ⟨w.heap.size + 1, 0, none⟩)) hq rfl rfl (by kernel_rfl) (by kernel_rfl) (by kernel_rfl) (by rfl) (fun W hSw => by (go_simp; try rfl)) hHeld ?_
  try simp only [Act.put, List.setIfInBounds_toArray, List.set_cons_zero, List.set_cons_succ]
  refine takeH (i := 3) (d := 30) _ hq rfl rfl (by kernel_rfl) (by kernel_rfl) (by kernel_rfl) (by rfl) (fun W hSw => by (go_simp; try rfl)) hHeld ?_
  try simp only [Act.put, List.setIfInBounds_toArray, List.set_cons_zero, List.set_cons_succ]
  refine takeH (i := 4) (d := 31) (.int .i64 (q : Int)) hq rfl rfl (by kernel_rfl) (by kernel_rfl) (by kernel_rfl) (by rfl) (fun W hSw => by (obtain ⟨s0, s1⟩ := At.two hSw; go_simp; try rfl)) hHeld ?_
  try simp only [Act.put, List.setIfInBounds_toArray, List.set_cons_zero, List.set_cons_succ]
  have X8 : Rd (w.heap.size + 1) S q 114 ((S5 w1 w.heap.size zT).alloc f'.o).drew := At.drew ((At.S5 HP.out.rd (by omega) zT).alloc _)
  simp only [S5, Int.cast_ofNat_Int] at X8
  refine wpAnyH_ready (rs := [5]) (by kernel_rfl) (by simp) ?_
  refine AllReadyH.cons rfl (fun K hK => ?_) AllReadyH.nil
  go_simp
  go_wp2_with fail
  refine hK.out _ _ ?_ (fun hHeld => ?_)
  · with_reducible exact X8
  clear hK K
  try simp only [Act.put, List.setIfInBounds_toArray, List.set_cons_zero, List.set_cons_succ]
  refine takeH (i := 6) (d := 3) _ hq rfl rfl (by kernel_rfl) (by kernel_rfl) (by kernel_rfl) (by rfl) (fun W hSw => by (go_simp; try rfl)) hHeld ?_
  try simp only [Act.put, List.setIfInBounds_toArray, List.set_cons_zero, List.set_cons_succ]
  refine takeH (i := 7) (d := 4) _ hq rfl rfl (by kernel_rfl) (by kernel_rfl) (by kernel_rfl) (by rfl) (fun W hSw => by (go_simp; try rfl)) hHeld ?_
  try simp only [Act.put, List.setIfInBounds_toArray, List.set_cons_zero, List.set_cons_succ]
  refine wpAnyH_done (by kernel_rfl) ?_ _
  clear hHeld hq X8
  go_wp2_with fail
  have hp1 := HP.out
  have hB1 : Below w.heap.size w w1 := hB0.trans (below_but hp1.but (by omega) hB0.size)
  have C := C5.drew ((A5.set5 zT).ty.below (belA (Below.refl _ _) (o := f'.o)))
  simp only [Int.cast_ofNat_Int] at C
  have B9 := (belA (o := f'.o) (below_S5 hB1 (Nat.le_refl _) zT)).drew
  simp only [S5, Int.cast_ofNat_Int] at B9
  exact fin_ret3 Tryd.results42 rfl rfl rfl rfl C ⟨rfl, B9⟩
end Go.Proofs.YtjchbclkdbojpaaDoor
