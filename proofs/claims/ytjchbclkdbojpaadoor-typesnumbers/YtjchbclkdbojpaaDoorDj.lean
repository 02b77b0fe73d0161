import Derived.Test.YtjchbclkdbojpaaDoorDi
namespace Go.Proofs.YtjchbclkdbojpaaDoor
open Go.RowKit
set_option linter.unusedVariables false
set_option linter.unusedSimpArgs false

theorem arr_zero : arr (iV fun _ => 0) = #[.int .i64 0, .int .i64 0, .int .i64 0, .int .i64 0, .int .i64 0, .int .i64 0, .int .i64 0, .int .i64 0, .int .i64 0, .int .i64 0, .int .i64 0, .int .i64 0, .int .i64 0, .int .i64 0, .int .i64 0, .int .i64 0, .int .i64 0, .int .i64 0, .int .i64 0, .int .i64 0, .int .i64 0, .int .i64 0, .int .i64 0, .int .i64 0, .int .i64 0, .int .i64 0, .int .i64 0, .int .i64 0, .int .i64 0, .int .i64 0, .int .i64 0, .int .i64 0] := rfl
theorem KOk.zero (ss : List (List Ty)) : KOk ss fun _ => 0 := fun _ => .inl rfl
set_option maxRecDepth 100000 in
set_option maxHeartbeats 4000000 in
/-- isLarge (50): has a struct more than 16 words? -/
theorem large_any (a : Option Addr) (n cap : Nat) (ss : List (List Ty)) (w : World) (h : StAt w a n cap ss) (hn : n ≤ 32) (hF : Fine ss) (rk : Nat → Nat) (hr : Rank ss rk) (i : Nat) (hi : i < n) (b : Bool) (hb : b = true ↔ 16 < tw ss i) :
    Calls Tryd.prog 50 #[.slice a n cap, .int .i64 (i : Int)] w fun e w' => e = .returned (.bool b) ∧ Below w.heap.size w w' := by
  obtain ⟨x, hx⟩ : ∃ x, x = cwS ss i := ⟨_, rfl⟩
  have hbx : b = decide ((16 : Int) < (x : Int)) := by
    have e : cwS ss i = min (tw ss i) 17 := rfl
    rw [Bool.eq_iff_iff, hb, decide_eq_true_iff]
    omega
  have CM : Hid (∀ W (V : Fv), Below w.heap.size w W → Arr W (w.heap.size + 1) 93 (iV fun _ => 0) → V.k = 5 → V.s = (i : Int) → Calls Tryd.prog 57 #[.slice a n cap, V.v, .pointer (some ⟨w.heap.size + 1, 0, none⟩)] W fun e w' => e = .returned (.int .i64 (x : Int)) ∧ ∃ K', Arr w' (w.heap.size + 1) 93 (iV K') ∧ KOk ss K' ∧ But (w.heap.size + 1) W w') := hidD (fun W V hW hA h1 h2 => by rw [hx]; exact words_any w a n cap ss h hn hF rk hr (w.heap.size + 1) (by omega) _ i _ W V (Nat.lt_succ_self _) hi hW hA (KOk.zero ss) h1 h2)
  have HA1 : Hid (∀ o1 o, o = Obj.cells (arr (iV fun _ => 0)) 93 → Arr ((w.alloc o1).alloc o) (w.heap.size + 1) 93 (iV fun _ => 0)) := hidD (fun o1 o e => by subst e; exact at_snd _ _ _)
  rw [hbx]
  clear h hF hb hn hbx hx hr hi
  go_enter Tryd.func50, Tryd.ntmps50
  go_wp2_with (go_at_call 57; refine (CM.out _ ⟨5, false, 0, (i : Int), none, 0, 0⟩ (belA (belA (Below.refl _ _))) (HA1.out _ _ (by rw [arr_zero])) rfl rfl).mono ?_; rintro e w1 ⟨rfl, K', hA', hK', hB'⟩; have HB' := hidD hB'; clear hA' hK' hB')
  go_ret
  exact ⟨rfl, belBut (belA (belA (Below.refl _ _))) HB'.out (by omega) (by simp; omega)⟩
set_option maxRecDepth 100000 in
theorem drops_ne (f : Fv) (w : World) (hk : ¬ (f.k : Int) = 5) (sv : Value) : Calls Tryd.prog 58 #[sv, f.v] w fun e w' => e = .returned (.bool (decide ((f.k : Int) = 3))) ∧ Below w.heap.size w w' := by
  obtain ⟨k, m, r, s, a, n, cap⟩ := f
  have k5 : ¬ (k : Int) = 5 := hk
  have k6 : ((k : Int) == 5) = false := by simpa using k5
  show Calls Tryd.prog 58 #[sv, tyV k m r s a n cap] w fun e w' => e = .returned (.bool (decide ((k : Int) = 3))) ∧ Below w.heap.size w w'
  clear hk
  by_cases k3 : (k : Int) = 3
  · rw [decide_eq_true k3]
    go_enter Tryd.func58, Tryd.ntmps58
    go_wp2_with fail
    go_ret
    exact ⟨rfl, belA (Below.refl _ _)⟩
  · rw [decide_eq_false k3]
    have k4 : ((k : Int) == 3) = false := by simpa using k3
    go_enter Tryd.func58, Tryd.ntmps58
    go_wp2_with fail
    go_ret
    exact ⟨rfl, belA (Below.refl _ _)⟩
theorem take_any' (ss : List (List Ty)) {l : List Ty} {k : Nat} {t : Ty} (h : l[k]? = some t) : (l.take (k + 1)).any (dpT ss) = ((l.take k).any (dpT ss) || dpT ss t) := by
  rw [List.take_add_one, h]
  simp
/-- Whether a field of a type that may be needs dropping. -/
theorem dpT_ne {n : Nat} {t : Ty} {w : World} {V : Fv} (ss : List (List Ty)) (h : PlainT n t) (hs : subT t = none) (hV : TyAt w V t) : ¬ (V.k : Int) = 5 ∧ dpT ss t = decide ((V.k : Int) = 3) := by
  have e : dpT ss t = boxT t := by unfold dpT; rw [hs]
  rw [e]
  rcases h.kind with ⟨l, hl, hs', -, rfl⟩ | ⟨-, ch, rfl, -, hch⟩
  · rw [hs] at hs'; cases hs'
  · rcases hch with ⟨kk, s, rfl, hkk, hbx⟩ | ⟨d, rfl, hbx⟩
    · obtain ⟨ta, tcap, rfl, -⟩ := hV.leaf
      refine ⟨?_, ?_⟩
      · show ¬ (kk : Int) = 5
        omega
      · rw [hbx]
        show false = decide ((kk : Int) = 3)
        exact (decide_eq_false (by omega)).symm
    · obtain ⟨_, _, _, _, rfl, -⟩ := hV.box
      exact ⟨by show ¬ ((3 : Nat) : Int) = 5; omega, by rw [hbx]; rfl⟩
set_option maxRecDepth 100000 in
set_option maxHeartbeats 4000000 in
theorem drops_any (w0 : World) (a : Option Addr) (n cap : Nat) (ss : List (List Ty)) (h : StAt w0 a n cap ss) (hn : n ≤ 32) (hF : Fine ss) (rk : Nat → Nat) (hr : Rank ss rk) :
    ∀ (c j : Nat) (W : World) (V : Fv), rk j < c → j < n → Below w0.heap.size w0 W → V.k = 5 → V.s = (j : Int) →
      Calls Tryd.prog 58 #[.slice a n cap, V.v] W fun e w' => e = .returned (.bool (dp ss j)) ∧ Below W.heap.size W w' := by
  intro c
  induction c with
  | zero => intro j W V hc; omega
  | succ c ih =>
    intro j W V hc hj hBW hVk hVs
    obtain ⟨vk, vm, vr, vs, va, vn, vcap⟩ := V
    simp only at hVk hVs
    subst hVk
    subst hVs
    show Calls Tryd.prog 58 #[.slice a n cap, tyV 5 vm vr (j : Int) va vn vcap] W _
    have q0 : (0 : Int) ≤ (j : Int) := by omega
    have q2 : (j : Int) < (n : Int) := by omega
    have HC := hidD hc
    have HBW := hidD hBW
    have HLN := hidD h.len
    obtain ⟨x, hx⟩ : ∃ x, x = dp ss j := ⟨_, rfl⟩
    have HX := hidD hx
    rw [← hx]
    obtain ⟨fs, hfs⟩ : ∃ fs, ss[j]? = some fs := ⟨_, List.getElem?_eq_getElem (by have := h.len; omega)⟩
    obtain ⟨g, off, fa, fcap, hag, hg, hcell, hFd⟩ := h.field hBW hfs
    obtain ⟨f1, f2, f3⟩ := hF j fs hfs
    have hg2 : g < W.heap.size := Nat.lt_of_lt_of_le hg hBW.size
    have HFL := hidD (fld_of hfs)
    have IH := hidD ih
    have HF := hidD hFd
    have HP := hidD f3
    have HR := hidD hr
    obtain ⟨m, hm⟩ : ∃ m, m = fs.length := ⟨_, rfl⟩
    have HM := hidD hm
    have m8 : m ≤ 8 := by omega
    rw [← hm] at hcell
    subst hag
    clear f1 f2 f3 hm hfs hF ih hc hBW h hFd hr hx
    go_enter Tryd.func58, Tryd.ntmps58
    go_wp2_with fail
    go_loopw [20] (fun v20 Z => ∃ k : Nat, k ≤ m ∧ v20 = .int .i64 k ∧ (fs.take k).any (dpT ss) = false ∧ Below W.heap.size W Z) (fun v20 _ => m - (intOf v20).toNat)
    case atStart => exact ⟨0, Nat.zero_le _, rfl, rfl, belA (Below.refl _ _)⟩
    case round =>
      obtain ⟨k, hk, rfl, hany, hBV⟩ := hrel
      have HBV := hidD hBV
      have HAN := hidD hany
      have hB0 := HBW.out.trans (hBV.mono HBW.out.size)
      have HB0 := hidD hB0
      have HFk := hidD (HF.out.bel hB0)
      clear hBV hB0 hany
      by_cases hlk : k < m
      · obtain ⟨t, ht⟩ : ∃ t, fs[k]? = some t := ⟨_, List.getElem?_eq_getElem (by have := HM.out; omega)⟩
        obtain ⟨g', off', hfa, hkk⟩ := HFk.out.2 (fun e => by subst e; simp at ht)
        obtain ⟨V, nm, hnm, hV5, hVt⟩ := hkk k t ht
        have HTT := hidD ht
        have HPT := hidD (HP.out t (List.mem_of_getElem? ht))
        have HVT := hidD hVt
        obtain ⟨hl5, p0, p1, p2, p3, p4⟩ := hV5
        subst hfa
        have e0 : (0 : Int) ≤ (k : Int) := by omega
        have e1 : (k : Int) < (m : Int) := by omega
        have e2 : (k : Int) ≤ 1000 := by omega
        have CW : Hid (∀ (y : Bool), y = dpT ss t → ∀ W1, Below w0.heap.size w0 W1 → Calls Tryd.prog 58 #[.slice (some ⟨g, off, none⟩) n cap, V.v] W1 fun e w' => e = .returned (.bool y) ∧ Below W1.heap.size W1 w') := hidD (fun y hy W1 hB1 => by
          rw [hy]
          cases hs : subT t with
          | none =>
            obtain ⟨h1, h2⟩ := dpT_ne ss HPT.out hs HVT.out
            rw [h2]
            exact drops_ne V W1 h1 _
          | some l =>
            obtain ⟨hl, rfl⟩ := HPT.out.sub hs
            obtain ⟨ta, tcap, rfl, -⟩ := HVT.out.leaf
            have hst : Stp ss j l := ⟨_, by rw [HFL.out]; exact List.mem_of_getElem? HTT.out, hs⟩
            have := HR.out.2 j l hst
            have hc' := HC.out
            have e : dpT ss (Ch.leaf 5 (l : Int)).ty = dp ss l := by unfold dpT; rw [hs]
            rw [e]
            exact IH.out l W1 _ (by omega) (by have := HLN.out; omega) hB1 rfl rfl)
        clear hkk ht hVt
        have HBX : Hid (∀ o1, Below w0.heap.size w0 (wr.alloc o1)) := hidD (fun o1 => HB0.out.alloc HB0.out.size o1)
        cases hy : dpT ss t with
        | true =>
          have CW1 := hidD (CW.out true hy.symm)
          have hx1 : x = true := by
            rw [HX.out, dp_eq HR.out, HFL.out]
            exact List.any_eq_true.2 ⟨t, List.mem_of_getElem? HTT.out, hy⟩
          have HX1 := hidD hx1
          clear CW hx1
          go_wp2_with (go_at_call 58; refine (CW1.out _ (HBX.out _)).mono ?_; rintro e w1 ⟨rfl, hb1⟩)
          go_ret
          rw [HX1.out]
          exact ⟨rfl, below_aft (belA HBV.out) hb1⟩
        | false =>
          have CW1 := hidD (CW.out false hy.symm)
          clear CW
          go_wp2_with (go_at_call 58; refine (CW1.out _ (HBX.out _)).mono ?_; rintro e w1 ⟨rfl, hb1⟩)
          refine ⟨⟨k + 1, hlk, by go_num, ?_, below_aft (belA HBV.out) hb1⟩, ?_⟩
          · rw [take_any' ss HTT.out, HAN.out, hy]
            rfl
          · show m - ((k : Int) + 1).toNat < m - (k : Int).toNat
            omega
      · obtain rfl : k = m := by omega
        have z1 : ¬ ((k : Int) < (k : Int)) := by omega
        have hx1 : x = false := by
          rw [HX.out, dp_eq HR.out, HFL.out, ← List.take_of_length_le (l := fs) (i := k) (by have := HM.out; omega)]
          exact HAN.out
        have HX1 := hidD hx1
        clear hx1
        go_wp2_with fail
        go_ret
        rw [HX1.out]
        exact ⟨rfl, HBV.out⟩
end Go.Proofs.YtjchbclkdbojpaaDoor
