import Derived.Test.YtjchbclkdbojpaaDoorDh
namespace Go.Proofs.YtjchbclkdbojpaaDoor
open Go.RowKit
set_option linter.unusedVariables false
set_option linter.unusedSimpArgs false

abbrev iV (K : Nat → Nat) : Nat → Value := fun i => .int .i64 (K i : Int)
theorem iV_upd (K : Nat → Nat) (j x : Nat) : upd (iV K) j (.int .i64 (x : Int)) = iV (upd K j x) := by
  funext i
  by_cases e : i = j <;> simp [upd, iV, e]
/-- What was found of structs so far. -/
def KOk (ss : List (List Ty)) (K : Nat → Nat) : Prop := ∀ i, K i = 0 ∨ K i = cwS ss i
theorem KOk.set {ss : List (List Ty)} {K : Nat → Nat} (h : KOk ss K) (j : Nat) : KOk ss (upd K j (cwS ss j)) := fun i => by
  by_cases e : i = j
  · subst e; right; exact upd_same _ _ _
  · rw [upd_other _ _ e]; exact h i
theorem cwS_le (ss : List (List Ty)) (i : Nat) : cwS ss i ≤ 17 := by unfold cwS; omega
theorem cw_le (ss : List (List Ty)) (t : Ty) : cw ss t ≤ 17 := by unfold cw; omega
theorem sum_cw (ss : List (List Ty)) : ∀ l : List Ty, (l.map (cw ss)).sum ≤ 17 * l.length
  | [] => by simp
  | t :: l => by
    have h1 := cw_le ss t
    have h2 := sum_cw ss l
    simp only [List.map_cons, List.sum_cons, List.length_cons]
    omega
theorem take_sum (ss : List (List Ty)) {l : List Ty} {k : Nat} {t : Ty} (h : l[k]? = some t) : ((l.take (k + 1)).map (cw ss)).sum = ((l.take k).map (cw ss)).sum + cw ss t := by
  rw [List.take_add_one, h]
  simp
set_option maxRecDepth 100000 in
theorem words_ne (f : Fv) (w : World) (hk : ¬ (f.k : Int) = 5) (sv kv : Value) : Calls Tryd.prog 57 #[sv, f.v, kv] w fun e w' => e = .returned (.int .i64 1) ∧ Below w.heap.size w w' := by
  obtain ⟨k, m, r, s, a, n, cap⟩ := f
  have k5 : ¬ (k : Int) = 5 := hk
  show Calls Tryd.prog 57 #[sv, tyV k m r s a n cap, kv] w _
  clear hk
  go_enter Tryd.func57, Tryd.ntmps57
  go_wp2_with fail
  go_ret
  exact ⟨rfl, belA (Below.refl _ _)⟩
set_option maxRecDepth 100000 in
set_option maxHeartbeats 4000000 in
theorem words_any (w0 : World) (a : Option Addr) (n cap : Nat) (ss : List (List Ty)) (h : StAt w0 a n cap ss) (hn : n ≤ 32) (hF : Fine ss) (rk : Nat → Nat) (hr : Rank ss rk) (b : Nat) (hb : w0.heap.size ≤ b) :
    ∀ (c j : Nat) (K : Nat → Nat) (W : World) (V : Fv), rk j < c → j < n → Below w0.heap.size w0 W → Arr W b 93 (iV K) → KOk ss K → V.k = 5 → V.s = (j : Int) →
      Calls Tryd.prog 57 #[.slice a n cap, V.v, .pointer (some ⟨b, 0, none⟩)] W fun e w' => e = .returned (.int .i64 (cwS ss j : Int)) ∧ ∃ K', Arr w' b 93 (iV K') ∧ KOk ss K' ∧ But b W w' := by
  intro c
  induction c with
  | zero => intro j K W V hc; omega
  | succ c ih =>
    intro j K W V hc hj hBW hA hK hVk hVs
    obtain ⟨vk, vm, vr, vs, va, vn, vcap⟩ := V
    simp only at hVk hVs
    subst hVk
    subst hVs
    show Calls Tryd.prog 57 #[.slice a n cap, tyV 5 vm vr (j : Int) va vn vcap, .pointer (some ⟨b, 0, none⟩)] W _
    have hj32 : j < 32 := by omega
    have q0 : (0 : Int) ≤ (j : Int) := by omega
    have q1 : (j : Int) < 32 := by omega
    have q2 : (j : Int) < (n : Int) := by omega
    have HK := hidD hK
    have HC := hidD hc
    have HBW := hidD hBW
    have HA := hidD hA
    have HLN := hidD h.len
    have hbl := hA.lt
    have hc0 := hA.arrc hj32
    have hf0 := hA.arrf j
    obtain ⟨x, hx⟩ : ∃ x, x = cwS ss j := ⟨_, rfl⟩
    have HX := hidD hx
    rw [← hx]
    by_cases hz : K j = 0
    · rw [show iV K j = .int .i64 0 from by simp [iV, hz]] at hc0
      obtain ⟨fs, hfs⟩ : ∃ fs, ss[j]? = some fs := ⟨_, List.getElem?_eq_getElem (by have := h.len; omega)⟩
      obtain ⟨g, off, fa, fcap, hag, hg, hcell, hFd⟩ := h.field hBW hfs
      obtain ⟨f1, f2, f3⟩ := hF j fs hfs
      have hg2 : g < W.heap.size := Nat.lt_of_lt_of_le hg hBW.size
      have HFL := hidD (fld_of hfs)
      have IH := hidD ih
      have HF := hidD hFd
      have HP := hidD f3
      have HR := hidD hr
      obtain ⟨m, hm⟩ : ∃ m, m = fs.length := ⟨_, rfl⟩
      have HM := hidD hm
      have m8 : m ≤ 8 := by omega
      have HS := hidD (sum_cw ss)
      rw [← hm] at hcell
      subst hag
      clear f1 f2 f3 hm hfs hF ih hc hA hBW h hK hFd hr hx hz
      go_enter Tryd.func57, Tryd.ntmps57
      go_wp2_with fail
      go_quiet (fail)
      go_wp2_with fail
      go_loopw [7, 27] (fun v7 v27 Z => ∃ (k : Nat) (K' : Nat → Nat), k ≤ m ∧ v27 = .int .i64 k ∧ v7 = .int .i64 ((((fs.take k).map (cw ss)).sum : Nat) : Int) ∧ Arr Z b 93 (iV K') ∧ KOk ss K' ∧ But b W Z ∧ At Z W.heap.size (tyO 5 vm vr (j : Int) va vn vcap)) (fun _ v27 _ => m - (intOf v27).toNat)
      case atStart => exact ⟨0, K, Nat.zero_le _, rfl, rfl, (HA.out.alloc _).drewN nq, HK.out, But.below (belN (belA (Below.refl _ _)) nq), (At.new _ _).drewN nq⟩
      case round =>
        obtain ⟨k, K', hk, rfl, rfl, hA', hK', hBV, hT⟩ := hrel
        have HA' := hidD hA'
        have HK' := hidD hK'
        have HBV := hidD hBV
        have HT := hidD hT
        have hB0 := belBut HBW.out hBV hb HBW.out.size
        have HB0 := hidD hB0
        have HFk := hidD (HF.out.bel hB0)
        have hbl' := hA'.lt
        obtain ⟨z, hz⟩ : ∃ z, z = ((fs.take k).map (cw ss)).sum := ⟨_, rfl⟩
        rw [← hz]
        have HZ := hidD hz
        have z9 : z ≤ 200 := by
          have h1 := HS.out (fs.take k)
          have h2 : (fs.take k).length ≤ k := by simp; omega
          omega
        clear hA' hK' hBV hT hB0 hz
        by_cases hlk : k < m
        · obtain ⟨t, ht⟩ : ∃ t, fs[k]? = some t := ⟨_, List.getElem?_eq_getElem (by have := HM.out; omega)⟩
          obtain ⟨g', off', hfa, hkk⟩ := HFk.out.2 (fun e => by subst e; simp at ht)
          obtain ⟨V, nm, hnm, hV5, hVt⟩ := hkk k t ht
          have HTT := hidD ht
          have HPT := hidD (HP.out t (List.mem_of_getElem? ht))
          have HVT := hidD hVt
          obtain ⟨hl5, p0, p1, p2, p3, p4⟩ := hV5
          subst hfa
          have e0 : (0 : Int) ≤ (k : Int) := by omega
          have e1 : (k : Int) < (m : Int) := by omega
          have e2 : (k : Int) ≤ 1000 := by omega
          obtain ⟨y, hy⟩ : ∃ y, y = cw ss t := ⟨_, rfl⟩
          have y9 : y ≤ 17 := by rw [hy]; exact cw_le ss t
          have HY := hidD hy
          have CW : Hid (∀ W1, Arr W1 b 93 (iV K') → Below w0.heap.size w0 W1 → Calls Tryd.prog 57 #[.slice (some ⟨g, off, none⟩) n cap, V.v, .pointer (some ⟨b, 0, none⟩)] W1 fun e w' => e = .returned (.int .i64 (y : Int)) ∧ ∃ K'', Arr w' b 93 (iV K'') ∧ KOk ss K'' ∧ But b W1 w') := hidD (fun W1 hA1 hB1 => by
            rcases HPT.out.kind with ⟨l, hl, hs, -, rfl⟩ | ⟨hs, ch, rfl, -, hch⟩
            · obtain ⟨ta, tcap, rfl, -⟩ := HVT.out.leaf
              have hst : Stp ss j l := ⟨_, by rw [HFL.out]; exact List.mem_of_getElem? HTT.out, hs⟩
              have := HR.out.2 j l hst
              have hc' := HC.out
              rw [hy, cw_sub hs]
              exact IH.out l K' W1 _ (by omega) (by have := HLN.out; omega) hB1 hA1 HK'.out rfl rfl
            · have hk5 : ¬ (V.k : Int) = 5 := by
                rcases hch with ⟨kk, s, rfl, hkk, -⟩ | ⟨d, rfl, -⟩
                · obtain ⟨ta, tcap, rfl, -⟩ := HVT.out.leaf
                  show ¬ (kk : Int) = 5
                  omega
                · obtain ⟨_, _, _, _, rfl, -⟩ := HVT.out.box
                  show ¬ ((3 : Nat) : Int) = 5
                  omega
              rw [hy, cw_none hs]
              refine (words_ne V W1 hk5 _ _).mono ?_
              rintro e w' ⟨rfl, hb'⟩
              exact ⟨rfl, K', hA1.below hb', HK'.out, But.below hb'⟩)
          have w8 : IntKind.i64.wrap ((z : Int) + (y : Int)) = (z : Int) + (y : Int) := by rw [IntKind.wrap_i64]; omega
          clear hkk ht hVt hy
          have HAX : Hid (∀ o1, Arr (wr.alloc o1) b 93 (iV K')) := hidD (fun o1 => HA'.out.alloc o1)
          have HBX : Hid (∀ o1, Below w0.heap.size w0 (wr.alloc o1)) := hidD (fun o1 => HB0.out.alloc HB0.out.size o1)
          have HUX : Hid (∀ o1, But b W (wr.alloc o1)) := hidD (fun o1 => HBV.out.alloc o1)
          go_wp2_with (go_at_call 57; refine (CW.out _ (HAX.out _) (HBX.out _)).mono ?_; rintro e w1 ⟨rfl, K'', hA'', hK'', hB''⟩)
          refine ⟨⟨k + 1, K'', hlk, by go_num, ?_, hA'', hK'', (HUX.out _).trans hB'', (HT.out.alloc _).but hB'' (by omega)⟩, ?_⟩
          · rw [take_sum ss HTT.out, ← HZ.out, ← HY.out]
            show Value.int .i64 ((z : Int) + (y : Int)) = .int .i64 ((z + y : Nat) : Int)
            rw [show ((z + y : Nat) : Int) = (z : Int) + (y : Int) from by omega]
          · show m - ((k : Int) + 1).toNat < m - (k : Int).toNat
            omega
        · obtain rfl : k = m := by omega
          have z1 : ¬ ((k : Int) < (k : Int)) := by omega
          have hzx : (if (17 : Int) < (z : Int) then (17 : Int) else (z : Int)) = (x : Int) := by
            have h1 := cwS_eq HR.out j
            rw [HFL.out, ← List.take_of_length_le (l := fs) (i := k) (by have := HM.out; omega), ← HZ.out, ← HX.out] at h1
            split <;> omega
          obtain ⟨hlT, c0, c1, c2, c3, c4⟩ := At.ty (f := ⟨5, vm, vr, (j : Int), va, vn, vcap⟩) HT.out
          have hc0' := HA'.out.arrc hj32
          have hf0' := HA'.out.arrf j
          go_wp2_with fail
          go_region
          go_wp2_with fail
          go_quiet (fail)
          go_wp2_with fail
          go_ret
          have HAX := HA'.out.arrs j (.int .i64 (x : Int))
          rw [iV_upd] at HAX
          refine ⟨rfl, _, HAX.drew.drewN nq, ?_, ((HBV.out.set j _).drew).trans (But.below (belN (Below.refl _ _) nq))⟩
          rw [HX.out]
          exact HK'.out.set j
    · have hKj : K j = x := by
        rcases hK j with h0 | h0
        · exact absurd h0 hz
        · rw [h0]; exact hx.symm
      rw [show iV K j = .int .i64 (x : Int) from by simp [iV, hKj]] at hc0
      have hx0 : ¬ (x : Int) = 0 := by omega
      have hx1 : ((x : Int) == 0) = false := by simpa using hx0
      clear hc hA hBW h hK hr hx hz hF ih hKj
      go_enter Tryd.func57, Tryd.ntmps57
      go_wp2_with fail
      go_quiet (fail)
      go_wp2_with fail
      go_quiet (fail)
      go_wp2_with fail
      go_ret
      exact ⟨rfl, K, ((HA.out.alloc _).drewN _).drewN _, HK.out, But.below (belN (belN (belA (Below.refl _ _)) _) _)⟩
end Go.Proofs.YtjchbclkdbojpaaDoor
