import Derived.Test.YtjchbclkdbojpaaDoorDf
namespace Go.Proofs.YtjchbclkdbojpaaDoor
open Go.RowKit
set_option linter.unusedVariables false
set_option linter.unusedSimpArgs false

theorem belBut {B b : Nat} {x y z : World} (h : Below B x y) (k : But b y z) (hb : B ≤ b) (hB : B ≤ y.heap.size) : Below B x z :=
  h.trans ⟨k.os, k.tape, k.output, k.size, fun i hi => k.block i (Nat.lt_of_lt_of_le hi hB) (fun e => by have := Option.some.inj e; omega)⟩
theorem C5.s {w : World} {g o : Nat} {f : Fv} (h : C5 w g o f) : w.cell? ⟨g, o + 3, none⟩ = some (.int .i64 f.s) := h.2.2.2.2.1
abbrev fdO (nm : ByteArray) (V : Fv) : Obj := .cells #[.string nm, .int .u8 (V.k : Int), .bool V.m, .int .i64 V.r, .int .i64 V.s, .slice V.a V.n V.cap] 83 (0, 0)
theorem At.fd {w : World} {b : Nat} {nm : ByteArray} {V : Fv} (h : At w b (fdO nm V)) : C5 w b 1 V := by
  unfold At at h
  exact ⟨lt_of_block h, by simp [World.cell?, h], by simp [World.cell?, h], by simp [World.cell?, h], by simp [World.cell?, h], by simp [World.cell?, h]⟩
/-- One field of a struct, in a later world. -/
theorem StAt.field {w0 W : World} {a : Option Addr} {n cap : Nat} {ss : List (List Ty)} (h : StAt w0 a n cap ss) (hB : Below w0.heap.size w0 W) {i : Nat} {fs : List Ty} (hi : ss[i]? = some fs) : ∃ g off fa fcap, a = some ⟨g, off, none⟩ ∧ g < w0.heap.size ∧ W.cell? ⟨g, off + i * 2 + 1, none⟩ = some (.slice fa fs.length fcap) ∧ FdAt w0 fa fs := by
  obtain ⟨g, off, fa, fcap, h1, h2, h3, h4⟩ := h.one hi
  exact ⟨g, off, fa, fcap, h1, h2, (hB.cell (p := ⟨g, off + i * 2 + 1, none⟩) h2).trans h3, h4⟩
set_option maxRecDepth 100000 in
set_option maxHeartbeats 4000000 in
theorem mark_any (w0 : World) (a : Option Addr) (n cap : Nat) (ss : List (List Ty)) (h : StAt w0 a n cap ss) (hn : n ≤ 32) (hF : Fine ss) (b : Nat) (hb : w0.heap.size ≤ b) :
    ∀ (c i : Nat) (M : Nat → Bool) (W : World), left M < c → i < n → Below w0.heap.size w0 W → Arr W b 121 (bV M) →
      Calls Tryd.prog 81 #[.slice a n cap, .int .i64 (i : Int), .pointer (some ⟨b, 0, none⟩)] W fun e w' => e = .returned (.tuple #[]) ∧ ∃ M', Arr w' b 121 (bV M') ∧ But b W w' ∧ MP ss i M M' := by
  intro c
  induction c with
  | zero => intro i M W hc; omega
  | succ c ih =>
    intro i M W hc hi hBW hA
    have HLN := hidD h.len
    obtain ⟨fs, hfs⟩ : ∃ fs, ss[i]? = some fs := ⟨_, List.getElem?_eq_getElem (by have := h.len; omega)⟩
    obtain ⟨g, off, fa, fcap, hag, hg, hcell, hFd⟩ := h.field hBW hfs
    obtain ⟨f1, f2, f3⟩ := hF i fs hfs
    have hfl := fld_of hfs
    have IH := hidD ih
    have HF := hidD hFd
    have HP := hidD f3
    have HFL := hidD hfl
    have HBW := hidD hBW
    have HC := hidD hc
    have HA := hidD hA
    have HSS := hidD hF
    subst hag
    have j0 : (0 : Int) ≤ (i : Int) := by omega
    have j1 : (i : Int) < (n : Int) := by omega
    obtain ⟨m, hm⟩ : ∃ m, m = fs.length := ⟨_, rfl⟩
    have HM := hidD hm
    have m8 : m ≤ 8 := by omega
    rw [← hm] at hcell
    clear hFd f1 f2 f3 hfl hm hfs hF ih hc hA hBW h
    go_enter Tryd.func81, Tryd.ntmps81
    go_wp2_with fail
    go_loopw [15] (fun v V => ∃ k : Nat, k ≤ m ∧ v = .int .i64 k ∧ ∃ M', Arr V b 121 (bV M') ∧ But b W V ∧ MK ss i k M M') (fun v _ => m - (intOf v).toNat)
    case atStart => exact ⟨0, Nat.zero_le _, rfl, M, HA.out, But.refl _ _, MK.init _ _ _⟩
    case round =>
      obtain ⟨k, hk, rfl, M', hA', hBV, hMK⟩ := hrel
      have HA' := hidD hA'
      have HBV := hidD hBV
      have HMK := hidD hMK
      have hB0 := belBut HBW.out hBV hb HBW.out.size
      have HB0 := hidD hB0
      have HFk := hidD (HF.out.bel hB0)
      clear hA' hBV hMK hB0
      by_cases hlk : k < m
      · obtain ⟨t, ht⟩ : ∃ t, fs[k]? = some t := ⟨_, List.getElem?_eq_getElem (by have := HM.out; omega)⟩
        obtain ⟨g', off', hfa, hkk⟩ := HFk.out.2 (fun e => by subst e; simp at ht)
        obtain ⟨V, nm, hnm, hV5, hVt⟩ := hkk k t ht
        have HTT : Hid ((fld ss i)[k]? = some t) := hidD (by rw [HFL.out]; exact ht)
        have HPT := hidD (HP.out t (List.mem_of_getElem? ht))
        obtain ⟨hl5, p0, p1, p2, p3, p4⟩ := hV5
        subst hfa
        have e0 : (0 : Int) ≤ (k : Int) := by omega
        have e1 : (k : Int) < (m : Int) := by omega
        have e2 : (k : Int) ≤ 1000 := by omega
        clear hkk ht
        rcases HPT.out.kind with ⟨j, hj, hs, -, rfl⟩ | ⟨hs, ch, rfl, -, hch⟩
        · obtain ⟨ta, tcap, rfl, -⟩ := hVt.leaf
          have hj32 : j < 32 := by have := HLN.out; omega
          have HS := hidD hs
          have q0 : (0 : Int) ≤ (j : Int) := by omega
          have q1 : (j : Int) < 32 := by omega
          have hc0 := HA'.out.arrc hj32
          have hf0 := HA'.out.arrf j
          have hbl := HA'.out.lt
          clear hs hVt
          cases hm : M' j with
          | true =>
            rw [show bV M' j = .bool true from by simp [bV, hm]] at hc0
            have HMJ := hidD hm
            clear hm
            go_wp2_with fail
            go_quiet (fail)
            go_wp2_with fail
            refine ⟨⟨k + 1, hlk, by go_num, M', ((HA'.out.alloc _).alloc _).drewN nq, (HBV.out.alloc _).alloc _ |>.trans (But.below (belN (Below.refl _ _) nq)), HMK.out.skip HTT.out (fun l hl => ?_)⟩, ?_⟩
            · rw [HS.out] at hl
              cases hl
              exact HMJ.out
            · show m - ((k : Int) + 1).toNat < m - (k : Int).toNat
              omega
          | false =>
            rw [show bV M' j = .bool false from by simp [bV, hm]] at hc0
            have HMJ := hidD hm
            clear hm
            go_wp2_with fail
            go_quiet (fail)
            have HLE : Hid (left (upd M' j true) < c) := hidD (by have h1 := left_lt hj32 HMJ.out; have h2 := left_le HMK.out.mono; have h3 := HC.out; omega)
            have CR : Hid (∀ W1, Arr W1 b 121 (bV (upd M' j true)) → Below w0.heap.size w0 W1 → Calls Tryd.prog 81 #[.slice (some ⟨g, off, none⟩) n cap, .int .i64 (j : Int), .pointer (some ⟨b, 0, none⟩)] W1 fun e w' => e = .returned (.tuple #[]) ∧ ∃ M'', Arr w' b 121 (bV M'') ∧ But b W1 w' ∧ MP ss j (upd M' j true) M'') := hidD (fun W1 hA1 hB1 => IH.out j _ W1 HLE.out (by have := HLN.out; omega) hB1 hA1)
            go_wp2_with fail
            go_region
            have HAX : Hid (∀ o1 o2 d, Arr ((((wr.alloc o1).alloc o2).drewN d).setCell ⟨b, j, none⟩ (.bool true)) b 121 (bV (upd M' j true))) := hidD (fun o1 o2 d => by have := (((HA'.out.alloc o1).alloc o2).drewN d).arrs j (.bool true); rw [bV_upd] at this; exact this)
            have HBX : Hid (∀ o1 o2 d, Below w0.heap.size w0 ((((wr.alloc o1).alloc o2).drewN d).setCell ⟨b, j, none⟩ (.bool true))) := hidD (fun o1 o2 d => (belN ((HB0.out.alloc HB0.out.size o1).alloc (by have := HB0.out.size; simp; omega) o2) d).setCell (p := ⟨b, j, none⟩) hb _)
            have HUX : Hid (∀ o1 o2 d, But b W ((((wr.alloc o1).alloc o2).drewN d).setCell ⟨b, j, none⟩ (.bool true))) := hidD (fun o1 o2 d => (((HBV.out.alloc o1).alloc o2).trans (But.below (belN (Below.refl _ _) d))).set j _)
            go_wp2_with (go_at_call 81; refine (CR.out _ (HAX.out _ _ _) (HBX.out _ _ _)).mono ?_; rintro e w1 ⟨rfl, M'', hA'', hB'', hMP⟩)
            refine ⟨⟨k + 1, hlk, by go_num, M'', hA'', (HUX.out _ _ _).trans hB'', HMK.out.into HTT.out HS.out HMJ.out hMP⟩, ?_⟩
            show m - ((k : Int) + 1).toNat < m - (k : Int).toNat
            omega
        · have HS := hidD hs
          have hk5 : ¬ (V.k : Int) = 5 := by
            rcases hch with ⟨kk, s, rfl, hkk, -⟩ | ⟨d, rfl, -⟩
            · obtain ⟨ta, tcap, rfl, -⟩ := hVt.leaf
              show ¬ (kk : Int) = 5
              omega
            · obtain ⟨_, _, _, _, rfl, -⟩ := hVt.box
              show ¬ ((3 : Nat) : Int) = 5
              omega
          have hk6 : ((V.k : Int) == 5) = false := by simpa using hk5
          clear hs hVt hch
          go_wp2_with fail
          go_quiet (fail)
          go_wp2_with fail
          refine ⟨⟨k + 1, hlk, by go_num, M', ((HA'.out.alloc _).alloc _).drewN nq, (HBV.out.alloc _).alloc _ |>.trans (But.below (belN (Below.refl _ _) nq)), HMK.out.skip HTT.out (fun l hl => ?_)⟩, ?_⟩
          · rw [HS.out] at hl
            cases hl
          · show m - ((k : Int) + 1).toNat < m - (k : Int).toNat
            omega
      · obtain rfl : k = m := by omega
        have z1 : ¬ ((k : Int) < (k : Int)) := by omega
        go_wp2_with fail
        go_end0
        exact ⟨rfl, M', HA'.out, HBV.out, HMK.out.all (by rw [HFL.out]; have := HM.out; omega)⟩
end Go.Proofs.YtjchbclkdbojpaaDoor
