import Derived.Test.YtnohcppipkpgmaaDoorRn
namespace Go.Proofs.YtnohcppipkpgmaaDoor
open Go.RowKit Go.Shelf
set_option linter.unusedVariables false
set_option linter.unusedSimpArgs false

def isR (g : Int) : Bool := decide (g = 2) || decide (g = 3)
/-- How many steps go through no reference. -/
def heldN : List Int → Nat
  | [] => 0
  | g :: l => if isR g = true then 0 else heldN l + 1
theorem heldN_le : ∀ l : List Int, heldN l ≤ l.length
  | [] => Nat.le_refl _
  | g :: l => by
    have := heldN_le l
    unfold heldN
    split
    · simp
    · simp; omega
theorem heldN_before : ∀ (l : List Int) (j : Nat), j < heldN l → isR l[j]! = false
  | [], j, h => by simp [heldN] at h
  | g :: l, j, h => by
    unfold heldN at h
    split at h
    · omega
    · rename_i hg
      cases j with
      | zero => simpa using hg
      | succ j => simpa using heldN_before l j (by omega)
theorem heldN_at : ∀ (l : List Int), heldN l < l.length → isR l[heldN l]! = true
  | [], h => by simp at h
  | g :: l, h => by
    unfold heldN at h ⊢
    split at h
    · rename_i hg
      rw [if_pos hg]
      simpa using hg
    · rename_i hg
      rw [if_neg hg]
      have := heldN_at l (by simp at h; omega)
      simpa using this
set_option maxRecDepth 100000 in
theorem isRef_any (x : Int) (w : World) : Calls Tryd.prog 39 #[.int .i64 x] w fun e w' => e = .returned (.bool (isR x)) ∧ w' = w := by
  by_cases h2 : x = 2
  · subst h2
    go_enter Tryd.func39, Tryd.ntmps39
    go_wp2_with fail
    go_ret
    exact ⟨rfl, rfl⟩
  · have h2b : (x == 2) = false := by simpa using h2
    have e : isR x = decide (x = 3) := by unfold isR; rw [decide_eq_false h2]; rfl
    rw [e]
    go_enter Tryd.func39, Tryd.ntmps39
    go_wp2_with fail
    go_ret
    exact ⟨rfl, rfl⟩
theorem idx_any {V : World} {B cap : Nat} {a : Option Addr} {gs : List Int} (h : V.ownsRow B 3 1 (.slice a gs.length cap) gs.length (iCells gs)) (hl : gs.length ≤ 100) (r : Int) (hr : r = if heldN gs < gs.length then (heldN gs : Int) else -1) :
    Calls Tryd.prog 38 #[.slice a gs.length cap, fnV 39] V fun e w' => e = .returned (.int .i64 r) ∧ ∃ q, w' = V.drewN q := by
  rcases h.2 with ⟨e, h0⟩ | ⟨g, cap', cur, e, h1, hg, h2, h3, h4, ht⟩
  · injection e with e1 e2 e3
    subst e1 e3
    have eg : gs = [] := List.length_eq_zero_iff.1 h0
    subst eg
    refine (Tryd.slices_IndexFunc_empty (α := Int) none 0 (fnV 39) V).mono ?_
    rintro e w' ⟨he, hw⟩
    refine ⟨?_, ?_⟩
    · rw [he, hr]
      rfl
    · first | exact hw | exact ⟨0, hw⟩
  · injection e with e1 e2 e3
    subst e1 e3
    refine (Tryd.slices_IndexFunc (α := Int) (fun x => .int .i64 x) isR 39 #[] (fun args W => by kernel_rfl) g 0 gs.length cap gs V (fun W x hW => ?_) (Nat.le_refl _) (by omega) (fun j hj => ?_)).mono ?_
    · refine (isRef_any x W).mono ?_
      rintro e w' ⟨he, hw⟩
      exact ⟨he, 0, hw⟩
    · rw [Nat.zero_add]
      refine (own_cell h (j := j) ?_).1
      rw [iCells, List.getElem?_map, List.getElem?_eq_getElem hj]
      simp [hj]
    · rintro e w' ⟨he, hw⟩
      refine ⟨?_, hw⟩
      rw [he, hr]
      split
      · rename_i hlt
        rw [Lib.idxBy_hit (fun _ y => isR y) gs gs.length (heldN gs) default hlt (Nat.le_refl _) (heldN_at gs hlt) (fun j hj => heldN_before gs j hj)]
      · rename_i hlt
        rw [Lib.idxBy_miss (fun _ y => isR y) gs gs.length default (fun j hj => heldN_before gs j (by have := heldN_le gs; omega))]
def HeldPost (R : Option (Ch × List Int)) (W w' : World) (x : Pt) (p : List Int) (e : Ending) : Prop := match R with
  | some z => ∃ gl ga, e = .returned (.tuple #[(preP x.l ga (heldN z.2)).v, .int .i64 0]) ∧ PRow W w' gl ga x.l p
  | none => e = .returned (.tuple #[plV 0 none 0 0, .int .i64 2])
theorem PRow.low {w0 w2 V : World} {gl ga : Nat} {l : Int} {p : List Int} (h : PRow w0 V gl ga l p) (hB : w2.heap.size ≤ w0.heap.size) : PRow w2 V gl ga l p := ⟨Nat.le_trans hB h.lo1, Nat.le_trans hB h.lo2, h.ne, own_low h.r1 hB, own_low h.r2 hB⟩
theorem PRow.but {w0 V V' : World} {gl ga b : Nat} {l : Int} {p : List Int} (h : PRow w0 V gl ga l p) (k : But b V V') (h1 : gl ≠ b) (h2 : ga ≠ b) : PRow w0 V' gl ga l p := ⟨h.lo1, h.lo2, h.ne, own_other h.r1 k (fun e => h1 (Option.some.inj e).symm), own_other h.r2 k (fun e => h2 (Option.some.inj e).symm)⟩
theorem PRow.bel {w0 V V' : World} {gl ga : Nat} {l : Int} {p : List Int} (h : PRow w0 V gl ga l p) (k : Below V.heap.size V V') : PRow w0 V' gl ga l p := ⟨h.lo1, h.lo2, h.ne, own_bel h.r1 k, own_bel h.r2 k⟩
set_option maxRecDepth 100000 in
set_option maxHeartbeats 4000000 in
/-- Held. -/
theorem Held_any {w W : World} (hW : Below w.heap.size w W) {a la : Option Addr} {n cap ln lcap : Nat} {ok : Bool} {fc : Nat → List Ch} {cl : List Ch} (hC : Cx w a la n cap ln lcap ok fc cl) {x : Pt} {p : List Int} (hP : PAt W x p) (R : Option (Ch × List Int)) (hR : R = wyX ok fc cl x.l p) :
    Calls Tryd.prog 14 #[.slice a n cap, .slice la ln lcap, x.v] W fun e w' => HeldPost R W w' x p e ∧ Below W.heap.size W w' := by
  have C := hidD (follow_one (below_aft hW bel3) hC (ps_three (o := plO 0 none 0 0) hP))
  rw [← hR] at C
  have HA6 : Hid (At (((W.alloc x.o).alloc (plO 0 none 0 0)).alloc x.o) (W.heap.size + 1) (plO 0 none 0 0)) := (at_snd W x.o _).alloc _
  have HA5 : Hid (At (((W.alloc x.o).alloc (plO 0 none 0 0)).alloc x.o) W.heap.size x.o) := ((At.new W x.o).alloc _).alloc _
  have HP := hidD hP
  obtain ⟨l, pa, m, pcap⟩ := x
  have hm : m = p.length := hP.row.len
  show Calls Tryd.prog 14 #[.slice a n cap, .slice la ln lcap, plV l pa m pcap] W _
  cases R with
  | none =>
    have C2 : Hid (Calls Tryd.prog 36 #[.slice a n cap, .slice la ln lcap, .slice (some ⟨W.heap.size + 2, 0, none⟩) 1 1] (((W.alloc (plO l pa m pcap)).alloc (plO 0 none 0 0)).alloc (plO l pa m pcap)) fun e w' => e = .returned (.tuple #[.slice none 0 0, .int .i64 2]) ∧ Below (((W.alloc (plO l pa m pcap)).alloc (plO 0 none 0 0)).alloc (plO l pa m pcap)).heap.size (((W.alloc (plO l pa m pcap)).alloc (plO 0 none 0 0)).alloc (plO l pa m pcap)) w') := C.out
    clear C hC hP hR hm
    go_enter Tryd.func14, Tryd.ntmps14
    go_wp2_with (first
      | (go_at_call 36; refine C2.out.mono ?_; rintro e w1 ⟨rfl, hb1⟩; have HB1 := hidD (below3 hb1); have HA1 := hidD (HA6.out.below hb1); clear hb1)
      | ((with_reducible show wpList _ _ _ (Oper.mk none (Op.store 26 _ _) _ _ _ none :: _) _ _); refine wpl_storeP (W.heap.size + 1) ⟨0, none, 0, 0⟩ ⟨0, none, 0, 0⟩ HA1.out rfl rfl ?_; intro w9 hw9; have F9 : Hid (At w9 (W.heap.size + 1) (plO 0 none 0 0) ∧ Below W.heap.size W w9) := (by rw [hw9]; exact ⟨HA1.out.set2 (x := ⟨0, none, 0, 0⟩) ⟨0, none, 0, 0⟩, below_s2 HB1.out (by omega) _⟩); clear hw9))
    exact bodyPost_ret (results_p2 (g := ⟨0, none, 0, 0⟩) Tryd.results14 rfl rfl F9.out.1) rfl ⟨rfl, F9.out.2⟩
  | some z =>
    obtain ⟨c, gs⟩ := z
    have C2 : Hid (Calls Tryd.prog 36 #[.slice a n cap, .slice la ln lcap, .slice (some ⟨W.heap.size + 2, 0, none⟩) 1 1] (((W.alloc (plO l pa m pcap)).alloc (plO 0 none 0 0)).alloc (plO l pa m pcap)) fun e w' => (∃ g2 cap2 y, e = .returned (.tuple #[.slice (some ⟨g2, 0, none⟩) 1 cap2, .int .i64 0]) ∧ C5 w' g2 0 y.f ∧ w'.cell? ⟨g2, 5, none⟩ = some (.slice y.ga y.gn y.gcap) ∧ WayIs w (((W.alloc (plO l pa m pcap)).alloc (plO 0 none 0 0)).alloc (plO l pa m pcap)) w' y c gs) ∧ Below (((W.alloc (plO l pa m pcap)).alloc (plO 0 none 0 0)).alloc (plO l pa m pcap)).heap.size (((W.alloc (plO l pa m pcap)).alloc (plO 0 none 0 0)).alloc (plO l pa m pcap)) w') := C.out
    have hok := wyX_ok hC hR.symm
    have hgl : gs.length = p.length := hok.2.2.1
    have hp8 : p.length ≤ 8 := hok.2.2.2.1
    have HGL := hidD hgl
    have HP8 := hidD hp8
    obtain ⟨r, hr⟩ : ∃ r, r = if heldN gs < gs.length then (heldN gs : Int) else -1 := ⟨_, rfl⟩
    have HR := hidD hr
    have hle := heldN_le gs
    obtain ⟨hn, hhn⟩ : ∃ hn, hn = heldN gs := ⟨_, rfl⟩
    have HHN := hidD hhn
    have HLE : Hid (hn ≤ m) := by show hn ≤ m; omega
    have HM := hidD hm
    have hRl : -9223372036854775808 ≤ l ∧ l ≤ 9223372036854775807 := ⟨hP.l0, hP.l1⟩
    have HRL := hidD hRl
    have HRP := hidD hP.row.rng
    have CC : Hid (∀ (V : World) (y : Wy), WayIs w (((W.alloc (plO l pa m pcap)).alloc (plO 0 none 0 0)).alloc (plO l pa m pcap)) V y c gs → Calls Tryd.prog 38 #[.slice y.ga y.gn y.gcap, fnV 39] V fun e w' => e = .returned (.int .i64 r) ∧ ∃ q, w' = V.drewN q) := fun V y hy => by
      have h1 := hy.row
      have h2 := hy.gn
      rw [h2] at h1 ⊢
      exact idx_any h1 (by have := HGL.out; omega) r HR.out
    have CP : Hid (∀ V, Below W.heap.size W V → Calls Tryd.prog 31 #[plV l pa m pcap] V fun e w' => ∃ gl ga, e = .returned (.slice (some ⟨gl, 0, none⟩) (p.length + 1) (p.length + 1)) ∧ PRow V w' gl ga l p ∧ Below V.heap.size V w') := fun V hV => Prefixes_any (x := ⟨l, pa, m, pcap⟩) (HP.out.bel hV) (by omega)
    have CX : Hid (∀ V w3 gl ga, PRow V w3 gl ga l p → w3.cell? ⟨gl, hn * 2, none⟩ = some (.int .i64 l) ∧ w3.cell? ⟨gl, hn * 2 + 1, none⟩ = some (.slice (preA ga hn) hn hn)) := fun V w3 gl ga h3 => by
      have := h3.place HRL.out HRP.out (by have := HP8.out; omega) (i := hn) (by have := HLE.out; have := HM.out; omega)
      exact ⟨this.1, this.2.1⟩
    obtain ⟨k1, hk1⟩ : ∃ k1, k1 = p.length + 1 := ⟨_, rfl⟩
    rw [← hk1] at CP
    have hk2 : hn < k1 := by omega
    have hm8 : m ≤ 8 := by omega
    have hcase : r = (hn : Int) ∨ r = -1 ∧ hn = m := by
      rw [hr]
      by_cases h : heldN gs < gs.length
      · rw [if_pos h]; left; omega
      · rw [if_neg h]; right; exact ⟨rfl, by omega⟩
    clear C hC hP hR hok hgl hp8 hr hle hhn hm hRl hW hk1
    have TAIL : Hid (∀ (V w3 : World) (gl ga : Nat), PRow V w3 gl ga l p → Below W.heap.size W V → W.heap.size + 1 < V.heap.size → Below V.heap.size V w3 → At w3 (W.heap.size + 1) (plO 0 none 0 0) → ∀ w9, w9 = S2 w3 (W.heap.size + 1) (preP l ga hn) → At w9 (W.heap.size + 1) (preP l ga hn).o ∧ PRow W w9 gl ga l p ∧ Below W.heap.size W w9) := fun V w3 gl ga h3 hV hV1 hV3 hA w9 hw9 => by
      rw [hw9]
      refine ⟨hA.set2 (x := ⟨0, none, 0, 0⟩) _, ?_, below_s2 (below_aft hV hV3) (by omega) _⟩
      exact (h3.low hV.size).but (but_s2 _ _ _) (by have := h3.lo1; omega) (by have := h3.lo2; omega)
    rcases hcase with rfl | ⟨rfl, rfl⟩
    · have r0 : ¬ (hn : Int) < 0 := by omega
      have r1 : (0 : Int) ≤ (hn : Int) := by omega
      have r2 : (hn : Int) < (k1 : Int) := by omega
      have r3 : (hn : Int) ≤ 8 := by have := HLE.out; omega
      go_enter Tryd.func14, Tryd.ntmps14
      go_wp2_with (first
        | (go_at_call 36; refine C2.out.mono ?_; rintro e w1 ⟨⟨g2, cap2, y, rfl, hc5, hc6, hwy⟩, hb1⟩; have HB1 := hidD (below3 hb1); have HA1 := hidD (HA6.out.below hb1); have HX1 := hidD (HA5.out.below hb1); have HS1 := hidD hb1.size; have C3 := hidD (CC.out w1 y hwy); clear hb1 hwy; obtain ⟨x0, x1⟩ := HX1.out.pl; have hl2 := hc5.1; clear hc5)
        | (go_at_call 38; refine C3.out.mono ?_; rintro e w2 ⟨rfl, q, hq⟩; subst hq)
        | (go_at_call 31; refine (CP.out _ (belN HB1.out q)).mono ?_; rintro e w3 ⟨gl, ga, rfl, hR3, hb3⟩; have HR3 := hidD hR3; have HB3 := hidD hb3; have HA3 := hidD ((HA1.out.drewN q).below hb3); obtain ⟨y0, y1⟩ := CX.out _ w3 gl ga hR3; clear hR3 hb3)
        | ((with_reducible show wpList _ _ _ (Oper.mk none (Op.store 26 _ _) _ _ _ none :: _) _ _); refine wpl_storeP (W.heap.size + 1) ⟨0, none, 0, 0⟩ (preP l ga hn) HA3.out rfl rfl ?_; intro w9 hw9; have F9 := hidD (TAIL.out _ w3 gl ga HR3.out (belN HB1.out q) (by have := HS1.out; simp at this; show W.heap.size + 1 < w1.heap.size; omega) HB3.out HA3.out w9 hw9); clear hw9))
      refine bodyPost_ret (results_p2 (g := preP l ga hn) Tryd.results14 rfl rfl F9.out.1) rfl ⟨⟨gl, ga, ?_, F9.out.2.1⟩, F9.out.2.2⟩
      rw [← HHN.out]
      rfl
    · have r0 : (-1 : Int) < 0 := by omega
      have r1 : (0 : Int) ≤ (hn : Int) := by omega
      have r2 : (hn : Int) < (k1 : Int) := by omega
      have r3 : (hn : Int) ≤ 8 := by have := HLE.out; omega
      go_enter Tryd.func14, Tryd.ntmps14
      go_wp2_with (first
        | (go_at_call 36; refine C2.out.mono ?_; rintro e w1 ⟨⟨g2, cap2, y, rfl, hc5, hc6, hwy⟩, hb1⟩; have HB1 := hidD (below3 hb1); have HA1 := hidD (HA6.out.below hb1); have HX1 := hidD (HA5.out.below hb1); have HS1 := hidD hb1.size; have C3 := hidD (CC.out w1 y hwy); clear hb1 hwy; obtain ⟨x0, x1⟩ := HX1.out.pl; have hl2 := hc5.1; clear hc5)
        | (go_at_call 38; refine C3.out.mono ?_; rintro e w2 ⟨rfl, q, hq⟩; subst hq)
        | (go_at_call 31; refine (CP.out _ (belN HB1.out q)).mono ?_; rintro e w3 ⟨gl, ga, rfl, hR3, hb3⟩; have HR3 := hidD hR3; have HB3 := hidD hb3; have HA3 := hidD ((HA1.out.drewN q).below hb3); obtain ⟨y0, y1⟩ := CX.out _ w3 gl ga hR3; clear hR3 hb3)
        | ((with_reducible show wpList _ _ _ (Oper.mk none (Op.store 26 _ _) _ _ _ none :: _) _ _); refine wpl_storeP (W.heap.size + 1) ⟨0, none, 0, 0⟩ (preP l ga hn) HA3.out rfl rfl ?_; intro w9 hw9; have F9 := hidD (TAIL.out _ w3 gl ga HR3.out (belN HB1.out q) (by have := HS1.out; simp at this; show W.heap.size + 1 < w1.heap.size; omega) HB3.out HA3.out w9 hw9); clear hw9))
      refine bodyPost_ret (results_p2 (g := preP l ga hn) Tryd.results14 rfl rfl F9.out.1) rfl ⟨⟨gl, ga, ?_, F9.out.2.1⟩, F9.out.2.2⟩
      rw [← HHN.out]
      rfl
end Go.Proofs.YtnohcppipkpgmaaDoor
