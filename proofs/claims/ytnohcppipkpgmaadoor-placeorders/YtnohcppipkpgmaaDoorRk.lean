import Derived.Test.YtnohcppipkpgmaaDoorRj
namespace Go.Proofs.YtnohcppipkpgmaaDoor
open Go.RowKit Go.Shelf
set_option linter.unusedVariables false
set_option linter.unusedSimpArgs false

/-- Locals that may be, as chains. -/
structure LF (w : World) (a : Option Addr) (n cap : Nat) (nn : Nat) (cl : List Ch) : Prop where
  at_ : LcAt w a n cap (cl.map Ch.ty)
  ok : ∀ c ∈ cl, c.ok nn
theorem LF.bel {w w' : World} {a : Option Addr} {n cap nn : Nat} {cl : List Ch} (h : LF w a n cap nn cl) (hb : Below w.heap.size w w') : LF w' a n cap nn cl := ⟨h.at_.bel hb, h.ok⟩
theorem own_bel {W W' : World} {B e s n : Nat} {v : Value} {xs : List Value} (h : W.ownsRow B e s v n xs) (k : Below W.heap.size W W') : W'.ownsRow B e s v n xs := own_grow h (r := none) ⟨k.os, k.tape, k.output, k.size, fun i hi _ => k.block i hi⟩ (fun g _ e => by cases e)
theorem WyI.rowg {w0 w V : World} {b8 : Nat} {y : Wy} {c : Ch} {gs : List Int} (h : WyI w0 w V b8 y c gs) : V.ownsRow w.heap.size 3 1 (.slice y.ga y.gn y.gcap) y.gn (iCells gs) := by
  have := h.row
  rw [← h.gn] at this
  exact this
theorem WyI.fin {w0 w V : World} {b8 : Nat} {y z : Wy} {c : Ch} {gs : List Int} (h : WyI w0 w V b8 y c gs) : WayIs w0 w (S6 V (w.heap.size + 1) z) y c gs where
  ty := h.ty
  gn := h.gn
  row := own_grow h.row (but_s6 V (w.heap.size + 1) z) (fun g hg e => row3_ne (e := 75) (by decide) h.rowg h.res (by rw [hg, e]))
set_option maxRecDepth 100000 in
set_option maxHeartbeats 8000000 in
/-- wayOf. -/
theorem wayOf_any {w0 w : World} (hB0 : Below w0.heap.size w0 w) {a la : Option Addr} {n cap ln lcap : Nat} {fc : Nat → List Ch} {cl : List Ch} (hS : SF w0 a n cap fc) (hL : LF w0 la ln lcap n cl) {x : Pt} {p : List Int} (hP : PAt w x p) (R : Option (Ch × List Int)) (hR : R = wayP fc cl x.l p) :
    Calls Tryd.prog 57 #[.slice a n cap, .slice la ln lcap, x.v] w fun e w' => WayPost R w0 w w' e ∧ Below w.heap.size w w' := by
  obtain ⟨l, pa, m, pcap⟩ := x
  have hm : m = p.length := hP.row.len
  have hln : ln = cl.length := by have := hL.at_.len; rw [List.length_map] at this; exact this
  have A5 : At ((w.alloc (plO l pa m pcap)).alloc zW.o) w.heap.size (plO l pa m pcap) := (At.new _ _).alloc _
  have A6 : At ((w.alloc (plO l pa m pcap)).alloc zW.o) (w.heap.size + 1) zW.o := at_snd _ _ _
  have HA6 := hidD A6
  have HB0 := hidD (bel2 : Below w.heap.size w ((w.alloc (plO l pa m pcap)).alloc zW.o))
  show Calls Tryd.prog 57 #[.slice a n cap, .slice la ln lcap, plV l pa m pcap] w _
  by_cases hbad : l < 0 ∨ (ln : Int) ≤ l ∨ 8 < m
  · have hRn : R = none := by
      rw [hR]
      unfold wayP
      show (if 0 ≤ l ∧ p.length ≤ 8 then (cl[l.toNat]?).bind fun c => wayC fc c p else none) = none
      split
      · rename_i h
        rw [List.getElem?_eq_none (by omega)]
        rfl
      · rfl
    subst hRn
    clear hR hS hL hP hm hln A5 A6
    by_cases h1 : l < 0
    · clear hbad
      go_enter Tryd.func57, Tryd.ntmps57
      go_wp2_with (((with_reducible show wpList _ _ _ (Oper.mk none (Op.store 75 _ _) _ _ _ none :: _) _ _); refine wpl_storeW (w.heap.size + 1) zW zW HA6.out rfl rfl ?_; intro w9 hw9; have F9 : Hid (At w9 (w.heap.size + 1) zW.o ∧ Below w.heap.size w w9) := (by rw [hw9]; exact ⟨atWy6 HA6.out zW, below_S6 HB0.out (by omega) zW⟩); clear hw9))
      exact bodyPost_ret (results_w2 (g := zW) Tryd.results57 rfl rfl F9.out.1) rfl ⟨rfl, F9.out.2⟩
    · by_cases h2 : (ln : Int) ≤ l
      · clear hbad
        go_enter Tryd.func57, Tryd.ntmps57
        go_wp2_with (((with_reducible show wpList _ _ _ (Oper.mk none (Op.store 75 _ _) _ _ _ none :: _) _ _); refine wpl_storeW (w.heap.size + 1) zW zW HA6.out rfl rfl ?_; intro w9 hw9; have F9 : Hid (At w9 (w.heap.size + 1) zW.o ∧ Below w.heap.size w w9) := (by rw [hw9]; exact ⟨atWy6 HA6.out zW, below_S6 HB0.out (by omega) zW⟩); clear hw9))
        exact bodyPost_ret (results_w2 (g := zW) Tryd.results57 rfl rfl F9.out.1) rfl ⟨rfl, F9.out.2⟩
      · have h3 : (8 : Int) < (m : Int) := by omega
        clear hbad
        go_enter Tryd.func57, Tryd.ntmps57
        go_wp2_with (((with_reducible show wpList _ _ _ (Oper.mk none (Op.store 75 _ _) _ _ _ none :: _) _ _); refine wpl_storeW (w.heap.size + 1) zW zW HA6.out rfl rfl ?_; intro w9 hw9; have F9 : Hid (At w9 (w.heap.size + 1) zW.o ∧ Below w.heap.size w w9) := (by rw [hw9]; exact ⟨atWy6 HA6.out zW, below_S6 HB0.out (by omega) zW⟩); clear hw9))
        exact bodyPost_ret (results_w2 (g := zW) Tryd.results57 rfl rfl F9.out.1) rfl ⟨rfl, F9.out.2⟩
  · obtain ⟨j, rfl⟩ : ∃ j : Nat, l = (j : Int) := ⟨l.toNat, by omega⟩
    obtain ⟨c0, hc0⟩ : ∃ c, cl[j]? = some c := ⟨_, List.getElem?_eq_getElem (by omega)⟩
    have hR2 : R = (wayC fc c0 (p.drop 0)).map (fun z => (z.1, [] ++ z.2)) := by
      rw [hR]
      unfold wayP
      show (if 0 ≤ (j : Int) ∧ p.length ≤ 8 then (cl[((j : Int)).toNat]?).bind fun c => wayC fc c p else none) = _
      rw [if_pos ⟨by omega, by omega⟩, Int.toNat_natCast, hc0, List.drop_zero]
      simp
    have hty0 : (cl.map Ch.ty)[j]? = some c0.ty := by rw [List.getElem?_map, hc0]; rfl
    obtain ⟨g, off, V, ea, hc5, hT⟩ := hL.at_.one hty0
    subst ea
    have HR2 := hidD hR2
    have HS := hidD hS
    have HL := hidD hL
    have HP := hidD hP
    have HM := hidD hm
    have HTT := hidD hT
    have HOK := hidD (hL.ok c0 (List.mem_of_getElem? hc0))
    obtain ⟨hg, p0, p1, p2, p3, p4⟩ := hc5.below hB0
    clear hc5
    have HB00 := hidD hB0
    have j0 : (0 : Int) ≤ (j : Int) := by omega
    have j1 : (j : Int) < (ln : Int) := by omega
    have j2 : ¬ (ln : Int) ≤ (j : Int) := by omega
    have j3 : ¬ (8 : Int) < (m : Int) := by omega
    have j4 : ¬ (j : Int) < 0 := by omega
    have W0 : Hid (WyI w0 w (((w.alloc (plO j pa m pcap)).alloc zW.o).alloc (Wy.o ⟨V, none, 0, 0⟩)) (w.heap.size + 2) ⟨V, none, 0, 0⟩ c0 []) := by
      have h8 : At (((w.alloc (plO j pa m pcap)).alloc zW.o).alloc (Wy.o ⟨V, none, 0, 0⟩)) (w.heap.size + 2) (Wy.o ⟨V, none, 0, 0⟩) := by
        have := At.new ((w.alloc (plO j pa m pcap)).alloc zW.o) (Wy.o ⟨V, none, 0, 0⟩)
        simpa only [World.size_alloc] using this
      exact ⟨h8, HA6.out.alloc _, HTT.out, rfl, World.ownsRow_nil _ _ _ _, belA HB0.out, by omega⟩
    clear hR hR2 hS hL hP hm hln hT hty0 hc0 A5 A6 hbad hB0
    go_enter Tryd.func57, Tryd.ntmps57
    obtain ⟨i3, hi3, hz3, hs3, hb3⟩ := info_parts Tryd.info3
    go_wp2_with fail
    obtain ⟨w9, hw9⟩ : ∃ w9, w9 = ((w.alloc (plO j pa m pcap)).alloc zW.o).alloc (Wy.o ⟨V, none, 0, 0⟩) := ⟨_, rfl⟩
    rw [← hw9] at W0
    rw [show (((w.alloc (Obj.cells #[Value.int IntKind.i64 (j : Int), Value.slice pa m pcap] 26)).alloc (Obj.cells #[Value.int IntKind.u8 0, Value.bool false, Value.int IntKind.i64 0, Value.int IntKind.i64 0, Value.slice none 0 0, Value.slice none 0 0] 75)).alloc (Obj.cells #[Value.int IntKind.u8 (V.k : Int), Value.bool V.m, Value.int IntKind.i64 V.r, Value.int IntKind.i64 V.s, Value.slice V.a V.n V.cap, Value.slice none 0 0] 75)) = w9 from hw9.symm]
    obtain ⟨b8, hb8⟩ : ∃ b8, b8 = w.heap.size + 2 := ⟨_, rfl⟩
    rw [← hb8] at W0 ⊢
    clear hw9 hb8 p0 p1 p2 p3 p4 hg HA6 HB0
    go_loopw [40] (fun v V' => ∃ (i : Nat) (y : Wy) (c : Ch) (gs : List Int), v = .int .i64 i ∧ i ≤ m ∧ gs.length = i ∧ c.ok n ∧ R = (wayC fc c (p.drop i)).map (fun z => (z.1, gs ++ z.2)) ∧ WyI w0 w V' b8 y c gs) (fun v _ => m - (intOf v).toNat)
    case atStart => exact ⟨0, ⟨V, none, 0, 0⟩, c0, [], rfl, Nat.zero_le _, rfl, HOK.out, HR2.out, W0.out⟩
    case round =>
      obtain ⟨i, y, c, gs, rfl, hi, hgl, hok, hRR, hW⟩ := hrel
      have HW := hidD hW
      have HRR := hidD hRR
      have HC := hidD hok
      have HGL := hidD hgl
      clear hW hRR hok hgl W0 HR2 HOK
      have hlo := HW.out.lo
      have nb : ¬ b8 = w.heap.size + 1 := by omega
      by_cases hlt : i < m
      · obtain ⟨s, hs⟩ : ∃ s, p[i]? = some s := ⟨_, List.getElem?_eq_getElem (by have := HM.out; omega)⟩
        obtain ⟨g9, off9, ea, hg9, hc9, s0, s1⟩ := (HP.out.row.bel HW.out.bel).nth hs
        have ea2 : pa = some ⟨g9, off9, none⟩ := ea
        subst ea2
        have st := wayC_step (fc := fc) (c := c) hs gs
        rw [← HRR.out] at st
        have ST := hidD st
        have C := hidD (stepFrom_any (below_aft HB00.out HW.out.bel) HS.out c y.f HC.out HW.out.ty s s0 s1 _ rfl)
        obtain ⟨⟨hl8, q0, q1, q2, q3, q4⟩, q5⟩ := HW.out.var.wy
        simp only [Nat.zero_add] at q0 q1 q2 q3 q4
        have i0 : (0 : Int) ≤ (i : Int) := by omega
        have i1 : (i : Int) < (m : Int) := by omega
        have i2 : (i : Int) ≤ 8 := by omega
        clear hs ea st s0 s1
        cases hst : stepC fc c s with
        | none =>
          rw [hst] at C ST
          have hRn : R = none := ST.out
          subst hRn
          have C2 : Hid (Calls Tryd.prog 70 #[.slice a n cap, y.f.v, .int .i64 s] wr fun e w' => e = .returned (.tuple #[zT.v, .int .i64 0, .bool false]) ∧ Below wr.heap.size wr w') := C.out
          clear C ST hst
          go_wp2_with (first
            | (go_at_call 70; refine C2.out.mono ?_; rintro e w1 ⟨rfl, hb1⟩; have HB1 := hidD (below_aft HW.out.bel hb1); have HR1 := hidD (HW.out.res.below hb1); clear hb1)
            | ((with_reducible show wpList _ _ _ (Oper.mk none (Op.store 75 _ _) _ _ _ none :: _) _ _); refine wpl_storeW (w.heap.size + 1) zW zW (HR1.out.alloc _) rfl rfl ?_; intro w9 hw9; have F9 : Hid (At w9 (w.heap.size + 1) zW.o ∧ Below w.heap.size w w9) := (by rw [hw9]; exact ⟨atWy6 (HR1.out.alloc _) zW, below_S6 (belA HB1.out) (by omega) zW⟩); clear hw9))
          exact bodyPost_ret (results_w2 (g := zW) Tryd.results57 rfl rfl F9.out.1) rfl ⟨rfl, F9.out.2⟩
        | some x =>
          obtain ⟨d, g⟩ := x
          rw [hst] at C ST
          have hd := stepC_ok HS.out HC.out hst
          have HD := hidD hd.1
          have C2 : Hid (Calls Tryd.prog 70 #[.slice a n cap, y.f.v, .int .i64 s] wr fun e w' => (∃ f' : Fv, e = .returned (.tuple #[f'.v, .int .i64 g, .bool true]) ∧ TyAt w0 f' d.ty) ∧ Below wr.heap.size wr w') := C.out
          clear C hst hd
          go_wp2_with (go_at_call 70; refine C2.out.mono ?_; rintro e w1 ⟨⟨f', rfl, hT'⟩, hb1⟩; have HB1 := hidD hb1; have HT' := hidD hT'; have HV1 := hidD (HW.out.var.below hb1); clear hb1 hT')
          -- the region
          obtain ⟨b11, hb11⟩ : ∃ b11, b11 = w1.heap.size := ⟨_, rfl⟩
          have HF1 : Hid (At (w1.alloc f'.o) b11 f'.o) := by rw [hb11]; exact At.new _ _
          have hb81 : b8 < b11 := by rw [hb11]; exact HV1.out.lt
          have HVA : Hid (At (w1.alloc f'.o) b8 y.o) := HV1.out.alloc _
          have HVB : Hid (Below wr.heap.size wr (w1.alloc f'.o)) := belA HB1.out
          have hrow := own_bel HW.out.rowg HVB.out
          have HROW := hidD hrow
          have q5' := HVA.out.wy.2
          have hgn := HW.out.gn
          have HGN := hidD hgn
          rw [← hb11]
          obtain ⟨wa, hwa⟩ : ∃ wa, wa = w1.alloc f'.o := ⟨_, rfl⟩
          rw [← hwa] at HF1 HVA HVB HROW q5'
          rw [show w1.alloc (Obj.cells #[Value.int IntKind.u8 (f'.k : Int), Value.bool f'.m, Value.int IntKind.i64 f'.r, Value.int IntKind.i64 f'.s, Value.slice f'.a f'.n f'.cap] 32) = wa from hwa.symm]
          clear hrow hwa q0 q1 q2 q3 q4 q5 hb11 hgn C2
          refine beginH (S := fun W => C5 W b11 0 f') (fun _ _ _ _ _ h => h) (by kernel_rfl) HF1.out.ty (fun hq hHeld => ?_)
          refine takeH (i := 0) (d := 56) f'.v hq rfl rfl (by kernel_rfl) (by kernel_rfl) (by kernel_rfl) (by rfl) (fun W hSw => by (obtain ⟨-, s0, s1, s2, s3, s4⟩ := hSw; simp only [Nat.zero_add] at s0 s1 s2 s3 s4; go_simp; try rfl)) hHeld ?_
          try simp only [Act.put, List.setIfInBounds_toArray, List.set_cons_zero, List.set_cons_succ]
          refine takeH (i := 1) (d := 57) _ hq rfl rfl (by kernel_rfl) (by kernel_rfl) (by kernel_rfl) (by rfl) (fun W hSw => by (go_simp; try rfl)) hHeld ?_
          try simp only [Act.put, List.setIfInBounds_toArray, List.set_cons_zero, List.set_cons_succ]
          refine takeH (i := 3) (d := 59) _ hq rfl rfl (by kernel_rfl) (by kernel_rfl) (by kernel_rfl) (by rfl) (fun W hSw => by (go_simp; try rfl)) hHeld ?_
          try simp only [Act.put, List.setIfInBounds_toArray, List.set_cons_zero, List.set_cons_succ]
          refine wpAnyH_ready (rs := [2, 4]) (by kernel_rfl) (by simp) ?_
          refine AllReadyH.cons rfl (fun K hK => ?_) (AllReadyH.cons rfl (fun K hK => ?_) AllReadyH.nil)
          · go_simp
            go_wp2_with fail
            refine hK.out _ _ (HF1.out.ty) (fun hHeld => ?_)
            clear hK K
            try simp only [Act.put, List.setIfInBounds_toArray, List.set_cons_zero, List.set_cons_succ]
            refine takeH (i := 6) (d := 62) _ hq rfl rfl (by kernel_rfl) (by kernel_rfl) (by kernel_rfl) (by rfl) (fun W hSw => by (go_simp; try rfl)) hHeld ?_
            try simp only [Act.put, List.setIfInBounds_toArray, List.set_cons_zero, List.set_cons_succ]
            refine wpAnyH_ready (rs := [4]) (by kernel_rfl) (by simp) ?_
            refine AllReadyH.cons rfl (fun K hK => ?_) AllReadyH.nil
            go_simp
            go_wp2_with fail
            refine hK.out _ _ (HF1.out.alloc _).ty (fun hHeld => ?_)
            clear hK K
            try simp only [Act.put, List.setIfInBounds_toArray, List.set_cons_zero, List.set_cons_succ]
            refine wpAnyH_ready (rs := [5]) (by kernel_rfl) (by simp) ?_
            refine AllReadyH.cons rfl (fun K hK => ?_) AllReadyH.nil
            refine wp_append_own _ (.tmp 58) (.tmp 60) 36 rfl w.heap.size 3 i3 (.int .i64 0) 1 8 Tryd.underlying36 hi3 hz3 hs3 hb3 rfl (by omega) (.slice y.ga y.gn y.gcap) y.gn (iCells gs) rfl (HROW.out.alloc _).drew ⟨wa.heap.size, 0, none⟩ 1 1 [.int .i64 g] rfl rfl (new1 wa _ 3) (by intro u hu; simp at hu; subst hu; rfl) (by unfold maxLen; have := HGN.out; have := HGL.out; omega) (by have := HGN.out; have := HGL.out; omega) (by have := HW.out.bel.size; have := HVB.out.size; show _ ≤ (wa.alloc _).heap.size; simp; omega) ?_
            intro v3 w3 ho3 hg3 hn3
            obtain ⟨a3, cap3, rfl⟩ := own_sl ho3
            rw [HGN.out] at ho3
            obtain ⟨hA3, hN3⟩ := HW.out.next (s := g) (f' := f') (d := d) HT'.out (Va := (wa.alloc (.cells #[.int .i64 g] 3)).drew) (belN (belA HVB.out) 1) ho3 hg3
            have HF3 := hidD ((HF1.out.alloc (.cells #[.int .i64 g] 3)).drew.grown hg3 (row3_ne (e := 32) (by decide) HROW.out HF1.out))
            have HA3 := hidD hA3
            have HN3 := hidD hN3
            clear ho3 hg3 hn3 hA3 hN3
            refine hK.out _ _ HF3.out.ty (fun hHeld => ?_)
            clear hK K
            try simp only [Act.put, List.setIfInBounds_toArray, List.set_cons_zero, List.set_cons_succ]
            refine wpAnyH_ready (rs := [7]) (by kernel_rfl) (by simp) ?_
            refine AllReadyH.cons rfl (fun K hK => ?_) AllReadyH.nil
            refine wp_storeT5 b8 y f' rfl rfl HA3.out rfl rfl ?_
            refine hK.out _ _ (HF3.out.S5 (by omega) f').ty (fun hHeld => ?_)
            clear hK K
            try simp only [Act.put, List.setIfInBounds_toArray, List.set_cons_zero, List.set_cons_succ]
            refine takeH (i := 8) (d := 63) _ hq rfl rfl (by kernel_rfl) (by kernel_rfl) (by kernel_rfl) (by rfl) (fun W hSw => by (go_simp; try rfl)) hHeld ?_
            try simp only [Act.put, List.setIfInBounds_toArray, List.set_cons_zero, List.set_cons_succ]
            refine wpAnyH_ready (rs := [9]) (by kernel_rfl) (by simp) ?_
            refine AllReadyH.cons rfl (fun K hK => ?_) AllReadyH.nil
            have hA4 := atWy5 HA3.out f'
            have r5 := hA4.wy.2
            have r6 := hA4.wyF 5
            go_simp
            go_wp2_with fail
            refine hK.out _ _ ((HF3.out.S5 (by omega) f').set (by simp; omega) _).ty (fun hHeld => ?_)
            clear hK K
            try simp only [Act.put, List.setIfInBounds_toArray, List.set_cons_zero, List.set_cons_succ]
            refine wpAnyH_done (by kernel_rfl) ?_ _
            go_wp2_with fail
            refine ⟨⟨i + 1, ⟨f', a3, y.gn + 1, cap3⟩, d, gs ++ [g], rfl, hlt, by have := HGL.out; simp; omega, HD.out, ST.out, ?_⟩, ?_⟩
            · have e := HN3.out
              rw [← HGN.out] at e
              exact e
            · show m - ((i : Int) + 1).toNat < m - (i : Int).toNat
              omega
          · go_simp
            go_wp2_with fail
            refine hK.out _ _ (HF1.out.alloc _).ty (fun hHeld => ?_)
            clear hK K
            try simp only [Act.put, List.setIfInBounds_toArray, List.set_cons_zero, List.set_cons_succ]
            refine wpAnyH_ready (rs := [2]) (by kernel_rfl) (by simp) ?_
            refine AllReadyH.cons rfl (fun K hK => ?_) AllReadyH.nil
            have q6 := (HVA.out.alloc (.cells #[.int .i64 g] 3)).wy.2
            go_simp
            go_wp2_with fail
            refine hK.out _ _ ((HF1.out.alloc _).ty) (fun hHeld => ?_)
            clear hK K
            try simp only [Act.put, List.setIfInBounds_toArray, List.set_cons_zero, List.set_cons_succ]
            refine takeH (i := 6) (d := 62) _ hq rfl rfl (by kernel_rfl) (by kernel_rfl) (by kernel_rfl) (by rfl) (fun W hSw => by (go_simp; try rfl)) hHeld ?_
            try simp only [Act.put, List.setIfInBounds_toArray, List.set_cons_zero, List.set_cons_succ]
            refine wpAnyH_ready (rs := [5]) (by kernel_rfl) (by simp) ?_
            refine AllReadyH.cons rfl (fun K hK => ?_) AllReadyH.nil
            refine wp_append_own _ (.tmp 58) (.tmp 60) 36 rfl w.heap.size 3 i3 (.int .i64 0) 1 8 Tryd.underlying36 hi3 hz3 hs3 hb3 rfl (by omega) (.slice y.ga y.gn y.gcap) y.gn (iCells gs) rfl (HROW.out.alloc _).drew ⟨wa.heap.size, 0, none⟩ 1 1 [.int .i64 g] rfl rfl (new1 wa _ 3) (by intro u hu; simp at hu; subst hu; rfl) (by unfold maxLen; have := HGN.out; have := HGL.out; omega) (by have := HGN.out; have := HGL.out; omega) (by have := HW.out.bel.size; have := HVB.out.size; show _ ≤ (wa.alloc _).heap.size; simp; omega) ?_
            intro v3 w3 ho3 hg3 hn3
            obtain ⟨a3, cap3, rfl⟩ := own_sl ho3
            rw [HGN.out] at ho3
            obtain ⟨hA3, hN3⟩ := HW.out.next (s := g) (f' := f') (d := d) HT'.out (Va := (wa.alloc (.cells #[.int .i64 g] 3)).drew) (belN (belA HVB.out) 1) ho3 hg3
            have HF3 := hidD ((HF1.out.alloc (.cells #[.int .i64 g] 3)).drew.grown hg3 (row3_ne (e := 32) (by decide) HROW.out HF1.out))
            have HA3 := hidD hA3
            have HN3 := hidD hN3
            clear ho3 hg3 hn3 hA3 hN3
            refine hK.out _ _ HF3.out.ty (fun hHeld => ?_)
            clear hK K
            try simp only [Act.put, List.setIfInBounds_toArray, List.set_cons_zero, List.set_cons_succ]
            refine wpAnyH_ready (rs := [7]) (by kernel_rfl) (by simp) ?_
            refine AllReadyH.cons rfl (fun K hK => ?_) AllReadyH.nil
            refine wp_storeT5 b8 y f' rfl rfl HA3.out rfl rfl ?_
            refine hK.out _ _ (HF3.out.S5 (by omega) f').ty (fun hHeld => ?_)
            clear hK K
            try simp only [Act.put, List.setIfInBounds_toArray, List.set_cons_zero, List.set_cons_succ]
            refine takeH (i := 8) (d := 63) _ hq rfl rfl (by kernel_rfl) (by kernel_rfl) (by kernel_rfl) (by rfl) (fun W hSw => by (go_simp; try rfl)) hHeld ?_
            try simp only [Act.put, List.setIfInBounds_toArray, List.set_cons_zero, List.set_cons_succ]
            refine wpAnyH_ready (rs := [9]) (by kernel_rfl) (by simp) ?_
            refine AllReadyH.cons rfl (fun K hK => ?_) AllReadyH.nil
            have hA4 := atWy5 HA3.out f'
            have r5 := hA4.wy.2
            have r6 := hA4.wyF 5
            go_simp
            go_wp2_with fail
            refine hK.out _ _ ((HF3.out.S5 (by omega) f').set (by simp; omega) _).ty (fun hHeld => ?_)
            clear hK K
            try simp only [Act.put, List.setIfInBounds_toArray, List.set_cons_zero, List.set_cons_succ]
            refine wpAnyH_done (by kernel_rfl) ?_ _
            go_wp2_with fail
            refine ⟨⟨i + 1, ⟨f', a3, y.gn + 1, cap3⟩, d, gs ++ [g], rfl, hlt, by have := HGL.out; simp; omega, HD.out, ST.out, ?_⟩, ?_⟩
            · have e := HN3.out
              rw [← HGN.out] at e
              exact e
            · show m - ((i : Int) + 1).toNat < m - (i : Int).toNat
              omega
          -- its end
      · obtain rfl : i = m := by omega
        have lt : ¬ (i : Int) < (i : Int) := by omega
        have hRe : R = some (c, gs) := by
          rw [HRR.out, List.drop_eq_nil_of_le (by have := HM.out; omega)]
          simp [wayC]
        subst hRe
        obtain ⟨⟨hl8, q0, q1, q2, q3, q4⟩, q5⟩ := HW.out.var.wy
        simp only [Nat.zero_add] at q0 q1 q2 q3 q4
        go_wp2_with (((with_reducible show wpList _ _ _ (Oper.mk none (Op.store 75 _ _) _ _ _ none :: _) _ _); refine wpl_storeW (w.heap.size + 1) zW y HW.out.res rfl rfl ?_; intro w9 hw9; have F9 : Hid (At w9 (w.heap.size + 1) y.o ∧ Below w.heap.size w w9 ∧ WayIs w0 w w9 y c gs) := (by rw [hw9]; exact ⟨atWy6 HW.out.res y, below_S6 HW.out.bel (by omega) y, HW.out.fin⟩); clear hw9))
        exact bodyPost_ret (results_w2 (g := y) Tryd.results57 rfl rfl F9.out.1) rfl ⟨⟨y, rfl, F9.out.2.2⟩, F9.out.2.1⟩
end Go.Proofs.YtnohcppipkpgmaaDoor
