import Derived.Test.YtnohcppipkpgmaaDoorRm
namespace Go.Proofs.YtnohcppipkpgmaaDoor
open Go.RowKit Go.Shelf
set_option linter.unusedVariables false
set_option linter.unusedSimpArgs false

theorem wayC_ok {w : World} {a : Option Addr} {n cap : Nat} {fc : Nat → List Ch} (h : SF w a n cap fc) : ∀ (p : List Int) (c d : Ch) (gs : List Int), c.ok n → wayC fc c p = some (d, gs) → d.ok n ∧ gs.length = p.length ∧ ∀ g ∈ gs, 0 ≤ g ∧ g ≤ 3
  | [], c, d, gs, hc, hw => by
    cases hw
    exact ⟨hc, rfl, fun g hg => by simp at hg⟩
  | s :: p, c, d, gs, hc, hw => by
    rw [wayC, Option.bind_eq_some_iff] at hw
    obtain ⟨⟨c1, g1⟩, h1, h2⟩ := hw
    rw [Option.map_eq_some_iff] at h2
    obtain ⟨⟨d', gs'⟩, h3, h4⟩ := h2
    cases h4
    obtain ⟨k1, k2⟩ := stepC_ok h hc h1
    obtain ⟨e1, e2, e3⟩ := wayC_ok h p c1 _ _ k1 h3
    refine ⟨e1, by simp [e2], fun g hg => ?_⟩
    rcases List.mem_cons.1 hg with rfl | hg
    · exact k2
    · exact e3 g hg
theorem wyX_ok {w : World} {a la : Option Addr} {n cap ln lcap : Nat} {ok : Bool} {fc : Nat → List Ch} {cl : List Ch} (hC : Cx w a la n cap ln lcap ok fc cl) {l : Int} {p : List Int} {c : Ch} {gs : List Int} (h : wyX ok fc cl l p = some (c, gs)) : c.ok n ∧ n ≤ 32 ∧ gs.length = p.length ∧ p.length ≤ 8 ∧ (∀ g ∈ gs, 0 ≤ g ∧ g ≤ 3) ∧ 0 ≤ l ∧ ok = true := by
  unfold wyX at h
  split at h
  · rename_i hok
    unfold wayP at h
    split at h
    · rename_i hl
      rw [Option.bind_eq_some_iff] at h
      obtain ⟨c0, h1, h2⟩ := h
      obtain ⟨e1, e2, e3⟩ := wayC_ok (hC.sf hok) p c0 c gs ((hC.lf hok).ok c0 (List.mem_of_getElem? h1)) h2
      exact ⟨e1, (hC.sf hok).le, e2, hl.2, e3, hl.1, hok⟩
    · cases h
  · cases h
theorem Tryd.results12 : Tryd.f12.results = #[.cell 6 32, .tmp 7] := rfl
theorem Tryd.results14 : Tryd.f14.results = #[.cell 6 26, .tmp 7] := rfl
theorem new_store {W w1 w2 : World} {b : Nat} {f' f0 : Fv} {c : Ch} (hN : New w1 w2 f' c) (hB : Below W.heap.size W w1) (hb : W.heap.size ≤ b) (hb1 : b < w1.heap.size) (hA : At w2 b f0.o) : C5 (S5 w2 b f') b 0 f' ∧ New W (S5 w2 b f') f' c := by
  refine ⟨(hA.set5 f').ty, ⟨?_, below_S5 (below_aft hB hN.bel) hb f'⟩⟩
  have h1 : OwnL (S5 w2 b f') w1.heap.size w2.heap.size f' c := hN.own.keep fun g o h1 h2 hg => hg.S5 (by omega) f'
  exact h1.low hB.size (by rw [size_S5]; exact Nat.le_refl _)
theorem ps_three {W : World} {x : Pt} {o : Obj} {p : List Int} (h : PAt W x p) : PsAt (((W.alloc x.o).alloc o).alloc x.o) (W.heap.size + 2) [(x, p)] where
  lt := by simp
  cells := fun i x' p' hi => by
    have hi0 : i = 0 := by
      have := (List.getElem?_eq_some_iff.1 hi).1
      simp at this
      omega
    subst hi0
    simp at hi
    obtain ⟨rfl, rfl⟩ := hi
    have hA : At (((W.alloc x.o).alloc o).alloc x.o) (W.heap.size + 2) x.o := by
      have := At.new ((W.alloc x.o).alloc o) x.o
      simpa only [World.size_alloc] using this
    exact ⟨hA.pl.1, hA.pl.2, h.bel (belA (belA (belA (Below.refl _ _))))⟩
theorem bel3 {w : World} {o1 o2 o3 : Obj} : Below w.heap.size w (((w.alloc o1).alloc o2).alloc o3) := belA (belA (belA (Below.refl _ _)))
theorem below3 {w w1 : World} {o1 o2 o3 : Obj} (hb : Below (((w.alloc o1).alloc o2).alloc o3).heap.size (((w.alloc o1).alloc o2).alloc o3) w1) : Below w.heap.size w w1 := below_aft bel3 hb
def TypePost (R : Option (Ch × List Int)) (W w' : World) (e : Ending) : Prop := match R with
  | some z => ∃ f' : Fv, e = .returned (.tuple #[f'.v, .int .i64 0]) ∧ New W w' f' z.1
  | none => e = .returned (.tuple #[zT.v, .int .i64 2])
set_option maxRecDepth 100000 in
set_option maxHeartbeats 2000000 in
/-- Type. -/
theorem Type_any {w W : World} (hW : Below w.heap.size w W) {a la : Option Addr} {n cap ln lcap : Nat} {ok : Bool} {fc : Nat → List Ch} {cl : List Ch} (hC : Cx w a la n cap ln lcap ok fc cl) {x : Pt} {p : List Int} (hP : PAt W x p) (R : Option (Ch × List Int)) (hR : R = wyX ok fc cl x.l p) (hd : ∀ z, R = some z → z.1.depth ≤ 48) :
    Calls Tryd.prog 12 #[.slice a n cap, .slice la ln lcap, x.v] W fun e w' => TypePost R W w' e ∧ Below W.heap.size W w' := by
  have C := hidD (follow_one (below_aft hW bel3) hC (ps_three (o := zT.o) hP))
  rw [← hR] at C
  have HA6 : Hid (At (((W.alloc x.o).alloc zT.o).alloc x.o) (W.heap.size + 1) zT.o) := (at_snd W x.o zT.o).alloc _
  obtain ⟨l, pa, m, pcap⟩ := x
  show Calls Tryd.prog 12 #[.slice a n cap, .slice la ln lcap, plV l pa m pcap] W _
  cases R with
  | none =>
    have C2 : Hid (Calls Tryd.prog 36 #[.slice a n cap, .slice la ln lcap, .slice (some ⟨W.heap.size + 2, 0, none⟩) 1 1] (((W.alloc (plO l pa m pcap)).alloc zT.o).alloc (plO l pa m pcap)) fun e w' => e = .returned (.tuple #[.slice none 0 0, .int .i64 2]) ∧ Below (((W.alloc (plO l pa m pcap)).alloc zT.o).alloc (plO l pa m pcap)).heap.size (((W.alloc (plO l pa m pcap)).alloc zT.o).alloc (plO l pa m pcap)) w') := C.out
    clear C hC hP hR hd
    go_enter Tryd.func12, Tryd.ntmps12
    go_wp2_with (first
      | (go_at_call 36; refine C2.out.mono ?_; rintro e w1 ⟨rfl, hb1⟩; have HB1 := hidD (below3 hb1); have HA1 := hidD (HA6.out.below hb1); clear hb1)
      | ((with_reducible show wpList _ _ _ (Oper.mk none (Op.store 32 _ _) _ _ _ none :: _) _ _); refine wpl_storeT (W.heap.size + 1) zT zT HA1.out rfl rfl ?_; intro w9 hw9; have F9 : Hid (C5 w9 (W.heap.size + 1) 0 zT ∧ Below W.heap.size W w9) := (by rw [hw9]; exact ⟨(HA1.out.set5 zT).ty, below_S5 HB1.out (by omega) zT⟩); clear hw9))
    exact bodyPost_ret (results_c2 (g := zT) Tryd.results12 rfl rfl F9.out.1) rfl ⟨rfl, F9.out.2⟩
  | some z =>
    obtain ⟨c, gs⟩ := z
    have C2 : Hid (Calls Tryd.prog 36 #[.slice a n cap, .slice la ln lcap, .slice (some ⟨W.heap.size + 2, 0, none⟩) 1 1] (((W.alloc (plO l pa m pcap)).alloc zT.o).alloc (plO l pa m pcap)) fun e w' => (∃ g2 cap2 y, e = .returned (.tuple #[.slice (some ⟨g2, 0, none⟩) 1 cap2, .int .i64 0]) ∧ C5 w' g2 0 y.f ∧ w'.cell? ⟨g2, 5, none⟩ = some (.slice y.ga y.gn y.gcap) ∧ WayIs w (((W.alloc (plO l pa m pcap)).alloc zT.o).alloc (plO l pa m pcap)) w' y c gs) ∧ Below (((W.alloc (plO l pa m pcap)).alloc zT.o).alloc (plO l pa m pcap)).heap.size (((W.alloc (plO l pa m pcap)).alloc zT.o).alloc (plO l pa m pcap)) w') := C.out
    have hok := wyX_ok hC hR.symm
    have HOK : Hid (Ok c) := ⟨Ch.ok_mono (by have := hok.2.1; omega) c hok.1, hd _ rfl⟩
    have HW := hidD hW
    clear C hC hP hR hd hok hW
    go_enter Tryd.func12, Tryd.ntmps12
    go_wp2_with (first
      | (go_at_call 36; refine C2.out.mono ?_; rintro e w1 ⟨⟨g2, cap2, y, rfl, hc5, hc6, hwy⟩, hb1⟩; have HB1 := hidD (below3 hb1); have HA1 := hidD (HA6.out.below hb1); have HTY := hidD (hwy.ty.bel (below_aft HW.out (below3 hb1))); clear hb1 hwy hc6; obtain ⟨hl2, q0, q1, q2, q3, q4⟩ := hc5; simp only [Nat.zero_add] at q0 q1 q2 q3 q4; have CO := hidD (Own_yes c y.f w1 HOK.out HTY.out))
      | (go_at_call 37; refine CO.out.mono ?_; rintro e w2 ⟨f', rfl, hN⟩; have HN := hidD hN; have HA2 := hidD (HA1.out.below hN.bel); clear hN)
      | ((with_reducible show wpList _ _ _ (Oper.mk none (Op.store 32 _ _) _ _ _ none :: _) _ _); refine wpl_storeT (W.heap.size + 1) zT f' HA2.out rfl rfl ?_; intro w9 hw9; have F9 : Hid (C5 w9 (W.heap.size + 1) 0 f' ∧ New W w9 f' c) := (by rw [hw9]; exact new_store HN.out HB1.out (by omega) HA1.out.lt HA2.out); clear hw9))
    exact bodyPost_ret (results_c2 (g := f') Tryd.results12 rfl rfl F9.out.1) rfl ⟨⟨f', rfl, F9.out.2⟩, F9.out.2.bel⟩
def GoesPost (R : Option (Ch × List Int)) (W w' : World) (e : Ending) : Prop := match R with
  | some z => ∃ v, e = .returned (.tuple #[v, .int .i64 0]) ∧ w'.ownsRow W.heap.size 3 1 v z.2.length (iCells z.2)
  | none => e = .returned (.tuple #[.slice none 0 0, .int .i64 2])
set_option maxRecDepth 100000 in
set_option maxHeartbeats 2000000 in
/-- Goes. -/
theorem Goes_any {w W : World} (hW : Below w.heap.size w W) {a la : Option Addr} {n cap ln lcap : Nat} {ok : Bool} {fc : Nat → List Ch} {cl : List Ch} (hC : Cx w a la n cap ln lcap ok fc cl) {x : Pt} {p : List Int} (hP : PAt W x p) (R : Option (Ch × List Int)) (hR : R = wyX ok fc cl x.l p) :
    Calls Tryd.prog 13 #[.slice a n cap, .slice la ln lcap, x.v] W fun e w' => GoesPost R W w' e ∧ Below W.heap.size W w' := by
  have C := hidD (follow_one (below_aft hW bel2) hC (ps_one hP))
  rw [← hR] at C
  obtain ⟨l, pa, m, pcap⟩ := x
  show Calls Tryd.prog 13 #[.slice a n cap, .slice la ln lcap, plV l pa m pcap] W _
  clear hC hP hR
  cases R with
  | none =>
    have C2 : Hid (Calls Tryd.prog 36 #[.slice a n cap, .slice la ln lcap, .slice (some ⟨W.heap.size + 1, 0, none⟩) 1 1] ((W.alloc (plO l pa m pcap)).alloc (plO l pa m pcap)) fun e w' => e = .returned (.tuple #[.slice none 0 0, .int .i64 2]) ∧ Below ((W.alloc (plO l pa m pcap)).alloc (plO l pa m pcap)).heap.size ((W.alloc (plO l pa m pcap)).alloc (plO l pa m pcap)) w') := C.out
    clear C
    go_enter Tryd.func13, Tryd.ntmps13
    go_wp2_with (go_at_call 36; refine C2.out.mono ?_; rintro e w1 ⟨rfl, hb1⟩)
    go_ret2
    exact ⟨rfl, below2 hb1⟩
  | some z =>
    obtain ⟨c, gs⟩ := z
    have C2 : Hid (Calls Tryd.prog 36 #[.slice a n cap, .slice la ln lcap, .slice (some ⟨W.heap.size + 1, 0, none⟩) 1 1] ((W.alloc (plO l pa m pcap)).alloc (plO l pa m pcap)) fun e w' => (∃ g2 cap2 y, e = .returned (.tuple #[.slice (some ⟨g2, 0, none⟩) 1 cap2, .int .i64 0]) ∧ C5 w' g2 0 y.f ∧ w'.cell? ⟨g2, 5, none⟩ = some (.slice y.ga y.gn y.gcap) ∧ WayIs w ((W.alloc (plO l pa m pcap)).alloc (plO l pa m pcap)) w' y c gs) ∧ Below ((W.alloc (plO l pa m pcap)).alloc (plO l pa m pcap)).heap.size ((W.alloc (plO l pa m pcap)).alloc (plO l pa m pcap)) w') := C.out
    clear C
    go_enter Tryd.func13, Tryd.ntmps13
    go_wp2_with (go_at_call 36; refine C2.out.mono ?_; rintro e w1 ⟨⟨g2, cap2, y, rfl, hc5, hc6, hwy⟩, hb1⟩; have HY := hidD (hwy.low (w2 := W) (by simp; omega)); have HB1 := hidD (below2 hb1); clear hc5 hwy hb1)
    go_ret2
    exact ⟨⟨_, rfl, HY.out.row⟩, HB1.out⟩
end Go.Proofs.YtnohcppipkpgmaaDoor
