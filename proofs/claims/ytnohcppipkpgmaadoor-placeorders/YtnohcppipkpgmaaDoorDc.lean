import Derived.Test.YtnohcppipkpgmaaDoorDb
import Derived.Test.YtnohcppipkpgmaaDoorK
namespace Go.Proofs.YtnohcppipkpgmaaDoor
open Go.RowKit
set_option linter.unusedVariables false
set_option linter.unusedSimpArgs false

/-- A type that a field may have. -/
def PlainT (n : Nat) (t : Ty) : Prop := ∃ c : Ch, t = c.ty ∧ c.ok n ∧ c.depth ≤ 48 ∧ c.regs = []
theorem Ch.ok_mono {n m : Int} (h : n ≤ m) : ∀ c : Ch, c.ok n → c.ok m
  | .leaf k s, hc => by
    rcases hc with hc | ⟨h1, h2, h3⟩
    · exact .inl hc
    · exact .inr ⟨h1, h2, by omega⟩
  | .box c, hc => Ch.ok_mono h c hc
  | .ref _ _ c, hc => ⟨hc.1, Ch.ok_mono h c hc.2⟩
set_option maxRecDepth 100000 in
set_option maxHeartbeats 4000000 in
theorem wrong_any (a : Option Addr) (n cap : Nat) (ss : List (List Ty)) (w : World) (h : StAt w a n cap ss) (hn : n ≤ 32) (i : Nat) (fs : List Ty) (hi : ss[i]? = some fs) (b : Bool) (hb : b = true ↔ ¬ (1 ≤ fs.length ∧ fs.length ≤ 8 ∧ ∀ t ∈ fs, PlainT n t)) :
    Calls Tryd.prog 80 #[.slice a n cap, .int .i64 (i : Int)] w fun e w' => e = .returned (.bool b) ∧ Below w.heap.size w w' := by
  obtain ⟨g, off, fa, fcap, hag, hg, hcell, hF⟩ := h.one hi
  have hil : i < n := by have := (List.getElem?_eq_some_iff.1 hi).1; have := h.len; omega
  subst hag
  have j0 : (0 : Int) ≤ (i : Int) := by omega
  have j1 : (i : Int) < (n : Int) := by omega
  have HF := hidD hF
  have HB := hidD hb
  obtain ⟨m, hm⟩ : ∃ m, m = fs.length := ⟨_, rfl⟩
  have HM := hidD hm
  rw [← hm] at hcell
  clear hF hb hm h hi
  by_cases m1 : m < 1
  · have k1 : (m : Int) < 1 := by omega
    have hb1 : b = true := HB.out.2 (fun e => by have := HM.out; omega)
    subst hb1
    go_enter Tryd.func80, Tryd.ntmps80
    go_wp2_with fail
    go_ret
    exact ⟨rfl, Below.refl _ _⟩
  by_cases m8 : 8 < m
  · have k1 : ¬ (m : Int) < 1 := by omega
    have k2 : (8 : Int) < (m : Int) := by omega
    have hb1 : b = true := HB.out.2 (fun e => by have := HM.out; omega)
    subst hb1
    go_enter Tryd.func80, Tryd.ntmps80
    go_wp2_with fail
    go_ret
    exact ⟨rfl, Below.refl _ _⟩
  have k1 : ¬ (m : Int) < 1 := by omega
  have k2 : ¬ (8 : Int) < (m : Int) := by omega
  go_enter Tryd.func80, Tryd.ntmps80
  go_wp2_with fail
  go_loopw [23] (fun v V => ∃ k : Nat, k ≤ m ∧ v = .int .i64 k ∧ (∀ k' t, k' < k → fs[k']? = some t → PlainT n t) ∧ Below w.heap.size w V) (fun v _ => m - (intOf v).toNat)
  case atStart => exact ⟨0, Nat.zero_le _, rfl, fun k' t hk => by omega, Below.refl _ _⟩
  case round =>
    obtain ⟨k, hk, rfl, hall, hBk⟩ := hrel
    have HAK := hidD hall
    have HBk := hidD hBk
    have HFk := hidD (HF.out.bel hBk)
    clear hall hBk
    by_cases hlk : k < m
    · obtain ⟨t, ht⟩ : ∃ t, fs[k]? = some t := ⟨_, List.getElem?_eq_getElem (by have := HM.out; omega)⟩
      obtain ⟨g', off', hfa, hkk⟩ := HFk.out.2 (fun e => by subst e; simp at ht)
      obtain ⟨V, nm, hnm, hV5, hVt⟩ := hkk k t ht
      have HTT := hidD ht
      have HVT := hidD hVt
      obtain ⟨hl5, p0, p1, p2, p3, p4⟩ := hV5
      subst hfa
      have e0 : (0 : Int) ≤ (k : Int) := by omega
      have e1 : (k : Int) < (m : Int) := by omega
      have e2 : (k : Int) ≤ 1000 := by omega
      clear hkk hVt ht
      have HNO : Hid (¬ PlainT n t → b = true) := fun hno => HB.out.2 (fun e => hno (e.2.2 t (List.mem_of_getElem? HTT.out)))
      have CM : Hid (∀ W, Below wr.heap.size wr W → Calls Tryd.prog 71 #[.int .i64 (n : Int), V.v] W fun e w' => e = .returned (.bool (mayB n 48 t)) ∧ Below W.heap.size W w') := fun W hW => mayAmong_any n t V W (HVT.out.bel hW)
      have AF : Hid (At (wr.alloc (.cells #[.string nm, .int .u8 (V.k : Int), .bool V.m, .int .i64 V.r, .int .i64 V.s, .slice V.a V.n V.cap] 69)) wr.heap.size (.cells #[.string nm, .int .u8 (V.k : Int), .bool V.m, .int .i64 V.r, .int .i64 V.s, .slice V.a V.n V.cap] 69)) := At.new _ _
      cases hmb : mayB n 48 t with
      | false =>
        rw [hmb] at CM
        have hb1 : b = true := HNO.out (fun ⟨c, e1, e2, e3, e4⟩ => by rw [e1, ch_mayB e2 e3] at hmb; cases hmb)
        go_wp2_with (go_at_call 71; refine (CM.out _ (belA (Below.refl _ _))).mono ?_; rintro e w1 ⟨rfl, hbb⟩)
        go_ret
        rw [hb1]
        exact ⟨rfl, below_aft HBk.out (below1 hbb)⟩
      | true =>
        rw [hmb] at CM
        obtain ⟨c, rfl, hc1, hc2⟩ := mayB_ch hmb
        have hok : Ok c := ⟨Ch.ok_mono (by omega) c hc1, hc2⟩
        have CR : Hid (∀ W, Below wr.heap.size wr W → Calls Tryd.prog 90 #[V.v] W fun e w' => e = .returned (.bool (!c.regs.isEmpty)) ∧ Below W.heap.size W w') := fun W hW => hasRef_any c V W hok (HVT.out.bel hW)
        cases hre : c.regs.isEmpty with
        | false =>
          rw [hre] at CR
          have hbt : b = true := HNO.out (fun ⟨c', e1, e2, e3, e4⟩ => by rw [Ch.ty_inj e1, e4] at hre; cases hre)
          go_wp2_with (first
            | (go_at_call 71; refine (CM.out _ (belA (Below.refl _ _))).mono ?_; rintro e w1 ⟨rfl, hb1⟩; have A1 := AF.out.below hb1; unfold At at A1; have hlw := lt_of_block A1; have r1 : w1.cell? ⟨wr.heap.size, 1, none⟩ = some (.int .u8 (V.k : Int)) := (by simp [World.cell?, A1]); have r2 : w1.cell? ⟨wr.heap.size, 2, none⟩ = some (.bool V.m) := (by simp [World.cell?, A1]); have r3 : w1.cell? ⟨wr.heap.size, 3, none⟩ = some (.int .i64 V.r) := (by simp [World.cell?, A1]); have r4 : w1.cell? ⟨wr.heap.size, 4, none⟩ = some (.int .i64 V.s) := (by simp [World.cell?, A1]); have r5 : w1.cell? ⟨wr.heap.size, 5, none⟩ = some (.slice V.a V.n V.cap) := (by simp [World.cell?, A1]); have H1 := hidD (below1 hb1); clear A1)
            | (go_at_call 90; refine (CR.out w1 H1.out).mono ?_; rintro e w2 ⟨rfl, hb2⟩))
          go_ret
          rw [hbt]
          exact ⟨rfl, below_aft (below_aft HBk.out H1.out) hb2⟩
        | true =>
          rw [hre] at CR
          go_wp2_with (first
            | (go_at_call 71; refine (CM.out _ (belA (Below.refl _ _))).mono ?_; rintro e w1 ⟨rfl, hb1⟩; have A1 := AF.out.below hb1; unfold At at A1; have hlw := lt_of_block A1; have r1 : w1.cell? ⟨wr.heap.size, 1, none⟩ = some (.int .u8 (V.k : Int)) := (by simp [World.cell?, A1]); have r2 : w1.cell? ⟨wr.heap.size, 2, none⟩ = some (.bool V.m) := (by simp [World.cell?, A1]); have r3 : w1.cell? ⟨wr.heap.size, 3, none⟩ = some (.int .i64 V.r) := (by simp [World.cell?, A1]); have r4 : w1.cell? ⟨wr.heap.size, 4, none⟩ = some (.int .i64 V.s) := (by simp [World.cell?, A1]); have r5 : w1.cell? ⟨wr.heap.size, 5, none⟩ = some (.slice V.a V.n V.cap) := (by simp [World.cell?, A1]); have H1 := hidD (below1 hb1); clear A1)
            | (go_at_call 90; refine (CR.out w1 H1.out).mono ?_; rintro e w2 ⟨rfl, hb2⟩))
          refine ⟨⟨k + 1, hlk, rfl, fun k' t' hk' ht' => ?_, below_aft (below_aft HBk.out H1.out) hb2⟩, ?_⟩
          · by_cases e : k' = k
            · subst e
              rw [HTT.out] at ht'
              cases ht'
              exact ⟨c, rfl, hc1, hc2, List.isEmpty_iff.1 hre⟩
            · exact HAK.out k' t' (by omega) ht'
          · show m - ((k : Int) + 1).toNat < m - (k : Int).toNat
            omega
    · obtain rfl : k = m := by omega
      have z1 : ¬ ((k : Int) < (k : Int)) := by omega
      go_wp2_with fail
      go_ret
      have hb1 : b = false := by
        cases hb : b with
        | false => rfl
        | true =>
          refine absurd ⟨by have := HM.out; omega, by have := HM.out; omega, fun t ht => ?_⟩ (HB.out.1 hb)
          obtain ⟨k', hk'⟩ := List.mem_iff_getElem?.1 ht
          exact HAK.out k' t (by have := (List.getElem?_eq_some_iff.1 hk').1; have := HM.out; omega) hk'
      rw [hb1]
      exact ⟨rfl, HBk.out⟩
end Go.Proofs.YtnohcppipkpgmaaDoor
