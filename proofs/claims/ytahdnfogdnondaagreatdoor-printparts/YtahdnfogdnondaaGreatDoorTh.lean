import Derived.Test.YtahdnfogdnondaaGreatDoorTg
import Derived.Test.YtahdnfogdnondaaGreatDoorO
import Derived.OwnWalk
namespace Go.Proofs.YtahdnfogdnondaaGreatDoor
open Go.RowKit Go.Shelf
set_option linter.unusedVariables false
set_option linter.unusedSimpArgs false

theorem Tryz.info9 : (Tryz.prog.info? 9).map (fun i => (i.zero, i.size, i.bytes)) = some (some (.string ⟨#[]⟩), 1, 16) := by kernel_rfl
/-- The texts so far, and what is still to be laid. -/
def tPart (ts : List (List UInt8)) (k : Nat) : List Value := (ts.take k).map (fun t => .string (str t)) ++ List.replicate (ts.length - k) (.string ⟨#[]⟩)
theorem tPart_zero (ts : List (List UInt8)) : tPart ts 0 = List.replicate ts.length (.string ⟨#[]⟩) := by simp [tPart]
theorem tPart_set (ts : List (List UInt8)) (k : Nat) (t : List UInt8) (h : ts[k]? = some t) : (tPart ts k).set k (.string (str t)) = tPart ts (k + 1) := by
  have hk := (List.getElem?_eq_some_iff.1 h).1
  unfold tPart
  rw [show ts.length - k = (ts.length - (k + 1)) + 1 by omega, List.replicate_succ, List.set_append, if_neg (by simp; omega)]
  rw [show k - (List.map (fun t => Value.string (str t)) (List.take k ts)).length = 0 by simp; omega]
  rw [List.set_cons_zero, List.take_add_one, h]
  simp
theorem tPart_full (ts : List (List UInt8)) : tPart ts ts.length = ts.map (fun t => .string (str t)) := by simp [tPart]
set_option maxRecDepth 100000 in
set_option maxHeartbeats 4000000 in
/-- list. -/
theorem list_any (fn : Nat) (hfn : fn = 35 ∨ fn = 76) (g0 off0 n0 cap0 : Nat) (l : List Int) (al : Option Addr) (capl : Nat) (ts : List (List UInt8)) (w : World) (hl : IRow w al l) (hn : l.length ≤ 20000) (hlt : l.length = ts.length) (tr : ByteArray)
    (hF : ∀ (k : Nat) (q : Int) (t : List UInt8), l[k]? = some q → ts[k]? = some t → ∀ W, Below w.heap.size w W → Calls Tryz.prog fn #[.slice (some ⟨g0, off0, none⟩) n0 cap0, .int .i64 q] W fun e w' => e = .returned (.string (str t)) ∧ Below W.heap.size W w')
    (hJ : ∀ W g, Rw W g 9 (ts.map fun t => .string (str t)) → Calls Tryz.prog 95 #[.slice (some ⟨g, 0, none⟩) l.length l.length, .string ⟨#[44, 32]⟩] W fun e w' => e = .returned (.string tr) ∧ Below W.heap.size W w') :
    Calls Tryz.prog 75 #[.string ⟨#[44, 32]⟩, .slice al l.length capl, .func (.func fn) #[.slice (some ⟨g0, off0, none⟩) n0 cap0] #[]] w fun e w' => e = .returned (.string tr) ∧ Below w.heap.size w w' := by
  obtain ⟨i0, hi, hz0, hz1, hz2⟩ := info_parts Tryz.info9
  have HF := hidD hF
  have HJ := hidD hJ
  have HLT := hidD hlt
  clear hF hJ hlt
  go_enter Tryz.func75, Tryz.ntmps75
  go_wp2_with (at_make; refine wpList_make_full _ rfl _ _ 33 rfl w.heap.size 9 i0 (.string ⟨#[]⟩) 1 Tryz.underlying33 hi hz0 hz1 .i64 .i64 _ _ l.length rfl rfl rfl rfl (by rw [hz2]; omega) (by unfold maxLen; omega) (Nat.le_refl _) ?_; intro w2 hown2 hgrow2; have HM := rw_made rfl hown2; have hb2 := below_of_grown hgrow2; clear hown2 hgrow2)
  rw [HLT.out, ← tPart_zero ts] at HM
  obtain ⟨b, hb⟩ : ∃ b, b = w.heap.size := ⟨_, rfl⟩
  rw [← hb] at HM ⊢
  have HBS := hidD hb
  clear hb
  go_loopw [15] (fun i W => ∃ k : Nat, k ≤ l.length ∧ i = .int .i64 k ∧ Rw W b 9 (tPart ts k) ∧ Below w.heap.size w W) (fun i _ => l.length - (intOf i).toNat)
  case atStart => exact ⟨0, by omega, rfl, HM, hb2⟩
  case round =>
    obtain ⟨k, hk, rfl, hR, hB⟩ := hrel
    clear HM hb2
    have hl' := hl.below hB
    by_cases hlt2 : k < l.length
    · obtain ⟨gl, ol, rfl, hgl, hrow⟩ := hl' (by rintro rfl; simp at hlt2)
      obtain ⟨c, hc⟩ : ∃ c, l[k]? = some c := ⟨_, List.getElem?_eq_getElem hlt2⟩
      obtain ⟨t, ht⟩ : ∃ t, ts[k]? = some t := ⟨_, List.getElem?_eq_getElem (by have := HLT.out; omega)⟩
      have cc := hrow k c hc
      have k0 : (0 : Int) ≤ (k : Int) := by omega
      have k1 : (k : Int) < (l.length : Int) := by omega
      have w3 : IntKind.i64.wrap ((k : Int) + 1) = (k : Int) + 1 := by rw [IntKind.wrap_i64]; omega
      have HC := hidD (HF.out k c t hc ht wr hB)
      have HT := hidD ht
      have HR := hidD hR
      have HBB := hidD hB
      clear hrow hc ht hl' hR
      have hfin : ∀ w4, Below wr.heap.size wr w4 → (w4.frozen? ⟨b, k, none⟩ = false ∧ (∃ v0, w4.cell? ⟨b, k, none⟩ = some v0) ∧ Rw (w4.setCell ⟨b, k, none⟩ (.string (str t))) b 9 (tPart ts (k + 1)) ∧ Below w.heap.size w (w4.setCell ⟨b, k, none⟩ (.string (str t)))) := fun w4 h4 => by
        have h5 := HR.out.below h4
        obtain ⟨v0, hv0⟩ : ∃ v0, (tPart ts k)[k]? = some v0 := ⟨_, List.getElem?_eq_getElem (by have := HLT.out; simp [tPart]; omega)⟩
        have hs := h5.set k (.string (str t))
        rw [tPart_set ts k t HT.out] at hs
        exact ⟨h5.free k, ⟨v0, h5.cell hv0⟩, hs, (below_aft HBB.out h4).setCell (by have := HBS.out; simp; omega) _⟩
      have HFIN := hidD hfin
      clear hfin hB
      rcases hfn with rfl | rfl
      · go_wp2_with (go_at_call 35; refine HC.out.mono ?_; rintro e w4 ⟨rfl, hb4⟩; obtain ⟨f4, ⟨v4, c4⟩, r4, bb4⟩ := HFIN.out w4 hb4; have R4 := hidD r4; have B4 := hidD bb4; clear r4 bb4)
        exact ⟨⟨k + 1, by omega, by go_num, R4.out, B4.out⟩, by simp [intOf]; omega⟩
      · go_wp2_with (go_at_call 76; refine HC.out.mono ?_; rintro e w4 ⟨rfl, hb4⟩; obtain ⟨f4, ⟨v4, c4⟩, r4, bb4⟩ := HFIN.out w4 hb4; have R4 := hidD r4; have B4 := hidD bb4; clear r4 bb4)
        exact ⟨⟨k + 1, by omega, by go_num, R4.out, B4.out⟩, by simp [intOf]; omega⟩
    · obtain rfl : k = l.length := by omega
      rw [HLT.out, tPart_full ts] at hR
      have HC := hidD (HJ.out wr b hR)
      clear hl' hR
      go_wp2_with (go_at_call 95; refine HC.out.mono ?_; rintro e w4 ⟨rfl, hb4⟩)
      go_ret
      exact ⟨rfl, below_aft hB hb4⟩
end Go.Proofs.YtahdnfogdnondaaGreatDoor
