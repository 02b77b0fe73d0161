import Derived.Test.YtddjmhfcaeckgaaDoorY
namespace Go.Proofs.YtddjmhfcaeckgaaDoor
open Go.RowKit
set_option linter.unusedVariables false
set_option linter.unusedSimpArgs false

/-- Byte i has a set bit at place k that is none of the row's. -/
def badAt (xn : Nat) (s : ByteArray) (i k : Nat) : Prop := xn ≤ k ∧ (bits .and .u8 (sb s i) (128 / 2 ^ (k % 8)) != 0) = true

theorem refRead_arg (x : Int) (s : ByteArray) (w : World) (h : ¬ (0 ≤ x ∧ x ≤ 1032)) :
    Calls Tryd.prog 37 #[.int .i64 x, .string s] w fun e w' => e = .returned (.tuple #[.agg #[.int .i64 0, .slice none 0 0], .int .i64 0, .int .i64 2]) ∧ Below w.heap.size w w' := by
  by_cases h0 : x < 0
  · clear h
    go_enter Tryd.func37, Tryd.ntmps37
    go_wp2
    refine bodyPost_ret (v := .tuple #[.agg #[.int .i64 0, .slice none 0 0], .int .i64 0, .int .i64 2]) (by simp [results, Tryd.results37, go_sem]) rfl ⟨rfl, ?_⟩
    exact (Below.refl _ _).alloc (Nat.le_refl _) _
  · have h1 : 1032 < x := by omega
    clear h
    go_enter Tryd.func37, Tryd.ntmps37
    go_wp2
    refine bodyPost_ret (v := .tuple #[.agg #[.int .i64 0, .slice none 0 0], .int .i64 0, .int .i64 2]) (by simp [results, Tryd.results37, go_sem]) rfl ⟨rfl, ?_⟩
    exact (Below.refl _ _).alloc (Nat.le_refl _) _

set_option maxHeartbeats 1000000 in
theorem refRead_stop (xn m t : Nat) (s : ByteArray) (w : World) (h1 : xn ≤ 1032) (hm : ((xn : Int) + 7) / 8 = (m : Int)) (hs : s.size ≤ 5000) (ht : t < m) (hts : t ≤ s.size) (hgo : ∀ i j, i < t → j < 8 → ¬ badAt xn s i (8 * i + j)) (hst : t = s.size ∨ ∃ j, j < 8 ∧ badAt xn s t (8 * t + j)) :
    Calls Tryd.prog 37 #[.int .i64 xn, .string s] w fun e w' => e = .returned (.tuple #[.agg #[.int .i64 0, .slice none 0 0], .int .i64 t, .int .i64 10]) ∧ Below w.heap.size w w' := by
  have h1' : ¬ 1032 < (xn : Int) := by omega
  have hmx : m ≤ 130 := by omega
  have b1 := At.new w (Two (.int .i64 0) (.slice none 0 0))
  have hbA : Below w.heap.size w (w.alloc (Two (.int .i64 0) (.slice none 0 0))) := (Below.refl _ _).alloc (Nat.le_refl _) _
  have HGo : Hid (∀ i j, i < t → j < 8 → ¬ badAt xn s i (8 * i + j)) := hgo
  have HSt : Hid (t = s.size ∨ ∃ j, j < 8 ∧ badAt xn s t (8 * t + j)) := hst
  clear hgo hst
  go_enter Tryd.func37, Tryd.ntmps37
  go_wp2
  go_loopw [8] (fun i wr => ∃ k : Nat, k ≤ t ∧ i = .int .i64 k ∧ Below w.heap.size w wr ∧ At wr w.heap.size (Two (.int .i64 0) (.slice none 0 0))) (fun i _ => m - (intOf i).toNat)
  case atStart => exact ⟨0, Nat.zero_le _, rfl, hbA, b1⟩
  case round =>
    obtain ⟨i, hit, rfl, hbr, b1r⟩ := hrel
    clear b1 hbA
    obtain ⟨c10, c11, f1⟩ := b1r.all
    have hi0 : (i : Int) < (m : Int) := by omega
    by_cases his : i < s.size
    · have his' : ¬ ((s.size : Int) ≤ (i : Int)) := by omega
      go_wp2
      have hbq : sb s i = ((s[i]'his).toNat : Int) := by unfold sb; rw [dif_pos his]
      obtain ⟨b, hb⟩ : ∃ b, (((s[i]'his)).toNat : Int) = b := ⟨_, rfl⟩
      have hidx := idx_str his hb
      rw [hb] at hbq
      have HSB : Hid (sb s i = b) := hbq
      clear hbq hb
      go_loopw [9] (fun k wx => ∃ kk d : Nat, 8 * i ≤ kk ∧ kk ≤ 8 * i + 8 ∧ k = .int .i64 kk ∧ wx = wr.drewN d ∧ Hid (∀ k', 8 * i ≤ k' → k' < kk → ¬ badAt xn s i k')) (fun k _ => 8 * i + 8 - (intOf k).toNat)
      case atStart => exact ⟨8 * i, 0, Nat.le_refl _, by omega, by go_num, rfl, fun k' h1 h2 => by omega⟩
      case round =>
        obtain ⟨kk, d, hk1, hk2, rfl, rfl, hnb⟩ := hrel
        by_cases hkk : kk < 8 * i + 8
        · have hkk' : (kk : Int) < 8 * (i : Int) + 8 := by omega
          by_cases hx : xn ≤ kk
          · have hd : decide ((xn : Int) ≤ (kk : Int)) = true := by simp; omega
            cases hbit : (bits .and .u8 b (128 / 2 ^ (kk % 8)) != 0)
            · have HN : Hid (¬ badAt xn s i kk) := fun h => by
                have h2 := h.2
                rw [HSB.out, hbit] at h2
                cases h2
              go_wp2
              go_quiet (fail)
              go_wp2
              go_roundw
              case rel => exact ⟨kk + 1, _, by omega, by omega, by go_num, rfl, fun k' h1 h2 => by
                by_cases e : k' = kk
                · subst e; exact HN.out
                · exact hnb.out k' h1 (by omega)⟩
              case measure => simp [intOf]; omega
            · have HBad : Hid (badAt xn s i kk) := ⟨hx, by rw [HSB.out]; exact hbit⟩
              have hie : i = t := by
                by_cases e : i = t
                · exact e
                · refine absurd HBad.out ?_
                  have h := HGo.out i (kk - 8 * i) (by omega) (by omega)
                  rwa [show 8 * i + (kk - 8 * i) = kk by omega] at h
              subst hie
              go_wp2
              go_quiet (fail)
              go_wp2
              have hbf := below_drewN hbr d
              refine bodyPost_ret (v := .tuple #[.agg #[.int .i64 0, .slice none 0 0], .int .i64 i, .int .i64 10]) (by simp [results, Tryd.results37, go_sem, c10, c11]) rfl ⟨rfl, ?_⟩
              first
                | exact below_setTwo (below_drewN hbr _) (Nat.le_refl _) _ _
                | exact below_drewN (below_setTwo hbr (Nat.le_refl _) _ _) _
                | exact below_drewN hbr _
          · have hd : decide ((xn : Int) ≤ (kk : Int)) = false := by simp; omega
            have HN : Hid (¬ badAt xn s i kk) := fun h => hx h.1
            go_wp2
            go_quiet (fail)
            go_wp2
            go_roundw
            case rel => exact ⟨kk + 1, _, by omega, by omega, by go_num, rfl, fun k' h1 h2 => by
              by_cases e : k' = kk
              · subst e; exact HN.out
              · exact hnb.out k' h1 (by omega)⟩
            case measure => simp [intOf]; omega
        · have hke : kk = 8 * i + 8 := by omega
          have hil : i < t := by
            by_cases e : i = t
            · rcases HSt.out with h | ⟨j, hj, hbd⟩
              · omega
              · rw [← e] at hbd
                exact absurd hbd (hnb.out (8 * i + j) (by omega) (by omega))
            · omega
          subst hke
          go_wp2
          go_roundw
          case rel => exact ⟨i + 1, by omega, by go_num, below_drewN hbr _, b1r.drewN _⟩
          case measure => simp [intOf]; omega
    · have hie : i = t := by omega
      have his' : (s.size : Int) ≤ (i : Int) := by omega
      subst hie
      go_wp2
      refine bodyPost_ret (v := .tuple #[.agg #[.int .i64 0, .slice none 0 0], .int .i64 i, .int .i64 10]) (by simp [results, Tryd.results37, go_sem, c10, c11]) rfl ⟨rfl, ?_⟩
      first
        | exact below_setTwo hbr (Nat.le_refl _) _ _
        | exact hbr
end Go.Proofs.YtddjmhfcaeckgaaDoor
