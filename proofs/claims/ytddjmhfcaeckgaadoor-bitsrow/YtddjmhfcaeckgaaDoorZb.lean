import Derived.Test.YtddjmhfcaeckgaaDoorZa
namespace Go.Proofs.YtddjmhfcaeckgaaDoor
open Go.RowKit
set_option linter.unusedVariables false
set_option linter.unusedSimpArgs false

/-- What a call that reads bytes answers: a row of the words rz in memory of its own, a place, an error. -/
def Reads (f : FuncId) (x : Int) (s : ByteArray) (rx : Int) (rz : List Int) (rat re : Int) : Prop :=
  ∀ w, Calls Tryd.prog f #[.int .i64 x, .string s] w fun e w' => ∃ aa cc, e = .returned (.tuple #[.agg #[.int .i64 rx, .slice aa rz.length cc], .int .i64 rat, .int .i64 re]) ∧ Mine w' w.heap.size aa rz.length cc rz ∧ Below w.heap.size w w'

theorem reads_no {f : FuncId} {x : Int} {s : ByteArray} {rat re : Int} (h : ∀ w, Calls Tryd.prog f #[.int .i64 x, .string s] w fun e w' => e = .returned (.tuple #[.agg #[.int .i64 0, .slice none 0 0], .int .i64 rat, .int .i64 re]) ∧ Below w.heap.size w w') : Reads f x s 0 [] rat re :=
  fun w => (h w).mono fun e w' h => ⟨none, 0, h.1, World.ownsRow_nil _ _ _ _, h.2⟩
theorem reads_yes {f : FuncId} {xn n : Nat} {s : ByteArray} (hn : n ≤ 17) (h : ∀ w, Calls Tryd.prog f #[.int .i64 xn, .string s] w fun e w' => ∃ g, e = .returned (.tuple #[.agg #[.int .i64 xn, .slice (some ⟨g, 0, none⟩) n n], .int .i64 0, .int .i64 0]) ∧ w.heap.size ≤ g ∧ Blk w' g (wst s n xn) ∧ Below w.heap.size w w') : Reads f xn s xn (wst s n xn) 0 0 :=
  fun w => (h w).mono fun e w' h => by
    obtain ⟨g, h1, h2, h3, h4⟩ := h
    have hl := wst_len s n xn
    have hm := h3.mine h2 (by rw [hl]; unfold maxLen; omega)
    rw [hl] at hm ⊢
    exact ⟨_, _, h1, hm, h4⟩

theorem sb_lt (s : ByteArray) (i : Nat) : ∃ b : Fin 256, sb s i = (b.val : Int) := by
  unfold sb
  split
  · rename_i h
    have := (s[i]).toNat_lt
    exact ⟨⟨(s[i]).toNat, by omega⟩, rfl⟩
  · exact ⟨0, rfl⟩
theorem byte_bits (s : ByteArray) (i u : Nat) (hu : u < 8) : (IntKind.u8.wrap (sb s i * 2 ^ u) ≠ 0) ↔ ∃ j, j < 8 ∧ u ≤ j ∧ bits .and .u8 (sb s i) (128 / 2 ^ j) ≠ 0 := by
  obtain ⟨b, hb⟩ := sb_lt s i
  rw [hb]
  have := byte_bad b ⟨u, hu⟩
  rw [this]
  constructor
  · rintro ⟨j, h1, h2⟩
    exact ⟨j.val, j.isLt, h1, h2⟩
  · rintro ⟨j, h0, h1, h2⟩
    exact ⟨⟨j, h0⟩, h1, h2⟩

theorem both_read (x : Int) (s : ByteArray) (hs : s.size ≤ 4096) : ∃ rx rz rat re, rz.length ≤ 17 ∧ Reads 36 x s rx rz rat re ∧ Reads 37 x s rx rz rat re := by
  by_cases hx : 0 ≤ x ∧ x ≤ 1032
  · obtain ⟨hx0, hx1⟩ := hx
    obtain ⟨xn, rfl⟩ := Int.eq_ofNat_of_zero_le hx0
    obtain ⟨m, hm⟩ : ∃ m : Nat, ((xn : Int) + 7) / 8 = (m : Int) := ⟨(((xn : Int) + 7) / 8).toNat, by omega⟩
    obtain ⟨n, hn⟩ : ∃ n : Nat, (n : Int) = ((xn : Int) + 63) / 64 := ⟨(((xn : Int) + 63) / 64).toNat, by omega⟩
    have hxn : xn ≤ 1032 := by omega
    have hn17 : n ≤ 17 := by omega
    have early : ∀ i j, i + 1 < m → j < 8 → ¬ badAt xn s i (8 * i + j) := fun i j h1 h2 h => by have := h.1; omega
    -- all goes well up to m
    have well : (∀ w, Calls Tryd.prog 56 #[.int .i64 xn, .string s] w fun e w' => e = .returned (.int .i64 m) ∧ w' = w) → m ≤ s.size → (∀ i j, i < m → j < 8 → ¬ badAt xn s i (8 * i + j)) → ∃ rx rz rat re, rz.length ≤ 17 ∧ Reads 36 xn s rx rz rat re ∧ Reads 37 xn s rx rz rat re := by
      intro hG hle hgo
      by_cases he : s.size = m
      · exact ⟨xn, wst s n xn, 0, 0, by rw [wst_len]; exact hn17, reads_yes hn17 fun w => read_ok xn s m n w hx1 hm hn he hG, reads_yes hn17 fun w => refRead_ok xn m n s w hxn hm hn (by omega) he hgo⟩
      · exact ⟨0, [], m, 10, Nat.zero_le _, reads_no fun w => read_err xn s m n m w hx0 hx1 hm hn (by omega) hG (by omega), reads_no fun w => refRead_long xn m n s w hxn hm hn (by omega) (by omega) hgo⟩
    by_cases hsm : s.size < m
    · refine ⟨0, [], s.size, 10, Nat.zero_le _, reads_no fun w => read_err xn s m n s.size w hx0 hx1 hm hn (by omega) (fun w => goesWell_lt xn m s w hx0 hx1 hm hsm) (by omega), reads_no fun w => refRead_stop xn m s.size s w hxn hm (by omega) hsm (Nat.le_refl _) (fun i j h1 h2 => early i j (by omega) h2) (.inl rfl)⟩
    · by_cases hm0 : m = 0
      · subst hm0
        have hx00 : xn = 0 := by omega
        subst hx00
        exact well (fun w => goesWell_zero s w (by omega)) (by omega) (fun i j h => by omega)
      · obtain ⟨p, rfl⟩ : ∃ p, m = p + 1 := ⟨m - 1, by omega⟩
        have hp : p < s.size := by omega
        have hm' : ((xn : Int) + 7) / 8 = (p : Int) + 1 := by rw [hm]; rfl
        have hb : ((s[p]).toNat : Int) = sb s p := by unfold sb; rw [dif_pos hp]
        by_cases hu : (xn : Int) % 8 = 0
        · refine well (fun w => goesWell_full xn p s w (sb s p) hx0 hx1 hm' hp hb hu) (by omega) (fun i j h1 h2 h => by have := h.1; omega)
        · have hut : ((xn : Int) % 8).toNat = xn % 8 := by omega
          by_cases hv : IntKind.u8.wrap (sb s p * 2 ^ ((xn : Int) % 8).toNat) = 0
          · refine well (fun w => goesWell_well xn p s w (sb s p) hx0 hx1 hm' hp hb hu hv) (by omega) (fun i j h1 h2 h => ?_)
            by_cases hip : i = p
            · subst hip
              rw [hut] at hv
              refine absurd hv ((byte_bits s i (xn % 8) (by omega)).2 ⟨j, h2, by have := h.1; omega, ?_⟩)
              have h3 := h.2
              rw [show (8 * i + j) % 8 = j by omega] at h3
              simpa using h3
            · exact early i j (by omega) h2 h
          · refine ⟨0, [], p, 10, Nat.zero_le _, reads_no fun w => read_err xn s (p + 1) n p w hx0 hx1 hm hn (by omega) (fun w => goesWell_bad xn p s w (sb s p) hx0 hx1 hm' hp hb hu hv) (by omega), reads_no fun w => refRead_stop xn (p + 1) p s w hxn hm (by omega) (by omega) (by omega) (fun i j h1 h2 => early i j (by omega) h2) (.inr ?_)⟩
            rw [hut] at hv
            obtain ⟨j, h1, h2, h3⟩ := (byte_bits s p (xn % 8) (by omega)).1 hv
            refine ⟨j, h1, by omega, ?_⟩
            rw [show (8 * p + j) % 8 = j by omega]
            simpa using h3
  · exact ⟨0, [], 0, 2, Nat.zero_le _, reads_no fun w => read_arg x s w hx, reads_no fun w => refRead_arg x s w hx⟩
end Go.Proofs.YtddjmhfcaeckgaaDoor
