import Derived.Test.YtddjmhfcaeckgaaDoorZw
import Derived.Test.YtddjmhfcaeckgaaDoorD
namespace Go.Proofs.YtddjmhfcaeckgaaDoor
open Go.RowKit
set_option linter.unusedVariables false
set_option linter.unusedSimpArgs false

theorem goes_good (xn m : Nat) (s : ByteArray) (h1 : xn ≤ 1032) (hm : ((xn : Int) + 7) / 8 = (m : Int)) (hg : Good xn m s) : ∀ w, Calls Tryd.prog 56 #[.int .i64 xn, .string s] w fun e w' => e = .returned (.int .i64 m) ∧ w' = w := by
  obtain ⟨he, hgo⟩ := hg
  have hx0 : (0 : Int) ≤ (xn : Int) := by omega
  have hx1 : (xn : Int) ≤ 1032 := by omega
  by_cases hm0 : m = 0
  · subst hm0
    have hx00 : xn = 0 := by omega
    subst hx00
    exact fun w => goesWell_zero s w (by omega)
  · obtain ⟨p, rfl⟩ : ∃ p, m = p + 1 := ⟨m - 1, by omega⟩
    have hp : p < s.size := by omega
    have hm' : ((xn : Int) + 7) / 8 = (p : Int) + 1 := by rw [hm]; rfl
    have hb : ((s[p]).toNat : Int) = sb s p := by unfold sb; rw [dif_pos hp]
    by_cases hu : (xn : Int) % 8 = 0
    · exact fun w => goesWell_full xn p s w (sb s p) hx0 hx1 hm' hp hb hu
    · have hut : ((xn : Int) % 8).toNat = xn % 8 := by omega
      have hv : IntKind.u8.wrap (sb s p * 2 ^ ((xn : Int) % 8).toNat) = 0 := by
        rw [hut]
        refine Classical.byContradiction fun hv => ?_
        obtain ⟨j, k1, k2, k3⟩ := (byte_bits s p (xn % 8) (by omega)).1 hv
        refine hgo p j (by omega) k1 ⟨by omega, ?_⟩
        rw [show (8 * p + j) % 8 = j by omega]
        simpa using k3
      exact fun w => goesWell_well xn p s w (sb s p) hx0 hx1 hm' hp hb hu hv
theorem read_good (xn m n : Nat) (s : ByteArray) (h1 : xn ≤ 1032) (hm : ((xn : Int) + 7) / 8 = (m : Int)) (hn : (n : Int) = ((xn : Int) + 63) / 64) (hg : Good xn m s) : Reads 36 xn s xn (wst s n xn) 0 0 :=
  reads_yes (by omega) fun w => read_ok xn s m n w (by omega) hm hn hg.1 (goes_good xn m s h1 hm hg)
/-- What Read tells of any width and any bytes. -/
theorem read_tells (x : Int) (s : ByteArray) (hs : s.size ≤ 4096) :
    (∃ xn m n : Nat, x = (xn : Int) ∧ xn ≤ 1032 ∧ ((xn : Int) + 7) / 8 = (m : Int) ∧ (n : Int) = ((xn : Int) + 63) / 64 ∧ Good xn m s ∧ Reads 36 x s x (wst s n xn) 0 0) ∨ ∃ (k : Nat) (re : Int), (re = 2 ∨ re = 10) ∧ k ≤ s.size ∧ Reads 36 x s 0 [] k re := by
  by_cases hx : 0 ≤ x ∧ x ≤ 1032
  · obtain ⟨hx0, hx1⟩ := hx
    obtain ⟨xn, rfl⟩ := Int.eq_ofNat_of_zero_le hx0
    obtain ⟨m, hm⟩ : ∃ m : Nat, ((xn : Int) + 7) / 8 = (m : Int) := ⟨(((xn : Int) + 7) / 8).toNat, by omega⟩
    obtain ⟨n, hn⟩ : ∃ n : Nat, (n : Int) = ((xn : Int) + 63) / 64 := ⟨(((xn : Int) + 63) / 64).toNat, by omega⟩
    have hxn : xn ≤ 1032 := by omega
    have early : ∀ i j, i + 1 < m → j < 8 → ¬ badAt xn s i (8 * i + j) := fun i j h1 h2 h => by have := h.1; omega
    have well : (∀ w, Calls Tryd.prog 56 #[.int .i64 xn, .string s] w fun e w' => e = .returned (.int .i64 m) ∧ w' = w) → m ≤ s.size → (∀ i j, i < m → j < 8 → ¬ badAt xn s i (8 * i + j)) → (∃ xn' m n : Nat, (xn : Int) = (xn' : Int) ∧ xn' ≤ 1032 ∧ ((xn' : Int) + 7) / 8 = (m : Int) ∧ (n : Int) = ((xn' : Int) + 63) / 64 ∧ Good xn' m s ∧ Reads 36 (xn : Int) s (xn : Int) (wst s n xn') 0 0) ∨ ∃ (k : Nat) (re : Int), (re = 2 ∨ re = 10) ∧ k ≤ s.size ∧ Reads 36 (xn : Int) s 0 [] k re := by
      intro hG hle hgo
      by_cases he : s.size = m
      · exact .inl ⟨xn, m, n, rfl, hxn, hm, hn, ⟨he, hgo⟩, read_good xn m n s hxn hm hn ⟨he, hgo⟩⟩
      · exact .inr ⟨m, 10, .inr rfl, hle, reads_no fun w => read_err xn s m n m w hx0 hx1 hm hn (by omega) hG (by omega)⟩
    by_cases hsm : s.size < m
    · exact .inr ⟨s.size, 10, .inr rfl, Nat.le_refl _, reads_no fun w => read_err xn s m n s.size w hx0 hx1 hm hn (by omega) (fun w => goesWell_lt xn m s w hx0 hx1 hm hsm) (by omega)⟩
    · by_cases hm0 : m = 0
      · subst hm0
        have hx00 : xn = 0 := by omega
        subst hx00
        exact well (fun w => goesWell_zero s w (by omega)) (by omega) (fun i j h => by omega)
      · obtain ⟨p, rfl⟩ : ∃ p, m = p + 1 := ⟨m - 1, by omega⟩
        have hp : p < s.size := by omega
        have hm' : ((xn : Int) + 7) / 8 = (p : Int) + 1 := by rw [hm]; rfl
        have hb : ((s[p]).toNat : Int) = sb s p := by unfold sb; rw [dif_pos hp]
        by_cases hu : (xn : Int) % 8 = 0
        · refine well (fun w => goesWell_full xn p s w (sb s p) hx0 hx1 hm' hp hb hu) (by omega) (fun i j h1 h2 h => by have := h.1; omega)
        · have hut : ((xn : Int) % 8).toNat = xn % 8 := by omega
          by_cases hv : IntKind.u8.wrap (sb s p * 2 ^ ((xn : Int) % 8).toNat) = 0
          · refine well (fun w => goesWell_well xn p s w (sb s p) hx0 hx1 hm' hp hb hu hv) (by omega) (fun i j h1 h2 h => ?_)
            by_cases hip : i = p
            · subst hip
              rw [hut] at hv
              refine absurd hv ((byte_bits s i (xn % 8) (by omega)).2 ⟨j, h2, by have := h.1; omega, ?_⟩)
              have h3 := h.2
              rw [show (8 * i + j) % 8 = j by omega] at h3
              simpa using h3
            · exact early i j (by omega) h2 h
          · exact .inr ⟨p, 10, .inr rfl, by omega, reads_no fun w => read_err xn s (p + 1) n p w hx0 hx1 hm hn (by omega) (fun w => goesWell_bad xn p s w (sb s p) hx0 hx1 hm' hp hb hu hv) (by omega)⟩
  · exact .inr ⟨0, 2, .inl rfl, Nat.zero_le _, reads_no fun w => read_arg x s w hx⟩

/-- The words of a row that is set bit by bit. -/
def setAll (n : Nat) (l : List Nat) : List Int := l.foldl (fun (zs : List Int) (k : Nat) => turn1 (bits .or .u64) zs (k : Int)) (List.replicate n 0)
theorem setAll_snoc (n : Nat) (l : List Nat) (k : Nat) : setAll n (l ++ [k]) = turns (bits .or .u64) (setAll n l) [(k : Int)] := by
  unfold setAll turns
  rw [List.foldl_append]
  rfl
theorem fold_is (n : Nat) : ∀ (l : List Nat) (z : List Int), z.length = n → Wd z → (∀ k ∈ l, k < 64 * n) → (l.foldl (fun (zs : List Int) (k : Nat) => turn1 (bits .or .u64) zs (k : Int)) z).length = n ∧ Wd (l.foldl (fun (zs : List Int) (k : Nat) => turn1 (bits .or .u64) zs (k : Int)) z) ∧ ∀ k, k < 64 * n → gb (l.foldl (fun (zs : List Int) (k : Nat) => turn1 (bits .or .u64) zs (k : Int)) z) k = (gb z k || decide (k ∈ l)) := by
  intro l
  induction l with
  | nil => intro z h1 h2 _; exact ⟨h1, h2, fun k _ => by simp⟩
  | cons m l ih =>
    intro z h1 h2 h
    have hm := h m (by simp)
    rw [List.foldl_cons]
    obtain ⟨k1, k2, k3⟩ := ih (turn1 (bits .or .u64) z (m : Int)) (by simp [turn1, h1]) (wd_turn h2 _ _) fun k hk => h k (by simp [hk])
    refine ⟨k1, k2, fun k hk => ?_⟩
    rw [k3 k hk, gb_turn h2 h1 hm hk]
    by_cases e1 : k = m
    · simp [e1]
    · simp [e1]
theorem setAll_is (n : Nat) (l : List Nat) (h : ∀ k ∈ l, k < 64 * n) : (setAll n l).length = n ∧ Wd (setAll n l) ∧ ∀ k, k < 64 * n → gb (setAll n l) k = decide (k ∈ l) := by
  obtain ⟨h1, h2, h3⟩ := fold_is n l (List.replicate n 0) (by simp) (wd_zero n) h
  exact ⟨h1, h2, fun k hk => by unfold setAll; rw [h3 k hk, gb_zero, Bool.false_or]⟩
theorem mem_rs {c : Nat → Bool} {N k : Nat} (hk : k < N) : k ∈ rs c 0 N ↔ c k = true := by
  constructor
  · intro h; exact (rs_lt h).2.2
  · intro h
    unfold rs
    rw [List.mem_filter, List.mem_range']
    exact ⟨⟨k, by omega, by omega⟩, h⟩
theorem setAll_all {zs : List Int} {n : Nat} (hz : zs.length = n) (hw : Words zs) : setAll n (rs (gb zs) 0 (64 * n)) = zs := by
  obtain ⟨h1, h2, h3⟩ := setAll_is n (rs (gb zs) 0 (64 * n)) fun k hk => (rs_lt hk).2.1
  refine words_ext (n := n) h2 hw h1 hz fun k hk => ?_
  rw [h3 k hk]
  have := mem_rs (c := gb zs) hk
  cases hg : gb zs k
  · simp [this, hg]
  · simp [this, hg]
theorem setAll_may {xn n : Nat} {zs : List Int} (hz : zs.length = n) (hw : Words zs) (hy : mayB (xn : Int) zs = true) {l r : List Nat} (hl : l ++ r = rs (gb zs) 0 (64 * n)) : mayB (xn : Int) (setAll n l) = true := by
  have hx := mayB_width hy
  have hin : ∀ k ∈ l, k < 64 * n ∧ gb zs k = true := fun k hk => by
    have : k ∈ rs (gb zs) 0 (64 * n) := by rw [← hl]; simp [hk]
    exact ⟨(rs_lt this).2.1, (rs_lt this).2.2⟩
  obtain ⟨h1, h2, h3⟩ := setAll_is n l fun k hk => (hin k hk).1
  refine mayB_of (n := n) (by omega) h1 (by omega) h2 fun k k1 k2 => ?_
  rw [h3 k k2]
  have hk := mayB_high hy hw k1 (by omega)
  refine decide_eq_false fun hm => ?_
  rw [(hin k hm).2] at hk
  cases hk
end Go.Proofs.YtddjmhfcaeckgaaDoor
