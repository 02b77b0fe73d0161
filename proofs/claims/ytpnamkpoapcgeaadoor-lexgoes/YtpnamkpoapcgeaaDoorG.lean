import Derived.Test.YtpnamkpoapcgeaaDoorF
namespace Go.Proofs.YtpnamkpoapcgeaaDoor
open Go.RowKit
set_option linter.unusedVariables false
set_option linter.unusedSimpArgs false

theorem str_tail (q : UInt8) (r : List UInt8) : (str (q :: r)).extract 1 (q :: r).length = str r := by rw [str_ext]; simp
theorem rdRow_far (k : Nat) (p : Nat → Bool) (l : List UInt8) : (rdRow k p l).far = rowLen p l := by unfold rdRow; split <;> rfl
theorem rdRow_n (k : Nat) (p : Nat → Bool) (l : List UInt8) : (rdRow k p l).n = 0 := by unfold rdRow; split <;> rfl
set_option maxRecDepth 100000 in
set_option maxHeartbeats 2000000 in
theorem readLife_nil (w : World) (q : UInt8) : Calls Tryd.prog 62 #[.string (str [q])] w fun e w' => e = .returned (rdV ⟨0, 0, [], 1⟩) ∧ Below w.heap.size w w' := by
  obtain ⟨s, hs⟩ : ∃ s, s = str [q] := ⟨_, rfl⟩
  have hx : s.extract 1 1 = str [] := by rw [hs]; exact str_tail q []
  have hsz : s.size = 1 := by rw [hs]; exact str_size [q]
  have he : (str []).toList.isEmpty = true := by rw [str_list]; rfl
  rw [← hs]
  clear hs
  go_enter Tryd.func62, Tryd.ntmps62
  go_wp2
  refine bodyPost_ret (v := .tuple #[tok 0 0 0 ⟨#[]⟩, .int .i64 1]) (by simp [results, Tryd.results62, go_sem]) rfl ⟨rfl, ?_⟩
  exact (Below.refl _ _).alloc (Nat.le_refl _) _
set_option maxRecDepth 100000 in
set_option maxHeartbeats 2000000 in
theorem readLife_cons (w : World) (q c : UInt8) (r : List UInt8) (hl : (q :: c :: r).length ≤ maxLen) : Calls Tryd.prog 62 #[.string (str (q :: c :: r))] w fun e w' => e = .returned (rdV (rdLife (c :: r))) ∧ Below w.heap.size w w' := by
  have hl' : (c :: r).length ≤ maxLen := by simp at hl ⊢; omega
  unfold maxLen at hl
  obtain ⟨n, hn⟩ : ∃ n, n = (q :: c :: r).length := ⟨_, rfl⟩
  obtain ⟨s, hs⟩ : ∃ s, s = str (q :: c :: r) := ⟨_, rfl⟩
  obtain ⟨t, ht⟩ : ∃ t, t = str (c :: r) := ⟨_, rfl⟩
  have hx : s.extract 1 n = t := by rw [hs, hn, ht]; exact str_tail q _
  have hsz : s.size = n := by rw [hs, hn]; exact str_size _
  have he : t.toList.isEmpty = false := by rw [ht, str_list]; rfl
  have htz : 0 < t.size := by rw [ht, str_size]; simp
  have htz' : (0 : Int) < (t.size : Int) := by omega
  have hc : t[0] = c := by subst ht; rfl
  have hn1 : 1 ≤ n := by rw [hn]; simp
  have hn2 : n ≤ 9223372036854775807 := by rw [hn]; omega
  have g1 : (1 : Int) ≤ (n : Int) := by omega
  have HRow : Hid (∀ W, Calls Tryd.prog 58 #[.string t, .int .u8 2, .func (.func 59) #[] #[]] W fun e w' => e = .returned (rdV (rdRow 2 isN (c :: r))) ∧ Below W.heap.size W w') := fun W => by rw [ht]; exact readRow_N W (c :: r) hl'
  have hfar := rdRow_far 2 isN (c :: r)
  have hrn := rdRow_n 2 isN (c :: r)
  have hle := rowLen_le isN (c :: r)
  have HL : Hid (rdLife (c :: r) = if isL c.toNat then (if (rdRow 2 isN (c :: r)).k = 2 then ⟨4, 0, (rdRow 2 isN (c :: r)).s, 1 + (rdRow 2 isN (c :: r)).far⟩ else ⟨0, 0, [], 1 + (rdRow 2 isN (c :: r)).far⟩) else ⟨0, 0, [], 1⟩) := rfl
  rw [← hs]
  generalize rdLife (c :: r) = RL at *
  generalize rdRow 2 isN (c :: r) = R at *
  obtain ⟨Rk, Rn, Rs, Rf⟩ := R
  dsimp only at hfar hrn HL HRow
  subst hrn
  have hRf : Rf ≤ 32 := by omega
  have hcls := cls_any c.toNat
  clear hs ht hn hl hfar hle hl'
  cases hL : isL c.toNat
  · have h2 : cls c.toNat ≠ 2 := fun e => by rw [cls_L] at e; rw [e] at hL; cases hL
    have HL' : Hid (RL = ⟨0, 0, [], 1⟩) := by have := HL.out; rw [hL] at this; exact this
    have HC : Hid (∀ w, Calls Tryd.prog 57 #[.int .u8 (c.toNat : Int)] w fun e w' => e = .returned (.int .u8 (cls c.toNat : Int)) ∧ w' = w) := hcls
    obtain ⟨k, hk⟩ : ∃ k, k = cls c.toNat := ⟨_, rfl⟩
    rw [← hk] at HC h2
    have hkb : ((k : Int) != 2) = true := by simp; omega
    clear hcls hk HL HRow
    go_enter Tryd.func62, Tryd.ntmps62
    go_wp2_with (go_at_call 57; refine (HC.out _).mono ?_; rintro e w' ⟨rfl, rfl⟩)
    refine bodyPost_ret (v := .tuple #[tok 0 0 0 ⟨#[]⟩, .int .i64 1]) (by simp [results, Tryd.results62, go_sem]) rfl ⟨by rw [HL'.out]; rfl, ?_⟩
    exact (Below.refl _ _).alloc (Nat.le_refl _) _
  · have h2 : cls c.toNat = 2 := (cls_L _).2 hL
    have HC : Hid (∀ w, Calls Tryd.prog 57 #[.int .u8 (c.toNat : Int)] w fun e w' => e = .returned (.int .u8 2) ∧ w' = w) := fun w => by have := hcls w; rw [h2] at this; exact this
    clear hcls h2
    have T2 := At.new w (Tok 0 0 0 ⟨#[]⟩)
    by_cases hk2 : Rk = 2
    · have HL' : Hid (RL = ⟨4, 0, Rs, 1 + Rf⟩) := by have := HL.out; rw [hL, if_pos hk2] at this; exact this
      subst hk2
      clear HL
      go_enter Tryd.func62, Tryd.ntmps62
      go_wp2_with (first
        | (go_at_call 57; refine (HC.out _).mono ?_; rintro e w' ⟨rfl, rfl⟩)
        | (go_at_call 58; refine (HRow.out _).mono ?_; rintro e w1 ⟨rfl, hb1⟩; have T2 := T2.below hb1; have hl2 := T2.lt; have hl3 : w.heap.size ≠ w1.heap.size := (by omega); obtain ⟨c0, c1, c2, c3, f⟩ := T2.tok))
      have T3 := T2.setTok 4 0 0 (str Rs)
      obtain ⟨d0, d1, d2, d3, f'⟩ := T3.tok
      unfold setTok at d0 d1 d2 d3
      refine bodyPost_ret (v := .tuple #[tok 4 0 0 (str Rs), .int .i64 (1 + (Rf : Int))]) (by simp [results, Tryd.results62, go_sem, d0, d1, d2, d3, hl2, hl3]) rfl ⟨by rw [HL'.out]; simp [str], ?_⟩
      exact (below_setTok (below1 hb1) (Nat.le_refl _) 4 0 0 (str Rs)).alloc (by have := T2.lt; show _ ≤ (setTok w1 w.heap.size 4 0 0 (str Rs)).heap.size; unfold setTok; simp; omega) _
    · have HL' : Hid (RL = ⟨0, 0, [], 1 + Rf⟩) := by have := HL.out; rw [hL, if_neg hk2] at this; exact this
      have hkb : ((Rk : Int) != 2) = true := by simp; omega
      clear HL
      go_enter Tryd.func62, Tryd.ntmps62
      go_wp2_with (first
        | (go_at_call 57; refine (HC.out _).mono ?_; rintro e w' ⟨rfl, rfl⟩)
        | (go_at_call 58; refine (HRow.out _).mono ?_; rintro e w1 ⟨rfl, hb1⟩; have T2 := T2.below hb1; have hl2 := T2.lt; have hl3 : w.heap.size ≠ w1.heap.size := (by omega); obtain ⟨c0, c1, c2, c3, f⟩ := T2.tok))
      have T3 := T2.setTok 0 0 0 ⟨#[]⟩
      obtain ⟨d0, d1, d2, d3, f'⟩ := T3.tok
      unfold setTok at d0 d1 d2 d3
      refine bodyPost_ret (v := .tuple #[tok 0 0 0 ⟨#[]⟩, .int .i64 (1 + (Rf : Int))]) (by simp [results, Tryd.results62, go_sem, d0, d1, d2, d3, hl2, hl3]) rfl ⟨by rw [HL'.out]; simp [str], ?_⟩
      exact (below_setTok (below1 hb1) (Nat.le_refl _) 0 0 0 ⟨#[]⟩).alloc (by have := T2.lt; show _ ≤ (setTok w1 w.heap.size 0 0 0 ⟨#[]⟩).heap.size; unfold setTok; simp; omega) _
end Go.Proofs.YtpnamkpoapcgeaaDoor
