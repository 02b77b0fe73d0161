import Derived.Test.YtpnamkpoapcgeaaDoorG
namespace Go.Proofs.YtpnamkpoapcgeaaDoor
open Go.RowKit
set_option linter.unusedVariables false
set_option linter.unusedSimpArgs false

theorem readLife_any (w : World) (q : UInt8) (r : List UInt8) (hl : (q :: r).length ≤ maxLen) : Calls Tryd.prog 62 #[.string (str (q :: r))] w fun e w' => e = .returned (rdV (rdLife r)) ∧ Below w.heap.size w w' := by
  cases r with
  | nil => exact readLife_nil w q
  | cons c r => exact readLife_cons w q c r hl
theorem read_nil (w : World) : Calls Tryd.prog 37 #[.string (str [])] w fun e w' => e = .returned (rdV (rd [])) ∧ Below w.heap.size w w' := by
  obtain ⟨s, hs⟩ : ∃ s, s = str [] := ⟨_, rfl⟩
  have he : s.toList.isEmpty = true := by rw [hs, str_list]; rfl
  rw [← hs]
  clear hs
  go_enter Tryd.func37, Tryd.ntmps37
  go_wp2
  refine bodyPost_ret (v := .tuple #[tok 0 0 0 ⟨#[]⟩, .int .i64 0]) (by simp [results, Tryd.results37, go_sem]) rfl ⟨rfl, ?_⟩
  exact (Below.refl _ _).alloc (Nat.le_refl _) _
set_option maxRecDepth 100000 in
set_option maxHeartbeats 2000000 in
theorem read_2 (w : World) (c : UInt8) (r : List UInt8) (R : Rd) (hcl : cls c.toNat = 2) (hR : ∀ W, Calls Tryd.prog 58 #[.string (str (c :: r)), .int .u8 2, .func (.func 59) #[] #[]] W fun e w' => e = .returned (rdV R) ∧ Below W.heap.size W w') : Calls Tryd.prog 37 #[.string (str (c :: r))] w fun e w' => e = .returned (rdV R) ∧ Below w.heap.size w w' := by
  obtain ⟨Rk, Rn, Rs, Rf⟩ := R
  obtain ⟨s, hs⟩ : ∃ s, s = str (c :: r) := ⟨_, rfl⟩
  have he : s.toList.isEmpty = false := by rw [hs, str_list]; rfl
  have htz : 0 < s.size := by rw [hs, str_size]; simp
  have htz' : (0 : Int) < (s.size : Int) := by omega
  have hc : s[0] = c := by subst hs; rfl
  have HX : Hid (∀ W, Calls Tryd.prog 58 #[.string s, .int .u8 2, .func (.func 59) #[] #[]] W fun e w' => e = .returned (rdV ⟨Rk, Rn, Rs, Rf⟩) ∧ Below W.heap.size W w') := fun W => by rw [hs]; exact hR W
  have T2 := At.new w (Tok 0 0 0 ⟨#[]⟩)
  rw [← hs]
  clear hs hR
  have HC : Hid (∀ w, Calls Tryd.prog 57 #[.int .u8 (c.toNat : Int)] w fun e w' => e = .returned (.int .u8 2) ∧ w' = w) := fun w => by have := cls_any c.toNat w; rw [hcl] at this; exact this
  clear hcl
  go_enter Tryd.func37, Tryd.ntmps37
  go_wp2_with (first
    | (go_at_call 57; refine (HC.out _).mono ?_; rintro e w' ⟨rfl, rfl⟩)
    | (go_at_call 58; refine (HX.out _).mono ?_; rintro e w1 ⟨rfl, hb1⟩; have T2 := T2.below hb1; obtain ⟨c0, c1, c2, c3, f⟩ := T2.tok))
  have T3 := T2.setTok Rk 0 Rn (str Rs)
  obtain ⟨d0, d1, d2, d3, f'⟩ := T3.tok
  unfold setTok at d0 d1 d2 d3
  refine bodyPost_ret (v := .tuple #[tok Rk 0 Rn (str Rs), .int .i64 (Rf : Int)]) (by simp [results, Tryd.results37, go_sem, d0, d1, d2, d3]) rfl ⟨rfl, ?_⟩
  exact below_setTok (below1 hb1) (Nat.le_refl _) Rk 0 Rn (str Rs)
set_option maxRecDepth 100000 in
set_option maxHeartbeats 2000000 in
theorem read_3 (w : World) (c : UInt8) (r : List UInt8) (R : Rd) (hcl : cls c.toNat = 3) (hR : ∀ W, Calls Tryd.prog 58 #[.string (str (c :: r)), .int .u8 3, .func (.func 60) #[] #[]] W fun e w' => e = .returned (rdV R) ∧ Below W.heap.size W w') : Calls Tryd.prog 37 #[.string (str (c :: r))] w fun e w' => e = .returned (rdV R) ∧ Below w.heap.size w w' := by
  obtain ⟨Rk, Rn, Rs, Rf⟩ := R
  obtain ⟨s, hs⟩ : ∃ s, s = str (c :: r) := ⟨_, rfl⟩
  have he : s.toList.isEmpty = false := by rw [hs, str_list]; rfl
  have htz : 0 < s.size := by rw [hs, str_size]; simp
  have htz' : (0 : Int) < (s.size : Int) := by omega
  have hc : s[0] = c := by subst hs; rfl
  have HX : Hid (∀ W, Calls Tryd.prog 58 #[.string s, .int .u8 3, .func (.func 60) #[] #[]] W fun e w' => e = .returned (rdV ⟨Rk, Rn, Rs, Rf⟩) ∧ Below W.heap.size W w') := fun W => by rw [hs]; exact hR W
  have T2 := At.new w (Tok 0 0 0 ⟨#[]⟩)
  rw [← hs]
  clear hs hR
  have HC : Hid (∀ w, Calls Tryd.prog 57 #[.int .u8 (c.toNat : Int)] w fun e w' => e = .returned (.int .u8 3) ∧ w' = w) := fun w => by have := cls_any c.toNat w; rw [hcl] at this; exact this
  clear hcl
  go_enter Tryd.func37, Tryd.ntmps37
  go_wp2_with (first
    | (go_at_call 57; refine (HC.out _).mono ?_; rintro e w' ⟨rfl, rfl⟩)
    | (go_at_call 58; refine (HX.out _).mono ?_; rintro e w1 ⟨rfl, hb1⟩; have T2 := T2.below hb1; obtain ⟨c0, c1, c2, c3, f⟩ := T2.tok))
  have T3 := T2.setTok Rk 0 Rn (str Rs)
  obtain ⟨d0, d1, d2, d3, f'⟩ := T3.tok
  unfold setTok at d0 d1 d2 d3
  refine bodyPost_ret (v := .tuple #[tok Rk 0 Rn (str Rs), .int .i64 (Rf : Int)]) (by simp [results, Tryd.results37, go_sem, d0, d1, d2, d3]) rfl ⟨rfl, ?_⟩
  exact below_setTok (below1 hb1) (Nat.le_refl _) Rk 0 Rn (str Rs)
set_option maxRecDepth 100000 in
set_option maxHeartbeats 2000000 in
theorem read_4 (w : World) (c : UInt8) (r : List UInt8) (R : Rd) (hcl : cls c.toNat = 4) (hR : ∀ W, Calls Tryd.prog 61 #[.string (str (c :: r))] W fun e w' => e = .returned (rdV R) ∧ Below W.heap.size W w') : Calls Tryd.prog 37 #[.string (str (c :: r))] w fun e w' => e = .returned (rdV R) ∧ Below w.heap.size w w' := by
  obtain ⟨Rk, Rn, Rs, Rf⟩ := R
  obtain ⟨s, hs⟩ : ∃ s, s = str (c :: r) := ⟨_, rfl⟩
  have he : s.toList.isEmpty = false := by rw [hs, str_list]; rfl
  have htz : 0 < s.size := by rw [hs, str_size]; simp
  have htz' : (0 : Int) < (s.size : Int) := by omega
  have hc : s[0] = c := by subst hs; rfl
  have HX : Hid (∀ W, Calls Tryd.prog 61 #[.string s] W fun e w' => e = .returned (rdV ⟨Rk, Rn, Rs, Rf⟩) ∧ Below W.heap.size W w') := fun W => by rw [hs]; exact hR W
  have T2 := At.new w (Tok 0 0 0 ⟨#[]⟩)
  rw [← hs]
  clear hs hR
  have HC : Hid (∀ w, Calls Tryd.prog 57 #[.int .u8 (c.toNat : Int)] w fun e w' => e = .returned (.int .u8 4) ∧ w' = w) := fun w => by have := cls_any c.toNat w; rw [hcl] at this; exact this
  clear hcl
  go_enter Tryd.func37, Tryd.ntmps37
  go_wp2_with (first
    | (go_at_call 57; refine (HC.out _).mono ?_; rintro e w' ⟨rfl, rfl⟩)
    | (go_at_call 61; refine (HX.out _).mono ?_; rintro e w1 ⟨rfl, hb1⟩; have T2 := T2.below hb1; obtain ⟨c0, c1, c2, c3, f⟩ := T2.tok))
  have T3 := T2.setTok Rk 0 Rn (str Rs)
  obtain ⟨d0, d1, d2, d3, f'⟩ := T3.tok
  unfold setTok at d0 d1 d2 d3
  refine bodyPost_ret (v := .tuple #[tok Rk 0 Rn (str Rs), .int .i64 (Rf : Int)]) (by simp [results, Tryd.results37, go_sem, d0, d1, d2, d3]) rfl ⟨rfl, ?_⟩
  exact below_setTok (below1 hb1) (Nat.le_refl _) Rk 0 Rn (str Rs)
set_option maxRecDepth 100000 in
set_option maxHeartbeats 2000000 in
theorem read_6 (w : World) (c : UInt8) (r : List UInt8) (R : Rd) (hcl : cls c.toNat = 6) (hR : ∀ W, Calls Tryd.prog 62 #[.string (str (c :: r))] W fun e w' => e = .returned (rdV R) ∧ Below W.heap.size W w') : Calls Tryd.prog 37 #[.string (str (c :: r))] w fun e w' => e = .returned (rdV R) ∧ Below w.heap.size w w' := by
  obtain ⟨Rk, Rn, Rs, Rf⟩ := R
  obtain ⟨s, hs⟩ : ∃ s, s = str (c :: r) := ⟨_, rfl⟩
  have he : s.toList.isEmpty = false := by rw [hs, str_list]; rfl
  have htz : 0 < s.size := by rw [hs, str_size]; simp
  have htz' : (0 : Int) < (s.size : Int) := by omega
  have hc : s[0] = c := by subst hs; rfl
  have HX : Hid (∀ W, Calls Tryd.prog 62 #[.string s] W fun e w' => e = .returned (rdV ⟨Rk, Rn, Rs, Rf⟩) ∧ Below W.heap.size W w') := fun W => by rw [hs]; exact hR W
  have T2 := At.new w (Tok 0 0 0 ⟨#[]⟩)
  rw [← hs]
  clear hs hR
  have HC : Hid (∀ w, Calls Tryd.prog 57 #[.int .u8 (c.toNat : Int)] w fun e w' => e = .returned (.int .u8 6) ∧ w' = w) := fun w => by have := cls_any c.toNat w; rw [hcl] at this; exact this
  clear hcl
  go_enter Tryd.func37, Tryd.ntmps37
  go_wp2_with (first
    | (go_at_call 57; refine (HC.out _).mono ?_; rintro e w' ⟨rfl, rfl⟩)
    | (go_at_call 62; refine (HX.out _).mono ?_; rintro e w1 ⟨rfl, hb1⟩; have T2 := T2.below hb1; obtain ⟨c0, c1, c2, c3, f⟩ := T2.tok))
  have T3 := T2.setTok Rk 0 Rn (str Rs)
  obtain ⟨d0, d1, d2, d3, f'⟩ := T3.tok
  unfold setTok at d0 d1 d2 d3
  refine bodyPost_ret (v := .tuple #[tok Rk 0 Rn (str Rs), .int .i64 (Rf : Int)]) (by simp [results, Tryd.results37, go_sem, d0, d1, d2, d3]) rfl ⟨rfl, ?_⟩
  exact below_setTok (below1 hb1) (Nat.le_refl _) Rk 0 Rn (str Rs)
set_option maxRecDepth 100000 in
set_option maxHeartbeats 2000000 in
theorem read_s (w : World) (c : UInt8) (r : List UInt8) (R : Rd) (h2 : cls c.toNat ≠ 2) (h3 : cls c.toNat ≠ 3) (h4 : cls c.toNat ≠ 4) (h6 : cls c.toNat ≠ 6) (hR : ∀ W, Calls Tryd.prog 63 #[.string (str (c :: r))] W fun e w' => e = .returned (rdV R) ∧ Below W.heap.size W w') : Calls Tryd.prog 37 #[.string (str (c :: r))] w fun e w' => e = .returned (rdV R) ∧ Below w.heap.size w w' := by
  obtain ⟨Rk, Rn, Rs, Rf⟩ := R
  obtain ⟨s, hs⟩ : ∃ s, s = str (c :: r) := ⟨_, rfl⟩
  have he : s.toList.isEmpty = false := by rw [hs, str_list]; rfl
  have htz : 0 < s.size := by rw [hs, str_size]; simp
  have htz' : (0 : Int) < (s.size : Int) := by omega
  have hc : s[0] = c := by subst hs; rfl
  have HX : Hid (∀ W, Calls Tryd.prog 63 #[.string s] W fun e w' => e = .returned (rdV ⟨Rk, Rn, Rs, Rf⟩) ∧ Below W.heap.size W w') := fun W => by rw [hs]; exact hR W
  have T2 := At.new w (Tok 0 0 0 ⟨#[]⟩)
  rw [← hs]
  clear hs hR
  obtain ⟨k, hk⟩ : ∃ k, k = cls c.toNat := ⟨_, rfl⟩
  have HC : Hid (∀ w, Calls Tryd.prog 57 #[.int .u8 (c.toNat : Int)] w fun e w' => e = .returned (.int .u8 (k : Int)) ∧ w' = w) := fun w => by rw [hk]; exact cls_any c.toNat w
  rw [← hk] at h2 h3 h4 h6
  clear hk
  have g2 : ((k : Int) == 2) = false := by simp; omega
  have g3 : ((k : Int) == 3) = false := by simp; omega
  have g4 : ((k : Int) == 4) = false := by simp; omega
  have g6 : ((k : Int) == 6) = false := by simp; omega
  go_enter Tryd.func37, Tryd.ntmps37
  go_wp2_with (first
    | (go_at_call 57; refine (HC.out _).mono ?_; rintro e w' ⟨rfl, rfl⟩)
    | (go_at_call 63; refine (HX.out _).mono ?_; rintro e w1 ⟨rfl, hb1⟩; have T2 := T2.below hb1; obtain ⟨c0, c1, c2, c3, f⟩ := T2.tok))
  have T3 := T2.setTok Rk 0 Rn (str Rs)
  obtain ⟨d0, d1, d2, d3, f'⟩ := T3.tok
  unfold setTok at d0 d1 d2 d3
  refine bodyPost_ret (v := .tuple #[tok Rk 0 Rn (str Rs), .int .i64 (Rf : Int)]) (by simp [results, Tryd.results37, go_sem, d0, d1, d2, d3]) rfl ⟨rfl, ?_⟩
  exact below_setTok (below1 hb1) (Nat.le_refl _) Rk 0 Rn (str Rs)
theorem cls_39 (c : Nat) : cls c = 6 ↔ c = 39 := by
  unfold cls
  repeat' split
  all_goals omega
theorem read_any (w : World) (l : List UInt8) (hl : l.length ≤ maxLen) : Calls Tryd.prog 37 #[.string (str l)] w fun e w' => e = .returned (rdV (rd l)) ∧ Below w.heap.size w w' := by
  cases l with
  | nil => exact read_nil w
  | cons c r =>
    show Calls _ _ _ _ fun e w' => e = .returned (rdV (if isL c.toNat then rdRow 2 isN (c :: r) else if isG c.toNat then rdRow 3 isR (c :: r) else if isD c.toNat then intGo 0 0 (c :: r) else if c.toNat = 39 then rdLife r else rdSign (c :: r))) ∧ Below w.heap.size w w'
    by_cases h2 : cls c.toNat = 2
    · rw [if_pos ((cls_L _).1 h2)]
      exact read_2 w c r _ h2 (fun W => readRow_N W _ hl)
    rw [if_neg (fun h => h2 ((cls_L _).2 h))]
    by_cases h3 : cls c.toNat = 3
    · rw [if_pos ((cls_G _).1 h3)]
      exact read_3 w c r _ h3 (fun W => readRow_R W _ hl)
    rw [if_neg (fun h => h3 ((cls_G _).2 h))]
    by_cases h4 : cls c.toNat = 4
    · rw [if_pos ((cls_D _).1 h4)]
      exact read_4 w c r _ h4 (fun W => readInt_any W _ hl)
    rw [if_neg (fun h => h4 ((cls_D _).2 h))]
    by_cases h6 : cls c.toNat = 6
    · rw [if_pos ((cls_39 _).1 h6)]
      exact read_6 w c r _ h6 (fun W => readLife_any W c r hl)
    rw [if_neg (fun h => h6 ((cls_39 _).2 h))]
    exact read_s w c r _ h2 h3 h4 h6 (fun W => readSign_any W c r)
end Go.Proofs.YtpnamkpoapcgeaaDoor
