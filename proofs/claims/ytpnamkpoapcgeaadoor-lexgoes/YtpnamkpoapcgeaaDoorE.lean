import Derived.Test.YtpnamkpoapcgeaaDoorD
namespace Go.Proofs.YtpnamkpoapcgeaaDoor
open Go.RowKit
set_option linter.unusedVariables false
set_option linter.unusedSimpArgs false

theorem str_ext (l : List UInt8) (a b : Nat) : (str l).extract a b = str ((l.take b).drop a) := by
  apply ByteArray.ext
  rw [ByteArray.data_extract]
  show l.toArray.extract a b = ((l.take b).drop a).toArray
  simp [List.drop_take]
theorem str_take (l : List UInt8) (n : Nat) : (str l).extract 0 n = str (l.take n) := by rw [str_ext]; rfl
theorem clone_any (s : ByteArray) (w : World) (h : s.size ≤ 100000) : Calls Tryd.prog 33 #[.string s] w fun e w' => e = .returned (.string s) ∧ Below w.heap.size w w' := by
  go_enter Tryd.func33, Tryd.ntmps33
  go_wp2_with (go_at_call 55; refine (Tryd.stringslite_Clone s _ (by omega)).mono ?_; rintro e w1 ⟨rfl, hb1⟩)
  go_ret
  exact ⟨rfl, hb1⟩

set_option maxRecDepth 100000 in
set_option maxHeartbeats 2000000 in
theorem readRow_N (w : World) (l : List UInt8) (hl : l.length ≤ maxLen) : Calls Tryd.prog 58 #[.string (str l), .int .u8 2, .func (.func 59) #[] #[]] w fun e w' => e = .returned (rdV (rdRow 2 isN l)) ∧ Below w.heap.size w w' := by
  unfold maxLen at hl
  have T2 := At.new w (Tok 0 0 0 ⟨#[]⟩)
  have hsz : (str l).size = l.length := str_size l
  have HCl : Hid (∀ W (q : List UInt8), q.length ≤ 32 → Calls Tryd.prog 33 #[.string (str q)] W fun e w' => e = .returned (.string (str q)) ∧ Below W.heap.size W w') := fun W q h => clone_any (str q) W (by rw [str_size]; omega)
  have hb0 : Below w.heap.size w (w.alloc (Tok 0 0 0 ⟨#[]⟩)) := (Below.refl _ _).alloc (Nat.le_refl _) _
  go_enter Tryd.func58, Tryd.ntmps58
  go_wp2
  go_loop [8] (fun i => ∃ k : Nat, k ≤ 32 ∧ k ≤ l.length ∧ i = .int .i64 k ∧ Hid (∀ j (h : j < l.length), j < k → isN l[j].toNat = true)) (fun i => 32 - (intOf i).toNat)
  case atStart => exact ⟨0, Nat.zero_le _, Nat.zero_le _, rfl, fun j _ hj => absurd hj (Nat.not_lt_zero _)⟩
  case round =>
    obtain ⟨k, hk, hkl, rfl, hn⟩ := hrel
    have hx : (str l).extract 0 k = str (l.take k) := str_take l k
    by_cases hlt : k < l.length
    · obtain ⟨c, hcl⟩ : ∃ c, c = l[k] := ⟨_, rfl⟩
      have hc : (str l)[k]'(by rw [hsz]; exact hlt) = c := by rw [hcl]; rfl
      have g0 : (0 : Int) ≤ (k : Int) := by omega
      have g1 : (k : Int) < (l.length : Int) := by omega
      by_cases h32 : k < 32
      · have g2 : (k : Int) < 32 := by omega
        cases hp : isN c.toNat
        · have HF : Hid (∀ W, Calls Tryd.prog 59 #[.int .u8 (c.toNat : Int)] W fun e w' => e = .returned (.bool false) ∧ w' = W) := fun W => by have := inName_any c.toNat W; rw [hp] at this; exact this
          have hrl : rowLen isN l = k := rowLen_eq hkl hk hn.out (.inr (.inr ⟨hlt, by rw [← hcl]; exact hp⟩))
          clear hn hp
          have hq : (l.take k).length ≤ 32 := by rw [List.length_take]; omega
          cases hr : isR c.toNat
          · have hra : rowAt l k = false := by rw [rowAt_lt hlt, ← hcl]; exact hr
            have HRr : Hid (∀ W, Calls Tryd.prog 60 #[.int .u8 (c.toNat : Int)] W fun e w' => e = .returned (.bool false) ∧ w' = W) := fun W => by have := inRow_any c.toNat W; rw [hr] at this; exact this
            clear hr hcl
            cases hw : isWl (l.take k)
            · have HR : Hid (rdRow 2 isN l = ⟨2, 0, l.take k, k⟩) := by show _ = _; unfold rdRow; rw [hrl, hra, hw]; rfl
              have HWd : Hid (∀ W, Calls Tryd.prog 82 #[.string (str (l.take k))] W fun e w' => e = .returned (.bool false) ∧ w' = W) := fun W => by have := isWord_any (str (l.take k)) W; rw [isW_str, hw] at this; exact this
              generalize l.take k = q at *
              clear hrl hra hw
              go_wp2_with (first
                | (go_at_call 60; refine (HRr.out _).mono ?_; rintro e w' ⟨rfl, rfl⟩)
                | (go_at_call 59; refine (HF.out _).mono ?_; rintro e w' ⟨rfl, rfl⟩)
                | (go_at_call 33; refine (HCl.out _ q hq).mono ?_; rintro e w1 ⟨rfl, hb1⟩; have T2 := T2.below hb1; obtain ⟨c0, c1, c2, c3, f⟩ := T2.tok)
                | (go_at_call 82; refine (HWd.out _).mono ?_; rintro e w' ⟨rfl, rfl⟩))
              have T3 := T2.setTok 2 0 0 (str q)
              obtain ⟨d0, d1, d2, d3, f'⟩ := T3.tok
              unfold setTok at d0 d1 d2 d3
              refine bodyPost_ret (v := .tuple #[tok 2 0 0 (str q), .int .i64 (k : Int)]) (by simp [results, Tryd.results58, go_sem, d0, d1, d2, d3]) rfl ⟨by rw [HR.out]; rfl, ?_⟩
              exact below_setTok (below1 hb1) (Nat.le_refl _) 2 0 0 (str q)
            · have HR : Hid (rdRow 2 isN l = ⟨1, 0, l.take k, k⟩) := by show _ = _; unfold rdRow; rw [hrl, hra, hw]; rfl
              have HWd : Hid (∀ W, Calls Tryd.prog 82 #[.string (str (l.take k))] W fun e w' => e = .returned (.bool true) ∧ w' = W) := fun W => by have := isWord_any (str (l.take k)) W; rw [isW_str, hw] at this; exact this
              generalize l.take k = q at *
              clear hrl hra hw
              go_wp2_with (first
                | (go_at_call 60; refine (HRr.out _).mono ?_; rintro e w' ⟨rfl, rfl⟩)
                | (go_at_call 59; refine (HF.out _).mono ?_; rintro e w' ⟨rfl, rfl⟩)
                | (go_at_call 33; refine (HCl.out _ q hq).mono ?_; rintro e w1 ⟨rfl, hb1⟩; have T2 := T2.below hb1; obtain ⟨c0, c1, c2, c3, f⟩ := T2.tok)
                | (go_at_call 82; refine (HWd.out _).mono ?_; rintro e w' ⟨rfl, rfl⟩))
              have T3 := T2.setTok 1 0 0 (str q)
              obtain ⟨d0, d1, d2, d3, f'⟩ := T3.tok
              unfold setTok at d0 d1 d2 d3
              refine bodyPost_ret (v := .tuple #[tok 1 0 0 (str q), .int .i64 (k : Int)]) (by simp [results, Tryd.results58, go_sem, d0, d1, d2, d3]) rfl ⟨by rw [HR.out]; rfl, ?_⟩
              exact below_setTok (below1 hb1) (Nat.le_refl _) 1 0 0 (str q)
          · have hra : rowAt l k = true := by rw [rowAt_lt hlt, ← hcl]; exact hr
            have HRr : Hid (∀ W, Calls Tryd.prog 60 #[.int .u8 (c.toNat : Int)] W fun e w' => e = .returned (.bool true) ∧ w' = W) := fun W => by have := inRow_any c.toNat W; rw [hr] at this; exact this
            have HR : Hid (rdRow 2 isN l = ⟨0, 0, [], k⟩) := by show _ = _; unfold rdRow; rw [hrl, hra]; rfl
            clear hrl hra hr hcl hx
            obtain ⟨c0, c1, c2, c3, f⟩ := T2.tok
            go_wp2_with (first
              | (go_at_call 60; refine (HRr.out _).mono ?_; rintro e w' ⟨rfl, rfl⟩)
              | (go_at_call 59; refine (HF.out _).mono ?_; rintro e w' ⟨rfl, rfl⟩))
            have T3 := T2.setTok 0 0 0 ⟨#[]⟩
            obtain ⟨d0, d1, d2, d3, f'⟩ := T3.tok
            unfold setTok at d0 d1 d2 d3
            refine bodyPost_ret (v := .tuple #[tok 0 0 0 ⟨#[]⟩, .int .i64 (k : Int)]) (by simp [results, Tryd.results58, go_sem, d0, d1, d2, d3]) rfl ⟨by rw [HR.out]; rfl, ?_⟩
            exact hb0
        · have HF : Hid (∀ W, Calls Tryd.prog 59 #[.int .u8 (c.toNat : Int)] W fun e w' => e = .returned (.bool true) ∧ w' = W) := fun W => by have := inName_any c.toNat W; rw [hp] at this; exact this
          have HN : Hid (∀ j (h : j < l.length), j < k + 1 → isN l[j].toNat = true) := fun j h hj => by
            rcases Nat.lt_or_ge j k with h' | h'
            · exact hn.out j h h'
            · obtain rfl : j = k := by omega
              rw [← hcl]; exact hp
          clear hn hp hcl hx
          go_wp2_with (go_at_call 59; refine (HF.out _).mono ?_; rintro e w' ⟨rfl, rfl⟩)
          go_round
          case rel => exact ⟨k + 1, by omega, by omega, by go_num, HN⟩
          case measure => simp [intOf]; omega
      · have h32' : k = 32 := by omega
        have hrl : rowLen isN l = k := rowLen_eq hkl hk hn.out (.inr (.inl h32'))
        have g2 : ¬ (k : Int) < 32 := by omega
        have HF : Hid (∀ W, Calls Tryd.prog 59 #[.int .u8 (c.toNat : Int)] W fun e w' => e = .returned (.bool (isN c.toNat)) ∧ w' = W) := fun W => inName_any c.toNat W
        clear hn h32'
        have hq : (l.take k).length ≤ 32 := by rw [List.length_take]; omega
        cases hr : isR c.toNat
        · have hra : rowAt l k = false := by rw [rowAt_lt hlt, ← hcl]; exact hr
          have HRr : Hid (∀ W, Calls Tryd.prog 60 #[.int .u8 (c.toNat : Int)] W fun e w' => e = .returned (.bool false) ∧ w' = W) := fun W => by have := inRow_any c.toNat W; rw [hr] at this; exact this
          clear hr hcl
          cases hw : isWl (l.take k)
          · have HR : Hid (rdRow 2 isN l = ⟨2, 0, l.take k, k⟩) := by show _ = _; unfold rdRow; rw [hrl, hra, hw]; rfl
            have HWd : Hid (∀ W, Calls Tryd.prog 82 #[.string (str (l.take k))] W fun e w' => e = .returned (.bool false) ∧ w' = W) := fun W => by have := isWord_any (str (l.take k)) W; rw [isW_str, hw] at this; exact this
            generalize l.take k = q at *
            clear hrl hra hw
            go_wp2_with (first
              | (go_at_call 60; refine (HRr.out _).mono ?_; rintro e w' ⟨rfl, rfl⟩)
              | (go_at_call 59; refine (HF.out _).mono ?_; rintro e w' ⟨rfl, rfl⟩)
              | (go_at_call 33; refine (HCl.out _ q hq).mono ?_; rintro e w1 ⟨rfl, hb1⟩; have T2 := T2.below hb1; obtain ⟨c0, c1, c2, c3, f⟩ := T2.tok)
              | (go_at_call 82; refine (HWd.out _).mono ?_; rintro e w' ⟨rfl, rfl⟩))
            have T3 := T2.setTok 2 0 0 (str q)
            obtain ⟨d0, d1, d2, d3, f'⟩ := T3.tok
            unfold setTok at d0 d1 d2 d3
            refine bodyPost_ret (v := .tuple #[tok 2 0 0 (str q), .int .i64 (k : Int)]) (by simp [results, Tryd.results58, go_sem, d0, d1, d2, d3]) rfl ⟨by rw [HR.out]; rfl, ?_⟩
            exact below_setTok (below1 hb1) (Nat.le_refl _) 2 0 0 (str q)
          · have HR : Hid (rdRow 2 isN l = ⟨1, 0, l.take k, k⟩) := by show _ = _; unfold rdRow; rw [hrl, hra, hw]; rfl
            have HWd : Hid (∀ W, Calls Tryd.prog 82 #[.string (str (l.take k))] W fun e w' => e = .returned (.bool true) ∧ w' = W) := fun W => by have := isWord_any (str (l.take k)) W; rw [isW_str, hw] at this; exact this
            generalize l.take k = q at *
            clear hrl hra hw
            go_wp2_with (first
              | (go_at_call 60; refine (HRr.out _).mono ?_; rintro e w' ⟨rfl, rfl⟩)
              | (go_at_call 59; refine (HF.out _).mono ?_; rintro e w' ⟨rfl, rfl⟩)
              | (go_at_call 33; refine (HCl.out _ q hq).mono ?_; rintro e w1 ⟨rfl, hb1⟩; have T2 := T2.below hb1; obtain ⟨c0, c1, c2, c3, f⟩ := T2.tok)
              | (go_at_call 82; refine (HWd.out _).mono ?_; rintro e w' ⟨rfl, rfl⟩))
            have T3 := T2.setTok 1 0 0 (str q)
            obtain ⟨d0, d1, d2, d3, f'⟩ := T3.tok
            unfold setTok at d0 d1 d2 d3
            refine bodyPost_ret (v := .tuple #[tok 1 0 0 (str q), .int .i64 (k : Int)]) (by simp [results, Tryd.results58, go_sem, d0, d1, d2, d3]) rfl ⟨by rw [HR.out]; rfl, ?_⟩
            exact below_setTok (below1 hb1) (Nat.le_refl _) 1 0 0 (str q)
        · have hra : rowAt l k = true := by rw [rowAt_lt hlt, ← hcl]; exact hr
          have HRr : Hid (∀ W, Calls Tryd.prog 60 #[.int .u8 (c.toNat : Int)] W fun e w' => e = .returned (.bool true) ∧ w' = W) := fun W => by have := inRow_any c.toNat W; rw [hr] at this; exact this
          have HR : Hid (rdRow 2 isN l = ⟨0, 0, [], k⟩) := by show _ = _; unfold rdRow; rw [hrl, hra]; rfl
          clear hrl hra hr hcl hx
          obtain ⟨c0, c1, c2, c3, f⟩ := T2.tok
          go_wp2_with (first
            | (go_at_call 60; refine (HRr.out _).mono ?_; rintro e w' ⟨rfl, rfl⟩)
            | (go_at_call 59; refine (HF.out _).mono ?_; rintro e w' ⟨rfl, rfl⟩))
          have T3 := T2.setTok 0 0 0 ⟨#[]⟩
          obtain ⟨d0, d1, d2, d3, f'⟩ := T3.tok
          unfold setTok at d0 d1 d2 d3
          refine bodyPost_ret (v := .tuple #[tok 0 0 0 ⟨#[]⟩, .int .i64 (k : Int)]) (by simp [results, Tryd.results58, go_sem, d0, d1, d2, d3]) rfl ⟨by rw [HR.out]; rfl, ?_⟩
          exact hb0
    · have hke : k = l.length := by omega
      have hrl : rowLen isN l = k := rowLen_eq hkl hk hn.out (.inl hke)
      have hra : rowAt l k = false := rowAt_ge (by omega)
      have g1 : ¬ (k : Int) < (l.length : Int) := by omega
      have hq : (l.take k).length ≤ 32 := by rw [List.length_take]; omega
      have HF : Hid (∀ W, Calls Tryd.prog 60 #[.int .u8 0] W fun e w' => e = .returned (.bool (isR 0)) ∧ w' = W) := fun W => inRow_any 0 W
      have HRr := HF
      clear hn hke
      cases hw : isWl (l.take k)
      · have HR : Hid (rdRow 2 isN l = ⟨2, 0, l.take k, k⟩) := by show _ = _; unfold rdRow; rw [hrl, hra, hw]; rfl
        have HWd : Hid (∀ W, Calls Tryd.prog 82 #[.string (str (l.take k))] W fun e w' => e = .returned (.bool false) ∧ w' = W) := fun W => by have := isWord_any (str (l.take k)) W; rw [isW_str, hw] at this; exact this
        generalize l.take k = q at *
        clear hrl hra hw
        go_wp2_with (first
          | (go_at_call 60; refine (HRr.out _).mono ?_; rintro e w' ⟨rfl, rfl⟩)
          | (go_at_call 59; refine (HF.out _).mono ?_; rintro e w' ⟨rfl, rfl⟩)
          | (go_at_call 33; refine (HCl.out _ q hq).mono ?_; rintro e w1 ⟨rfl, hb1⟩; have T2 := T2.below hb1; obtain ⟨c0, c1, c2, c3, f⟩ := T2.tok)
          | (go_at_call 82; refine (HWd.out _).mono ?_; rintro e w' ⟨rfl, rfl⟩))
        have T3 := T2.setTok 2 0 0 (str q)
        obtain ⟨d0, d1, d2, d3, f'⟩ := T3.tok
        unfold setTok at d0 d1 d2 d3
        refine bodyPost_ret (v := .tuple #[tok 2 0 0 (str q), .int .i64 (k : Int)]) (by simp [results, Tryd.results58, go_sem, d0, d1, d2, d3]) rfl ⟨by rw [HR.out]; rfl, ?_⟩
        exact below_setTok (below1 hb1) (Nat.le_refl _) 2 0 0 (str q)
      · have HR : Hid (rdRow 2 isN l = ⟨1, 0, l.take k, k⟩) := by show _ = _; unfold rdRow; rw [hrl, hra, hw]; rfl
        have HWd : Hid (∀ W, Calls Tryd.prog 82 #[.string (str (l.take k))] W fun e w' => e = .returned (.bool true) ∧ w' = W) := fun W => by have := isWord_any (str (l.take k)) W; rw [isW_str, hw] at this; exact this
        generalize l.take k = q at *
        clear hrl hra hw
        go_wp2_with (first
          | (go_at_call 60; refine (HRr.out _).mono ?_; rintro e w' ⟨rfl, rfl⟩)
          | (go_at_call 59; refine (HF.out _).mono ?_; rintro e w' ⟨rfl, rfl⟩)
          | (go_at_call 33; refine (HCl.out _ q hq).mono ?_; rintro e w1 ⟨rfl, hb1⟩; have T2 := T2.below hb1; obtain ⟨c0, c1, c2, c3, f⟩ := T2.tok)
          | (go_at_call 82; refine (HWd.out _).mono ?_; rintro e w' ⟨rfl, rfl⟩))
        have T3 := T2.setTok 1 0 0 (str q)
        obtain ⟨d0, d1, d2, d3, f'⟩ := T3.tok
        unfold setTok at d0 d1 d2 d3
        refine bodyPost_ret (v := .tuple #[tok 1 0 0 (str q), .int .i64 (k : Int)]) (by simp [results, Tryd.results58, go_sem, d0, d1, d2, d3]) rfl ⟨by rw [HR.out]; rfl, ?_⟩
        exact below_setTok (below1 hb1) (Nat.le_refl _) 1 0 0 (str q)

set_option maxRecDepth 100000 in
set_option maxHeartbeats 2000000 in
theorem readRow_R (w : World) (l : List UInt8) (hl : l.length ≤ maxLen) : Calls Tryd.prog 58 #[.string (str l), .int .u8 3, .func (.func 60) #[] #[]] w fun e w' => e = .returned (rdV (rdRow 3 isR l)) ∧ Below w.heap.size w w' := by
  unfold maxLen at hl
  have T2 := At.new w (Tok 0 0 0 ⟨#[]⟩)
  have hsz : (str l).size = l.length := str_size l
  have HCl : Hid (∀ W (q : List UInt8), q.length ≤ 32 → Calls Tryd.prog 33 #[.string (str q)] W fun e w' => e = .returned (.string (str q)) ∧ Below W.heap.size W w') := fun W q h => clone_any (str q) W (by rw [str_size]; omega)
  have hb0 : Below w.heap.size w (w.alloc (Tok 0 0 0 ⟨#[]⟩)) := (Below.refl _ _).alloc (Nat.le_refl _) _
  go_enter Tryd.func58, Tryd.ntmps58
  go_wp2
  go_loop [8] (fun i => ∃ k : Nat, k ≤ 32 ∧ k ≤ l.length ∧ i = .int .i64 k ∧ Hid (∀ j (h : j < l.length), j < k → isR l[j].toNat = true)) (fun i => 32 - (intOf i).toNat)
  case atStart => exact ⟨0, Nat.zero_le _, Nat.zero_le _, rfl, fun j _ hj => absurd hj (Nat.not_lt_zero _)⟩
  case round =>
    obtain ⟨k, hk, hkl, rfl, hn⟩ := hrel
    have hx : (str l).extract 0 k = str (l.take k) := str_take l k
    by_cases hlt : k < l.length
    · obtain ⟨c, hcl⟩ : ∃ c, c = l[k] := ⟨_, rfl⟩
      have hc : (str l)[k]'(by rw [hsz]; exact hlt) = c := by rw [hcl]; rfl
      have g0 : (0 : Int) ≤ (k : Int) := by omega
      have g1 : (k : Int) < (l.length : Int) := by omega
      by_cases h32 : k < 32
      · have g2 : (k : Int) < 32 := by omega
        cases hp : isR c.toNat
        · have HF : Hid (∀ W, Calls Tryd.prog 60 #[.int .u8 (c.toNat : Int)] W fun e w' => e = .returned (.bool false) ∧ w' = W) := fun W => by have := inRow_any c.toNat W; rw [hp] at this; exact this
          have hrl : rowLen isR l = k := rowLen_eq hkl hk hn.out (.inr (.inr ⟨hlt, by rw [← hcl]; exact hp⟩))
          have hr : isR c.toNat = false := hp
          clear hn hp
          have hq : (l.take k).length ≤ 32 := by rw [List.length_take]; omega
          have hra : rowAt l k = false := by rw [rowAt_lt hlt, ← hcl]; exact hr
          have HRr : Hid (∀ W, Calls Tryd.prog 60 #[.int .u8 (c.toNat : Int)] W fun e w' => e = .returned (.bool false) ∧ w' = W) := fun W => by have := inRow_any c.toNat W; rw [hr] at this; exact this
          clear hr hcl
          cases hw : isWl (l.take k)
          · have HR : Hid (rdRow 3 isR l = ⟨3, 0, l.take k, k⟩) := by show _ = _; unfold rdRow; rw [hrl, hra, hw]; rfl
            have HWd : Hid (∀ W, Calls Tryd.prog 82 #[.string (str (l.take k))] W fun e w' => e = .returned (.bool false) ∧ w' = W) := fun W => by have := isWord_any (str (l.take k)) W; rw [isW_str, hw] at this; exact this
            generalize l.take k = q at *
            clear hrl hra hw
            go_wp2_with (first
              | (go_at_call 60; refine (HRr.out _).mono ?_; rintro e w' ⟨rfl, rfl⟩)
              | (go_at_call 60; refine (HF.out _).mono ?_; rintro e w' ⟨rfl, rfl⟩)
              | (go_at_call 33; refine (HCl.out _ q hq).mono ?_; rintro e w1 ⟨rfl, hb1⟩; have T2 := T2.below hb1; obtain ⟨c0, c1, c2, c3, f⟩ := T2.tok)
              | (go_at_call 82; refine (HWd.out _).mono ?_; rintro e w' ⟨rfl, rfl⟩))
            have T3 := T2.setTok 3 0 0 (str q)
            obtain ⟨d0, d1, d2, d3, f'⟩ := T3.tok
            unfold setTok at d0 d1 d2 d3
            refine bodyPost_ret (v := .tuple #[tok 3 0 0 (str q), .int .i64 (k : Int)]) (by simp [results, Tryd.results58, go_sem, d0, d1, d2, d3]) rfl ⟨by rw [HR.out]; rfl, ?_⟩
            exact below_setTok (below1 hb1) (Nat.le_refl _) 3 0 0 (str q)
          · have HR : Hid (rdRow 3 isR l = ⟨1, 0, l.take k, k⟩) := by show _ = _; unfold rdRow; rw [hrl, hra, hw]; rfl
            have HWd : Hid (∀ W, Calls Tryd.prog 82 #[.string (str (l.take k))] W fun e w' => e = .returned (.bool true) ∧ w' = W) := fun W => by have := isWord_any (str (l.take k)) W; rw [isW_str, hw] at this; exact this
            generalize l.take k = q at *
            clear hrl hra hw
            go_wp2_with (first
              | (go_at_call 60; refine (HRr.out _).mono ?_; rintro e w' ⟨rfl, rfl⟩)
              | (go_at_call 60; refine (HF.out _).mono ?_; rintro e w' ⟨rfl, rfl⟩)
              | (go_at_call 33; refine (HCl.out _ q hq).mono ?_; rintro e w1 ⟨rfl, hb1⟩; have T2 := T2.below hb1; obtain ⟨c0, c1, c2, c3, f⟩ := T2.tok)
              | (go_at_call 82; refine (HWd.out _).mono ?_; rintro e w' ⟨rfl, rfl⟩))
            have T3 := T2.setTok 1 0 0 (str q)
            obtain ⟨d0, d1, d2, d3, f'⟩ := T3.tok
            unfold setTok at d0 d1 d2 d3
            refine bodyPost_ret (v := .tuple #[tok 1 0 0 (str q), .int .i64 (k : Int)]) (by simp [results, Tryd.results58, go_sem, d0, d1, d2, d3]) rfl ⟨by rw [HR.out]; rfl, ?_⟩
            exact below_setTok (below1 hb1) (Nat.le_refl _) 1 0 0 (str q)
        · have HF : Hid (∀ W, Calls Tryd.prog 60 #[.int .u8 (c.toNat : Int)] W fun e w' => e = .returned (.bool true) ∧ w' = W) := fun W => by have := inRow_any c.toNat W; rw [hp] at this; exact this
          have HN : Hid (∀ j (h : j < l.length), j < k + 1 → isR l[j].toNat = true) := fun j h hj => by
            rcases Nat.lt_or_ge j k with h' | h'
            · exact hn.out j h h'
            · obtain rfl : j = k := by omega
              rw [← hcl]; exact hp
          clear hn hp hcl hx
          go_wp2_with (go_at_call 60; refine (HF.out _).mono ?_; rintro e w' ⟨rfl, rfl⟩)
          go_round
          case rel => exact ⟨k + 1, by omega, by omega, by go_num, HN⟩
          case measure => simp [intOf]; omega
      · have h32' : k = 32 := by omega
        have hrl : rowLen isR l = k := rowLen_eq hkl hk hn.out (.inr (.inl h32'))
        have g2 : ¬ (k : Int) < 32 := by omega
        have HF : Hid (∀ W, Calls Tryd.prog 60 #[.int .u8 (c.toNat : Int)] W fun e w' => e = .returned (.bool (isR c.toNat)) ∧ w' = W) := fun W => inRow_any c.toNat W
        clear hn h32'
        have hq : (l.take k).length ≤ 32 := by rw [List.length_take]; omega
        cases hr : isR c.toNat
        · have hra : rowAt l k = false := by rw [rowAt_lt hlt, ← hcl]; exact hr
          have HRr : Hid (∀ W, Calls Tryd.prog 60 #[.int .u8 (c.toNat : Int)] W fun e w' => e = .returned (.bool false) ∧ w' = W) := fun W => by have := inRow_any c.toNat W; rw [hr] at this; exact this
          clear hr hcl
          cases hw : isWl (l.take k)
          · have HR : Hid (rdRow 3 isR l = ⟨3, 0, l.take k, k⟩) := by show _ = _; unfold rdRow; rw [hrl, hra, hw]; rfl
            have HWd : Hid (∀ W, Calls Tryd.prog 82 #[.string (str (l.take k))] W fun e w' => e = .returned (.bool false) ∧ w' = W) := fun W => by have := isWord_any (str (l.take k)) W; rw [isW_str, hw] at this; exact this
            generalize l.take k = q at *
            clear hrl hra hw
            go_wp2_with (first
              | (go_at_call 60; refine (HRr.out _).mono ?_; rintro e w' ⟨rfl, rfl⟩)
              | (go_at_call 60; refine (HF.out _).mono ?_; rintro e w' ⟨rfl, rfl⟩)
              | (go_at_call 33; refine (HCl.out _ q hq).mono ?_; rintro e w1 ⟨rfl, hb1⟩; have T2 := T2.below hb1; obtain ⟨c0, c1, c2, c3, f⟩ := T2.tok)
              | (go_at_call 82; refine (HWd.out _).mono ?_; rintro e w' ⟨rfl, rfl⟩))
            have T3 := T2.setTok 3 0 0 (str q)
            obtain ⟨d0, d1, d2, d3, f'⟩ := T3.tok
            unfold setTok at d0 d1 d2 d3
            refine bodyPost_ret (v := .tuple #[tok 3 0 0 (str q), .int .i64 (k : Int)]) (by simp [results, Tryd.results58, go_sem, d0, d1, d2, d3]) rfl ⟨by rw [HR.out]; rfl, ?_⟩
            exact below_setTok (below1 hb1) (Nat.le_refl _) 3 0 0 (str q)
          · have HR : Hid (rdRow 3 isR l = ⟨1, 0, l.take k, k⟩) := by show _ = _; unfold rdRow; rw [hrl, hra, hw]; rfl
            have HWd : Hid (∀ W, Calls Tryd.prog 82 #[.string (str (l.take k))] W fun e w' => e = .returned (.bool true) ∧ w' = W) := fun W => by have := isWord_any (str (l.take k)) W; rw [isW_str, hw] at this; exact this
            generalize l.take k = q at *
            clear hrl hra hw
            go_wp2_with (first
              | (go_at_call 60; refine (HRr.out _).mono ?_; rintro e w' ⟨rfl, rfl⟩)
              | (go_at_call 60; refine (HF.out _).mono ?_; rintro e w' ⟨rfl, rfl⟩)
              | (go_at_call 33; refine (HCl.out _ q hq).mono ?_; rintro e w1 ⟨rfl, hb1⟩; have T2 := T2.below hb1; obtain ⟨c0, c1, c2, c3, f⟩ := T2.tok)
              | (go_at_call 82; refine (HWd.out _).mono ?_; rintro e w' ⟨rfl, rfl⟩))
            have T3 := T2.setTok 1 0 0 (str q)
            obtain ⟨d0, d1, d2, d3, f'⟩ := T3.tok
            unfold setTok at d0 d1 d2 d3
            refine bodyPost_ret (v := .tuple #[tok 1 0 0 (str q), .int .i64 (k : Int)]) (by simp [results, Tryd.results58, go_sem, d0, d1, d2, d3]) rfl ⟨by rw [HR.out]; rfl, ?_⟩
            exact below_setTok (below1 hb1) (Nat.le_refl _) 1 0 0 (str q)
        · have hra : rowAt l k = true := by rw [rowAt_lt hlt, ← hcl]; exact hr
          have HRr : Hid (∀ W, Calls Tryd.prog 60 #[.int .u8 (c.toNat : Int)] W fun e w' => e = .returned (.bool true) ∧ w' = W) := fun W => by have := inRow_any c.toNat W; rw [hr] at this; exact this
          have HR : Hid (rdRow 3 isR l = ⟨0, 0, [], k⟩) := by show _ = _; unfold rdRow; rw [hrl, hra]; rfl
          clear hrl hra hr hcl hx
          obtain ⟨c0, c1, c2, c3, f⟩ := T2.tok
          go_wp2_with (first
            | (go_at_call 60; refine (HRr.out _).mono ?_; rintro e w' ⟨rfl, rfl⟩)
            | (go_at_call 60; refine (HF.out _).mono ?_; rintro e w' ⟨rfl, rfl⟩))
          have T3 := T2.setTok 0 0 0 ⟨#[]⟩
          obtain ⟨d0, d1, d2, d3, f'⟩ := T3.tok
          unfold setTok at d0 d1 d2 d3
          refine bodyPost_ret (v := .tuple #[tok 0 0 0 ⟨#[]⟩, .int .i64 (k : Int)]) (by simp [results, Tryd.results58, go_sem, d0, d1, d2, d3]) rfl ⟨by rw [HR.out]; rfl, ?_⟩
          exact hb0
    · have hke : k = l.length := by omega
      have hrl : rowLen isR l = k := rowLen_eq hkl hk hn.out (.inl hke)
      have hra : rowAt l k = false := rowAt_ge (by omega)
      have g1 : ¬ (k : Int) < (l.length : Int) := by omega
      have hq : (l.take k).length ≤ 32 := by rw [List.length_take]; omega
      have HF : Hid (∀ W, Calls Tryd.prog 60 #[.int .u8 0] W fun e w' => e = .returned (.bool (isR 0)) ∧ w' = W) := fun W => inRow_any 0 W
      have HRr := HF
      clear hn hke
      cases hw : isWl (l.take k)
      · have HR : Hid (rdRow 3 isR l = ⟨3, 0, l.take k, k⟩) := by show _ = _; unfold rdRow; rw [hrl, hra, hw]; rfl
        have HWd : Hid (∀ W, Calls Tryd.prog 82 #[.string (str (l.take k))] W fun e w' => e = .returned (.bool false) ∧ w' = W) := fun W => by have := isWord_any (str (l.take k)) W; rw [isW_str, hw] at this; exact this
        generalize l.take k = q at *
        clear hrl hra hw
        go_wp2_with (first
          | (go_at_call 60; refine (HRr.out _).mono ?_; rintro e w' ⟨rfl, rfl⟩)
          | (go_at_call 60; refine (HF.out _).mono ?_; rintro e w' ⟨rfl, rfl⟩)
          | (go_at_call 33; refine (HCl.out _ q hq).mono ?_; rintro e w1 ⟨rfl, hb1⟩; have T2 := T2.below hb1; obtain ⟨c0, c1, c2, c3, f⟩ := T2.tok)
          | (go_at_call 82; refine (HWd.out _).mono ?_; rintro e w' ⟨rfl, rfl⟩))
        have T3 := T2.setTok 3 0 0 (str q)
        obtain ⟨d0, d1, d2, d3, f'⟩ := T3.tok
        unfold setTok at d0 d1 d2 d3
        refine bodyPost_ret (v := .tuple #[tok 3 0 0 (str q), .int .i64 (k : Int)]) (by simp [results, Tryd.results58, go_sem, d0, d1, d2, d3]) rfl ⟨by rw [HR.out]; rfl, ?_⟩
        exact below_setTok (below1 hb1) (Nat.le_refl _) 3 0 0 (str q)
      · have HR : Hid (rdRow 3 isR l = ⟨1, 0, l.take k, k⟩) := by show _ = _; unfold rdRow; rw [hrl, hra, hw]; rfl
        have HWd : Hid (∀ W, Calls Tryd.prog 82 #[.string (str (l.take k))] W fun e w' => e = .returned (.bool true) ∧ w' = W) := fun W => by have := isWord_any (str (l.take k)) W; rw [isW_str, hw] at this; exact this
        generalize l.take k = q at *
        clear hrl hra hw
        go_wp2_with (first
          | (go_at_call 60; refine (HRr.out _).mono ?_; rintro e w' ⟨rfl, rfl⟩)
          | (go_at_call 60; refine (HF.out _).mono ?_; rintro e w' ⟨rfl, rfl⟩)
          | (go_at_call 33; refine (HCl.out _ q hq).mono ?_; rintro e w1 ⟨rfl, hb1⟩; have T2 := T2.below hb1; obtain ⟨c0, c1, c2, c3, f⟩ := T2.tok)
          | (go_at_call 82; refine (HWd.out _).mono ?_; rintro e w' ⟨rfl, rfl⟩))
        have T3 := T2.setTok 1 0 0 (str q)
        obtain ⟨d0, d1, d2, d3, f'⟩ := T3.tok
        unfold setTok at d0 d1 d2 d3
        refine bodyPost_ret (v := .tuple #[tok 1 0 0 (str q), .int .i64 (k : Int)]) (by simp [results, Tryd.results58, go_sem, d0, d1, d2, d3]) rfl ⟨by rw [HR.out]; rfl, ?_⟩
        exact below_setTok (below1 hb1) (Nat.le_refl _) 1 0 0 (str q)
end Go.Proofs.YtpnamkpoapcgeaaDoor
