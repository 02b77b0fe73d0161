import Derived.Test.YtpnamkpoapcgeaaDoorE
namespace Go.Proofs.YtpnamkpoapcgeaaDoor
open Go.RowKit
set_option linter.unusedVariables false
set_option linter.unusedSimpArgs false

theorem wdig_le {v c r : Nat} (h : wdig v c = some r) : r ≤ 9223372036854775807 := by
  unfold wdig at h
  split at h
  · rename_i hh; cases h; exact hh.2
  · cases h
theorem intGo_end {v n : Nat} {l : List UInt8} (h : rowAt l 0 = false) : intGo v n l = ⟨5, v, [], n⟩ := by
  cases l with
  | nil => rfl
  | cons c r =>
    have : isR c.toNat = false := by simpa [rowAt] using h
    simp [intGo, this]
theorem intGo_zero {n : Nat} {c : UInt8} {r : List UInt8} (h : isR c.toNat = true) (hn : 0 < n) : intGo 0 n (c :: r) = ⟨0, 0, [], n⟩ := by simp [intGo, h, hn]
theorem intGo_none {v n : Nat} {c : UInt8} {r : List UInt8} (h : isR c.toNat = true) (hd : wdig v c.toNat = none) : intGo v n (c :: r) = ⟨0, 0, [], n⟩ := by
  simp only [intGo, h, if_true, hd]
  split <;> rfl
theorem intGo_some {v v' n : Nat} {c : UInt8} {r : List UInt8} (h : isR c.toNat = true) (hz : ¬ (0 < n ∧ v = 0)) (hd : wdig v c.toNat = some v') : intGo v n (c :: r) = intGo v' (n + 1) r := by
  simp only [intGo, h, if_true, hd, if_neg hz]
set_option maxRecDepth 100000 in
set_option maxHeartbeats 2000000 in
theorem readInt_any (w : World) (l : List UInt8) (hl : l.length ≤ maxLen) : Calls Tryd.prog 61 #[.string (str l)] w fun e w' => e = .returned (rdV (intGo 0 0 l)) ∧ Below w.heap.size w w' := by
  unfold maxLen at hl
  have T2 := At.new w (Tok 0 0 0 ⟨#[]⟩)
  have hsz : (str l).size = l.length := str_size l
  have hb0 : Below w.heap.size w (w.alloc (Tok 0 0 0 ⟨#[]⟩)) := (Below.refl _ _).alloc (Nat.le_refl _) _
  go_enter Tryd.func61, Tryd.ntmps61
  go_wp2
  go_loop [4, 5] (fun x i => ∃ v k : Nat, v ≤ 9223372036854775807 ∧ k ≤ l.length ∧ x = .int .i64 v ∧ i = .int .i64 k ∧ Hid (intGo 0 0 l = intGo v k (l.drop k))) (fun _ i => l.length - (intOf i).toNat)
  case atStart => exact ⟨0, 0, by omega, Nat.zero_le _, rfl, rfl, rfl⟩
  case round =>
    obtain ⟨v, k, hv, hkl, rfl, rfl, hinv⟩ := hrel
    by_cases hlt : k < l.length
    · obtain ⟨c, hcl⟩ : ∃ c, c = l[k] := ⟨_, rfl⟩
      have hc : (str l)[k]'(by rw [hsz]; exact hlt) = c := by rw [hcl]; rfl
      have hdr : l.drop k = c :: l.drop (k + 1) := by rw [hcl]; exact List.drop_eq_getElem_cons hlt
      have g0 : (0 : Int) ≤ (k : Int) := by omega
      have g1 : (k : Int) < (l.length : Int) := by omega
      cases hr : isR c.toNat
      · have HRr : Hid (∀ W, Calls Tryd.prog 60 #[.int .u8 (c.toNat : Int)] W fun e w' => e = .returned (.bool false) ∧ w' = W) := fun W => by have := inRow_any c.toNat W; rw [hr] at this; exact this
        replace hinv : Hid (intGo 0 0 l = ⟨5, v, [], k⟩) := hinv.out.trans (intGo_end (by rw [hdr]; simpa [rowAt] using hr))
        clear hr hdr hcl
        obtain ⟨c0, c1, c2, c3, f⟩ := T2.tok
        go_wp2_with (go_at_call 60; refine (HRr.out _).mono ?_; rintro e w' ⟨rfl, rfl⟩)
        have T3 := T2.setTok 5 0 v ⟨#[]⟩
        obtain ⟨d0, d1, d2, d3, f'⟩ := T3.tok
        unfold setTok at d0 d1 d2 d3
        refine bodyPost_ret (v := .tuple #[tok 5 0 v ⟨#[]⟩, .int .i64 (k : Int)]) (by simp [results, Tryd.results61, go_sem, d0, d1, d2, d3]) rfl ⟨by rw [hinv.out]; rfl, ?_⟩
        exact (Below.refl _ _).alloc (Nat.le_refl _) _
      · have HRr : Hid (∀ W, Calls Tryd.prog 60 #[.int .u8 (c.toNat : Int)] W fun e w' => e = .returned (.bool true) ∧ w' = W) := fun W => by have := inRow_any c.toNat W; rw [hr] at this; exact this
        cases hd : wdig v c.toNat with
        | none =>
          have HD : Hid (∀ W, Calls Tryd.prog 83 #[.int .i64 (v : Int), .int .u8 (c.toNat : Int)] W fun e w' => e = .returned (.tuple #[.int .i64 0, .bool false]) ∧ w' = W) := fun W => withDigit_none v c.toNat W hv hd
          replace hinv : Hid (intGo 0 0 l = ⟨0, 0, [], k⟩) := hinv.out.trans (by rw [hdr]; exact intGo_none hr hd)
          clear hr hdr hcl hd
          by_cases hk0 : 0 < k
          · have g2 : (0 : Int) < (k : Int) := by omega
            by_cases hv0 : v = 0
            · subst hv0
              obtain ⟨c0, c1, c2, c3, f⟩ := T2.tok
              go_wp2_with (first
                | (go_at_call 60; refine (HRr.out _).mono ?_; rintro e w' ⟨rfl, rfl⟩)
                | (go_at_call 83; refine (HD.out _).mono ?_; rintro e w' ⟨rfl, rfl⟩))
              have T3 := T2.setTok 0 0 0 ⟨#[]⟩
              obtain ⟨d0, d1, d2, d3, f'⟩ := T3.tok
              refine bodyPost_ret (v := .tuple #[tok 0 0 0 ⟨#[]⟩, .int .i64 (k : Int)]) (by simp [results, Tryd.results61, go_sem, c0, c1, c2, c3]) rfl ⟨by rw [hinv.out]; rfl, ?_⟩
              exact hb0
            · have g3 : ((v : Int) == 0) = false := by simp; omega
              obtain ⟨c0, c1, c2, c3, f⟩ := T2.tok
              go_wp2_with (first
                | (go_at_call 60; refine (HRr.out _).mono ?_; rintro e w' ⟨rfl, rfl⟩)
                | (go_at_call 83; refine (HD.out _).mono ?_; rintro e w' ⟨rfl, rfl⟩))
              have T3 := T2.setTok 0 0 0 ⟨#[]⟩
              obtain ⟨d0, d1, d2, d3, f'⟩ := T3.tok
              refine bodyPost_ret (v := .tuple #[tok 0 0 0 ⟨#[]⟩, .int .i64 (k : Int)]) (by simp [results, Tryd.results61, go_sem, c0, c1, c2, c3]) rfl ⟨by rw [hinv.out]; rfl, ?_⟩
              exact hb0
          · obtain rfl : k = 0 := by omega
            obtain ⟨c0, c1, c2, c3, f⟩ := T2.tok
            go_wp2_with (first
              | (go_at_call 60; refine (HRr.out _).mono ?_; rintro e w' ⟨rfl, rfl⟩)
              | (go_at_call 83; refine (HD.out _).mono ?_; rintro e w' ⟨rfl, rfl⟩))
            have T3 := T2.setTok 0 0 0 ⟨#[]⟩
            obtain ⟨d0, d1, d2, d3, f'⟩ := T3.tok
            refine bodyPost_ret (v := .tuple #[tok 0 0 0 ⟨#[]⟩, .int .i64 0]) (by simp [results, Tryd.results61, go_sem, c0, c1, c2, c3]) rfl ⟨by rw [hinv.out]; rfl, ?_⟩
            exact hb0
        | some v' =>
          have HD : Hid (∀ W, Calls Tryd.prog 83 #[.int .i64 (v : Int), .int .u8 (c.toNat : Int)] W fun e w' => e = .returned (.tuple #[.int .i64 (v' : Int), .bool true]) ∧ w' = W) := fun W => withDigit_some v c.toNat v' W hd
          have hv' := wdig_le hd
          by_cases hk0 : 0 < k
          · have g2 : (0 : Int) < (k : Int) := by omega
            by_cases hv0 : v = 0
            · subst hv0
              replace hinv : Hid (intGo 0 0 l = ⟨0, 0, [], k⟩) := hinv.out.trans (by rw [hdr]; exact intGo_zero hr hk0)
              clear hr hdr hcl hd
              obtain ⟨c0, c1, c2, c3, f⟩ := T2.tok
              go_wp2_with (first
                | (go_at_call 60; refine (HRr.out _).mono ?_; rintro e w' ⟨rfl, rfl⟩)
                | (go_at_call 83; refine (HD.out _).mono ?_; rintro e w' ⟨rfl, rfl⟩))
              have T3 := T2.setTok 0 0 0 ⟨#[]⟩
              obtain ⟨d0, d1, d2, d3, f'⟩ := T3.tok
              refine bodyPost_ret (v := .tuple #[tok 0 0 0 ⟨#[]⟩, .int .i64 (k : Int)]) (by simp [results, Tryd.results61, go_sem, c0, c1, c2, c3]) rfl ⟨by rw [hinv.out]; rfl, ?_⟩
              exact hb0
            · have g3 : ((v : Int) == 0) = false := by simp; omega
              replace hinv : Hid (intGo 0 0 l = intGo v' (k + 1) (l.drop (k + 1))) := hinv.out.trans (by rw [hdr]; exact intGo_some hr (fun h => hv0 h.2) hd)
              clear hr hdr hcl hd
              go_wp2_with (first
                | (go_at_call 60; refine (HRr.out _).mono ?_; rintro e w' ⟨rfl, rfl⟩)
                | (go_at_call 83; refine (HD.out _).mono ?_; rintro e w' ⟨rfl, rfl⟩))
              go_round
              case rel => exact ⟨v', k + 1, hv', by omega, rfl, by go_num, hinv⟩
              case measure => simp [intOf]; omega
          · obtain rfl : k = 0 := by omega
            replace hinv : Hid (intGo 0 0 l = intGo v' (0 + 1) (l.drop (0 + 1))) := hinv.out.trans (by rw [hdr]; exact intGo_some hr (fun h => hk0 h.1) hd)
            clear hr hdr hcl hd
            go_wp2_with (first
              | (go_at_call 60; refine (HRr.out _).mono ?_; rintro e w' ⟨rfl, rfl⟩)
              | (go_at_call 83; refine (HD.out _).mono ?_; rintro e w' ⟨rfl, rfl⟩))
            go_round
            case rel => exact ⟨v', 0 + 1, hv', by omega, rfl, by go_num, hinv⟩
            case measure => simp [intOf]; omega
    · have hke : k = l.length := by omega
      have g1 : ¬ (k : Int) < (l.length : Int) := by omega
      replace hinv : Hid (intGo 0 0 l = ⟨5, v, [], k⟩) := hinv.out.trans (intGo_end (by rw [List.drop_eq_nil_of_le (by omega)]; rfl))
      have HRr : Hid (∀ W, Calls Tryd.prog 60 #[.int .u8 0] W fun e w' => e = .returned (.bool (isR 0)) ∧ w' = W) := fun W => inRow_any 0 W
      clear hke
      obtain ⟨c0, c1, c2, c3, f⟩ := T2.tok
      go_wp2_with (go_at_call 60; refine (HRr.out _).mono ?_; rintro e w' ⟨rfl, rfl⟩)
      have T3 := T2.setTok 5 0 v ⟨#[]⟩
      obtain ⟨d0, d1, d2, d3, f'⟩ := T3.tok
      unfold setTok at d0 d1 d2 d3
      refine bodyPost_ret (v := .tuple #[tok 5 0 v ⟨#[]⟩, .int .i64 (k : Int)]) (by simp [results, Tryd.results61, go_sem, d0, d1, d2, d3]) rfl ⟨by rw [hinv.out]; rfl, ?_⟩
      exact (Below.refl _ _).alloc (Nat.le_refl _) _
end Go.Proofs.YtpnamkpoapcgeaaDoor
