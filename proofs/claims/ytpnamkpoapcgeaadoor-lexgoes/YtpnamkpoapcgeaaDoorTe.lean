import Derived.Test.YtpnamkpoapcgeaaDoorTd
namespace Go.Proofs.YtpnamkpoapcgeaaDoor
open Go.RowKit Go.Shelf
attribute [local go_sem] Oper.semAt_some
set_option linter.unusedVariables false
set_option linter.unusedSimpArgs false

theorem len_two {α : Type} : ∀ {l : List α}, l.length = 2 → ∃ x y, l = [x, y]
  | [x, y], _ => ⟨x, y, rfl⟩
theorem intGo_le : ∀ (l : List UInt8) (v n : Nat), (intGo v n l).k ≤ 6 := fun l v n => by
  by_cases h : (intGo v n l).k = 0
  · omega
  · have := (intGo_k5 l v n h).1; omega
theorem rdRow_le (k : Nat) (p : Nat → Bool) (l : List UInt8) (hk : k ≤ 6) : (rdRow k p l).k ≤ 6 := by
  unfold rdRow
  split
  · simp
  · dsimp only; split <;> omega
theorem rd_k_le (l : List UInt8) : (rd l).k ≤ 6 := by
  cases l with
  | nil => simp [rd]
  | cons c r =>
    rw [rd_cons]
    split
    · exact rdRow_le _ _ _ (by omega)
    · split
      · exact rdRow_le _ _ _ (by omega)
      · split
        · exact intGo_le _ _ _
        · split
          · unfold rdLife
            split
            · simp
            · split
              · split <;> simp
              · simp
          · unfold rdSign
            split <;> simp
theorem tzMay_p (k p n : Int) (s : List UInt8) (hp : ¬ p < 0) : tzMay ⟨k, p, n, s⟩ = tzMay ⟨k, 0, n, s⟩ := by
  have ht : tzText ⟨k, p, n, s⟩ = tzText ⟨k, 0, n, s⟩ := rfl
  have h1 : decide (p < 0) = false := decide_eq_false hp
  unfold tzMay
  rw [ht]
  dsimp only
  rw [h1]
  rfl
set_option maxRecDepth 100000 in
set_option maxHeartbeats 4000000 in
theorem rmay_any (t : Tz) (w : World) (hl : t.s.length ≤ 16384) (hn : ∀ W, Below w.heap.size w W → Num W t) :
    Calls Tryd.prog 18 #[tzV t] w fun e w' => e = .returned (.bool (tzMay t)) ∧ Below w.heap.size w w' := by
  obtain ⟨k, p, n, s⟩ := t
  obtain ⟨mb, hmb⟩ : ∃ mb, mb = tzMay ⟨k, p, n, s⟩ := ⟨_, rfl⟩
  rw [← hmb]
  have A1 := At.new w (Tok k p n (str s))
  have B1 : Below w.heap.size w (w.alloc (Tok k p n (str s))) := belA (Below.refl _ _)
  obtain ⟨x0, x1, x2, x3, xf⟩ := A1.tok
  have hno : (p < 0 ∨ k < 1 ∨ 6 < k) → mb = false := fun h => by
    cases hm : mb with
    | false => rfl
    | true =>
      rw [hm] at hmb
      obtain ⟨a0, a1, a2, a3, a4, a5⟩ := may_get hmb.symm
      have := rd_k_le (tzText ⟨k, p, n, s⟩)
      dsimp only at *
      omega
  by_cases hp : p < 0
  · have hpd : decide (p < 0) = true := decide_eq_true hp
    have hm := hno (.inl hp)
    clear hno hmb
    subst hm
    go_enter Tryd.func18, Tryd.ntmps18
    go_wp2
    go_ret
    exact ⟨rfl, B1⟩
  have hpd : decide (p < 0) = false := decide_eq_false hp
  by_cases hk1 : k < 1
  · have hkd : decide (k < 1) = true := decide_eq_true hk1
    have hm := hno (.inr (.inl hk1))
    clear hno hmb
    subst hm
    go_enter Tryd.func18, Tryd.ntmps18
    go_wp2
    go_ret
    exact ⟨rfl, B1⟩
  have hkd : decide (k < 1) = false := decide_eq_false hk1
  by_cases hk6 : 6 < k
  · have hkd6 : decide (6 < k) = true := decide_eq_true hk6
    have hm := hno (.inr (.inr hk6))
    clear hno hmb
    subst hm
    go_enter Tryd.func18, Tryd.ntmps18
    go_wp2
    go_ret
    exact ⟨rfl, B1⟩
  have hkd6 : decide (6 < k) = false := decide_eq_false hk6
  have HT : Hid (Calls Tryd.prog 16 #[tok k 0 n (str s)] (w.alloc (Tok k p n (str s))) fun e w' => e = .returned (.tuple #[.string (if tzMay ⟨k, 0, n, s⟩ = true then str (tzText ⟨k, 0, n, s⟩) else ⟨#[]⟩), .int .i64 (if tzMay ⟨k, 0, n, s⟩ = true then 0 else 2)]) ∧ Below (w.alloc (Tok k p n (str s))).heap.size (w.alloc (Tok k p n (str s))) w') := rtext_any ⟨k, 0, n, s⟩ _ hl (fun W hW => hn W (below_aft B1 hW))
  rw [tzMay_p k p n s hp] at hmb
  cases mb with
  | false =>
    have HT' : Hid (Calls Tryd.prog 16 #[tok k 0 n (str s)] (w.alloc (Tok k p n (str s))) fun e w' => e = .returned (.tuple #[.string ⟨#[]⟩, .int .i64 2]) ∧ Below (w.alloc (Tok k p n (str s))).heap.size (w.alloc (Tok k p n (str s))) w') := by
      have := HT.out
      rw [← hmb] at this
      exact this
    clear HT hmb hno hn
    go_enter Tryd.func18, Tryd.ntmps18
    go_wp2_with (go_at_call 16; refine HT'.out.mono ?_; rintro e w1 ⟨rfl, hb1⟩)
    go_ret
    exact ⟨rfl, below_aft B1 hb1⟩
  | true =>
    have HT' : Hid (Calls Tryd.prog 16 #[tok k 0 n (str s)] (w.alloc (Tok k p n (str s))) fun e w' => e = .returned (.tuple #[.string (str (tzText ⟨k, 0, n, s⟩)), .int .i64 0]) ∧ Below (w.alloc (Tok k p n (str s))).heap.size (w.alloc (Tok k p n (str s))) w') := by
      have := HT.out
      rw [← hmb] at this
      exact this
    have hTne : tzText ⟨k, 0, n, s⟩ ≠ [] := fun h => by
      have := (may_get hmb.symm).1
      rw [h] at this
      exact this rfl
    obtain ⟨q1, q2, q3, q4⟩ := str_ne hTne
    have q2' : (str (tzText ⟨k, 0, n, s⟩) != (⟨#[]⟩ : ByteArray)) = true := q2
    have q1' : (str (tzText ⟨k, 0, n, s⟩) == (⟨#[]⟩ : ByteArray)) = false := q1
    have q3' : ((str (tzText ⟨k, 0, n, s⟩)).toList == (⟨#[]⟩ : ByteArray).toList) = false := q3
    clear HT hmb hno hn
    generalize tzText ⟨k, 0, n, s⟩ = T at *
    go_enter Tryd.func18, Tryd.ntmps18
    go_wp2_with (go_at_call 16; refine HT'.out.mono ?_; rintro e w1 ⟨rfl, hb1⟩)
    have q5 : (str T).toList.isEmpty = false := by rw [str_list]; simpa using hTne
    go_ret
    exact ⟨by simp [q5], below_aft B1 hb1⟩
set_option maxRecDepth 100000 in
set_option maxHeartbeats 8000000 in
theorem apart_any (A B : List UInt8) (a b : Tz) (w : World) (hA : (A ++ B).length ≤ 65536) (mb : Bool) (hmb : mb = true ↔ ∃ x y, lexToks (A ++ B) = [x, y] ∧ Lk x a ∧ Lk y b) :
    Calls Tryd.prog 68 #[.string (str A), .string (str B), tzV a, tzV b] w fun e w' => e = .returned (.bool mb) ∧ Below w.heap.size w w' := by
  obtain ⟨ak, ap, an, za⟩ := a
  obtain ⟨bk, bp, bn, zb⟩ := b
  have HL : Hid (∀ W, Calls Tryd.prog 11 #[.string (str A ++ str B)] W fun e w' => ∃ (v : Value) (p er : Int), e = .returned (.tuple #[v, .int .i64 p, .int .i64 er]) ∧ (lexToks (A ++ B) ≠ [] → er = 0) ∧ TRow w' W.heap.size v (lexToks (A ++ B)) ∧ Below W.heap.size W w') := fun W => by
    rw [str_append]; exact rlex_row W _ hA
  obtain ⟨L, hL⟩ : ∃ L, L = lexToks (A ++ B) := ⟨_, rfl⟩
  rw [← hL] at HL hmb
  have hsa := str_size A
  have hsb := str_size B
  rw [List.length_append] at hA
  have hle : ¬ (9223372036854775807 < A.length + B.length) := by omega
  have HNO : Hid ((¬ ∃ x y, L = [x, y] ∧ Lk x ⟨ak, ap, an, za⟩ ∧ Lk y ⟨bk, bp, bn, zb⟩) → mb = false) := fun h => by
    cases hm : mb with
    | false => rfl
    | true => exact absurd (hmb.1 hm) h
  have HYES : Hid ((∃ x y, L = [x, y] ∧ Lk x ⟨ak, ap, an, za⟩ ∧ Lk y ⟨bk, bp, bn, zb⟩) → mb = true) := hmb.2
  clear hmb hL hA
  have A1 := (At.new w (Tok ak ap an (str za))).alloc (Tok bk bp bn (str zb))
  have A2 := at_snd w (Tok ak ap an (str za)) (Tok bk bp bn (str zb))
  have B0 : Below w.heap.size w ((w.alloc (Tok ak ap an (str za))).alloc (Tok bk bp bn (str zb))) := belA (belA (Below.refl _ _))
  go_enter Tryd.func68, Tryd.ntmps68
  go_upto_region 2 with (go_at_call 11; refine (HL.out _).mono ?_; rintro e w3 ⟨v, p, er, rfl, her, hr, hb3⟩; obtain ⟨sa, sc, rfl, hta, _⟩ := trow_at hr)
  obtain ⟨c0, c1, c2, c3, cf⟩ := (A1.below hb3).tok
  obtain ⟨d0, d1, d2, d3, df⟩ := (A2.below hb3).tok
  have BW : Below w.heap.size w w3 := below_aft B0 hb3
  clear hr HL A1 A2 B0
  by_cases he : er = 0
  case neg =>
    have hed : (er == 0) = false := by simpa using he
    go_big_quiet (fail)
    go_wp2
    go_ret
    exact ⟨by rw [HNO.out (by rintro ⟨x, y, h, _⟩; exact he (her (by rw [h]; simp)))]; rfl, below_drewN BW _⟩
  subst he
  clear her
  by_cases h2 : L.length = 2
  case neg =>
    have h2d : ((L.length : Int) == 2) = false := by simpa using (by omega : ¬ (L.length : Int) = 2)
    go_big_quiet (fail)
    go_wp2
    go_ret
    exact ⟨by rw [HNO.out (by rintro ⟨x, y, h, _⟩; rw [h] at h2; exact h2 rfl)]; rfl, below_drewN BW _⟩
  obtain ⟨x, y, rfl⟩ := len_two h2
  clear h2
  obtain ⟨g, rfl, hz⟩ := hta (by simp)
  obtain ⟨_, k0, k1, k2, k3⟩ := hz 0 (tkZ x) rfl
  obtain ⟨_, l0, l1, l2, l3⟩ := hz 1 (tkZ y) rfl
  simp only [Nat.zero_add, Nat.zero_mul, Nat.one_mul, tkZ] at k0 k1 k2 k3 l0 l1 l2 l3
  clear hz hta
  by_cases g1 : (x.k : Int) = ak
  case neg =>
    have g1d : ((x.k : Int) == ak) = false := by simpa using g1
    go_big_quiet (fail)
    go_wp2
    go_ret
    exact ⟨by rw [HNO.out (by rintro ⟨x', y', h, h1, h2⟩; cases h; exact g1 h1.1)]; rfl, below_drewN BW _⟩
  subst g1
  by_cases g2 : x.s = za
  case neg =>
    obtain ⟨q1, q2, q3, q4⟩ := str_ne g2
    go_big_quiet (fail)
    go_wp2
    go_ret
    exact ⟨by rw [HNO.out (by rintro ⟨x', y', h, h1, h2⟩; cases h; exact g2 h1.2.2)]; rfl, below_drewN BW _⟩
  subst g2
  obtain ⟨q1, q2, q3, q4⟩ := str_eqs x.s
  by_cases g3 : (x.n : Int) = an
  case neg =>
    have g3d : ((x.n : Int) == an) = false := by simpa using g3
    go_big_quiet (fail)
    go_wp2
    go_ret
    exact ⟨by rw [HNO.out (by rintro ⟨x', y', h, h1, h2⟩; cases h; exact g3 h1.2.1)]; rfl, below_drewN BW _⟩
  subst g3
  by_cases g4 : (y.k : Int) = bk
  case neg =>
    have g4d : ((y.k : Int) == bk) = false := by simpa using g4
    go_big_quiet (fail)
    go_wp2
    go_ret
    exact ⟨by rw [HNO.out (by rintro ⟨x', y', h, h1, h2⟩; cases h; exact g4 h2.1)]; rfl, below_drewN BW _⟩
  subst g4
  by_cases g5 : y.s = zb
  case neg =>
    obtain ⟨p1, p2, p3, p4⟩ := str_ne g5
    go_big_quiet (fail)
    go_wp2
    go_ret
    exact ⟨by rw [HNO.out (by rintro ⟨x', y', h, h1, h2⟩; cases h; exact g5 h2.2.2)]; rfl, below_drewN BW _⟩
  subst g5
  obtain ⟨p1, p2, p3, p4⟩ := str_eqs y.s
  by_cases g6 : (y.n : Int) = bn
  case neg =>
    have g6d : ((y.n : Int) == bn) = false := by simpa using g6
    go_big_quiet (fail)
    go_wp2
    go_ret
    exact ⟨by rw [HNO.out (by rintro ⟨x', y', h, h1, h2⟩; cases h; exact g6 h2.2.1)]; rfl, below_drewN BW _⟩
  subst g6
  go_big_quiet (fail)
  go_wp2
  go_ret
  exact ⟨by rw [HYES.out ⟨x, y, rfl, ⟨rfl, rfl, rfl⟩, ⟨rfl, rfl, rfl⟩⟩]; rfl, below_drewN BW _⟩
end Go.Proofs.YtpnamkpoapcgeaaDoor
