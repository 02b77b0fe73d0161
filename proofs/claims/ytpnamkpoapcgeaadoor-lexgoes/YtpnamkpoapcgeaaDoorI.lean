import Derived.Test.YtpnamkpoapcgeaaDoorH
namespace Go.Proofs.YtpnamkpoapcgeaaDoor
open Go.RowKit
set_option linter.unusedVariables false
set_option linter.unusedSimpArgs false

/-- How far a comment goes. -/
def cmt (l : List UInt8) : Nat := (l.takeWhile (fun c => c != 10)).length
theorem cmt_le (l : List UInt8) : cmt l ≤ l.length := (List.takeWhile_sublist (fun c : UInt8 => c != 10) (l := l)).length_le
theorem index_cmt : ∀ l : List UInt8, Lib.indexByte l 10 = if cmt l < l.length then (cmt l : Int) else -1
  | [] => rfl
  | c :: r => by
    have ih := index_cmt r
    have hle := cmt_le r
    show (if c == 10 then 0 else if Lib.indexByte r 10 == -1 then -1 else Lib.indexByte r 10 + 1) = _
    by_cases h : c = 10
    · subst h; simp [cmt]
    · have hb : (c == 10) = false := by simpa using h
      have hc : cmt (c :: r) = cmt r + 1 := by simp [cmt, List.takeWhile_cons, h]
      rw [hb, hc]
      simp only [Bool.false_eq_true, if_false, List.length_cons]
      by_cases h2 : cmt r < r.length
      · have e1 : Lib.indexByte r 10 = (cmt r : Int) := by rw [ih, if_pos h2]
        have e2 : ((cmt r : Int) == -1) = false := by simp
        have e3 : cmt r + 1 < r.length + 1 := by omega
        rw [e1, e2, if_pos e3]; simp
      · have e1 : Lib.indexByte r 10 = -1 := by rw [ih, if_neg h2]
        have e3 : ¬ cmt r + 1 < r.length + 1 := by omega
        rw [e1, if_neg e3]; rfl
/-- What is left of a text, blanks and comments passed over; true: inside a comment. -/
def sk : Bool → List UInt8 → List UInt8
  | _, [] => []
  | false, c :: r => if isB c.toNat then sk false r else if c = 47 ∧ r.head? = some 47 then sk true r else c :: r
  | true, c :: r => if c = 10 then sk false r else sk true r
theorem sk_true : ∀ l : List UInt8, sk true l = sk false (l.drop (cmt l))
  | [] => rfl
  | c :: r => by
    by_cases h : c = 10
    · subst h
      have : cmt (10 :: r) = 0 := by simp [cmt]
      rw [this]
      simp [sk, isB]
    · have hc : cmt (c :: r) = cmt r + 1 := by simp [cmt, List.takeWhile_cons, h]
      rw [hc]
      simp only [sk, h, if_false, List.drop_succ_cons]
      exact sk_true r
theorem sk_blank {c : UInt8} {r : List UInt8} (h : isB c.toNat = true) : sk false (c :: r) = sk false r := by simp [sk, h]
theorem isB_47 : isB 47 = false := by decide
theorem sk_comment {l : List UInt8} (h : [47, 47].isPrefixOf l = true) : sk false l = sk false (l.drop (cmt l)) ∧ 2 ≤ cmt l := by
  cases l with
  | nil => simp at h
  | cons a r =>
    cases r with
    | nil => simp at h
    | cons b r =>
      simp at h
      obtain ⟨h1, h2⟩ := h
      subst h1 h2
      have e1 : sk false (47 :: 47 :: r) = sk true (47 :: r) := by simp [sk, isB_47]
      have e2 : sk true (47 :: r) = sk true (47 :: 47 :: r) := by simp [sk]
      exact ⟨by rw [e1, e2, sk_true], by simp [cmt, List.takeWhile_cons]⟩
theorem sk_stop {c : UInt8} {r : List UInt8} (h : isB c.toNat = false) (h2 : [47, 47].isPrefixOf (c :: r) = false) : sk false (c :: r) = c :: r := by
  have : ¬ (c = 47 ∧ r.head? = some 47) := by
    rintro ⟨rfl, hr⟩
    cases r with
    | nil => simp at hr
    | cons b r => simp at hr; subst hr; simp at h2
  simp [sk, h, this]
theorem commentLength_any (w : World) (l : List UInt8) (hl : l.length ≤ maxLen) : Calls Tryd.prog 89 #[.string (str l)] w fun e w' => e = .returned (.int .i64 (cmt l : Int)) ∧ w' = w := by
  unfold maxLen at hl
  have hsz : (str l).size = l.length := str_size l
  have hle := cmt_le l
  have HI : Hid (∀ W, Calls Tryd.prog 102 #[.string (str l), .int .u8 10] W fun e w' => e = .returned (.int .i64 (if cmt l < l.length then (cmt l : Int) else -1)) ∧ w' = W) := fun W => by
    have := Tryd.strings_IndexByte (str l) 10 W
    rw [str_data, show ((10 : Int).toNat.toUInt8) = (10 : UInt8) from rfl, index_cmt] at this
    exact this
  by_cases h : cmt l < l.length
  · rw [if_pos h] at HI
    have g : (0 : Int) ≤ (cmt l : Int) := by omega
    go_enter Tryd.func89, Tryd.ntmps89
    go_wp2_with (go_at_call 102; refine (HI.out _).mono ?_; rintro e w' ⟨rfl, rfl⟩)
    go_ret
    exact ⟨rfl, rfl⟩
  · rw [if_neg h] at HI
    have he : cmt l = l.length := by omega
    rw [he]
    clear he hle h
    go_enter Tryd.func89, Tryd.ntmps89
    go_wp2_with (go_at_call 102; refine (HI.out _).mono ?_; rintro e w' ⟨rfl, rfl⟩)
    go_ret
    exact ⟨rfl, rfl⟩
theorem sk_len (b : Bool) : ∀ l : List UInt8, (sk b l).length ≤ l.length := by
  intro l
  induction l generalizing b with
  | nil => cases b <;> simp [sk]
  | cons c r ih =>
    cases b
    · unfold sk
      split
      · have := ih false; simp; omega
      · split
        · have := ih true; simp; omega
        · simp
    · unfold sk
      split
      · have := ih false; simp; omega
      · have := ih true; simp; omega
set_option maxRecDepth 100000 in
set_option maxHeartbeats 2000000 in
theorem passedOver_any (w : World) (l : List UInt8) (hl : l.length ≤ maxLen) : Calls Tryd.prog 76 #[.string (str l)] w fun e w' => (∃ n : Nat, e = .returned (.int .i64 (n : Int)) ∧ n ≤ l.length ∧ l.drop n = sk false l) ∧ w' = w := by
  have hl0 := hl
  unfold maxLen at hl
  have hsz : (str l).size = l.length := str_size l
  go_enter Tryd.func76, Tryd.ntmps76
  go_wp2
  go_loop [3] (fun i => ∃ k : Nat, k ≤ l.length ∧ i = .int .i64 k ∧ Hid (sk false l = sk false (l.drop k))) (fun i => l.length - (intOf i).toNat)
  case atStart => exact ⟨0, Nat.zero_le _, rfl, rfl⟩
  case round =>
    obtain ⟨k, hkl, rfl, hinv⟩ := hrel
    have hx : (str l).extract k l.length = str (l.drop k) := by rw [str_ext]; simp
    by_cases hlt : k < l.length
    · obtain ⟨c, hcl⟩ : ∃ c, c = l[k] := ⟨_, rfl⟩
      have hc : (str l)[k]'(by rw [hsz]; exact hlt) = c := by rw [hcl]; rfl
      have hdr : l.drop k = c :: l.drop (k + 1) := by rw [hcl]; exact List.drop_eq_getElem_cons hlt
      have g0 : (0 : Int) ≤ (k : Int) := by omega
      have g1 : (k : Int) < (l.length : Int) := by omega
      have g2 : (k : Int) ≤ (l.length : Int) := by omega
      obtain ⟨kc, hkc⟩ : ∃ kc, kc = cls c.toNat := ⟨_, rfl⟩
      have HC : Hid (∀ w, Calls Tryd.prog 57 #[.int .u8 (c.toNat : Int)] w fun e w' => e = .returned (.int .u8 (kc : Int)) ∧ w' = w) := fun w => by rw [hkc]; exact cls_any c.toNat w
      by_cases hb : kc = 1
      · have hB := (cls_B c.toNat).1 (by rw [← hkc]; exact hb)
        subst hb
        have HN : Hid (sk false l = sk false (l.drop (k + 1))) := hinv.out.trans (by rw [hdr]; exact sk_blank hB)
        clear hkc hB hdr hcl hx hinv
        go_wp2_with (go_at_call 57; refine (HC.out _).mono ?_; rintro e w' ⟨rfl, rfl⟩)
        go_round
        case rel => exact ⟨k + 1, by omega, by go_num, HN⟩
        case measure => simp [intOf]; omega
      · have hB : isB c.toNat = false := by
          cases h : isB c.toNat
          · rfl
          · exact absurd (hkc.trans ((cls_B c.toNat).2 h)) hb
        have hkb : ((kc : Int) == 1) = false := by simp; omega
        obtain ⟨q, hq⟩ : ∃ q, q = l.drop k := ⟨_, rfl⟩
        have hql : q.length ≤ maxLen := by rw [hq, List.length_drop]; unfold maxLen; omega
        have hql2 : k + q.length = l.length := by rw [hq, List.length_drop]; omega
        rw [← hq] at hx
        cases hp : [47, 47].isPrefixOf q
        · have HP : Hid (∀ W, Calls Tryd.prog 88 #[.string (str q), .string ⟨#[47, 47]⟩] W fun e w' => e = .returned (.bool false) ∧ w' = W) := fun W => hasP (str q) [47, 47] W hp
          have HE : Hid (l.drop k = sk false l) := by show _ = _; rw [hinv.out, hdr]; exact (sk_stop hB (by rw [← hdr, ← hq]; exact hp)).symm
          clear hkc hB hdr hcl hinv hq hp hb
          go_wp2_with (first
            | (go_at_call 57; refine (HC.out _).mono ?_; rintro e w' ⟨rfl, rfl⟩)
            | (go_at_call 88; refine (HP.out _).mono ?_; rintro e w' ⟨rfl, rfl⟩))
          go_ret
          exact ⟨⟨k, rfl, hkl, HE.out⟩, rfl⟩
        · have HP : Hid (∀ W, Calls Tryd.prog 88 #[.string (str q), .string ⟨#[47, 47]⟩] W fun e w' => e = .returned (.bool true) ∧ w' = W) := fun W => hasP (str q) [47, 47] W hp
          obtain ⟨h1, h2⟩ := sk_comment hp
          have h3 := cmt_le q
          have HM : Hid (∀ W, Calls Tryd.prog 89 #[.string (str q)] W fun e w' => e = .returned (.int .i64 (cmt q : Int)) ∧ w' = W) := fun W => commentLength_any W q hql
          have HN : Hid (sk false l = sk false (l.drop (k + cmt q))) := hinv.out.trans (by rw [← hq, h1, hq, List.drop_drop])
          generalize cmt q = m at *
          clear hkc hB hdr hcl hinv hq hp hb h1 hql
          go_wp2_with (first
            | (go_at_call 57; refine (HC.out _).mono ?_; rintro e w' ⟨rfl, rfl⟩)
            | (go_at_call 88; refine (HP.out _).mono ?_; rintro e w' ⟨rfl, rfl⟩)
            | (go_at_call 89; refine (HM.out _).mono ?_; rintro e w' ⟨rfl, rfl⟩))
          go_round
          case rel => exact ⟨k + m, by omega, by go_num, HN⟩
          case measure => simp [intOf]; omega
    · have hke : k = l.length := by omega
      have HE : Hid (l.drop k = sk false l) := by show _ = _; rw [hinv.out, List.drop_eq_nil_of_le (by omega)]; rfl
      have g1 : ¬ (k : Int) < (l.length : Int) := by omega
      clear hinv hke
      go_wp2
      go_ret
      exact ⟨⟨k, rfl, hkl, HE.out⟩, rfl⟩
end Go.Proofs.YtpnamkpoapcgeaaDoor
