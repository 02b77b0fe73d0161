import Derived.Test.YtddjmhfcaeckgaaDoorZp
import Derived.Test.YtddjmhfcaeckgaaDoorK
namespace Go.Proofs.YtddjmhfcaeckgaaDoor
open Go.RowKit
set_option linter.unusedVariables false
set_option linter.unusedSimpArgs false

theorem take_next {zs ys : List Int} {k n : Nat} (hz : zs.length = n) (hy : ys.length = n) (hk : k < n) (h : zs.take k = ys.take k) (e : zs.getD k 0 = ys.getD k 0) : zs.take (k + 1) = ys.take (k + 1) := by
  have h1 : k < zs.length := by omega
  have h2 : k < ys.length := by omega
  rw [List.take_succ_eq_append_getElem h1, List.take_succ_eq_append_getElem h2, h]
  simp [h1, h2] at e
  rw [e]
theorem same2_any (x : Int) (a1 a2 : Option Addr) (n cap1 cap2 : Nat) (zs ys : List Int) (w : World) (hz : zs.length = n) (hy : ys.length = n) (hm : n ≤ 5000) (h1 : Cells w a1 zs) (h2 : Cells w a2 ys) :
    Calls Tryd.prog 38 #[.agg #[.int .i64 x, .slice a1 n cap1], .agg #[.int .i64 x, .slice a2 n cap2], .int .i64 0, .int .i64 0] w fun e w' => e = .returned (.bool (decide (zs = ys))) ∧ Below w.heap.size w w' := by
  have hc1 := (h1.alloc (Two (.int .i64 x) (.slice a1 n cap1))).alloc (Two (.int .i64 x) (.slice a2 n cap2))
  have hc2 := (h2.alloc (Two (.int .i64 x) (.slice a1 n cap1))).alloc (Two (.int .i64 x) (.slice a2 n cap2))
  clear h1 h2
  go_enter Tryd.func38, Tryd.ntmps38
  go_wp2
  go_loopw [9] (fun i wr => ∃ k d : Nat, k ≤ n ∧ i = .int .i64 k ∧ wr = ((w.alloc (Two (.int .i64 x) (.slice a1 n cap1))).alloc (Two (.int .i64 x) (.slice a2 n cap2))).drewN d ∧ Hid (zs.take k = ys.take k)) (fun i _ => n - (intOf i).toNat)
  case atStart => exact ⟨0, 0, Nat.zero_le _, rfl, rfl, rfl⟩
  case round =>
    obtain ⟨k, d, hk1, rfl, rfl, htk⟩ := hrel
    by_cases hlt : k < n
    · rcases hc1 with h | ⟨b, off, rfl, hb, hcl⟩
      · subst h; simp at hz; omega
      rcases hc2 with h | ⟨b', off', rfl, hb', hcl'⟩
      · subst h; simp at hy; omega
      have hck := hcl k (by omega)
      have hck' := hcl' k (by omega)
      have hi1 : (0 : Int) ≤ (k : Int) := by omega
      have hi2 : (k : Int) < (n : Int) := by omega
      clear hcl hcl'
      by_cases hd : zs.getD k 0 = ys.getD k 0
      · have HN : Hid (zs.take (k + 1) = ys.take (k + 1)) := take_next hz hy hlt htk.out hd
        rw [hd] at hck
        obtain ⟨z, hzz⟩ : ∃ z, z = ys.getD k 0 := ⟨_, rfl⟩
        rw [← hzz] at hck hck'
        clear hd hzz
        go_wp2
        go_quiet (fail)
        go_wp2
        go_roundw
        case rel => exact ⟨k + 1, _, by omega, by go_num, rfl, HN⟩
        case measure => simp [intOf]; omega
      · have HN : Hid (decide (zs = ys) = false) := decide_eq_false fun e => hd (by rw [e])
        obtain ⟨z, hzz⟩ : ∃ z, z = zs.getD k 0 := ⟨_, rfl⟩
        obtain ⟨y, hyy⟩ : ∃ z, z = ys.getD k 0 := ⟨_, rfl⟩
        rw [← hzz] at hck hd
        rw [← hyy] at hck' hd
        have hd' : (z != y) = true := by simpa using hd
        clear hzz hyy hd
        go_wp2
        go_quiet (fail)
        go_wp2
        go_ret
        exact ⟨by rw [HN.out]; rfl, below_drewN (below_drewN (((Below.refl _ _).alloc (Nat.le_refl _) _).alloc (by simp) _) _) _⟩
    · have hkn : k = n := by omega
      have HE : Hid (decide (zs = ys) = true) := decide_eq_true (by
        have := htk.out
        rw [List.take_of_length_le (by omega), List.take_of_length_le (by omega)] at this
        exact this)
      go_wp2
      go_ret
      exact ⟨by rw [HE.out]; rfl, below_drewN (((Below.refl _ _).alloc (Nat.le_refl _) _).alloc (by simp) _) _⟩

theorem or_comm' {a b : List Int} {n : Nat} (ha : a.length = n) (hb : b.length = n) (wa : Wd a) (wb : Wd b) : jn .or a b = jn .or b a := words_ext (n := n) (jn_words _ _ _ ha hb) (jn_words _ _ _ hb ha) (jn_len _ _ _ ha hb) (jn_len _ _ _ hb ha) fun k hk => by
  rw [gb_or ha hb wa wb hk, gb_or hb ha wb wa hk, Bool.or_comm]
theorem and_comm' {a b : List Int} {n : Nat} (ha : a.length = n) (hb : b.length = n) (wa : Wd a) (wb : Wd b) : jn .and a b = jn .and b a := words_ext (n := n) (jn_words _ _ _ ha hb) (jn_words _ _ _ hb ha) (jn_len _ _ _ ha hb) (jn_len _ _ _ hb ha) fun k hk => by
  rw [gb_and ha hb wa wb hk, gb_and hb ha wb wa hk, Bool.and_comm]
theorem and_or_self {a b : List Int} {n : Nat} (ha : a.length = n) (hb : b.length = n) (wa : Wd a) (wb : Wd b) : jn .and a (jn .or a b) = a := words_ext (n := n) (jn_words _ _ _ ha (jn_len _ _ _ ha hb)) wa (jn_len _ _ _ ha (jn_len _ _ _ ha hb)) ha fun k hk => by
  rw [gb_and ha (jn_len _ _ _ ha hb) wa (jn_words _ _ _ ha hb) hk, gb_or ha hb wa wb hk]
  cases gb a k <;> simp
theorem or_and_self {a b : List Int} {n : Nat} (ha : a.length = n) (hb : b.length = n) (wa : Wd a) (wb : Wd b) : jn .or a (jn .and a b) = a := words_ext (n := n) (jn_words _ _ _ ha (jn_len _ _ _ ha hb)) wa (jn_len _ _ _ ha (jn_len _ _ _ ha hb)) ha fun k hk => by
  rw [gb_or ha (jn_len _ _ _ ha hb) wa (jn_words _ _ _ ha hb) hk, gb_and ha hb wa wb hk]
  cases gb a k <;> simp
theorem has_iff {a b : List Int} {n : Nat} (ha : a.length = n) (hb : b.length = n) (wa : Wd a) (wb : Wd b) : decide (jn .or a b = a) = (rs (gb (jn .andNot b a)) 0 (64 * n)).isEmpty := by
  by_cases h : jn .or a b = a
  · rw [decide_eq_true h, rs_nil fun k _ hk => ?_]
    · rfl
    · have h1 := gb_or ha hb wa wb hk
      rw [h] at h1
      rw [gb_less hb ha wb wa hk, h1]
      cases gb a k <;> cases gb b k <;> simp
  · rw [decide_eq_false h]
    cases hL : rs (gb (jn .andNot b a)) 0 (64 * n) with
    | cons x l => rfl
    | nil =>
      refine absurd (words_ext (n := n) (jn_words _ _ _ ha hb) wa (jn_len _ _ _ ha hb) ha fun k hk => ?_) h
      rw [gb_or ha hb wa wb hk]
      have h2 : gb (jn .andNot b a) k = false := by
        cases h3 : gb (jn .andNot b a) k
        · rfl
        · have hm : k ∈ rs (gb (jn .andNot b a)) 0 (64 * n) := by
            unfold rs
            rw [List.mem_filter, List.mem_range']
            exact ⟨⟨k, by omega, by omega⟩, h3⟩
          rw [hL] at hm
          cases hm
      rw [gb_less hb ha wb wa hk] at h2
      cases h4 : gb a k <;> cases h5 : gb b k <;> simp [h4, h5] at h2 ⊢
theorem count_two {a b : List Int} {n : Nat} (ha : a.length = n) (hb : b.length = n) (wa : Wd a) (wb : Wd b) : csum (jn .or a b) n + csum (jn .and a b) n = csum a n + csum b n := by
  rw [csum_cnt (jn_words _ _ _ ha hb), csum_cnt (jn_words _ _ _ ha hb), csum_cnt wa, csum_cnt wb]
  have := cnt_two (f := gb a) (g := gb b) (o := gb (jn .or a b)) (a := gb (jn .and a b)) (64 * n) 0 fun k _ hk => ⟨gb_or ha hb wa wb (by omega), gb_and ha hb wa wb (by omega)⟩
  omega
theorem or_assoc' {a b c : List Int} {n : Nat} (ha : a.length = n) (hb : b.length = n) (hc : c.length = n) (wa : Wd a) (wb : Wd b) (wc : Wd c) : jn .or (jn .or a b) c = jn .or a (jn .or b c) :=
  words_ext (n := n) (jn_words _ _ _ (jn_len _ _ _ ha hb) hc) (jn_words _ _ _ ha (jn_len _ _ _ hb hc)) (jn_len _ _ _ (jn_len _ _ _ ha hb) hc) (jn_len _ _ _ ha (jn_len _ _ _ hb hc)) fun k hk => by
    rw [gb_or (jn_len _ _ _ ha hb) hc (jn_words _ _ _ ha hb) wc hk, gb_or ha hb wa wb hk, gb_or ha (jn_len _ _ _ hb hc) wa (jn_words _ _ _ hb hc) hk, gb_or hb hc wb wc hk, Bool.or_assoc]
theorem and_assoc' {a b c : List Int} {n : Nat} (ha : a.length = n) (hb : b.length = n) (hc : c.length = n) (wa : Wd a) (wb : Wd b) (wc : Wd c) : jn .and (jn .and a b) c = jn .and a (jn .and b c) :=
  words_ext (n := n) (jn_words _ _ _ (jn_len _ _ _ ha hb) hc) (jn_words _ _ _ ha (jn_len _ _ _ hb hc)) (jn_len _ _ _ (jn_len _ _ _ ha hb) hc) (jn_len _ _ _ ha (jn_len _ _ _ hb hc)) fun k hk => by
    rw [gb_and (jn_len _ _ _ ha hb) hc (jn_words _ _ _ ha hb) wc hk, gb_and ha hb wa wb hk, gb_and ha (jn_len _ _ _ hb hc) wa (jn_words _ _ _ hb hc) hk, gb_and hb hc wb wc hk, Bool.and_assoc]
theorem and_or' {a b c : List Int} {n : Nat} (ha : a.length = n) (hb : b.length = n) (hc : c.length = n) (wa : Wd a) (wb : Wd b) (wc : Wd c) : jn .and a (jn .or b c) = jn .or (jn .and a b) (jn .and a c) :=
  words_ext (n := n) (jn_words _ _ _ ha (jn_len _ _ _ hb hc)) (jn_words _ _ _ (jn_len _ _ _ ha hb) (jn_len _ _ _ ha hc)) (jn_len _ _ _ ha (jn_len _ _ _ hb hc)) (jn_len _ _ _ (jn_len _ _ _ ha hb) (jn_len _ _ _ ha hc)) fun k hk => by
    rw [gb_and ha (jn_len _ _ _ hb hc) wa (jn_words _ _ _ hb hc) hk, gb_or hb hc wb wc hk, gb_or (jn_len _ _ _ ha hb) (jn_len _ _ _ ha hc) (jn_words _ _ _ ha hb) (jn_words _ _ _ ha hc) hk, gb_and ha hb wa wb hk, gb_and ha hc wa wc hk]
    cases gb a k <;> simp
theorem or_self' {a : List Int} {n : Nat} (ha : a.length = n) (wa : Wd a) : jn .or a a = a := words_ext (n := n) (jn_words _ _ _ ha ha) wa (jn_len _ _ _ ha ha) ha fun k hk => by
  rw [gb_or ha ha wa wa hk, Bool.or_self]
theorem and_self' {a : List Int} {n : Nat} (ha : a.length = n) (wa : Wd a) : jn .and a a = a := words_ext (n := n) (jn_words _ _ _ ha ha) wa (jn_len _ _ _ ha ha) ha fun k hk => by
  rw [gb_and ha ha wa wa hk, Bool.and_self]
theorem count_zero {l : List Int} {n : Nat} (hw : Words l) : (csum l n == 0) = (rs (gb l) 0 (64 * n)).isEmpty := by
  rw [count_len hw]
  cases rs (gb l) 0 (64 * n) with
  | nil => rfl
  | cons k t => simp; omega
end Go.Proofs.YtddjmhfcaeckgaaDoor
