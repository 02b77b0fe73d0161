import Derived.Test.YtjchbclkdbojpaaDoorPu
namespace Go.Proofs.YtjchbclkdbojpaaDoor
open Go.RowKit
set_option linter.unusedVariables false
set_option linter.unusedSimpArgs false

theorem nmG_most (S : List UInt8) (most : Int) (fr : Nat) (hm : 9 ≤ most) : ∀ (fuel : Nat) (n : Int) (p : Nat), 0 ≤ n → n ≤ most → (nmG S most fr fuel n p).1 ≤ most
  | 0, n, p, _, h => h
  | fuel + 1, n, p, h0, h => by
    unfold nmG
    split
    · rename_i hc
      obtain ⟨⟨c1, c2⟩, c3⟩ := hc
      have h1 : ¬ (most - ((ah S p : Int) - 48)).tdiv 10 < n := fun hh => c3 (.inl hh)
      exact nmG_most S most fr hm fuel _ _ (by omega) (quo_fits h0 (by omega) (by omega) h1)
    · exact h
theorem nm_most (S : List UInt8) (most : Int) (p : Nat) (hm : 9 ≤ most) : (nm S most p).1 ≤ most := nmG_most S most p hm _ 0 p (by omega) (by omega)
/-- The first byte of a type's text. -/
theorem fst_txt {c : Ch} (hc : c.ok 32) {S : List UInt8} {p q : Nat} (h : Seg S p q (txt c)) : (c.isRef = true ∧ ah S p = 38) ∨ (c.isRef = false ∧ (ah S p = 105 ∨ ah S p = 98 ∨ ah S p = 35 ∨ ah S p = 66)) := by
  cases c with
  | leaf k s =>
    right
    refine ⟨rfl, ?_⟩
    have hk : (k = 1 ∨ k = 2) ∧ s = 0 ∨ k = 5 ∧ 0 ≤ s ∧ s < 32 := hc
    rcases hk with ⟨rfl | rfl, _⟩ | ⟨rfl, _⟩
    · exact .inl (h.ah (c := 105) (l := [54, 52]))
    · exact .inr (.inl (h.ah (c := 98) (l := [111, 111, 108])))
    · exact .inr (.inr (.inl (h.ah (c := 35) (l := Lib.itoa s))))
  | box c => exact .inr ⟨rfl, .inr (.inr (.inr (h.ah (c := 66) (l := [111, 120, 60] ++ txt c ++ [62]))))⟩
  | ref m r c =>
    left
    refine ⟨rfl, ?_⟩
    have e : txt (.ref m r c) = 38 :: (((if 0 ≤ r then [39] ++ Lib.itoa r ++ [32] else []) ++ ((if m then [109, 117, 116, 32] else []) ++ (if r < 0 ∧ m = false ∧ c.isRef = true then [32] else []))) ++ txt c) := by simp [txt, hdT]
    rw [e] at h
    exact h.ah
theorem hd_seg {S : List UInt8} {p q4 q n : Nat} {m : Bool} {r : Int} {c : Ch} (hc : c.ok 32) (hr0 : -1 ≤ r) (hr1 : r ≤ maxR) (hp : p ≤ S.length) (h : Seg S p q4 (hdT m r c.isRef)) (ht : Seg S q4 q (txt c)) (hn : c.depth ≤ n) : hdP S (n + 1) (p + 1) = (m, r, q4, true) := by
  have hf := fst_txt hc ht
  have h1 : Seg S p q4 ([38] ++ ((if 0 ≤ r then [39] ++ Lib.itoa r ++ [32] else []) ++ ((if m then [109, 117, 116, 32] else []) ++ (if r < 0 ∧ m = false ∧ c.isRef = true then [32] else [])))) := h
  obtain ⟨h38, h2⟩ := h1.split
  have hp1 : p + 1 ≤ S.length := h38.le hp
  simp only [List.length_cons, List.length_nil, Nat.zero_add] at h2
  by_cases hr : 0 ≤ r
  · have hr' : ¬ r < 0 := by omega
    simp only [hr, if_true, hr', false_and, if_false, List.append_nil] at h2
    obtain ⟨h3, h4⟩ := h2.split
    obtain ⟨h5, h6⟩ := Seg.split (a := [39] ++ Lib.itoa r) (b := [32]) h3
    obtain ⟨h7, h8⟩ := Seg.split (a := [39]) (b := Lib.itoa r) h5
    simp only [List.length_cons, List.length_nil, Nat.zero_add, List.length_append] at h3 h4 h5 h6 h7 h8
    have a39 : ah S (p + 1) = 39 := h7.ah
    have a32 : ah S (p + 1 + (1 + (Lib.itoa r).length)) = 32 := h6.ah
    have hnm := nm_seg (most := maxR) hr hr1 h8 (h7.le hp1) (by rw [a32]; omega)
    have ht32 := (tk_seg [32] _ _ (by simp)).2 h6
    have hrg : rgP S (p + 1) = (r, p + 1 + (1 + (Lib.itoa r).length + 1), true) := by
      unfold rgP
      rw [hnm.1, if_pos hnm.2, ht32]
    cases m with
    | true =>
      simp only [if_true] at h4
      have a109 : ah S (p + 1 + (1 + (Lib.itoa r).length + 1)) = 109 := h4.ah
      have htm := (tk_seg [109, 117, 116, 32] _ _ (by simp)).2 h4
      unfold hdP
      rw [if_pos a39, hrg]
      simp only [if_true]
      rw [if_pos a109, htm]
    | false =>
      have hq4 : p + 1 + (1 + (Lib.itoa r).length + 1) = q4 := by have := h4.1; simp at this; omega
      unfold hdP
      rw [if_pos a39, hrg]
      simp only [if_true]
      rw [hq4, if_neg (by omega)]
  · have hr' : r < 0 := by omega
    have hrm : r = -1 := by omega
    subst hrm
    simp only [hr, if_false, List.nil_append, hr', true_and] at h2
    cases m with
    | true =>
      simp only [if_true, Bool.true_eq_false, false_and, if_false, List.append_nil] at h2
      have a109 : ah S (p + 1) = 109 := h2.ah
      have htm := (tk_seg [109, 117, 116, 32] _ _ (by simp)).2 h2
      unfold hdP
      rw [if_neg (by rw [a109]; omega), if_pos a109, htm]
    | false =>
      simp only [Bool.false_eq_true, if_false, List.nil_append, true_and] at h2
      rcases hf with ⟨hx, hf⟩ | ⟨hx, hf⟩
      · rw [hx] at h2
        simp only [if_true] at h2
        have a32 : ah S (p + 1) = 32 := h2.ah
        have hq : p + 1 + 1 = q4 := h2.1
        have hn2 : 2 ≤ n := by
          cases c with
          | leaf _ _ => simp [Ch.isRef] at hx
          | box _ => simp [Ch.isRef] at hx
          | ref _ _ d => have := d.depth_pos; simp [Ch.depth] at hn; omega
        unfold hdP
        rw [if_neg (by rw [a32]; omega), if_neg (by rw [a32]; omega)]
        unfold apP
        rw [if_neg (by rw [a32]; simp), if_neg (by omega), hq, hf]
        rfl
      · rw [hx] at h2
        simp only [Bool.false_eq_true, if_false] at h2
        have hq : p + 1 = q4 := h2.1
        rw [← hq] at hf
        unfold hdP
        rw [if_neg (by omega), if_neg (by omega)]
        unfold apP
        rw [if_pos (by omega), hq]
        have : decide (ah S q4 ≠ 38) = true := decide_eq_true (by rw [← hq]; omega)
        rw [this]
/-- A text is read as the type that it is of. -/
theorem rd_txt : ∀ (c : Ch), c.ok 32 → c.rg → ∀ (n : Nat), c.depth ≤ n → ∀ (S : List UInt8) (p q : Nat), p ≤ S.length → Seg S p q (txt c) → ¬ (48 ≤ ah S q ∧ ah S q ≤ 57) → rdT S n p = (q, some c)
  | .leaf k s, hc, hr, 0, hn, S, p, q, hp, hs, hq => by simp [Ch.depth] at hn
  | .leaf k s, hc, hr, n + 1, hn, S, p, q, hp, hs, hq => by
    have hk : (k = 1 ∨ k = 2) ∧ s = 0 ∨ k = 5 ∧ 0 ≤ s ∧ s < 32 := hc
    rcases hk with ⟨rfl | rfl, rfl⟩ | ⟨rfl, h0, h1⟩
    · have hs' : Seg S p q [105, 54, 52] := hs
      have ha : ah S p = 105 := hs'.ah
      unfold rdT
      rw [if_pos ha, (tk_seg [105, 54, 52] p q (by simp)).2 hs']
      rfl
    · have hs' : Seg S p q [98, 111, 111, 108] := hs
      have ha : ah S p = 98 := hs'.ah
      unfold rdT
      rw [if_neg (by rw [ha]; omega), if_pos ha, (tk_seg [98, 111, 111, 108] p q (by simp)).2 hs']
      rfl
    · have hs' : Seg S p q ([35] ++ Lib.itoa s) := hs
      obtain ⟨h2, h3⟩ := hs'.split
      have ha : ah S p = 35 := h2.ah
      have hnm := nm_seg (most := 31) h0 (by omega) h3 (h2.le hp) hq
      simp only [List.length_cons, List.length_nil, Nat.zero_add] at hnm
      unfold rdT
      rw [if_neg (by rw [ha]; omega), if_neg (by rw [ha]; omega), if_pos ha, hnm.1, if_pos hnm.2]
  | .box c, hc, hr, 0, hn, S, p, q, hp, hs, hq => by simp [Ch.depth] at hn
  | .box c, hc, hr, n + 1, hn, S, p, q, hp, hs, hq => by
    have hs' : Seg S p q (([66, 111, 120, 60] ++ txt c) ++ [62]) := hs
    obtain ⟨h1, h2⟩ := hs'.split
    obtain ⟨h3, h4⟩ := h1.split
    have ha : ah S p = 66 := h3.ah
    have hd : c.depth ≤ n := by simp [Ch.depth] at hn; exact hn
    have hn1 : 1 ≤ n := by have := c.depth_pos; omega
    have a62 : ah S (p + ([66, 111, 120, 60] ++ txt c).length) = 62 := h2.ah
    have hrec := rd_txt c hc hr n hd S _ _ (h3.le hp) h4 (by rw [a62]; omega)
    unfold rdT
    rw [if_neg (by rw [ha]; omega), if_neg (by rw [ha]; omega), if_neg (by rw [ha]; omega), if_pos ⟨ha, hn1⟩, (tk_seg [66, 111, 120, 60] p _ (by simp)).2 h3]
    simp only [if_true]
    rw [hrec]
    simp only
    rw [(tk_seg [62] _ q (by simp)).2 h2]
    rfl
  | .ref m r c, hc, hr, 0, hn, S, p, q, hp, hs, hq => by simp [Ch.depth] at hn
  | .ref m r c, hc, hr, n + 1, hn, S, p, q, hp, hs, hq => by
    have hs' : Seg S p q (hdT m r c.isRef ++ txt c) := hs
    obtain ⟨h1, h2⟩ := hs'.split
    have hd : c.depth ≤ n := by simp [Ch.depth] at hn; exact hn
    have hn1 : 1 ≤ n := by have := c.depth_pos; omega
    have ha : ah S p = 38 := by
      rcases fst_txt (c := .ref m r c) hc hs with ⟨_, h⟩ | ⟨h, _⟩
      · exact h
      · cases h
    have hh := hd_seg hc.2 hc.1 hr.1.2 hp h1 h2 hd
    have hrec := rd_txt c hc.2 hr.2 n hd S _ _ (h1.le hp) h2 hq
    unfold rdT
    rw [if_neg (by rw [ha]; omega), if_neg (by rw [ha]; omega), if_neg (by rw [ha]; omega), if_neg (by rw [ha]; omega), if_pos ⟨ha, hn1⟩, hh]
    simp only [if_true]
    rw [hrec]
    rfl
end Go.Proofs.YtjchbclkdbojpaaDoor
