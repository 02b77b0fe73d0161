import Derived.Test.YtpnamkpoapcgeaaDoorLk
import Derived.Laws.IdiomStrings
import Derived.Laws.BytesArg
namespace Go.Proofs.YtpnamkpoapcgeaaDoor
open Go.RowKit Go.Shelf
set_option linter.unusedVariables false
set_option linter.unusedSimpArgs false

/-- Lines put together, a byte 10 between each two. -/
def joinL : List (List UInt8) → List UInt8
  | [] => []
  | [a] => a
  | a :: b :: r => a ++ 10 :: joinL (b :: r)
theorem joinL_snoc (a : List UInt8) : ∀ l : List (List UInt8), joinL (l ++ [a]) = joinL l ++ ((if l.length = 0 then [] else [10]) ++ a)
  | [] => by simp [joinL]
  | [b] => by simp [joinL]
  | b :: c :: r => by
    have ih := joinL_snoc a (c :: r)
    simp only [List.cons_append] at ih ⊢
    rw [joinL, ih, joinL]
    simp
theorem joinL_cons (a : List UInt8) (r : List (List UInt8)) (h : r ≠ []) : joinL (a :: r) = a ++ 10 :: joinL r := by
  cases r with
  | nil => exact absurd rfl h
  | cons b r => rw [joinL]
theorem joinL_consH (c : UInt8) (r : List (List UInt8)) (h : r ≠ []) : joinL (consH c r) = c :: joinL r := by
  cases r with
  | nil => exact absurd rfl h
  | cons b r =>
    cases r with
    | nil => rfl
    | cons d r => rw [consH, joinL, joinL]; rfl
theorem joinL_lns : ∀ S : List UInt8, joinL (lns S) = S
  | [] => rfl
  | c :: r => by
    have ih := joinL_lns r
    have hn := lns_ne r
    unfold lns
    split
    · rename_i h
      rw [joinL_cons _ _ hn, ih, h]; rfl
    · rw [joinL_consH _ _ hn, ih]
theorem joinL_take (ls : List (List UInt8)) (k : Nat) (q : List UInt8) (hq : ls[k]? = some q) : joinL (ls.take (k + 1)) = joinL (ls.take k) ++ ((if k = 0 then [] else [10]) ++ q) := by
  obtain ⟨hk, e⟩ := List.getElem?_eq_some_iff.1 hq
  rw [List.take_succ_eq_append_getElem hk, e, joinL_snoc, List.length_take, Nat.min_eq_left (by omega)]
theorem joinL_mono (ls : List (List UInt8)) : ∀ (j k : Nat), k + j = ls.length → (joinL (ls.take k)).length ≤ (joinL ls).length
  | 0, k, h => by rw [List.take_of_length_le (by omega)]; exact Nat.le_refl _
  | j + 1, k, h => by
    have hk : k < ls.length := by omega
    have ih := joinL_mono ls j (k + 1) (by omega)
    rw [joinL_take ls k _ (List.getElem?_eq_getElem hk), List.length_append] at ih
    omega
/-- Bytes in a row of one's own. -/
abbrev BOwn (w : World) (B : Nat) (v : Value) (l : List UInt8) : Prop := w.ownsRow B 5 1 v l.length (Lib.byteCells l)
theorem bown_slice {w : World} {B : Nat} {v : Value} {n : Nat} {xs : List Value} (h : w.ownsRow B 5 1 v n xs) : ∃ a c, v = .slice a n c := by
  rcases h.2 with ⟨rfl, rfl⟩ | ⟨g, cap, cur, rfl, _⟩
  · exact ⟨_, _, rfl⟩
  · exact ⟨_, _, rfl⟩
theorem conv_bown {w : World} {B : Nat} {a : Option Addr} {c : Nat} {l : List UInt8} (h : BOwn w B (.slice a l.length c) l) : (convert 76 9 (.slice a l.length c)).run Tryd.prog w = .ok (.string (str l)) w := by
  rcases h.2 with ⟨e, h0⟩ | ⟨g, cap, cur, e, hb, hg, _⟩
  · have hl : l = [] := List.length_eq_zero_iff.1 h0
    subst hl
    cases e
    exact run_convert_bytes_nil (w := w) 76 5 Tryd.underlying76 Tryd.underlying5 0 0 9 Tryd.underlying9
  · cases e
    refine run_convert_bytes_back w 76 9 5 ⟨g, 0, none⟩ c l Tryd.underlying76 Tryd.underlying5 Tryd.underlying9 fun j hj => ?_
    refine h.cells (g := g) rfl j _ ?_
    simp [Lib.byteCells, List.getElem?_eq_getElem hj]
set_option maxRecDepth 100000 in
set_option maxHeartbeats 2000000 in
theorem joined_ok (ls : List (List UInt8)) (b : Nat) (w : World) (hR : SRow w b ls) (hn : ls.length ≤ 65537) (hj : (joinL ls).length ≤ 65536) (hq : ∀ q ∈ ls, q.length ≤ 65536) :
    Calls Tryd.prog 28 #[.slice (some ⟨b, 0, none⟩) ls.length ls.length] w fun e w' => e = .returned (.string (str (joinL ls))) ∧ Below w.heap.size w w' := by
  obtain ⟨i0, hi, hz0, hz1, hz2⟩ := info_parts Tryd.byteInfo
  go_enter Tryd.func28, Tryd.ntmps28
  go_wp2
  go_loopw [3, 4] (fun v i W => ∃ k : Nat, k ≤ ls.length ∧ i = .int .i64 k ∧ BOwn W w.heap.size v (joinL (ls.take k)) ∧ Below w.heap.size w W) (fun _ i _ => ls.length - (intOf i).toNat)
  case atStart => exact ⟨0, Nat.zero_le _, rfl, World.ownsRow_nil _ _ _ _, Below.refl _ _⟩
  case round =>
    obtain ⟨k, hk, rfl, hO, hB⟩ := hrel
    have hsW := hB.size
    have hm1 := joinL_mono ls (ls.length - k) k (by omega)
    by_cases hlt : k < ls.length
    · obtain ⟨q, hqq⟩ : ∃ q, ls[k]? = some q := ⟨_, List.getElem?_eq_getElem hlt⟩
      have hql := hq q (List.mem_of_getElem? hqq)
      have hm2 := joinL_mono ls (ls.length - (k + 1)) (k + 1) (by omega)
      obtain ⟨c0, f0⟩ := (hR.below hB).cell hqq
      have HJ : Hid (joinL (ls.take (k + 1)) = joinL (ls.take k) ++ ((if k = 0 then [] else [10]) ++ q)) := joinL_take ls k q hqq
      have HQ : Hid (ls[k]? = some q) := hqq
      clear hqq
      have g1 : (0 : Int) ≤ (k : Int) := by omega
      have g2 : (k : Int) < (ls.length : Int) := by omega
      have w3 : IntKind.i64.wrap ((k : Int) + 1) = (k : Int) + 1 := by rw [IntKind.wrap_i64]; omega
      obtain ⟨T, hT⟩ : ∃ T, joinL (ls.take k) = T := ⟨_, rfl⟩
      rw [hT] at hO hm1 HJ
      have hsz := str_size q
      by_cases h0 : k = 0
      · have HJ' : Hid (joinL (ls.take (k + 1)) = T ++ q) := by have := HJ.out; rw [if_pos h0] at this; exact this
        clear HJ hT
        subst h0
        go_wp2_with (first
          | (at_builtin; refine Lib.wpList_append_own_string _ rfl _ _ 76 9 rfl w.heap.size 5 i0 Tryd.underlying76 Tryd.underlying9 hi hz0 hz1 hz2 _ T.length _ rfl hO (str q) rfl (by rw [str_size]; unfold maxLen; omega) (by rw [str_size]; omega) (by omega) ?_; intro v' w2 ho2 hg2 _hn; obtain ⟨sa, sc, rfl⟩ := bown_slice ho2))
        refine ⟨⟨0 + 1, by omega, by go_num, ?_, hB.grown hg2 hB.size (fun j e => (hO.lt j e).1)⟩, by simp [intOf]; omega⟩
        show World.ownsRow _ _ _ _ _ _ _
        rw [HJ'.out, List.length_append, byteCells_append, ← strCells_str]
        exact ho2
      · have HJ' : Hid (joinL (ls.take (k + 1)) = (T ++ [10]) ++ q) := by have := HJ.out; rw [if_neg h0] at this; show _ = _; rw [this, List.append_assoc]
        have g3 : (0 : Int) < (k : Int) := by omega
        clear HJ hT
        go_wp2_with (first
          | (at_builtin; refine wpList_append_own _ rfl _ _ 76 rfl w.heap.size 5 i0 (.int .u8 0) 1 1 Tryd.underlying76 hi hz0 hz1 hz2 rfl (by decide) _ T.length _ rfl (hO.alloc _) ⟨wr.heap.size, 0, none⟩ 1 1 [.int .u8 10] rfl rfl (news_one wr 10) (ones_one 10) (by unfold maxLen; omega) (by omega) (by simp; omega) ?_; intro v1 w1 ho1 hg1 _hn; have hB1 := hB.grown (grown_trans (World.grownBy_alloc wr (.cells #[.int .u8 10] 5) _) hg1) hB.size (fun j e => (hO.lt j e).1); have hs1 := hB1.size; obtain ⟨d0, df⟩ := (hR.below hB1).cell HQ.out; obtain ⟨ra, rc, rfl⟩ := bown_slice ho1)
          | (at_builtin; refine Lib.wpList_append_own_string _ rfl _ _ 76 9 rfl w.heap.size 5 i0 Tryd.underlying76 Tryd.underlying9 hi hz0 hz1 hz2 _ (T.length + 1) _ rfl ho1 (str q) rfl (by rw [str_size]; unfold maxLen; omega) (by rw [str_size]; omega) (by omega) ?_; intro v' w2 ho2 hg2 _hn; obtain ⟨sa, sc, rfl⟩ := bown_slice ho2))
        refine ⟨⟨k + 1, by omega, by go_num, ?_, hB1.grown hg2 hB1.size (fun j e => (ho1.lt j e).1)⟩, by simp [intOf]; omega⟩
        show World.ownsRow _ _ _ _ _ _ _
        rw [HJ'.out, List.length_append, List.length_append, byteCells_append, byteCells_append, ← strCells_str]
        exact ho2
    · obtain rfl : k = ls.length := by omega
      rw [List.take_of_length_le (Nat.le_refl _)] at hO
      obtain ⟨sa, sc, rfl⟩ := bown_slice hO
      have hconv := conv_bown hO
      go_wp2
      go_ret
      exact ⟨rfl, hB⟩
/-- The bytes of lines, each with its end. -/
def sumL : List (List UInt8) → Nat
  | [] => 0
  | a :: r => a.length + 1 + sumL r
theorem sumL_snoc (a : List UInt8) : ∀ l, sumL (l ++ [a]) = sumL l + (a.length + 1)
  | [] => by simp [sumL]
  | b :: r => by have := sumL_snoc a r; simp only [List.cons_append, sumL]; omega
theorem sumL_take_le : ∀ (l : List (List UInt8)) (j : Nat), sumL (l.take j) ≤ sumL l
  | [], j => by simp [sumL]
  | b :: r, 0 => by simp [sumL]
  | b :: r, j + 1 => by have := sumL_take_le r j; simp only [List.take_succ_cons, sumL]; omega
theorem lns_append : ∀ (T R : List UInt8) (d : List (List UInt8)) (q h : List UInt8) (t : List (List UInt8)), lns T = d ++ [q] → lns R = h :: t → lns (T ++ R) = d ++ (q ++ h) :: t
  | [], R, d, q, h, t, hT, hR => by
    have h' : d = [] ∧ q = [] := by
      have : [[]] = d ++ [q] := hT
      cases d with
      | nil => simp at this; exact ⟨rfl, this⟩
      | cons a d => simp at this
    obtain ⟨rfl, rfl⟩ := h'
    rw [List.nil_append, hR]
    rfl
  | a :: T, R, d, q, h, t, hT, hR => by
    show lns (a :: (T ++ R)) = _
    by_cases ha : a = 10
    · have e1 : lns (a :: T) = [] :: lns T := by rw [lns, if_pos ha]
      have e2 : lns (a :: (T ++ R)) = [] :: lns (T ++ R) := by rw [lns, if_pos ha]
      rw [e1] at hT
      rw [e2]
      cases d with
      | nil => simp at hT; exact absurd hT.2 (lns_ne T)
      | cons x d =>
        simp at hT
        rw [lns_append T R d q h t hT.2 hR, ← hT.1]
        rfl
    · have e1 : lns (a :: T) = consH a (lns T) := by rw [lns, if_neg ha]
      have e2 : lns (a :: (T ++ R)) = consH a (lns (T ++ R)) := by rw [lns, if_neg ha]
      rw [e1] at hT
      rw [e2]
      cases hr : lns T with
      | nil => exact absurd hr (lns_ne T)
      | cons x u =>
        rw [hr] at hT
        unfold consH at hT
        cases d with
        | nil =>
          simp at hT
          obtain ⟨rfl, rfl⟩ := hT
          rw [lns_append T R [] x h t (by rw [hr]; rfl) hR]
          rfl
        | cons y d =>
          simp at hT
          obtain ⟨rfl, h2⟩ := hT
          rw [lns_append T R (x :: d) q h t (by rw [hr, h2]; rfl) hR]
          rfl
theorem place_take (S : List UInt8) : ∀ p, p ≤ S.length → ∃ d q, lns (S.take p) = d ++ [q] ∧ d.length = Lib.countByte (S.take p) 10 ∧ la S p + 1 = (sumL d : Int) ∧ p = sumL d + q.length
  | 0, _ => ⟨[], [], rfl, rfl, rfl, rfl⟩
  | p + 1, h => by
    obtain ⟨d, q, h1, h2, h3, h4⟩ := place_take S p (by omega)
    have hp : p < S.length := by omega
    have hs := lns_snoc S[p] _ d q h1
    have hc := count_step S p hp
    rw [take_snoc S p hp]
    rw [take_snoc S p hp] at hc
    rw [hs, hc]
    unfold la
    rw [List.getElem?_eq_getElem hp]
    by_cases h10 : S[p] = 10
    · rw [if_pos h10, if_pos h10, if_pos (by rw [h10])]
      refine ⟨d ++ [q], [], rfl, by simp [h2], ?_, ?_⟩
      · rw [sumL_snoc]; omega
      · rw [sumL_snoc]; simp; omega
    · rw [if_neg h10, if_neg h10, if_neg (by simpa using h10)]
      refine ⟨d, q ++ [S[p]], rfl, by simp [h2], h3, ?_⟩
      simp; omega
/-- Where a place lies among the lines. -/
theorem place (S : List UInt8) (p : Nat) (hp : p ≤ S.length) : ∃ d q h t, lns S = d ++ (q ++ h) :: t ∧ d.length = Lib.countByte (S.take p) 10 ∧ la S p + 1 = (sumL d : Int) ∧ p = sumL d + q.length := by
  obtain ⟨d, q, h1, h2, h3, h4⟩ := place_take S p hp
  cases hr : lns (S.drop p) with
  | nil => exact absurd hr (lns_ne _)
  | cons h t =>
    have := lns_append (S.take p) (S.drop p) d q h t h1 hr
    rw [List.take_append_drop] at this
    exact ⟨d, q, h, t, this, h2, h3, h4⟩
end Go.Proofs.YtpnamkpoapcgeaaDoor
