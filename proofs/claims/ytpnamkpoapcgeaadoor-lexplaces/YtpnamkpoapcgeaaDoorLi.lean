import Derived.Test.YtpnamkpoapcgeaaDoorLh
namespace Go.Proofs.YtpnamkpoapcgeaaDoor
open Go.RowKit Go.Shelf
set_option linter.unusedVariables false
set_option linter.unusedSimpArgs false

theorem lns_ne (l : List UInt8) : lns l ≠ [] := by
  cases l with
  | nil => simp [lns]
  | cons c r =>
    unfold lns
    split
    · simp
    · cases lns r <;> simp [consH]
theorem lns_snoc (c : UInt8) : ∀ (l : List UInt8) (d : List (List UInt8)) (p : List UInt8), lns l = d ++ [p] → lns (l ++ [c]) = if c = 10 then d ++ [p] ++ [[]] else d ++ [p ++ [c]]
  | [], d, p, h => by
    have h' : d = [] ∧ p = [] := by
      have : [[]] = d ++ [p] := h
      cases d with
      | nil => simp at this; exact ⟨rfl, this⟩
      | cons a d => simp at this
    obtain ⟨rfl, rfl⟩ := h'
    show lns [c] = _
    unfold lns
    split <;> rfl
  | a :: r, d, p, h => by
    show lns (a :: (r ++ [c])) = _
    by_cases ha : a = 10
    · have e1 : lns (a :: r) = [] :: lns r := by rw [lns, if_pos ha]
      have e2 : lns (a :: (r ++ [c])) = [] :: lns (r ++ [c]) := by rw [lns, if_pos ha]
      rw [e1] at h
      rw [e2]
      cases d with
      | nil => simp at h; exact absurd h.2 (lns_ne r)
      | cons x d =>
        simp at h
        rw [lns_snoc c r d p h.2, ← h.1]
        split <;> simp
    · have e1 : lns (a :: r) = consH a (lns r) := by rw [lns, if_neg ha]
      have e2 : lns (a :: (r ++ [c])) = consH a (lns (r ++ [c])) := by rw [lns, if_neg ha]
      rw [e1] at h
      rw [e2]
      cases hr : lns r with
      | nil => exact absurd hr (lns_ne r)
      | cons x t =>
        rw [hr] at h
        unfold consH at h
        cases d with
        | nil =>
          simp at h
          obtain ⟨rfl, rfl⟩ := h
          rw [lns_snoc c r [] x (by rw [hr]; rfl)]
          split <;> rfl
        | cons y d =>
          simp at h
          obtain ⟨rfl, h2⟩ := h
          rw [lns_snoc c r (x :: d) p (by rw [hr, h2]; rfl)]
          split <;> rfl
theorem Tryd.strInfo : (Tryd.prog.info? 9).map (fun i => (i.zero, i.size, i.bytes)) = some (some (.string ⟨#[]⟩), 1, 16) := by kernel_rfl
/-- A row of strings of one's own. -/
abbrev SOwn (w : World) (B : Nat) (v : Value) (ls : List (List UInt8)) : Prop := w.ownsRow B 9 1 v ls.length (ls.map (fun l => Value.string (str l)))
theorem news_str (W : World) (q : List UInt8) : ∀ (j : Nat) (u : Value), ([.string (str q)] : List Value)[j]? = some u → (W.alloc (.cells #[.string (str q)] 9)).cell? ((⟨W.heap.size, 0, none⟩ : Addr).add j) = some u := by
  intro j u hj
  match j, hj with
  | 0, hj => simp at hj; subst hj; simp [Addr.add]
theorem ones_str (q : List UInt8) : ∀ u ∈ ([.string (str q)] : List Value), u.oneCell' = true := by intro u hu; simp at hu; subst hu; rfl
theorem sown_slice {w : World} {B : Nat} {v : Value} {n : Nat} {xs : List Value} (h : w.ownsRow B 9 1 v n xs) : ∃ a c, v = .slice a n c := by
  rcases h.2 with ⟨rfl, rfl⟩ | ⟨g, cap, cur, rfl, _⟩
  · exact ⟨_, _, rfl⟩
  · exact ⟨_, _, rfl⟩
theorem take_snoc (S : List UInt8) (k : Nat) (hk : k < S.length) : S.take (k + 1) = S.take k ++ [S[k]] := List.take_succ_eq_append_getElem hk
set_option maxRecDepth 100000 in
theorem rlines_long (S : List UInt8) (w : World) (hS : 65536 < S.length) (hm : S.length ≤ maxLen) :
    Calls Tryd.prog 26 #[.string (str S)] w fun e w' => e = .returned (.tuple #[.slice none 0 0, .int .i64 3]) ∧ w' = w := by
  have hsz := str_size S
  have hgt : (65536 : Int) < (S.length : Int) := by omega
  go_enter Tryd.func26, Tryd.ntmps26
  go_wp2
  go_ret2
  exact ⟨rfl, rfl⟩
set_option maxRecDepth 100000 in
set_option maxHeartbeats 2000000 in
theorem rlines_ok (S : List UInt8) (w : World) (hS : S.length ≤ 65536) :
    Calls Tryd.prog 26 #[.string (str S)] w fun e w' => ∃ v, e = .returned (.tuple #[v, .int .i64 0]) ∧ SOwn w' w.heap.size v (lns S) ∧ Below w.heap.size w w' := by
  have hsz := str_size S
  have hgt : ¬ (65536 : Int) < (S.length : Int) := by omega
  obtain ⟨i0, hi, hz0, hz1, hz2⟩ := info_parts Tryd.strInfo
  go_enter Tryd.func26, Tryd.ntmps26
  go_wp2
  go_loopw [4, 5, 6] (fun v f i W => ∃ (k fr : Nat) (d : List (List UInt8)), fr ≤ k ∧ k ≤ S.length ∧ d.length ≤ k ∧ f = .int .i64 fr ∧ i = .int .i64 k ∧ SOwn W w.heap.size v d ∧ Below w.heap.size w W ∧ Hid (lns (S.take k) = d ++ [(S.take k).drop fr])) (fun _ _ i _ => S.length - (intOf i).toNat)
  case atStart => exact ⟨0, 0, [], Nat.le_refl _, Nat.zero_le _, Nat.le_refl _, rfl, rfl, World.ownsRow_nil _ _ _ _, Below.refl _ _, (rfl : lns [] = [] ++ [[]])⟩
  case round =>
    obtain ⟨k, fr, d, hfk, hk, hd, rfl, rfl, hO, hB, HL⟩ := hrel
    have f0 : (0 : Int) ≤ (fr : Int) := by omega
    have f1 : (fr : Int) ≤ (k : Int) := by omega
    have f2 : (k : Int) ≤ (S.length : Int) := by omega
    have f3 : (fr : Int) ≤ (S.length : Int) := by omega
    have hsW := hB.size
    by_cases hlt : k < S.length
    · have g1 : (0 : Int) ≤ (k : Int) := by omega
      have g2 : (k : Int) < (S.length : Int) := by omega
      obtain ⟨c, hcl⟩ : ∃ c, c = S[k] := ⟨_, rfl⟩
      have hc : (str S)[k]'(by rw [hsz]; exact hlt) = c := by rw [hcl]; rfl
      have hsn := lns_snoc c _ _ _ HL.out
      rw [hcl, ← take_snoc S k hlt, ← hcl] at hsn
      have w3 : IntKind.i64.wrap ((k : Int) + 1) = (k : Int) + 1 := by rw [IntKind.wrap_i64]; omega
      have hx : (str S).extract fr k = str ((S.take k).drop fr) := str_ext S fr k
      by_cases h10 : c = 10
      · have hb : ((c.toNat : Int) == 10) = true := by rw [byte_ten, decide_eq_true h10]
        rw [if_pos h10] at hsn
        have HN : Hid (lns (S.take (k + 1)) = (d ++ [(S.take k).drop fr]) ++ [(S.take (k + 1)).drop (k + 1)]) := by
          show _ = _
          have hdr : (S.take (k + 1)).drop (k + 1) = [] := List.drop_eq_nil_iff.2 (by rw [List.length_take]; omega)
          rw [hsn, hdr]
        clear hsn hcl h10 HL
        generalize (S.take k).drop fr = q at *
        go_wp2_with (first
          | (at_builtin; refine wpList_append_own _ rfl _ _ 49 rfl w.heap.size 9 i0 (.string ⟨#[]⟩) 1 16 Tryd.underlying49 hi hz0 hz1 hz2 rfl (by decide) _ d.length _ rfl (hO.alloc _) ⟨wr.heap.size, 0, none⟩ 1 1 [.string (str q)] rfl rfl (news_str wr q) (ones_str q) (by unfold maxLen; omega) (by omega) (by simp; omega) ?_; intro v' w3' ho3 hg3 _hn; obtain ⟨sa, sc, rfl⟩ := sown_slice ho3))
        have G : wr.grownBy w3' _ := grown_trans (World.grownBy_alloc wr (.cells #[.string (str q)] 9) _) hg3
        refine ⟨⟨k + 1, k + 1, d ++ [q], Nat.le_refl _, by omega, by simp; omega, by go_num, by go_num, ?_, hB.grown G hB.size (fun j e => (hO.lt j e).1), HN⟩, by simp [intOf]; omega⟩
        show World.ownsRow _ _ _ _ _ _ _
        rw [List.length_append, List.map_append]
        exact ho3
      · have hb : ((c.toNat : Int) == 10) = false := by rw [byte_ten, decide_eq_false h10]
        rw [if_neg h10] at hsn
        have HN : Hid (lns (S.take (k + 1)) = d ++ [(S.take (k + 1)).drop fr]) := by
          show _ = _
          rw [hsn, take_snoc S k hlt, List.drop_append_of_le_length (by rw [List.length_take]; omega), hcl]
        clear hsn hcl h10 HL hx
        go_wp2
        go_roundw
        case rel => exact ⟨k + 1, fr, d, by omega, by omega, by omega, rfl, by go_num, hO, hB, HN⟩
        case measure => simp [intOf]; omega
    · obtain rfl : k = S.length := by omega
      have hx : (str S).extract fr S.length = str (S.drop fr) := by rw [str_ext, List.take_of_length_le (Nat.le_refl _)]
      have HN : Hid (lns S = d ++ [S.drop fr]) := by have := HL.out; rw [List.take_of_length_le (Nat.le_refl _)] at this; exact this
      clear HL
      generalize S.drop fr = q at *
      go_wp2_with (first
        | (at_builtin; refine wpList_append_own _ rfl _ _ 49 rfl w.heap.size 9 i0 (.string ⟨#[]⟩) 1 16 Tryd.underlying49 hi hz0 hz1 hz2 rfl (by decide) _ d.length _ rfl (hO.alloc _) ⟨wr.heap.size, 0, none⟩ 1 1 [.string (str q)] rfl rfl (news_str wr q) (ones_str q) (by unfold maxLen; omega) (by omega) (by simp; omega) ?_; intro v' w3' ho3 hg3 _hn; obtain ⟨sa, sc, rfl⟩ := sown_slice ho3))
      have G : wr.grownBy w3' _ := grown_trans (World.grownBy_alloc wr (.cells #[.string (str q)] 9) _) hg3
      go_ret2
      refine ⟨_, rfl, ?_, hB.grown G hB.size (fun j e => (hO.lt j e).1)⟩
      show World.ownsRow _ _ _ _ _ _ _
      rw [HN.out, List.length_append, List.map_append]
      exact ho3
end Go.Proofs.YtpnamkpoapcgeaaDoor
