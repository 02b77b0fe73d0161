import Derived.Test.YtahdnfogdnondaaGreatDoorQ
import Derived.Test.YtahdnfogdnondaaGreatDoorZo
import Derived.Lib.ItoaLen
namespace Go.Proofs.YtahdnfogdnondaaGreatDoor
open Go.RowKit Go.Shelf
set_option linter.unusedVariables false
set_option linter.unusedSimpArgs false

/-- The level of a sign. -/
def lvlS (s : List UInt8) : Nat := if s = [124, 124] then 1 else if s = [38, 38] then 2 else if s = [43] ∨ s = [45] then 4 else if s = [42] ∨ s = [47] ∨ s = [37] then 5 else 3
/-- The level of a node. -/
def lvlN (x : Nx) : Nat := if x.k = 32 then lvlS x.s else if x.k = 30 ∨ x.k = 31 ∨ x.k = 28 ∨ x.k = 29 then 6 else if x.k = 27 then 7 else 8
/-- A text in brackets, where its level is less. -/
def brk (a : Nat × List UInt8) (least : Nat) : List UInt8 := if a.1 < least then [40] ++ a.2 ++ [41] else a.2
/-- Texts with something between each two. -/
def jn (sep : List UInt8) : List (List UInt8) → List UInt8
  | [] => []
  | [a] => a
  | a :: b :: l => a ++ sep ++ jn sep (b :: l)
/-- The text of a reference without a lifetime. -/
def rfr (m : Bool) (t : List UInt8) : List UInt8 := if m then [38, 109, 117, 116, 32] ++ t else if t.head? = some 38 then [38, 32] ++ t else [38] ++ t
/-- A node's text without brackets around it, given its children's levels and texts. -/
def bareN (x : Nx) (cs : List (Nat × List UInt8)) : List UInt8 :=
  let c0 := (cs[0]?).getD (8, [])
  let c1 := (cs[1]?).getD (8, [])
  if x.k = 24 then Lib.itoa x.n
  else if x.k = 25 then (if x.n = 1 then [116, 114, 117, 101] else [102, 97, 108, 115, 101])
  else if x.k = 26 then x.s
  else if x.k = 27 then brk c0 7 ++ [46] ++ x.s
  else if x.k = 28 then [42] ++ brk c0 6
  else if x.k = 30 then [45] ++ brk c0 6
  else if x.k = 31 then [33] ++ brk c0 6
  else if x.k = 29 then rfr (decide (x.n = 1)) (brk c0 6)
  else if x.k = 32 then brk c0 (if lvlS x.s = 3 then 4 else lvlS x.s) ++ [32] ++ x.s ++ [32] ++ brk c1 (lvlS x.s + 1)
  else if x.k = 33 then x.s ++ [40] ++ jn [44, 32] (cs.map fun c => brk c 1) ++ [41]
  else if x.k = 34 then x.s ++ [32, 123, 32] ++ jn [44, 32] (cs.map (·.2)) ++ [32, 125]
  else if x.k = 35 then x.s ++ [58, 32] ++ brk c0 1
  else if x.k = 36 then [98, 111, 120, 40] ++ brk c0 1 ++ [41]
  else [114, 101, 97, 100, 40, 41]
/-- The levels and texts of trees beside one another. -/
def txs : Fo → List (Nat × List UInt8)
  | .nil => []
  | .cons x c r => (lvlN x, bareN x (txs c)) :: txs r
theorem txs_len : ∀ f : Fo, (txs f).length = f.kinds.length
  | .nil => rfl
  | .cons x c r => by simp [txs, Fo.kinds, txs_len r]
/-- It stands in it. -/
def Sbs (a b : List UInt8) : Prop := ∃ p q, b = p ++ a ++ q
theorem Sbs.refl (a : List UInt8) : Sbs a a := ⟨[], [], by simp⟩
theorem Sbs.trans {a b c : List UInt8} (h : Sbs a b) (h' : Sbs b c) : Sbs a c := by
  obtain ⟨p, q, rfl⟩ := h
  obtain ⟨p', q', rfl⟩ := h'
  exact ⟨p' ++ p, q ++ q', by simp⟩
theorem Sbs.app (p a q : List UInt8) : Sbs a (p ++ a ++ q) := ⟨p, q, rfl⟩
theorem Sbs.left {a b : List UInt8} (h : Sbs a b) (p : List UInt8) : Sbs a (p ++ b) := by
  obtain ⟨x, y, rfl⟩ := h
  exact ⟨p ++ x, y, by simp⟩
theorem Sbs.right {a b : List UInt8} (h : Sbs a b) (q : List UInt8) : Sbs a (b ++ q) := by
  obtain ⟨x, y, rfl⟩ := h
  exact ⟨x, y ++ q, by simp⟩
theorem sbs_brk (a : Nat × List UInt8) (n : Nat) : Sbs a.2 (brk a n) := by
  unfold brk
  split
  · exact ⟨[40], [41], rfl⟩
  · exact Sbs.refl _
theorem sbs_jn (sep : List UInt8) : ∀ (l : List (List UInt8)) (a : List UInt8), a ∈ l → Sbs a (jn sep l)
  | [b], a, h => by simp at h; subst h; exact Sbs.refl _
  | b :: c :: l, a, h => by
    rcases List.mem_cons.1 h with rfl | h
    · rw [jn, List.append_assoc]; exact (Sbs.refl _).right _
    · rw [jn]; exact (sbs_jn sep (c :: l) a h).left _
theorem sbs_rfr (m : Bool) (t : List UInt8) : Sbs t (rfr m t) := by
  unfold rfr
  split
  · exact (Sbs.refl _).left _
  · split
    · exact (Sbs.refl _).left _
    · exact (Sbs.refl _).left _
theorem Sbs.len {a b : List UInt8} (h : Sbs a b) : a.length ≤ b.length := by
  obtain ⟨p, q, rfl⟩ := h
  simp; omega
theorem turn_one {ks : List Nat} {P : Nat → Bool} (h : turn ks [P] = true) : ∃ k, ks = [k] ∧ P k = true := by
  match ks, h with
  | [k], h => exact ⟨k, rfl, by simpa [turn] using h⟩
  | [], h => simp [turn] at h
  | _ :: _ :: _, h => simp [turn] at h
theorem turn_two {ks : List Nat} {P Q : Nat → Bool} (h : turn ks [P, Q] = true) : ∃ k j, ks = [k, j] ∧ P k = true ∧ Q j = true := by
  match ks, h with
  | [k, j], h => exact ⟨k, j, rfl, by simpa [turn] using h⟩
  | [], h => simp [turn] at h
  | [_], h => simp [turn] at h
  | _ :: _ :: _ :: _, h => simp [turn] at h
/-- The kinds of expressions, and of what has a name within one. -/
def kX (k : Nat) : Bool := kExpr k || decide (k = 35)
/-- What a node of an expression has as its children. -/
theorem cf_expr {k : Nat} {n : Int} {ks : List Nat} (hk : kX k = true) (h : cfB k n ks = true) :
    (∀ j ∈ ks, kX j = true) ∧ ((k = 27 ∨ k = 28 ∨ k = 29 ∨ k = 30 ∨ k = 31 ∨ k = 36 ∨ k = 35) → ∃ j, ks = [j] ∧ kExpr j = true) ∧ (k = 32 → ∃ i j, ks = [i, j] ∧ kExpr i = true ∧ kExpr j = true) ∧ (k = 33 → ks.length ≤ 8 ∧ ∀ j ∈ ks, kExpr j = true) ∧ (k = 34 → ks.length ≤ 8 ∧ ∀ j ∈ ks, j = 35) ∧ ((k = 24 ∨ k = 25 ∨ k = 26 ∨ 37 ≤ k) → ks = []) ∧ k ≤ 37 := by
  have hk2 : 24 ≤ k := by
    unfold kX kExpr at hk
    simp at hk
    omega
  have e1 : ∀ j, kExpr j = true → kX j = true := fun j h => by unfold kX; rw [h]; rfl
  unfold cfB at h
  rw [if_neg (by omega), if_neg (by omega), if_neg (by omega), if_neg (by omega), if_neg (by omega), if_neg (by omega), if_neg (by omega), if_neg (by omega), if_neg (by omega), if_neg (by omega), if_neg (by omega)] at h
  split at h
  · obtain ⟨i, j, rfl, h1, h2⟩ := turn_two h
    have : k = 32 := by omega
    subst this
    refine ⟨fun x hx => ?_, by omega, fun _ => ⟨i, j, rfl, h1, h2⟩, by omega, by omega, by omega, by omega⟩
    simp at hx
    rcases hx with rfl | rfl
    · exact e1 _ h1
    · exact e1 _ h2
  split at h
  · obtain ⟨j, rfl, h1⟩ := turn_one h
    refine ⟨fun x hx => ?_, fun _ => ⟨j, rfl, h1⟩, by omega, by omega, by omega, by omega, by omega⟩
    simp at hx
    subst hx
    exact e1 _ h1
  split at h
  · subst_vars
    simp only [Bool.and_eq_true, decide_eq_true_eq, List.all_eq_true] at h
    exact ⟨fun x hx => e1 _ (h.2 x hx), by omega, by omega, fun _ => h, by omega, by omega, by omega⟩
  split at h
  · subst_vars
    simp only [Bool.and_eq_true, decide_eq_true_eq, List.all_eq_true] at h
    have h3 : ∀ j ∈ ks, j = 35 := fun j hj => by
      have := h.2 j hj
      unfold kIs at this
      simpa using this
    exact ⟨fun x hx => by rw [h3 x hx]; rfl, by omega, by omega, by omega, fun _ => ⟨h.1.2, h3⟩, by omega, by omega⟩
  split at h
  · simp only [decide_eq_true_eq] at h
    have : ks = [] := List.length_eq_zero_iff.1 h
    subst this
    exact ⟨fun x hx => (by cases hx), by omega, by omega, by omega, by omega, fun _ => rfl, by omega⟩
  · cases h
theorem ok_cf {x : Nx} {ks : List Nat} (h : okP x ks = true) : cfB x.k x.n ks = true := by
  unfold okP at h
  simp only [Bool.and_eq_true] at h
  exact h.2
theorem getD_of {α : Type} {l : List α} {i : Nat} {t d : α} (h : l[i]? = some t) : (l[i]?).getD d = t := by rw [h]; rfl
/-- A child's text stands in its parent's. -/
theorem sbs_bare {x : Nx} {c : Fo} (hx : kX x.k = true) (ho : okP x c.kinds = true) {i : Nat} {t : Nat × List UInt8} (h : (txs c)[i]? = some t) : Sbs t.2 (bareN x (txs c)) := by
  obtain ⟨h1, h2, h3, h4, h5, h6, h7⟩ := cf_expr hx (ok_cf ho)
  have hl := txs_len c
  have hi : i < (txs c).length := (List.getElem?_eq_some_iff.1 h).1
  have hk : 24 ≤ x.k := by
    unfold kX kExpr at hx
    simp at hx
    omega
  by_cases e6 : x.k = 24 ∨ x.k = 25 ∨ x.k = 26 ∨ 37 ≤ x.k
  · have : (txs c).length = 0 := by rw [hl, h6 e6]; rfl
    omega
  by_cases e2 : x.k = 27 ∨ x.k = 28 ∨ x.k = 29 ∨ x.k = 30 ∨ x.k = 31 ∨ x.k = 36 ∨ x.k = 35
  · obtain ⟨j, hj, -⟩ := h2 e2
    rw [hj] at hl
    simp at hl
    have : i = 0 := by omega
    subst this
    have g : ((txs c)[0]?).getD (8, []) = t := getD_of h
    unfold bareN
    simp only [g]
    have hb := sbs_brk t
    rcases e2 with e | e | e | e | e | e | e <;> simp only [e] <;> simp only [reduceCtorEq, Nat.reduceEqDiff, if_false, if_true, ↓reduceIte]
    · rw [List.append_assoc]; exact (hb 7).right _
    · exact (hb 6).left _
    · exact (hb 6).trans (sbs_rfr _ _)
    · exact (hb 6).left _
    · exact (hb 6).left _
    · exact ((hb 1).left _).right _
    · exact (hb 1).left _
  by_cases e3 : x.k = 32
  · obtain ⟨a, b, hj, -⟩ := h3 e3
    rw [hj] at hl
    simp at hl
    unfold bareN
    simp only [e3]
    simp only [reduceCtorEq, Nat.reduceEqDiff, if_false, if_true, ↓reduceIte]
    have : i = 0 ∨ i = 1 := by omega
    rcases this with rfl | rfl
    · rw [getD_of h]
      simp only [List.append_assoc]
      exact (sbs_brk t _).right _
    · rw [getD_of (l := txs c) (i := 1) h]
      exact (sbs_brk t _).left _
  by_cases e4 : x.k = 33
  · unfold bareN
    simp only [e4]
    simp only [reduceCtorEq, Nat.reduceEqDiff, if_false, if_true, ↓reduceIte]
    refine (((sbs_brk t 1).trans (sbs_jn _ _ _ ?_)).left _).right _
    exact List.mem_map.2 ⟨t, List.mem_of_getElem? h, rfl⟩
  · have e5 : x.k = 34 := by omega
    unfold bareN
    simp only [e5]
    simp only [reduceCtorEq, Nat.reduceEqDiff, if_false, if_true, ↓reduceIte]
    refine ((sbs_jn [44, 32] ((txs c).map fun z => z.2) t.2 ?_).left _).right _
    exact List.mem_map.2 ⟨t, List.mem_of_getElem? h, rfl⟩
/-- A part's text stands in that of one of the trees. -/
theorem sbs_sub : ∀ (f : Fo), f.all okP = true → (∀ k ∈ f.kinds, kX k = true) → ∀ (n : Nat) (y : Nx) (e : Fo), f.sub n = some (y, e) → kX y.k = true ∧ ∃ (i : Nat) (t : Nat × List UInt8), (txs f)[i]? = some t ∧ Sbs (bareN y (txs e)) t.2
  | .nil, _, _, n, y, e, h => by simp [Fo.sub] at h
  | .cons x c r, ha, hk, n, y, e, h => by
    simp only [Fo.all, Bool.and_eq_true] at ha
    have hx : kX x.k = true := hk _ (by simp [Fo.kinds])
    obtain ⟨c1, -⟩ := cf_expr hx (ok_cf ha.1.1)
    match n, h with
    | 0, h =>
      simp only [Fo.sub, Option.some.injEq, Prod.mk.injEq] at h
      obtain ⟨rfl, rfl⟩ := h
      exact ⟨hx, 0, _, rfl, Sbs.refl _⟩
    | m + 1, h =>
      simp only [Fo.sub] at h
      split at h
      · obtain ⟨h1, i, t, ht, hs⟩ := sbs_sub c ha.1.2 c1 m y e h
        exact ⟨h1, 0, _, rfl, hs.trans (sbs_bare hx ha.1.1 ht)⟩
      · obtain ⟨h1, i, t, ht, hs⟩ := sbs_sub r ha.2 (fun k hk' => hk k (by simp [Fo.kinds, hk'])) _ y e h
        exact ⟨h1, i + 1, t, by rw [txs, List.getElem?_cons_succ]; exact ht, hs⟩
end Go.Proofs.YtahdnfogdnondaaGreatDoor
