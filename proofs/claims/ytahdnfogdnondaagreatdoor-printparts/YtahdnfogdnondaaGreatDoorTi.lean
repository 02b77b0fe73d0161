import Derived.Test.YtahdnfogdnondaaGreatDoorTa
import Derived.Lib.ItoaLen
namespace Go.Proofs.YtahdnfogdnondaaGreatDoor
open Go.RowKit Go.Shelf
set_option linter.unusedVariables false
set_option linter.unusedSimpArgs false

/-- How long the texts of trees are, together, with something for each. -/
def sumL (l : List (Nat × List UInt8)) : Nat := (l.map fun t => t.2.length + 4).sum
theorem sumL_cons (t : Nat × List UInt8) (l : List (Nat × List UInt8)) : sumL (t :: l) = t.2.length + 4 + sumL l := by simp [sumL]
/-- What bounds that. -/
def wtF : Fo → Nat
  | .nil => 0
  | .cons x c r => x.s.length + 48 + wtF c + wtF r
theorem brk_len (a : Nat × List UInt8) (n : Nat) : (brk a n).length ≤ a.2.length + 2 := by
  unfold brk
  split
  · simp
  · omega
theorem rfr_len (m : Bool) (t : List UInt8) : (rfr m t).length ≤ t.length + 5 := by
  unfold rfr
  split
  · simp
  · split <;> simp
theorem jn_len (sep : List UInt8) (hs : sep.length ≤ 2) : ∀ l : List (List UInt8), (jn sep l).length ≤ (l.map fun t => t.length + 2).sum
  | [] => by simp [jn]
  | [a] => by simp [jn]
  | a :: b :: l => by
    have := jn_len sep hs (b :: l)
    rw [jn, List.length_append, List.length_append, List.map_cons, List.sum_cons]
    omega
theorem first_len (cs : List (Nat × List UInt8)) : ((cs[0]?).getD (8, [])).2.length ≤ sumL cs := by
  match cs with
  | [] => simp
  | t :: l => simp [sumL_cons]; omega
theorem two_len (cs : List (Nat × List UInt8)) : ((cs[0]?).getD (8, [])).2.length + ((cs[1]?).getD (8, [])).2.length ≤ sumL cs := by
  match cs with
  | [] => simp
  | [t] => simp [sumL_cons]; omega
  | t :: u :: l => simp [sumL_cons]; omega
theorem jnb_len (cs : List (Nat × List UInt8)) : (jn [44, 32] (cs.map fun c => brk c 1)).length ≤ sumL cs := by
  refine Nat.le_trans (jn_len _ (by decide) _) ?_
  induction cs with
  | nil => simp [sumL]
  | cons t l ih =>
    have := brk_len t 1
    simp only [List.map_cons, List.sum_cons, sumL_cons] at ih ⊢
    omega
theorem jns_len (cs : List (Nat × List UInt8)) : (jn [44, 32] (cs.map (·.2))).length ≤ sumL cs := by
  refine Nat.le_trans (jn_len _ (by decide) _) ?_
  induction cs with
  | nil => simp [sumL]
  | cons t l ih =>
    simp only [List.map_cons, List.sum_cons, sumL_cons] at ih ⊢
    omega
theorem bareN_len (x : Nx) (cs : List (Nat × List UInt8)) (h0 : -9223372036854775808 ≤ x.n) (h1 : x.n ≤ 9223372036854775807) : (bareN x cs).length + 4 ≤ x.s.length + 48 + sumL cs := by
  have f := first_len cs
  have f2 := two_len cs
  have b7 := brk_len ((cs[0]?).getD (8, [])) 7
  have b6 := brk_len ((cs[0]?).getD (8, [])) 6
  have b1 := brk_len ((cs[0]?).getD (8, [])) 1
  have bl := brk_len ((cs[0]?).getD (8, [])) (if lvlS x.s = 3 then 4 else lvlS x.s)
  have br := brk_len ((cs[1]?).getD (8, [])) (lvlS x.s + 1)
  have b4 := brk_len ((cs[0]?).getD (8, [])) 4
  have bs := brk_len ((cs[0]?).getD (8, [])) (lvlS x.s)
  have rr := rfr_len (decide (x.n = 1)) (brk ((cs[0]?).getD (8, [])) 6)
  have j1 := jnb_len cs
  have j2 := jns_len cs
  have it := Lib.itoa_length_le x.n h0 h1
  unfold bareN
  show (if x.k = 24 then _ else _ : List UInt8).length + 4 ≤ _
  by_cases h24 : x.k = 24
  · (first | rw [if_pos h24])
    first | omega | (simp only [List.length_append, List.length_cons, List.length_nil]; omega)
  rw [if_neg h24]
  by_cases h25 : x.k = 25
  · (first | rw [if_pos h25])
    split <;> (simp only [List.length_cons, List.length_nil]; omega)
  rw [if_neg h25]
  by_cases h26 : x.k = 26
  · (first | rw [if_pos h26])
    first | omega | (simp only [List.length_append, List.length_cons, List.length_nil]; omega)
  rw [if_neg h26]
  by_cases h27 : x.k = 27
  · (first | rw [if_pos h27])
    first | omega | (simp only [List.length_append, List.length_cons, List.length_nil]; omega)
  rw [if_neg h27]
  by_cases h28 : x.k = 28
  · (first | rw [if_pos h28])
    first | omega | (simp only [List.length_append, List.length_cons, List.length_nil]; omega)
  rw [if_neg h28]
  by_cases h30 : x.k = 30
  · (first | rw [if_pos h30])
    first | omega | (simp only [List.length_append, List.length_cons, List.length_nil]; omega)
  rw [if_neg h30]
  by_cases h31 : x.k = 31
  · (first | rw [if_pos h31])
    first | omega | (simp only [List.length_append, List.length_cons, List.length_nil]; omega)
  rw [if_neg h31]
  by_cases h29 : x.k = 29
  · (first | rw [if_pos h29])
    first | omega | (simp only [List.length_append, List.length_cons, List.length_nil]; omega)
  rw [if_neg h29]
  by_cases h32 : x.k = 32
  · (first | rw [if_pos h32])
    first | omega | (simp only [List.length_append, List.length_cons, List.length_nil]; omega)
  rw [if_neg h32]
  by_cases h33 : x.k = 33
  · (first | rw [if_pos h33])
    first | omega | (simp only [List.length_append, List.length_cons, List.length_nil]; omega)
  rw [if_neg h33]
  by_cases h34 : x.k = 34
  · (first | rw [if_pos h34])
    first | omega | (simp only [List.length_append, List.length_cons, List.length_nil]; omega)
  rw [if_neg h34]
  by_cases h35 : x.k = 35
  · (first | rw [if_pos h35])
    first | omega | (simp only [List.length_append, List.length_cons, List.length_nil]; omega)
  rw [if_neg h35]
  by_cases h36 : x.k = 36
  · (first | rw [if_pos h36])
    first | omega | (simp only [List.length_append, List.length_cons, List.length_nil]; omega)
  rw [if_neg h36]
  simp only [List.length_cons, List.length_nil]
  omega
theorem txs_sum : ∀ (f : Fo) (o : Nat), (∀ d ∈ f.flat o, -9223372036854775808 ≤ d.x.n ∧ d.x.n ≤ 9223372036854775807) → sumL (txs f) ≤ wtF f
  | .nil, _, _ => by simp [txs, sumL, wtF]
  | .cons x c r, o, h => by
    have h1 := txs_sum c (o + 1) (fun d hd => h d (by simp [Fo.flat, hd]))
    have h2 := txs_sum r (o + 1 + c.size) (fun d hd => h d (by simp [Fo.flat, hd]))
    have h3 := h _ (show (⟨x, Fo.starts (o + 1) c⟩ : Nd) ∈ Fo.flat o (.cons x c r) by simp [Fo.flat])
    have h4 := bareN_len x (txs c) h3.1 h3.2
    rw [txs, sumL_cons, wtF]
    show (bareN x (txs c)).length + 4 + _ ≤ _
    omega
theorem sumL_mem {l : List (Nat × List UInt8)} {t : Nat × List UInt8} : t ∈ l → t.2.length + 4 ≤ sumL l := by
  induction l with
  | nil => intro h; cases h
  | cons a l ih =>
    intro h
    rw [sumL_cons]
    rcases List.mem_cons.1 h with rfl | h
    · omega
    · have := ih h; omega
theorem txs_le {f : Fo} {o : Nat} (h : ∀ d ∈ f.flat o, -9223372036854775808 ≤ d.x.n ∧ d.x.n ≤ 9223372036854775807) {i : Nat} {t : Nat × List UInt8} (ht : (txs f)[i]? = some t) : t.2.length + 4 ≤ wtF f := by
  have h1 := txs_sum f o h
  have h2 := sumL_mem (List.mem_of_getElem? ht)
  omega
end Go.Proofs.YtahdnfogdnondaaGreatDoor
