import Derived.Test.YtahdnfogdnondaaGreatDoorR
import Derived.Test.YtahdnfogdnondaaGreatDoorO
import Derived.RangeFuncNested
import Derived.RangeFuncBound
import Derived.RangeFuncCalls
import Derived.RangeFuncLeaves
import Derived.RangeFuncBox
import Derived.Shelf.Abstract
import Derived.Shelf.RegionOpen
import Derived.WalkKit
import Derived.OwnWalkIn
import Derived.TacticsInMore
import Derived.LoopNIn
import Derived.LoopIn
import Derived.Deep.LoopGhost
namespace Go.Proofs.YtahdnfogdnondaaGreatDoor
open Go.RowKit Go.Shelf
attribute [local go_sem] Oper.semAt_some
set_option linter.unusedVariables false
set_option linter.unusedSimpArgs false

/-- What the walk's list holds. -/
def stCells (l : List (Nat × Nat)) : List Value := l.flatMap fun x => [.int .i64 (x.1 : Int), .int .i64 (x.2 : Int)]
theorem stCells_app (l m : List (Nat × Nat)) : stCells (l ++ m) = stCells l ++ stCells m := by simp [stCells]
theorem stCells_len (l : List (Nat × Nat)) : (stCells l).length = l.length * 2 := by
  induction l with
  | nil => rfl
  | cons x l ih => simp only [stCells, List.flatMap_cons, List.length_append, List.length_cons] at ih ⊢; simp at ih ⊢; omega
/-- The walk's list in memory, its last one first. -/
abbrev WRow (w : World) (B : Nat) (g : Nat) (cap : Nat) (st : List (Nat × Nat)) : Prop := w.ownsRow B 131 2 (.slice (some ⟨g, 0, none⟩) st.length cap) st.length (stCells st.reverse)
theorem WRow.get {w : World} {B g cap : Nat} {st : List (Nat × Nat)} (h : WRow w B g cap st) : ∃ cur : Array Value, B ≤ g ∧ w.heap[g]? = some (.cells cur 131 (0, 0)) ∧ st.length ≤ cap ∧ cap ≤ maxLen ∧ cur.size = cap * 2 ∧ cur.toList.take (st.length * 2) = stCells st.reverse := by
  rcases h.2 with ⟨h', _⟩ | ⟨g', cap', cur, h', hb, hg, h1, h2, hs, htake⟩
  · simp at h'
  · simp only [Value.slice.injEq, Option.some.injEq, Addr.mk.injEq, and_true, true_and] at h'
    obtain ⟨rfl, rfl⟩ := h'
    exact ⟨cur, hb, hg, h1, h2, hs, htake⟩
theorem WRow.mk {w : World} {B g cap : Nat} {st : List (Nat × Nat)} {cur : Array Value} (hb : B ≤ g) (hg : w.heap[g]? = some (.cells cur 131 (0, 0))) (h1 : st.length ≤ cap) (h2 : cap ≤ maxLen) (hs : cur.size = cap * 2) (ht : cur.toList.take (st.length * 2) = stCells st.reverse) : WRow w B g cap st :=
  ⟨by rw [stCells_len, List.length_reverse], .inr ⟨g, cap, cur, rfl, hb, hg, h1, h2, hs, ht⟩⟩
theorem WRow.top {w : World} {B g cap n m : Nat} {st : List (Nat × Nat)} (h : WRow w B g cap ((n, m) :: st)) : w.cell? ⟨g, st.length * 2, none⟩ = some (.int .i64 (n : Int)) ∧ w.cell? ⟨g, st.length * 2 + 1, none⟩ = some (.int .i64 (m : Int)) ∧ (∀ o, w.frozen? ⟨g, o, none⟩ = false) := by
  obtain ⟨cur, hb, hg, h1, h2, hs, ht⟩ := h.get
  simp only [List.length_cons] at h1 ht
  have hcell : ∀ o, w.cell? ⟨g, o, none⟩ = cur[o]? := fun o => by simp [World.cell?, hg]
  have hc : stCells ((n, m) :: st).reverse = stCells st.reverse ++ [.int .i64 (n : Int), .int .i64 (m : Int)] := by rw [List.reverse_cons, stCells_app]; rfl
  have hl : (stCells st.reverse).length = st.length * 2 := by rw [stCells_len, List.length_reverse]
  have each : ∀ o v, (stCells ((n, m) :: st).reverse)[o]? = some v → w.cell? ⟨g, o, none⟩ = some v := fun o v ho => by
    rw [← ht, List.getElem?_take] at ho
    split at ho
    · rw [hcell]; simpa using ho
    · cases ho
  refine ⟨each _ _ ?_, each _ _ ?_, fun o => frozen_of_row w g o _ 131 hg⟩
  · rw [hc, List.getElem?_append_right (by omega), hl, Nat.sub_self]; rfl
  · rw [hc, List.getElem?_append_right (by omega), hl, show st.length * 2 + 1 - st.length * 2 = 1 by omega]; rfl
theorem WRow.pop {w : World} {B g cap : Nat} {x : Nat × Nat} {st : List (Nat × Nat)} (h : WRow w B g cap (x :: st)) : WRow w B g cap st := by
  obtain ⟨cur, hb, hg, h1, h2, hs, ht⟩ := h.get
  simp only [List.length_cons] at h1 ht
  refine WRow.mk hb hg (by omega) h2 hs ?_
  have := congrArg (List.take (st.length * 2)) ht
  rw [List.take_take, show min (st.length * 2) ((st.length + 1) * 2) = st.length * 2 by omega] at this
  rw [this, List.reverse_cons, stCells_app, List.take_append_of_le_length (by rw [stCells_len, List.length_reverse]; omega), List.take_of_length_le (by rw [stCells_len, List.length_reverse]; omega)]
theorem WRow.met {w : World} {B g cap n m : Nat} {st : List (Nat × Nat)} (h : WRow w B g cap ((n, m) :: st)) (m' : Nat) : WRow (w.setCell ⟨g, st.length * 2 + 1, none⟩ (.int .i64 (m' : Int))) B g cap ((n, m') :: st) := by
  obtain ⟨cur, hb, hg, h1, h2, hs, ht⟩ := h.get
  simp only [List.length_cons] at h1 ht
  have hset := heap_setCell_same w g (st.length * 2 + 1) _ 131 (.int .i64 (m' : Int)) hg
  refine WRow.mk hb hset (by simpa using h1) h2 (by simpa using hs) ?_
  simp only [List.length_cons, Array.toList_setIfInBounds]
  rw [List.take_set, ht, List.reverse_cons, List.reverse_cons, stCells_app, stCells_app, List.set_append, if_neg (by rw [stCells_len, List.length_reverse]; omega), stCells_len, List.length_reverse, show st.length * 2 + 1 - st.length * 2 = 1 by omega]
  rfl
theorem WRow.kept {w w' : World} {B g cap : Nat} {st : List (Nat × Nat)} {row : Option Nat} (h : WRow w B g cap st) (hg : w.grownBy w' row) (hne : row ≠ some g) : WRow w' B g cap st :=
  World.ownsRow.kept h hg (.inr (by simpa [Value.ownBlock] using hne.symm))
theorem WRow.same {w w' : World} {B g cap : Nat} {st : List (Nat × Nat)} (h : WRow w B g cap st) (he : w'.heap[g]? = w.heap[g]?) : WRow w' B g cap st := by
  obtain ⟨cur, hb, hg, h1, h2, hs, ht⟩ := h.get
  exact WRow.mk hb (he.trans hg) h1 h2 hs ht
theorem WRow.lt {w : World} {B g cap : Nat} {st : List (Nat × Nat)} (h : WRow w B g cap st) : g < w.heap.size := by
  obtain ⟨cur, hb, hg, -⟩ := h.get
  exact (Array.getElem?_eq_some_iff.1 hg).1
theorem meets_any (w : World) (a : Option Addr) (n cap : Nat) :
    Calls Tryz.prog 94 #[trV a n cap] w fun e w' => ∃ b, e = .returned (.func (.func 116) #[] #[.pointer (some ⟨b, 0, none⟩)]) ∧ At w' b (Tro a n cap) ∧ w.heap.size ≤ b ∧ Below w.heap.size w w' := by
  go_enter Tryz.func94, Tryz.ntmps94
  go_wp2
  go_ret
  exact ⟨w.heap.size, rfl, At.new _ _, Nat.le_refl _, belA (Below.refl _ _)⟩
theorem grown_drew (w : World) (row : Option Nat) : w.grownBy w.drew row := ⟨rfl, rfl, rfl, Nat.le_refl _, fun _ _ _ => rfl⟩
/-- What holds between two steps of the walk. -/
structure Mid (B : Nat) (T : List Nd) (J : Nat → World → Prop) (g cp : Nat) (w : World) (i : Nat) (st : List (Nat × Nat)) : Prop where
  j : J i w
  row : WRow w B g cp st
  gB : B ≤ g
  s0 : ∃ s0, stAt T i = some s0 ∧ nxt T s0 = nxt T st
  ok : ∀ x ∈ st, x.1 < T.length ∧ x.2 ≤ (kids T x.1).length
  iT : i < T.length
  len : st.length ≤ i + 1
theorem kids_at {T : List Nd} {n : Nat} {d : Nd} (h : T[n]? = some d) : kids T n = d.l := by simp [kids, h]
set_option maxRecDepth 100000 in
set_option maxHeartbeats 8000000 in
theorem meets1_in (nn l bx : Nat) (hnn : 1 ≤ nn) (T : List Nd) (a : Option Addr) (cap : Nat) (hS : Sm T) (hT0 : T ≠ []) (J : Nat → World → Prop) (Jx : Nat × Nat → World → Prop) (W : World)
    (hJ : Bears W.heap.size J) (hK : ∀ i W1, J i W1 → TAt W1 a T ∧ At W1 bx (Tro a T.length cap))
    (hY : ∀ i p c s s' W1, J i W1 → stAt T i = some s → nxt T s = some ((p, c), s') → YieldAt Fence.wide (nn - 1) Tryz.prog l #[.int .i64 (p : Int), .int .i64 c] W1 fun e W' =>
      (e = .returned (.bool true) ∧ Apart W.heap.size W1 W' ∧ J (i + 1) W' ∧ c = ((i + 1 : Nat) : Int) ∧ i + 1 < T.length) ∨ (e = .returned (.bool false) ∧ Jx (i, p) W'))
    (h0 : J 0 W) :
    CallsIn Fence.wide nn Tryz.prog 116 #[.func (.yield l) #[] #[], .pointer (some ⟨bx, 0, none⟩)] W fun e W' => (∃ v, e = .returned v) ∧
      ((∃ i s, stAt T i = some s ∧ nxt T s = none ∧ J i W') ∨ ∃ x, Jx x W') := by
  have hTn := hS.n
  have hTp : 0 < T.length := List.length_pos_iff.2 hT0
  obtain ⟨i0, hi, hz0, hz1, hz2⟩ := info_parts Tryz.info131
  obtain ⟨B, hB⟩ : ∃ B, B = W.heap.size := ⟨_, rfl⟩
  rw [← hB] at hJ hY
  refine callsIn_of_wp Tryz.func116 rfl trivial ?_ rfl
  simp only [Tryz.ntmps116, List.size_toArray, List.length_cons, List.length_nil, Nat.reduceAdd, Nat.reduceSub, Array.replicate_succ, Array.replicate_zero, List.push_toArray, List.append_toArray, List.nil_append, List.cons_append]
  gi_wp2
  obtain ⟨mu, hmu1, hmu2⟩ : ∃ mu : Value → World → Nat, (∀ v w g cp i st, v = .slice (some ⟨g, 0, none⟩) st.length cp → Mid B T J g cp w i st → mu v w ≤ 2 * (T.length - i) + st.length) ∧
      (∀ v w, (∃ g cp i st, v = .slice (some ⟨g, 0, none⟩) (List.length st) cp ∧ Mid B T J g cp w i st) → ∃ g cp i st, v = .slice (some ⟨g, 0, none⟩) (List.length st) cp ∧ Mid B T J g cp w i st ∧ mu v w = 2 * (T.length - i) + st.length) := by
    refine ⟨fun v w => leastOf (fun m => ∃ g cp i st, v = .slice (some ⟨g, 0, none⟩) (List.length st) cp ∧ Mid B T J g cp w i st ∧ m = 2 * (T.length - i) + st.length), ?_, ?_⟩
    · intro v w g cp i st h1 h2
      exact (leastOf_spec (p := fun m => ∃ g cp i st, v = .slice (some ⟨g, 0, none⟩) (List.length st) cp ∧ Mid B T J g cp w i st ∧ m = 2 * (T.length - i) + st.length) ⟨_, g, cp, i, st, h1, h2, rfl⟩).2 _ ⟨g, cp, i, st, h1, h2, rfl⟩
    · rintro v w ⟨g, cp, i, st, h1, h2⟩
      exact (leastOf_spec (p := fun m => ∃ g cp i st, v = .slice (some ⟨g, 0, none⟩) (List.length st) cp ∧ Mid B T J g cp w i st ∧ m = 2 * (T.length - i) + st.length) ⟨_, g, cp, i, st, h1, h2, rfl⟩).1
  have HMU1 : Hid (∀ v w g cp i st, v = .slice (some ⟨g, 0, none⟩) (List.length st) cp → Mid B T J g cp w i st → mu v w ≤ 2 * (T.length - i) + st.length) := hmu1
  have HMU2 : Hid (∀ v w, (∃ g cp i st, v = .slice (some ⟨g, 0, none⟩) (List.length st) cp ∧ Mid B T J g cp w i st) → ∃ g cp i st, v = .slice (some ⟨g, 0, none⟩) (List.length st) cp ∧ Mid B T J g cp w i st ∧ mu v w = 2 * (T.length - i) + st.length) := hmu2
  clear hmu1 hmu2
  have hst : Mid B T J W.heap.size 1 (W.alloc (.cells #[.int .i64 0, .int .i64 0] 131)) 0 [(0, 0)] := by
    refine ⟨hJ 0 W _ none h0 (World.grownBy_alloc W _ none) (fun b e => by cases e), ?_, by omega, ⟨_, rfl, rfl⟩, ?_, hTp, by simp⟩
    · exact WRow.mk (by omega) (At.new W (.cells #[.int .i64 0, .int .i64 0] 131)) (by simp) (by unfold maxLen; omega) rfl rfl
    · intro x hx
      simp at hx
      subst hx
      exact ⟨hTp, Nat.zero_le _⟩
  gi_loopw [3] (fun v wr => ∃ g cp i st, v = .slice (some ⟨g, 0, none⟩) (List.length st) cp ∧ Mid B T J g cp wr i st) (fun v wr => mu v wr)
  case atStart => exact ⟨_, _, _, [(0, 0)], rfl, hst⟩
  case round =>
    obtain ⟨g, cp, i, st, rfl, M, hm⟩ := HMU2.out _ _ hrel
    clear hrel hst
    have HM : Hid (mu (.slice (some ⟨g, 0, none⟩) st.length cp) wr = 2 * (T.length - i) + st.length) := hm
    clear hm
    obtain ⟨s0, hs0, hs1⟩ := M.s0
    cases st with
    | nil =>
      have HJ : Hid (J i wr) := M.j
      have HS0 : Hid (stAt T i = some s0 ∧ nxt T s0 = none) := ⟨hs0, hs1⟩
      clear M hs0 hs1
      gi_wp2
      go_end0
      exact ⟨⟨_, rfl⟩, .inl ⟨i, s0, HS0.out.1, HS0.out.2, HJ.out⟩⟩
    | cons x st =>
      obtain ⟨n, m⟩ := x
      obtain ⟨hT, hbox⟩ := hK i wr M.j
      obtain ⟨b0, bf⟩ := hbox.one
      obtain ⟨hn, hmk⟩ := M.ok (n, m) (by simp)
      replace hn : n < T.length := hn
      replace hmk : m ≤ (kids T n).length := hmk
      obtain ⟨d, hd⟩ : ∃ d, T[n]? = some d := ⟨_, List.getElem?_eq_getElem hn⟩
      rw [kids_at hd] at hmk
      have hSd := (hS.d d (List.mem_of_getElem? hd)).l
      obtain ⟨gt, ot, rfl, hrow⟩ := hT hT0
      obtain ⟨n0, -, -, -, -, al, capl, n5, n6⟩ := hrow n d hd
      obtain ⟨t0, t1, tf⟩ := M.row.top
      have hlen := M.len
      have hiT := M.iT
      have hgB := M.gB
      obtain ⟨k, hk⟩ : ∃ k, k = st.length := ⟨_, rfl⟩
      have hcp : k + 1 ≤ cp := by
        obtain ⟨_, _, _, h, _⟩ := M.row.get
        simpa [hk] using h
      rw [← hk] at t0 t1
      have HMM : Hid (Mid B T J g cp wr i ((n, m) :: st)) := M
      have HS0 : Hid (stAt T i = some s0 ∧ nxt T s0 = nxt T ((n, m) :: st)) := ⟨hs0, hs1⟩
      have HDD : Hid (T[n]? = some d) := hd
      have HKK : Hid (k = st.length) := hk
      have hlk : ((n, m) :: st).length = k + 1 := by simp [hk]
      rw [hlk] at hlen HM ⊢
      clear hs0 hs1 M hrow hd hlk hT hbox
      have e1 : IntKind.i64.wrap ((k : Int) + 1 - 1) = (k : Int) := by rw [IntKind.wrap_i64]; omega
      have e2 : (k : Int) + 1 - 1 = (k : Int) := by omega
      have e3 : (0 : Int) < (k : Int) + 1 := by omega
      have e4 : (0 : Int) ≤ (k : Int) := by omega
      have e5 : (k : Int) < (k : Int) + 1 := by omega
      have e6 : (k : Int) ≤ (cp : Int) := by omega
      have e7 : (0 : Int) ≤ (n : Int) := by omega
      have e8 : (n : Int) < (T.length : Int) := by omega
      clear hk
      by_cases hend : m = d.l.length
      · have hq : ((m : Int) == (d.l.length : Int)) = true := by simpa using (by omega : (m : Int) = (d.l.length : Int))
        have hq' : (m == d.l.length) = true := by simpa using hend
        gi_wp2
        gi_region
        all_goals gi_wp2
        have M' : Mid B T J g cp wr.drew i st := by
          have M := HMM.out
          have hs := HS0.out
          refine ⟨hJ i wr _ none M.j (grown_drew wr none) (fun b e => by cases e), M.row.pop, M.gB, ⟨s0, hs.1, hs.2.trans (nxt_end ?_)⟩, fun x hx => M.ok x (List.mem_cons_of_mem _ hx), M.iT, ?_⟩
          · rw [kids_at HDD.out, hend]
            exact List.getElem?_eq_none (Nat.le_refl _)
          · have := M.len
            simp only [List.length_cons] at this
            omega
        refine ⟨⟨g, cp, i, st, by rw [HKK.out], M'⟩, ?_⟩
        rw [HM.out, HKK.out]
        have := HMU1.out _ _ g cp i st rfl M'
        omega
      · have hml : m < d.l.length := by omega
        have hq : ((m : Int) == (d.l.length : Int)) = false := by simpa using (by omega : ¬ (m : Int) = (d.l.length : Int))
        have hq' : (m == d.l.length) = false := by simpa using hend
        obtain ⟨gl, ol, rfl, hgl, hlr⟩ := n6 (by rintro h; rw [h] at hml; simp at hml)
        obtain ⟨c, hc⟩ : ∃ c, d.l[m]? = some c := ⟨_, List.getElem?_eq_getElem hml⟩
        have cc := hlr m c hc
        have hnx : nxt T s0 = some ((n, c), (n, m + 1) :: st) := HS0.out.2.trans (nxt_cons (by rw [kids_at HDD.out]; exact hc))
        have e9 : (0 : Int) ≤ (m : Int) := by omega
        have e10 : (m : Int) < (d.l.length : Int) := by omega
        have e11 : IntKind.i64.wrap ((m : Int) + 1) = (m : Int) + 1 := by rw [IntKind.wrap_i64]; omega
        obtain ⟨W1, hW1⟩ : ∃ W1, W1 = (wr.setCell ⟨g, k * 2 + 1, none⟩ (.int .i64 ((m : Int) + 1))).drew := ⟨_, rfl⟩
        have hg1 : wr.grownBy W1 (some g) := by rw [hW1]; exact grown_trans (grown_set (grown_refl wr _) _ _) (grown_drew _ _)
        have hj1 : J i W1 := hJ i wr W1 (some g) HMM.out.j hg1 (fun b e => by cases e; omega)
        have hr1 : WRow W1 B g cp ((n, m + 1) :: st) := by
          have := HMM.out.row.met (m + 1)
          rw [← HKK.out] at this
          rw [hW1]
          exact this
        obtain ⟨fn, tmps, assign, body, hy, hR⟩ := hY i n c s0 _ W1 hj1 HS0.out.1 hnx
        rw [hW1] at hy hR
        have HW1 : Hid ((wr.setCell ⟨g, k * 2 + 1, none⟩ (.int .i64 ((m : Int) + 1))).drew = W1) := hW1.symm
        have HNX : Hid (nxt T s0 = some ((n, c), (n, m + 1) :: st)) := hnx
        have HC : Hid (d.l[m]? = some c) := hc
        have HL : Hid (∀ i c, d.l[i]? = some c → wr.cell? ⟨gl, ol + i, none⟩ = some (.int .i64 c)) := hlr
        have x0 : W1.cell? ⟨g, k * 2, none⟩ = some (.int .i64 (n : Int)) := by have := hr1.top.1; rw [HKK.out]; exact this
        clear hW1 hnx hc hlr n6
        gi_wp2
        gi_region
        gi_wp2
        refine hR.mono ?_
        rw [HW1.out]
        clear hR hy
        rintro e W3 (⟨rfl, hap, hj3, hci, hi1⟩ | ⟨rfl, hjx⟩)
        · subst hci
          have hr3 : WRow W3 B g cp ((n, m + 1) :: st) := hr1.same (hap.same g hgB hr1.lt)
          have hr4 := World.ownsRow.alloc hr3 (.cells #[.int .i64 ((i + 1 : Nat) : Int), .int .i64 0] 131)
          have hlk : ((n, m + 1) :: st).length = k + 1 := by simp [HKK.out]
          rw [hlk] at hr4
          have news : ∀ j u, ([.int .i64 ((i + 1 : Nat) : Int), .int .i64 0] : List Value)[j]? = some u → (W3.alloc (.cells #[.int .i64 ((i + 1 : Nat) : Int), .int .i64 0] 131)).cell? ((⟨W3.heap.size, 0, none⟩ : Addr).add j) = some u := by
            intro j u hu
            have hN : (W3.alloc (.cells #[.int .i64 ((i + 1 : Nat) : Int), .int .i64 0] 131)).heap[W3.heap.size]? = some (.cells #[.int .i64 ((i + 1 : Nat) : Int), .int .i64 0] 131) := At.new W3 _
            have hadd : (⟨W3.heap.size, 0, none⟩ : Addr).add j = ⟨W3.heap.size, j, none⟩ := by unfold Addr.add; split <;> simp_all
            rw [hadd]
            match j, hu with
            | 0, hu => simp at hu; rw [cell_of_row _ _ 0 _ _ _ hN, ← hu]; rfl
            | 1, hu => simp at hu; rw [cell_of_row _ _ 1 _ _ _ hN, ← hu]; rfl
            | j + 2, hu => simp at hu
          have ones : ∀ u ∈ ([.int .i64 ((i + 1 : Nat) : Int), .int .i64 0] : List Value), u.oneCell' = true := by
            intro u hu
            simp at hu
            rcases hu with rfl | rfl <;> rfl
          have h3B : B ≤ (W3.alloc (.cells #[.int .i64 ((i + 1 : Nat) : Int), .int .i64 0] 131)).heap.size := by simp; have := hr3.lt; omega
          gi_wp2_with (gi_at_builtin; refine wpListIn_append_own _ rfl _ _ 132 rfl B 131 i0 (.agg #[.int .i64 0, .int .i64 0]) 2 16 Tryz.underlying132 hi hz0 hz1 hz2 rfl (by decide) _ (k + 1) _ rfl hr4 ⟨W3.heap.size, 0, none⟩ 1 1 [.int .i64 ((i + 1 : Nat) : Int), .int .i64 0] rfl rfl news ones (by unfold maxLen; omega) (by omega) h3B ?_; intro v' w4 ho4 hg4 hn4)
          rcases ho4.2 with ⟨_, h0'⟩ | ⟨g', cp', cur, rfl, hb', hg', h1', h2', hs', ht'⟩
          · omega
          have hst' : stCells ((n, m + 1) :: st).reverse ++ [.int .i64 ((i + 1 : Nat) : Int), .int .i64 0] = stCells ((i + 1, 0) :: (n, m + 1) :: st).reverse := by
            rw [List.reverse_cons (a := (i + 1, 0)), stCells_app]; rfl
          have hlk' : ((i + 1, 0) :: (n, m + 1) :: st).length = k + 1 + 1 := by simp [HKK.out]
          have M' : Mid B T J g' cp' w4 (i + 1) ((i + 1, 0) :: (n, m + 1) :: st) := by
            refine ⟨?_, WRow.mk hb' hg' (by rw [hlk']; exact h1') h2' hs' (by rw [hlk', ht', hst']), hb', ⟨_, stAt_succ HS0.out.1 HNX.out rfl hi1, rfl⟩, ?_, hi1, by rw [hlk']; omega⟩
            · have j4 := hJ (i + 1) W3 _ none hj3 (World.grownBy_alloc W3 (.cells #[.int .i64 ((i + 1 : Nat) : Int), .int .i64 0] 131) none) (fun b e => by cases e)
              exact hJ (i + 1) _ w4 _ j4 hg4 (fun b e => by have e2 : some g = some b := e; cases e2; exact hgB)
            · intro x hx
              simp only [List.mem_cons] at hx
              rcases hx with rfl | rfl | hx
              · exact ⟨hi1, Nat.zero_le _⟩
              · exact ⟨hn, by rw [kids_at HDD.out]; exact hml⟩
              · exact HMM.out.ok x (List.mem_cons_of_mem _ hx)
          refine ⟨⟨g', cp', i + 1, _, by rw [hlk'], M'⟩, ?_⟩
          have hle := HMU1.out _ _ g' cp' (i + 1) _ rfl M'
          rw [hlk'] at hle
          rw [HM.out]
          omega
        · gi_wp2
          refine bodyPost_ret (results_none rfl _ _ _) rfl ?_
          exact ⟨⟨_, rfl⟩, .inr ⟨_, hjx⟩⟩
theorem meets1_tells (nn bx : Nat) (hnn : 1 ≤ nn) (T : List Nd) (a : Option Addr) (cap : Nat) (hS : Sm T) (hT0 : T ≠ []) (w : World) :
    Tells Fence.wide nn Tryz.prog 116 #[.pointer (some ⟨bx, 0, none⟩)] T (fun W => TAt W a T ∧ At W bx (Tro a T.length cap)) w :=
  fun l J Jx W hW hJ hK hY h0 => meets1_in nn l bx hnn T a cap hS hT0 J Jx W hJ hK hY h0
end Go.Proofs.YtahdnfogdnondaaGreatDoor
