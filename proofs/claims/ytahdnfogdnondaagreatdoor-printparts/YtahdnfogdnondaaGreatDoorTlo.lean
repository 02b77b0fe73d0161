import Derived.Test.YtahdnfogdnondaaGreatDoorTjk
import Derived.Deep.Cut
import Derived.Test.YtahdnfogdnondaaGreatDoorZk
import Derived.Test.YtahdnfogdnondaaGreatDoorShelf
import Derived.Lib.AppendIntMem
import Derived.Test.YtahdnfogdnondaaGreatDoorZc
namespace Go.Proofs.YtahdnfogdnondaaGreatDoor
open Go.RowKit Go.Shelf
set_option linter.unusedVariables false
set_option linter.unusedSimpArgs false

set_option maxRecDepth 100000 in
set_option maxHeartbeats 4000000 in
/-- within: what stands in a text is found there. -/
theorem within_any (a p q : List UInt8) (hb : (p ++ a ++ q).length ≤ 10000000) (w : World) : Calls Tryz.prog 26 #[.string (str a), .string (str (p ++ a ++ q))] w fun e w' => e = .returned (.bool true) ∧ w' = w := by
  obtain ⟨A, hA⟩ : ∃ A, A = str a := ⟨_, rfl⟩
  obtain ⟨B, hB⟩ : ∃ B, B = str (p ++ a ++ q) := ⟨_, rfl⟩
  obtain ⟨na, hna⟩ : ∃ n, A.size = n := ⟨_, rfl⟩
  obtain ⟨nb, hnb⟩ : ∃ n, B.size = n := ⟨_, rfl⟩
  have e1 : na = a.length := by rw [← hna, hA, str_size]
  have e2 : nb = p.length + na + q.length := by rw [← hnb, hB, str_size, e1]; simp; omega
  have e3 : nb ≤ 10000000 := by rw [← hnb, hB, str_size]; exact hb
  have HAT : Hid (B.extract p.length (p.length + na) = A) := hidD (by
    rw [hB, hA, e1]
    apply ByteArray.ext
    simp [str, ByteArray.data_extract])
  rw [← hA, ← hB]
  obtain ⟨np, hnp⟩ : ∃ n, n = p.length := ⟨_, rfl⟩
  rw [← hnp] at e2 HAT
  clear e1 hb hA hB hnp
  go_enter Tryz.func26, Tryz.ntmps26
  go_wp2_with fail
  go_loopw [5] (fun i W => ∃ k : Nat, k ≤ np ∧ i = .int .i64 k ∧ W = w) (fun i _ => np - (intOf i).toNat)
  case atStart => exact ⟨0, by omega, rfl, rfl⟩
  case round =>
    obtain ⟨k, hk, rfl, rfl⟩ := hrel
    have w1 : IntKind.i64.wrap ((k : Int) + (na : Int)) = (k : Int) + (na : Int) := by rw [IntKind.wrap_i64]; omega
    have w2 : IntKind.i64.wrap ((k : Int) + 1) = (k : Int) + 1 := by rw [IntKind.wrap_i64]; omega
    have k1 : (k : Int) + (na : Int) ≤ (nb : Int) := by omega
    have k2 : (k : Int) ≤ (k : Int) + (na : Int) := by omega
    have k3 : (0 : Int) ≤ (k : Int) := by omega
    have HE2 := hidD e2
    clear e2
    go_upto_region 4 with fail
    go_wp2_with fail
    · go_ret
      exact ⟨rfl, rfl⟩
    · rename_i h9
      have hne : k ≠ np := by
        rintro rfl
        rw [HAT.out] at h9
        simp at h9
      exact ⟨⟨k + 1, by omega, by simp, trivial⟩, by simp [intOf]; omega⟩
end Go.Proofs.YtahdnfogdnondaaGreatDoor
namespace Go.Proofs.YtahdnfogdnondaaGreatDoor
open Go.RowKit Go.Shelf
set_option linter.unusedVariables false
set_option linter.unusedSimpArgs false

def Fit5 (T : List Nd) : Prop := T.length ≤ 4000 ∧ sl T T.length ≤ 4000 ∧ ∀ d ∈ T, d.x.s.length ≤ 100
theorem Fit5.l {T : List Nd} (h : Fit5 T) : ∀ d ∈ T, d.l.length ≤ 4000 := fun d hd => by
  obtain ⟨j, hj, rfl⟩ := List.getElem_of_mem hd
  have := sl_one (List.getElem?_eq_getElem hj)
  have := h.2.1
  omega
set_option maxRecDepth 100000 in
set_option maxHeartbeats 4000000 in
theorem fits5_any (T : List Nd) (n : Nat) (hn : T.length = n) (r : Bool) (hr : r = true ↔ Fit5 T) (a : Option Addr) (cap : Nat) (w : World) (hT : TAt w a T) (hL : Lg T) :
    Calls Tryz.prog 6 #[trV a n cap] w fun e w' => e = .returned (.bool r) ∧ Below w.heap.size w w' := by
  subst hn
  have hn := hL.n
  unfold maxLen at hn
  have A1 := At.new w (Tro a T.length cap)
  obtain ⟨c0, f0⟩ := A1.one
  have hB1 : Below w.heap.size w (w.alloc (Tro a T.length cap)) := belA (Below.refl _ _)
  have HR : Hid (r = true ↔ Fit5 T) := hr
  have no : ¬ Fit5 T → r = false := fun h => by
    cases hx : r with
    | false => rfl
    | true => exact absurd (HR.out.1 hx) h
  have NO : Hid (¬ Fit5 T → r = false) := no
  clear hr no
  by_cases hbig : 4000 < T.length
  · have z1 : (4000 : Int) < (T.length : Int) := by omega
    obtain rfl := NO.out (fun h => by have := h.1; omega)
    go_enter Tryz.func6, Tryz.ntmps6
    go_wp2
    go_ret
    exact ⟨rfl, hB1⟩
  · have z1 : ¬ (4000 : Int) < (T.length : Int) := by omega
    have HT : Hid (TAt w a T) := hT
    have HL : Hid (Lg T) := hL
    clear hT hL hn
    go_enter Tryz.func6, Tryz.ntmps6
    go_wp2
    go_loopw [3, 4] (fun n i W => ∃ k m : Nat, k ≤ T.length ∧ i = .int .i64 k ∧ n = .int .i64 m ∧ m ≤ 4000 ∧ Hid (m = sl T k ∧ ∀ j d, j < k → T[j]? = some d → d.x.s.length ≤ 100) ∧ W = w.alloc (Tro a T.length cap)) (fun _ i _ => T.length - (intOf i).toNat)
    case atStart => exact ⟨0, 0, Nat.zero_le _, rfl, rfl, Nat.zero_le _, ⟨rfl, fun j d h => absurd h (Nat.not_lt_zero j)⟩, rfl⟩
    case round =>
      obtain ⟨k, m, hk, rfl, rfl, hm, HALL, hww⟩ := hrel
      have hB : Below w.heap.size w wr := by rw [hww]; exact hB1
      have hA : At wr w.heap.size (Tro a T.length cap) := by rw [hww]; exact A1
      have HWW : Hid (wr = w.alloc (Tro a T.length cap)) := hww
      clear hww c0 f0 A1 hB1
      obtain ⟨c0, f0⟩ := hA.one
      by_cases hlt : k < T.length
      · obtain ⟨d, hd⟩ : ∃ d, T[k]? = some d := ⟨_, List.getElem?_eq_getElem hlt⟩
        have hdl := HL.out.l d (List.mem_of_getElem? hd)
        unfold maxLen at hdl
        obtain ⟨g, off, rfl, hr⟩ := (HT.out.below hB) (by rintro rfl; simp at hlt)
        obtain ⟨q0, q1, q2, q3, q4, al, capl, q5, q6⟩ := hr k d hd
        have k0 : (0 : Int) ≤ (k : Int) := by omega
        have k1 : (k : Int) < (T.length : Int) := by omega
        have w3 : IntKind.i64.wrap ((k : Int) + 1) = (k : Int) + 1 := by rw [IntKind.wrap_i64]; omega
        have w4 : IntKind.i64.wrap (4000 - (m : Int)) = 4000 - (m : Int) := by rw [IntKind.wrap_i64]; omega
        obtain ⟨sb, hsb⟩ : ∃ sb, sb = str d.x.s := ⟨_, rfl⟩
        obtain ⟨z, hz⟩ : ∃ z, sb.size = z := ⟨_, rfl⟩
        have HZ : Hid (z = d.x.s.length) := by show z = _; rw [← hz, hsb]; rfl
        rw [← hsb] at q4
        have HD : Hid (T[k]? = some d) := hd
        clear hr hd q6 hsb
        by_cases hgt : (4000 - (m : Int)) < (d.l.length : Int)
        · obtain rfl := NO.out (fun h => by have e1 := sl_one HD.out; have e2 := h.2.1; have e3 := HALL.out.1; omega)
          go_wp2
          go_ret
          exact ⟨rfl, hB⟩
        · by_cases hgs : (100 : Int) < (z : Int)
          · obtain rfl := NO.out (fun h => by have e2 := h.2.2 d (List.mem_of_getElem? HD.out); have e3 := HZ.out; omega)
            go_wp2
            go_ret
            exact ⟨rfl, hB⟩
          · have w5 : IntKind.i64.wrap ((m : Int) + (d.l.length : Int)) = (m : Int) + (d.l.length : Int) := by rw [IntKind.wrap_i64]; omega
            go_wp2
            refine ⟨⟨k + 1, m + d.l.length, by omega, by go_num, by go_num, by omega, ⟨by rw [sl_succ HD.out, HALL.out.1], fun j d' hj hd' => ?_⟩, HWW.out⟩, by simp [intOf]; omega⟩
            rcases Nat.lt_or_ge j k with h | h
            · exact HALL.out.2 j d' h hd'
            · obtain rfl : j = k := by omega
              rw [HD.out] at hd'
              cases hd'
              have := HZ.out
              omega
      · obtain rfl : k = T.length := by omega
        obtain rfl := HR.out.2 ⟨by omega, by have := HALL.out.1; omega, fun d hd => by
          obtain ⟨j, hj, rfl⟩ := List.getElem_of_mem hd
          exact HALL.out.2 j _ hj (List.getElem?_eq_getElem hj)⟩
        go_wp2
        go_ret
        exact ⟨rfl, hB⟩
set_option maxRecDepth 100000 in
/-- isExpression. -/
theorem pExpr_any (k : Nat) (w : World) : Calls Tryz.prog 34 #[.int .u8 (k : Int)] w fun e w' => e = .returned (.bool (kExpr k)) ∧ w' = w := by
  by_cases h1 : 24 ≤ k
  · have g1 : (24 : Int) ≤ (k : Int) := by omega
    by_cases h2 : k = 35
    · subst h2
      go_enter Tryz.func34, Tryz.ntmps34
      go_wp2
      go_ret
      exact ⟨rfl, rfl⟩
    · have g2 : ((k : Int) != 35) = true := by simp only [bne_iff_ne, ne_eq]; omega
      go_enter Tryz.func34, Tryz.ntmps34
      go_wp2
      go_ret
      refine ⟨?_, rfl⟩
      unfold kExpr
      rw [decide_eq_true ⟨h1, h2⟩]
      rfl
  · have g1 : ¬ (24 : Int) ≤ (k : Int) := by omega
    go_enter Tryz.func34, Tryz.ntmps34
    go_wp2
    go_ret
    refine ⟨?_, rfl⟩
    unfold kExpr
    rw [decide_eq_false (by omega)]
    rfl
end Go.Proofs.YtahdnfogdnondaaGreatDoor
namespace Go.Proofs.YtahdnfogdnondaaGreatDoor
open Go.RowKit Go.Shelf
set_option linter.unusedVariables false
set_option linter.unusedSimpArgs false

/-- The powers' table is laid, and stays. -/
def TabOk (w : World) : Prop := ∀ W, Below w.heap.size w W → Lib.TabIs Tryz.prog W "internal/strconv.uint64pow10" .u64 Lib.pow10Tab
theorem it_tab {w : World} (h : TabOk w) {n : Int} (h0 : -9223372036854775808 ≤ n) (h1 : n ≤ 9223372036854775807) : ItC w n := fun W hW =>
  (Tryz.strconv_FormatInt_10 n h0 h1 W (h W hW)).mono fun e w' k => ⟨k.1, by
    obtain ⟨m, os, rfl⟩ := k.2
    exact Lib.below_grow _ _ (Nat.le_refl _) _ _⟩
theorem TabOk.bel {w W : World} (h : TabOk w) (hW : Below w.heap.size w W) : TabOk W := fun V hV => h V (below_aft hW hV)
theorem jn_join (sep : List UInt8) : ∀ l : List (List UInt8), jn sep l = Lib.join l sep
  | [] => rfl
  | [a] => by simp [jn, Lib.join, List.intercalate]
  | a :: b :: l => by
    rw [jn, jn_join sep (b :: l)]
    simp [Lib.join, List.intercalate]
theorem str_data (s : List UInt8) : (str s).data.toList = s := rfl
theorem lib_of {w : World} (h : TabOk w) : LibC w where
  int n h0 h1 := it_tab h h0 h1
  bool b W := (Tryz.strconv_FormatBool b W).mono fun e w' k => ⟨by rw [k.1]; cases b <;> rfl, k.2⟩
  pre x W := (Tryz.strings_HasPrefix (str x) ⟨#[38]⟩ W).mono fun e w' k => ⟨by
    rw [k.1, str_data]
    unfold Lib.hasPrefix
    cases x with
    | nil => rfl
    | cons a l =>
      show Ending.returned (.bool (List.isPrefixOf [38] (a :: l))) = _
      simp only [List.isPrefixOf, List.head?_cons, Option.some.injEq, Bool.and_true]
      congr 2
      by_cases e : a = 38
      · subst e; rfl
      · rw [decide_eq_false e]
        exact beq_eq_false_iff_ne.2 (fun h => e h.symm), k.2⟩
  join ts n W g hn h1 h2 hR := by
    subst hn
    have e1 : (ts.map str).map (·.data.toList) = ts := by
      rw [List.map_map]
      exact List.map_id'' (fun x => rfl) ts
    have hJ := Tryz.strings_Join g 0 ts.length (ts.map str) ⟨#[44, 32]⟩ W (fun j x hx => by
      rw [List.getElem?_map] at hx
      cases ht : ts[j]? with
      | none => rw [ht] at hx; cases hx
      | some t =>
        rw [ht] at hx
        cases hx
        rw [Nat.zero_add]
        exact hR.cell (by rw [List.getElem?_map, ht]; rfl)) hR.lt (by rw [List.length_map]; omega) (by rw [List.length_map]; exact Nat.le_refl _) (by
      rw [e1, show ((⟨#[44, 32]⟩ : ByteArray).data.toList) = [44, 32] from rfl, ← jn_join]; omega)
    rw [e1, show ((⟨#[44, 32]⟩ : ByteArray).data.toList) = [44, 32] from rfl, ← jn_join, List.length_map] at hJ
    exact hJ
set_option maxRecDepth 100000 in
set_option maxHeartbeats 4000000 in
/-- bounded. -/
theorem bounded_any (s : List UInt8) (h : s.length ≤ 140737488355328) (w : World) : Calls Tryz.prog 32 #[.string (str s)] w fun e w' => e = .returned (.tuple #[.string (if s.length ≤ 65536 then str s else ⟨#[]⟩), .int .i64 (if s.length ≤ 65536 then 0 else 3)]) ∧ Below w.heap.size w w' := by
  obtain ⟨sb, hsb⟩ : ∃ sb, sb = str s := ⟨_, rfl⟩
  obtain ⟨z, hz⟩ : ∃ z, sb.size = z := ⟨_, rfl⟩
  have e1 : z = s.length := by rw [← hz, hsb]; rfl
  have HC : Hid (∀ W, Calls Tryz.prog 57 #[.string sb] W fun e w' => e = .returned (.string sb) ∧ Below W.heap.size W w') := hidD (by rw [hsb]; exact fun W => clone_any s W h)
  by_cases hl : s.length ≤ 65536
  · rw [if_pos hl, if_pos hl, ← hsb]
    have g1 : ¬ (65536 : Int) < (z : Int) := by omega
    clear hsb e1 hl h
    go_enter Tryz.func32, Tryz.ntmps32
    go_wp2_with (go_at_call 57; refine (HC.out _).mono ?_; rintro e w1 ⟨rfl, hb1⟩)
    go_ret2
    exact ⟨rfl, hb1⟩
  · rw [if_neg hl, if_neg hl, ← hsb]
    have g1 : (65536 : Int) < (z : Int) := by omega
    clear hsb e1 hl h HC
    go_enter Tryz.func32, Tryz.ntmps32
    go_wp2_with fail
    go_ret2
    exact ⟨rfl, Below.refl _ _⟩
end Go.Proofs.YtahdnfogdnondaaGreatDoor
namespace Go.Proofs.YtahdnfogdnondaaGreatDoor
open Go.RowKit Go.Shelf
set_option linter.unusedVariables false
set_option linter.unusedSimpArgs false

set_option maxRecDepth 100000 in
set_option maxHeartbeats 4000000 in
/-- rooted, where the tree may not be. -/
theorem rooted_no {T : List Nd} {a : Option Addr} {cap : Nat} {w : World} (hT : TAt w a T) (hS : Sm T) (h : ¬ Mayb okP T) (fv : Value) :
    Calls Tryz.prog 27 #[trV a T.length cap, fv] w fun e w' => e = .returned (.bool false) ∧ Below w.heap.size w w' := by
  have A1 := At.new w (Tro a T.length cap)
  obtain ⟨c0, f0⟩ := A1.one
  have HC := hidD (may_no (cap := cap) (hT.below (belA (o := Tro a T.length cap) (Below.refl _ _))) hS h)
  clear A1 hT hS h
  go_enter Tryz.func27, Tryz.ntmps27
  go_wp2_with (go_at_call 24; refine HC.out.mono ?_; rintro e w1 ⟨rfl, hb1⟩)
  go_ret
  exact ⟨rfl, below1 hb1⟩
set_option maxRecDepth 100000 in
set_option maxHeartbeats 4000000 in
/-- rooted: of a tree that may be, what is asked of its root's kind. -/
theorem rooted_yes {T : List Nd} {a : Option Addr} {cap : Nat} {w : World} (hT : TAt w a T) (hS : Sm T) (h : Mayb okP T) (fn : Nat) (hfn : fn = 34 ∨ fn = 28 ∨ fn = 36 ∨ fn = 42) {d : Nd} (hd : T[0]? = some d) (b : Bool)
    (hF : ∀ W : World, Calls Tryz.prog fn #[.int .u8 (d.x.k : Int)] W fun e w' => e = .returned (.bool b) ∧ w' = W) :
    Calls Tryz.prog 27 #[trV a T.length cap, .func (.func fn) #[] #[]] w fun e w' => e = .returned (.bool b) ∧ Below w.heap.size w w' := by
  have A1 := At.new w (Tro a T.length cap)
  have hB1 : Below w.heap.size w (w.alloc (Tro a T.length cap)) := belA (Below.refl _ _)
  have HC := hidD (may_yes (cap := cap) (hT.below hB1) hS h)
  have HA := hidD A1
  have HT := hidD hT
  have HD := hidD hd
  have hn : 0 < T.length := (List.getElem?_eq_some_iff.1 hd).1
  have o1 : (0 : Int) < (T.length : Int) := by omega
  obtain ⟨c0, f0⟩ := A1.one
  clear hT hS h hd
  rcases hfn with rfl | rfl | rfl | rfl
  all_goals
    go_enter Tryz.func27, Tryz.ntmps27
    go_wp2_with (first
      | (go_at_call 24; refine HC.out.mono ?_; rintro e w1 ⟨rfl, hb1⟩; have HB2 := hidD (below1 hb1); obtain ⟨d0, e0⟩ := (HA.out.below hb1).one; obtain ⟨g, off, rfl, hN⟩ := nd_at (HT.out.below HB2.out) HD.out; obtain ⟨hg, n0, n1, n2, n3, al, capl, n4, hrow⟩ := hN; rw [Nat.zero_mul, Nat.add_zero] at n0 n1 n2 n3 n4; clear n1 n2 n3 n4 hrow hb1)
      | (go_at_call 34; refine (hF _).mono ?_; rintro e w2 ⟨rfl, rfl⟩)
      | (go_at_call 28; refine (hF _).mono ?_; rintro e w2 ⟨rfl, rfl⟩)
      | (go_at_call 36; refine (hF _).mono ?_; rintro e w2 ⟨rfl, rfl⟩)
      | (go_at_call 42; refine (hF _).mono ?_; rintro e w2 ⟨rfl, rfl⟩))
    go_ret
    exact ⟨rfl, HB2.out⟩
end Go.Proofs.YtahdnfogdnondaaGreatDoor
