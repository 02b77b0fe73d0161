import Derived.Test.YtddjmhfcaeckgaaDoorZf
import Derived.RangeFuncNested
import Derived.RangeFuncBound
import Derived.RangeFuncCalls
import Derived.RangeFuncLeaves
import Derived.Shelf.Abstract
import Derived.Shelf.RegionOpen
import Derived.WalkKit
import Derived.OwnWalkIn
import Derived.TacticsInMore
import Derived.LoopNIn
import Derived.LoopIn
namespace Go.Proofs.YtddjmhfcaeckgaaDoor
open Go.RowKit Go.Shelf
attribute [local go_sem] Oper.semAt_some
set_option linter.unusedVariables false
set_option linter.unusedSimpArgs false

/-- The table of the library's trailing zeros lies in the first block. -/
def Tab (w : World) : Prop := 0 < w.heap.size ∧ ∀ j, j < 64 → w.cell? ⟨0, j, none⟩ = some (.int .u8 (Lib.deBruijn64tab.getD j 0))
theorem Tab.same {w w' : World} (h : Tab w) (hs : w'.heap[0]? = w.heap[0]?) : Tab w' := by
  refine ⟨?_, fun j hj => (World.cell?_of_block (w := w) (a := ⟨0, j, none⟩) hs).trans (h.2 j hj)⟩
  have h0 := h.1
  have : w.heap[0]? = some w.heap[0] := Array.getElem?_eq_getElem h0
  rw [this] at hs
  exact (Array.getElem?_eq_some_iff.1 hs).1
theorem Tab.below {w w' : World} {B : Nat} (h : Tab w) (hb : Below B w w') (hB : 0 < B) : Tab w' := h.same (hb.block 0 hB)
theorem Tab.belowAll {w w' : World} (h : Tab w) (hb : Below w.heap.size w w') : Tab w' := h.below hb h.1
theorem tz_key (x a : Nat) (hx : x < 18446744073709551616) (hx0 : x ≠ 0) (hlow : x &&& (18446744073709551616 - x) = a) :
    IntKind.u64.wrap (bits BinOp.and IntKind.u64 (x : Int) (IntKind.u64.wrap (-(x : Int))) * 285870213051353865) / 288230376151711744 = ((a * 285870213051353865 % 18446744073709551616 / 288230376151711744 : Nat) : Int) := by
  have e1 : IntKind.u64.wrap (-(x : Int)) = ((18446744073709551616 - x : Nat) : Int) := by rw [IntKind.wrap_u64]; omega
  rw [e1, bits_and_u64_nat x _ hx (by omega), hlow, IntKind.wrap_u64]
  omega
set_option maxHeartbeats 1000000 in
theorem tz_core (x k idx : Nat) (w : World) (hx0 : ((x : Int) == 0) = false)
    (key : IntKind.u64.wrap (bits BinOp.and IntKind.u64 (x : Int) (IntKind.u64.wrap (-(x : Int))) * 285870213051353865) / 288230376151711744 = (idx : Int))
    (hi : idx < 64) (hk : k < 64) (hcell : w.cell? ⟨0, idx, none⟩ = some (.int .u8 k)) :
    Calls Tryd.prog 48 #[.int .u64 x] w fun e w' => e = .returned (.int .i64 k) ∧ w' = w := by
  go_enter Tryd.func48, Tryd.ntmps48
  go_wp2_with (simp only [key])
  go_ret
  exact ⟨rfl, rfl⟩
theorem tz_any (z : Int) (q : Nat) (w : World) (h0 : 0 < z) (h1 : z < 18446744073709551616) (hq : low z = q) (hT : Tab w) :
    Calls Tryd.prog 48 #[.int .u64 z] w fun e w' => e = .returned (.int .i64 q) ∧ w' = w := by
  obtain ⟨x, rfl⟩ := Int.eq_ofNat_of_zero_le (Int.le_of_lt h0)
  have hx0 : x ≠ 0 := by omega
  obtain ⟨hlow, hk⟩ := Lib.lowest_bit 64 x hx0 (by omega)
  obtain ⟨hi, htab⟩ := Lib.deBruijn64_at _ hk
  have hcell := hT.2 _ hi
  rw [htab] at hcell
  have e : low (x : Int) = Lib.ctz 64 x := by unfold low; rw [Int.toNat_natCast]
  rw [← hq, e]
  exact tz_core x _ _ w (by simp; omega) (tz_key x _ (by omega) hx0 hlow) hi hk hcell

/-- A bit's number. -/
abbrev K := { k : Nat // k < 1088 }
/-- The numbers of a list of them. -/
def ks (l : List K) : List Nat := l.map (·.1)
theorem ks_snoc (l : List K) (k : K) : ks (l ++ [k]) = ks l ++ [k.1] := by simp [ks]
theorem ks_snoc' (l : List K) (k : K) {m : Nat} (h : k.1 = m) (r : List Nat) : ks (l ++ [k]) ++ r = ks l ++ m :: r := by subst h; simp [ks]
/-- What a round keeps: the words that are gone over, and the library's table. -/
def Two2 (g : Nat) (A B : World) : Prop := B.heap[g]? = A.heap[g]? ∧ B.heap[0]? = A.heap[0]?
theorem two_t {g : Nat} {A B C : World} (h : Two2 g A B) (k : Two2 g B C) : Two2 g A C := ⟨k.1.trans h.1, k.2.trans h.2⟩
theorem two_below {g B : Nat} {A C : World} (h : Below B A C) (h1 : g < B) (h2 : 0 < B) : Two2 g A C := ⟨h.block g h1, h.block 0 h2⟩
theorem two_b {g : Nat} {w : World} (h1 : g < w.heap.size) (h2 : 0 < w.heap.size) (W : World) (l : Nat) (o o' : Obj) (hl : w.heap.size ≤ l) (h : W.heap[l]? = some o) (hc : o.isCells = false) (hw : o.isWalk = false) : Two2 g W (W.putObj l o') :=
  two_below (belowK_b (n₀ := w.heap.size) (w := w) (Nat.le_refl _) W l o o' hl h hc hw) h1 h2

set_option maxRecDepth 100000 in
set_option maxHeartbeats 2000000 in
theorem each2_in (nn l Bx g n cap : Nat) (hnn : 1 ≤ nn) (x : Int) (zs : List Int) (hz : zs.length = n) (hn : n ≤ 17) (hwd : Words zs) (J Jx : List K → World → Prop)
    (hY : ∀ pre x W, J pre W → pre.length < (rs (gb zs) 0 (64 * n)).length → YieldAt Fence.wide (nn - 1) Tryd.prog l #[.int .i64 ((x : K).1 : Int)] W fun e W' =>
      (e = .returned (.bool true) ∧ J (pre ++ [x]) W' ∧ Two2 g W W') ∨ (e = .returned (.bool false) ∧ Jx (pre ++ [x]) W'))
    (W : World) (hbx : At W Bx (Two (.int .i64 x) (.slice (some ⟨g, 0, none⟩) n cap))) (hg : Blk W g zs) (hT : Tab W) (h0 : J [] W) :
    CallsIn Fence.wide nn Tryd.prog 47 #[.func (.yield l) #[] #[], .pointer (some ⟨Bx, 0, none⟩)] W fun e W' => (∃ v, e = .returned v) ∧
      ((∃ ys, ks ys = rs (gb zs) 0 (64 * n) ∧ J ys W') ∨ (∃ pre, ks pre <+: rs (gb zs) 0 (64 * n) ∧ Jx pre W')) := by
  obtain ⟨c0, c1, f0⟩ := hbx.all
  refine callsIn_of_wp Tryd.func47 rfl trivial ?_ rfl
  simp only [Tryd.ntmps47, List.size_toArray, List.length_cons, List.length_nil, Nat.reduceAdd, Nat.reduceSub, Array.replicate_succ, Array.replicate_zero, List.push_toArray, List.append_toArray, List.nil_append, List.cons_append]
  gi_wp2
  gi_loopw [8] (fun iv wr => ∃ (i : Nat) (pre : List K), i ≤ n ∧ iv = .int .i64 i ∧ J pre wr ∧ Two2 g W wr ∧ ks pre ++ rs (gb zs) (64 * i) (64 * n) = rs (gb zs) 0 (64 * n)) (fun iv _ => n - (intOf iv).toNat)
  case atStart => exact ⟨0, [], Nat.zero_le _, rfl, h0, ⟨rfl, rfl⟩, rfl⟩
  case round =>
    obtain ⟨i, pre, hi, rfl, hJ, h2, hpre⟩ := hrel
    by_cases hlt : i < n
    · have hgr : Blk wr g zs := h2.1.trans hg
      have hcell := hgr.cell i (by omega)
      obtain ⟨z, hzz⟩ : ∃ z, z = zs.getD i 0 := ⟨_, rfl⟩
      rw [← hzz] at hcell
      have hwz := hwd i
      rw [← hzz] at hwz
      have HZ : Hid (z = zs.getD i 0) := hzz
      have HP : Hid (ks pre ++ rs (gb zs) (64 * i) (64 * n) = rs (gb zs) 0 (64 * n)) := hpre
      clear hpre hzz
      have hi1 : (0 : Int) ≤ (i : Int) := by omega
      have hi2 : (i : Int) < (n : Int) := by omega
      gi_wp2
      gi_loopw [4] (fun v wx => ∃ (u : Int) (p : Nat) (pr : List K), v = .int .u64 u ∧ Left u z p ∧ J pr wx ∧ Two2 g W wx ∧ Hid (ks pr ++ rs (gb zs) (64 * i + p) (64 * n) = rs (gb zs) 0 (64 * n))) (fun v _ => (intOf v).toNat)
      case atStart => exact ⟨z, 0, pre, rfl, left_start hwz.1 hwz.2, hJ, h2, HP.out⟩
      case round =>
        obtain ⟨u, p, pr, rfl, hL, hJ', h2', hpr⟩ := hrel
        have HL : Hid (Left u z p) := hL
        obtain ⟨hu0, hu1, hp, _⟩ := hL
        by_cases hu : u = 0
        · subst hu
          gi_wp2
          go_roundw
          case rel => exact ⟨i + 1, pr, by omega, by go_num, hJ', h2', by rw [← left_none (n := n) (p := p) (w := 0) (by rw [← HZ.out]; exact HL.out) hlt rfl]; exact hpr.out⟩
          case measure => simp [intOf]; omega
        · obtain ⟨e1, e2, e3, e4⟩ := left_next (n := n) (by rw [← HZ.out]; exact HL.out) hlt hu
          rw [← HZ.out] at e3
          obtain ⟨q, hq⟩ : ∃ q, low u = q := ⟨_, rfl⟩
          rw [hq] at e1 e2 e3
          have HE1 : Hid (rs (gb zs) (64 * i + p) (64 * n) = (64 * i + q) :: rs (gb zs) (64 * i + (q + 1)) (64 * n)) := e1
          have HE3 : Hid (Left (bits .and .u64 u (u - 1)) z (q + 1)) := e3
          have HE4 : Hid (bits .and .u64 u (u - 1) < u) := e4
          have hT' : Tab wr := hT.same h2'.2
          have hlen : pr.length < (rs (gb zs) 0 (64 * n)).length := by
            rw [← hpr.out, e1]; simp [ks]
          obtain ⟨fn, tmps, assign, body, hy, hR⟩ := hY pr ⟨i * 64 + q, by omega⟩ wr hJ' hlen
          have hcast : ((i * 64 + q : Nat) : Int) = (i : Int) * 64 + (q : Int) := by omega
          dsimp only at hy
          rw [hcast] at hy
          have hub : (u == 0) = false := by simpa using hu
          clear e1 e3 e4 hlen hcast
          gi_wp2_with (refine ⟨trivial, ?_⟩; gi_at_call 48; refine (callsIn_wide.2 (tz_any u q wr (by omega) hu1 hq hT')).mono ?_; rintro e w' ⟨rfl, rfl⟩)
          refine hR.mono ?_
          rintro e W3 (⟨rfl, hJ3, hk3⟩ | ⟨rfl, hJx3⟩)
          · gi_wp2
            go_roundw
            case rel => exact ⟨_, q + 1, _, rfl, HE3.out, hJ3, two_t h2' hk3, by
              show _ = _
              rw [← hpr.out, HE1.out]
              exact ks_snoc' _ _ (by show i * 64 + q = 64 * i + q; omega) _⟩
            case measure =>
              have := HE4.out
              have := HE3.out.1
              simp [intOf]; omega
          · gi_wp2
            refine bodyPost_ret (results_none rfl _ _ _) rfl ?_
            refine ⟨⟨_, rfl⟩, .inr ⟨_, ?_, hJx3⟩⟩
            refine ⟨rs (gb zs) (64 * i + (q + 1)) (64 * n), ?_⟩
            rw [← hpr.out, HE1.out]
            exact ks_snoc' _ _ (by show i * 64 + q = 64 * i + q; omega) _
    · have hin : i = n := by omega
      subst hin
      gi_wp2
      go_end0
      refine ⟨⟨_, rfl⟩, .inl ⟨pre, ?_, hJ⟩⟩
      rw [rs_end, List.append_nil] at hpre
      exact hpre
end Go.Proofs.YtddjmhfcaeckgaaDoor
