import Derived.Test.YtddjmhfcaeckgaaDoorO
import Derived.StillTailTactics
namespace Go.Proofs.YtddjmhfcaeckgaaDoor
open Go.RowKit
set_option linter.unusedVariables false
set_option linter.unusedSimpArgs false

/-- A block of bytes of its own. -/
def Byt (w : World) (g : Nat) (bs : List Int) : Prop := w.heap[g]? = some (.cells (bs.map (Value.int .u8)).toArray 5 (0, 0))
theorem Byt.at {w : World} {g : Nat} {bs : List Int} (h : Byt w g bs) : At w g (.cells (bs.map (Value.int .u8)).toArray 5 (0, 0)) := h
theorem Byt.cell {w : World} {g : Nat} {bs : List Int} (h : Byt w g bs) (i : Nat) (hi : i < bs.length) : w.cell? ⟨g, i, none⟩ = some (.int .u8 (bs.getD i 0)) := by
  unfold Byt at h
  simp [World.cell?, h, hi]
theorem Byt.frozen {w : World} {g : Nat} {bs : List Int} (h : Byt w g bs) (i : Nat) : w.frozen? ⟨g, i, none⟩ = false := frozen_of_row w g i _ 5 h
theorem Byt.set {w : World} {g : Nat} {bs : List Int} (h : Byt w g bs) (i : Nat) (z : Int) : Byt (w.setCell ⟨g, i, none⟩ (.int .u8 z)) g (bs.set i z) := by
  have := heap_setCell_same w g i _ 5 (.int .u8 z) h
  unfold Byt
  rw [this, List.map_set]
  simp
/-- The byte with the one bit k % 8. -/
def bbit (k : Int) : Int := 128 / 2 ^ (k % 8).toNat
/-- A bit is put behind the others. -/
def putF (s : Bool) (bs : List Int) (k : Nat) : List Int := if s then bs.set (k / 8) (bits .or .u8 (bs.getD (k / 8) 0) (bbit k)) else bs
theorem byteBit_b (x : Int) (w : World) (h0 : 0 ≤ x) (h1 : x ≤ 1032) : Calls Tryd.prog 55 #[.int .i64 x] w fun e w' => e = .returned (.int .u8 (bbit x)) ∧ w' = w := byteBit_any x w h0 h1
/-- A variable of one cell. -/
abbrev One (v : Value) (t : Nat) : Obj := .cells #[v] t (0, 0)
theorem At.one {w : World} {b t : Nat} {v : Value} (h : At w b (One v t)) : w.cell? ⟨b, 0, none⟩ = some v ∧ w.frozen? ⟨b, 0, none⟩ = false := ⟨cell_of_one h, free_of_one h⟩
theorem At.setOne {w : World} {b t : Nat} {v : Value} (h : At w b (One v t)) (u : Value) : At (w.setCell ⟨b, 0, none⟩ u) b (One u t) := one_setCell h

theorem put_false (bo bk g m k : Nat) (bs : List Int) (w : World) (ho : At w bo (One (.slice (some ⟨g, 0, none⟩) m m) 71)) (hk : At w bk (One (.int .i64 k) 3)) (hg : Byt w g bs) (hkm : k ≤ 1032) (h1 : bo ≠ bk) (h2 : g ≠ bk) :
    Calls Tryd.prog 54 #[.bool false, .pointer (some ⟨bo, 0, none⟩), .pointer (some ⟨bk, 0, none⟩)] w fun e w' => e = .returned (.tuple #[]) ∧ At w' bo (One (.slice (some ⟨g, 0, none⟩) m m) 71) ∧ At w' bk (One (.int .i64 (k + 1 : Nat)) 3) ∧ Byt w' g (putF false bs k) ∧ ∀ B, B ≤ bk → B ≤ g → Below B w w' := by
  obtain ⟨c1, f1⟩ := hk.one
  go_enter Tryd.func54, Tryd.ntmps54
  go_wp2
  go_end0
  exact ⟨rfl, ho.set h1 _, hk.setOne _, hg.at.set h2 _, fun B hB _ => (Below.refl _ _).setCell hB _⟩

set_option maxHeartbeats 1000000 in
theorem put_true (bo bk g m k : Nat) (bs : List Int) (w : World) (ho : At w bo (One (.slice (some ⟨g, 0, none⟩) m m) 71)) (hk : At w bk (One (.int .i64 k) 3)) (hg : Byt w g bs) (hm : bs.length = m) (hkm : k ≤ 1032) (hkk : k / 8 < m) (h1 : bo ≠ bk) (h2 : g ≠ bk) (h3 : bo ≠ g) :
    Calls Tryd.prog 54 #[.bool true, .pointer (some ⟨bo, 0, none⟩), .pointer (some ⟨bk, 0, none⟩)] w fun e w' => e = .returned (.tuple #[]) ∧ At w' bo (One (.slice (some ⟨g, 0, none⟩) m m) 71) ∧ At w' bk (One (.int .i64 (k + 1 : Nat)) 3) ∧ Byt w' g (putF true bs k) ∧ ∀ B, B ≤ bk → B ≤ g → Below B w w' := by
  obtain ⟨c1, f1⟩ := hk.one
  obtain ⟨c2, f2⟩ := ho.one
  obtain ⟨q, hqq⟩ : ∃ q, q = k / 8 := ⟨_, rfl⟩
  have hq : ((k : Int)) / 8 = (q : Int) := by omega
  have hqm : q < m := by omega
  have c3 := hg.cell q (by omega)
  have f3 := hg.frozen
  have h1' : bk ≠ bo := h1.symm
  have h2' : bk ≠ g := h2.symm
  have h3' : g ≠ bo := h3.symm
  have hx1 : (0 : Int) ≤ (q : Int) := by omega
  have hx2 : (q : Int) < (m : Int) := by omega
  have hx3 : IntKind.i64.wrap (q : Int) = (q : Int) := IntWalk.i64_in _ ⟨by omega, by omega⟩
  have hx4 : (k : Int).tdiv 8 = (q : Int) := (Int.tdiv_eq_ediv_of_nonneg (by omega)).trans hq
  have HF : Hid (putF true bs k = bs.set q (bits .or .u8 (bs.getD q 0) (bbit k))) := by
    show putF true bs k = _
    rw [hqq]; rfl
  have hlen : q < bs.length := by omega
  clear hqq hkk
  go_enter Tryd.func54, Tryd.ntmps54
  go_wp2
  refine wp_region_still_tail 9 (by kernel_rfl) (by kernel_rfl) ?_
  simp only [List.take_succ_cons, List.take_zero, List.drop_succ_cons, List.drop_zero]
  change wpStill _ _ (World.drew w) (fun a' => wpList _ _ _ _ a' (World.drew w)) _ _
  iterate 6 still_step
  still_call (byteBit_b (k : Int) w.drew (by omega) (by omega))
  iterate 2 still_step
  refine wpStill_nil ?_
  go_wp2
  go_end0
  have e : bs.getD q 0 = bs[q] := by simp [hlen]
  refine ⟨rfl, ((ho.set h3 _).set h1 _).drew, ((hk.set h2' _).setOne _).drew, ?_, fun B hB hB' => (((Below.refl _ _).setCell hB' _).setCell hB _).drew⟩
  rw [HF.out, e]
  exact ((hg.set q _).at.set h2 _).drew
/-- The bytes behind k bits. -/
def bst (zs : List Int) (m : Nat) : Nat → List Int
  | 0 => List.replicate m 0
  | k + 1 => putF (getB zs k) (bst zs m k) k
theorem bst_len (zs : List Int) (m : Nat) : ∀ k, (bst zs m k).length = m := by
  intro k
  induction k with
  | zero => simp [bst]
  | succ k ih => unfold bst putF; split <;> simp [ih]
theorem put_any (s : Bool) (bo bk g m k : Nat) (bs : List Int) (w : World) (ho : At w bo (One (.slice (some ⟨g, 0, none⟩) m m) 71)) (hk : At w bk (One (.int .i64 k) 3)) (hg : Byt w g bs) (hm : bs.length = m) (hkm : k ≤ 1032) (hkk : k / 8 < m) (h1 : bo ≠ bk) (h2 : g ≠ bk) (h3 : bo ≠ g) :
    Calls Tryd.prog 54 #[.bool s, .pointer (some ⟨bo, 0, none⟩), .pointer (some ⟨bk, 0, none⟩)] w fun e w' => e = .returned (.tuple #[]) ∧ At w' bo (One (.slice (some ⟨g, 0, none⟩) m m) 71) ∧ At w' bk (One (.int .i64 (k + 1 : Nat)) 3) ∧ Byt w' g (putF s bs k) ∧ ∀ B, B ≤ bk → B ≤ g → Below B w w' := by
  cases s
  · exact put_false bo bk g m k bs w ho hk hg hkm h1 h2
  · exact put_true bo bk g m k bs w ho hk hg hm hkm hkk h1 h2 h3

theorem Tryd.info5 : (Tryd.prog.info? 5).map (fun i => (i.zero, i.size, i.bytes)) = some (some (.int .u8 0), 1, 1) := by kernel_rfl
theorem byt_made {w : World} {base g n : Nat} (h : w.ownsRow base 5 1 (.slice (some ⟨g, 0, none⟩) n n) n (madeCells (Value.int .u8 0).cells (n * 1)).toList) : Byt w g (List.replicate n 0) := by
  rcases h.2 with ⟨h', _⟩ | ⟨g', cap', cur, h', _, hg, _, _, hs, htake⟩
  · simp at h'
  · simp only [Value.slice.injEq, Option.some.injEq, Addr.mk.injEq, and_true, true_and] at h'
    obtain ⟨rfl, rfl⟩ := h'
    have hc : (Value.int IntKind.u8 0).cells = #[Value.int IntKind.u8 0] := rfl
    rw [hc, toList_madeCells_one, List.take_of_length_le (by simp; omega)] at htake
    unfold Byt
    rw [hg, List.map_replicate]
    congr 2
    apply Array.toList_inj.1
    rw [htake]; simp
theorem byteCount_any (x : Int) (w : World) (h0 : 0 ≤ x) (h1 : x ≤ 1032) : Calls Tryd.prog 53 #[.int .i64 x] w fun e w' => e = .returned (.int .i64 ((x + 7) / 8)) ∧ w' = w := by
  go_enter Tryd.func53, Tryd.ntmps53
  go_wp2
  go_ret
  exact ⟨ret_int (by omega), rfl⟩
end Go.Proofs.YtddjmhfcaeckgaaDoor
