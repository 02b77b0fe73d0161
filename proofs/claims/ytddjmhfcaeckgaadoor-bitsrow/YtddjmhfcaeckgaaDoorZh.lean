import Derived.Test.YtddjmhfcaeckgaaDoorZf
namespace Go.Proofs.YtddjmhfcaeckgaaDoor
open Go.RowKit
set_option linter.unusedVariables false
set_option linter.unusedSimpArgs false

/-- Word by word: the first k words are put together. -/
def mixr (op : BinOp) (zs ys : List Int) : Nat → List Int
  | 0 => zs
  | k + 1 => (mixr op zs ys k).set k (bits op .u64 ((mixr op zs ys k).getD k 0) (ys.getD k 0))
theorem mixr_len (op : BinOp) (zs ys : List Int) : ∀ k, (mixr op zs ys k).length = zs.length := by
  intro k
  induction k with
  | zero => rfl
  | succ k ih => unfold mixr; rw [List.length_set, ih]
theorem mixr_at (op : BinOp) (zs ys : List Int) {j : Nat} (hj : j < zs.length) : ∀ k, (mixr op zs ys k).getD j 0 = if j < k then bits op .u64 (zs.getD j 0) (ys.getD j 0) else zs.getD j 0 := by
  intro k
  induction k with
  | zero => simp [mixr]
  | succ k ih =>
    unfold mixr
    have hl := mixr_len op zs ys k
    rw [List.getD_eq_getElem?_getD, List.getElem?_set]
    by_cases e : k = j
    · subst e
      rw [if_pos rfl, if_pos (by omega), if_pos (by omega)]
      rw [ih, if_neg (by omega)]
      rfl
    · rw [if_neg e, ← List.getD_eq_getElem?_getD, ih]
      by_cases h : j < k
      · rw [if_pos h, if_pos (by omega)]
      · rw [if_neg h, if_neg (by omega)]
theorem mixr_all (op : BinOp) (zs ys : List Int) {n : Nat} (h1 : zs.length = n) (h2 : ys.length = n) : mixr op zs ys n = jn op zs ys := by
  apply List.ext_getElem
  · rw [mixr_len, jn_len op zs ys h1 h2, h1]
  · intro i hi1 hi2
    have hi : i < n := by rw [mixr_len, h1] at hi1; exact hi1
    have e1 : (mixr op zs ys n).getD i 0 = (mixr op zs ys n)[i] := by simp [hi1]
    have e2 : (jn op zs ys).getD i 0 = (jn op zs ys)[i] := by simp [hi2]
    rw [← e1, ← e2, mixr_at op zs ys (by omega), if_pos hi, jn_at op zs ys h1 h2 hi]
theorem mix_step {op : BinOp} {L ms : List Int} {g k : Nat} {z : Int} {w : World} (HT : Hid (L = ms.set k (bits op .u64 (ms.getD k 0) z))) (hk : k < ms.length) (h : Blk w g ms) : Blk (w.setCell ⟨g, k, none⟩ (.int .u64 (bits op .u64 ms[k] z))) g L := by
  have e : ms.getD k 0 = ms[k] := by simp [hk]
  rw [HT.out, e]
  exact h.set k _
theorem below3' {w w1 : World} {o1 o2 o3 : Obj} (hb : Below (((w.alloc o1).alloc o2).alloc o3).heap.size (((w.alloc o1).alloc o2).alloc o3) w1) : Below w.heap.size w w1 :=
  ((((Below.refl _ _).alloc (Nat.le_refl _) o1).alloc (by simp) o2).alloc (by simp; omega) o3).trans (hb.mono (by simp; omega))

theorem beside_no1 (x y : Int) (a1 a2 : Option Addr) (n1 n2 cap1 cap2 : Nat) (ys : List Int) (w : World) (hz2 : ys.length = n2) (hm2 : n2 ≤ maxLen) (hc2 : Cells w a2 ys) (hy : mayB y ys = false) :
    Calls Tryd.prog 52 #[.agg #[.int .i64 x, .slice a1 n1 cap1], .agg #[.int .i64 y, .slice a2 n2 cap2]] w fun e w' => e = .returned (.tuple #[.agg #[.int .i64 0, .slice none 0 0], .int .i64 2]) ∧ Below w.heap.size w w' := by
  have b3 := At.new ((w.alloc (Two (.int .i64 x) (.slice a1 n1 cap1))).alloc (Two (.int .i64 y) (.slice a2 n2 cap2))) (Two (.int .i64 0) (.slice none 0 0))
  simp only [World.size_alloc] at b3
  have hd2 := ((hc2.alloc (Two (.int .i64 x) (.slice a1 n1 cap1))).alloc (Two (.int .i64 y) (.slice a2 n2 cap2))).alloc (Two (.int .i64 0) (.slice none 0 0))
  go_enter Tryd.func52, Tryd.ntmps52
  go_wp2_with (go_at_call 9; refine (may_no _ _ _ _ ys _ hz2 hm2 hd2 hy).mono ?_; rintro e w1 ⟨rfl, hb1⟩; have b31 := b3.below hb1; obtain ⟨c30, c31, f3⟩ := b31.all)
  refine bodyPost_ret (v := .tuple #[.agg #[.int .i64 0, .slice none 0 0], .int .i64 2]) (by simp [results, Tryd.results52, go_sem, c30, c31]) rfl ⟨rfl, ?_⟩
  exact below_setTwo (below3' hb1) (by omega) _ _
theorem beside_no2 (x y : Int) (a1 a2 : Option Addr) (n1 n2 cap1 cap2 : Nat) (ys : List Int) (w : World) (hz2 : ys.length = n2) (hc2 : Cells w a2 ys) (hy : mayB y ys = true) (hxy : x ≠ y) :
    Calls Tryd.prog 52 #[.agg #[.int .i64 x, .slice a1 n1 cap1], .agg #[.int .i64 y, .slice a2 n2 cap2]] w fun e w' => e = .returned (.tuple #[.agg #[.int .i64 0, .slice none 0 0], .int .i64 2]) ∧ Below w.heap.size w w' := by
  have b1 := ((At.new w (Two (.int .i64 x) (.slice a1 n1 cap1))).alloc (Two (.int .i64 y) (.slice a2 n2 cap2))).alloc (Two (.int .i64 0) (.slice none 0 0))
  have b2 := (At.new (w.alloc (Two (.int .i64 x) (.slice a1 n1 cap1))) (Two (.int .i64 y) (.slice a2 n2 cap2))).alloc (Two (.int .i64 0) (.slice none 0 0))
  have b3 := At.new ((w.alloc (Two (.int .i64 x) (.slice a1 n1 cap1))).alloc (Two (.int .i64 y) (.slice a2 n2 cap2))) (Two (.int .i64 0) (.slice none 0 0))
  simp only [World.size_alloc] at b2 b3
  have hd2 := ((hc2.alloc (Two (.int .i64 x) (.slice a1 n1 cap1))).alloc (Two (.int .i64 y) (.slice a2 n2 cap2))).alloc (Two (.int .i64 0) (.slice none 0 0))
  have hne : (x != y) = true := by simpa using hxy
  go_enter Tryd.func52, Tryd.ntmps52
  go_wp2_with (go_at_call 9; refine (may_yes _ _ _ _ ys _ hz2 hd2 hy).mono ?_; rintro e w1 ⟨rfl, hb1⟩; have b11 := b1.below hb1; have b21 := b2.below hb1; have b31 := b3.below hb1; obtain ⟨c10, c11, f1⟩ := b11.all; obtain ⟨c20, c21, f2⟩ := b21.all; obtain ⟨c30, c31, f3⟩ := b31.all)
  refine bodyPost_ret (v := .tuple #[.agg #[.int .i64 0, .slice none 0 0], .int .i64 2]) (by simp [results, Tryd.results52, go_sem, c30, c31]) rfl ⟨rfl, ?_⟩
  exact below_setTwo (below3' hb1) (by omega) _ _
theorem beside_no3 (x : Int) (a1 a2 : Option Addr) (n1 n2 cap1 cap2 : Nat) (zs ys : List Int) (w : World) (hz1 : zs.length = n1) (hm1 : n1 ≤ maxLen) (hc1 : Cells w a1 zs) (hz2 : ys.length = n2) (hc2 : Cells w a2 ys) (hy : mayB x ys = true) (hx : mayB x zs = false) :
    Calls Tryd.prog 52 #[.agg #[.int .i64 x, .slice a1 n1 cap1], .agg #[.int .i64 x, .slice a2 n2 cap2]] w fun e w' => e = .returned (.tuple #[.agg #[.int .i64 0, .slice none 0 0], .int .i64 2]) ∧ Below w.heap.size w w' := by
  have b1 := ((At.new w (Two (.int .i64 x) (.slice a1 n1 cap1))).alloc (Two (.int .i64 x) (.slice a2 n2 cap2))).alloc (Two (.int .i64 0) (.slice none 0 0))
  have b2 := (At.new (w.alloc (Two (.int .i64 x) (.slice a1 n1 cap1))) (Two (.int .i64 x) (.slice a2 n2 cap2))).alloc (Two (.int .i64 0) (.slice none 0 0))
  have b3 := At.new ((w.alloc (Two (.int .i64 x) (.slice a1 n1 cap1))).alloc (Two (.int .i64 x) (.slice a2 n2 cap2))) (Two (.int .i64 0) (.slice none 0 0))
  simp only [World.size_alloc] at b2 b3
  have hd1 := ((hc1.alloc (Two (.int .i64 x) (.slice a1 n1 cap1))).alloc (Two (.int .i64 x) (.slice a2 n2 cap2))).alloc (Two (.int .i64 0) (.slice none 0 0))
  have hd2 := ((hc2.alloc (Two (.int .i64 x) (.slice a1 n1 cap1))).alloc (Two (.int .i64 x) (.slice a2 n2 cap2))).alloc (Two (.int .i64 0) (.slice none 0 0))
  go_enter Tryd.func52, Tryd.ntmps52
  go_wp2_with (first
    | (go_at_call 9; refine (may_yes _ _ _ _ ys _ hz2 hd2 hy).mono ?_; rintro e w1 ⟨rfl, hb1⟩; have b11 := b1.below hb1; have b21 := b2.below hb1; have b31 := b3.below hb1; have hd11 := hd1.below hb1; obtain ⟨c10, c11, f1⟩ := b11.all; obtain ⟨c20, c21, f2⟩ := b21.all)
    | (go_at_call 16; refine (own_no _ _ _ _ zs _ hz1 hm1 hd11 hx).mono ?_; rintro e w2 ⟨rfl, hb2⟩; have b32 := b31.below hb2; obtain ⟨c30, c31, f3⟩ := b32.all))
  refine bodyPost_ret (v := .tuple #[.agg #[.int .i64 0, .slice none 0 0], .int .i64 2]) (by simp [results, Tryd.results52, go_sem, c30, c31]) rfl ⟨rfl, ?_⟩
  have hB := below3' hb1
  exact below_setTwo (hB.trans (hb2.mono hB.size)) (by omega) _ _
theorem beside_yes (x : Int) (a1 a2 : Option Addr) (n1 n2 cap1 cap2 : Nat) (zs ys : List Int) (w : World) (hz1 : zs.length = n1) (hc1 : Cells w a1 zs) (hz2 : ys.length = n2) (hc2 : Cells w a2 ys) (hy : mayB x ys = true) (hx : mayB x zs = true) :
    Calls Tryd.prog 52 #[.agg #[.int .i64 x, .slice a1 n1 cap1], .agg #[.int .i64 x, .slice a2 n2 cap2]] w fun e w' => ∃ g, e = .returned (.tuple #[.agg #[.int .i64 x, .slice (some ⟨g, 0, none⟩) n1 n1], .int .i64 0]) ∧ w.heap.size ≤ g ∧ Blk w' g zs ∧ Below w.heap.size w w' := by
  have b1 := ((At.new w (Two (.int .i64 x) (.slice a1 n1 cap1))).alloc (Two (.int .i64 x) (.slice a2 n2 cap2))).alloc (Two (.int .i64 0) (.slice none 0 0))
  have b2 := (At.new (w.alloc (Two (.int .i64 x) (.slice a1 n1 cap1))) (Two (.int .i64 x) (.slice a2 n2 cap2))).alloc (Two (.int .i64 0) (.slice none 0 0))
  have b3 := At.new ((w.alloc (Two (.int .i64 x) (.slice a1 n1 cap1))).alloc (Two (.int .i64 x) (.slice a2 n2 cap2))) (Two (.int .i64 0) (.slice none 0 0))
  simp only [World.size_alloc] at b2 b3
  have hd1 := ((hc1.alloc (Two (.int .i64 x) (.slice a1 n1 cap1))).alloc (Two (.int .i64 x) (.slice a2 n2 cap2))).alloc (Two (.int .i64 0) (.slice none 0 0))
  have hd2 := ((hc2.alloc (Two (.int .i64 x) (.slice a1 n1 cap1))).alloc (Two (.int .i64 x) (.slice a2 n2 cap2))).alloc (Two (.int .i64 0) (.slice none 0 0))
  go_enter Tryd.func52, Tryd.ntmps52
  go_wp2_with (first
    | (go_at_call 9; refine (may_yes _ _ _ _ ys _ hz2 hd2 hy).mono ?_; rintro e w1 ⟨rfl, hb1⟩; have b11 := b1.below hb1; have b21 := b2.below hb1; have b31 := b3.below hb1; have hd11 := hd1.below hb1; obtain ⟨c10, c11, f1⟩ := b11.all; obtain ⟨c20, c21, f2⟩ := b21.all)
    | (go_at_call 16; refine (own_yes _ _ _ _ zs _ hz1 hd11 hx).mono ?_; rintro e w2 ⟨g, rfl, hgw, hblk, hb2⟩; have b32 := b31.below hb2; obtain ⟨c30, c31, f3⟩ := b32.all))
  have hB := below3' hb1
  have hlt := b31.lt
  refine bodyPost_ret (v := .tuple #[.agg #[.int .i64 x, .slice (some ⟨g, 0, none⟩) n1 n1], .int .i64 0]) (by simp [results, Tryd.results52, go_sem, c30, c31]) rfl ⟨g, rfl, by omega, ?_, ?_⟩
  · exact (hblk.at.set (by simp; omega) _).set (by simp; omega) _
  · exact below_setTwo (hB.trans (hb2.mono hB.size)) (by omega) _ _
theorem beside_no (x y : Int) (a1 a2 : Option Addr) (n1 n2 cap1 cap2 : Nat) (zs ys : List Int) (w : World) (hz1 : zs.length = n1) (hm1 : n1 ≤ maxLen) (hc1 : Cells w a1 zs) (hz2 : ys.length = n2) (hm2 : n2 ≤ maxLen) (hc2 : Cells w a2 ys) (hb : bothB x y zs ys = false) :
    Calls Tryd.prog 52 #[.agg #[.int .i64 x, .slice a1 n1 cap1], .agg #[.int .i64 y, .slice a2 n2 cap2]] w fun e w' => e = .returned (.tuple #[.agg #[.int .i64 0, .slice none 0 0], .int .i64 2]) ∧ Below w.heap.size w w' := by
  cases hy : mayB y ys
  · exact beside_no1 x y a1 a2 n1 n2 cap1 cap2 ys w hz2 hm2 hc2 hy
  by_cases hxy : x = y
  · subst hxy
    cases hx : mayB x zs
    · exact beside_no3 x a1 a2 n1 n2 cap1 cap2 zs ys w hz1 hm1 hc1 hz2 hc2 hy hx
    · simp [bothB, hx, hy] at hb
  · exact beside_no2 x y a1 a2 n1 n2 cap1 cap2 ys w hz2 hc2 hy hxy

theorem or_yes (x : Int) (a1 a2 : Option Addr) (n cap1 cap2 : Nat) (zs ys : List Int) (w : World) (hz : zs.length = n) (hy : ys.length = n) (hc1 : Cells w a1 zs) (hc2 : Cells w a2 ys) (hm1 : mayB x zs = true) (hm2 : mayB x ys = true) :
    Calls Tryd.prog 26 #[.agg #[.int .i64 x, .slice a1 n cap1], .agg #[.int .i64 x, .slice a2 n cap2]] w fun e w' => ∃ g, e = .returned (.tuple #[.agg #[.int .i64 x, .slice (some ⟨g, 0, none⟩) n n], .int .i64 0]) ∧ w.heap.size ≤ g ∧ Blk w' g (jn .or zs ys) ∧ Below w.heap.size w w' := by
  obtain ⟨hw1, hw2, hw3⟩ := mayB_width hm1
  have hn17 : n ≤ 17 := by omega
  have b2 := (At.new (w.alloc (Two (.int .i64 x) (.slice a1 n cap1))) (Two (.int .i64 x) (.slice a2 n cap2))).alloc (Two (.int .i64 0) (.slice none 0 0))
  have b3 := At.new ((w.alloc (Two (.int .i64 x) (.slice a1 n cap1))).alloc (Two (.int .i64 x) (.slice a2 n cap2))) (Two (.int .i64 0) (.slice none 0 0))
  simp only [World.size_alloc] at b2 b3
  have hd1 := ((hc1.alloc (Two (.int .i64 x) (.slice a1 n cap1))).alloc (Two (.int .i64 x) (.slice a2 n cap2))).alloc (Two (.int .i64 0) (.slice none 0 0))
  have hd2 := ((hc2.alloc (Two (.int .i64 x) (.slice a1 n cap1))).alloc (Two (.int .i64 x) (.slice a2 n cap2))).alloc (Two (.int .i64 0) (.slice none 0 0))
  go_enter Tryd.func26, Tryd.ntmps26
  go_wp2_with (go_at_call 52; refine (beside_yes _ _ _ _ _ _ _ zs ys _ hz hd1 hy hd2 hm2 hm1).mono ?_; rintro e w1 ⟨g, rfl, hgw, hblk, hb1⟩; have b2A := (b2.below hb1).alloc (Two (.int .i64 x) (.slice (some ⟨g, 0, none⟩) n n)); obtain ⟨c20, c21, f2⟩ := b2A.all)
  simp only [World.size_alloc] at hgw
  have b31 := b3.below hb1
  have hgl := hblk.lt
  have hlt1 := b31.lt
  have b4A := At.new w1 (Two (.int .i64 x) (.slice (some ⟨g, 0, none⟩) n n))
  have hbA : Below w.heap.size w (w1.alloc (Two (.int .i64 x) (.slice (some ⟨g, 0, none⟩) n n))) := (below3' hb1).alloc (by omega) _
  have hcA : Cells (w1.alloc (Two (.int .i64 x) (.slice (some ⟨g, 0, none⟩) n n))) a2 ys := (hd2.below hb1).alloc _
  have hgA : Blk (w1.alloc (Two (.int .i64 x) (.slice (some ⟨g, 0, none⟩) n n))) g zs := hblk.alloc _
  have b3A := b31.alloc (Two (.int .i64 x) (.slice (some ⟨g, 0, none⟩) n n))
  have HAB : Hid (∀ b off, a2 = some ⟨b, off, none⟩ → ys ≠ [] → b < w.heap.size) := hc2.lt
  clear b2 b3 hd1 hd2 hblk b31 hb1 hc1 hc2 hm1 hm2 c20 c21 f2 b2A
  go_loopw [23] (fun i wr => ∃ k : Nat, k ≤ n ∧ i = .int .i64 k ∧ Below w.heap.size w wr ∧ At wr (w.heap.size + 1 + 1) (Two (.int .i64 0) (.slice none 0 0)) ∧ At wr w1.heap.size (Two (.int .i64 x) (.slice (some ⟨g, 0, none⟩) n n)) ∧ Cells wr a2 ys ∧ Blk wr g (mixr .or zs ys k)) (fun i _ => n - (intOf i).toNat)
  case atStart => exact ⟨0, Nat.zero_le _, rfl, hbA, b3A, b4A, hcA, hgA⟩
  case round =>
    obtain ⟨k, hkk, rfl, hbr, b3r, b4r, hcr, hgr⟩ := hrel
    clear b3A hbA hcA hgA b4A
    obtain ⟨c30, c31, f3⟩ := b3r.all
    obtain ⟨c40, c41, f4⟩ := b4r.all
    by_cases hlt : k < n
    · have HZ : Hid (ys ≠ []) := fun h => by subst h; simp at hy; omega
      rcases hcr with hcr | ⟨b, off, rfl, hb, hcl⟩
      · exact absurd hcr HZ.out
      · have hck := hcl k (by omega)
        have hbb := HAB.out b off rfl HZ.out
        have HL : Cells wr (some ⟨b, off, none⟩) ys := .inr ⟨b, off, rfl, hb, hcl⟩
        clear hcl
        obtain ⟨z, hzz⟩ : ∃ z, z = ys.getD k 0 := ⟨_, rfl⟩
        obtain ⟨ms, hms⟩ : ∃ ms, ms = mixr .or zs ys k := ⟨_, rfl⟩
        have hml : ms.length = n := by rw [hms, mixr_len, hz]
        have HT : Hid (mixr .or zs ys (k + 1) = ms.set k (bits .or .u64 (ms.getD k 0) z)) := by
          show (mixr .or zs ys k).set k (bits .or .u64 ((mixr .or zs ys k).getD k 0) (ys.getD k 0)) = _
          rw [hms, hzz]
        rw [← hms] at hgr
        rw [← hzz] at hck
        have hkm : k < ms.length := by omega
        have hgc := hgr.cell k hkm
        have hgf := hgr.frozen
        have hx1 : (0 : Int) ≤ (k : Int) := by omega
        have hx2 : (k : Int) < (n : Int) := by omega
        have hne1 : w1.heap.size ≠ g := by omega
        have hne2 : g ≠ w1.heap.size := by omega
        have hne3 : b ≠ g := by omega
        clear hzz hms
        go_wp2
        go_roundw
        case rel => exact ⟨k + 1, by omega, by go_num, hbr.setCell (by simp; omega) _, b3r.set (by simp; omega) _, b4r.set (by simp; omega) _, HL.set (fun b' off' h' => by simp at h'; simp; omega) _, mix_step HT hkm hgr⟩
        case measure => simp [intOf]; omega
    · have hkm' : k = n := by omega
      subst hkm'
      rw [mixr_all .or zs ys hz hy] at hgr
      go_wp2
      refine bodyPost_ret (v := .tuple #[.agg #[.int .i64 x, .slice (some ⟨g, 0, none⟩) k k], .int .i64 0]) (by simp [results, Tryd.results26, go_sem, c30, c31]) rfl ⟨g, rfl, by omega, ?_, ?_⟩
      · exact (hgr.at.set (by simp; omega) _).set (by simp; omega) _
      · exact below_setTwo hbr (by omega) _ _
theorem or_no (x y : Int) (a1 a2 : Option Addr) (n1 n2 cap1 cap2 : Nat) (zs ys : List Int) (w : World) (hz1 : zs.length = n1) (hm1 : n1 ≤ maxLen) (hc1 : Cells w a1 zs) (hz2 : ys.length = n2) (hm2 : n2 ≤ maxLen) (hc2 : Cells w a2 ys) (hb : bothB x y zs ys = false) :
    Calls Tryd.prog 26 #[.agg #[.int .i64 x, .slice a1 n1 cap1], .agg #[.int .i64 y, .slice a2 n2 cap2]] w fun e w' => e = .returned (.tuple #[.agg #[.int .i64 0, .slice none 0 0], .int .i64 2]) ∧ Below w.heap.size w w' := by
  have b3 := At.new ((w.alloc (Two (.int .i64 x) (.slice a1 n1 cap1))).alloc (Two (.int .i64 y) (.slice a2 n2 cap2))) (Two (.int .i64 0) (.slice none 0 0))
  simp only [World.size_alloc] at b3
  have hd1 := ((hc1.alloc (Two (.int .i64 x) (.slice a1 n1 cap1))).alloc (Two (.int .i64 y) (.slice a2 n2 cap2))).alloc (Two (.int .i64 0) (.slice none 0 0))
  have hd2 := ((hc2.alloc (Two (.int .i64 x) (.slice a1 n1 cap1))).alloc (Two (.int .i64 y) (.slice a2 n2 cap2))).alloc (Two (.int .i64 0) (.slice none 0 0))
  go_enter Tryd.func26, Tryd.ntmps26
  go_wp2_with (go_at_call 52; refine (beside_no _ _ _ _ _ _ _ _ zs ys _ hz1 hm1 hd1 hz2 hm2 hd2 hb).mono ?_; rintro e w1 ⟨rfl, hb1⟩; have b31 := (b3.below hb1).alloc (Two (.int .i64 0) (.slice none 0 0)); obtain ⟨d20, d21, g2⟩ := b31.all)
  have hlt := (b3.below hb1).lt
  refine bodyPost_ret (v := .tuple #[.agg #[.int .i64 0, .slice none 0 0], .int .i64 2]) (by simp [results, Tryd.results26, go_sem, d20, d21]) rfl ⟨rfl, ?_⟩
  exact below_setTwo ((below3' hb1).alloc (by omega) _) (by omega) _ _
theorem or_any (x y : Int) (a1 a2 : Option Addr) (n1 n2 cap1 cap2 : Nat) (zs ys : List Int) (w : World) (hz1 : zs.length = n1) (hm1 : n1 ≤ maxLen) (hc1 : Cells w a1 zs) (hz2 : ys.length = n2) (hm2 : n2 ≤ maxLen) (hc2 : Cells w a2 ys) :
    Calls Tryd.prog 26 #[.agg #[.int .i64 x, .slice a1 n1 cap1], .agg #[.int .i64 y, .slice a2 n2 cap2]] w fun e w' => ∃ aa cc, e = .returned (.tuple #[.agg #[.int .i64 (jx x y zs ys), .slice aa (jz 0 x y zs ys).length cc], .int .i64 (je x y zs ys)]) ∧ Mine w' w.heap.size aa (jz 0 x y zs ys).length cc (jz 0 x y zs ys) ∧ Below w.heap.size w w' := by
  cases hY : bothB x y zs ys
  · refine (or_no x y a1 a2 n1 n2 cap1 cap2 zs ys w hz1 hm1 hc1 hz2 hm2 hc2 hY).mono fun e w' h => ?_
    simp only [jx, jz, je, hY]
    exact ⟨none, 0, h.1, mine_none _ _, h.2⟩
  · obtain ⟨h1, h2, h3, h4⟩ := both_parts hY
    subst h3
    have hn : n2 = n1 := by omega
    subst hn
    have hw := mayB_width h1
    refine (or_yes x a1 a2 n2 cap1 cap2 zs ys w hz1 hz2 hc1 hc2 h1 h2).mono fun e w' h => ?_
    obtain ⟨g, k1, k2, k3, k4⟩ := h
    have hl' : (jn .or zs ys).length = n2 := jn_len _ _ _ hz1 hz2
    simp only [jx, jz, je, hY, if_true]
    have e1 : jn (opj 0) zs ys = jn .or zs ys := rfl
    rw [e1, hl']
    refine ⟨some ⟨g, 0, none⟩, n2, k1, ?_, k4⟩
    have := k3.mine k2 (by unfold maxLen; omega)
    rw [hl'] at this
    exact this

theorem and_yes (x : Int) (a1 a2 : Option Addr) (n cap1 cap2 : Nat) (zs ys : List Int) (w : World) (hz : zs.length = n) (hy : ys.length = n) (hc1 : Cells w a1 zs) (hc2 : Cells w a2 ys) (hm1 : mayB x zs = true) (hm2 : mayB x ys = true) :
    Calls Tryd.prog 27 #[.agg #[.int .i64 x, .slice a1 n cap1], .agg #[.int .i64 x, .slice a2 n cap2]] w fun e w' => ∃ g, e = .returned (.tuple #[.agg #[.int .i64 x, .slice (some ⟨g, 0, none⟩) n n], .int .i64 0]) ∧ w.heap.size ≤ g ∧ Blk w' g (jn .and zs ys) ∧ Below w.heap.size w w' := by
  obtain ⟨hw1, hw2, hw3⟩ := mayB_width hm1
  have hn17 : n ≤ 17 := by omega
  have b2 := (At.new (w.alloc (Two (.int .i64 x) (.slice a1 n cap1))) (Two (.int .i64 x) (.slice a2 n cap2))).alloc (Two (.int .i64 0) (.slice none 0 0))
  have b3 := At.new ((w.alloc (Two (.int .i64 x) (.slice a1 n cap1))).alloc (Two (.int .i64 x) (.slice a2 n cap2))) (Two (.int .i64 0) (.slice none 0 0))
  simp only [World.size_alloc] at b2 b3
  have hd1 := ((hc1.alloc (Two (.int .i64 x) (.slice a1 n cap1))).alloc (Two (.int .i64 x) (.slice a2 n cap2))).alloc (Two (.int .i64 0) (.slice none 0 0))
  have hd2 := ((hc2.alloc (Two (.int .i64 x) (.slice a1 n cap1))).alloc (Two (.int .i64 x) (.slice a2 n cap2))).alloc (Two (.int .i64 0) (.slice none 0 0))
  go_enter Tryd.func27, Tryd.ntmps27
  go_wp2_with (go_at_call 52; refine (beside_yes _ _ _ _ _ _ _ zs ys _ hz hd1 hy hd2 hm2 hm1).mono ?_; rintro e w1 ⟨g, rfl, hgw, hblk, hb1⟩; have b2A := (b2.below hb1).alloc (Two (.int .i64 x) (.slice (some ⟨g, 0, none⟩) n n)); obtain ⟨c20, c21, f2⟩ := b2A.all)
  simp only [World.size_alloc] at hgw
  have b31 := b3.below hb1
  have hgl := hblk.lt
  have hlt1 := b31.lt
  have b4A := At.new w1 (Two (.int .i64 x) (.slice (some ⟨g, 0, none⟩) n n))
  have hbA : Below w.heap.size w (w1.alloc (Two (.int .i64 x) (.slice (some ⟨g, 0, none⟩) n n))) := (below3' hb1).alloc (by omega) _
  have hcA : Cells (w1.alloc (Two (.int .i64 x) (.slice (some ⟨g, 0, none⟩) n n))) a2 ys := (hd2.below hb1).alloc _
  have hgA : Blk (w1.alloc (Two (.int .i64 x) (.slice (some ⟨g, 0, none⟩) n n))) g zs := hblk.alloc _
  have b3A := b31.alloc (Two (.int .i64 x) (.slice (some ⟨g, 0, none⟩) n n))
  have HAB : Hid (∀ b off, a2 = some ⟨b, off, none⟩ → ys ≠ [] → b < w.heap.size) := hc2.lt
  clear b2 b3 hd1 hd2 hblk b31 hb1 hc1 hc2 hm1 hm2 c20 c21 f2 b2A
  go_loopw [23] (fun i wr => ∃ k : Nat, k ≤ n ∧ i = .int .i64 k ∧ Below w.heap.size w wr ∧ At wr (w.heap.size + 1 + 1) (Two (.int .i64 0) (.slice none 0 0)) ∧ At wr w1.heap.size (Two (.int .i64 x) (.slice (some ⟨g, 0, none⟩) n n)) ∧ Cells wr a2 ys ∧ Blk wr g (mixr .and zs ys k)) (fun i _ => n - (intOf i).toNat)
  case atStart => exact ⟨0, Nat.zero_le _, rfl, hbA, b3A, b4A, hcA, hgA⟩
  case round =>
    obtain ⟨k, hkk, rfl, hbr, b3r, b4r, hcr, hgr⟩ := hrel
    clear b3A hbA hcA hgA b4A
    obtain ⟨c30, c31, f3⟩ := b3r.all
    obtain ⟨c40, c41, f4⟩ := b4r.all
    by_cases hlt : k < n
    · have HZ : Hid (ys ≠ []) := fun h => by subst h; simp at hy; omega
      rcases hcr with hcr | ⟨b, off, rfl, hb, hcl⟩
      · exact absurd hcr HZ.out
      · have hck := hcl k (by omega)
        have hbb := HAB.out b off rfl HZ.out
        have HL : Cells wr (some ⟨b, off, none⟩) ys := .inr ⟨b, off, rfl, hb, hcl⟩
        clear hcl
        obtain ⟨z, hzz⟩ : ∃ z, z = ys.getD k 0 := ⟨_, rfl⟩
        obtain ⟨ms, hms⟩ : ∃ ms, ms = mixr .and zs ys k := ⟨_, rfl⟩
        have hml : ms.length = n := by rw [hms, mixr_len, hz]
        have HT : Hid (mixr .and zs ys (k + 1) = ms.set k (bits .and .u64 (ms.getD k 0) z)) := by
          show (mixr .and zs ys k).set k (bits .and .u64 ((mixr .and zs ys k).getD k 0) (ys.getD k 0)) = _
          rw [hms, hzz]
        rw [← hms] at hgr
        rw [← hzz] at hck
        have hkm : k < ms.length := by omega
        have hgc := hgr.cell k hkm
        have hgf := hgr.frozen
        have hx1 : (0 : Int) ≤ (k : Int) := by omega
        have hx2 : (k : Int) < (n : Int) := by omega
        have hne1 : w1.heap.size ≠ g := by omega
        have hne2 : g ≠ w1.heap.size := by omega
        have hne3 : b ≠ g := by omega
        clear hzz hms
        go_wp2
        go_roundw
        case rel => exact ⟨k + 1, by omega, by go_num, hbr.setCell (by simp; omega) _, b3r.set (by simp; omega) _, b4r.set (by simp; omega) _, HL.set (fun b' off' h' => by simp at h'; simp; omega) _, mix_step HT hkm hgr⟩
        case measure => simp [intOf]; omega
    · have hkm' : k = n := by omega
      subst hkm'
      rw [mixr_all .and zs ys hz hy] at hgr
      go_wp2
      refine bodyPost_ret (v := .tuple #[.agg #[.int .i64 x, .slice (some ⟨g, 0, none⟩) k k], .int .i64 0]) (by simp [results, Tryd.results27, go_sem, c30, c31]) rfl ⟨g, rfl, by omega, ?_, ?_⟩
      · exact (hgr.at.set (by simp; omega) _).set (by simp; omega) _
      · exact below_setTwo hbr (by omega) _ _
theorem and_no (x y : Int) (a1 a2 : Option Addr) (n1 n2 cap1 cap2 : Nat) (zs ys : List Int) (w : World) (hz1 : zs.length = n1) (hm1 : n1 ≤ maxLen) (hc1 : Cells w a1 zs) (hz2 : ys.length = n2) (hm2 : n2 ≤ maxLen) (hc2 : Cells w a2 ys) (hb : bothB x y zs ys = false) :
    Calls Tryd.prog 27 #[.agg #[.int .i64 x, .slice a1 n1 cap1], .agg #[.int .i64 y, .slice a2 n2 cap2]] w fun e w' => e = .returned (.tuple #[.agg #[.int .i64 0, .slice none 0 0], .int .i64 2]) ∧ Below w.heap.size w w' := by
  have b3 := At.new ((w.alloc (Two (.int .i64 x) (.slice a1 n1 cap1))).alloc (Two (.int .i64 y) (.slice a2 n2 cap2))) (Two (.int .i64 0) (.slice none 0 0))
  simp only [World.size_alloc] at b3
  have hd1 := ((hc1.alloc (Two (.int .i64 x) (.slice a1 n1 cap1))).alloc (Two (.int .i64 y) (.slice a2 n2 cap2))).alloc (Two (.int .i64 0) (.slice none 0 0))
  have hd2 := ((hc2.alloc (Two (.int .i64 x) (.slice a1 n1 cap1))).alloc (Two (.int .i64 y) (.slice a2 n2 cap2))).alloc (Two (.int .i64 0) (.slice none 0 0))
  go_enter Tryd.func27, Tryd.ntmps27
  go_wp2_with (go_at_call 52; refine (beside_no _ _ _ _ _ _ _ _ zs ys _ hz1 hm1 hd1 hz2 hm2 hd2 hb).mono ?_; rintro e w1 ⟨rfl, hb1⟩; have b31 := (b3.below hb1).alloc (Two (.int .i64 0) (.slice none 0 0)); obtain ⟨d20, d21, g2⟩ := b31.all)
  have hlt := (b3.below hb1).lt
  refine bodyPost_ret (v := .tuple #[.agg #[.int .i64 0, .slice none 0 0], .int .i64 2]) (by simp [results, Tryd.results27, go_sem, d20, d21]) rfl ⟨rfl, ?_⟩
  exact below_setTwo ((below3' hb1).alloc (by omega) _) (by omega) _ _
theorem and_any (x y : Int) (a1 a2 : Option Addr) (n1 n2 cap1 cap2 : Nat) (zs ys : List Int) (w : World) (hz1 : zs.length = n1) (hm1 : n1 ≤ maxLen) (hc1 : Cells w a1 zs) (hz2 : ys.length = n2) (hm2 : n2 ≤ maxLen) (hc2 : Cells w a2 ys) :
    Calls Tryd.prog 27 #[.agg #[.int .i64 x, .slice a1 n1 cap1], .agg #[.int .i64 y, .slice a2 n2 cap2]] w fun e w' => ∃ aa cc, e = .returned (.tuple #[.agg #[.int .i64 (jx x y zs ys), .slice aa (jz 1 x y zs ys).length cc], .int .i64 (je x y zs ys)]) ∧ Mine w' w.heap.size aa (jz 1 x y zs ys).length cc (jz 1 x y zs ys) ∧ Below w.heap.size w w' := by
  cases hY : bothB x y zs ys
  · refine (and_no x y a1 a2 n1 n2 cap1 cap2 zs ys w hz1 hm1 hc1 hz2 hm2 hc2 hY).mono fun e w' h => ?_
    simp only [jx, jz, je, hY]
    exact ⟨none, 0, h.1, mine_none _ _, h.2⟩
  · obtain ⟨h1, h2, h3, h4⟩ := both_parts hY
    subst h3
    have hn : n2 = n1 := by omega
    subst hn
    have hw := mayB_width h1
    refine (and_yes x a1 a2 n2 cap1 cap2 zs ys w hz1 hz2 hc1 hc2 h1 h2).mono fun e w' h => ?_
    obtain ⟨g, k1, k2, k3, k4⟩ := h
    have hl' : (jn .and zs ys).length = n2 := jn_len _ _ _ hz1 hz2
    simp only [jx, jz, je, hY, if_true]
    have e1 : jn (opj 1) zs ys = jn .and zs ys := rfl
    rw [e1, hl']
    refine ⟨some ⟨g, 0, none⟩, n2, k1, ?_, k4⟩
    have := k3.mine k2 (by unfold maxLen; omega)
    rw [hl'] at this
    exact this

theorem less_yes (x : Int) (a1 a2 : Option Addr) (n cap1 cap2 : Nat) (zs ys : List Int) (w : World) (hz : zs.length = n) (hy : ys.length = n) (hc1 : Cells w a1 zs) (hc2 : Cells w a2 ys) (hm1 : mayB x zs = true) (hm2 : mayB x ys = true) :
    Calls Tryd.prog 28 #[.agg #[.int .i64 x, .slice a1 n cap1], .agg #[.int .i64 x, .slice a2 n cap2]] w fun e w' => ∃ g, e = .returned (.tuple #[.agg #[.int .i64 x, .slice (some ⟨g, 0, none⟩) n n], .int .i64 0]) ∧ w.heap.size ≤ g ∧ Blk w' g (jn .andNot zs ys) ∧ Below w.heap.size w w' := by
  obtain ⟨hw1, hw2, hw3⟩ := mayB_width hm1
  have hn17 : n ≤ 17 := by omega
  have b2 := (At.new (w.alloc (Two (.int .i64 x) (.slice a1 n cap1))) (Two (.int .i64 x) (.slice a2 n cap2))).alloc (Two (.int .i64 0) (.slice none 0 0))
  have b3 := At.new ((w.alloc (Two (.int .i64 x) (.slice a1 n cap1))).alloc (Two (.int .i64 x) (.slice a2 n cap2))) (Two (.int .i64 0) (.slice none 0 0))
  simp only [World.size_alloc] at b2 b3
  have hd1 := ((hc1.alloc (Two (.int .i64 x) (.slice a1 n cap1))).alloc (Two (.int .i64 x) (.slice a2 n cap2))).alloc (Two (.int .i64 0) (.slice none 0 0))
  have hd2 := ((hc2.alloc (Two (.int .i64 x) (.slice a1 n cap1))).alloc (Two (.int .i64 x) (.slice a2 n cap2))).alloc (Two (.int .i64 0) (.slice none 0 0))
  go_enter Tryd.func28, Tryd.ntmps28
  go_wp2_with (go_at_call 52; refine (beside_yes _ _ _ _ _ _ _ zs ys _ hz hd1 hy hd2 hm2 hm1).mono ?_; rintro e w1 ⟨g, rfl, hgw, hblk, hb1⟩; have b2A := (b2.below hb1).alloc (Two (.int .i64 x) (.slice (some ⟨g, 0, none⟩) n n)); obtain ⟨c20, c21, f2⟩ := b2A.all)
  simp only [World.size_alloc] at hgw
  have b31 := b3.below hb1
  have hgl := hblk.lt
  have hlt1 := b31.lt
  have b4A := At.new w1 (Two (.int .i64 x) (.slice (some ⟨g, 0, none⟩) n n))
  have hbA : Below w.heap.size w (w1.alloc (Two (.int .i64 x) (.slice (some ⟨g, 0, none⟩) n n))) := (below3' hb1).alloc (by omega) _
  have hcA : Cells (w1.alloc (Two (.int .i64 x) (.slice (some ⟨g, 0, none⟩) n n))) a2 ys := (hd2.below hb1).alloc _
  have hgA : Blk (w1.alloc (Two (.int .i64 x) (.slice (some ⟨g, 0, none⟩) n n))) g zs := hblk.alloc _
  have b3A := b31.alloc (Two (.int .i64 x) (.slice (some ⟨g, 0, none⟩) n n))
  have HAB : Hid (∀ b off, a2 = some ⟨b, off, none⟩ → ys ≠ [] → b < w.heap.size) := hc2.lt
  clear b2 b3 hd1 hd2 hblk b31 hb1 hc1 hc2 hm1 hm2 c20 c21 f2 b2A
  go_loopw [23] (fun i wr => ∃ k : Nat, k ≤ n ∧ i = .int .i64 k ∧ Below w.heap.size w wr ∧ At wr (w.heap.size + 1 + 1) (Two (.int .i64 0) (.slice none 0 0)) ∧ At wr w1.heap.size (Two (.int .i64 x) (.slice (some ⟨g, 0, none⟩) n n)) ∧ Cells wr a2 ys ∧ Blk wr g (mixr .andNot zs ys k)) (fun i _ => n - (intOf i).toNat)
  case atStart => exact ⟨0, Nat.zero_le _, rfl, hbA, b3A, b4A, hcA, hgA⟩
  case round =>
    obtain ⟨k, hkk, rfl, hbr, b3r, b4r, hcr, hgr⟩ := hrel
    clear b3A hbA hcA hgA b4A
    obtain ⟨c30, c31, f3⟩ := b3r.all
    obtain ⟨c40, c41, f4⟩ := b4r.all
    by_cases hlt : k < n
    · have HZ : Hid (ys ≠ []) := fun h => by subst h; simp at hy; omega
      rcases hcr with hcr | ⟨b, off, rfl, hb, hcl⟩
      · exact absurd hcr HZ.out
      · have hck := hcl k (by omega)
        have hbb := HAB.out b off rfl HZ.out
        have HL : Cells wr (some ⟨b, off, none⟩) ys := .inr ⟨b, off, rfl, hb, hcl⟩
        clear hcl
        obtain ⟨z, hzz⟩ : ∃ z, z = ys.getD k 0 := ⟨_, rfl⟩
        obtain ⟨ms, hms⟩ : ∃ ms, ms = mixr .andNot zs ys k := ⟨_, rfl⟩
        have hml : ms.length = n := by rw [hms, mixr_len, hz]
        have HT : Hid (mixr .andNot zs ys (k + 1) = ms.set k (bits .andNot .u64 (ms.getD k 0) z)) := by
          show (mixr .andNot zs ys k).set k (bits .andNot .u64 ((mixr .andNot zs ys k).getD k 0) (ys.getD k 0)) = _
          rw [hms, hzz]
        rw [← hms] at hgr
        rw [← hzz] at hck
        have hkm : k < ms.length := by omega
        have hgc := hgr.cell k hkm
        have hgf := hgr.frozen
        have hx1 : (0 : Int) ≤ (k : Int) := by omega
        have hx2 : (k : Int) < (n : Int) := by omega
        have hne1 : w1.heap.size ≠ g := by omega
        have hne2 : g ≠ w1.heap.size := by omega
        have hne3 : b ≠ g := by omega
        clear hzz hms
        go_wp2
        go_roundw
        case rel => exact ⟨k + 1, by omega, by go_num, hbr.setCell (by simp; omega) _, b3r.set (by simp; omega) _, b4r.set (by simp; omega) _, HL.set (fun b' off' h' => by simp at h'; simp; omega) _, mix_step HT hkm hgr⟩
        case measure => simp [intOf]; omega
    · have hkm' : k = n := by omega
      subst hkm'
      rw [mixr_all .andNot zs ys hz hy] at hgr
      go_wp2
      refine bodyPost_ret (v := .tuple #[.agg #[.int .i64 x, .slice (some ⟨g, 0, none⟩) k k], .int .i64 0]) (by simp [results, Tryd.results28, go_sem, c30, c31]) rfl ⟨g, rfl, by omega, ?_, ?_⟩
      · exact (hgr.at.set (by simp; omega) _).set (by simp; omega) _
      · exact below_setTwo hbr (by omega) _ _
theorem less_no (x y : Int) (a1 a2 : Option Addr) (n1 n2 cap1 cap2 : Nat) (zs ys : List Int) (w : World) (hz1 : zs.length = n1) (hm1 : n1 ≤ maxLen) (hc1 : Cells w a1 zs) (hz2 : ys.length = n2) (hm2 : n2 ≤ maxLen) (hc2 : Cells w a2 ys) (hb : bothB x y zs ys = false) :
    Calls Tryd.prog 28 #[.agg #[.int .i64 x, .slice a1 n1 cap1], .agg #[.int .i64 y, .slice a2 n2 cap2]] w fun e w' => e = .returned (.tuple #[.agg #[.int .i64 0, .slice none 0 0], .int .i64 2]) ∧ Below w.heap.size w w' := by
  have b3 := At.new ((w.alloc (Two (.int .i64 x) (.slice a1 n1 cap1))).alloc (Two (.int .i64 y) (.slice a2 n2 cap2))) (Two (.int .i64 0) (.slice none 0 0))
  simp only [World.size_alloc] at b3
  have hd1 := ((hc1.alloc (Two (.int .i64 x) (.slice a1 n1 cap1))).alloc (Two (.int .i64 y) (.slice a2 n2 cap2))).alloc (Two (.int .i64 0) (.slice none 0 0))
  have hd2 := ((hc2.alloc (Two (.int .i64 x) (.slice a1 n1 cap1))).alloc (Two (.int .i64 y) (.slice a2 n2 cap2))).alloc (Two (.int .i64 0) (.slice none 0 0))
  go_enter Tryd.func28, Tryd.ntmps28
  go_wp2_with (go_at_call 52; refine (beside_no _ _ _ _ _ _ _ _ zs ys _ hz1 hm1 hd1 hz2 hm2 hd2 hb).mono ?_; rintro e w1 ⟨rfl, hb1⟩; have b31 := (b3.below hb1).alloc (Two (.int .i64 0) (.slice none 0 0)); obtain ⟨d20, d21, g2⟩ := b31.all)
  have hlt := (b3.below hb1).lt
  refine bodyPost_ret (v := .tuple #[.agg #[.int .i64 0, .slice none 0 0], .int .i64 2]) (by simp [results, Tryd.results28, go_sem, d20, d21]) rfl ⟨rfl, ?_⟩
  exact below_setTwo ((below3' hb1).alloc (by omega) _) (by omega) _ _
theorem less_any (x y : Int) (a1 a2 : Option Addr) (n1 n2 cap1 cap2 : Nat) (zs ys : List Int) (w : World) (hz1 : zs.length = n1) (hm1 : n1 ≤ maxLen) (hc1 : Cells w a1 zs) (hz2 : ys.length = n2) (hm2 : n2 ≤ maxLen) (hc2 : Cells w a2 ys) :
    Calls Tryd.prog 28 #[.agg #[.int .i64 x, .slice a1 n1 cap1], .agg #[.int .i64 y, .slice a2 n2 cap2]] w fun e w' => ∃ aa cc, e = .returned (.tuple #[.agg #[.int .i64 (jx x y zs ys), .slice aa (jz 2 x y zs ys).length cc], .int .i64 (je x y zs ys)]) ∧ Mine w' w.heap.size aa (jz 2 x y zs ys).length cc (jz 2 x y zs ys) ∧ Below w.heap.size w w' := by
  cases hY : bothB x y zs ys
  · refine (less_no x y a1 a2 n1 n2 cap1 cap2 zs ys w hz1 hm1 hc1 hz2 hm2 hc2 hY).mono fun e w' h => ?_
    simp only [jx, jz, je, hY]
    exact ⟨none, 0, h.1, mine_none _ _, h.2⟩
  · obtain ⟨h1, h2, h3, h4⟩ := both_parts hY
    subst h3
    have hn : n2 = n1 := by omega
    subst hn
    have hw := mayB_width h1
    refine (less_yes x a1 a2 n2 cap1 cap2 zs ys w hz1 hz2 hc1 hc2 h1 h2).mono fun e w' h => ?_
    obtain ⟨g, k1, k2, k3, k4⟩ := h
    have hl' : (jn .andNot zs ys).length = n2 := jn_len _ _ _ hz1 hz2
    simp only [jx, jz, je, hY, if_true]
    have e1 : jn (opj 2) zs ys = jn .andNot zs ys := rfl
    rw [e1, hl']
    refine ⟨some ⟨g, 0, none⟩, n2, k1, ?_, k4⟩
    have := k3.mine k2 (by unfold maxLen; omega)
    rw [hl'] at this
    exact this
end Go.Proofs.YtddjmhfcaeckgaaDoor
