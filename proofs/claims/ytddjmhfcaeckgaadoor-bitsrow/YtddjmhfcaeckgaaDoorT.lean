import Derived.Test.YtddjmhfcaeckgaaDoorS
import Derived.Test.YtddjmhfcaeckgaaDoorR
import Derived.Laws.AppendOwnNone
import Derived.Deep.Cut
import Derived.Deep.CutRange
namespace Go.Proofs.YtddjmhfcaeckgaaDoor
open Go.RowKit
set_option linter.unusedVariables false
set_option linter.unusedSimpArgs false

def I (z : Int) : Value := .int .i64 z
/-- A slice of ints that the call owns. -/
def IMine (w : World) (base : Nat) (a : Option Addr) (n cap : Nat) (ks : List Int) : Prop := w.ownsRow base 3 1 (.slice a n cap) n (ks.map I)
theorem Tryd.info3 : (Tryd.prog.info? 3).map (fun i => (i.zero, i.size, i.bytes)) = some (some (.int .i64 0), 1, 8) := by kernel_rfl
theorem ishape {w : World} {base n : Nat} {v : Value} {xs : List Value} (h : w.ownsRow base 3 1 v n xs) : ∃ a' cap', v = .slice a' n cap' := by
  rcases h.2 with ⟨h', h0⟩ | ⟨g, cap', cur, h', _⟩
  · exact ⟨none, 0, by rw [h', h0]⟩
  · exact ⟨_, _, h'⟩
theorem i_snoc (zs : List Int) (z : Int) : (zs ++ [z]).map I = zs.map I ++ [.int .i64 z] := by simp [I]
theorem inews_cells {w : World} {ad : Addr} {zs : List Int} (h : ICells w (some ad) zs) : ∀ j u, (zs.map I)[j]? = some u → w.cell? (ad.add j) = some u := by
  intro j u hj
  obtain ⟨hl, he⟩ := List.getElem?_eq_some_iff.1 hj
  simp at hl he
  rcases h with h | ⟨b, off, h1, _, h2⟩
  · subst h; simp at hl
  · simp at h1
    subst h1
    rw [Addr.add_lit, h2 j hl, ← he]
    simp [I, hl]
theorem i_one (zs : List Int) : ∀ u ∈ zs.map I, u.oneCell' = true := ints_oneCell .i64 zs
theorem ione_cell' {w : World} {k : Nat} (hk : w.heap.size = k) (z : Int) : ∀ j u, [Value.int .i64 z][j]? = some u → (w.alloc (.cells #[.int .i64 z] 3)).cell? ((⟨k, 0, none⟩ : Addr).add j) = some u := by
  subst hk
  intro j u hj
  match j, hj with
  | 0, hj => simp at hj; subst hj; simp [Addr.add]
theorem IMine.form {w : World} {base n cap : Nat} {ks : List Int} {a : Option Addr} (h : IMine w base a (n + 1) cap ks) : ∃ g, a = some ⟨g, 0, none⟩ ∧ base ≤ g ∧ g < w.heap.size ∧ n + 1 ≤ cap ∧ ks.length = n + 1 ∧ ∀ i, i < n + 1 → w.cell? ⟨g, i, none⟩ = some (.int .i64 (ks.getD i 0)) := by
  have hl := h.1
  simp at hl
  rcases h.2 with ⟨_, h0⟩ | ⟨g, cap', cur, h', hb, hg, hn, _⟩
  · omega
  · simp at h'
    obtain ⟨rfl, rfl⟩ := h'
    refine ⟨g, rfl, hb, lt_of_block hg, hn, hl, fun i hi => ?_⟩
    rw [World.ownsRow.cellAt h i (by omega)]
    simp [I, hl, hi]
/-- ints behind one address, in a world in which their block stands as it stood. -/
theorem icells_of {w : World} {g n : Nat} {ks : List Int} (hg : g < w.heap.size) (hl : ks.length = n + 1) (h : ∀ i, i < n + 1 → w.cell? ⟨g, i, none⟩ = some (.int .i64 (ks.getD i 0))) {ls : List Int} {z : Int} (he : ks = ls ++ [z]) : ICells w (some ⟨g, 0, none⟩) ls := by
  subst he
  simp at hl
  refine .inr ⟨g, 0, rfl, hg, fun i hi => ?_⟩
  rw [Nat.zero_add, h i (by omega)]
  simp [List.getElem?_append_left hi]

theorem bitsTurn_long (x : Int) (a : Option Addr) (n cap : Nat) (al : Option Addr) (m capl : Nat) (w : World) (hn : n ≤ maxLen) (hm : m ≤ maxLen) (h : 4096 < n ∨ 4096 < m) :
    Calls Tryd.prog 4 #[.agg #[.int .i64 x, .slice a n cap], .slice al m capl] w fun e w' => e = .returned (.bool true) ∧ Below w.heap.size w w' := by
  unfold maxLen at hn hm
  by_cases h1 : 4096 < n
  · have h1' : (4096 : Int) < (n : Int) := by omega
    clear h
    go_enter Tryd.func4, Tryd.ntmps4
    go_wp2_with (go_at_call 10; refine (awake_true _).mono ?_; rintro e w1 ⟨rfl, hb1⟩)
    go_ret
    exact ⟨rfl, below1 hb1⟩
  · have h1' : ¬ (4096 : Int) < (n : Int) := by omega
    have h2' : (4096 : Int) < (m : Int) := by omega
    clear h h1
    go_enter Tryd.func4, Tryd.ntmps4
    go_wp2_with (go_at_call 10; refine (awake_true _).mono ?_; rintro e w1 ⟨rfl, hb1⟩)
    go_ret
    exact ⟨rfl, below1 hb1⟩

/-- What stands in memory behind the first two statements. -/
def Base (w wx : World) (x : Int) (a : Option Addr) (n cap bo g0 cap0 ga capA m : Nat) (zs ks : List Int) : Prop :=
  Below w.heap.size w wx ∧ At wx w.heap.size (Two (.int .i64 x) (.slice a n cap)) ∧ At wx bo (Two (.int .i64 x) (.slice (some ⟨g0, 0, none⟩) n cap0)) ∧
    Mine wx (w.heap.size + 1) (some ⟨g0, 0, none⟩) (n + 1) cap0 (zs ++ [77]) ∧ IMine wx (w.heap.size + 1) (some ⟨ga, 0, none⟩) (m + 1) capA (ks ++ [77])

theorem base_mk {w w0 w1 w2 wA : World} {o : Obj} {x : Int} {a : Option Addr} {n cap g0 cap0 m cap2 : Nat} {zs ks : List Int} {a2 : Option Addr} (h0 : At w1 w.heap.size (Two (.int .i64 x) (.slice a n cap))) (h1 : At w1 w0.heap.size (Two (.int .i64 x) (.slice (some ⟨g0, 0, none⟩) n cap0)))
    (h2 : Mine w1 (w.heap.size + 1) (some ⟨g0, 0, none⟩) (n + 1) cap0 (zs ++ [77])) (h3 : Below w.heap.size w w1) (hA : w1.heap.size ≤ wA.heap.size) (hb1 : Below w1.heap.size w1 wA) (hb2 : Below w1.heap.size (wA.alloc o) w2) (hI : w2.ownsRow w1.heap.size 3 1 (.slice a2 (m + 1) cap2) (m + 1) (ks.map I ++ [.int .i64 77])) :
    ∃ ga, a2 = some ⟨ga, 0, none⟩ ∧ Base w w2 x a n cap w0.heap.size g0 cap0 ga cap2 m zs ks := by
  have hI' : IMine w2 w1.heap.size a2 (m + 1) cap2 (ks ++ [77]) := by unfold IMine; rw [i_snoc]; exact hI
  obtain ⟨ga, rfl, h4, h5, h6, h7, h8⟩ := hI'.form
  have hall : Below w1.heap.size w1 w2 := (hb1.alloc hA o).trans hb2
  refine ⟨ga, rfl, h3.trans (hall.mono h3.size), h0.below hall, h1.below hall, h2.belowAll hall, ?_⟩
  refine ⟨hI'.1, ?_⟩
  rcases hI'.2 with h | ⟨g, c, cur, k1, k2, k3⟩
  · exact .inl h
  · exact .inr ⟨g, c, cur, k1, by have := h0.lt; omega, k3⟩

theorem mine_sep {w1 w2 : World} {b1 b2 n1 n2 c1 c2 : Nat} {aa ab : Option Addr} {z1 z2 : List Int} (h1 : Mine w1 b1 aa n1 c1 z1) (h2 : Mine w2 b2 ab n2 c2 z2) (hb : w1.heap.size ≤ b2) : ∀ g, aa = some ⟨g, 0, none⟩ → ∀ b off, ab = some ⟨b, off, none⟩ → b ≠ g := by
  intro g hg b off hb'
  rcases h1.form with ⟨k, _⟩ | ⟨g', k, _, k'⟩
  · rw [k] at hg; cases hg
  rcases h2.form with ⟨m, _⟩ | ⟨g'', m, m', _⟩
  · rw [m] at hb'; cases hb'
  rw [k] at hg
  rw [m] at hb'
  simp at hg hb'
  omega
theorem mine_ne {w : World} {base n c b : Nat} {aa : Option Addr} {zs : List Int} {p q : Value} (h : Mine w base aa n c zs) (h' : At w b (Two p q)) : some b ≠ blk aa := by
  intro e
  rcases h.2 with ⟨k, _⟩ | ⟨g, cap', cur, k, _, k', _⟩
  · simp at k; rw [k.1] at e; simp [blk] at e
  · simp at k
    rw [k.1] at e
    simp [blk] at e
    subst e
    unfold At at h'
    rw [h'] at k'
    simp at k'
theorem mine_blk {w : World} {base n c : Nat} {aa : Option Addr} {zs : List Int} (h : Mine w base aa n c zs) : ∀ k, blk aa = some k → base ≤ k := by
  intro k hk
  rcases h.form with ⟨e, _⟩ | ⟨g, e, e', _⟩
  · rw [e] at hk; simp [blk] at hk
  · rw [e] at hk; simp [blk] at hk; omega
theorem At.grown {w w' : World} {b : Nat} {o : Obj} {r : Option Nat} (h : At w b o) (hg : w.grownBy w' r) (hne : some b ≠ r) : At w' b o := (hg.block b h.lt hne).trans h

theorem mine_set2 {w wA : World} {aa : Option Addr} {n cc b : Nat} {zr : List Int} {p q : Value} (h : Mine wA w.drew.heap.size aa n cc zr) (hb : b < w.heap.size) : Mine ((wA.setCell ⟨b, 0, none⟩ p).setCell ⟨b, 1, none⟩ q) w.heap.size aa n cc zr := by
  have h' : Mine wA w.heap.size aa n cc zr := h
  have hne : ∀ g, aa = some ⟨g, 0, none⟩ → g ≠ b := fun g hg => by rcases h'.form with ⟨k, _⟩ | ⟨g', k, k', _⟩ <;> rw [k] at hg <;> simp at hg; omega
  exact (h'.setOther hne _).setOther hne _
theorem mine_set2' {wA : World} {base : Nat} {aa : Option Addr} {n cc b : Nat} {zr : List Int} {p q : Value} (h' : Mine wA base aa n cc zr) (hb : b < base) : Mine ((wA.setCell ⟨b, 0, none⟩ p).setCell ⟨b, 1, none⟩ q) base aa n cc zr := by
  have hne : ∀ g, aa = some ⟨g, 0, none⟩ → g ≠ b := fun g hg => by rcases h'.form with ⟨k, _⟩ | ⟨g', k, k', _⟩ <;> rw [k] at hg <;> simp at hg; omega
  exact (h'.setOther hne _).setOther hne _

/-- A row of later blocks stays where an elder block is written. -/
theorem mine_past {wc wA : World} {o : Obj} {aa : Option Addr} {n cc : Nat} {zr : List Int} {p q : Value} (h : Mine wA (wc.alloc o).drew.heap.size aa n cc zr) :
    Mine ((wA.setCell ⟨wc.heap.size, 0, none⟩ p).setCell ⟨wc.heap.size, 1, none⟩ q) wc.heap.size aa n cc zr := by
  have h' : Mine wA (wc.heap.size + 1) aa n cc zr := by
    have e : (wc.alloc o).drew.heap.size = wc.heap.size + 1 := World.size_alloc wc o
    rw [e] at h
    exact h
  have hne : ∀ g, aa = some ⟨g, 0, none⟩ → g ≠ wc.heap.size := fun g hg => by rcases h'.form with ⟨k, _⟩ | ⟨g', k, k', _⟩ <;> rw [k] at hg <;> simp at hg; omega
  exact ((h'.mono (Nat.le_succ _)).setOther hne _).setOther hne _

set_option maxRecDepth 20000 in
set_option maxHeartbeats 4000000 in
theorem bitsTurn_short (x : Int) (a : Option Addr) (n cap : Nat) (zs : List Int) (al : Option Addr) (m capl : Nat) (ks : List Int) (w : World) (hz : zs.length = n) (hn : n ≤ 4096) (hw : Words zs) (hnil : a = none → cap = 0) (hc : Cells w a zs)
    (hk : ks.length = m) (hm : m ≤ 4096) (hkn : al = none → m = 0 ∧ capl = 0) (hl : ICells w al ks) :
    Calls Tryd.prog 4 #[.agg #[.int .i64 x, .slice a n cap], .slice al m capl] w fun e w' => e = .returned (.bool true) ∧ Below w.heap.size w w' := by
  obtain ⟨i0, hi, hz0, hz1, hz2⟩ := info_parts Tryd.info3
  have h1' : ¬ (4096 : Int) < (n : Int) := by omega
  have h2' : ¬ (4096 : Int) < (m : Int) := by omega
  have b1 := At.new w (Two (.int .i64 x) (.slice a n cap))
  have hc1 := hc.alloc (Two (.int .i64 x) (.slice a n cap))
  go_enter Tryd.func4, Tryd.ntmps4
  go_upto_region 4 with (first
    | (go_at_call 11; refine (lent_any _ _ _ _ zs _ hz (by omega) hnil hc1).mono ?_; rintro e w0 ⟨g0, cap0, rfl, hM0, hb0⟩))
  obtain ⟨w1, hw1⟩ : ∃ w1, w1 = w0.alloc (Two (.int .i64 x) (.slice (some ⟨g0, 0, none⟩) n cap0)) := ⟨_, rfl⟩
  have hbr : At w1 w.heap.size (Two (.int .i64 x) (.slice a n cap)) := by rw [hw1]; exact (b1.below hb0).alloc _
  have hbo : At w1 w0.heap.size (Two (.int .i64 x) (.slice (some ⟨g0, 0, none⟩) n cap0)) := by rw [hw1]; exact At.new _ _
  have hM1 : Mine w1 (w.heap.size + 1) (some ⟨g0, 0, none⟩) (n + 1) cap0 (zs ++ [77]) := by
    rw [hw1]
    have h := hM0.belowAll ((Below.refl _ _).alloc (Nat.le_refl _) (Two (.int .i64 x) (.slice (some ⟨g0, 0, none⟩) n cap0)))
    rw [World.size_alloc] at h
    exact h
  have hb1 : Below w.heap.size w w1 := by rw [hw1]; exact (below1 hb0).alloc (below1 hb0).size _
  have hl1 : ICells w1 al ks := hl.below hb1
  have hw1' : w0.alloc (.cells #[.int .i64 x, .slice (some ⟨g0, 0, none⟩) n cap0] 24) = w1 := hw1.symm
  rw [hw1']
  have hs1 := hbo.lt
  clear hw1 hw1' b1 hc1 hM0 hb0
  go_cut [6] from 14 to 136 (fun v wx => ∃ ga capA, v = .slice (some ⟨ga, 0, none⟩) (m + 1) capA ∧ Base w wx x a n cap w0.heap.size g0 cap0 ga capA m zs ks)
  case first =>
    have hown := World.ownsRow_nil w1 w1.heap.size 3 1
    cases al with
    | none =>
      obtain ⟨rfl, rfl⟩ := hkn rfl
      have hkz : ks = [] := List.eq_nil_of_length_eq_zero hk
      subst hkz
      go_wp2_with (first
        | (at_builtin; refine wpList_append_own_none rfl (.const (.slice none 0 0)) (.tmp 26) 36 rfl w1.heap.size 3 i0 1 Tryd.underlying36 hi _ _ _ rfl hown rfl ?_)
        | (at_builtin; refine wpList_append_own _ rfl (.tmp 27) (.tmp 28) 36 rfl w1.heap.size 3 i0 (.int .i64 0) 1 8 Tryd.underlying36 hi hz0 hz1 hz2 rfl (by decide) _ _ _ rfl (hown.alloc _) ⟨w1.heap.size, 0, none⟩ 1 1 [.int .i64 77] rfl rfl (ione_cell' rfl 77) (by intro u hu; simp at hu; subst hu; rfl) (by unfold maxLen; omega) (by omega) (by simp) ?_; intro v2 w2 hown2 hgrow2 _; obtain ⟨a2, cap2, rfl⟩ := ishape hown2; obtain ⟨ga, rfl, hBa⟩ := base_mk (m := 0) (ks := []) hbr hbo hM1 hb1 (Nat.le_refl _) (Below.refl _ _) ((Below.refl _ _).grown hgrow2 (by simp) (fun k hk => by cases hk)) hown2; clear hown2 hgrow2))
      go_meet
      exact ⟨ga, cap2, rfl, hBa⟩
    | some ad =>
      go_wp2_with (first
        | (at_builtin; refine wpList_append_own _ rfl (.const (.slice none 0 0)) (.tmp 26) 36 rfl w1.heap.size 3 i0 (.int .i64 0) 1 8 Tryd.underlying36 hi hz0 hz1 hz2 rfl (by decide) _ _ _ rfl hown ad m capl (ks.map I) rfl (by simp [hk]) (inews_cells hl1) (i_one ks) (by unfold maxLen; omega) (by omega) (Nat.le_refl _) ?_; intro v1 wA hown1 hgrow1 _; simp only [Nat.zero_add, List.nil_append] at hown1; obtain ⟨a1, cap1, rfl⟩ := ishape hown1; have hbA := below_of_grown hgrow1; clear hgrow1)
        | (at_builtin; refine wpList_append_own _ rfl (.tmp 27) (.tmp 28) 36 rfl w1.heap.size 3 i0 (.int .i64 0) 1 8 Tryd.underlying36 hi hz0 hz1 hz2 rfl (by decide) _ _ _ rfl (hown1.alloc _) ⟨wA.heap.size, 0, none⟩ 1 1 [.int .i64 77] rfl rfl (ione_cell' rfl 77) (by intro u hu; simp at hu; subst hu; rfl) (by unfold maxLen; omega) (by omega) (by rw [World.size_alloc]; exact Nat.le_succ_of_le hbA.size) ?_; intro v2 w2 hown2 hgrow2 _; obtain ⟨a2, cap2, rfl⟩ := ishape hown2; obtain ⟨ga, rfl, hBa⟩ := base_mk hbr hbo hM1 hb1 hbA.size hbA ((Below.refl _ _).grown hgrow2 (by rw [World.size_alloc]; exact Nat.le_succ_of_le hbA.size) (fun k hk => (hown1.lt k hk).1)) hown2; clear hown2 hgrow2))
      go_meet
      exact ⟨ga, cap2, rfl, hBa⟩
  case rest =>
    obtain ⟨ga, capA, rfl, hBase⟩ := hcut
    clear hbr hbo hM1 hb1 hl1 hs1 hi hz0 hz1 hz2
    generalize wc = wb at *
    obtain ⟨xr, hxr⟩ : ∃ xr, xr = sx x zs ks := ⟨_, rfl⟩
    obtain ⟨er, her⟩ : ∃ er, er = se x zs ks := ⟨_, rfl⟩
    obtain ⟨zr, hzr⟩ : ∃ zr, zr = sz (bits .or .u64) x zs ks := ⟨_, rfl⟩
    obtain ⟨zc, hzc⟩ : ∃ zc, zc = sz (bits .andNot .u64) x zs ks := ⟨_, rfl⟩
    have hzrl : zr.length ≤ 17 := by rw [hzr]; exact sz_len _ _ _ _
    have hzcl : zc.length ≤ 17 := by rw [hzc]; exact sz_len _ _ _ _
    have hCO : ∀ W, Below wb.heap.size wb W → Cells W (some ⟨g0, 0, none⟩) zs := fun W h => (hBase.2.2.2.1.belowAll h).take.cells
    have hIO : ∀ W, Below wb.heap.size wb W → ICells W (some ⟨ga, 0, none⟩) ks := fun W h => by
      obtain ⟨g, e, k1, k2, k3, k4, k5⟩ := hBase.2.2.2.2.form
      simp at e
      subst e
      exact (icells_of k2 k4 k5 rfl).below h
    have HSet : Hid (∀ W, Below wb.heap.size wb W → Calls Tryd.prog 23 #[.agg #[.int .i64 x, .slice (some ⟨g0, 0, none⟩) n cap0], .slice (some ⟨ga, 0, none⟩) m capA] W fun e w' => ∃ aa cc, e = .returned (.tuple #[.agg #[.int .i64 xr, .slice aa zr.length cc], .int .i64 er]) ∧ Mine w' W.heap.size aa zr.length cc zr ∧ Below W.heap.size W w') := fun W h => by
      rw [hxr, her, hzr]
      exact set_any x (some ⟨g0, 0, none⟩) n cap0 zs (some ⟨ga, 0, none⟩) m capA ks W hz (by unfold maxLen; omega) (hCO W h) hk (by omega) (hIO W h)
    have HClr : Hid (∀ W, Below wb.heap.size wb W → Calls Tryd.prog 25 #[.agg #[.int .i64 x, .slice (some ⟨g0, 0, none⟩) n cap0], .slice (some ⟨ga, 0, none⟩) m capA] W fun e w' => ∃ aa cc, e = .returned (.tuple #[.agg #[.int .i64 xr, .slice aa zc.length cc], .int .i64 er]) ∧ Mine w' W.heap.size aa zc.length cc zc ∧ Below W.heap.size W w') := fun W h => by
      rw [hxr, her, hzc]
      exact clear_any x (some ⟨g0, 0, none⟩) n cap0 zs (some ⟨ga, 0, none⟩) m capA ks W hz (by unfold maxLen; omega) (hCO W h) hk (by omega) (hIO W h)
    have HTs : Hid (∀ W, Below wb.heap.size wb W → Calls Tryd.prog 24 #[.agg #[.int .i64 x, .slice a n cap], .slice al m capl, .bool true] W fun e w' => ∃ aa cc, e = .returned (.tuple #[.agg #[.int .i64 xr, .slice aa zr.length cc], .int .i64 er]) ∧ Mine w' W.heap.size aa zr.length cc zr ∧ Below W.heap.size W w') := fun W h => by
      have hB : Below w.heap.size w W := hBase.1.trans (h.mono hBase.1.size)
      rw [hxr, her, hzr]
      exact turnS_any x a n cap zs al m capl ks W hz (by unfold maxLen; omega) hw hnil (hc.below hB) hk (by omega) (hl.below hB)
    have HTc : Hid (∀ W, Below wb.heap.size wb W → Calls Tryd.prog 24 #[.agg #[.int .i64 x, .slice a n cap], .slice al m capl, .bool false] W fun e w' => ∃ aa cc, e = .returned (.tuple #[.agg #[.int .i64 xr, .slice aa zc.length cc], .int .i64 er]) ∧ Mine w' W.heap.size aa zc.length cc zc ∧ Below W.heap.size W w') := fun W h => by
      have hB : Below w.heap.size w W := hBase.1.trans (h.mono hBase.1.size)
      rw [hxr, her, hzc]
      exact turnC_any x a n cap zs al m capl ks W hz (by unfold maxLen; omega) hw hnil (hc.below hB) hk (by omega) (hl.below hB)
    have bO := hBase.2.2.1
    have bR := hBase.2.1
    have hcapA : m + 1 ≤ capA := by
      obtain ⟨g, e, k1, k2, k3, _⟩ := hBase.2.2.2.2.form
      exact k3
    have hboT := bO.lt
    have hi1 : (0 : Int) ≤ (m : Int) := by omega
    have hi2 : (m : Int) ≤ (capA : Int) := by omega
    have HB : Hid (Base w wb x a n cap w0.heap.size g0 cap0 ga capA m zs ks) := hBase
    have HC : Hid (Cells w a zs) := hc
    have HL : Hid (ICells w al ks) := hl
    clear hBase hCO hIO hxr her hzr hzc hc hl hw hnil
    go_wp2_with fail
    go_cut [7, 8] from 14 to 136 (fun p e wx => ∃ ba aa cc, p = .pointer (some ⟨ba, 0, none⟩) ∧ e = .int .i64 er ∧ Below wb.heap.size wb wx ∧ At wx ba (Two (.int .i64 xr) (.slice aa zr.length cc)) ∧ wb.heap.size ≤ ba ∧ Mine wx wb.heap.size aa zr.length cc zr)
    case first =>
      obtain ⟨o0, o1, o2⟩ := bO.all
      have hne0 : w0.heap.size ≠ wb.heap.size := by have := bO.lt; omega
      go_region_held3 (fun w' => w'.cell? ⟨w0.heap.size, 0, none⟩ = some (.int .i64 x) ∧ w'.cell? ⟨w0.heap.size, 1, none⟩ = some (.slice (some ⟨g0, 0, none⟩) n cap0))
        (first | (exact ⟨(bO.below hbA).all.1, (bO.below hbA).all.2.1⟩) | (exact ⟨(bO.below (hbA.alloc hbA.size _)).all.1, (bO.below (hbA.alloc hbA.size _)).all.2.1⟩) | (exact ⟨(((bO.below hbA).set hne0 _).set hne0 _).all.1, (((bO.below hbA).set hne0 _).set hne0 _).all.2.1⟩) | go_keep)
        (first
          | (go_at_call 23; refine (HSet.out _ (Below.refl _ _).drew).mono ?_; rintro e wA ⟨aa, cc, rfl, hMa, hba⟩; have hbA : Below wb.heap.size wb wA := (Below.refl _ _).drew.trans (hba.mono (Nat.le_refl _)))
          | (go_at_call 23; refine (HSet.out _ ((Below.refl _ _).alloc (Nat.le_refl _) (Two (.int .i64 0) (.slice none 0 0))).drew).mono ?_; rintro e wA ⟨aa, cc, rfl, hMa, hba⟩; have hbA : Below wb.heap.size wb wA := ((Below.refl _ _).alloc (Nat.le_refl _) _).drew.trans (hba.mono (by simp [World.drew])); have hbx := (At.new wb (Two (.int .i64 0) (.slice none 0 0))).drew.below hba; obtain ⟨x0, x1, x2⟩ := hbx.all))
      all_goals go_wp2_with fail
      all_goals go_meet
      all_goals first
        | exact ⟨_, aa, cc, rfl, rfl, hbA.alloc hbA.size _, At.new _ _, hbA.size, hMa.belowAll ((Below.refl _ _).alloc (Nat.le_refl _) _)⟩
        | exact ⟨_, aa, cc, rfl, rfl, below_setTwo hbA (Nat.le_refl _) _ _, hbx.setTwo _ _, Nat.le_refl _, mine_past hMa⟩
    case rest =>
    obtain ⟨ba, aa, ca, rfl, rfl, hb5, bA, hbaT, mA⟩ := hcut
    generalize wc = w5 at *
    have bO5 := bO.below hb5
    have HSet5 : Hid (∀ W, Below w5.heap.size w5 W → Calls Tryd.prog 23 #[.agg #[.int .i64 x, .slice (some ⟨g0, 0, none⟩) n cap0], .slice (some ⟨ga, 0, none⟩) m capA] W fun e w' => ∃ aa cc, e = .returned (.tuple #[.agg #[.int .i64 xr, .slice aa zr.length cc], .int .i64 er]) ∧ Mine w' W.heap.size aa zr.length cc zr ∧ Below W.heap.size W w') := fun W h => HSet.out W (hb5.trans (h.mono hb5.size))
    go_wp2_with fail
    go_cut [9, 10] from 14 to 136 (fun p e wx => ∃ ba aa cc, p = .pointer (some ⟨ba, 0, none⟩) ∧ e = .int .i64 er ∧ Below w5.heap.size w5 wx ∧ At wx ba (Two (.int .i64 xr) (.slice aa zr.length cc)) ∧ w5.heap.size ≤ ba ∧ Mine wx w5.heap.size aa zr.length cc zr)
    case first =>
      obtain ⟨o0, o1, o2⟩ := bO5.all
      have hne0 : w0.heap.size ≠ w5.heap.size := by have := bO5.lt; omega
      go_region_held3 (fun w' => w'.cell? ⟨w0.heap.size, 0, none⟩ = some (.int .i64 x) ∧ w'.cell? ⟨w0.heap.size, 1, none⟩ = some (.slice (some ⟨g0, 0, none⟩) n cap0))
        (first | (exact ⟨(bO5.below hbA).all.1, (bO5.below hbA).all.2.1⟩) | (exact ⟨(bO5.below (hbA.alloc hbA.size _)).all.1, (bO5.below (hbA.alloc hbA.size _)).all.2.1⟩) | (exact ⟨(((bO5.below hbA).set hne0 _).set hne0 _).all.1, (((bO5.below hbA).set hne0 _).set hne0 _).all.2.1⟩) | go_keep)
        (first
          | (go_at_call 23; refine (HSet5.out _ (Below.refl _ _).drew).mono ?_; rintro e wA ⟨aa, cc, rfl, hMa, hba⟩; have hbA : Below w5.heap.size w5 wA := (Below.refl _ _).drew.trans (hba.mono (Nat.le_refl _)))
          | (go_at_call 23; refine (HSet5.out _ ((Below.refl _ _).alloc (Nat.le_refl _) (Two (.int .i64 0) (.slice none 0 0))).drew).mono ?_; rintro e wA ⟨aa, cc, rfl, hMa, hba⟩; have hbA : Below w5.heap.size w5 wA := ((Below.refl _ _).alloc (Nat.le_refl _) _).drew.trans (hba.mono (by simp [World.drew])); have hbx := (At.new w5 (Two (.int .i64 0) (.slice none 0 0))).drew.below hba; obtain ⟨x0, x1, x2⟩ := hbx.all))
      all_goals go_wp2_with fail
      all_goals go_meet
      all_goals first
        | exact ⟨_, aa, cc, rfl, rfl, hbA.alloc hbA.size _, At.new _ _, hbA.size, hMa.belowAll ((Below.refl _ _).alloc (Nat.le_refl _) _)⟩
        | exact ⟨_, aa, cc, rfl, rfl, below_setTwo hbA (Nat.le_refl _) _ _, hbx.setTwo _ _, Nat.le_refl _, mine_past hMa⟩
    case rest =>
    obtain ⟨bb, ab, cb, rfl, rfl, hb6, bB, hbbT, mB⟩ := hcut
    generalize wc = w6 at *
    have hB6 : Below wb.heap.size wb w6 := hb5.trans (hb6.mono hb5.size)
    obtain ⟨r0, r1, r2⟩ := (bR.below hB6).all
    go_wp2_with (first
      | (go_at_call 24; refine (HTs.out w6 hB6).mono ?_; rintro e w7 ⟨aw, cw, rfl, mW, hb7⟩; clear r0 r1 r2; have hb7' := hb7.alloc hb7.size (Two (.int .i64 xr) (.slice aw zr.length cw)); have bA8 := (bA.below hb6).below hb7'; have bB8 := bB.below hb7'; have bW8 := At.new w7 (Two (.int .i64 xr) (.slice aw zr.length cw)); have mA8 := (mA.belowAll hb6).belowAll hb7'; have mB8 := mB.belowAll hb7'; have mW8 := mW.belowAll ((Below.refl _ _).alloc (Nat.le_refl _) (Two (.int .i64 xr) (.slice aw zr.length cw))); have HS2 : Hid (∀ g, aa = some ⟨g, 0, none⟩ → ∀ b off, ab = some ⟨b, off, none⟩ → b ≠ g) := mine_sep mA mB (Nat.le_refl _); have HS3 : Hid (∀ g, aa = some ⟨g, 0, none⟩ → ∀ b off, aw = some ⟨b, off, none⟩ → b ≠ g) := mine_sep mA mW hb6.size; obtain ⟨a0, a1, a2⟩ := bA8.all; obtain ⟨q0, q1, q2⟩ := bB8.all; obtain ⟨t0, t1, t2⟩ := bW8.all)
      | (go_at_call 14; refine (held_true xr aa ab aw zr.length ca cb cw wb.heap.size zr _ (by omega) mA8 mB8.cells mW8.cells HS2.out HS3.out).mono ?_; rintro e w8 ⟨rfl, hg8⟩; clear a0 a1 a2 q0 q1 q2 t0 t1 t2))
    have bA9 := bA8.grown hg8 (mine_ne mA8 bA8)
    have bB9 := bB8.grown hg8 (mine_ne mA8 bB8)
    have bW9 := bW8.grown hg8 (mine_ne mA8 bW8)
    have hb8 : Below wb.heap.size wb w8 := (hB6.trans (hb7'.mono hB6.size)).grown hg8 (Nat.le_trans hB6.size hb7'.size) (mine_blk mA8)
    have hbbw : ba < bb := by have := bA.lt; omega
    have hbwb : bb < w7.heap.size := by have := bB.lt; have := hb7.size; omega
    have hw7 : w7.heap.size < w8.heap.size := bW9.lt
    generalize hbw : w7.heap.size = bw at *
    clear hbw hg8 mA8 mB8 mW8 HS2 HS3 bA8 bB8 bW8 mW hb7 hb7' mB bB hb6 mA bA hb5 HSet5 bO5 hB6 HSet HTs
    obtain ⟨pB, qB, bB9⟩ : ∃ p q, At w8 bb (Two p q) := ⟨_, _, bB9⟩
    obtain ⟨pW, qW, bW9⟩ : ∃ p q, At w8 bw (Two p q) := ⟨_, _, bW9⟩
    have hd1 : w0.heap.size ≠ ba := by omega
    have hd2 : w0.heap.size ≠ bb := by omega
    have hd3 : bb ≠ ba := by omega
    have hd4 : bw ≠ ba := by omega
    have hd5 : ba ≠ bb := by omega
    have hd6 : bw ≠ bb := by omega
    have hd7 : ba ≠ bw := by omega
    have hd8 : bb ≠ bw := by omega
    have hb8a : ba < w8.heap.size := by omega
    have hb8b : bb < w8.heap.size := by omega
    have bO8 := bO.below hb8
    have HClr8 : Hid (∀ W, Below w8.heap.size w8 W → Calls Tryd.prog 25 #[.agg #[.int .i64 x, .slice (some ⟨g0, 0, none⟩) n cap0], .slice (some ⟨ga, 0, none⟩) m capA] W fun e w' => ∃ aa cc, e = .returned (.tuple #[.agg #[.int .i64 xr, .slice aa zc.length cc], .int .i64 er]) ∧ Mine w' W.heap.size aa zc.length cc zc ∧ Below W.heap.size W w') := fun W h => HClr.out W (hb8.trans (h.mono hb8.size))
    go_cut [8] from 14 to 136 (fun e wx => ∃ aa cc, e = .int .i64 er ∧ Below wb.heap.size wb wx ∧ w8.heap.size ≤ wx.heap.size ∧ At wx ba (Two (.int .i64 xr) (.slice aa zc.length cc)) ∧ At wx bb (Two pB qB) ∧ At wx bw (Two pW qW) ∧ Mine wx w8.heap.size aa zc.length cc zc)
    case first =>
      obtain ⟨o0, o1, o2⟩ := bO8.all
      go_region_held3 (fun w' => w'.cell? ⟨w0.heap.size, 0, none⟩ = some (.int .i64 x) ∧ w'.cell? ⟨w0.heap.size, 1, none⟩ = some (.slice (some ⟨g0, 0, none⟩) n cap0))
        (first | (exact ⟨(bO8.below hbA).all.1, (bO8.below hbA).all.2.1⟩) | (exact ⟨(((bO8.below hbA).set hd1 _).set hd1 _).all.1, (((bO8.below hbA).set hd1 _).set hd1 _).all.2.1⟩) | go_keep)
        (first
          | (go_at_call 25; refine (HClr8.out _ (Below.refl _ _).drew).mono ?_; rintro e wA ⟨aa', cc, rfl, hMa, hba⟩; have hbA : Below w8.heap.size w8 wA := (Below.refl _ _).drew.trans (hba.mono (Nat.le_refl _)); have hbx := bA9.below hbA; obtain ⟨x0, x1, x2⟩ := hbx.all))
      go_wp2_with fail
      go_meet
      exact ⟨aa', cc, rfl, below_setTwo (hb8.trans (hbA.mono hb8.size)) hbaT _ _, by simpa using hbA.size, hbx.setTwo _ _, ((bB9.below hbA).set hd3 _).set hd3 _, ((bW9.below hbA).set hd4 _).set hd4 _, mine_set2 hMa hb8a⟩
    case rest =>
    obtain ⟨aa', ca', rfl, hb10, hs10, bA10, bB10, bW10, mA10⟩ := hcut
    generalize wc = w10 at *
    clear bA9 bB9 bW9 bO8 HClr8
    have bO10 := bO.below hb10
    have HClr10 : Hid (∀ W, Below w10.heap.size w10 W → Calls Tryd.prog 25 #[.agg #[.int .i64 x, .slice (some ⟨g0, 0, none⟩) n cap0], .slice (some ⟨ga, 0, none⟩) m capA] W fun e w' => ∃ aa cc, e = .returned (.tuple #[.agg #[.int .i64 xr, .slice aa zc.length cc], .int .i64 er]) ∧ Mine w' W.heap.size aa zc.length cc zc ∧ Below W.heap.size W w') := fun W h => HClr.out W (hb10.trans (h.mono hb10.size))
    go_wp2_with fail
    go_cut [10] from 14 to 136 (fun e wx => ∃ ab cc, e = .int .i64 er ∧ Below wb.heap.size wb wx ∧ w10.heap.size ≤ wx.heap.size ∧ At wx ba (Two (.int .i64 xr) (.slice aa' zc.length ca')) ∧ At wx bb (Two (.int .i64 xr) (.slice ab zc.length cc)) ∧ At wx bw (Two pW qW) ∧ Mine wx w8.heap.size aa' zc.length ca' zc ∧ Mine wx w10.heap.size ab zc.length cc zc)
    case first =>
      obtain ⟨o0, o1, o2⟩ := bO10.all
      go_region_held3 (fun w' => w'.cell? ⟨w0.heap.size, 0, none⟩ = some (.int .i64 x) ∧ w'.cell? ⟨w0.heap.size, 1, none⟩ = some (.slice (some ⟨g0, 0, none⟩) n cap0))
        (first | (exact ⟨(bO10.below hbA).all.1, (bO10.below hbA).all.2.1⟩) | (exact ⟨(((bO10.below hbA).set hd2 _).set hd2 _).all.1, (((bO10.below hbA).set hd2 _).set hd2 _).all.2.1⟩) | go_keep)
        (first
          | (go_at_call 25; refine (HClr10.out _ (Below.refl _ _).drew).mono ?_; rintro e wA ⟨ab', cc, rfl, hMa, hba⟩; have hbA : Below w10.heap.size w10 wA := (Below.refl _ _).drew.trans (hba.mono (Nat.le_refl _)); have hbx := bB10.below hbA; obtain ⟨x0, x1, x2⟩ := hbx.all))
      go_wp2_with fail
      go_meet
      exact ⟨ab', cc, rfl, below_setTwo (hb10.trans (hbA.mono hb10.size)) (by omega) _ _, by simpa using hbA.size, ((bA10.below hbA).set hd5 _).set hd5 _, hbx.setTwo _ _, ((bW10.below hbA).set hd6 _).set hd6 _, mine_set2' (mA10.belowAll hbA) hb8b, mine_set2 hMa (Nat.lt_of_lt_of_le hb8b hs10)⟩
    case rest =>
    obtain ⟨ab', cb', rfl, hb11, hs11, bA11, bB11, bW11, mA11, mB11⟩ := hcut
    generalize wc = w11 at *
    clear bA10 bB10 bW10 bO10 HClr10
    obtain ⟨r0, r1, r2⟩ := (bR.below hb11).all
    have hs8 : bw < w8.heap.size := hw7
    have HS2 : Hid (∀ g, aa' = some ⟨g, 0, none⟩ → ∀ b off, ab' = some ⟨b, off, none⟩ → b ≠ g) := mine_sep mA10 mB11 (Nat.le_refl _)
    go_wp2_with (first
      | (go_at_call 24; refine (HTc.out w11 hb11).mono ?_; rintro e w12 ⟨aw', cw', rfl, mW, hb12⟩; clear r0 r1 r2; have bA12 := bA11.below hb12; have bB12 := bB11.below hb12; have bW12 := bW11.below hb12; obtain ⟨a0, a1, a2⟩ := bA12.all; obtain ⟨q0, q1, q2⟩ := bB12.all; obtain ⟨t0, t1, t2⟩ := bW12.all; have HS3 : Hid (∀ g, aa' = some ⟨g, 0, none⟩ → ∀ b off, aw' = some ⟨b, off, none⟩ → b ≠ g) := mine_sep mA11 mW (Nat.le_refl _); have mA13 := mine_set2' (p := .int .i64 xr) (q := .slice aw' zc.length cw') (mA11.belowAll hb12) hs8; have mB13 := mine_set2' (p := .int .i64 xr) (q := .slice aw' zc.length cw') (mB11.belowAll hb12) (Nat.lt_of_lt_of_le hs8 hs10); have mW13 := mine_set2' (p := .int .i64 xr) (q := .slice aw' zc.length cw') mW (Nat.lt_of_lt_of_le hs8 (Nat.le_trans hs10 hs11)))
      | (go_at_call 14; refine (held_true xr aa' ab' aw' zc.length ca' cb' cw' w8.heap.size zc _ (by omega) mA13 mB13.cells mW13.cells HS2.out HS3.out).mono ?_; rintro e w13 ⟨rfl, hg13⟩; clear a0 a1 a2 q0 q1 q2 t0 t1 t2))
    have hb13 : Below wb.heap.size wb w13 := (below_setTwo (hb11.trans (hb12.mono hb11.size)) (Nat.le_trans hbaT (by omega)) _ _).grown hg13 (by have := hb11.size; have := hb12.size; simp; omega) (fun k hk => Nat.le_trans hb8.size (mine_blk mA13 k hk))
    clear hg13 mA13 mB13 mW13 HS2 HS3 bA12 bB12 bW12 mW hb12 bA11 bB11 bW11 mA11 mB11 hb11 hs11 mA10 hb10 hs10 HClr HTc hd1 hd2 hd3 hd4 hd5 hd6 hd7 hd8 hb8 hb8a hb8b hs8 hw7 hbwb hbbw hbaT hzrl hzcl
    have hB := HB.out
    have hW13 : Below w.heap.size w w13 := hB.1.trans (hb13.mono hB.1.size)
    have hM13 := hB.2.2.2.1.belowAll hb13
    have hC13 := HC.out.below hW13
    have hL13 := HL.out.below hW13
    have bR13 := bR.below hb13
    have bO13 := bO.below hb13
    obtain ⟨ga', e, k1, k2, k3, k4, k5⟩ := hB.2.2.2.2.form
    simp at e
    subst e
    have hA13 : ∀ i, i < m + 1 → w13.cell? ⟨ga, i, none⟩ = some (.int .i64 ((ks ++ [77]).getD i 0)) := fun i hi => (hb13.cell (p := ⟨ga, i, none⟩) k2).trans (k5 i hi)
    have hA77 : w13.cell? ⟨ga, m, none⟩ = some (.int .i64 77) := by
      rw [hA13 m (by omega)]
      subst hk
      simp
    have hAk : ∀ k, k < m → w13.cell? ⟨ga, k, none⟩ = some (.int .i64 (ks.getD k 0)) := fun k hk' => by
      rw [hA13 k (by omega)]
      simp [List.getElem?_append_left (show k < ks.length by omega)]
    have HAk : Hid (∀ k, k < m → w13.cell? ⟨ga, k, none⟩ = some (.int .i64 (ks.getD k 0))) := hAk
    clear hB hb13 hA13 hAk k1 k2 k3 k4 k5 HB HC HL bR bO
    go_loopw [13] (fun i wr => ∃ k d : Nat, k ≤ m ∧ i = .int .i64 k ∧ wr = w13.drewN d) (fun i _ => m - (intOf i).toNat)
    case atStart => exact ⟨0, 0, Nat.zero_le _, rfl, rfl⟩
    case round =>
      obtain ⟨k, d, hk1, rfl, rfl⟩ := hrel
      by_cases hlt : k < m
      · rcases hL13 with h | ⟨b, off, rfl, hb, hcl⟩
        · subst h; simp at hk; omega
        have hck := hcl k (by omega)
        have hck' := HAk.out k hlt
        obtain ⟨z, hzz⟩ : ∃ z, z = ks.getD k 0 := ⟨_, rfl⟩
        rw [← hzz] at hck hck'
        have hj1 : (0 : Int) ≤ (k : Int) := by omega
        have hj2 : (k : Int) < (m : Int) := by omega
        have hj3 : (k : Int) < (m : Int) + 1 := by omega
        clear hcl hzz HAk hA77
        go_wp2
        go_quiet (fail)
        go_wp2
        go_roundw
        case rel => exact ⟨k + 1, _, by omega, by go_num, rfl⟩
        case measure => simp [intOf]; omega
      · have hkm' : k = m := by omega
        subst hkm'
        obtain ⟨o0, o1, o2⟩ := bO13.all
        obtain ⟨r0, r1, r2⟩ := bR13.all
        have hj3 : (k : Int) < (k : Int) + 1 := by omega
        go_wp2_with (first
          | (go_at_call 22; refine (kept_true x g0 n cap0 _ a cap zs _ (by omega) (Mine.drewN hM13 d) (hC13.drewN d)).mono ?_; rintro e w14 ⟨rfl, hb14⟩)
          | (go_at_call 10; refine (awake_true _).mono ?_; rintro e w15 ⟨rfl, hb15⟩))
        go_ret
        have h14 : Below w.heap.size w w14 := (below_drewN hW13 d).trans (hb14.mono hW13.size)
        exact ⟨rfl, h14.trans (hb15.mono h14.size)⟩
end Go.Proofs.YtddjmhfcaeckgaaDoor
