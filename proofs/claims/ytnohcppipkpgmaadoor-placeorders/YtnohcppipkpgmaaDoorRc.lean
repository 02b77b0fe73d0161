import Derived.Test.YtnohcppipkpgmaaDoorRb
import Derived.Deep.DeepAppendRoom
namespace Go.Proofs.YtnohcppipkpgmaaDoor
open Go.RowKit Go.Shelf
set_option linter.unusedVariables false
set_option linter.unusedSimpArgs false

/-- How many steps all paths up to one have. -/
def tri : Nat → Nat
  | 0 => 0
  | k + 1 => tri k + (k + 1)
theorem tri_eq : ∀ n : Nat, n * (n + 1) = 2 * tri n
  | 0 => rfl
  | k + 1 => by
    have := tri_eq k
    show (k + 1) * (k + 1 + 1) = 2 * (tri k + (k + 1))
    have e : (k + 1) * (k + 1 + 1) = k * (k + 1) + 2 * (k + 1) := by
      rw [Nat.mul_comm (k + 1) (k + 1 + 1), Nat.mul_comm 2 (k + 1), Nat.mul_comm k (k + 1), ← Nat.mul_add, Nat.mul_comm]
    omega
theorem tri_mono {i j : Nat} (h : i ≤ j) : tri i ≤ tri j := by
  induction j with
  | zero =>
    obtain rfl : i = 0 := by omega
    exact Nat.le_refl _
  | succ j ih =>
    rcases Nat.lt_or_ge j i with h1 | h1
    · obtain rfl : i = j + 1 := by omega
      exact Nat.le_refl _
    · exact Nat.le_trans (ih h1) (by show tri j ≤ tri j + (j + 1); omega)
theorem tri_le (n : Nat) (h : n ≤ 1000) : tri n ≤ 500500 := by
  have := tri_mono h
  have e : tri 1000 = 500500 := by
    have := tri_eq 1000
    omega
  omega
/-- Where the path of the prefix with so many steps lies. -/
def preA (ga i : Nat) : Option Addr := if i = 0 then none else some ⟨ga, tri (i - 1), none⟩
/-- The place of the prefix with so many steps. -/
def preP (l : Int) (ga i : Nat) : Pt := ⟨l, preA ga i, i, i⟩
/-- All prefixes up to one. -/
def preC (l : Int) (ga : Nat) : Nat → List Value
  | 0 => []
  | k + 1 => preC l ga k ++ [.int .i64 l, .slice (preA ga k) k k]
theorem preC_len (l : Int) (ga : Nat) : ∀ k, (preC l ga k).length = k * 2
  | 0 => rfl
  | k + 1 => by simp [preC, preC_len l ga k]; omega
theorem preC_at (l : Int) (ga : Nat) : ∀ k i, i < k → (preC l ga k)[i * 2]? = some (.int .i64 l) ∧ (preC l ga k)[i * 2 + 1]? = some (.slice (preA ga i) i i)
  | 0, i, h => by omega
  | k + 1, i, h => by
    have hl := preC_len l ga k
    by_cases e : i = k
    · subst e
      unfold preC
      rw [List.getElem?_append_right (by omega), List.getElem?_append_right (by omega), hl, Nat.sub_self, show i * 2 + 1 - i * 2 = 1 by omega]
      exact ⟨rfl, rfl⟩
    · have ih := preC_at l ga k i (by omega)
      unfold preC
      rw [List.getElem?_append_left (by omega), List.getElem?_append_left (by omega)]
      exact ih
/-- All paths up to one, one behind the other. -/
def pthC (p : List Int) : Nat → List Int
  | 0 => []
  | k + 1 => pthC p k ++ p.take (k + 1)
theorem pthC_len (p : List Int) : ∀ k, k ≤ p.length → (pthC p k).length = tri k
  | 0, _ => rfl
  | k + 1, h => by simp [pthC, tri, pthC_len p k (by omega), List.length_take]; omega
theorem pthC_at (p : List Int) : ∀ k, k ≤ p.length → ∀ i, 1 ≤ i → i ≤ k → ∀ j x, (p.take i)[j]? = some x → (pthC p k)[tri (i - 1) + j]? = some x
  | 0, _, i, h1, h2, _, _, _ => by omega
  | k + 1, h, i, h1, h2, j, x, hx => by
    have hl := pthC_len p k (by omega)
    have hj : j < i := by
      have := (List.getElem?_eq_some_iff.1 hx).1
      rw [List.length_take] at this
      omega
    by_cases e : i = k + 1
    · subst e
      unfold pthC
      rw [List.getElem?_append_right (by rw [hl]; simp), hl, show tri (k + 1 - 1) + j - tri k = j by simp]
      exact hx
    · have ih := pthC_at p k (by omega) i h1 (by omega) j x hx
      unfold pthC
      rw [List.getElem?_append_left (List.getElem?_eq_some_iff.1 ih).1]
      exact ih
/-- The list of all prefixes of a place, in memory of its own. -/
structure PRow (w0 W : World) (gl ga : Nat) (l : Int) (p : List Int) : Prop where
  lo1 : w0.heap.size ≤ gl
  lo2 : w0.heap.size ≤ ga
  ne : gl ≠ ga
  r1 : W.ownsRow w0.heap.size 26 2 (.slice (some ⟨gl, 0, none⟩) (p.length + 1) (p.length + 1)) (p.length + 1) (preC l ga (p.length + 1))
  r2 : W.ownsRow w0.heap.size 62 1 (.slice (some ⟨ga, 0, none⟩) (tri p.length) (tri p.length)) (tri p.length) ((pthC p p.length).map (.int .i64))
theorem own_cell {W : World} {B e s n g cap : Nat} {xs : List Value} (h : W.ownsRow B e s (.slice (some ⟨g, 0, none⟩) n cap) n xs) {j : Nat} {u : Value} (hj : xs[j]? = some u) : W.cell? ⟨g, j, none⟩ = some u ∧ g < W.heap.size := by
  rcases h.2 with ⟨e0, -⟩ | ⟨g', cap', cur, e0, -, hg, -, -, -, ht⟩
  · cases e0
  · cases e0
    refine ⟨?_, lt_of_block hg⟩
    have hc : W.cell? ⟨g, j, none⟩ = cur[j]? := by simp [World.cell?, hg]
    rw [hc]
    rw [← ht, List.getElem?_take] at hj
    split at hj
    · simpa using hj
    · cases hj
theorem PRow.place {w0 W : World} {gl ga : Nat} {l : Int} {p : List Int} (h : PRow w0 W gl ga l p) (hl : -9223372036854775808 ≤ l ∧ l ≤ 9223372036854775807) (hr : ∀ x ∈ p, -9223372036854775808 ≤ x ∧ x ≤ 9223372036854775807) (hn : p.length ≤ 1000) {i : Nat} (hi : i ≤ p.length) :
    W.cell? ⟨gl, i * 2, none⟩ = some (.int .i64 l) ∧ W.cell? ⟨gl, i * 2 + 1, none⟩ = some (.slice (preA ga i) i i) ∧ PAt W (preP l ga i) (p.take i) := by
  obtain ⟨c0, c1⟩ := preC_at l ga (p.length + 1) i (by omega)
  refine ⟨(own_cell h.r1 c0).1, (own_cell h.r1 c1).1, ⟨⟨?_, Nat.le_refl _, ?_, fun hne => ?_, fun x hx => hr x (List.mem_of_mem_take hx), fun e => ?_⟩, hl.1, hl.2⟩⟩
  · show i = (p.take i).length
    rw [List.length_take]
    omega
  · show i ≤ maxLen
    unfold maxLen
    omega
  · have h0 : ¬ i = 0 := fun e => hne (by rw [e]; rfl)
    refine ⟨ga, tri (i - 1), by show preA ga i = _; unfold preA; rw [if_neg h0], ?_, fun j x hx => ?_⟩
    · obtain ⟨x, hx⟩ : ∃ x, (p.take i)[0]? = some x := ⟨_, List.getElem?_eq_getElem (by rw [List.length_take]; omega)⟩
      have := pthC_at p p.length (Nat.le_refl _) i (by omega) hi 0 x hx
      exact (own_cell h.r2 (j := tri (i - 1) + 0) (u := .int .i64 x) (by rw [List.getElem?_map, this]; rfl)).2
    · have := pthC_at p p.length (Nat.le_refl _) i (by omega) hi j x hx
      exact (own_cell h.r2 (j := tri (i - 1) + j) (u := .int .i64 x) (by rw [List.getElem?_map, this]; rfl)).1
  · show i = 0
    have e1 : preA ga i = none := e
    unfold preA at e1
    split at e1
    · assumption
    · cases e1
theorem Tryd.info26 : (Tryd.prog.info? 26).map (fun i => (i.zero, i.size, i.bytes)) = some (some (.agg #[.int .i64 0, .slice none 0 0]), 2, 32) := by kernel_rfl
theorem Tryd.info62 : (Tryd.prog.info? 62).map (fun i => (i.zero, i.size, i.bytes)) = some (some (.int .i64 0), 1, 8) := by kernel_rfl
theorem own_other {W W' : World} {B e s n g cap : Nat} {xs : List Value} {r : Option Nat} (h : W.ownsRow B e s (.slice (some ⟨g, 0, none⟩) n cap) n xs) (k : W.grownBy W' r) (hn : r ≠ some g) : W'.ownsRow B e s (.slice (some ⟨g, 0, none⟩) n cap) n xs := by
  refine ⟨h.1, ?_⟩
  rcases h.2 with ⟨e0, -⟩ | ⟨g', cap', cur, e0, h1, hg, h2, h3, h4, ht⟩
  · cases e0
  · cases e0
    exact .inr ⟨g, cap, cur, rfl, h1, (k.block g (lt_of_block hg) (fun e => hn e.symm)).trans hg, h2, h3, h4, ht⟩
theorem grow_bel {B : Nat} {w W W' : World} {r : Option Nat} (h : Below B w W) (k : W.grownBy W' r) (hB : B ≤ W.heap.size) (hr : ∀ g, r = some g → B ≤ g) : Below B w W' := h.grown k hB hr
theorem new2 (W : World) (u v : Value) (t : Nat) : ∀ j x, [u, v][j]? = some x → (W.alloc (.cells #[u, v] t)).cell? ((⟨W.heap.size, 0, none⟩ : Addr).add j) = some x := fun j x hx => by
  rw [Addr.add_lit, Nat.zero_add]
  have hA : At (W.alloc (.cells #[u, v] t)) W.heap.size (.cells #[u, v] t) := At.new _ _
  generalize W.alloc (.cells #[u, v] t) = W' at hA ⊢
  unfold At at hA
  have : W'.cell? ⟨W.heap.size, j, none⟩ = #[u, v][j]? := by simp [World.cell?, hA]
  rw [this]
  simpa using hx
set_option maxRecDepth 100000 in
set_option maxHeartbeats 4000000 in
/-- Prefixes. -/
theorem Prefixes_any {w : World} {x : Pt} {p : List Int} (h : PAt w x p) (hn : p.length ≤ 1000) :
    Calls Tryd.prog 31 #[x.v] w fun e w' => ∃ gl ga, e = .returned (.slice (some ⟨gl, 0, none⟩) (p.length + 1) (p.length + 1)) ∧ PRow w w' gl ga x.l p ∧ Below w.heap.size w w' := by
  obtain ⟨l, a, n, cap⟩ := x
  have hlen : n = p.length := h.row.len
  subst hlen
  obtain ⟨n, hN⟩ : ∃ n, n = p.length := ⟨_, rfl⟩
  have HN := hidD hN
  have HP := hidD h
  show Calls Tryd.prog 31 #[plV l a p.length cap] w _
  rw [← hN] at hn ⊢
  obtain ⟨T, hT⟩ : ∃ T, T = tri n := ⟨_, rfl⟩
  have HT := hidD hT
  have hT5 : T ≤ 500500 := by rw [hT]; exact tri_le n hn
  have hmul : (n : Int) * ((n : Int) + 1) = 2 * (T : Int) := by
    have := tri_eq n
    rw [← hT] at this
    have e : ((n * (n + 1) : Nat) : Int) = ((2 * T : Nat) : Int) := by rw [this]
    push_cast at e
    exact e
  obtain ⟨i26, hi26, hz26, hs26, hb26⟩ := info_parts Tryd.info26
  obtain ⟨i62, hi62, hz62, hs62, hb62⟩ := info_parts Tryd.info62
  have A0 : At (w.alloc (plO l a n cap)) w.heap.size (plO l a n cap) := At.new _ _
  have HA0 := hidD A0
  have HB0 := hidD (belA (Below.refl w.heap.size w) : Below w.heap.size w (w.alloc (plO l a n cap)))
  have m1 : (2 * (T : Int)).tdiv 2 = (T : Int) := by rw [Int.tdiv_eq_ediv_of_nonneg (by omega)]; omega
  have j0 : (n : Int) + 1 ≤ 1001 := by omega
  have j1 : (2 * (T : Int)) ≤ 1001000 := by omega
  have j2 : 0 ≤ (2 * (T : Int)) := by omega
  clear hN hT h A0
  go_enter Tryd.func31, Tryd.ntmps31
  have st1 : Stg 1 := .mk 1
  go_wp2_with (first
    | (have _s := st1; clear st1 _s; at_make; refine wpList_make_own _ rfl _ _ 54 rfl w.heap.size 26 i26 (.agg #[.int .i64 0, .slice none 0 0]) 2 Tryd.underlying54 hi26 hz26 hs26 .i64 .i64 _ (n + 1) rfl rfl (by omega) (by rw [hb26]; omega) (by unfold maxLen; omega) (by simp) ?_; intro w1 ho1 hg1; have st2 : Stg 2 := .mk 2; have A1 := hidD (HA0.out.grown hg1 (fun e => by cases e)); have B1 := hidD (grow_bel HB0.out hg1 (by simp) (fun g e => by cases e)); rw [World.size_alloc] at ho1; have HO1 := hidD ho1; obtain ⟨c0, c1⟩ := A1.out.pl; clear ho1 hg1)
    | (have _s := st2; clear st2 _s; at_builtin; refine wpList_append_fits _ rfl (.tmp 14) (.tmp 18) 54 rfl w.heap.size 26 i26 2 Tryd.underlying54 hi26 hs26 (w.heap.size + 1) 0 (n + 1) [] rfl (HO1.out.alloc _) ⟨w1.heap.size, 0, none⟩ 1 1 [.int .i64 l, .slice none 0 0] rfl rfl (new2 _ _ _ _) (by intro u hu; simp at hu; rcases hu with rfl | rfl <;> rfl) (by omega) ?_; intro w2 ho2 hg2; have st3 : Stg 3 := .mk 3; have A2 := hidD ((A1.out.alloc _).grown hg2 (fun e => by have := Option.some.inj e; omega)); have B2 := hidD (grow_bel (belA B1.out) hg2 (by have := B1.out.size; simp; omega) (fun g e => by have := Option.some.inj e; omega)); have HO2 := hidD ho2; clear c0 c1; obtain ⟨c0, c1⟩ := A2.out.pl; clear ho2 hg2)
    | (have _s := st3; clear st3 _s; at_make; refine wpList_make_own _ rfl _ _ 24 rfl w.heap.size 62 i62 (.int .i64 0) 1 Tryd.underlying24 hi62 hz62 hs62 .i64 .i64 _ T rfl rfl (by first | rfl | omega) (by rw [hb62]; omega) (by unfold maxLen; omega) B2.out.size ?_; intro w3 ho3 hg3; have A3 := hidD (A2.out.grown hg3 (fun e => by cases e)); have B3 := hidD (grow_bel B2.out hg3 B2.out.size (fun g e => by cases e)); have HO3 := hidD ho3; have HO2' := hidD (own_other HO2.out hg3 (fun e => by cases e)); clear c0 c1; clear ho3 hg3))
  obtain ⟨ga, hga⟩ : ∃ ga, ga = w2.heap.size := ⟨_, rfl⟩
  rw [← hga] at HO3 ⊢
  have hne : w.heap.size + 1 < ga := by
    rcases HO2.out.2 with ⟨e0, -⟩ | ⟨g', cap', cur, e0, -, hg, -⟩
    · cases e0
    · cases e0
      have := lt_of_block hg
      omega
  have HNE := hidD hne
  clear hne hga HO2 A1 B1 A2 B2 HO1 HA0 HB0
  go_loopw [4, 5, 6] (fun x y z V => ∃ m t : Nat, 1 ≤ m ∧ m ≤ n + 1 ∧ t = tri (m - 1) ∧ x = .slice (some ⟨w.heap.size + 1, 0, none⟩) m (n + 1) ∧ y = .slice (some ⟨ga, 0, none⟩) t T ∧ z = .int .i64 (m : Int) ∧ V.ownsRow w.heap.size 26 2 (.slice (some ⟨w.heap.size + 1, 0, none⟩) m (n + 1)) m (preC l ga m) ∧ V.ownsRow w.heap.size 62 1 (.slice (some ⟨ga, 0, none⟩) t T) t ((pthC p (m - 1)).map (.int .i64)) ∧ At V w.heap.size (plO l a n cap) ∧ Below w.heap.size w V) (fun _ _ z _ => n + 1 - (intOf z).toNat)
  case atStart => exact ⟨1, 0, by omega, by omega, rfl, rfl, rfl, rfl, HO2'.out, HO3.out, A3.out, B3.out⟩
  case round =>
    obtain ⟨m, t, hm1, hm2, ht, rfl, rfl, rfl, hO1, hO2, hA, hB⟩ := hrel
    have HO1 := hidD hO1
    have HO2 := hidD hO2
    have HA := hidD hA
    have HB := hidD hB
    have HTT := hidD ht
    clear hO1 hO2 hA hB ht A3 B3 HO2' HO3
    by_cases hlt : m ≤ n
    · obtain ⟨x0, hx0⟩ : ∃ x, p[0]? = some x := ⟨_, List.getElem?_eq_getElem (by have := HN.out; omega)⟩
      obtain ⟨g, off, ea, hg, -⟩ := HP.out.row.nth hx0
      have ea2 : a = some ⟨g, off, none⟩ := ea
      subst ea2
      have hcell : ∀ i x, p[i]? = some x → wr.cell? ⟨g, off + i, none⟩ = some (.int .i64 x) := fun i x hx => by
        obtain ⟨g', off', e', hg', hc', -⟩ := HP.out.row.nth hx
        have e2 : some (⟨g, off, none⟩ : Addr) = some ⟨g', off', none⟩ := e'
        cases e2
        exact (HB.out.cell (p := ⟨g, off + i, none⟩) hg').trans hc'
      have HC := hidD hcell
      have hcap : n ≤ cap := by have := HP.out.row.le; have e : p.length ≤ cap := this; have := HN.out; omega
      have hfit : t + m ≤ T := by
        have e1 := HTT.out
        have e2 := HT.out
        obtain ⟨k, rfl⟩ : ∃ k, m = k + 1 := ⟨m - 1, by omega⟩
        have e3 := tri_mono hlt
        have e4 : tri (k + 1) = tri k + (k + 1) := rfl
        simp at e1
        omega
      obtain ⟨c0, c1⟩ := HA.out.pl
      have k0 : (1 : Int) ≤ (m : Int) := by omega
      have k1 : (m : Int) ≤ (n : Int) := by omega
      have k2 : (m : Int) ≤ (cap : Int) := by omega
      clear hcell hx0 ea hg hm1 hm2 hlt m1 j0 j1 j2 hmul
      have L1 : Hid (((p.take m).map (Value.int .i64)).length = m * 1) := by
        show ((p.take m).map (Value.int .i64)).length = m * 1
        rw [List.length_map, List.length_take]
        have := HN.out
        omega
      have C1 : Hid (∀ j u, ((p.take m).map (Value.int .i64))[j]? = some u → wr.cell? ((⟨g, off, none⟩ : Addr).add j) = some u) := fun j u hu => by
        rw [List.getElem?_map, Option.map_eq_some_iff] at hu
        obtain ⟨y, hy, rfl⟩ := hu
        rw [List.getElem?_take] at hy
        split at hy
        · rw [Addr.add_lit]
          exact HC.out j y hy
        · cases hy
      have O1 : Hid (∀ u ∈ (p.take m).map (Value.int .i64), u.oneCell' = true) := fun u hu => by
        obtain ⟨y, -, rfl⟩ := List.mem_map.1 hu
        rfl
      go_wp2_with (at_builtin; refine wpList_append_fits _ rfl (.tmp 33) (.tmp 37) 24 rfl w.heap.size 62 i62 1 Tryd.underlying24 hi62 hs62 ga t T ((pthC p (m - 1)).map (.int .i64)) rfl HO2.out ⟨g, off, none⟩ m cap ((p.take m).map (.int .i64)) rfl L1.out C1.out O1.out hfit ?_; intro w4 ho4 hg4; have HO4 := hidD ho4; have HO1' := hidD (own_other HO1.out hg4 (fun e => by have := HNE.out; have := Option.some.inj e; omega)); have HA4 := hidD (HA.out.grown hg4 (fun e => by have := HNE.out; have := Option.some.inj e; omega)); have HB4 := hidD (grow_bel HB.out hg4 HB.out.size (fun g e => by have := HNE.out; have := Option.some.inj e; omega)); clear ho4 hg4 c0 c1; obtain ⟨c0, c1⟩ := HA4.out.pl)
      obtain ⟨t2, ht2⟩ : ∃ t2, t2 = t + m := ⟨_, rfl⟩
      have HT2 := hidD ht2
      rw [← ht2] at HO4 ⊢
      have q0 : (0 : Int) ≤ (t : Int) := by omega
      have q1 : (t : Int) ≤ (t2 : Int) := by omega
      have q2 : (t2 : Int) ≤ (T : Int) := by omega
      have q3 : ¬ t2 = t := by omega
      have q4 : t2 - t = m := by omega
      have q5 : ((t2 : Int) - (t : Int)).toNat = m := by omega
      clear ht2
      refine beginH (S := fun W => W.cell? ⟨w.heap.size, 0, none⟩ = some (.int .i64 l)) (fun _ _ _ _ _ h => h) (by kernel_rfl) c0 (fun hq hHeld => ?_)
      refine takeH (i := 0) (d := 39) _ hq rfl rfl (by kernel_rfl) (by kernel_rfl) (by kernel_rfl) (by rfl) (fun W hSw => by (go_simp; try rfl)) hHeld ?_
      try simp only [Act.put, List.setIfInBounds_toArray, List.set_cons_zero, List.set_cons_succ]
      refine takeH (i := 1) (d := 40) _ hq rfl rfl (by kernel_rfl) (by kernel_rfl) (by kernel_rfl) (by rfl) (fun W hSw => by (go_simp; try rfl)) hHeld ?_
      try simp only [Act.put, List.setIfInBounds_toArray, List.set_cons_zero, List.set_cons_succ]
      refine takeH (i := 2) (d := 41) (.int .i64 l) hq rfl rfl (by kernel_rfl) (by kernel_rfl) (by kernel_rfl) (by rfl) (fun W hSw => by (go_simp; try rfl)) hHeld ?_
      try simp only [Act.put, List.setIfInBounds_toArray, List.set_cons_zero, List.set_cons_succ]
      refine takeH (i := 3) (d := 42) _ hq rfl rfl (by kernel_rfl) (by kernel_rfl) (by kernel_rfl) (by rfl) (fun W hSw => by (go_simp; try rfl)) hHeld ?_
      try simp only [Act.put, List.setIfInBounds_toArray, List.set_cons_zero, List.set_cons_succ]
      refine takeH (i := 4) (d := 43) _ hq rfl rfl (by kernel_rfl) (by kernel_rfl) (by kernel_rfl) (by rfl) (fun W hSw => by (go_simp; try rfl)) hHeld ?_
      try simp only [Act.put, List.setIfInBounds_toArray, List.set_cons_zero, List.set_cons_succ]
      refine takeH (i := 5) (d := 44) _ hq rfl rfl (by kernel_rfl) (by kernel_rfl) (by kernel_rfl) (by rfl) (fun W hSw => by (go_simp; try rfl)) hHeld ?_
      try simp only [Act.put, List.setIfInBounds_toArray, List.set_cons_zero, List.set_cons_succ]
      refine takeH (i := 6) (d := 45) _ hq rfl rfl (by kernel_rfl) (by kernel_rfl) (by kernel_rfl) (by rfl) (fun W hSw => by (go_simp; try rfl)) hHeld ?_
      try simp only [Act.put, List.setIfInBounds_toArray, List.set_cons_zero, List.set_cons_succ]
      refine takeH (i := 7) (d := 46) _ hq rfl rfl (by kernel_rfl) (by kernel_rfl) (by kernel_rfl) (by rfl) (fun W hSw => by (go_simp; try rfl)) hHeld ?_
      try simp only [Act.put, List.setIfInBounds_toArray, List.set_cons_zero, List.set_cons_succ]
      refine takeH (i := 8) (d := 47) _ hq rfl rfl (by kernel_rfl) (by kernel_rfl) (by kernel_rfl) (by rfl) (fun W hSw => by (go_simp; try rfl)) hHeld ?_
      try simp only [Act.put, List.setIfInBounds_toArray, List.set_cons_zero, List.set_cons_succ]
      refine takeH (i := 9) (d := 48) _ hq rfl rfl (by kernel_rfl) (by kernel_rfl) (by kernel_rfl) (by rfl) (fun W hSw => by (go_simp; try rfl)) hHeld ?_
      try simp only [Act.put, List.setIfInBounds_toArray, List.set_cons_zero, List.set_cons_succ]
      refine takeH (i := 10) (d := 49) _ hq rfl rfl (by kernel_rfl) (by kernel_rfl) (by kernel_rfl) (by rfl) (fun W hSw => by (go_simp; try rfl)) hHeld ?_
      try simp only [Act.put, List.setIfInBounds_toArray, List.set_cons_zero, List.set_cons_succ]
      refine wpAnyH_ready (rs := [11]) (by kernel_rfl) (by simp) ?_
      refine AllReadyH.cons rfl (fun K hK => ?_) AllReadyH.nil
      go_simp
      go_wp2_with fail
      refine hK.out _ _ (by rw [show ∀ W : World, W.drew.cell? ⟨w.heap.size, 0, none⟩ = W.cell? ⟨w.heap.size, 0, none⟩ from fun _ => rfl]; exact (HA4.out.alloc _).pl.1) (fun hHeld => ?_)
      clear hK K
      try simp only [Act.put, List.setIfInBounds_toArray, List.set_cons_zero, List.set_cons_succ]
      refine wpAnyH_ready (rs := [12]) (by kernel_rfl) (by simp) ?_
      refine AllReadyH.cons rfl (fun K hK => ?_) AllReadyH.nil
      refine wp_append_own_spare _ (.tmp 39) (.tmp 50) 54 rfl w.heap.size 26 i26 2 Tryd.underlying54 hi26 hs26 (w.heap.size + 1) m (n + 1) (preC l ga m) rfl (HO1'.out.alloc _).drew ⟨w4.heap.size, 0, none⟩ 1 1 [.int .i64 l, .slice (some ⟨ga, t, none⟩) m m] rfl rfl (new2 w4 _ _ 26) (by intro u hu; simp at hu; rcases hu with rfl | rfl <;> rfl) (by omega) ?_
      intro w5 ho5 hg5
      have HA5 := hidD ((HA4.out.alloc _).drew.grown hg5 (fun e => by have := Option.some.inj e; omega))
      refine hK.out _ _ HA5.out.pl.1 (fun hHeld => ?_)
      clear hK K
      try simp only [Act.put, List.setIfInBounds_toArray, List.set_cons_zero, List.set_cons_succ]
      refine wpAnyH_ready (rs := [13]) (by kernel_rfl) (by simp) ?_
      refine AllReadyH.cons rfl (fun K hK => ?_) AllReadyH.nil
      go_simp
      go_wp2_with fail
      refine hK.out _ _ HA5.out.pl.1 (fun hHeld => ?_)
      clear hK K
      try simp only [Act.put, List.setIfInBounds_toArray, List.set_cons_zero, List.set_cons_succ]
      refine wpAnyH_done (by kernel_rfl) ?_ _
      go_wp2_with fail
      have hm1 : 1 ≤ m := by omega
      obtain ⟨k, rfl⟩ : ∃ k, m = k + 1 := ⟨m - 1, by omega⟩
      refine ⟨⟨k + 1 + 1, t2, by omega, by omega, ?_, rfl, rfl, rfl, ?_, ?_, HA5.out, grow_bel (belN (belA HB4.out) 1) hg5 (by have := HB4.out.size; show _ ≤ (w4.alloc _).heap.size; simp; omega) (fun g e => by have := Option.some.inj e; omega)⟩, ?_⟩
      · have e1 := HTT.out
        have e2 := HT2.out
        simp at e1
        show t2 = tri (k + 1)
        rw [e2, e1]
        rfl
      · have e1 := HTT.out
        simp at e1
        have e2 : preC l ga (k + 1 + 1) = preC l ga (k + 1) ++ [Value.int IntKind.i64 l, Value.slice (some ⟨ga, t, none⟩) (k + 1) (k + 1)] := by
          rw [e1]
          rfl
        rw [e2]
        exact ho5
      · have e2 : pthC p (k + 1 + 1 - 1) = pthC p k ++ p.take (k + 1) := rfl
        rw [e2, List.map_append]
        exact own_other (HO4.out.alloc _).drew hg5 (fun e => by have := HNE.out; have := Option.some.inj e; omega)
      · show n + 1 - (((k + 1 : Nat) : Int) + 1).toNat < n + 1 - ((k + 1 : Nat) : Int).toNat
        omega
      -- behind the region
    · obtain rfl : m = n + 1 := by omega
      have z1 : ¬ ((n + 1 : Nat) : Int) ≤ (n : Int) := by omega
      go_wp2_with fail
      go_ret
      have e1 := HTT.out
      simp at e1
      subst e1
      have e2 := HT.out
      subst e2
      have e3 := HN.out
      refine ⟨w.heap.size + 1, rfl, ⟨ga, ⟨by omega, by have := HNE.out; omega, by have := HNE.out; omega, ?_, ?_⟩⟩, HB.out⟩
      · rw [← e3]
        exact HO1.out
      · rw [← e3]
        exact HO2.out
end Go.Proofs.YtnohcppipkpgmaaDoor
