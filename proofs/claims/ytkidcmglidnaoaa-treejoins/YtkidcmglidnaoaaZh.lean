import Derived.Test.YtkidcmglidnaoaaZg
namespace Go.Proofs.Ytkidcmglidnaoaa
open Go.RowKit
set_option linter.unusedVariables false
set_option linter.unusedSimpArgs false

theorem OC.ones {W : World} {lo hi g n : Nat} {T : List Nd} {cur : Array Value} (h : OC W lo hi g n T n cur) (hT : T.length = n) : ∀ u ∈ cur.toList, u.oneCell' = true := by
  intro u hu
  obtain ⟨j, hj, rfl⟩ := List.getElem_of_mem hu
  have hs := h.size
  have hj' : j < n * 5 := by simpa [hs] using hj
  have hi' : j / 5 < T.length := by omega
  obtain ⟨v, ⟨n0, n1, n2, n3, n4⟩, h2, h3⟩ := h.nd (j / 5) T[j / 5] (by omega) (List.getElem?_eq_getElem hi')
  have key : ∀ r u, j = j / 5 * 5 + r → cur[j / 5 * 5 + r]? = some u → cur.toList[j] = u := fun r u e hc => by
    rw [← e] at hc
    have : cur.toList[j]? = some u := by simpa using hc
    rw [List.getElem?_eq_getElem hj] at this
    exact Option.some.inj this
  have hr : j % 5 = 0 ∨ j % 5 = 1 ∨ j % 5 = 2 ∨ j % 5 = 3 ∨ j % 5 = 4 := by omega
  rcases hr with hr | hr | hr | hr | hr
  · rw [key 0 _ (by omega) n0]; rfl
  · rw [key 1 _ (by omega) n1]; rfl
  · rw [key 2 _ (by omega) n2]; rfl
  · rw [key 3 _ (by omega) n3]; rfl
  · rw [key 4 _ (by omega) n4]
    obtain ⟨sa, sc, rfl⟩ := row_slice3 h2
    rfl
theorem OC.news {W : World} {lo hi g n : Nat} {T : List Nd} {cur : Array Value} (h : OC W lo hi g n T n cur) : ∀ j u, cur.toList[j]? = some u → W.cell? ((⟨g, 0, none⟩ : Addr).add j) = some u := by
  intro j u hu
  have hadd : (⟨g, 0, none⟩ : Addr).add j = ⟨g, j, none⟩ := by unfold Addr.add; split <;> simp_all
  rw [hadd, h.cell]
  simpa using hu
theorem LJ.step {w : World} {g cnt : Nat} {f : Fo} {k : Nat} {vl' : Value} {ys : List Value} {W' w3 w4 : World} {x : Nx} {c : Fo} {gs m : Nat} {cur : Array Value} (hm : m = 1 + c.size)
    (hrow : W'.ownsRow w.heap.size 48 5 (.slice (some ⟨g, 0, none⟩) (1 + f.size) cnt) (1 + f.size) (z5 ++ ys)) (hlg : vl'.ownBlock ≠ some g) (hgw : w.heap.size ≤ g) (hlen : ys.length = f.size * 5)
    (hnd : ∀ i d, (f.flat 1)[i]? = some d → ∃ v, LCur ys i d.x v ∧ W'.ownsRow w.heap.size 3 1 v d.l.length (iCells d.l) ∧ (∀ b, v.ownBlock = some b → b ≠ g ∧ vl'.ownBlock ≠ some b ∧ b < W'.heap.size))
    (hl : W'.ownsRow w.heap.size 3 1 vl' (k + 1) (iCells (f.starts 1) ++ [.int .i64 ((1 + f.size : Nat) : Int)])) (hb : Below W'.heap.size W' w3) (hwW : w.heap.size ≤ W'.heap.size)
    (hO : OC w3 W'.heap.size w3.heap.size gs m ((Fo.cons x c .nil).flat (1 + f.size)) m cur)
    (ho : w4.ownsRow w.heap.size 48 5 (.slice (some ⟨g, 0, none⟩) (1 + f.size + m) cnt) (1 + f.size + m) ((z5 ++ ys) ++ cur.toList)) (hg4 : w3.grownBy w4 (some g)) :
    LJ w g cnt (f.app (.cons x c .nil)) (k + 1) vl' (ys ++ cur.toList) w4 := by
  have hgl : g < W'.heap.size := (hrow.lt g rfl).2
  have hsz : (f.app (.cons x c .nil)).size = f.size + m := by rw [Fo.size_app, hm]; simp [Fo.size]
  have hcs := hO.size
  have g1 : W'.grownBy w3 none := grown_of_below hb
  have keepRow : ∀ {v : Value} {n : Nat} {xs : List Value}, W'.ownsRow w.heap.size 3 1 v n xs → v.ownBlock ≠ some g → w4.ownsRow w.heap.size 3 1 v n xs := fun h1 h2 => (h1.kept g1 (by cases e : Value.ownBlock _ <;> simp)).kept hg4 (.inr h2)
  refine ⟨?_, ?_, fun i d hd => ?_, ?_, hlg, hgw⟩
  · rw [hsz, show 1 + (f.size + m) = 1 + f.size + m by omega, ← List.append_assoc]
    exact ho
  · rw [List.length_append, hlen, hsz, Array.length_toList, hcs]; omega
  · rw [Fo.flat_app] at hd
    rcases Nat.lt_or_ge i f.size with h | h
    · rw [List.getElem?_append_left (by rw [Fo.len_flat]; exact h)] at hd
      obtain ⟨v, ⟨n0, n1, n2, n3, n4⟩, h2, h3⟩ := hnd i d hd
      have ap : ∀ j, j < 5 → (ys ++ cur.toList)[i * 5 + j]? = ys[i * 5 + j]? := fun j hj => List.getElem?_append_left (by rw [hlen]; omega)
      refine ⟨v, ⟨(ap 0 (by omega)).trans n0, (ap 1 (by omega)).trans n1, (ap 2 (by omega)).trans n2, (ap 3 (by omega)).trans n3, (ap 4 (by omega)).trans n4⟩, keepRow h2 (fun e => (h3 g e).1 rfl), fun b e => ⟨(h3 b e).1, (h3 b e).2.1, ?_⟩⟩
      have e1 := (h3 b e).2.2
      have e2 := hb.size
      have e3 := hg4.size
      omega
    · rw [List.getElem?_append_right (by rw [Fo.len_flat]; exact h), Fo.len_flat] at hd
      have hi' := (List.getElem?_eq_some_iff.1 hd).1
      rw [Fo.len_flat] at hi'
      have hi2 : i - f.size < m := by rw [hm]; simpa [Fo.size] using hi'
      obtain ⟨v, ⟨n0, n1, n2, n3, n4⟩, h2, h3⟩ := hO.nd (i - f.size) d hi2 hd
      have ap : ∀ j, j < 5 → (ys ++ cur.toList)[i * 5 + j]? = cur[(i - f.size) * 5 + j]? := fun j hj => by
        rw [List.getElem?_append_right (by rw [hlen]; omega), hlen, show i * 5 + j - f.size * 5 = (i - f.size) * 5 + j by omega]
        simp
      have vlo : ∀ b, v.ownBlock = some b → W'.heap.size ≤ b := fun b e => (h2.lt b e).1
      refine ⟨v, ⟨(ap 0 (by omega)).trans n0, (ap 1 (by omega)).trans n1, (ap 2 (by omega)).trans n2, (ap 3 (by omega)).trans n3, (ap 4 (by omega)).trans n4⟩, ?_, fun b e => ⟨?_, fun e' => ?_, ?_⟩⟩
      · refine (owns_low h2 hwW).kept hg4 ?_
        cases e : v.ownBlock with
        | none => exact .inl rfl
        | some b => exact .inr (fun e' => by have := vlo b e; have := Option.some.inj e'; omega)
      · have := vlo b e
        omega
      · have e1 := (hl.lt b e').2
        have e2 := vlo b e
        omega
      · have e1 := (h3 b e).2
        have e3 := hg4.size
        omega
  · rw [Fo.starts_app]
    have e : iCells (f.starts 1 ++ (Fo.cons x c .nil).starts (1 + f.size)) = iCells (f.starts 1) ++ [.int .i64 ((1 + f.size : Nat) : Int)] := by simp [iCells, Fo.starts]
    rw [e]
    exact keepRow hl hlg
/-- The first node is written over. -/
def setNdL (W : World) (g : Nat) (x : Nx) (v : Value) : World := ((((W.setCell ⟨g, 0, none⟩ (.int .u8 (x.k : Int))).setCell ⟨g, 1, none⟩ (.int .i64 x.p)).setCell ⟨g, 2, none⟩ (.int .i64 x.n)).setCell ⟨g, 3, none⟩ (.string (str x.s))).setCell ⟨g, 4, none⟩ v
theorem LJ.cur {w : World} {g cnt : Nat} {f : Fo} {k : Nat} {vl : Value} {ys : List Value} {W : World} (h : LJ w g cnt f k vl ys W) : ∃ cur : Array Value, W.heap[g]? = some (.cells cur 48 (0, 0)) ∧ cur.size = cnt * 5 ∧ cur.toList.take ((1 + f.size) * 5) = z5 ++ ys ∧ 1 + f.size ≤ cnt := by
  rcases h.row.2 with ⟨h', _⟩ | ⟨g', cap', cur, h', _, hg, hle, _, hs, htake⟩
  · simp at h'
  · simp only [Value.slice.injEq, Option.some.injEq, Addr.mk.injEq, and_true, true_and] at h'
    obtain ⟨rfl, rfl⟩ := h'
    exact ⟨cur, hg, hs, htake, hle⟩
theorem setNdL_off {W : World} {g b : Nat} {x : Nx} {v : Value} (h : b ≠ g) : (setNdL W g x v).heap[b]? = W.heap[b]? := by
  unfold setNdL
  rw [Below.heap_setCell _ _ _ b h, Below.heap_setCell _ _ _ b h, Below.heap_setCell _ _ _ b h, Below.heap_setCell _ _ _ b h, Below.heap_setCell _ _ _ b h]
theorem setNdL_size (W : World) (g : Nat) (x : Nx) (v : Value) : (setNdL W g x v).heap.size = W.heap.size := by simp [setNdL]
theorem below_setNdL {B : Nat} {w0 W : World} (h : Below B w0 W) {g : Nat} (hg : B ≤ g) (x : Nx) (v : Value) : Below B w0 (setNdL W g x v) := ((((h.setCell hg _).setCell hg _).setCell hg _).setCell hg _).setCell hg _
theorem LJ.oc {w : World} {g cnt : Nat} {f : Fo} {k : Nat} {vl : Value} {ys : List Value} {W : World} (h : LJ w g cnt f k vl ys W) (nx : Nx) (hk : k = f.kinds.length) (hc : cnt = 1 + f.size) : ∃ cur', OC (setNdL W g nx vl) w.heap.size W.heap.size g cnt ((Fo.cons nx f .nil).flat 0) cnt cur' := by
  obtain ⟨cur, hat, hcs, htake, -⟩ := h.cur
  have hgl := h.gl
  have hfull : cur.toList = z5 ++ ys := by rw [← htake, List.take_of_length_le (by rw [Array.length_toList, hcs, hc]; exact Nat.le_refl _)]
  have hlen := h.len
  have h1 := heap_setCell_same W g 0 _ 48 (.int .u8 (nx.k : Int)) hat
  have h2 := heap_setCell_same _ g 1 _ 48 (.int .i64 nx.p) h1
  have h3 := heap_setCell_same _ g 2 _ 48 (.int .i64 nx.n) h2
  have h4 := heap_setCell_same _ g 3 _ 48 (.string (str nx.s)) h3
  have h5 := heap_setCell_same _ g 4 _ 48 vl h4
  obtain ⟨cur', hcur'⟩ : ∃ cur', cur' = ((((cur.setIfInBounds 0 (.int .u8 (nx.k : Int))).setIfInBounds 1 (.int .i64 nx.p)).setIfInBounds 2 (.int .i64 nx.n)).setIfInBounds 3 (.string (str nx.s))).setIfInBounds 4 vl := ⟨_, rfl⟩
  rw [← hcur'] at h5
  have hcs' : cur'.size = cnt * 5 := by rw [hcur']; simpa using hcs
  have far : ∀ o, 5 ≤ o → cur'[o]? = ys[o - 5]? := fun o ho => by
    rw [hcur', Array.getElem?_setIfInBounds_ne (by omega), Array.getElem?_setIfInBounds_ne (by omega), Array.getElem?_setIfInBounds_ne (by omega), Array.getElem?_setIfInBounds_ne (by omega), Array.getElem?_setIfInBounds_ne (by omega)]
    have : cur[o]? = cur.toList[o]? := by simp
    rw [this, hfull, List.getElem?_append_right (by simpa using ho)]
    rfl
  have hpos : 5 ≤ cur.size := by omega
  have kp : ∀ {v : Value} {n : Nat} {xs : List Value}, W.ownsRow w.heap.size 3 1 v n xs → v.ownBlock ≠ some g → (setNdL W g nx vl).ownsRow w.heap.size 3 1 v n xs := fun e1 e2 => e1.kept (grown_set (grown_set (grown_set (grown_set (grown_set (grown_refl W (some g)) 0 _) 1 _) 2 _) 3 _) 4 _) (.inr e2)
  refine ⟨cur', h5, hcs', h.gw, hgl, fun i d hi' hd => ?_, fun i h1 h2 => by omega⟩
  simp only [Fo.flat, List.append_nil] at hd
  cases i with
  | zero =>
    simp at hd
    subst hd
    refine ⟨vl, ⟨?_, ?_, ?_, ?_, ?_⟩, ?_, fun b e => ⟨fun e' => h.lg (by rw [e, e']), (h.l.lt b e).2⟩⟩
    · rw [hcur', Array.getElem?_setIfInBounds_ne (by omega), Array.getElem?_setIfInBounds_ne (by omega), Array.getElem?_setIfInBounds_ne (by omega), Array.getElem?_setIfInBounds_ne (by omega), Array.getElem?_setIfInBounds_self_of_lt (by omega)]
    · rw [hcur', Array.getElem?_setIfInBounds_ne (by omega), Array.getElem?_setIfInBounds_ne (by omega), Array.getElem?_setIfInBounds_ne (by omega), Array.getElem?_setIfInBounds_self_of_lt (by simp; omega)]
    · rw [hcur', Array.getElem?_setIfInBounds_ne (by omega), Array.getElem?_setIfInBounds_ne (by omega), Array.getElem?_setIfInBounds_self_of_lt (by simp; omega)]
    · rw [hcur', Array.getElem?_setIfInBounds_ne (by omega), Array.getElem?_setIfInBounds_self_of_lt (by simp; omega)]
    · rw [hcur', Array.getElem?_setIfInBounds_self_of_lt (by simp; omega)]
    · have e : (f.starts (0 + 1)).length = k := by rw [Fo.len_starts, hk]
      show World.ownsRow _ _ _ _ _ (f.starts (0 + 1)).length (iCells (f.starts (0 + 1)))
      rw [e]
      exact kp h.l h.lg
  | succ i =>
    rw [List.getElem?_cons_succ] at hd
    obtain ⟨v, ⟨n0, n1, n2, n3, n4⟩, e2, e3⟩ := h.nd i d hd
    have ap : ∀ o j, o = i * 5 + 5 + j → cur'[o]? = ys[i * 5 + j]? := fun o j ho => by rw [far _ (by omega), show o - 5 = i * 5 + j by omega]
    have ap0 : ∀ o, o = i * 5 + 5 → cur'[o]? = ys[i * 5]? := fun o ho => by rw [far _ (by omega), show o - 5 = i * 5 by omega]
    refine ⟨v, ⟨?_, ?_, ?_, ?_, ?_⟩, kp e2 (fun e => (e3 g e).1 rfl), fun b e => ⟨(e3 b e).1, (e3 b e).2.2⟩⟩
    · rw [ap0 _ (by omega)]; exact n0
    · rw [ap _ 1 (by omega)]; exact n1
    · rw [ap _ 2 (by omega)]; exact n2
    · rw [ap _ 3 (by omega)]; exact n3
    · rw [ap _ 4 (by omega)]; exact n4
set_option maxRecDepth 100000 in
set_option maxHeartbeats 8000000 in
theorem laid_any (nx : Nx) (an : Option Addr) (ln capn : Nat) (Fs : List (Nx × Fo)) (nF : Nat) (hnF : Fs.length = nF) (cnt : Nat) (a : Option Addr) (cap : Nat) (w : World) (hC : CRow w a (Fs.map tr)) (hcnt : cnt = 1 + (fo Fs).size) (hc2 : cnt ≤ 16384) (hs : nx.s.length ≤ 140737488355328)
    (hok : ∀ f ∈ Fs, (Fo.cons f.1 f.2 .nil).all okP = true) (hfl : nF ≤ 20000) :
    Calls Try.prog 47 #[ndV nx an ln capn, .int .i64 cnt, .slice a nF cap] w fun e w' => ∃ g cur, e = .returned (trV (some ⟨g, 0, none⟩) cnt cnt) ∧ OC w' w.heap.size w'.heap.size g cnt ((Fo.cons nx (fo Fs) .nil).flat 0) cnt cur ∧ Below w.heap.size w w' := by
  obtain ⟨i0, hi, hz0, hz1, hz2⟩ := info_parts Try.info48
  obtain ⟨i3, hi3, hz30, hz31, hz32⟩ := info_parts Try.info3
  obtain ⟨W2, hW2⟩ : ∃ W2, W2 = (w.alloc (Ndo nx an ln capn)).alloc (Tro none 0 0) := ⟨_, rfl⟩
  have B2 : Below w.heap.size w W2 := by rw [hW2]; exact belA (belA (Below.refl _ _))
  have A1 : At W2 w.heap.size (Ndo nx an ln capn) := by rw [hW2]; exact at_fst _ _ _
  have A2 : At W2 (w.heap.size + 1) (Tro none 0 0) := by rw [hW2]; exact at_snd _ _ _
  have hs2 : W2.heap.size = w.heap.size + 2 := by rw [hW2]; simp
  have HW2 : Hid ((w.alloc (.cells #[.int .u8 (nx.k : Int), .int .i64 nx.p, .int .i64 nx.n, .string (str nx.s), .slice an ln capn] 48)).alloc (.cells #[.slice none 0 0] 24) = W2) := hW2.symm
  have hcl : 1 ≤ cnt := by omega
  have HC : Hid (CRow w a (Fs.map tr)) := hC
  have HCNT : Hid (cnt = 1 + (fo Fs).size) := hcnt
  have HOK : Hid (∀ f ∈ Fs, (Fo.cons f.1 f.2 .nil).all okP = true) := hok
  have HNF : Hid (Fs.length = nF) := hnF
  have HCl : Hid (∀ W, Calls Try.prog 65 #[.string (str nx.s)] W fun e w' => e = .returned (.string (str nx.s)) ∧ Below W.heap.size W w') := fun W => clone_any nx.s W hs
  clear hW2 hC hcnt hok hnF
  go_enter Try.func47, Try.ntmps47
  go_wp2_with (at_make; rw [HW2.out]; refine wpList_make_len _ rfl _ _ 22 rfl W2.heap.size 48 i0 (.agg #[.int .u8 0, .int .i64 0, .int .i64 0, .string ⟨#[]⟩, .slice none 0 0]) 5 Try.underlying22 hi hz0 hz1 .i64 .i64 _ _ 1 cnt rfl rfl rfl rfl (by omega) (by rw [hz2]; omega) (by unfold maxLen; omega) (Nat.le_refl _) ?_; intro w3 hown3 hgrow3)
  have hz5 : (madeCells (Value.agg #[.int .u8 0, .int .i64 0, .int .i64 0, .string ⟨#[]⟩, .slice none 0 0]).cells (cnt * 5)).toList.take (1 * 5) = z5 := by
    obtain ⟨m, rfl⟩ : ∃ m, cnt = m + 1 := ⟨cnt - 1, by omega⟩
    have hc : (Value.agg #[.int .u8 0, .int .i64 0, .int .i64 0, .string ⟨#[]⟩, .slice none 0 0]).cells = #[.int .u8 0, .int .i64 0, .int .i64 0, .string ⟨#[]⟩, .slice none 0 0] := by rfl
    rw [hc]
    apply List.ext_getElem?
    intro i
    rw [List.getElem?_take]
    unfold madeCells
    by_cases h5 : i < 5
    · rw [if_pos (by omega), Array.getElem?_toList, Array.getElem?_map, Array.getElem?_range, if_pos (by omega)]
      have : i = 0 ∨ i = 1 ∨ i = 2 ∨ i = 3 ∨ i = 4 := by omega
      rcases this with rfl | rfl | rfl | rfl | rfl <;> rfl
    · rw [if_neg (by omega), List.getElem?_eq_none (by simp; omega)]
  rw [hz5] at hown3
  clear hz5
  have b3 := below_of_grown hgrow3
  have B3 : Below w.heap.size w w3 := below_aft B2 b3
  have A1' := A1.below b3
  have A2' := A2.below b3
  have J0 : LJ W2 (w.heap.size + 2) cnt .nil 0 (.slice none 0 0) [] w3 := by
    refine ⟨by rw [hs2] at hown3 ⊢; simpa [Fo.size] using hown3, by simp [Fo.size], fun i d hd => by simp [Fo.flat] at hd, World.ownsRow_nil _ _ _ _, by simp [Value.ownBlock], by omega⟩
  clear A1 A2 b3 hgrow3 hown3 B2 HW2
  try rw [hs2]
  go_loopw [7, 8, 15] (fun v7 v8 i W => ∃ (k : Nat) (vl : Value) (ys : List Value), k ≤ nF ∧ i = .int .i64 k ∧ v8 = vl ∧ v7 = .slice (some ⟨w.heap.size + 2, 0, none⟩) (1 + (fo (Fs.take k)).size) cnt ∧ LJ W2 (w.heap.size + 2) cnt (fo (Fs.take k)) k vl ys W ∧ At W w.heap.size (Ndo nx an ln capn) ∧ At W (w.heap.size + 1) (Tro none 0 0) ∧ Below w.heap.size w W) (fun _ _ i _ => nF - (intOf i).toNat)
  case atStart => exact ⟨0, _, _, Nat.zero_le _, rfl, rfl, rfl, J0, A1', A2', B3⟩
  case round =>
    obtain ⟨k, vl, ys, hk, rfl, rfl, rfl, hJ, a1, a2, hB⟩ := hrel
    clear J0 A1' A2' B3
    obtain ⟨f, hf⟩ : ∃ f, f = fo (Fs.take k) := ⟨_, rfl⟩
    rw [← hf] at hJ ⊢
    have HF : Hid (f = fo (Fs.take k)) := hf
    have hfs : f.size + 1 ≤ cnt := by have := fo_mono Fs k; have := HCNT.out; rw [hf]; omega
    clear hf
    by_cases hlt : k < nF
    · have hlt' : k < Fs.length := by rw [HNF.out]; exact hlt
      obtain ⟨t, ht⟩ : ∃ t, Fs[k]? = some t := ⟨_, List.getElem?_eq_getElem hlt'⟩
      obtain ⟨gt, ot, rfl, hgt, hrow⟩ := HC.out (by rintro h; rw [List.map_eq_nil_iff] at h; rw [h] at hlt'; simp at hlt')
      obtain ⟨ai, capi, q1, q2⟩ := hrow k (tr t) (by rw [List.getElem?_map, ht]; rfl)
      obtain ⟨m, hm⟩ : ∃ m, m = (tr t).length := ⟨_, rfl⟩
      rw [← hm] at q1
      replace q1 := (hB.cell (p := ⟨gt, ot + k, none⟩) hgt).trans q1
      have hmt : m = 1 + t.2.size := by rw [hm, tr_len]
      have hfit : 1 + f.size + m ≤ cnt := by
        have e1 := fo_size ht
        have e2 := fo_mono Fs (k + 1)
        have e3 := HCNT.out
        rw [← HF.out] at e1
        omega
      have HFS : Hid (fo (Fs.take (k + 1)) = f.app (.cons t.1 t.2 .nil)) := by show fo (Fs.take (k + 1)) = _; rw [fo_take ht, ← HF.out]
      have hokt := HOK.out t (List.mem_of_getElem? ht)
      have HSH : Hid (∀ W, Below w.heap.size w W → Calls Try.prog 42 #[.slice ai m capi, .int .i64 (1 + (f.size : Int))] W fun e w' => ∃ cur, e = .returned (.slice (some ⟨W.heap.size, 0, none⟩) m m) ∧ OC w' W.heap.size w'.heap.size W.heap.size m ((Fo.cons t.1 t.2 .nil).flat (1 + f.size)) m cur ∧ Below W.heap.size W w') := fun W hW => by
        have hmv : Mvb (tr t) ((1 + f.size : Nat) : Int) := by
          refine ⟨by omega, fun d hd => by have := (ok_txt _ hokt 0 d hd).1; omega, fun d hd => ?_, fun d hd q hq => ?_, by omega⟩
          · have := (flat_kids _ 0 d hd).2
            simp only [Fo.size] at this
            omega
          · have := (flat_kids _ 0 d hd).1 q hq
            simp only [Fo.size] at this
            omega
        have := shifted_n (tr t) m hm.symm ai capi ((1 + f.size : Nat) : Int) W (q2.below hW) hmv
        rw [show (tr t).map (Fo.mv ((1 + f.size : Nat) : Int)) = (Fo.cons t.1 t.2 .nil).flat (1 + f.size) by rw [← Fo.flat_mv, Nat.zero_add], show ((1 + f.size : Nat) : Int) = 1 + (f.size : Int) by omega] at this
        exact this
      have HMT : Hid (m = 1 + t.2.size) := hmt
      have k0 : (0 : Int) ≤ (k : Int) := by omega
      have k1 : (k : Int) < (nF : Int) := by omega
      have w3e : IntKind.i64.wrap ((k : Int) + 1) = (k : Int) + 1 := by rw [IntKind.wrap_i64]; omega
      -- the child's box
      have J1 := hJ.fresh (World.grownBy_alloc wr (Tro ai m capi) none)
      have J2 := J1.fresh (World.grownBy_alloc (wr.alloc (Tro ai m capi)) (.cells #[.int .i64 ((1 + f.size : Nat) : Int)] 3) none)
      obtain ⟨sv, cv, hsv⟩ := row_slice3 hJ.l
      subst hsv
      obtain ⟨Wb, hWb⟩ : ∃ Wb, Wb = (wr.alloc (Tro ai m capi)).alloc (.cells #[.int .i64 ((1 + f.size : Nat) : Int)] 3) := ⟨_, rfl⟩
      have hWbs : Wb.heap.size = wr.heap.size + 2 := by rw [hWb]; simp
      rw [← hWb] at J2
      have Ab1 : At Wb wr.heap.size (Tro ai m capi) := by rw [hWb]; exact at_fst _ _ _
      have Ab2 : At Wb (wr.heap.size + 1) (.cells #[.int .i64 ((1 + f.size : Nat) : Int)] 3) := by rw [hWb]; exact at_snd _ _ _
      have Ab3 : At Wb w.heap.size (Ndo nx an ln capn) := by rw [hWb]; exact (a1.alloc _).alloc _
      have Ab4 : At Wb (w.heap.size + 1) (Tro none 0 0) := by rw [hWb]; exact (a2.alloc _).alloc _
      have Bb : Below w.heap.size w Wb := by rw [hWb]; exact belA (belA hB)
      have HWb : Hid ((wr.alloc (.cells #[.slice ai m capi] 24)).alloc (.cells #[.int .i64 (1 + (f.size : Int))] 3) = Wb) := by
        show _ = Wb
        rw [hWb]
        congr 5
      have hBs := hB.size
      have news : ∀ j u, ([.int .i64 ((1 + f.size : Nat) : Int)] : List Value)[j]? = some u → Wb.cell? ((⟨wr.heap.size + 1, 0, none⟩ : Addr).add j) = some u := by
        intro j u hu
        have hadd : (⟨wr.heap.size + 1, 0, none⟩ : Addr).add j = ⟨wr.heap.size + 1, j, none⟩ := by unfold Addr.add; split <;> simp_all
        rw [hadd]
        match j, hu with
        | 0, hu => simp at hu; rw [cell_of_row _ _ 0 _ _ _ Ab2, ← hu]; rfl
        | j + 1, hu => simp at hu
      have ones : ∀ u ∈ ([.int .i64 ((1 + f.size : Nat) : Int)] : List Value), u.oneCell' = true := by
        intro u hu
        simp only [List.mem_singleton] at hu
        rw [hu]; rfl
      have e10 : ((1 + f.size : Nat) : Int) = 1 + (f.size : Int) := by omega
      have hJl := J2.l
      have kn : k + 1 ≤ 20001 := by omega
      have lgb : (w.heap.size + 2) < wr.heap.size := hJ.gl
      clear hWb hrow ht hm hlt' hmt hokt J1
      go_wp2_with (first
        | (at_builtin; rw [HWb.out]; refine wpList_append_two _ rfl (.tmp 19) (.tmp 22) 35 rfl W2.heap.size 3 i3 (.int .i64 0) 1 8 Try.underlying35 hi3 hz30 hz31 hz32 rfl (by decide) _ k _ rfl hJl ⟨wr.heap.size + 1, 0, none⟩ 1 1 [.int .i64 ((1 + f.size : Nat) : Int)] (by omega) rfl rfl news ones (by unfold maxLen; omega) (by omega) (by omega) ?_; intro v' w4 ho4 hg4 hw4; obtain ⟨sa, sc, rfl⟩ := row_slice3 ho4; obtain ⟨M1, M2, M3⟩ := J2.more hg4 ho4 (fun b e => (hw4 b e).imp id (fun h => by omega)); obtain ⟨x0, xf⟩ := (Ab1.grown hg4 (fun e => by have := (hJ.l.lt _ e.symm).2; omega)).one)
        | (go_at_call 42; refine (HSH.out w4 (Bb.grown hg4 Bb.size (fun b e => by have := (hJ.l.lt _ e).1; omega))).mono ?_; rintro e w5 ⟨cur, rfl, hO5, hb5⟩; have M1' := M1.kept (grown_of_below (r := none) hb5) (.inr (by simp [Value.ownBlock])); have hcs5 := hO5.size; have on5 := hO5.ones (by rw [Fo.len_flat]; simp [Fo.size]; have := HMT.out; omega); have nw5 := hO5.news)
        | (at_builtin; refine wpList_append_fits _ rfl (.tmp 24) (.tmp 29) 22 rfl W2.heap.size 48 i0 5 Try.underlying22 hi hz1 (w.heap.size + 2) (1 + f.size) cnt (z5 ++ ys) rfl M1' ⟨w4.heap.size, 0, none⟩ m m cur.toList rfl (by rw [Array.length_toList]; exact hcs5) nw5 on5 hfit ?_; intro w6 ho6 hg6))
      have S := LJ.step HMT.out M1 M2 hJ.gw J2.len M3 ho4 hb5 (by have := hg4.size; omega) hO5 ho6 hg6
      have hsvne : ∀ b, b < w.heap.size + 2 → some b ≠ (Value.slice sv k cv).ownBlock := fun b hb e => by have := (hJ.l.lt b e.symm).1; omega
      have hb4 : Below w.heap.size w w4 := Bb.grown hg4 Bb.size (fun b e => by have := (hJ.l.lt b e).1; omega)
      refine ⟨⟨k + 1, _, _, by omega, by go_num, rfl, ?_, by rw [HFS.out]; exact S, ?_, ?_, ?_⟩, by simp [intOf]; omega⟩
      · rw [HFS.out, Fo.size_app]
        simp only [Fo.size]
        have := HMT.out
        congr 1
        omega
      · exact ((Ab3.grown hg4 (hsvne _ (by omega))).below hb5).grown hg6 (by simp)
      · exact ((Ab4.grown hg4 (hsvne _ (by omega))).below hb5).grown hg6 (by simp)
      · exact (below_aft hb4 hb5).grown hg6 (below_aft hb4 hb5).size (fun b e => by cases e; omega)
    · obtain rfl : k = nF := by omega
      have hff : f = fo Fs := by
        have := HF.out
        rwa [List.take_of_length_le (by rw [HNF.out]; exact Nat.le_refl _)] at this
      have hcf : cnt = 1 + f.size := by rw [hff]; exact HCNT.out
      obtain ⟨cur', hOC⟩ := hJ.oc nx (by rw [hff, fo_kinds, HNF.out]) hcf
      obtain ⟨y0, y1, y2, y3, y4, yf⟩ := a1.nd
      obtain ⟨sv, cv, hsv⟩ := row_slice3 hJ.l
      subst hsv
      obtain ⟨cur, hat, hcs⟩ := hJ.cur
      have lgb : (w.heap.size + 2) < wr.heap.size := hJ.gl
      have HO : Hid (OC (setNdL wr (w.heap.size + 2) nx (.slice sv k cv)) W2.heap.size wr.heap.size (w.heap.size + 2) cnt ((Fo.cons nx f .nil).flat 0) cnt cur') := hOC
      have HFF : Hid (f = fo Fs) := hff
      have HCF : Hid (cnt = 1 + f.size) := hcf
      have z1 : (0 : Int) < 1 + (f.size : Int) := by omega
      have HJ : Hid (LJ W2 (w.heap.size + 2) cnt f k (.slice sv k cv) ys wr) := hJ
      clear hOC hff hcf hJ
      go_wp2
      refine beginH (S := fun w' => KeepX wr.heap.size (w.heap.size + 2) wr w') (fun _ _ _ _ _ h => h) (by kernel_rfl) (Keep.drew _ _).x (fun hq hHeld => ?_)
      refine takeH (i := 0) (d := 32) _ hq rfl rfl (by kernel_rfl) (by kernel_rfl) (by kernel_rfl) (by rfl) (fun W hSw => by (go_simp; try rfl)) hHeld ?_
      try simp only [Act.put, List.setIfInBounds_toArray, List.set_cons_zero, List.set_cons_succ]
      refine takeH (i := 1) (d := 33) _ hq rfl rfl (by kernel_rfl) (by kernel_rfl) (by kernel_rfl) (by rfl) (fun W hSw => by (go_simp; try rfl)) hHeld ?_
      try simp only [Act.put, List.setIfInBounds_toArray, List.set_cons_zero, List.set_cons_succ]
      refine takeH (i := 2) (d := 34) _ hq rfl rfl (by kernel_rfl) (by kernel_rfl) (by kernel_rfl) (by rfl) (fun W hSw => by (have s1 := (hSw.cell (b := w.heap.size) (o := 0) (by omega) (by omega)).trans y0; go_simp; try rfl)) hHeld ?_
      try simp only [Act.put, List.setIfInBounds_toArray, List.set_cons_zero, List.set_cons_succ]
      refine takeH (i := 3) (d := 35) _ hq rfl rfl (by kernel_rfl) (by kernel_rfl) (by kernel_rfl) (by rfl) (fun W hSw => by (go_simp; try rfl)) hHeld ?_
      try simp only [Act.put, List.setIfInBounds_toArray, List.set_cons_zero, List.set_cons_succ]
      refine takeH (i := 4) (d := 36) _ hq rfl rfl (by kernel_rfl) (by kernel_rfl) (by kernel_rfl) (by rfl) (fun W hSw => by (have s1 := (hSw.cell (b := w.heap.size) (o := 1) (by omega) (by omega)).trans y1; go_simp; try rfl)) hHeld ?_
      try simp only [Act.put, List.setIfInBounds_toArray, List.set_cons_zero, List.set_cons_succ]
      refine takeH (i := 5) (d := 37) _ hq rfl rfl (by kernel_rfl) (by kernel_rfl) (by kernel_rfl) (by rfl) (fun W hSw => by (go_simp; try rfl)) hHeld ?_
      try simp only [Act.put, List.setIfInBounds_toArray, List.set_cons_zero, List.set_cons_succ]
      refine takeH (i := 6) (d := 38) _ hq rfl rfl (by kernel_rfl) (by kernel_rfl) (by kernel_rfl) (by rfl) (fun W hSw => by (have s1 := (hSw.cell (b := w.heap.size) (o := 2) (by omega) (by omega)).trans y2; go_simp; try rfl)) hHeld ?_
      try simp only [Act.put, List.setIfInBounds_toArray, List.set_cons_zero, List.set_cons_succ]
      refine takeH (i := 7) (d := 39) _ hq rfl rfl (by kernel_rfl) (by kernel_rfl) (by kernel_rfl) (by rfl) (fun W hSw => by (go_simp; try rfl)) hHeld ?_
      try simp only [Act.put, List.setIfInBounds_toArray, List.set_cons_zero, List.set_cons_succ]
      refine takeH (i := 8) (d := 40) _ hq rfl rfl (by kernel_rfl) (by kernel_rfl) (by kernel_rfl) (by rfl) (fun W hSw => by (have s1 := (hSw.cell (b := w.heap.size) (o := 3) (by omega) (by omega)).trans y3; go_simp; try rfl)) hHeld ?_
      try simp only [Act.put, List.setIfInBounds_toArray, List.set_cons_zero, List.set_cons_succ]
      refine takeH (i := 10) (d := 42) _ hq rfl rfl (by kernel_rfl) (by kernel_rfl) (by kernel_rfl) (by rfl) (fun W hSw => by (go_simp; try rfl)) hHeld ?_
      try simp only [Act.put, List.setIfInBounds_toArray, List.set_cons_zero, List.set_cons_succ]
      refine wpAnyH_ready (rs := [9]) (by kernel_rfl) (by simp) ?_
      refine AllReadyH.cons rfl (fun K hK => ?_) AllReadyH.nil
      go_simp
      refine (HCl.out _).mono ?_; rintro e w1 ⟨rfl, hb1⟩; have K1 : Keep wr.heap.size wr w1 := (Keep.drew _ _).trans (Keep.below hb1 (Nat.le_refl _)); have B1 : Below w.heap.size w w1 := below_aft hB.drew hb1
      go_wp2_with fail
      refine hK.out _ _ K1.x (fun hHeld => ?_)
      clear hK K
      try simp only [Act.put, List.setIfInBounds_toArray, List.set_cons_zero, List.set_cons_succ]
      refine takeH (i := 11) (d := 43) _ hq rfl rfl (by kernel_rfl) (by kernel_rfl) (by kernel_rfl) (by rfl) (fun W hSw => by (go_simp; try rfl)) hHeld ?_
      try simp only [Act.put, List.setIfInBounds_toArray, List.set_cons_zero, List.set_cons_succ]
      refine takeH (i := 12) (d := 44) (.pointer (some ⟨w.heap.size + 2, 0, none⟩)) hq rfl rfl (by kernel_rfl) (by kernel_rfl) (by kernel_rfl) (by rfl) (fun W hSw => by (go_simp; try rfl)) hHeld ?_
      try simp only [Act.put, List.setIfInBounds_toArray, List.set_cons_zero, List.set_cons_succ]
      have hat1 : w1.heap[w.heap.size + 2]? = some (.cells cur 48 (0, 0)) := (K1.same _ lgb).trans hat
      have hcell : ∀ o, w1.cell? ⟨w.heap.size + 2, o, none⟩ = cur[o]? := fun o => by simp [World.cell?, hat1]
      have f1 : ∀ o, w1.frozen? ⟨w.heap.size + 2, o, none⟩ = false := fun o => frozen_of_row w1 _ o _ 48 hat1
      have hc5 : 5 ≤ cur.size := by have := hcs.1; omega
      obtain ⟨p0, p0'⟩ : ∃ v, w1.cell? ⟨w.heap.size + 2, 0, none⟩ = some v := by rw [hcell]; exact ⟨_, Array.getElem?_eq_getElem (by omega)⟩
      obtain ⟨p1, p1'⟩ : ∃ v, w1.cell? ⟨w.heap.size + 2, 1, none⟩ = some v := by rw [hcell]; exact ⟨_, Array.getElem?_eq_getElem (by omega)⟩
      obtain ⟨p2, p2'⟩ : ∃ v, w1.cell? ⟨w.heap.size + 2, 2, none⟩ = some v := by rw [hcell]; exact ⟨_, Array.getElem?_eq_getElem (by omega)⟩
      obtain ⟨p3, p3'⟩ : ∃ v, w1.cell? ⟨w.heap.size + 2, 3, none⟩ = some v := by rw [hcell]; exact ⟨_, Array.getElem?_eq_getElem (by omega)⟩
      obtain ⟨p4, p4'⟩ : ∃ v, w1.cell? ⟨w.heap.size + 2, 4, none⟩ = some v := by rw [hcell]; exact ⟨_, Array.getElem?_eq_getElem (by omega)⟩
      clear hcell
      refine wpAnyH_ready (rs := [13]) (by kernel_rfl) (by simp) ?_
      refine AllReadyH.cons rfl (fun K hK => ?_) AllReadyH.nil
      go_simp
      go_wp2_with fail
      refine hK.out _ _ ⟨by show _ ≤ (setNdL w1 (w.heap.size + 2) nx (.slice sv k cv)).heap.size; rw [setNdL_size]; exact K1.size, fun b hb hbg => (setNdL_off (W := w1) (x := nx) (v := .slice sv k cv) hbg).trans (K1.same b hb)⟩ (fun hHeld => ?_)
      clear hK K
      refine wpAnyH_done (by kernel_rfl) ?_ _
      show Exit.then _ _ Exit.normal _ (setNdL w1 (w.heap.size + 2) nx (.slice sv k cv))
      have J1 : LJ W2 (w.heap.size + 2) cnt f k (.slice sv k cv) ys w1 := by
        have hJ := HJ.out
        refine ⟨?_, hJ.len, fun i d hd => ?_, owns_keep hJ.l (fun b e => (hJ.l.lt b e).2) K1, hJ.lg, hJ.gw⟩
        · refine ⟨hJ.row.1, ?_⟩
          rcases hJ.row.2 with h | ⟨g', cap', cur', e0, e1, e2, e3⟩
          · exact .inl h
          · exact .inr ⟨g', cap', cur', e0, e1, (K1.same g' (Array.getElem?_eq_some_iff.1 e2).1).trans e2, e3⟩
        · obtain ⟨v, e1, e2, e3⟩ := hJ.nd i d hd
          exact ⟨v, e1, owns_keep e2 (fun b e => (e3 b e).2.2) K1, fun b e => ⟨(e3 b e).1, (e3 b e).2.1, Nat.lt_of_lt_of_le (e3 b e).2.2 K1.size⟩⟩
      obtain ⟨cur2, O2⟩ := J1.oc nx (by rw [HFF.out, fo_kinds, HNF.out]) HCF.out
      have a2' : At (setNdL w1 (w.heap.size + 2) nx (.slice sv k cv)) (w.heap.size + 1) (Tro none 0 0) := (setNdL_off (by omega)).trans ((K1.same _ (by omega)).trans a2)
      have B5 := below_setNdL B1 (show w.heap.size ≤ w.heap.size + 2 by omega) nx (.slice sv k cv)
      have hk1 := K1.size
      obtain ⟨W5, hW5⟩ : ∃ W5, W5 = setNdL w1 (w.heap.size + 2) nx (.slice sv k cv) := ⟨_, rfl⟩
      have hs5 : W5.heap.size = w1.heap.size := by rw [hW5, setNdL_size]
      rw [← hW5] at O2 a2' B5 ⊢
      rw [← hs5] at O2
      obtain ⟨r0, rf⟩ := a2'.one
      have HO2 : Hid (OC W5 W2.heap.size W5.heap.size (w.heap.size + 2) cnt ((Fo.cons nx f .nil).flat 0) cnt cur2) := O2
      have hcc : (1 : Int) + (f.size : Int) = (cnt : Int) := by have := HCF.out; omega
      have hcc2 : 1 + f.size = cnt := HCF.out.symm
      clear hW5 hHeld J1 K1 hat1 f1 p0' p1' p2' p3' p4' hb1 B1 HO hat hcs y0 y1 y2 y3 y4 yf a1 a2 hB hk1 hs5 O2
      go_wp2
      have r5 := (a2'.setOne (.slice (some ⟨w.heap.size + 2, 0, none⟩) cnt cnt)).one.1
      refine bodyPost_ret (v := trV (some ⟨w.heap.size + 2, 0, none⟩) cnt cnt) (by simp [results, Try.results47, go_sem, r5]) rfl ⟨w.heap.size + 2, cur2, rfl, ?_, B5.setCell (by simp) _⟩
      rw [World.size_setCell, ← HFF.out]
      exact (HO2.out.range (fun b hb _ => Below.heap_setCell _ _ _ b (by show b ≠ w.heap.size + 1; omega))).low (by omega)
end Go.Proofs.Ytkidcmglidnaoaa
