import Derived.Test.YtkidcmglidnaoaaMH
namespace Go.Proofs.Ytkidcmglidnaoaa
open Go.RowKit
set_option linter.unusedVariables false
set_option linter.unusedSimpArgs false

/-- What a tree of the arguments has, however great it is. -/
structure Lg (T : List Nd) : Prop where
  n : T.length ≤ maxLen
  x : ∀ d ∈ T, SmX d.x
  l : ∀ d ∈ T, d.l.length ≤ maxLen
  c : ∀ d ∈ T, ∀ c ∈ d.l, -9223372036854775808 ≤ c ∧ c ≤ 9223372036854775807
theorem Lg.sm {T : List Nd} (h : Lg T) (h1 : T.length ≤ 16392) (h2 : ∀ d ∈ T, d.l.length ≤ 16392) : Sm T :=
  ⟨by omega, fun d hd => ⟨(h.x d hd).k, (h.x d hd).p0, (h.x d hd).p1, (h.x d hd).n0, (h.x d hd).n1, (h.x d hd).s, by have := h2 d hd; omega, h.c d hd⟩⟩
/-- How many numbers the lists of the first k nodes have. -/
def sl (T : List Nd) (k : Nat) : Nat := ((T.take k).map (fun d => d.l.length)).sum
theorem sl_succ {T : List Nd} {k : Nat} {d : Nd} (h : T[k]? = some d) : sl T (k + 1) = sl T k + d.l.length := by
  unfold sl
  rw [List.take_add_one, h]
  simp
theorem sl_mono (T : List Nd) (k : Nat) : ∀ j, sl T k ≤ sl T (k + j)
  | 0 => Nat.le_refl _
  | j + 1 => by
    refine Nat.le_trans (sl_mono T k j) ?_
    cases h : T[k + j]? with
    | some d => rw [← Nat.add_assoc, sl_succ h]; omega
    | none =>
      have h' := List.getElem?_eq_none_iff.1 h
      unfold sl
      rw [List.take_of_length_le h', List.take_of_length_le (by omega)]
      exact Nat.le_refl _
theorem sl_one {T : List Nd} {k : Nat} {d : Nd} (h : T[k]? = some d) : sl T k + d.l.length ≤ sl T T.length := by
  have hk := (List.getElem?_eq_some_iff.1 h).1
  have := sl_mono T (k + 1) (T.length - (k + 1))
  rw [sl_succ h, show k + 1 + (T.length - (k + 1)) = T.length by omega] at this
  exact this
/-- It is no greater than the law asks. -/
def Fit (T : List Nd) : Prop := T.length ≤ 16392 ∧ sl T T.length ≤ 16392
theorem Fit.l {T : List Nd} (h : Fit T) : ∀ d ∈ T, d.l.length ≤ 16392 := fun d hd => by
  obtain ⟨j, hj, rfl⟩ := List.getElem_of_mem hd
  have := sl_one (List.getElem?_eq_getElem hj)
  have := h.2
  omega
set_option maxRecDepth 100000 in
set_option maxHeartbeats 4000000 in
theorem fits_any (T : List Nd) (n : Nat) (hn : T.length = n) (r : Bool) (hr : r = true ↔ Fit T) (a : Option Addr) (cap : Nat) (w : World) (hT : TAt w a T) (hL : Lg T) :
    Calls Try.prog 9 #[trV a n cap] w fun e w' => e = .returned (.bool r) ∧ Below w.heap.size w w' := by
  subst hn
  have hn := hL.n
  unfold maxLen at hn
  have A1 := At.new w (Tro a T.length cap)
  obtain ⟨c0, f0⟩ := A1.one
  have hB1 : Below w.heap.size w (w.alloc (Tro a T.length cap)) := belA (Below.refl _ _)
  have HR : Hid (r = true ↔ Fit T) := hr
  have no : ¬ Fit T → r = false := fun h => by
    cases hx : r with
    | false => rfl
    | true => exact absurd (HR.out.1 hx) h
  have NO : Hid (¬ Fit T → r = false) := no
  clear hr no
  by_cases hbig : 16392 < T.length
  · have z1 : (16392 : Int) < (T.length : Int) := by omega
    obtain rfl := NO.out (fun h => by have := h.1; omega)
    go_enter Try.func9, Try.ntmps9
    go_wp2
    go_ret
    exact ⟨rfl, hB1⟩
  · have z1 : ¬ (16392 : Int) < (T.length : Int) := by omega
    have HT : Hid (TAt w a T) := hT
    have HL : Hid (Lg T) := hL
    clear hT hL hn
    go_enter Try.func9, Try.ntmps9
    go_wp2
    go_loopw [3, 4] (fun n i W => ∃ k m : Nat, k ≤ T.length ∧ i = .int .i64 k ∧ n = .int .i64 m ∧ m ≤ 16392 ∧ Hid (m = sl T k) ∧ W = w.alloc (Tro a T.length cap)) (fun _ i _ => T.length - (intOf i).toNat)
    case atStart => exact ⟨0, 0, Nat.zero_le _, rfl, rfl, Nat.zero_le _, rfl, rfl⟩
    case round =>
      obtain ⟨k, m, hk, rfl, rfl, hm, HALL, hww⟩ := hrel
      have hB : Below w.heap.size w wr := by rw [hww]; exact hB1
      have hA : At wr w.heap.size (Tro a T.length cap) := by rw [hww]; exact A1
      have HWW : Hid (wr = w.alloc (Tro a T.length cap)) := hww
      clear hww c0 f0 A1 hB1
      obtain ⟨c0, f0⟩ := hA.one
      by_cases hlt : k < T.length
      · obtain ⟨d, hd⟩ : ∃ d, T[k]? = some d := ⟨_, List.getElem?_eq_getElem hlt⟩
        have hdl := HL.out.l d (List.mem_of_getElem? hd)
        unfold maxLen at hdl
        obtain ⟨g, off, rfl, hr⟩ := (HT.out.below hB) (by rintro rfl; simp at hlt)
        obtain ⟨q0, q1, q2, q3, q4, al, capl, q5, q6⟩ := hr k d hd
        have k0 : (0 : Int) ≤ (k : Int) := by omega
        have k1 : (k : Int) < (T.length : Int) := by omega
        have w3 : IntKind.i64.wrap ((k : Int) + 1) = (k : Int) + 1 := by rw [IntKind.wrap_i64]; omega
        have w4 : IntKind.i64.wrap (16392 - (m : Int)) = 16392 - (m : Int) := by rw [IntKind.wrap_i64]; omega
        have HD : Hid (T[k]? = some d) := hd
        clear hr hd q6
        by_cases hgt : (16392 - (m : Int)) < (d.l.length : Int)
        · obtain rfl := NO.out (fun h => by have e1 := sl_one HD.out; have e2 := h.2; have e3 := HALL.out; omega)
          go_wp2
          go_ret
          exact ⟨rfl, hB⟩
        · have w5 : IntKind.i64.wrap ((m : Int) + (d.l.length : Int)) = (m : Int) + (d.l.length : Int) := by rw [IntKind.wrap_i64]; omega
          go_wp2
          exact ⟨⟨k + 1, m + d.l.length, by omega, by go_num, by go_num, by omega, by show _ = _; rw [sl_succ HD.out, HALL.out], HWW.out⟩, by simp [intOf]; omega⟩
      · obtain rfl : k = T.length := by omega
        obtain rfl := HR.out.2 ⟨by omega, by have := HALL.out; omega⟩
        go_wp2
        go_ret
        exact ⟨rfl, hB⟩
theorem sameB_refl (T : List Nd) : sameB T T = true := by
  rw [sameB_iff]
  refine ⟨rfl, fun i c d hc hd => ?_⟩
  rw [hc] at hd
  cases hd
  simp [alB]
set_option maxRecDepth 100000 in
set_option maxHeartbeats 4000000 in
/-- The law's same, of a tree and itself. -/
theorem lsame_yes (T : List Nd) (n : Nat) (hn : T.length = n) (a b : Option Addr) (ca cb : Nat) (w : World) (hT : TAt w a T) (hU : TAt w b T) (hS : Sm T) (hM : Mayb okP T) :
    Calls Try.prog 34 #[trV a n ca, trV b n cb] w fun e w' => e = .returned (.bool true) ∧ Below w.heap.size w w' := by
  have hTn := hS.n
  rw [hn] at hTn
  obtain ⟨W2, hW2⟩ : ∃ W2, W2 = (w.alloc (Tro a n ca)).alloc (Tro b n cb) := ⟨_, rfl⟩
  have B2 : Below w.heap.size w W2 := by rw [hW2]; exact belA (belA (Below.refl _ _))
  have A1 : At W2 w.heap.size (Tro a n ca) := by rw [hW2]; exact at_fst _ _ _
  have A2 : At W2 (w.heap.size + 1) (Tro b n cb) := by rw [hW2]; exact at_snd _ _ _
  have HW2 : Hid ((w.alloc (.cells #[.slice a n ca] 24)).alloc (.cells #[.slice b n cb] 24) = W2) := hW2.symm
  have HSM : Hid (∀ W, Below w.heap.size w W → Calls Try.prog 28 #[trV a n ca, trV b n cb] W fun e w' => e = .returned (.bool true) ∧ Below W.heap.size W w') := fun W hW => by
    have := same_yes (ca := ca) (cb := cb) (hT.below hW) (hU.below hW) hS hS ⟨hM, hM, sameB_refl T⟩
    rw [hn] at this
    exact this
  have HT : Hid (TAt w a T ∧ TAt w b T) := ⟨hT, hU⟩
  have HN : Hid (T.length = n) := hn
  clear hW2 hT hU hn hM hS
  go_enter Try.func34, Try.ntmps34
  go_wp2
  rw [HW2.out]
  go_loopw [5] (fun i W => ∃ k : Nat, k ≤ n ∧ i = .int .i64 k ∧ At W w.heap.size (Tro a n ca) ∧ At W (w.heap.size + 1) (Tro b n cb) ∧ Below w.heap.size w W) (fun i _ => n - (intOf i).toNat)
  case atStart => exact ⟨0, Nat.zero_le _, rfl, A1, A2, B2⟩
  case round =>
    obtain ⟨k, hk, rfl, a1, a2, hB⟩ := hrel
    clear A1 A2 B2
    obtain ⟨x0, xf⟩ := a1.one
    obtain ⟨y0, yf⟩ := a2.one
    by_cases hlt : k < n
    · have hlt' : k < T.length := by rw [HN.out]; exact hlt
      obtain ⟨d, hd⟩ : ∃ d, T[k]? = some d := ⟨_, List.getElem?_eq_getElem hlt'⟩
      have hne : T ≠ [] := by rintro rfl; simp at hlt'
      obtain ⟨g1, o1, rfl, hr1⟩ := (HT.out.1.below hB) hne
      obtain ⟨g2, o2, rfl, hr2⟩ := (HT.out.2.below hB) hne
      obtain ⟨q0, q1, q2, q3, q4, al, capl, q5, q6⟩ := hr1 k d hd
      obtain ⟨u0, u1, u2, u3, u4, bl, capm, u5, u6⟩ := hr2 k d hd
      have k0 : (0 : Int) ≤ (k : Int) := by omega
      have k1 : (k : Int) < (n : Int) := by omega
      have w3 : IntKind.i64.wrap ((k : Int) + 1) = (k : Int) + 1 := by rw [IntKind.wrap_i64]; omega
      clear hr1 hr2 hd q6 u6 hlt' hne
      go_wp2
      go_quiet (fail)
      go_wp2
      exact ⟨⟨k + 1, by omega, by go_num, a1, a2, below_drewN hB _⟩, by simp [intOf]; omega⟩
    · obtain rfl : k = n := by omega
      go_wp2_with (go_at_call 28; refine (HSM.out _ hB).mono ?_; rintro e w1 ⟨rfl, hb1⟩)
      go_ret
      exact ⟨rfl, below_aft hB hb1⟩
/-- The trees of a forest, in order. -/
def roots : Fo → List (Nx × Fo)
  | .nil => []
  | .cons x c r => (x, c) :: roots r
theorem fo_roots (f : Fo) : fo (roots f) = f := by
  induction f with
  | nil => rfl
  | cons x c r _ ih => simp only [roots, fo, ih]
theorem roots_starts (f : Fo) : ∀ (o i : Nat), (f.starts o)[i]? = ((roots f)[i]?).map (fun _ => ((o + (fo ((roots f).take i)).size : Nat) : Int)) := by
  induction f with
  | nil => intro o i; simp [Fo.starts, roots]
  | cons x c r _ ih =>
    intro o i
    cases i with
    | zero => simp [Fo.starts, roots, fo, Fo.size]
    | succ i =>
      simp only [Fo.starts, roots, List.getElem?_cons_succ, List.take_succ_cons, fo, Fo.size]
      rw [ih]
      congr 1
      funext _
      congr 1
      omega
theorem roots_sub (f : Fo) : ∀ (i : Nat) (y : Nx × Fo), (roots f)[i]? = some y → f.sub ((fo ((roots f).take i)).size) = some y := by
  induction f with
  | nil => intro i y h; simp [roots] at h
  | cons x c r _ ih =>
    intro i y h
    cases i with
    | zero => simp [roots] at h; subst h; rfl
    | succ i =>
      simp only [roots, List.getElem?_cons_succ, List.take_succ_cons, fo, Fo.size] at h ⊢
      rw [show 1 + c.size + (fo ((roots r).take i)).size = (c.size + (fo ((roots r).take i)).size) + 1 by omega]
      simp only [Fo.sub]
      rw [if_neg (by omega), show c.size + (fo ((roots r).take i)).size - c.size = (fo ((roots r).take i)).size by omega]
      exact ih i y h
theorem roots_len (f : Fo) : (roots f).length = f.kinds.length := by
  induction f with
  | nil => rfl
  | cons x c r _ ih => simp [roots, Fo.kinds, ih]
/-- A row of another type is turned: a tree of one's own is not. -/
theorem OC.other {W W' : World} {lo hi g n k : Nat} {T : List Nd} {cur : Array Value} (h : OC W lo hi g n T k cur) {row : Option Nat} (hg : W.grownBy W' row) (hr : ∀ b, row = some b → ∃ cur', W.heap[b]? = some (.cells cur' 24 (0, 0))) : OC W' lo hi g n T k cur := by
  have hgne : some g ≠ row := fun e => by
    obtain ⟨cur', h'⟩ := hr g e.symm
    rw [h.at_] at h'
    cases h'
  refine ⟨(hg.block g (Array.getElem?_eq_some_iff.1 h.at_).1 hgne).trans h.at_, h.size, h.lg, h.gh, fun i d hi' hd => ?_, h.rest⟩
  obtain ⟨v, h1, h2, h3⟩ := h.nd i d hi' hd
  refine ⟨v, h1, h2.kept hg ?_, h3⟩
  rcases h2.2 with ⟨rfl, _⟩ | ⟨g', cap', cu, rfl, _, hgg, _⟩
  · exact .inl rfl
  · refine .inr (fun e => ?_)
    obtain ⟨cur', h'⟩ := hr g' (by rw [← e]; rfl)
    rw [hgg] at h'
    cases h'
theorem Try.info24 : (Try.prog.info? 24).map (fun i => (i.zero, i.size, i.bytes)) = some (some (.agg #[.slice none 0 0]), 1, 24) := by kernel_rfl
end Go.Proofs.Ytkidcmglidnaoaa
