import Derived.Test.YtpnamkpoapcgeaaDoorLc
import Derived.BigQuiet
namespace Go.Proofs.YtpnamkpoapcgeaaDoor
open Go.RowKit Go.Shelf
set_option linter.unusedVariables false
set_option linter.unusedSimpArgs false

/-- Tokens in a row, in memory. -/
def ZRow (w : World) (g off : Nat) (ts : List Tz) : Prop := ∀ i t, ts[i]? = some t → g < w.heap.size ∧ w.cell? ⟨g, off + i * 4, none⟩ = some (.int .u8 t.k) ∧ w.cell? ⟨g, off + i * 4 + 1, none⟩ = some (.int .i64 t.p) ∧ w.cell? ⟨g, off + i * 4 + 2, none⟩ = some (.int .i64 t.n) ∧ w.cell? ⟨g, off + i * 4 + 3, none⟩ = some (.string (str t.s))
theorem ZRow.below {w w' : World} {g off : Nat} {ts : List Tz} (h : ZRow w g off ts) (hb : Below w.heap.size w w') : ZRow w' g off ts := by
  intro i t ht
  obtain ⟨h0, h1, h2, h3, h4⟩ := h i t ht
  exact ⟨Nat.lt_of_lt_of_le h0 hb.size, (hb.cell h0).trans h1, (hb.cell h0).trans h2, (hb.cell h0).trans h3, (hb.cell h0).trans h4⟩
/-- The texts of the first k tokens, with blanks where they are wanted. -/
def jt (bl : Tz → Tz → Bool) (ts : List Tz) : Nat → List UInt8
  | 0 => []
  | k + 1 => jt bl ts k ++ ((if k ≠ 0 ∧ bl (ts.getD (k - 1) ⟨0, 0, 0, []⟩) (ts.getD k ⟨0, 0, 0, []⟩) = true then [32] else []) ++ tzText (ts.getD k ⟨0, 0, 0, []⟩))
theorem byteCells_append (a b : List UInt8) : Lib.byteCells (a ++ b) = Lib.byteCells a ++ Lib.byteCells b := by simp [Lib.byteCells]
theorem strCells_str (l : List UInt8) : Lib.strCells (str l) = Lib.byteCells l := by
  unfold Lib.strCells Lib.byteCells str
  rfl
theorem getD_at {ts : List Tz} {k : Nat} (h : k < ts.length) : ts[k]? = some (ts.getD k ⟨0, 0, 0, []⟩) := by
  rw [List.getElem?_eq_getElem h, List.getD_eq_getElem?_getD, List.getElem?_eq_getElem h]; rfl

theorem bld_below {bb : Nat} {l : List Value} {w w' : World} (h : Lib.IsBuilderF 89 5 bb bb l w) (hb : Below w.heap.size w w') : Lib.IsBuilderF 89 5 bb bb l w' := by
  have key : ∀ p, Lib.BuilderAtF 89 5 bb bb p l w → Lib.BuilderAtF 89 5 bb bb p l w' := by
    rintro p ⟨hB, v, hbk, hown, hne⟩
    refine ⟨hB, v, At.below hbk hb, hown.kept (grown_of_below (r := none) hb) ?_, hne⟩
    cases hv : v.ownBlock <;> simp
  exact h.elim (fun h => .inl (key _ h)) (fun h => .inr (key _ h))
theorem bld_lt {bb : Nat} {l : List Value} {w : World} (h : Lib.IsBuilderF 89 5 bb bb l w) : bb < w.heap.size := h.elim (fun h => h.lt) (fun h => h.lt)
theorem others_tok {bb x : Nat} {w w' : World} {k p n : Int} {s : ByteArray} (h : Lib.OthersKept 5 (some bb) w w') (hx : At w x (Tok k p n s)) (hne : x ≠ bb) : At w' x (Tok k p n s) :=
  h x _ hx (by simpa using hne) (fun c fz e => by cases e)
theorem below_low {w a b : World} {bb : Nat} (h : Below w.heap.size w a) (h' : Below bb a b) (hw : w.heap.size ≤ bb) : Below w.heap.size w b := h.trans (h'.mono hw)
set_option maxRecDepth 100000 in
set_option maxHeartbeats 4000000 in
theorem together_ok_41 (bl : Tz → Tz → Bool) (ts : List Tz) (g off cap : Nat) (w : World) (hrow : ZRow w g off ts) (hlen : ts.length ≤ 65536) (hs : ∀ t ∈ ts, t.s.length ≤ 140737488355328) (hT : ∀ t ∈ ts, (tzText t).length ≤ 140737488355328)
    (hnum : ∀ W, Below w.heap.size w W → ∀ t ∈ ts, Num W t) (hmay : ∀ t ∈ ts, tzMay t = true)
    (hbl : ∀ W, Below w.heap.size w W → ∀ k, k + 1 < ts.length → Calls Tryd.prog 41 #[tzV (ts.getD k ⟨0, 0, 0, []⟩), tzV (ts.getD (k + 1) ⟨0, 0, 0, []⟩)] W fun e w' => e = .returned (.bool (bl (ts.getD k ⟨0, 0, 0, []⟩) (ts.getD (k + 1) ⟨0, 0, 0, []⟩))) ∧ Below W.heap.size W w')
    (hj : ∀ k, k ≤ ts.length → (jt bl ts k).length ≤ 65536) :
    Calls Tryd.prog 38 #[.slice (some ⟨g, off, none⟩) ts.length cap, .func (.func 41) #[] #[]] w fun e w' => e = .returned (.tuple #[.string (str (jt bl ts ts.length)), .int .i64 0]) ∧ Below w.heap.size w w' := by
  have HM : Hid (∀ W, Below w.heap.size w W → ∀ t, t ∈ ts → Calls Tryd.prog 17 #[tok t.k t.p t.n (str t.s)] W fun e w' => e = .returned (.bool true) ∧ Below W.heap.size W w') := fun W hW t ht => by
    rw [← hmay t ht]; exact may_any t W (hs t ht) (Nat.le_trans (hT t ht) (by unfold maxLen; omega)) (fun W' hW' => hnum W' (below_aft hW hW') t ht)
  have HX : Hid (∀ W, Below w.heap.size w W → ∀ t, t ∈ ts → Calls Tryd.prog 34 #[tok t.k t.p t.n (str t.s)] W fun e w' => e = .returned (.string (str (tzText t))) ∧ Below W.heap.size W w') := fun W hW t ht => textOf_any t W (hs t ht) (hnum _ (hW.alloc hW.size _) t ht)
  have HB : Hid (∀ W, Below w.heap.size w W → ∀ k, k + 1 < ts.length → Calls Tryd.prog 41 #[tzV (ts.getD k ⟨0, 0, 0, []⟩), tzV (ts.getD (k + 1) ⟨0, 0, 0, []⟩)] W fun e w' => e = .returned (.bool (bl (ts.getD k ⟨0, 0, 0, []⟩) (ts.getD (k + 1) ⟨0, 0, 0, []⟩))) ∧ Below W.heap.size W w') := hbl
  clear hbl hnum hmay
  go_enter Tryd.func38, Tryd.ntmps38
  go_wp2
  go_loopw [13] (fun i wr => ∃ k : Nat, k ≤ ts.length ∧ i = .int .i64 k ∧ Below w.heap.size w wr) (fun i _ => ts.length - (intOf i).toNat)
  case atStart => exact ⟨0, Nat.zero_le _, rfl, Below.refl _ _⟩
  case round =>
    obtain ⟨k, hk, rfl, hb⟩ := hrel
    by_cases hlt : k < ts.length
    · obtain ⟨t, ht⟩ : ∃ t, ts[k]? = some t := ⟨_, getD_at hlt⟩
      have hmem : t ∈ ts := List.mem_of_getElem? ht
      obtain ⟨_, c0, c1, c2, c3⟩ := (hrow.below hb) k t ht
      have h1 : (0 : Int) ≤ (k : Int) := by omega
      have h2 : (k : Int) < (ts.length : Int) := by omega
      have hb2 := belA hb (o := Tok t.k t.p t.n (str t.s))
      go_wp2_with (first | (go_at_call 17; refine (HM.out _ hb2 t hmem).mono ?_; rintro e w1 ⟨rfl, hb3⟩))
      go_roundw
      case rel => exact ⟨k + 1, by omega, by go_num, below_aft hb2 hb3⟩
      case measure => simp [intOf]; omega
    · have hke : k = ts.length := by omega
      subst hke
      go_wp2
      generalize hU : wr.alloc (.cells #[.pointer none, .slice none 0 0] 89) = U
      have BU : Below w.heap.size w U := by rw [← hU]; exact belA hb
      have hsz : wr.heap.size < U.heap.size := by rw [← hU]; simp
      have hBd : Lib.IsBuilderF 89 5 wr.heap.size wr.heap.size (Lib.byteCells []) U := by
        rw [← hU]
        exact .inl ⟨Nat.le_refl _, _, At.new _ _, World.ownsRowF_of (World.ownsRow_nil _ _ _ _), by simp [Value.ownBlock]⟩
      have hw0 := hb.size
      generalize wr.heap.size = bb at *
      go_loopw [23] (fun i W => ∃ k : Nat, k ≤ ts.length ∧ i = .int .i64 k ∧ Below w.heap.size w W ∧ bb < W.heap.size ∧ Lib.IsBuilderF 89 5 bb bb (Lib.byteCells (jt bl ts k)) W) (fun i _ => ts.length - (intOf i).toNat)
      case atStart => exact ⟨0, Nat.zero_le _, rfl, BU, hsz, hBd⟩
      case round =>
        obtain ⟨k, hk, rfl, hbW, hlt1, hB⟩ := hrel
        by_cases hlt2 : k < ts.length
        · obtain ⟨t, ht, htd⟩ : ∃ t, ts[k]? = some t ∧ ts.getD k ⟨0, 0, 0, []⟩ = t := ⟨_, getD_at hlt2, rfl⟩
          have hmem : t ∈ ts := List.mem_of_getElem? ht
          have hR := hrow.below hbW
          obtain ⟨_, c0, c1, c2, c3⟩ := hR k t ht
          have h1 : (0 : Int) ≤ (k : Int) := by omega
          have h2 : (k : Int) < (ts.length : Int) := by omega
          have X0 := At.new wr (Tok t.k t.p t.n (str t.s))
          have B1 := belA hbW (o := Tok t.k t.p t.n (str t.s))
          have D1 : Below wr.heap.size wr (wr.alloc (Tok t.k t.p t.n (str t.s))) := belA (Below.refl _ _)
          have hB1 := bld_below hB D1
          have hTl := hT t hmem
          have hjk := hj k (by omega)
          have hjk1 := hj (k + 1) (by omega)
          have hbl0 : bb < wr.heap.size := bld_lt hB
          go_wp2
          generalize hW1 : wr.alloc (Tok t.k t.p t.n (str t.s)) = W1 at *
          obtain ⟨x0, x1, x2, x3, xf⟩ := X0.tok
          obtain ⟨L, hL⟩ : ∃ L, (jt bl ts (k + 1)).length = L := ⟨_, rfl⟩
          rw [hL] at hjk1
          have HLN : Hid (∀ W, Lib.IsBuilderF 89 5 bb bb (Lib.byteCells (jt bl ts (k + 1))) W → Calls Tryd.prog 66 #[.pointer (some ⟨bb, 0, none⟩)] W fun e w' => e = .returned (.int .i64 (L : Int)) ∧ w' = W) := fun W h => by
            have := Tryd.Builder_Len_f bb bb _ W h
            rwa [Lib.byteCells_length, hL] at this
          have HWS : Hid (∀ (pre : List UInt8) (W : World), jt bl ts (k + 1) = pre ++ tzText t → Lib.IsBuilderF 89 5 bb bb (Lib.byteCells pre) W → Calls Tryd.prog 65 #[.pointer (some ⟨bb, 0, none⟩), .string (str (tzText t))] W fun e w' => e = .returned (.tuple #[.int .i64 ((str (tzText t)).size : Int), .nilIface]) ∧ Lib.IsBuilderF 89 5 bb bb (Lib.byteCells (jt bl ts (k + 1))) w' ∧ Below bb W w') := fun pre W he h => by
            have hle : pre.length + (tzText t).length = L := by rw [← hL, he, List.length_append]
            refine (writeString_any bb bb _ (str (tzText t)) W h (by rw [Lib.byteCells_length, str_size]; omega) (Nat.le_of_lt (bld_lt h))).mono ?_
            rintro e w' ⟨rfl, h1, h2, _⟩
            exact ⟨rfl, by rw [he, byteCells_append, ← strCells_str]; exact h1, h2⟩
          have HWB : Hid (∀ (W : World), Lib.IsBuilderF 89 5 bb bb (Lib.byteCells (jt bl ts k)) W → Calls Tryd.prog 64 #[.pointer (some ⟨bb, 0, none⟩), .int .u8 32] W fun e w' => e = .returned .nilIface ∧ Lib.IsBuilderF 89 5 bb bb (Lib.byteCells (jt bl ts k ++ [32])) w' ∧ Below bb W w' ∧ Lib.OthersKept 5 (some bb) W w') := fun W h => by
            refine (writeByte_any bb bb _ 32 W h (by rw [Lib.byteCells_length]; omega) (Nat.le_of_lt (bld_lt h))).mono ?_
            rintro e w' ⟨rfl, h1, h2, h3⟩
            exact ⟨rfl, by rw [byteCells_append]; exact h1, h2, h3⟩
          have HJ : Hid (jt bl ts (k + 1) = jt bl ts k ++ ((if k ≠ 0 ∧ bl (ts.getD (k - 1) ⟨0, 0, 0, []⟩) t = true then [32] else []) ++ tzText t)) := by
            show _ = _
            rw [jt, htd]
          have hgt : ((L : Int) > 65536) = False := by simp; omega
          clear hL
          by_cases h0 : k = 0
          · subst h0
            have hg : decide ((0 : Int) < ((0 : Nat) : Int)) = false := by decide
            have HPRE : Hid (jt bl ts (0 + 1) = jt bl ts 0 ++ tzText t) := by have := HJ.out; show _ = _; simpa using this
            clear HJ
            go_quiet (fail)
            have BWW : Below w.heap.size w (W1.drewN nq) := below_drewN B1 _
            have BLD : Lib.IsBuilderF 89 5 bb bb (Lib.byteCells (jt bl ts 0)) (W1.drewN nq) := bld_below hB1 (below_drewN (Below.refl _ _) _)
            have X2 := X0.drewN nq
            clear x0 x1 x2 x3 xf
            obtain ⟨x0, x1, x2, x3, xf⟩ := X2.tok
            generalize W1.drewN nq = W2 at *
            go_wp2_with (first
            | (go_at_call 64; refine (HWB.out _ BLD).mono ?_; rintro e w3 ⟨rfl, hB3, hb3, ho3⟩; have X3 := others_tok ho3 X2 (by omega); have bw3 := below_low BWW hb3 (by omega); obtain ⟨e0, e1, e2, e3, ef⟩ := X3.tok; clear BLD BWW; have BLD := hB3; have BWW := bw3)
            | (go_at_call 34; refine (HX.out _ BWW t hmem).mono ?_; rintro e w4 ⟨rfl, hb4⟩; have hB4 := bld_below BLD hb4; have bw4 := below_aft BWW hb4)
            | (go_at_call 65; refine (HWS.out _ _ HPRE.out hB4).mono ?_; rintro e w5 ⟨rfl, hB5, hb5⟩; have bw5 := below_low bw4 hb5 (by omega))
            | (go_at_call 66; refine (HLN.out _ hB5).mono ?_; rintro e w6 ⟨rfl, rfl⟩))

            go_roundw
            case rel => exact ⟨0 + 1, by omega, by go_num, bw5, bld_lt hB5, hB5⟩
            case measure => simp [intOf]; omega
          · obtain ⟨j, rfl⟩ : ∃ j, k = j + 1 := ⟨k - 1, by omega⟩
            obtain ⟨t', ht', htd'⟩ : ∃ t', ts[j]? = some t' ∧ ts.getD j ⟨0, 0, 0, []⟩ = t' := ⟨_, getD_at (by omega), rfl⟩
            obtain ⟨hgl, r0, r1, r2, r3⟩ := hR j t' ht'
            have D1 : Below wr.heap.size wr W1 := by rw [← hW1]; exact belA (Below.refl _ _)
            obtain ⟨b, hb0⟩ : ∃ b, bl t' t = b := ⟨_, rfl⟩
            have HB' : Hid (∀ W, Below w.heap.size w W → Calls Tryd.prog 41 #[tok t'.k t'.p t'.n (str t'.s), tok t.k t.p t.n (str t.s)] W fun e w' => e = .returned (.bool b) ∧ Below W.heap.size W w') := fun W h => by
              have := HB.out W h j (by omega)
              rwa [htd', htd, hb0] at this
            have HJ' : Hid (jt bl ts (j + 1 + 1) = jt bl ts (j + 1) ++ ((if b = true then [32] else []) ++ tzText t)) := by
              have := HJ.out
              show _ = _
              rw [this, Nat.add_sub_cancel, htd', hb0]
              simp
            clear HJ HB hb0 htd htd'
            have KS : Hid (∀ W', Below W1.heap.size W1 W' → (fun W' => Below W1.heap.size W1 W' ∧ W'.cell? ⟨wr.heap.size, 0, none⟩ = some (.int .u8 t.k) ∧ W'.cell? ⟨wr.heap.size, 1, none⟩ = some (.int .i64 t.p) ∧ W'.cell? ⟨wr.heap.size, 2, none⟩ = some (.int .i64 t.n) ∧ W'.cell? ⟨wr.heap.size, 3, none⟩ = some (.string (str t.s))
              ∧ W'.cell? ⟨g, off + j * 4, none⟩ = some (.int .u8 t'.k) ∧ W'.cell? ⟨g, off + j * 4 + 1, none⟩ = some (.int .i64 t'.p) ∧ W'.cell? ⟨g, off + j * 4 + 2, none⟩ = some (.int .i64 t'.n) ∧ W'.cell? ⟨g, off + j * 4 + 3, none⟩ = some (.string (str t'.s))) W') := fun W' h => by
              obtain ⟨e0, e1, e2, e3, _⟩ := (X0.below h).tok
              have h' := below_aft D1 h
              exact ⟨h, e0, e1, e2, e3, (h'.cell hgl).trans r0, (h'.cell hgl).trans r1, (h'.cell hgl).trans r2, (h'.cell hgl).trans r3⟩
            clear x0 x1 x2 x3 xf r0 r1 r2 r3 c0 c1 c2 c3
            have hg : decide ((0 : Int) < ((j + 1 : Nat) : Int)) = true := decide_eq_true (by omega)
            have hj1 : (0 : Int) ≤ (j : Int) := by omega
            have hj2 : (j : Int) < (ts.length : Int) := by omega
            have hj3 : ((j + 1 : Nat) : Int) - 1 = (j : Int) := by omega
            have hj4 : IntKind.i64.wrap (((j + 1 : Nat) : Int) - 1) = (j : Int) := by rw [IntKind.wrap_i64]; omega
            have hj5 : IntKind.i64.wrap ((j : Int)) = (j : Int) := by rw [IntKind.wrap_i64]; omega
            go_region_held3 (fun W' => Below W1.heap.size W1 W' ∧ W'.cell? ⟨wr.heap.size, 0, none⟩ = some (.int .u8 t.k) ∧ W'.cell? ⟨wr.heap.size, 1, none⟩ = some (.int .i64 t.p) ∧ W'.cell? ⟨wr.heap.size, 2, none⟩ = some (.int .i64 t.n) ∧ W'.cell? ⟨wr.heap.size, 3, none⟩ = some (.string (str t.s))
              ∧ W'.cell? ⟨g, off + j * 4, none⟩ = some (.int .u8 t'.k) ∧ W'.cell? ⟨g, off + j * 4 + 1, none⟩ = some (.int .i64 t'.p) ∧ W'.cell? ⟨g, off + j * 4 + 2, none⟩ = some (.int .i64 t'.n) ∧ W'.cell? ⟨g, off + j * 4 + 3, none⟩ = some (.string (str t'.s)))
              (first | (exact KS.out _ (Below.refl _ _).drew) | (exact KS.out _ hbb) | go_keep)
              (first | (go_at_call 41; refine (HB'.out _ (below_aft B1 (Below.refl _ _).drew)).mono ?_; rintro e w2 ⟨rfl, hb2⟩; have hbb : Below W1.heap.size W1 w2 := (Below.refl _ _).drew.trans (hb2.mono (Nat.le_refl _))))
            have BWW : Below w.heap.size w w2 := below_aft B1 hbb
            have BLD : Lib.IsBuilderF 89 5 bb bb (Lib.byteCells (jt bl ts (j + 1))) w2 := bld_below hB1 hbb
            have X2 := X0.below hbb
            obtain ⟨x0, x1, x2, x3, xf⟩ := X2.tok
            clear hbb hb2 KS
            cases b with
            | false =>
              have HPRE : Hid (jt bl ts (j + 1 + 1) = jt bl ts (j + 1) ++ tzText t) := HJ'.out
              go_wp2_with (first
            | (go_at_call 64; refine (HWB.out _ BLD).mono ?_; rintro e w3 ⟨rfl, hB3, hb3, ho3⟩; have X3 := others_tok ho3 X2 (by omega); have bw3 := below_low BWW hb3 (by omega); obtain ⟨e0, e1, e2, e3, ef⟩ := X3.tok; clear BLD BWW; have BLD := hB3; have BWW := bw3)
            | (go_at_call 34; refine (HX.out _ BWW t hmem).mono ?_; rintro e w4 ⟨rfl, hb4⟩; have hB4 := bld_below BLD hb4; have bw4 := below_aft BWW hb4)
            | (go_at_call 65; refine (HWS.out _ _ HPRE.out hB4).mono ?_; rintro e w5 ⟨rfl, hB5, hb5⟩; have bw5 := below_low bw4 hb5 (by omega))
            | (go_at_call 66; refine (HLN.out _ hB5).mono ?_; rintro e w6 ⟨rfl, rfl⟩))

              go_roundw
              case rel => exact ⟨j + 1 + 1, by omega, by go_num, bw5, bld_lt hB5, hB5⟩
              case measure => simp [intOf]; omega
            | true =>
              have HPRE : Hid (jt bl ts (j + 1 + 1) = (jt bl ts (j + 1) ++ [32]) ++ tzText t) := by
                have := HJ'.out
                show _ = _
                rw [this, List.append_assoc]; rfl
              go_wp2_with (first
            | (go_at_call 64; refine (HWB.out _ BLD).mono ?_; rintro e w3 ⟨rfl, hB3, hb3, ho3⟩; have X3 := others_tok ho3 X2 (by omega); have bw3 := below_low BWW hb3 (by omega); obtain ⟨e0, e1, e2, e3, ef⟩ := X3.tok; clear BLD BWW; have BLD := hB3; have BWW := bw3)
            | (go_at_call 34; refine (HX.out _ BWW t hmem).mono ?_; rintro e w4 ⟨rfl, hb4⟩; have hB4 := bld_below BLD hb4; have bw4 := below_aft BWW hb4)
            | (go_at_call 65; refine (HWS.out _ _ HPRE.out hB4).mono ?_; rintro e w5 ⟨rfl, hB5, hb5⟩; have bw5 := below_low bw4 hb5 (by omega))
            | (go_at_call 66; refine (HLN.out _ hB5).mono ?_; rintro e w6 ⟨rfl, rfl⟩))

              go_roundw
              case rel => exact ⟨j + 1 + 1, by omega, by go_num, bw5, bld_lt hB5, hB5⟩
              case measure => simp [intOf]; omega
        · have hke : k = ts.length := by omega
          subst hke
          go_wp2_with (first | (go_at_call 67; refine (Tryd.Builder_String_any_f bb bb (jt bl ts ts.length) _ hB (by omega)).mono ?_; rintro e w5 ⟨rfl, _, hb5⟩))
          go_ret2
          exact ⟨rfl, below_low hbW hb5 (by omega)⟩
end Go.Proofs.YtpnamkpoapcgeaaDoor
