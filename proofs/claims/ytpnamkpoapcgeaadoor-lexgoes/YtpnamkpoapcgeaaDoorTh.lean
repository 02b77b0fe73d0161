import Derived.Test.YtpnamkpoapcgeaaDoorTf
import Derived.Test.YtpnamkpoapcgeaaDoorLr
namespace Go.Proofs.YtpnamkpoapcgeaaDoor
open Go.RowKit Go.Shelf
attribute [local go_sem] Oper.semAt_some
set_option linter.unusedVariables false
set_option linter.unusedSimpArgs false

/-- Tokens behind a slice's address. -/
def TzA (w : World) (a : Option Addr) (ts : List Tz) : Prop := ts ≠ [] → ∃ g off, a = some ⟨g, off, none⟩ ∧ ZRow w g off ts
theorem TzA.below {w w' : World} {a : Option Addr} {ts : List Tz} (h : TzA w a ts) (hb : Below w.heap.size w w') : TzA w' a ts := fun hn => by
  obtain ⟨g, off, rfl, hr⟩ := h hn
  exact ⟨g, off, rfl, hr.below hb⟩
/-- What is answered: the text, or why there is none. -/
def jres (bl : Tz → Tz → Bool) (ts : List Tz) : List UInt8 × Int := if ts.all tzMay = true then (if (jt bl ts ts.length).length ≤ 65536 then (jt bl ts ts.length, 0) else ([], 3)) else ([], 2)
theorem all_getD {ts : List Tz} (h : ∀ j, j < ts.length → tzMay (ts.getD j ⟨0, 0, 0, []⟩) = true) : ts.all tzMay = true := by
  rw [List.all_eq_true]
  intro t ht
  obtain ⟨j, hj, rfl⟩ := List.getElem_of_mem ht
  have := h j hj
  rwa [List.getD_eq_getElem?_getD, List.getElem?_eq_getElem hj, Option.getD_some] at this
theorem jt_mono (bl : Tz → Tz → Bool) (ts : List Tz) (k : Nat) : ∀ j, (jt bl ts k).length ≤ (jt bl ts (k + j)).length
  | 0 => Nat.le_refl _
  | j + 1 => by
    have := jt_mono bl ts k j
    rw [show k + (j + 1) = (k + j) + 1 from rfl, jt, List.length_append]
    omega
theorem jres_bad {bl : Tz → Tz → Bool} {ts : List Tz} {j : Nat} (h1 : j < ts.length) (h2 : tzMay (ts.getD j ⟨0, 0, 0, []⟩) = false) : jres bl ts = ([], 2) := by
  unfold jres
  rw [if_neg]
  intro h
  rw [List.all_eq_true] at h
  have := h _ (List.mem_of_getElem? (getD_at h1))
  rw [h2] at this
  cases this
theorem jres_long {bl : Tz → Tz → Bool} {ts : List Tz} {k : Nat} (h1 : ∀ j, j < ts.length → tzMay (ts.getD j ⟨0, 0, 0, []⟩) = true) (h2 : k ≤ ts.length) (h3 : 65536 < (jt bl ts k).length) : jres bl ts = ([], 3) := by
  unfold jres
  have := jt_mono bl ts k (ts.length - k)
  rw [show k + (ts.length - k) = ts.length by omega] at this
  rw [if_pos (all_getD h1), if_neg (by omega)]
theorem jres_ok {bl : Tz → Tz → Bool} {ts : List Tz} (h1 : ∀ j, j < ts.length → tzMay (ts.getD j ⟨0, 0, 0, []⟩) = true) (h3 : (jt bl ts ts.length).length ≤ 65536) : jres bl ts = (jt bl ts ts.length, 0) := by
  unfold jres
  rw [if_pos (all_getD h1), if_pos h3]
set_option maxRecDepth 100000 in
set_option maxHeartbeats 8000000 in
theorem together_any_41 (bl : Tz → Tz → Bool) (ts : List Tz) (a0 : Option Addr) (cap : Nat) (w : World) (hat : TzA w a0 ts) (hlen : ts.length ≤ 65536) (hs : ∀ t ∈ ts, t.s.length ≤ 140737488355328) (hT : ∀ t ∈ ts, (tzText t).length ≤ 20000)
    (hnum : ∀ W, Below w.heap.size w W → ∀ t ∈ ts, Num W t)
    (hbl : ∀ W, Below w.heap.size w W → ∀ k, k + 1 < ts.length → Calls Tryd.prog 41 #[tzV (ts.getD k ⟨0, 0, 0, []⟩), tzV (ts.getD (k + 1) ⟨0, 0, 0, []⟩)] W fun e w' => e = .returned (.bool (bl (ts.getD k ⟨0, 0, 0, []⟩) (ts.getD (k + 1) ⟨0, 0, 0, []⟩))) ∧ Below W.heap.size W w') :
    Calls Tryd.prog 38 #[.slice a0 ts.length cap, .func (.func 41) #[] #[]] w fun e w' => e = .returned (.tuple #[.string (str (jres bl ts).1), .int .i64 (jres bl ts).2]) ∧ Below w.heap.size w w' := by
  have HM : Hid (∀ W, Below w.heap.size w W → ∀ t, t ∈ ts → Calls Tryd.prog 17 #[tok t.k t.p t.n (str t.s)] W fun e w' => e = .returned (.bool (tzMay t)) ∧ Below W.heap.size W w') := fun W hW t ht => by
    exact may_any t W (hs t ht) (Nat.le_trans (hT t ht) (by unfold maxLen; omega)) (fun W' hW' => hnum W' (below_aft hW hW') t ht)
  have HX : Hid (∀ W, Below w.heap.size w W → ∀ t, t ∈ ts → Calls Tryd.prog 34 #[tok t.k t.p t.n (str t.s)] W fun e w' => e = .returned (.string (str (tzText t))) ∧ Below W.heap.size W w') := fun W hW t ht => textOf_any t W (hs t ht) (hnum _ (hW.alloc hW.size _) t ht)
  have HB : Hid (∀ W, Below w.heap.size w W → ∀ k, k + 1 < ts.length → Calls Tryd.prog 41 #[tzV (ts.getD k ⟨0, 0, 0, []⟩), tzV (ts.getD (k + 1) ⟨0, 0, 0, []⟩)] W fun e w' => e = .returned (.bool (bl (ts.getD k ⟨0, 0, 0, []⟩) (ts.getD (k + 1) ⟨0, 0, 0, []⟩))) ∧ Below W.heap.size W w') := hbl
  have HR2 : Hid (∀ j, j < ts.length → tzMay (ts.getD j ⟨0, 0, 0, []⟩) = false → jres bl ts = ([], 2)) := fun j h1 h2 => jres_bad h1 h2
  have HR3 : Hid ((∀ j, j < ts.length → tzMay (ts.getD j ⟨0, 0, 0, []⟩) = true) → ∀ k, k ≤ ts.length → 65536 < (jt bl ts k).length → jres bl ts = ([], 3)) := fun h1 k h2 h3 => jres_long h1 h2 h3
  have HR0 : Hid ((∀ j, j < ts.length → tzMay (ts.getD j ⟨0, 0, 0, []⟩) = true) → (jt bl ts ts.length).length ≤ 65536 → jres bl ts = (jt bl ts ts.length, 0)) := fun h1 h2 => jres_ok h1 h2
  obtain ⟨RS, RE, hres⟩ : ∃ RS RE, jres bl ts = (RS, RE) := ⟨_, _, rfl⟩
  rw [hres] at HR2 HR3 HR0 ⊢
  clear hbl hnum hres
  go_enter Tryd.func38, Tryd.ntmps38
  go_wp2
  go_loopw [13] (fun i wr => ∃ k : Nat, k ≤ ts.length ∧ i = .int .i64 k ∧ (∀ j, j < k → tzMay (ts.getD j ⟨0, 0, 0, []⟩) = true) ∧ Below w.heap.size w wr) (fun i _ => ts.length - (intOf i).toNat)
  case atStart => exact ⟨0, Nat.zero_le _, rfl, fun j h => absurd h (Nat.not_lt_zero j), Below.refl _ _⟩
  case round =>
    obtain ⟨k, hk, rfl, hmk, hb⟩ := hrel
    have HMK : Hid (∀ j, j < k → tzMay (ts.getD j ⟨0, 0, 0, []⟩) = true) := hmk
    clear hmk
    by_cases hlt : k < ts.length
    · obtain ⟨t, ht, htd⟩ : ∃ t, ts[k]? = some t ∧ ts.getD k ⟨0, 0, 0, []⟩ = t := ⟨_, getD_at hlt, rfl⟩
      have hmem : t ∈ ts := List.mem_of_getElem? ht
      obtain ⟨g, off, rfl, hrow⟩ := hat (by rintro rfl; simp at hlt)
      obtain ⟨_, c0, c1, c2, c3⟩ := (hrow.below hb) k t ht
      have HTD : Hid (ts.getD k ⟨0, 0, 0, []⟩ = t) := htd
      clear htd
      have HMt := HM.out _ (belA hb (o := Tok t.k t.p t.n (str t.s))) t hmem
      obtain ⟨mt, hmt⟩ : ∃ mt, tzMay t = mt := ⟨_, rfl⟩
      rw [hmt] at HMt
      have HMT : Hid (Calls Tryd.prog 17 #[tok t.k t.p t.n (str t.s)] (wr.alloc (Tok t.k t.p t.n (str t.s))) fun e w' => e = .returned (.bool mt) ∧ Below (wr.alloc (Tok t.k t.p t.n (str t.s))).heap.size (wr.alloc (Tok t.k t.p t.n (str t.s))) w') := HMt
      have HMV : Hid (tzMay t = mt) := hmt
      clear HMt hmt
      have h1 : (0 : Int) ≤ (k : Int) := by omega
      have h2 : (k : Int) < (ts.length : Int) := by omega
      have hb2 := belA hb (o := Tok t.k t.p t.n (str t.s))
      cases mt with
      | true =>
        go_wp2_with (first | (go_at_call 17; refine HMT.out.mono ?_; rintro e w1 ⟨rfl, hb3⟩))
        go_roundw
        case rel =>
          refine ⟨k + 1, by omega, by go_num, fun j hj => ?_, below_aft hb2 hb3⟩
          rcases Nat.lt_or_ge j k with h | h
          · exact HMK.out j h
          · obtain rfl : j = k := by omega
            rw [HTD.out]; exact HMV.out
        case measure => simp [intOf]; omega
      | false =>
        have hr2 := HR2.out k hlt (by rw [HTD.out]; exact HMV.out)
        cases hr2
        go_wp2_with (first | (go_at_call 17; refine HMT.out.mono ?_; rintro e w1 ⟨rfl, hb3⟩))
        go_ret2
        exact ⟨rfl, below_aft hb2 hb3⟩
    · have hke : k = ts.length := by omega
      subst hke
      have HMA : Hid (∀ j, j < ts.length → tzMay (ts.getD j ⟨0, 0, 0, []⟩) = true) := HMK.out
      go_wp2
      generalize hU : wr.alloc (.cells #[.pointer none, .slice none 0 0] 89) = U
      have BU : Below w.heap.size w U := by rw [← hU]; exact belA hb
      have hsz : wr.heap.size < U.heap.size := by rw [← hU]; simp
      have hBd : Lib.IsBuilderF 89 5 wr.heap.size wr.heap.size (Lib.byteCells []) U := by
        rw [← hU]
        exact .inl ⟨Nat.le_refl _, _, At.new _ _, World.ownsRowF_of (World.ownsRow_nil _ _ _ _), by simp [Value.ownBlock]⟩
      have hw0 := hb.size
      generalize wr.heap.size = bb at *
      go_loopw [23] (fun i W => ∃ k : Nat, k ≤ ts.length ∧ i = .int .i64 k ∧ Below w.heap.size w W ∧ (jt bl ts k).length ≤ 65536 ∧ bb < W.heap.size ∧ Lib.IsBuilderF 89 5 bb bb (Lib.byteCells (jt bl ts k)) W) (fun i _ => ts.length - (intOf i).toNat)
      case atStart => exact ⟨0, Nat.zero_le _, rfl, BU, by simp [jt], hsz, hBd⟩
      case round =>
        obtain ⟨k, hk, rfl, hbW, hjk, hlt1, hB⟩ := hrel
        by_cases hlt2 : k < ts.length
        · obtain ⟨t, ht, htd⟩ : ∃ t, ts[k]? = some t ∧ ts.getD k ⟨0, 0, 0, []⟩ = t := ⟨_, getD_at hlt2, rfl⟩
          have hmem : t ∈ ts := List.mem_of_getElem? ht
          obtain ⟨g, off, rfl, hrow⟩ := hat (by rintro rfl; simp at hlt2)
          have hR := hrow.below hbW
          obtain ⟨_, c0, c1, c2, c3⟩ := hR k t ht
          have h1 : (0 : Int) ≤ (k : Int) := by omega
          have h2 : (k : Int) < (ts.length : Int) := by omega
          have X0 := At.new wr (Tok t.k t.p t.n (str t.s))
          have B1 := belA hbW (o := Tok t.k t.p t.n (str t.s))
          have D1 : Below wr.heap.size wr (wr.alloc (Tok t.k t.p t.n (str t.s))) := belA (Below.refl _ _)
          have hB1 := bld_below hB D1
          have hTl := hT t hmem
          have hjk1 : (jt bl ts (k + 1)).length ≤ 85537 := by
            rw [jt, htd, List.length_append, List.length_append]
            have : ((if k ≠ 0 ∧ bl (ts.getD (k - 1) ⟨0, 0, 0, []⟩) t = true then [32] else []) : List UInt8).length ≤ 1 := by split <;> simp
            omega
          have hbl0 : bb < wr.heap.size := bld_lt hB
          go_wp2
          generalize hW1 : wr.alloc (Tok t.k t.p t.n (str t.s)) = W1 at *
          obtain ⟨x0, x1, x2, x3, xf⟩ := X0.tok
          obtain ⟨L, hL⟩ : ∃ L, (jt bl ts (k + 1)).length = L := ⟨_, rfl⟩
          rw [hL] at hjk1
          have HLN : Hid (∀ W, Lib.IsBuilderF 89 5 bb bb (Lib.byteCells (jt bl ts (k + 1))) W → Calls Tryd.prog 66 #[.pointer (some ⟨bb, 0, none⟩)] W fun e w' => e = .returned (.int .i64 (L : Int)) ∧ w' = W) := fun W h => by
            have := Tryd.Builder_Len_f bb bb _ W h
            rwa [Lib.byteCells_length, hL] at this
          have HWS : Hid (∀ (pre : List UInt8) (W : World), jt bl ts (k + 1) = pre ++ tzText t → Lib.IsBuilderF 89 5 bb bb (Lib.byteCells pre) W → Calls Tryd.prog 65 #[.pointer (some ⟨bb, 0, none⟩), .string (str (tzText t))] W fun e w' => e = .returned (.tuple #[.int .i64 ((str (tzText t)).size : Int), .nilIface]) ∧ Lib.IsBuilderF 89 5 bb bb (Lib.byteCells (jt bl ts (k + 1))) w' ∧ Below bb W w') := fun pre W he h => by
            have hle : pre.length + (tzText t).length = L := by rw [← hL, he, List.length_append]
            refine (writeString_any bb bb _ (str (tzText t)) W h (by rw [Lib.byteCells_length, str_size]; omega) (Nat.le_of_lt (bld_lt h))).mono ?_
            rintro e w' ⟨rfl, h1, h2, _⟩
            exact ⟨rfl, by rw [he, byteCells_append, ← strCells_str]; exact h1, h2⟩
          have HWB : Hid (∀ (W : World), Lib.IsBuilderF 89 5 bb bb (Lib.byteCells (jt bl ts k)) W → Calls Tryd.prog 64 #[.pointer (some ⟨bb, 0, none⟩), .int .u8 32] W fun e w' => e = .returned .nilIface ∧ Lib.IsBuilderF 89 5 bb bb (Lib.byteCells (jt bl ts k ++ [32])) w' ∧ Below bb W w' ∧ Lib.OthersKept 5 (some bb) W w') := fun W h => by
            refine (writeByte_any bb bb _ 32 W h (by rw [Lib.byteCells_length]; omega) (Nat.le_of_lt (bld_lt h))).mono ?_
            rintro e w' ⟨rfl, h1, h2, h3⟩
            exact ⟨rfl, by rw [byteCells_append]; exact h1, h2, h3⟩
          have HJ : Hid (jt bl ts (k + 1) = jt bl ts k ++ ((if k ≠ 0 ∧ bl (ts.getD (k - 1) ⟨0, 0, 0, []⟩) t = true then [32] else []) ++ tzText t)) := by
            show _ = _
            rw [jt, htd]
          by_cases hLb : L ≤ 65536
          · have hgt : ((L : Int) > 65536) = False := by simp; omega
            have HLE : Hid ((jt bl ts (k + 1)).length ≤ 65536) := by show _ ≤ _; omega
            clear hL hjk1
            by_cases h0 : k = 0
            · subst h0
              have hg : decide ((0 : Int) < ((0 : Nat) : Int)) = false := by decide
              have HPRE : Hid (jt bl ts (0 + 1) = jt bl ts 0 ++ tzText t) := by have := HJ.out; show _ = _; simpa using this
              clear HJ
              go_quiet (fail)
              have BWW : Below w.heap.size w (W1.drewN nq) := below_drewN B1 _
              have BLD : Lib.IsBuilderF 89 5 bb bb (Lib.byteCells (jt bl ts 0)) (W1.drewN nq) := bld_below hB1 (below_drewN (Below.refl _ _) _)
              have X2 := X0.drewN nq
              clear x0 x1 x2 x3 xf
              obtain ⟨x0, x1, x2, x3, xf⟩ := X2.tok
              generalize W1.drewN nq = W2 at *
              go_wp2_with (first
              | (go_at_call 64; refine (HWB.out _ BLD).mono ?_; rintro e w3 ⟨rfl, hB3, hb3, ho3⟩; have X3 := others_tok ho3 X2 (by omega); have bw3 := below_low BWW hb3 (by omega); obtain ⟨e0, e1, e2, e3, ef⟩ := X3.tok; clear BLD BWW; have BLD := hB3; have BWW := bw3)
              | (go_at_call 34; refine (HX.out _ BWW t hmem).mono ?_; rintro e w4 ⟨rfl, hb4⟩; have hB4 := bld_below BLD hb4; have bw4 := below_aft BWW hb4)
              | (go_at_call 65; refine (HWS.out _ _ HPRE.out hB4).mono ?_; rintro e w5 ⟨rfl, hB5, hb5⟩; have bw5 := below_low bw4 hb5 (by omega))
              | (go_at_call 66; refine (HLN.out _ hB5).mono ?_; rintro e w6 ⟨rfl, rfl⟩))

              go_roundw
              case rel => exact ⟨0 + 1, by omega, by go_num, bw5, HLE.out, bld_lt hB5, hB5⟩
              case measure => simp [intOf]; omega
            · obtain ⟨j, rfl⟩ : ∃ j, k = j + 1 := ⟨k - 1, by omega⟩
              obtain ⟨t', ht', htd'⟩ : ∃ t', ts[j]? = some t' ∧ ts.getD j ⟨0, 0, 0, []⟩ = t' := ⟨_, getD_at (by omega), rfl⟩
              obtain ⟨hgl, r0, r1, r2, r3⟩ := hR j t' ht'
              have D1 : Below wr.heap.size wr W1 := by rw [← hW1]; exact belA (Below.refl _ _)
              obtain ⟨b, hb0⟩ : ∃ b, bl t' t = b := ⟨_, rfl⟩
              have HB' : Hid (∀ W, Below w.heap.size w W → Calls Tryd.prog 41 #[tok t'.k t'.p t'.n (str t'.s), tok t.k t.p t.n (str t.s)] W fun e w' => e = .returned (.bool b) ∧ Below W.heap.size W w') := fun W h => by
                have := HB.out W h j (by omega)
                rwa [htd', htd, hb0] at this
              have HJ' : Hid (jt bl ts (j + 1 + 1) = jt bl ts (j + 1) ++ ((if b = true then [32] else []) ++ tzText t)) := by
                have := HJ.out
                show _ = _
                rw [this, Nat.add_sub_cancel, htd', hb0]
                simp
              clear HJ HB hb0 htd htd'
              have KS : Hid (∀ W', Below W1.heap.size W1 W' → (fun W' => Below W1.heap.size W1 W' ∧ W'.cell? ⟨wr.heap.size, 0, none⟩ = some (.int .u8 t.k) ∧ W'.cell? ⟨wr.heap.size, 1, none⟩ = some (.int .i64 t.p) ∧ W'.cell? ⟨wr.heap.size, 2, none⟩ = some (.int .i64 t.n) ∧ W'.cell? ⟨wr.heap.size, 3, none⟩ = some (.string (str t.s))
                ∧ W'.cell? ⟨g, off + j * 4, none⟩ = some (.int .u8 t'.k) ∧ W'.cell? ⟨g, off + j * 4 + 1, none⟩ = some (.int .i64 t'.p) ∧ W'.cell? ⟨g, off + j * 4 + 2, none⟩ = some (.int .i64 t'.n) ∧ W'.cell? ⟨g, off + j * 4 + 3, none⟩ = some (.string (str t'.s))) W') := fun W' h => by
                obtain ⟨e0, e1, e2, e3, _⟩ := (X0.below h).tok
                have h' := below_aft D1 h
                exact ⟨h, e0, e1, e2, e3, (h'.cell hgl).trans r0, (h'.cell hgl).trans r1, (h'.cell hgl).trans r2, (h'.cell hgl).trans r3⟩
              clear x0 x1 x2 x3 xf r0 r1 r2 r3 c0 c1 c2 c3
              have hg : decide ((0 : Int) < ((j + 1 : Nat) : Int)) = true := decide_eq_true (by omega)
              have hj1 : (0 : Int) ≤ (j : Int) := by omega
              have hj2 : (j : Int) < (ts.length : Int) := by omega
              have hj3 : ((j + 1 : Nat) : Int) - 1 = (j : Int) := by omega
              have hj4 : IntKind.i64.wrap (((j + 1 : Nat) : Int) - 1) = (j : Int) := by rw [IntKind.wrap_i64]; omega
              have hj5 : IntKind.i64.wrap ((j : Int)) = (j : Int) := by rw [IntKind.wrap_i64]; omega
              go_region_held3 (fun W' => Below W1.heap.size W1 W' ∧ W'.cell? ⟨wr.heap.size, 0, none⟩ = some (.int .u8 t.k) ∧ W'.cell? ⟨wr.heap.size, 1, none⟩ = some (.int .i64 t.p) ∧ W'.cell? ⟨wr.heap.size, 2, none⟩ = some (.int .i64 t.n) ∧ W'.cell? ⟨wr.heap.size, 3, none⟩ = some (.string (str t.s))
                ∧ W'.cell? ⟨g, off + j * 4, none⟩ = some (.int .u8 t'.k) ∧ W'.cell? ⟨g, off + j * 4 + 1, none⟩ = some (.int .i64 t'.p) ∧ W'.cell? ⟨g, off + j * 4 + 2, none⟩ = some (.int .i64 t'.n) ∧ W'.cell? ⟨g, off + j * 4 + 3, none⟩ = some (.string (str t'.s)))
                (first | (exact KS.out _ (Below.refl _ _).drew) | (exact KS.out _ hbb) | go_keep)
                (first | (go_at_call 41; refine (HB'.out _ (below_aft B1 (Below.refl _ _).drew)).mono ?_; rintro e w2 ⟨rfl, hb2⟩; have hbb : Below W1.heap.size W1 w2 := (Below.refl _ _).drew.trans (hb2.mono (Nat.le_refl _))))
              have BWW : Below w.heap.size w w2 := below_aft B1 hbb
              have BLD : Lib.IsBuilderF 89 5 bb bb (Lib.byteCells (jt bl ts (j + 1))) w2 := bld_below hB1 hbb
              have X2 := X0.below hbb
              obtain ⟨x0, x1, x2, x3, xf⟩ := X2.tok
              clear hbb hb2 KS
              cases b with
              | false =>
                have HPRE : Hid (jt bl ts (j + 1 + 1) = jt bl ts (j + 1) ++ tzText t) := HJ'.out
                go_wp2_with (first
              | (go_at_call 64; refine (HWB.out _ BLD).mono ?_; rintro e w3 ⟨rfl, hB3, hb3, ho3⟩; have X3 := others_tok ho3 X2 (by omega); have bw3 := below_low BWW hb3 (by omega); obtain ⟨e0, e1, e2, e3, ef⟩ := X3.tok; clear BLD BWW; have BLD := hB3; have BWW := bw3)
              | (go_at_call 34; refine (HX.out _ BWW t hmem).mono ?_; rintro e w4 ⟨rfl, hb4⟩; have hB4 := bld_below BLD hb4; have bw4 := below_aft BWW hb4)
              | (go_at_call 65; refine (HWS.out _ _ HPRE.out hB4).mono ?_; rintro e w5 ⟨rfl, hB5, hb5⟩; have bw5 := below_low bw4 hb5 (by omega))
              | (go_at_call 66; refine (HLN.out _ hB5).mono ?_; rintro e w6 ⟨rfl, rfl⟩))

                go_roundw
                case rel => exact ⟨j + 1 + 1, by omega, by go_num, bw5, HLE.out, bld_lt hB5, hB5⟩
                case measure => simp [intOf]; omega
              | true =>
                have HPRE : Hid (jt bl ts (j + 1 + 1) = (jt bl ts (j + 1) ++ [32]) ++ tzText t) := by
                  have := HJ'.out
                  show _ = _
                  rw [this, List.append_assoc]; rfl
                go_wp2_with (first
              | (go_at_call 64; refine (HWB.out _ BLD).mono ?_; rintro e w3 ⟨rfl, hB3, hb3, ho3⟩; have X3 := others_tok ho3 X2 (by omega); have bw3 := below_low BWW hb3 (by omega); obtain ⟨e0, e1, e2, e3, ef⟩ := X3.tok; clear BLD BWW; have BLD := hB3; have BWW := bw3)
              | (go_at_call 34; refine (HX.out _ BWW t hmem).mono ?_; rintro e w4 ⟨rfl, hb4⟩; have hB4 := bld_below BLD hb4; have bw4 := below_aft BWW hb4)
              | (go_at_call 65; refine (HWS.out _ _ HPRE.out hB4).mono ?_; rintro e w5 ⟨rfl, hB5, hb5⟩; have bw5 := below_low bw4 hb5 (by omega))
              | (go_at_call 66; refine (HLN.out _ hB5).mono ?_; rintro e w6 ⟨rfl, rfl⟩))

                go_roundw
                case rel => exact ⟨j + 1 + 1, by omega, by go_num, bw5, HLE.out, bld_lt hB5, hB5⟩
                case measure => simp [intOf]; omega
          · have hgt : ((L : Int) > 65536) = True := by simp; omega
            have hr3 := HR3.out HMA.out (k + 1) (by omega) (by omega)
            cases hr3
            clear hL hjk1
            by_cases h0 : k = 0
            · subst h0
              have hg : decide ((0 : Int) < ((0 : Nat) : Int)) = false := by decide
              have HPRE : Hid (jt bl ts (0 + 1) = jt bl ts 0 ++ tzText t) := by have := HJ.out; show _ = _; simpa using this
              clear HJ
              go_quiet (fail)
              have BWW : Below w.heap.size w (W1.drewN nq) := below_drewN B1 _
              have BLD : Lib.IsBuilderF 89 5 bb bb (Lib.byteCells (jt bl ts 0)) (W1.drewN nq) := bld_below hB1 (below_drewN (Below.refl _ _) _)
              have X2 := X0.drewN nq
              clear x0 x1 x2 x3 xf
              obtain ⟨x0, x1, x2, x3, xf⟩ := X2.tok
              generalize W1.drewN nq = W2 at *
              go_wp2_with (first
              | (go_at_call 64; refine (HWB.out _ BLD).mono ?_; rintro e w3 ⟨rfl, hB3, hb3, ho3⟩; have X3 := others_tok ho3 X2 (by omega); have bw3 := below_low BWW hb3 (by omega); obtain ⟨e0, e1, e2, e3, ef⟩ := X3.tok; clear BLD BWW; have BLD := hB3; have BWW := bw3)
              | (go_at_call 34; refine (HX.out _ BWW t hmem).mono ?_; rintro e w4 ⟨rfl, hb4⟩; have hB4 := bld_below BLD hb4; have bw4 := below_aft BWW hb4)
              | (go_at_call 65; refine (HWS.out _ _ HPRE.out hB4).mono ?_; rintro e w5 ⟨rfl, hB5, hb5⟩; have bw5 := below_low bw4 hb5 (by omega))
              | (go_at_call 66; refine (HLN.out _ hB5).mono ?_; rintro e w6 ⟨rfl, rfl⟩))

              go_ret2
              exact ⟨rfl, bw5⟩
            · obtain ⟨j, rfl⟩ : ∃ j, k = j + 1 := ⟨k - 1, by omega⟩
              obtain ⟨t', ht', htd'⟩ : ∃ t', ts[j]? = some t' ∧ ts.getD j ⟨0, 0, 0, []⟩ = t' := ⟨_, getD_at (by omega), rfl⟩
              obtain ⟨hgl, r0, r1, r2, r3⟩ := hR j t' ht'
              have D1 : Below wr.heap.size wr W1 := by rw [← hW1]; exact belA (Below.refl _ _)
              obtain ⟨b, hb0⟩ : ∃ b, bl t' t = b := ⟨_, rfl⟩
              have HB' : Hid (∀ W, Below w.heap.size w W → Calls Tryd.prog 41 #[tok t'.k t'.p t'.n (str t'.s), tok t.k t.p t.n (str t.s)] W fun e w' => e = .returned (.bool b) ∧ Below W.heap.size W w') := fun W h => by
                have := HB.out W h j (by omega)
                rwa [htd', htd, hb0] at this
              have HJ' : Hid (jt bl ts (j + 1 + 1) = jt bl ts (j + 1) ++ ((if b = true then [32] else []) ++ tzText t)) := by
                have := HJ.out
                show _ = _
                rw [this, Nat.add_sub_cancel, htd', hb0]
                simp
              clear HJ HB hb0 htd htd'
              have KS : Hid (∀ W', Below W1.heap.size W1 W' → (fun W' => Below W1.heap.size W1 W' ∧ W'.cell? ⟨wr.heap.size, 0, none⟩ = some (.int .u8 t.k) ∧ W'.cell? ⟨wr.heap.size, 1, none⟩ = some (.int .i64 t.p) ∧ W'.cell? ⟨wr.heap.size, 2, none⟩ = some (.int .i64 t.n) ∧ W'.cell? ⟨wr.heap.size, 3, none⟩ = some (.string (str t.s))
                ∧ W'.cell? ⟨g, off + j * 4, none⟩ = some (.int .u8 t'.k) ∧ W'.cell? ⟨g, off + j * 4 + 1, none⟩ = some (.int .i64 t'.p) ∧ W'.cell? ⟨g, off + j * 4 + 2, none⟩ = some (.int .i64 t'.n) ∧ W'.cell? ⟨g, off + j * 4 + 3, none⟩ = some (.string (str t'.s))) W') := fun W' h => by
                obtain ⟨e0, e1, e2, e3, _⟩ := (X0.below h).tok
                have h' := below_aft D1 h
                exact ⟨h, e0, e1, e2, e3, (h'.cell hgl).trans r0, (h'.cell hgl).trans r1, (h'.cell hgl).trans r2, (h'.cell hgl).trans r3⟩
              clear x0 x1 x2 x3 xf r0 r1 r2 r3 c0 c1 c2 c3
              have hg : decide ((0 : Int) < ((j + 1 : Nat) : Int)) = true := decide_eq_true (by omega)
              have hj1 : (0 : Int) ≤ (j : Int) := by omega
              have hj2 : (j : Int) < (ts.length : Int) := by omega
              have hj3 : ((j + 1 : Nat) : Int) - 1 = (j : Int) := by omega
              have hj4 : IntKind.i64.wrap (((j + 1 : Nat) : Int) - 1) = (j : Int) := by rw [IntKind.wrap_i64]; omega
              have hj5 : IntKind.i64.wrap ((j : Int)) = (j : Int) := by rw [IntKind.wrap_i64]; omega
              go_region_held3 (fun W' => Below W1.heap.size W1 W' ∧ W'.cell? ⟨wr.heap.size, 0, none⟩ = some (.int .u8 t.k) ∧ W'.cell? ⟨wr.heap.size, 1, none⟩ = some (.int .i64 t.p) ∧ W'.cell? ⟨wr.heap.size, 2, none⟩ = some (.int .i64 t.n) ∧ W'.cell? ⟨wr.heap.size, 3, none⟩ = some (.string (str t.s))
                ∧ W'.cell? ⟨g, off + j * 4, none⟩ = some (.int .u8 t'.k) ∧ W'.cell? ⟨g, off + j * 4 + 1, none⟩ = some (.int .i64 t'.p) ∧ W'.cell? ⟨g, off + j * 4 + 2, none⟩ = some (.int .i64 t'.n) ∧ W'.cell? ⟨g, off + j * 4 + 3, none⟩ = some (.string (str t'.s)))
                (first | (exact KS.out _ (Below.refl _ _).drew) | (exact KS.out _ hbb) | go_keep)
                (first | (go_at_call 41; refine (HB'.out _ (below_aft B1 (Below.refl _ _).drew)).mono ?_; rintro e w2 ⟨rfl, hb2⟩; have hbb : Below W1.heap.size W1 w2 := (Below.refl _ _).drew.trans (hb2.mono (Nat.le_refl _))))
              have BWW : Below w.heap.size w w2 := below_aft B1 hbb
              have BLD : Lib.IsBuilderF 89 5 bb bb (Lib.byteCells (jt bl ts (j + 1))) w2 := bld_below hB1 hbb
              have X2 := X0.below hbb
              obtain ⟨x0, x1, x2, x3, xf⟩ := X2.tok
              clear hbb hb2 KS
              cases b with
              | false =>
                have HPRE : Hid (jt bl ts (j + 1 + 1) = jt bl ts (j + 1) ++ tzText t) := HJ'.out
                go_wp2_with (first
              | (go_at_call 64; refine (HWB.out _ BLD).mono ?_; rintro e w3 ⟨rfl, hB3, hb3, ho3⟩; have X3 := others_tok ho3 X2 (by omega); have bw3 := below_low BWW hb3 (by omega); obtain ⟨e0, e1, e2, e3, ef⟩ := X3.tok; clear BLD BWW; have BLD := hB3; have BWW := bw3)
              | (go_at_call 34; refine (HX.out _ BWW t hmem).mono ?_; rintro e w4 ⟨rfl, hb4⟩; have hB4 := bld_below BLD hb4; have bw4 := below_aft BWW hb4)
              | (go_at_call 65; refine (HWS.out _ _ HPRE.out hB4).mono ?_; rintro e w5 ⟨rfl, hB5, hb5⟩; have bw5 := below_low bw4 hb5 (by omega))
              | (go_at_call 66; refine (HLN.out _ hB5).mono ?_; rintro e w6 ⟨rfl, rfl⟩))

                go_ret2
                exact ⟨rfl, bw5⟩
              | true =>
                have HPRE : Hid (jt bl ts (j + 1 + 1) = (jt bl ts (j + 1) ++ [32]) ++ tzText t) := by
                  have := HJ'.out
                  show _ = _
                  rw [this, List.append_assoc]; rfl
                go_wp2_with (first
              | (go_at_call 64; refine (HWB.out _ BLD).mono ?_; rintro e w3 ⟨rfl, hB3, hb3, ho3⟩; have X3 := others_tok ho3 X2 (by omega); have bw3 := below_low BWW hb3 (by omega); obtain ⟨e0, e1, e2, e3, ef⟩ := X3.tok; clear BLD BWW; have BLD := hB3; have BWW := bw3)
              | (go_at_call 34; refine (HX.out _ BWW t hmem).mono ?_; rintro e w4 ⟨rfl, hb4⟩; have hB4 := bld_below BLD hb4; have bw4 := below_aft BWW hb4)
              | (go_at_call 65; refine (HWS.out _ _ HPRE.out hB4).mono ?_; rintro e w5 ⟨rfl, hB5, hb5⟩; have bw5 := below_low bw4 hb5 (by omega))
              | (go_at_call 66; refine (HLN.out _ hB5).mono ?_; rintro e w6 ⟨rfl, rfl⟩))

                go_ret2
                exact ⟨rfl, bw5⟩
        · have hke : k = ts.length := by omega
          subst hke
          have hr0 := HR0.out HMA.out hjk
          cases hr0
          go_wp2_with (first | (go_at_call 67; refine (Tryd.Builder_String_any_f bb bb (jt bl ts ts.length) _ hB (by omega)).mono ?_; rintro e w5 ⟨rfl, _, hb5⟩))
          go_ret2
          exact ⟨rfl, below_low hbW hb5 (by omega)⟩
end Go.Proofs.YtpnamkpoapcgeaaDoor
