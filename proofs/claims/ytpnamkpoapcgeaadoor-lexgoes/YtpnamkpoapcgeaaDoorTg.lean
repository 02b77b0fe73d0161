import Derived.Test.YtpnamkpoapcgeaaDoorTh
import Derived.Laws.IdiomStrings
import Derived.Laws.BytesArg
import Derived.Deep.CutRange
namespace Go.Proofs.YtpnamkpoapcgeaaDoor
open Go.RowKit Go.Shelf
attribute [local go_sem] Oper.semAt_some
set_option linter.unusedVariables false
set_option linter.unusedSimpArgs false

/-- Bytes in a row of one's own. -/
abbrev BOw (w : World) (B : Nat) (v : Value) (l : List UInt8) : Prop := w.ownsRow B 5 1 v l.length (Lib.byteCells l)
theorem bow_slice {w : World} {B : Nat} {v : Value} {n : Nat} {xs : List Value} (h : w.ownsRow B 5 1 v n xs) : ∃ a c, v = .slice a n c := by
  rcases h.2 with ⟨rfl, rfl⟩ | ⟨g, cap, cur, rfl, _⟩
  · exact ⟨_, _, rfl⟩
  · exact ⟨_, _, rfl⟩
theorem conv_bow {w : World} {B : Nat} {a : Option Addr} {c : Nat} {l : List UInt8} (h : BOw w B (.slice a l.length c) l) : (convert 76 9 (.slice a l.length c)).run Tryd.prog w = .ok (.string (str l)) w := by
  rcases h.2 with ⟨e, h0⟩ | ⟨g, cap, cur, e, hb, hg, _⟩
  · have hl : l = [] := List.length_eq_zero_iff.1 h0
    subst hl
    cases e
    exact run_convert_bytes_nil (w := w) 76 5 Tryd.underlying76 Tryd.underlying5 0 0 9 Tryd.underlying9
  · cases e
    refine run_convert_bytes_back w 76 9 5 ⟨g, 0, none⟩ c l Tryd.underlying76 Tryd.underlying5 Tryd.underlying9 fun j hj => ?_
    refine h.cells (g := g) rfl j _ ?_
    simp [Lib.byteCells, List.getElem?_eq_getElem hj]
theorem bow_below {w w' : World} {B : Nat} {v : Value} {l : List UInt8} (h : BOw w B v l) (hb : Below w.heap.size w w') : BOw w' B v l := by
  refine World.ownsRow.kept h (grown_of_below (r := none) hb) ?_
  cases hv : v.ownBlock with
  | none => exact .inl rfl
  | some k => exact .inr (fun e => by cases e)
/-- What the reference has put together so far: the text while it is short enough, else something too long. -/
def Sofar (bl : Tz → Tz → Bool) (ts : List Tz) (k : Nat) (bs : List UInt8) : Prop := ((jt bl ts k).length ≤ 65536 → bs = jt bl ts k) ∧ (65536 < (jt bl ts k).length → 65536 < bs.length) ∧ bs.length ≤ 85537 + k
theorem sofar_next {bl : Tz → Tz → Bool} {ts : List Tz} {k : Nat} {bs : List UInt8} {t : Tz} {fl : Bool} (h : Sofar bl ts k bs) (ht : ts.getD k ⟨0, 0, 0, []⟩ = t) (hT : (tzText t).length ≤ 20000) (hfl : fl = (decide (k ≠ 0) && bl (ts.getD (k - 1) ⟨0, 0, 0, []⟩) t)) :
    ((bs ++ (if fl = true then [32] else [])).length ≤ 65536 → Sofar bl ts (k + 1) ((bs ++ (if fl = true then [32] else [])) ++ tzText t)) ∧ (¬ (bs ++ (if fl = true then [32] else [])).length ≤ 65536 → Sofar bl ts (k + 1) (bs ++ (if fl = true then [32] else []))) := by
  have e : jt bl ts (k + 1) = jt bl ts k ++ ((if fl = true then [32] else []) ++ tzText t) := by
    rw [jt, ht, hfl]
    simp only [Bool.and_eq_true, decide_eq_true_eq]
  obtain ⟨h1, h2, h3⟩ := h
  have hs : ((if fl = true then [32] else []) : List UInt8).length ≤ 1 := by split <;> simp
  generalize ((if fl = true then [32] else []) : List UInt8) = sp at *
  unfold Sofar
  rw [e]
  rcases Nat.lt_or_ge 65536 (jt bl ts k).length with hj | hj
  · have := h2 hj
    refine ⟨fun h => ?_, fun h => ⟨fun h' => ?_, fun _ => ?_, ?_⟩⟩
    · rw [List.length_append] at h; omega
    · simp only [List.length_append] at h'; omega
    · rw [List.length_append] at h ⊢; omega
    · rw [List.length_append]; omega
  · have := h1 hj
    subst this
    refine ⟨fun h => ⟨fun _ => ?_, fun h' => ?_, ?_⟩, fun h => ⟨fun h' => ?_, fun _ => ?_, ?_⟩⟩
    · rw [List.append_assoc]
    · simp only [List.length_append] at h' ⊢; omega
    · simp only [List.length_append] at h ⊢; omega
    · simp only [List.length_append] at h h'; omega
    · omega
    · rw [List.length_append]; omega
theorem sofar_zero (bl : Tz → Tz → Bool) (ts : List Tz) : Sofar bl ts 0 [] := ⟨fun _ => rfl, fun h => by simp [jt] at h, by simp⟩
theorem jres_sofar {bl : Tz → Tz → Bool} {ts : List Tz} {bs : List UInt8} (h1 : ∀ j, j < ts.length → tzMay (ts.getD j ⟨0, 0, 0, []⟩) = true) (h : Sofar bl ts ts.length bs) : jres bl ts = if bs.length ≤ 65536 then (bs, 0) else ([], 3) := by
  rcases Nat.lt_or_ge 65536 (jt bl ts ts.length).length with hj | hj
  · have := h.2.1 hj
    rw [jres_long h1 (Nat.le_refl _) hj, if_neg (by omega)]
  · have := h.1 hj
    rw [jres_ok h1 hj, this, if_pos hj]
set_option maxRecDepth 100000 in
set_option maxHeartbeats 8000000 in
theorem rjoin_any (tight : Bool) (bl : Tz → Tz → Bool) (hbl : ∀ a b, bl a b = (!tight || cl a b)) (ts : List Tz) (a0 : Option Addr) (cap : Nat) (w : World) (hat : TzA w a0 ts) (hlen : ts.length ≤ 16384) (hs : ∀ t ∈ ts, t.s.length ≤ 16384)
    (hnum : ∀ W, Below w.heap.size w W → ∀ t ∈ ts, Num W t) :
    Calls Tryd.prog 40 #[.slice a0 ts.length cap, .bool tight] w fun e w' => e = .returned (.tuple #[.string (str (jres bl ts).1), .int .i64 (jres bl ts).2]) ∧ Below w.heap.size w w' := by
  have HX : Hid (∀ W, Below w.heap.size w W → ∀ t, t ∈ ts → Calls Tryd.prog 16 #[tzV t] W fun e w' => e = .returned (.tuple #[.string (if tzMay t = true then str (tzText t) else ⟨#[]⟩), .int .i64 (if tzMay t = true then 0 else 2)]) ∧ Below W.heap.size W w') := fun W hW t ht => rtext_any t W (hs t ht) (fun W' hW' => hnum W' (below_aft hW hW') t ht)
  have HTX : Hid (∀ t ∈ ts, (tzText t).length ≤ 16404) := fun t ht => by
    have := tzText_len t (fun h => (hnum w (Below.refl _ _) t ht h).2)
    have := hs t ht
    omega
  have HR2 : Hid (∀ j, j < ts.length → tzMay (ts.getD j ⟨0, 0, 0, []⟩) = false → jres bl ts = ([], 2)) := fun j h1 h2 => jres_bad h1 h2
  have HR0 : Hid (∀ bs, (∀ j, j < ts.length → tzMay (ts.getD j ⟨0, 0, 0, []⟩) = true) → Sofar bl ts ts.length bs → jres bl ts = if bs.length ≤ 65536 then (bs, 0) else ([], 3)) := fun bs h1 h2 => jres_sofar h1 h2
  obtain ⟨RS, RE, hres⟩ : ∃ RS RE, jres bl ts = (RS, RE) := ⟨_, _, rfl⟩
  rw [hres] at HR2 HR0 ⊢
  have HBL : Hid (∀ a b, bl a b = (!tight || cl a b)) := hbl
  have HAT : Hid (TzA w a0 ts) := hat
  obtain ⟨i0, hi, hz0, hz1, hz2⟩ := info_parts Tryd.byteInfo
  clear hnum hres hbl hat hs
  go_enter Tryd.func40, Tryd.ntmps40
  go_wp2
  go_loopw [6, 7, 8] (fun v p i W => ∃ (k : Nat) (bs pv : List UInt8), k ≤ ts.length ∧ i = .int .i64 k ∧ p = .string (str pv) ∧ (0 < k → pv = tzText (ts.getD (k - 1) ⟨0, 0, 0, []⟩)) ∧ (∀ j, j < k → tzMay (ts.getD j ⟨0, 0, 0, []⟩) = true) ∧ Sofar bl ts k bs ∧ BOw W w.heap.size v bs ∧ Below w.heap.size w W) (fun _ _ i _ => ts.length - (intOf i).toNat)
  case atStart => exact ⟨0, [], [], Nat.zero_le _, rfl, rfl, fun h => absurd h (Nat.lt_irrefl 0), fun j h => absurd h (Nat.not_lt_zero j), sofar_zero bl ts, World.ownsRow_nil _ _ _ _, Below.refl _ _⟩
  case round =>
    obtain ⟨k, bs, pv, hk, rfl, rfl, hpv, hmk, hso, hO, hB⟩ := hrel
    have HMK : Hid (∀ j, j < k → tzMay (ts.getD j ⟨0, 0, 0, []⟩) = true) := hmk
    have HSO : Hid (Sofar bl ts k bs) := hso
    have HPV : Hid (0 < k → pv = tzText (ts.getD (k - 1) ⟨0, 0, 0, []⟩)) := hpv
    clear hmk hso hpv
    by_cases hlt : k < ts.length
    · obtain ⟨t, ht, htd⟩ : ∃ t, ts[k]? = some t ∧ ts.getD k ⟨0, 0, 0, []⟩ = t := ⟨_, getD_at hlt, rfl⟩
      have hmem : t ∈ ts := List.mem_of_getElem? ht
      obtain ⟨g, off, rfl, hrow⟩ := HAT.out (by rintro rfl; simp at hlt)
      have hR := hrow.below hB
      obtain ⟨hgl, c0, c1, c2, c3⟩ := hR k t ht
      have HTD : Hid (ts.getD k ⟨0, 0, 0, []⟩ = t) := htd
      have HTL : Hid ((tzText t).length ≤ 16404) := HTX.out t hmem
      have hXt := HX.out wr hB t hmem
      have h1 : (0 : Int) ≤ (k : Int) := by omega
      have h2 : (k : Int) < (ts.length : Int) := by omega
      have w3 : IntKind.i64.wrap ((k : Int) + 1) = (k : Int) + 1 := by rw [IntKind.wrap_i64]; omega
      obtain ⟨mt, hmt⟩ : ∃ mt, tzMay t = mt := ⟨_, rfl⟩
      rw [hmt] at hXt
      have HMV : Hid (tzMay t = mt) := hmt
      clear hmt htd
      cases mt with
      | false =>
        have HXT : Hid (Calls Tryd.prog 16 #[tok t.k t.p t.n (str t.s)] wr fun e w' => e = .returned (.tuple #[.string ⟨#[]⟩, .int .i64 2]) ∧ Below wr.heap.size wr w') := hXt
        clear hXt
        have hr2 := HR2.out k hlt (by rw [HTD.out]; exact HMV.out)
        cases hr2
        go_wp2_with (first | (go_at_call 16; refine HXT.out.mono ?_; rintro e w1 ⟨rfl, hb3⟩))
        go_ret2
        exact ⟨rfl, below_aft hB hb3⟩
      | true =>
        have HXT : Hid (Calls Tryd.prog 16 #[tok t.k t.p t.n (str t.s)] wr fun e w' => e = .returned (.tuple #[.string (str (tzText t)), .int .i64 0]) ∧ Below wr.heap.size wr w') := hXt
        clear hXt
        obtain ⟨T, hT⟩ : ∃ T, T = tzText t := ⟨_, rfl⟩
        rw [← hT] at HXT HTL
        have HTT : Hid (T = tzText t) := hT
        clear hT
        go_upto_region 9 with (go_at_call 16; refine HXT.out.mono ?_; rintro e w1 ⟨rfl, hb1⟩)
        obtain ⟨fl, hfl⟩ : ∃ fl, fl = (decide (k ≠ 0) && bl (ts.getD (k - 1) ⟨0, 0, 0, []⟩) t) := ⟨_, rfl⟩
        have HFL : Hid (fl = (decide (k ≠ 0) && bl (ts.getD (k - 1) ⟨0, 0, 0, []⟩) t)) := hfl
        clear hfl
        go_cut [46] from 11 to 56 (fun c wx => c = .bool fl ∧ Below w1.heap.size w1 wx)
        case first =>
          by_cases h0 : k = 0
          · subst h0
            have hf : fl = false := by rw [HFL.out]; rfl
            clear HFL
            subst hf
            have hg : decide ((0 : Int) < ((0 : Nat) : Int)) = false := by decide
            go_big_quiet (fail)
            go_wp2
            go_meet
            exact ⟨rfl, below_drewN (Below.refl _ _) _⟩
          · obtain ⟨j, rfl⟩ : ∃ j, k = j + 1 := ⟨k - 1, by omega⟩
            have hg : decide ((0 : Int) < ((j + 1 : Nat) : Int)) = true := decide_eq_true (by omega)
            have hg' : (0 : Int) < ((j + 1 : Nat) : Int) := by omega
            have hfl' : fl = bl (ts.getD j ⟨0, 0, 0, []⟩) t := by rw [HFL.out]; simp
            cases tight with
            | false =>
              have hf : fl = true := by rw [hfl', HBL.out]; rfl
              clear HFL hfl'
              subst hf
              go_big_quiet (fail)
              go_wp2
              go_meet
              exact ⟨rfl, below_drewN (Below.refl _ _) _⟩
            | true =>
              obtain ⟨t', ht', htd'⟩ : ∃ t', ts[j]? = some t' ∧ ts.getD j ⟨0, 0, 0, []⟩ = t' := ⟨_, getD_at (by omega), rfl⟩
              have hmem' : t' ∈ ts := List.mem_of_getElem? ht'
              obtain ⟨_, r0, r1, r2, r3⟩ := hR j t' ht'
              have hf : fl = cl t' t := by rw [hfl', HBL.out, htd']; rfl
              have hpv' : pv = tzText t' := by
                have := HPV.out (by omega)
                rw [Nat.add_sub_cancel, htd'] at this
                exact this
              have hl1 := HTX.out t' hmem'
              have hl2 := HTL.out
              have HAP : Hid (∀ W, Calls Tryd.prog 68 #[.string (str pv), .string (str T), tok t'.k t'.p t'.n (str t'.s), tok t.k t.p t.n (str t.s)] W fun e w' => e = .returned (.bool (!fl)) ∧ Below W.heap.size W w') := fun W => by
                refine apart_any pv T t' t W (by rw [List.length_append, hpv']; omega) (!fl) ?_
                rw [hpv', HTT.out, hf]
                constructor
                · intro h
                  exact cl_false (by simpa using h)
                · rintro ⟨x, y, h1, h2, h3⟩
                  rw [cl_of h1 h2 h3]; rfl
              have KS : Hid (∀ W', Below w1.heap.size w1 W' → (fun W' => Below w1.heap.size w1 W' ∧ W'.cell? ⟨g, off + (j + 1) * 4, none⟩ = some (.int .u8 t.k) ∧ W'.cell? ⟨g, off + (j + 1) * 4 + 1, none⟩ = some (.int .i64 t.p) ∧ W'.cell? ⟨g, off + (j + 1) * 4 + 2, none⟩ = some (.int .i64 t.n) ∧ W'.cell? ⟨g, off + (j + 1) * 4 + 3, none⟩ = some (.string (str t.s)) ∧ W'.cell? ⟨g, off + j * 4, none⟩ = some (.int .u8 t'.k) ∧ W'.cell? ⟨g, off + j * 4 + 1, none⟩ = some (.int .i64 t'.p) ∧ W'.cell? ⟨g, off + j * 4 + 2, none⟩ = some (.int .i64 t'.n) ∧ W'.cell? ⟨g, off + j * 4 + 3, none⟩ = some (.string (str t'.s))) W') := fun W' h => by
                have h' := below_aft hb1 h
                exact ⟨h, (h'.cell hgl).trans c0, (h'.cell hgl).trans c1, (h'.cell hgl).trans c2, (h'.cell hgl).trans c3, (h'.cell hgl).trans r0, (h'.cell hgl).trans r1, (h'.cell hgl).trans r2, (h'.cell hgl).trans r3⟩
              have hj1 : (0 : Int) ≤ (j : Int) := by omega
              have hj2 : (j : Int) < (ts.length : Int) := by omega
              have hk1 : (0 : Int) ≤ (j : Int) + 1 := by omega
              have hk2 : (j : Int) + 1 < (ts.length : Int) := by omega
              have hj3 : ((j + 1 : Nat) : Int) - 1 = (j : Int) := by omega
              have hj4 : IntKind.i64.wrap (((j + 1 : Nat) : Int) - 1) = (j : Int) := by rw [IntKind.wrap_i64]; omega
              have hj5 : IntKind.i64.wrap ((j : Int)) = (j : Int) := by rw [IntKind.wrap_i64]; omega
              clear hR hrow c0 c1 c2 c3 r0 r1 r2 r3 hf hfl' hpv' hl1 hl2 ht ht' htd' HX HXT HFL
              go_region_held3 (fun W' => Below w1.heap.size w1 W' ∧ W'.cell? ⟨g, off + (j + 1) * 4, none⟩ = some (.int .u8 t.k) ∧ W'.cell? ⟨g, off + (j + 1) * 4 + 1, none⟩ = some (.int .i64 t.p) ∧ W'.cell? ⟨g, off + (j + 1) * 4 + 2, none⟩ = some (.int .i64 t.n) ∧ W'.cell? ⟨g, off + (j + 1) * 4 + 3, none⟩ = some (.string (str t.s)) ∧ W'.cell? ⟨g, off + j * 4, none⟩ = some (.int .u8 t'.k) ∧ W'.cell? ⟨g, off + j * 4 + 1, none⟩ = some (.int .i64 t'.p) ∧ W'.cell? ⟨g, off + j * 4 + 2, none⟩ = some (.int .i64 t'.n) ∧ W'.cell? ⟨g, off + j * 4 + 3, none⟩ = some (.string (str t'.s)))
                (first | (exact KS.out _ (Below.refl _ _).drew) | (exact KS.out _ hbb) | go_keep)
                (first | (go_at_call 68; refine (HAP.out _).mono ?_; rintro e w2 ⟨rfl, hb2⟩; have hbb : Below w1.heap.size w1 w2 := (Below.refl _ _).drew.trans (hb2.mono (Nat.le_refl _))))
              go_wp2
              go_meet
              exact ⟨by simp, hbb⟩
        case rest =>
        obtain ⟨rfl, hb2⟩ := hcut
        have hB2 : Below w.heap.size w wc := below_aft (below_aft hB hb1) hb2
        have hO2 := bow_below (bow_below hO hb1) hb2
        generalize wc = w2 at *
        have hsW := hB2.size
        obtain ⟨sa, sc, rfl⟩ := bow_slice hO
        obtain ⟨N1, N2⟩ := sofar_next HSO.out HTD.out (by have := HTL.out; rw [← HTT.out]; omega) HFL.out
        rw [← HTT.out] at N1
        have hbl3 := HSO.out.2.2
        have hl2 := HTL.out
        have hTs := str_size T
        have HNX : Hid (∀ j, j < k + 1 → tzMay (ts.getD j ⟨0, 0, 0, []⟩) = true) := fun j hj => by
          rcases Nat.lt_or_ge j k with h | h
          · exact HMK.out j h
          · obtain rfl : j = k := by omega
            rw [HTD.out]; exact HMV.out
        have HPX : Hid (0 < k + 1 → T = tzText (ts.getD (k + 1 - 1) ⟨0, 0, 0, []⟩)) := fun _ => by rw [Nat.add_sub_cancel, HTD.out]; exact HTT.out
        clear hR hrow c0 c1 c2 c3 hO ht HX HXT HFL
        cases fl with
        | false =>
          rw [if_neg (by decide), List.append_nil] at N1 N2
          by_cases hle : bs.length ≤ 65536
          · have hlI : ((bs.length : Int) ≤ 65536) := by omega
            have HN : Hid (Sofar bl ts (k + 1) (bs ++ T)) := N1 hle
            clear N1 N2
            go_wp2_with (first | (at_builtin; refine Lib.wpList_append_own_string _ rfl _ _ 76 9 rfl w.heap.size 5 i0 Tryd.underlying76 Tryd.underlying9 hi hz0 hz1 hz2 _ bs.length _ rfl hO2 (str T) rfl (by rw [str_size]; unfold maxLen; omega) (by rw [str_size]; omega) (by omega) ?_; intro v' w4 ho4 hg4 _hn; obtain ⟨sa', sc', rfl⟩ := bow_slice ho4; have hB4 := hB2.grown hg4 hB2.size (fun j e => (World.ownsRow.lt hO2 j e).1)))
            refine ⟨⟨k + 1, bs ++ T, T, by omega, by go_num, rfl, HPX.out, HNX.out, HN.out, ?_, hB4⟩, by simp [intOf]; omega⟩
            show World.ownsRow _ _ _ _ _ _ _
            rw [List.length_append, byteCells_append, ← strCells_str]
            exact ho4
          · have hlI : ¬ ((bs.length : Int) ≤ 65536) := by omega
            have HN : Hid (Sofar bl ts (k + 1) bs) := N2 hle
            clear N1 N2
            go_wp2
            exact ⟨⟨k + 1, bs, T, by omega, by go_num, rfl, HPX.out, HNX.out, HN.out, hO2, hB2⟩, by simp [intOf]; omega⟩
        | true =>
          rw [if_pos rfl, List.length_append, List.length_cons, List.length_nil, Nat.zero_add] at N1 N2
          by_cases hle : bs.length + 1 ≤ 65536
          · have hlI : (((bs.length + 1 : Nat) : Int) ≤ 65536) := by omega
            have hlI' : ((bs.length : Int) + 1 ≤ 65536) := by omega
            have HN : Hid (Sofar bl ts (k + 1) ((bs ++ [32]) ++ T)) := N1 hle
            clear N1 N2
            go_wp2_with (first
              | (at_builtin; refine wpList_append_own _ rfl _ _ 76 rfl w.heap.size 5 i0 (.int .u8 0) 1 1 Tryd.underlying76 hi hz0 hz1 hz2 rfl (by decide) _ bs.length _ rfl (hO2.alloc _) ⟨w2.heap.size, 0, none⟩ 1 1 [.int .u8 32] rfl rfl (news_one w2 32) (ones_one 32) (by unfold maxLen; omega) (by omega) (by simp; omega) ?_; intro v1 w3 ho1 hg1 _hn; have hB3 := hB2.grown (grown_trans (World.grownBy_alloc w2 (.cells #[.int .u8 32] 5) _) hg1) hB2.size (fun j e => (hO2.lt j e).1); have hs3 := hB3.size; obtain ⟨ra, rc, rfl⟩ := bow_slice ho1)
              | (at_builtin; refine Lib.wpList_append_own_string _ rfl _ _ 76 9 rfl w.heap.size 5 i0 Tryd.underlying76 Tryd.underlying9 hi hz0 hz1 hz2 _ (bs.length + 1) _ rfl ho1 (str T) rfl (by rw [str_size]; unfold maxLen; omega) (by rw [str_size]; omega) (by omega) ?_; intro v' w4 ho4 hg4 _hn; obtain ⟨sa', sc', rfl⟩ := bow_slice ho4; have hB4 := hB3.grown hg4 hB3.size (fun j e => (World.ownsRow.lt ho1 j e).1)))
            refine ⟨⟨k + 1, (bs ++ [32]) ++ T, T, by omega, by go_num, rfl, HPX.out, HNX.out, HN.out, ?_, hB4⟩, by simp [intOf]; omega⟩
            show World.ownsRow _ _ _ _ _ _ _
            rw [List.length_append, List.length_append, byteCells_append, byteCells_append, ← strCells_str]
            exact ho4
          · have hlI : ¬ (((bs.length + 1 : Nat) : Int) ≤ 65536) := by omega
            have hlI' : ¬ ((bs.length : Int) + 1 ≤ 65536) := by omega
            have HN : Hid (Sofar bl ts (k + 1) (bs ++ [32])) := N2 hle
            clear N1 N2
            go_wp2_with (first | (at_builtin; refine wpList_append_own _ rfl _ _ 76 rfl w.heap.size 5 i0 (.int .u8 0) 1 1 Tryd.underlying76 hi hz0 hz1 hz2 rfl (by decide) _ bs.length _ rfl (hO2.alloc _) ⟨w2.heap.size, 0, none⟩ 1 1 [.int .u8 32] rfl rfl (news_one w2 32) (ones_one 32) (by unfold maxLen; omega) (by omega) (by simp; omega) ?_; intro v1 w3 ho1 hg1 _hn; have hB3 := hB2.grown (grown_trans (World.grownBy_alloc w2 (.cells #[.int .u8 32] 5) _) hg1) hB2.size (fun j e => (hO2.lt j e).1); have hs3 := hB3.size; obtain ⟨ra, rc, rfl⟩ := bow_slice ho1))
            refine ⟨⟨k + 1, bs ++ [32], T, by omega, by go_num, rfl, HPX.out, HNX.out, HN.out, ?_, hB3⟩, by simp [intOf]; omega⟩
            show World.ownsRow _ _ _ _ _ _ _
            rw [List.length_append, byteCells_append]
            exact ho1
    · obtain rfl : k = ts.length := by omega
      have hr0 := HR0.out bs HMK.out HSO.out
      obtain ⟨sa, sc, rfl⟩ := bow_slice hO
      have hcv := conv_bow hO
      by_cases hle : bs.length ≤ 65536
      · rw [if_pos hle] at hr0
        cases hr0
        have hgt : ¬ (65536 : Int) < (RS.length : Int) := by omega
        go_wp2
        go_ret2
        exact ⟨rfl, hB⟩
      · rw [if_neg hle] at hr0
        cases hr0
        have hgt : (65536 : Int) < (bs.length : Int) := by omega
        go_wp2
        go_ret2
        exact ⟨rfl, hB⟩
end Go.Proofs.YtpnamkpoapcgeaaDoor
