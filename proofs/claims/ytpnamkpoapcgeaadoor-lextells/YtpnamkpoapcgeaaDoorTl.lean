import Derived.Test.YtpnamkpoapcgeaaDoorTj
import Derived.Test.YtpnamkpoapcgeaaDoorLf
import Derived.Laws.AppendOwnNone
import Derived.Lib.SmallJoins
namespace Go.Proofs.YtpnamkpoapcgeaaDoor
open Go.RowKit Go.Shelf
attribute [local go_sem] Oper.semAt_some
set_option linter.unusedVariables false
set_option linter.unusedSimpArgs false

/-- The cells of tokens in a row. -/
def tzCells (ts : List Tz) : List Value := ts.flatMap (fun t => [.int .u8 t.k, .int .i64 t.p, .int .i64 t.n, .string (str t.s)])
theorem tzCells_len : ∀ ts : List Tz, (tzCells ts).length = ts.length * 4
  | [] => rfl
  | t :: r => by have := tzCells_len r; simp [tzCells] at this ⊢; omega
theorem tzCells_at : ∀ (ts : List Tz) (i : Nat) (t : Tz), ts[i]? = some t → (tzCells ts)[i * 4]? = some (.int .u8 t.k) ∧ (tzCells ts)[i * 4 + 1]? = some (.int .i64 t.p) ∧ (tzCells ts)[i * 4 + 2]? = some (.int .i64 t.n) ∧ (tzCells ts)[i * 4 + 3]? = some (.string (str t.s))
  | [], i, t, h => by simp at h
  | a :: r, 0, t, h => by
    simp at h
    subst h
    simp [tzCells]
  | a :: r, i + 1, t, h => by
    have ih := tzCells_at r i t (by simpa using h)
    have e : tzCells (a :: r) = [.int .u8 a.k, .int .i64 a.p, .int .i64 a.n, .string (str a.s)] ++ tzCells r := by simp [tzCells]
    rw [e]
    have sh : ∀ m, ([.int .u8 a.k, .int .i64 a.p, .int .i64 a.n, .string (str a.s)] ++ tzCells r)[m + 4]? = (tzCells r)[m]? := fun m => by
      rw [List.getElem?_append_right (by simp)]; simp
    refine ⟨?_, ?_, ?_, ?_⟩
    · rw [show (i + 1) * 4 = i * 4 + 4 by omega, sh]; exact ih.1
    · rw [show (i + 1) * 4 + 1 = (i * 4 + 1) + 4 by omega, sh]; exact ih.2.1
    · rw [show (i + 1) * 4 + 2 = (i * 4 + 2) + 4 by omega, sh]; exact ih.2.2.1
    · rw [show (i + 1) * 4 + 3 = (i * 4 + 3) + 4 by omega, sh]; exact ih.2.2.2
theorem tzCells_cell {w : World} {g off : Nat} {ts : List Tz} (h : ZRow w g off ts) : ∀ j u, (tzCells ts)[j]? = some u → w.cell? ((⟨g, off, none⟩ : Addr).add j) = some u := by
  intro j u hu
  rw [Addr.add_lit]
  have hj : j < (tzCells ts).length := (List.getElem?_eq_some_iff.1 hu).1
  rw [tzCells_len] at hj
  obtain ⟨t, ht⟩ : ∃ t, ts[j / 4]? = some t := ⟨_, List.getElem?_eq_getElem (by omega)⟩
  obtain ⟨_, h0, h1, h2, h3⟩ := h (j / 4) t ht
  obtain ⟨e0, e1, e2, e3⟩ := tzCells_at ts (j / 4) t ht
  have hm : j % 4 = 0 ∨ j % 4 = 1 ∨ j % 4 = 2 ∨ j % 4 = 3 := by omega
  rcases hm with hm | hm | hm | hm
  · rw [show j / 4 * 4 = j by omega] at e0 h0; rw [hu] at e0; rw [h0]; exact e0.symm
  · rw [show j / 4 * 4 + 1 = j by omega] at e1; rw [hu] at e1; rw [show off + j = off + j / 4 * 4 + 1 by omega, h1]; exact e1.symm
  · rw [show j / 4 * 4 + 2 = j by omega] at e2; rw [hu] at e2; rw [show off + j = off + j / 4 * 4 + 2 by omega, h2]; exact e2.symm
  · rw [show j / 4 * 4 + 3 = j by omega] at e3; rw [hu] at e3; rw [show off + j = off + j / 4 * 4 + 3 by omega, h3]; exact e3.symm
theorem tzCells_one (ts : List Tz) : ∀ u ∈ tzCells ts, u.oneCell' = true := by
  intro u hu
  unfold tzCells at hu
  rw [List.mem_flatMap] at hu
  obtain ⟨t, _, hu⟩ := hu
  simp only [List.mem_cons, List.not_mem_nil, or_false] at hu
  rcases hu with rfl | rfl | rfl | rfl <;> rfl
/-- Tokens of one's own, with one more behind them. -/
theorem own_at {w : World} {B : Nat} {v : Value} {ts : List Tz} {k p n : Int} {s : ByteArray} (h : w.ownsRow B 32 4 v (ts.length + 1) (tzCells ts ++ [.int .u8 k, .int .i64 p, .int .i64 n, .string s])) :
    ∃ g c, v = .slice (some ⟨g, 0, none⟩) (ts.length + 1) c ∧ ts.length + 1 ≤ c ∧ g < w.heap.size ∧ ZRow w g 0 ts ∧ w.cell? ⟨g, ts.length * 4 + 3, none⟩ = some (.string s) := by
  rcases h.2 with ⟨_, h0⟩ | ⟨g, cap, cur, rfl, hb, hg, hc, hcap, hcs, ht⟩
  · omega
  · have hlt := (Array.getElem?_eq_some_iff.1 hg).1
    have key : ∀ (j : Nat) (u : Value), (tzCells ts ++ [.int .u8 k, .int .i64 p, .int .i64 n, .string s])[j]? = some u → w.cell? ⟨g, j, none⟩ = some u := by
      intro j u hu
      rw [cell_of_row w g j cur 32 (0, 0) hg]
      rw [← ht, List.getElem?_take] at hu
      split at hu
      · simpa using hu
      · cases hu
    refine ⟨g, cap, rfl, ?_, hlt, fun i t hi => ?_, ?_⟩
    · omega
    · obtain ⟨e0, e1, e2, e3⟩ := tzCells_at ts i t hi
      have hil := (List.getElem?_eq_some_iff.1 hi).1
      have hl := tzCells_len ts
      simp only [Nat.zero_add]
      refine ⟨hlt, key _ _ ?_, key _ _ ?_, key _ _ ?_, key _ _ ?_⟩
      · rw [List.getElem?_append_left (by omega)]; exact e0
      · rw [List.getElem?_append_left (by omega)]; exact e1
      · rw [List.getElem?_append_left (by omega)]; exact e2
      · rw [List.getElem?_append_left (by omega)]; exact e3
    · refine key _ _ ?_
      rw [List.getElem?_append_right (by rw [tzCells_len]; omega), tzCells_len]
      simp
theorem text_both (t : Tz) (w : World) (hl : t.s.length ≤ 16384) (hn : ∀ W, Below w.heap.size w W → Num W t) : ∃ (sv : ByteArray) (ev : Int), (∀ W, Below w.heap.size w W → Calls Tryd.prog 15 #[tzV t] W fun e w' => e = .returned (.tuple #[.string sv, .int .i64 ev]) ∧ Below W.heap.size W w') ∧
    (∀ W, Below w.heap.size w W → Calls Tryd.prog 16 #[tzV t] W fun e w' => e = .returned (.tuple #[.string sv, .int .i64 ev]) ∧ Below W.heap.size W w') := by
  have hTl := tzText_len t (fun h => (hn w (Below.refl _ _) h).2)
  refine ⟨if tzMay t = true then str (tzText t) else ⟨#[]⟩, if tzMay t = true then 0 else 2, fun W hW => ?_, fun W hW => rtext_any t W hl (fun W' hW' => hn W' (below_aft hW hW'))⟩
  cases hm : tzMay t with
  | true => exact text_ok t W (by omega) (by omega) (fun W' hW' => hn W' (below_aft hW hW')) hm
  | false => exact text_no t W (by omega) (by unfold maxLen; omega) (fun W' hW' => hn W' (below_aft hW hW')) hm
theorem ba_eqs (s : ByteArray) : (s == s) = true ∧ (s != s) = false ∧ (s.toList == s.toList) = true ∧ (s.toList != s.toList) = false := by
  have h1 : (s == s) = true := by
    show (s.data == s.data) = true
    exact beq_self_eq_true _
  refine ⟨h1, ?_, by simp, by simp⟩
  rw [bne, h1]; rfl
set_option maxRecDepth 100000 in
set_option maxHeartbeats 8000000 in
theorem lexTells_walk (ts : List Tz) (a0 : Option Addr) (cap : Nat) (w : World) (hat : TzA w a0 ts) (hn : ts.length ≤ maxLen) (hts : ∀ t ∈ ts, -9223372036854775808 ≤ t.n ∧ t.n ≤ 9223372036854775807 ∧ t.s.length ≤ maxLen) (hnone : a0 = none → ts = [] ∧ cap = 0)
    (hnum : ∀ W, Below w.heap.size w W → ∀ t ∈ ts, Num W t) :
    Calls Tryd.prog 4 #[.slice a0 ts.length cap] w fun e w' => e = .returned (.bool true) ∧ Below w.heap.size w w' := by
  have HA : Hid (∀ W, Calls Tryd.prog 9 #[] W fun e w' => e = .returned (.bool true) ∧ Below W.heap.size W w') := awake_any
  have HF : Hid (Calls Tryd.prog 14 #[.slice a0 ts.length cap] w fun e w' => ∃ b : Bool, e = .returned (.bool b) ∧ (b = true → ts.length ≤ 16384 ∧ ∀ t ∈ ts, t.s.length ≤ 16384) ∧ w' = w) := fits_any ts a0 cap w hat hn (fun t ht => (hts t ht).2.2)
  have HAT : Hid (TzA w a0 ts) := hat
  have HNUM : Hid (∀ W, Below w.heap.size w W → ∀ t ∈ ts, Num W t) := hnum
  obtain ⟨i0, hi, hz0, hz1, hz2⟩ := info_parts Tryd.tokInfo
  clear hat hts hnum
  go_enter Tryd.func4, Tryd.ntmps4
  go_upto_if 15 with (go_at_call 14; refine HF.out.mono ?_; rintro e w1 ⟨b, rfl, hb, hw1⟩; replace hw1 := hw1.symm; subst hw1)
  cases b with
  | false =>
    go_wp2_with (go_at_call 9; refine (HA.out _).mono ?_; rintro e w2 ⟨rfl, hb2⟩)
    go_ret
    exact ⟨rfl, hb2⟩
  | true =>
    obtain ⟨hlen, hsl⟩ := hb rfl
    have HSL : Hid (∀ t ∈ ts, t.s.length ≤ 16384) := hsl
    clear hb hsl HF
    go_upto_region 3 with fail
    go_cut [3] from 13 (fun v wx => wx.ownsRow w.heap.size 32 4 v (ts.length + 1) (tzCells ts ++ [.int .u8 0, .int .i64 0, .int .i64 0, .string ⟨#[109, 97, 114, 107]⟩]) ∧ Below w.heap.size w wx)
    case first =>
      cases a0 with
      | none =>
        obtain ⟨rfl, rfl⟩ := hnone rfl
        have ho1 : w.ownsRow w.heap.size 32 4 (.slice none 0 0) ([] : List Tz).length (tzCells []) := World.ownsRow_nil _ _ _ _
        go_wp2_with (first
          | (at_builtin; refine wpList_append_own_none rfl (.const (.slice none 0 0)) (.tmp 17) 23 rfl w.heap.size 32 i0 4 Tryd.underlying23 hi _ 0 [] rfl ho1 rfl ?_)
          | (at_builtin; refine wpList_append_own _ rfl (.tmp 18) (.tmp 20) 23 rfl w.heap.size 32 i0 (tok 0 0 0 ⟨#[]⟩) 4 40 Tryd.underlying23 hi hz0 hz1 hz2 rfl (by decide) _ 0 [] rfl (ho1.alloc _) ⟨w.heap.size, 0, none⟩ 1 1 [.int .u8 0, .int .i64 0, .int .i64 0, .string ⟨#[109, 97, 114, 107]⟩] rfl rfl (news_tok w 0 0 0 ⟨#[109, 97, 114, 107]⟩) (ones_tok 0 0 0 ⟨#[109, 97, 114, 107]⟩) (by unfold maxLen; omega) (by omega) (by simp) ?_; intro v2 w2 ho2 hg2 _h2))
        go_meet
        exact ⟨ho2, (belA (Below.refl _ _)).grown hg2 (by simp) (fun j e => (World.ownsRow.lt ho1 j e).1)⟩
      | some ad =>
        have hnews : ∀ j u, (tzCells ts)[j]? = some u → w.cell? (ad.add j) = some u := by
          intro j u hu
          by_cases hne : ts = []
          · subst hne; simp [tzCells] at hu
          · obtain ⟨g, off, e, hr⟩ := HAT.out hne
            cases e
            exact tzCells_cell hr j u hu
        have HNW : Hid (∀ j u, (tzCells ts)[j]? = some u → w.cell? (ad.add j) = some u) := hnews
        clear hnews
        go_wp2_with (first
          | (at_builtin; refine wpList_append_own _ rfl (.const (.slice none 0 0)) (.tmp 17) 23 rfl w.heap.size 32 i0 (tok 0 0 0 ⟨#[]⟩) 4 40 Tryd.underlying23 hi hz0 hz1 hz2 rfl (by decide) _ 0 [] rfl (World.ownsRow_nil _ _ _ _) ad ts.length cap (tzCells ts) rfl (tzCells_len ts) HNW.out (tzCells_one ts) (by unfold maxLen; omega) (by omega) (Nat.le_refl _) ?_; intro v1 w1 ho1 hg1 _h1; rw [Nat.zero_add, List.nil_append] at ho1; have hB1 : Below w.heap.size w w1 := (Below.refl _ _).grown hg1 (Nat.le_refl _) (fun j e => ((World.ownsRow_nil w w.heap.size 32 4).lt j e).1); have hs1 := hB1.size)
          | (at_builtin; refine wpList_append_own _ rfl (.tmp 18) (.tmp 20) 23 rfl w.heap.size 32 i0 (tok 0 0 0 ⟨#[]⟩) 4 40 Tryd.underlying23 hi hz0 hz1 hz2 rfl (by decide) _ ts.length (tzCells ts) rfl (ho1.alloc _) ⟨w1.heap.size, 0, none⟩ 1 1 [.int .u8 0, .int .i64 0, .int .i64 0, .string ⟨#[109, 97, 114, 107]⟩] rfl rfl (news_tok w1 0 0 0 ⟨#[109, 97, 114, 107]⟩) (ones_tok 0 0 0 ⟨#[109, 97, 114, 107]⟩) (by unfold maxLen; omega) (by omega) (by simp; omega) ?_; intro v2 w2 ho2 hg2 _h2))
        go_meet
        exact ⟨ho2, (belA hB1).grown hg2 (by simp; omega) (fun j e => (World.ownsRow.lt ho1 j e).1)⟩
    case rest =>
    obtain ⟨ho, B2⟩ := hcut
    generalize wc = w2 at *
    obtain ⟨g, c, rfl, hc1, hgl, hzr, hmk⟩ := own_at ho
    have HOWN : Hid (TzA w2 (some ⟨g, 0, none⟩) ts) := fun _ => ⟨g, 0, rfl, hzr⟩
    have HMK : Hid (w2.cell? ⟨g, ts.length * 4 + 3, none⟩ = some (.string ⟨#[109, 97, 114, 107]⟩)) := hmk
    clear ho hzr hmk
    go_wp2
    go_loopw [4] (fun i W => ∃ k : Nat, k ≤ ts.length ∧ i = .int .i64 k ∧ Below w2.heap.size w2 W) (fun i _ => ts.length - (intOf i).toNat)
    case atStart => exact ⟨0, Nat.zero_le _, rfl, Below.refl _ _⟩
    case round =>
      obtain ⟨k, hk, rfl, hB⟩ := hrel
      by_cases hlt : k < ts.length
      · obtain ⟨t, ht⟩ : ∃ t, ts[k]? = some t := ⟨_, List.getElem?_eq_getElem hlt⟩
        have hmem : t ∈ ts := List.mem_of_getElem? ht
        obtain ⟨g0, off, rfl, hrow⟩ := HAT.out (by rintro rfl; simp at hlt)
        have hBw := below_aft B2 hB
        have hR := hrow.below hBw
        obtain ⟨hg0, c0, c1, c2, c3⟩ := hR k t ht
        have h1 : (0 : Int) ≤ (k : Int) := by omega
        have h2 : (k : Int) < (ts.length : Int) := by omega
        have w3' : IntKind.i64.wrap ((k : Int) + 1) = (k : Int) + 1 := by rw [IntKind.wrap_i64]; omega
        have hsl := HSL.out t hmem
        obtain ⟨sv, ev, h15, h16⟩ := text_both t wr hsl (fun W hW => HNUM.out W (below_aft hBw hW) t hmem)
        have H15 : Hid (∀ W, Below wr.heap.size wr W → Calls Tryd.prog 15 #[tok t.k t.p t.n (str t.s)] W fun e w' => e = .returned (.tuple #[.string sv, .int .i64 ev]) ∧ Below W.heap.size W w') := h15
        have H16 : Hid (∀ W, Below wr.heap.size wr W → Calls Tryd.prog 16 #[tok t.k t.p t.n (str t.s)] W fun e w' => e = .returned (.tuple #[.string sv, .int .i64 ev]) ∧ Below W.heap.size W w') := h16
        have hTl := tzText_len t (fun h => (HNUM.out w (Below.refl _ _) t hmem h).2)
        obtain ⟨mb, hmb⟩ : ∃ mb, tzMay t = mb := ⟨_, rfl⟩
        have H17 : Hid (∀ W, Below wr.heap.size wr W → Calls Tryd.prog 17 #[tok t.k t.p t.n (str t.s)] W fun e w' => e = .returned (.bool mb) ∧ Below W.heap.size W w') := fun W hW => by
          rw [← hmb]; exact may_any t W (by omega) (by unfold maxLen; omega) (fun W' hW' => HNUM.out W' (below_aft (below_aft hBw hW) hW') t hmem)
        have H18 : Hid (∀ W, Below wr.heap.size wr W → Calls Tryd.prog 18 #[tok t.k t.p t.n (str t.s)] W fun e w' => e = .returned (.bool mb) ∧ Below W.heap.size W w') := fun W hW => by
          rw [← hmb]; exact rmay_any t W hsl (fun W' hW' => HNUM.out W' (below_aft (below_aft hBw hW) hW') t hmem)
        obtain ⟨q1, q2, q3, q4⟩ := ba_eqs sv
        have q5 : (ev != ev) = false := by simp
        have KS : Hid (∀ W', Below wr.heap.size wr W' → (Below wr.heap.size wr W' ∧ W'.cell? ⟨g0, off + k * 4, none⟩ = some (.int .u8 t.k) ∧ W'.cell? ⟨g0, off + k * 4 + 1, none⟩ = some (.int .i64 t.p) ∧ W'.cell? ⟨g0, off + k * 4 + 2, none⟩ = some (.int .i64 t.n) ∧ W'.cell? ⟨g0, off + k * 4 + 3, none⟩ = some (.string (str t.s)))) := fun W' h => ⟨h, (h.cell hg0).trans c0, (h.cell hg0).trans c1, (h.cell hg0).trans c2, (h.cell hg0).trans c3⟩
        clear h15 h16 hR hrow ht hmb hTl
        go_upto_region 9 with (first
          | (go_at_call 15; refine (H15.out _ (Below.refl _ _)).mono ?_; rintro e w3 ⟨rfl, hb3⟩; clear c0 c1 c2 c3; obtain ⟨_, c0, c1, c2, c3⟩ := KS.out _ hb3)
          | (go_at_call 16; refine (H16.out _ hb3).mono ?_; rintro e w4 ⟨rfl, hb4⟩))
        clear c0 c1 c2 c3
        have hb34 := below_aft hb3 hb4
        have KS2 : Hid (∀ W', Below w4.heap.size w4 W' → (fun W' => Below w4.heap.size w4 W' ∧ W'.cell? ⟨g0, off + k * 4, none⟩ = some (.int .u8 t.k) ∧ W'.cell? ⟨g0, off + k * 4 + 1, none⟩ = some (.int .i64 t.p) ∧ W'.cell? ⟨g0, off + k * 4 + 2, none⟩ = some (.int .i64 t.n) ∧ W'.cell? ⟨g0, off + k * 4 + 3, none⟩ = some (.string (str t.s))) W') := fun W' h => by
          obtain ⟨_, e0, e1, e2, e3⟩ := KS.out _ (below_aft hb34 h)
          exact ⟨h, e0, e1, e2, e3⟩
        go_region_held3 (fun W' => Below w4.heap.size w4 W' ∧ W'.cell? ⟨g0, off + k * 4, none⟩ = some (.int .u8 t.k) ∧ W'.cell? ⟨g0, off + k * 4 + 1, none⟩ = some (.int .i64 t.p) ∧ W'.cell? ⟨g0, off + k * 4 + 2, none⟩ = some (.int .i64 t.n) ∧ W'.cell? ⟨g0, off + k * 4 + 3, none⟩ = some (.string (str t.s)))
          (first | (exact KS2.out _ (Below.refl _ _).drew) | (exact KS2.out _ hbb) | go_keep)
          (first
            | (go_at_call 17; have _h := hbb; refine (H17.out _ (below_aft hb34 hbb)).mono ?_; rintro e w6 ⟨rfl, hb6⟩; replace hbb := below_aft hbb hb6)
            | (go_at_call 17; refine (H17.out _ (below_aft hb34 (Below.refl _ _).drew)).mono ?_; rintro e w5 ⟨rfl, hb5⟩; have hbb : Below w4.heap.size w4 w5 := (Below.refl _ _).drew.trans (hb5.mono (Nat.le_refl _)))
            | (go_at_call 18; have _h := hbb; refine (H18.out _ (below_aft hb34 hbb)).mono ?_; rintro e w6 ⟨rfl, hb6⟩; replace hbb := below_aft hbb hb6)
            | (go_at_call 18; refine (H18.out _ (below_aft hb34 (Below.refl _ _).drew)).mono ?_; rintro e w5 ⟨rfl, hb5⟩; have hbb : Below w4.heap.size w4 w5 := (Below.refl _ _).drew.trans (hb5.mono (Nat.le_refl _))))
        go_wp2
        exact ⟨⟨k + 1, by omega, by go_num, below_aft hB (below_aft hb34 hbb)⟩, by simp [intOf]; omega⟩
      · obtain rfl : k = ts.length := by omega
        have hBw := below_aft B2 hB
        obtain ⟨R1, hR1⟩ : ∃ R1, jres (fun _ _ => true) ts = R1 := ⟨_, rfl⟩
        obtain ⟨R2, hR2⟩ : ∃ R2, jres cl ts = R2 := ⟨_, rfl⟩
        have H19 : Hid (∀ W, Below wr.heap.size wr W → Calls Tryd.prog 19 #[.slice (some ⟨g, 0, none⟩) ts.length c] W fun e w' => e = .returned (.tuple #[.string (str R1.1), .int .i64 R1.2]) ∧ Below W.heap.size W w') := fun W hW => by
          rw [← hR1]; exact join_any ts _ c W ((HOWN.out.below hB).below hW) hlen HSL.out (fun W' hW' => HNUM.out W' (below_aft (below_aft hBw hW) hW'))
        have H20 : Hid (∀ W, Below wr.heap.size wr W → Calls Tryd.prog 20 #[.slice a0 ts.length cap] W fun e w' => e = .returned (.tuple #[.string (str R1.1), .int .i64 R1.2]) ∧ Below W.heap.size W w') := fun W hW => by
          rw [← hR1]; exact rJoin_any ts _ cap W ((HAT.out.below hBw).below hW) hlen HSL.out (fun W' hW' => HNUM.out W' (below_aft (below_aft hBw hW) hW'))
        have H21 : Hid (∀ W, Below wr.heap.size wr W → Calls Tryd.prog 21 #[.slice (some ⟨g, 0, none⟩) ts.length c] W fun e w' => e = .returned (.tuple #[.string (str R2.1), .int .i64 R2.2]) ∧ Below W.heap.size W w') := fun W hW => by
          rw [← hR2]; exact tight_any ts _ c W ((HOWN.out.below hB).below hW) hlen HSL.out (fun W' hW' => HNUM.out W' (below_aft (below_aft hBw hW) hW'))
        have H22 : Hid (∀ W, Below wr.heap.size wr W → Calls Tryd.prog 22 #[.slice a0 ts.length cap] W fun e w' => e = .returned (.tuple #[.string (str R2.1), .int .i64 R2.2]) ∧ Below W.heap.size W w') := fun W hW => by
          rw [← hR2]; exact rTight_any ts _ cap W ((HAT.out.below hBw).below hW) hlen HSL.out (fun W' hW' => HNUM.out W' (below_aft (below_aft hBw hW) hW'))
        have H12 : Hid (∀ W, Below wr.heap.size wr W → Calls Tryd.prog 12 #[.slice (some ⟨g, 0, none⟩) ts.length c, .slice a0 ts.length cap, .bool true] W fun e w' => e = .returned (.bool true) ∧ Below W.heap.size W w') := fun W hW =>
          sameTz_ok ts _ _ c cap W ((HOWN.out.below hB).below hW) ((HAT.out.below hBw).below hW) (by omega)
        have HC : Hid (∀ W, Below wr.heap.size wr W → W.cell? ⟨g, ts.length * 4 + 3, none⟩ = some (.string ⟨#[109, 97, 114, 107]⟩)) := fun W hW => ((below_aft hB hW).cell hgl).trans HMK.out
        obtain ⟨q1, q2, q3, q4⟩ := ba_eqs (str R1.1)
        obtain ⟨p1, p2, p3, p4⟩ := ba_eqs (str R2.1)
        have q5 : (R1.2 != R1.2) = false := by simp
        have p5 : (R2.2 == R2.2) = true := by simp
        have m1 : (0 : Int) ≤ (ts.length : Int) := by omega
        have m2 : (ts.length : Int) ≤ (c : Int) := by omega
        have m3 : (ts.length : Int) < (ts.length : Int) + 1 := by omega
        have m4 : (ts.length : Int) < ((ts.length + 1 : Nat) : Int) := by omega
        clear hR1 hR2 HOWN HAT HNUM HSL HMK
        generalize str R1.1 = s1 at *
        generalize str R2.1 = s2 at *
        generalize R1.2 = e1 at *
        generalize R2.2 = e2 at *
        go_wp2_with (first
          | (go_at_call 19; refine (H19.out _ (Below.refl _ _)).mono ?_; rintro e w3 ⟨rfl, hb3⟩)
          | (go_at_call 20; refine (H20.out _ hb3).mono ?_; rintro e w4 ⟨rfl, hb4⟩; have hb34 := below_aft hb3 hb4)
          | (go_at_call 21; refine (H21.out _ hb34).mono ?_; rintro e w5 ⟨rfl, hb5⟩; have hb35 := below_aft hb34 hb5)
          | (go_at_call 22; refine (H22.out _ hb35).mono ?_; rintro e w6 ⟨rfl, hb6⟩; have hb36 := below_aft hb35 hb6)
          | (go_at_call 12; refine (H12.out _ hb36).mono ?_; rintro e w7 ⟨rfl, hb7⟩; have hb37 := below_aft hb36 hb7; have hcm := HC.out _ hb37)
          | (go_at_call 9; refine (HA.out _).mono ?_; rintro e w8 ⟨rfl, hb8⟩))
        go_ret
        exact ⟨rfl, below_aft hBw (below_aft hb37 hb8)⟩
end Go.Proofs.YtpnamkpoapcgeaaDoor
