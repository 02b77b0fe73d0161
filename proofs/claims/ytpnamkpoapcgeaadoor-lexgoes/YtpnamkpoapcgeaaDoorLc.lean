import Derived.Test.YtpnamkpoapcgeaaDoorLb
import Derived.Deep.RegionHeld3
namespace Go.Proofs.YtpnamkpoapcgeaaDoor
open Go.RowKit Go.Shelf
set_option linter.unusedVariables false
set_option linter.unusedSimpArgs false

/-- The same, but for their places. -/
def tzSame (a b : Tz) : Bool := decide (a.k = b.k ∧ a.n = b.n ∧ a.s = b.s)
set_option maxRecDepth 100000 in
set_option maxHeartbeats 1000000 in
theorem same_any (a b : Tz) (w : World) :
    Calls Tryd.prog 69 #[tzV a, tzV b] w fun e w' => e = .returned (.bool (tzSame a b)) ∧ Below w.heap.size w w' := by
  obtain ⟨ak, ap, an, za⟩ := a
  obtain ⟨bk, bp, bn, zb⟩ := b
  have B0 : Below w.heap.size w (w.alloc (Tok ak ap an (str za))) := belA (Below.refl _ _)
  unfold tzSame
  dsimp only
  have A1 := (At.new w (Tok ak ap an (str za))).alloc (Tok bk bp bn (str zb))
  obtain ⟨c0, c1, c2, c3, cf⟩ := A1.tok
  go_enter Tryd.func69, Tryd.ntmps69
  go_wp2
  all_goals go_ret
  all_goals refine ⟨?_, belA (belA (Below.refl _ _))⟩
  all_goals (simp only [str_list] at *)
  all_goals (clear c0 c1 c2 c3 cf A1 B0)
  all_goals (simp_all)
theorem str_append (a b : List UInt8) : str a ++ str b = str (a ++ b) := by
  apply ByteArray.ext
  unfold str
  simp
/-- The tokens that Lex answers. -/
def lexToks (S : List UInt8) : List Tk := if S.length ≤ 65536 ∧ (∀ t ∈ pcs S.length S, t.k ≠ 0) then pcs S.length S else []
theorem lex_row (w : World) (S : List UInt8) (hm : S.length ≤ maxLen) :
    Calls Tryd.prog 10 #[.string (str S)] w fun e w' => ∃ (v : Value) (p er : Int), e = .returned (.tuple #[v, .int .i64 p, .int .i64 er]) ∧ TRow w' w.heap.size v (lexToks S) ∧ Below w.heap.size w w' := by
  by_cases hS : S.length ≤ 65536
  · refine (lex_any w S hS).mono ?_
    rintro e w' ⟨hb, ⟨v, rfl, hr, hz⟩ | ⟨p, t, rfl, hp, hk⟩⟩
    · refine ⟨v, 0, 0, rfl, ?_, hb⟩
      unfold lexToks
      rw [if_pos ⟨hS, hz⟩]
      exact hr
    · refine ⟨_, _, _, rfl, ?_, hb⟩
      unfold lexToks
      rw [if_neg (fun h => h.2 t (by rw [hp]; simp) hk)]
      exact World.ownsRow_nil _ _ _ _
  · refine (lex_long w S (by omega) hm).mono ?_
    rintro e w' ⟨rfl, hb⟩
    refine ⟨_, _, _, rfl, ?_, hb⟩
    unfold lexToks
    rw [if_neg (fun h => hS h.1)]
    exact World.ownsRow_nil _ _ _ _
def tkZ (t : Tk) : Tz := ⟨t.k, t.p, t.n, t.s⟩
theorem row_two {w : World} {B : Nat} {v : Value} {x y : Tk} (h : TRow w B v [x, y]) : ∃ g c, v = .slice (some ⟨g, 0, none⟩) 2 c ∧ B ≤ g ∧ g < w.heap.size ∧ 2 ≤ c ∧ (∀ j u, (tkCells [x, y])[j]? = some u → w.cell? ⟨g, j, none⟩ = some u) := by
  rcases h.2 with ⟨_, h0⟩ | ⟨g, cap, cur, rfl, hb, hg, hc, _, hcs, ht⟩
  · cases h0
  · refine ⟨g, cap, rfl, hb, (Array.getElem?_eq_some_iff.1 hg).1, hc, fun j u hu => ?_⟩
    rw [cell_of_row w g j cur 32 (0, 0) hg]
    rw [← ht, List.getElem?_take] at hu
    split at hu
    · simpa using hu
    · cases hu
set_option maxRecDepth 100000 in
set_option maxHeartbeats 2000000 in
theorem clash_two (a b : Tz) (x y : Tk) (w : World) (ha : a.s.length ≤ 140737488355328) (hb : b.s.length ≤ 140737488355328) (hTa : (tzText a).length ≤ 140737488355328) (hTb : (tzText b).length ≤ 140737488355328)
    (hna : ∀ W, Below w.heap.size w W → Num W a) (hnb : ∀ W, Below w.heap.size w W → Num W b) (hL : lexToks (tzText a ++ tzText b) = [x, y]) (hx : tzSame (tkZ x) a = true) :
    Calls Tryd.prog 41 #[tzV a, tzV b] w fun e w' => e = .returned (.bool (!(tzSame (tkZ y) b))) ∧ Below w.heap.size w w' := by
  obtain ⟨ak, ap, an, za⟩ := a
  obtain ⟨bk, bp, bn, zb⟩ := b
  have HTa : Hid (∀ W, Below w.heap.size w W → Calls Tryd.prog 34 #[tok ak ap an (str za)] W fun e w' => e = .returned (.string (str (tzText ⟨ak, ap, an, za⟩))) ∧ Below W.heap.size W w') := fun W hW => textOf_any ⟨ak, ap, an, za⟩ W ha (hna _ (hW.alloc hW.size _))
  have HTb : Hid (∀ W, Below w.heap.size w W → Calls Tryd.prog 34 #[tok bk bp bn (str zb)] W fun e w' => e = .returned (.string (str (tzText ⟨bk, bp, bn, zb⟩))) ∧ Below W.heap.size W w') := fun W hW => textOf_any ⟨bk, bp, bn, zb⟩ W hb (hnb _ (hW.alloc hW.size _))
  generalize tzText ⟨ak, ap, an, za⟩ = Ta at *
  generalize tzText ⟨bk, bp, bn, zb⟩ = Tb at *
  have HL : Hid (∀ W, Calls Tryd.prog 10 #[.string (str Ta ++ str Tb)] W fun e w' => ∃ (v : Value) (p er : Int), e = .returned (.tuple #[v, .int .i64 p, .int .i64 er]) ∧ TRow w' W.heap.size v [x, y] ∧ Below W.heap.size W w') := fun W => by
    rw [str_append, ← hL]; exact lex_row W _ (by rw [List.length_append]; unfold maxLen; omega)
  have hsa := str_size Ta
  have hsb := str_size Tb
  have hle : ¬ (9223372036854775807 < Ta.length + Tb.length) := by omega
  have A1 := (At.new w (Tok ak ap an (str za))).alloc (Tok bk bp bn (str zb))
  have A2 := at_snd w (Tok ak ap an (str za)) (Tok bk bp bn (str zb))
  have B0 : Below w.heap.size w ((w.alloc (Tok ak ap an (str za))).alloc (Tok bk bp bn (str zb))) := belA (belA (Below.refl _ _))
  obtain ⟨c0, c1, c2, c3, cf⟩ := A1.tok
  obtain ⟨d0, d1, d2, d3, df⟩ := A2.tok
  clear hL
  go_enter Tryd.func41, Tryd.ntmps41
  go_wp2
  generalize (w.alloc (Tok ak ap an (str za))).alloc (Tok bk bp bn (str zb)) = U at *
  have KS : Hid (∀ W', Below U.heap.size U W' → (fun W' => Below U.heap.size U W' ∧ W'.cell? ⟨w.heap.size, 0, none⟩ = some (.int .u8 ak) ∧ W'.cell? ⟨w.heap.size, 1, none⟩ = some (.int .i64 ap) ∧ W'.cell? ⟨w.heap.size, 2, none⟩ = some (.int .i64 an) ∧ W'.cell? ⟨w.heap.size, 3, none⟩ = some (.string (str za))
    ∧ W'.cell? ⟨w.heap.size + 1, 0, none⟩ = some (.int .u8 bk) ∧ W'.cell? ⟨w.heap.size + 1, 1, none⟩ = some (.int .i64 bp) ∧ W'.cell? ⟨w.heap.size + 1, 2, none⟩ = some (.int .i64 bn) ∧ W'.cell? ⟨w.heap.size + 1, 3, none⟩ = some (.string (str zb))) W') := fun W' h => by
    obtain ⟨e0, e1, e2, e3, _⟩ := (A1.below h).tok
    obtain ⟨g0, g1, g2, g3, _⟩ := (A2.below h).tok
    exact ⟨h, e0, e1, e2, e3, g0, g1, g2, g3⟩
  go_region_held3 (fun W' => Below U.heap.size U W' ∧ W'.cell? ⟨w.heap.size, 0, none⟩ = some (.int .u8 ak) ∧ W'.cell? ⟨w.heap.size, 1, none⟩ = some (.int .i64 ap) ∧ W'.cell? ⟨w.heap.size, 2, none⟩ = some (.int .i64 an) ∧ W'.cell? ⟨w.heap.size, 3, none⟩ = some (.string (str za))
    ∧ W'.cell? ⟨w.heap.size + 1, 0, none⟩ = some (.int .u8 bk) ∧ W'.cell? ⟨w.heap.size + 1, 1, none⟩ = some (.int .i64 bp) ∧ W'.cell? ⟨w.heap.size + 1, 2, none⟩ = some (.int .i64 bn) ∧ W'.cell? ⟨w.heap.size + 1, 3, none⟩ = some (.string (str zb)))
    (first | (exact KS.out _ (Below.refl _ _).drew) | (exact KS.out _ hbb) | go_keep)
    (first
      | (go_at_call 34; (with_reducible show Calls _ _ #[.agg #[.int .u8 ak, _, _, _]] _ _); refine (HTa.out _ (below_aft B0 (Below.refl _ _).drew)).mono ?_; rintro e w1 ⟨rfl, hb1⟩; have hbb : Below U.heap.size U w1 := (Below.refl _ _).drew.trans (hb1.mono (Nat.le_refl _)))
      | (go_at_call 34; (with_reducible show Calls _ _ #[.agg #[.int .u8 bk, _, _, _]] _ _); refine (HTb.out _ (below_aft B0 hbb)).mono ?_; rintro e w2 ⟨rfl, hb2⟩; replace hbb := below_aft hbb hb2)
      | (go_at_call 10; refine (HL.out _).mono ?_; rintro e w3 ⟨v, p, er, rfl, hrow, hb3⟩; have hW2 := hbb; replace hbb := below_aft hbb hb3))
  obtain ⟨g, cp, rfl, hg1, hg2, hcp, hcell⟩ := row_two hrow
  have HS1 : Hid (∀ W, Calls Tryd.prog 69 #[tok x.k x.p x.n (str x.s), tok ak ap an (str za)] W fun e w' => e = .returned (.bool true) ∧ Below W.heap.size W w') := fun W => by
    rw [← hx]; exact same_any (tkZ x) ⟨ak, ap, an, za⟩ W
  have HS2 : Hid (∀ W, Calls Tryd.prog 69 #[tok y.k y.p y.n (str y.s), tok bk bp bn (str zb)] W fun e w' => e = .returned (.bool (tzSame (tkZ y) ⟨bk, bp, bn, zb⟩)) ∧ Below W.heap.size W w') := fun W => same_any (tkZ y) ⟨bk, bp, bn, zb⟩ W
  obtain ⟨sm, hsm⟩ : ∃ sm, tzSame (tkZ y) ⟨bk, bp, bn, zb⟩ = sm := ⟨_, rfl⟩
  rw [hsm] at HS2
  have Hsm : Hid (tzSame (tkZ y) ⟨bk, bp, bn, zb⟩ = sm) := hsm
  clear hsm
  have BW : Below w.heap.size w w3 := below_aft B0 hbb
  replace A1 := A1.below hbb
  replace A2 := A2.below hbb
  have KS2 : Hid (∀ W', Below w3.heap.size w3 W' → (fun W' => Below w3.heap.size w3 W' ∧ W'.cell? ⟨w.heap.size, 0, none⟩ = some (.int .u8 ak) ∧ W'.cell? ⟨w.heap.size, 1, none⟩ = some (.int .i64 ap) ∧ W'.cell? ⟨w.heap.size, 2, none⟩ = some (.int .i64 an) ∧ W'.cell? ⟨w.heap.size, 3, none⟩ = some (.string (str za))
    ∧ W'.cell? ⟨w.heap.size + 1, 0, none⟩ = some (.int .u8 bk) ∧ W'.cell? ⟨w.heap.size + 1, 1, none⟩ = some (.int .i64 bp) ∧ W'.cell? ⟨w.heap.size + 1, 2, none⟩ = some (.int .i64 bn) ∧ W'.cell? ⟨w.heap.size + 1, 3, none⟩ = some (.string (str zb))
    ∧ W'.cell? ⟨g, 0, none⟩ = some (.int .u8 x.k) ∧ W'.cell? ⟨g, 1, none⟩ = some (.int .i64 x.p) ∧ W'.cell? ⟨g, 2, none⟩ = some (.int .i64 x.n) ∧ W'.cell? ⟨g, 3, none⟩ = some (.string (str x.s))
    ∧ W'.cell? ⟨g, 4, none⟩ = some (.int .u8 y.k) ∧ W'.cell? ⟨g, 5, none⟩ = some (.int .i64 y.p) ∧ W'.cell? ⟨g, 6, none⟩ = some (.int .i64 y.n) ∧ W'.cell? ⟨g, 7, none⟩ = some (.string (str y.s))) W') := fun W' h => by
    obtain ⟨e0, e1, e2, e3, _⟩ := (A1.below h).tok
    obtain ⟨g0, g1, g2, g3, _⟩ := (A2.below h).tok
    exact ⟨h, e0, e1, e2, e3, g0, g1, g2, g3, (h.cell hg2).trans (hcell 0 _ rfl), (h.cell hg2).trans (hcell 1 _ rfl), (h.cell hg2).trans (hcell 2 _ rfl), (h.cell hg2).trans (hcell 3 _ rfl), (h.cell hg2).trans (hcell 4 _ rfl), (h.cell hg2).trans (hcell 5 _ rfl), (h.cell hg2).trans (hcell 6 _ rfl), (h.cell hg2).trans (hcell 7 _ rfl)⟩
  clear hrow hcell KS HTa HTb HL c0 c1 c2 c3 cf d0 d1 d2 d3 df hb1 hb2 hb3 hW2 hbb B0 hna hnb
  go_wp2
  go_region_held3 (fun W' => Below w3.heap.size w3 W' ∧ W'.cell? ⟨w.heap.size, 0, none⟩ = some (.int .u8 ak) ∧ W'.cell? ⟨w.heap.size, 1, none⟩ = some (.int .i64 ap) ∧ W'.cell? ⟨w.heap.size, 2, none⟩ = some (.int .i64 an) ∧ W'.cell? ⟨w.heap.size, 3, none⟩ = some (.string (str za))
    ∧ W'.cell? ⟨w.heap.size + 1, 0, none⟩ = some (.int .u8 bk) ∧ W'.cell? ⟨w.heap.size + 1, 1, none⟩ = some (.int .i64 bp) ∧ W'.cell? ⟨w.heap.size + 1, 2, none⟩ = some (.int .i64 bn) ∧ W'.cell? ⟨w.heap.size + 1, 3, none⟩ = some (.string (str zb))
    ∧ W'.cell? ⟨g, 0, none⟩ = some (.int .u8 x.k) ∧ W'.cell? ⟨g, 1, none⟩ = some (.int .i64 x.p) ∧ W'.cell? ⟨g, 2, none⟩ = some (.int .i64 x.n) ∧ W'.cell? ⟨g, 3, none⟩ = some (.string (str x.s))
    ∧ W'.cell? ⟨g, 4, none⟩ = some (.int .u8 y.k) ∧ W'.cell? ⟨g, 5, none⟩ = some (.int .i64 y.p) ∧ W'.cell? ⟨g, 6, none⟩ = some (.int .i64 y.n) ∧ W'.cell? ⟨g, 7, none⟩ = some (.string (str y.s)))
    (first | (exact KS2.out _ (Below.refl _ _).drew) | (exact KS2.out _ hbb) | go_keep)
    (first
      | (go_at_call 69; (with_reducible show Calls _ _ #[_, .agg #[.int .u8 ak, _, _, _]] _ _); refine (HS1.out _).mono ?_; rintro e w4 ⟨rfl, hb4⟩; have hbb : Below w3.heap.size w3 w4 := (Below.refl _ _).drew.trans (hb4.mono (Nat.le_refl _)))
      | (go_at_call 69; (with_reducible show Calls _ _ #[_, .agg #[.int .u8 bk, _, _, _]] _ _); refine (HS2.out _).mono ?_; rintro e w5 ⟨rfl, hb5⟩; replace hbb := below_aft hbb hb5))
  go_wp2
  go_ret
  exact ⟨by rw [Hsm.out]; rfl, below_aft BW hbb⟩
end Go.Proofs.YtpnamkpoapcgeaaDoor
