import Derived.Test.YtpnamkpoapcgeaaDoorZa
import Derived.Test.YtpnamkpoapcgeaaDoorLd
namespace Go.Proofs.YtpnamkpoapcgeaaDoor
open Go.RowKit Go.Shelf
set_option linter.unusedVariables false
set_option linter.unusedSimpArgs false

/-- Tokens behind a slice's address. -/
def TAt (w : World) (a : Option Addr) (ts : List Tk) : Prop := ts ≠ [] → ∃ g, a = some ⟨g, 0, none⟩ ∧ ZRow w g 0 (ts.map tkZ)
theorem TAt.below {w w' : World} {a : Option Addr} {ts : List Tk} (h : TAt w a ts) (hb : Below w.heap.size w w') : TAt w' a ts := fun hn => by
  obtain ⟨g, e, hr⟩ := h hn
  exact ⟨g, e, hr.below hb⟩
theorem tkCells_at : ∀ (ts : List Tk) (i : Nat) (t : Tk), ts[i]? = some t → (tkCells ts)[i * 4]? = some (.int .u8 (t.k : Int)) ∧ (tkCells ts)[i * 4 + 1]? = some (.int .i64 (t.p : Int)) ∧ (tkCells ts)[i * 4 + 2]? = some (.int .i64 (t.n : Int)) ∧ (tkCells ts)[i * 4 + 3]? = some (.string (str t.s))
  | [], i, t, h => by simp at h
  | a :: r, 0, t, h => by
    simp at h
    subst h
    exact ⟨rfl, rfl, rfl, rfl⟩
  | a :: r, i + 1, t, h => by
    have ih := tkCells_at r i t (by simpa using h)
    have e : tkCells (a :: r) = [.int .u8 (a.k : Int), .int .i64 (a.p : Int), .int .i64 (a.n : Int), .string (str a.s)] ++ tkCells r := rfl
    have go : ∀ j, ((Value.int .u8 (a.k : Int)) :: .int .i64 (a.p : Int) :: .int .i64 (a.n : Int) :: .string (str a.s) :: tkCells r)[j + 4]? = (tkCells r)[j]? := fun j => rfl
    refine ⟨?_, ?_, ?_, ?_⟩
    · rw [show (i + 1) * 4 = i * 4 + 4 by omega]; exact (go _).trans ih.1
    · rw [show (i + 1) * 4 + 1 = i * 4 + 1 + 4 by omega]; exact (go _).trans ih.2.1
    · rw [show (i + 1) * 4 + 2 = i * 4 + 2 + 4 by omega]; exact (go _).trans ih.2.2.1
    · rw [show (i + 1) * 4 + 3 = i * 4 + 3 + 4 by omega]; exact (go _).trans ih.2.2.2
/-- A row of tokens of one's own, as it is read. -/
theorem trow_at {w : World} {B : Nat} {v : Value} {ts : List Tk} (h : TRow w B v ts) : ∃ a c, v = .slice a ts.length c ∧ TAt w a ts ∧ (∀ g, a.map (·.block) = some g → B ≤ g ∧ g < w.heap.size) := by
  rcases h.2 with ⟨rfl, h0⟩ | ⟨g, cap, cur, rfl, hb, hg, hc, _, hcs, ht⟩
  · have hts : ts = [] := List.length_eq_zero_iff.1 h0
    subst hts
    exact ⟨none, 0, rfl, fun hn => absurd rfl hn, fun g e => by cases e⟩
  · have hlt := (Array.getElem?_eq_some_iff.1 hg).1
    refine ⟨some ⟨g, 0, none⟩, cap, rfl, fun _ => ⟨g, rfl, fun i t hi => ?_⟩, fun g' e => by simp at e; subst e; exact ⟨hb, hlt⟩⟩
    have key : ∀ (j : Nat) (u : Value), (tkCells ts)[j]? = some u → w.cell? ⟨g, j, none⟩ = some u := by
      intro j u hu
      rw [cell_of_row w g j cur 32 (0, 0) hg]
      rw [← ht, List.getElem?_take] at hu
      split at hu
      · simpa using hu
      · cases hu
    rw [List.getElem?_map] at hi
    cases hti : ts[i]? with
    | none => rw [hti] at hi; cases hi
    | some t' =>
      rw [hti] at hi
      cases hi
      obtain ⟨e0, e1, e2, e3⟩ := tkCells_at ts i t' hti
      simp only [Nat.zero_add]
      exact ⟨hlt, key _ _ e0, key _ _ e1, key _ _ e2, key _ _ e3⟩
set_option maxRecDepth 100000 in
set_option maxHeartbeats 2000000 in
theorem sameTokens_ok (ts : List Tk) (a b : Option Addr) (ca cb : Nat) (w : World) (ha : TAt w a ts) (hb : TAt w b ts) (hn : ts.length ≤ 65536) :
    Calls Tryd.prog 12 #[.slice a ts.length ca, .slice b ts.length cb, .bool true] w fun e w' => e = .returned (.bool true) ∧ Below w.heap.size w w' := by
  go_enter Tryd.func12, Tryd.ntmps12
  go_wp2
  go_loopw [7] (fun i W => ∃ k : Nat, k ≤ ts.length ∧ i = .int .i64 k ∧ Below w.heap.size w W) (fun i _ => ts.length - (intOf i).toNat)
  case atStart => exact ⟨0, Nat.zero_le _, rfl, Below.refl _ _⟩
  case round =>
    obtain ⟨k, hk, rfl, hB⟩ := hrel
    by_cases hlt : k < ts.length
    · have hne : ts ≠ [] := by rintro rfl; simp at hlt
      obtain ⟨g1, rfl, hr1⟩ := (ha.below hB) hne
      obtain ⟨g2, rfl, hr2⟩ := (hb.below hB) hne
      obtain ⟨t, ht⟩ : ∃ t, ts[k]? = some t := ⟨_, List.getElem?_eq_getElem hlt⟩
      have hz : (ts.map tkZ)[k]? = some (tkZ t) := by rw [List.getElem?_map, ht]; rfl
      have D1 := hr1.below (belA (Below.refl _ wr) (o := Tok t.k t.p t.n (str t.s)))
      have D2 := hr2.below (belA (Below.refl _ wr) (o := Tok t.k t.p t.n (str t.s)))
      obtain ⟨_, c0, c1, c2, c3⟩ := hr1 k _ hz
      obtain ⟨_, d0, d1, d2, d3⟩ := D2 k _ hz
      simp only [Nat.zero_add, tkZ] at c0 c1 c2 c3 d0 d1 d2 d3
      have X0 := At.new wr (Tok t.k t.p t.n (str t.s))
      obtain ⟨x0, x1, x2, x3, xf⟩ := X0.tok
      have g1' : (0 : Int) ≤ (k : Int) := by omega
      have g2' : (k : Int) < (ts.length : Int) := by omega
      have w3 : IntKind.i64.wrap ((k : Int) + 1) = (k : Int) + 1 := by rw [IntKind.wrap_i64]; omega
      have hB2 := belA hB (o := Tok t.k t.p t.n (str t.s))
      clear hr1 hr2 D1 D2 ht hz ha hb
      go_wp2
      go_quiet (fail)
      go_wp2
      exact ⟨⟨k + 1, by omega, by go_num, below_drewN hB2 _⟩, by simp [intOf]; omega⟩
    · obtain rfl : k = ts.length := by omega
      go_wp2
      go_ret
      exact ⟨rfl, hB⟩
end Go.Proofs.YtpnamkpoapcgeaaDoor
