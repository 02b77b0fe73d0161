import Derived.Test.YtpnamkpoapcgeaaDoorZf
namespace Go.Proofs.YtpnamkpoapcgeaaDoor
open Go.RowKit Go.Shelf
attribute [local go_sem] Oper.semAt_some
set_option linter.unusedVariables false
set_option linter.unusedSimpArgs false

theorem lexToks_len (S : List UInt8) : (lexToks S).length ≤ S.length := by
  unfold lexToks
  split
  · exact pcs_len _ _
  · simp
/-- lex.Lex and the document's Lex say the same of a text. -/
theorem lex_both (S : List UInt8) (hS : S.length ≤ 65536) : ∃ p er : Int,
    (∀ W, Calls Tryd.prog 10 #[.string (str S)] W fun e w' => ∃ v, e = .returned (.tuple #[v, .int .i64 p, .int .i64 er]) ∧ TRow w' W.heap.size v (lexToks S) ∧ Below W.heap.size W w') ∧
    (∀ W, Calls Tryd.prog 11 #[.string (str S)] W fun e w' => ∃ v, e = .returned (.tuple #[v, .int .i64 p, .int .i64 er]) ∧ TRow w' W.heap.size v (lexToks S) ∧ Below W.heap.size W w') := by
  have key : ∃ p er : Int, ∀ W e w', LexPost W S e w' → ∃ v, e = .returned (.tuple #[v, .int .i64 p, .int .i64 er]) ∧ TRow w' W.heap.size v (lexToks S) ∧ Below W.heap.size W w' := by
    by_cases hz : ∀ t ∈ pcs S.length S, t.k ≠ 0
    · refine ⟨0, 0, fun W e w' h => ?_⟩
      obtain ⟨hb, ⟨v, rfl, hr, -⟩ | ⟨p, t, rfl, hp, hk⟩⟩ := h
      · refine ⟨v, rfl, ?_, hb⟩
        unfold lexToks
        rw [if_pos ⟨hS, hz⟩]
        exact hr
      · exact absurd hk (hz t (by rw [hp]; simp))
    · by_cases hl : ∃ p t, pcs S.length S = p ++ [t] ∧ t.k = 0
      · obtain ⟨q, u, hq, hu⟩ := hl
        refine ⟨(u.p : Int), 20, fun W e w' h => ?_⟩
        obtain ⟨hb, ⟨v, rfl, hr, hz'⟩ | ⟨p, t, rfl, hp, hk⟩⟩ := h
        · exact absurd hz' hz
        · have e1 := (List.append_inj' (hq.symm.trans hp) rfl).2
          simp at e1
          subst e1
          refine ⟨_, rfl, ?_, hb⟩
          unfold lexToks
          rw [if_neg (fun h => hz h.2)]
          exact World.ownsRow_nil _ _ _ _
      · refine ⟨0, 0, fun W e w' h => ?_⟩
        obtain ⟨hb, ⟨v, rfl, hr, hz'⟩ | ⟨p, t, rfl, hp, hk⟩⟩ := h
        · exact absurd hz' hz
        · exact absurd ⟨p, t, hp, hk⟩ hl
  obtain ⟨p, er, h⟩ := key
  exact ⟨p, er, fun W => (lex_any W S hS).mono (fun e w' k => h W e w' k), fun W => (rlex_any W S hS).mono (fun e w' k => h W e w' k)⟩
/-- A row of tokens of one's own: what lies behind it. -/
theorem trow_raw {w : World} {B : Nat} {v : Value} {ts : List Tk} (h : TRow w B v ts) (hn : ts ≠ []) : ∃ g c cur, v = .slice (some ⟨g, 0, none⟩) ts.length c ∧ B ≤ g ∧ At w g (.cells cur 32 (0, 0)) ∧ ts.length * 4 ≤ cur.size := by
  rcases h.2 with ⟨rfl, h0⟩ | ⟨g, cap, cur, rfl, hb, hg, hc, _, hcs, ht⟩
  · exact absurd (List.length_eq_zero_iff.1 h0) hn
  · refine ⟨g, cap, cur, rfl, hb, hg, ?_⟩
    have h1 : (tkCells ts).length = ts.length * 4 := by
      clear ht h hcs hc hn
      induction ts with
      | nil => rfl
      | cons t r ih => simp [tkCells] at ih ⊢; omega
    have h2 := congrArg List.length ht
    rw [h1, List.length_take] at h2
    simp at h2
    omega
/-- A token in a row written over. -/
def setTokAt (w : World) (b o : Nat) (k p n : Int) (s : ByteArray) : World := (((w.setCell ⟨b, o, none⟩ (.int .u8 k)).setCell ⟨b, o + 1, none⟩ (.int .i64 p)).setCell ⟨b, o + 2, none⟩ (.int .i64 n)).setCell ⟨b, o + 3, none⟩ (.string s)
theorem setTokAt_heap (w : World) (b o c : Nat) (k p n : Int) (s : ByteArray) (h : c ≠ b) : (setTokAt w b o k p n s).heap[c]? = w.heap[c]? :=
  (Below.heap_setCell _ _ _ c h).trans ((Below.heap_setCell _ _ _ c h).trans ((Below.heap_setCell _ _ _ c h).trans (Below.heap_setCell _ _ _ c h)))
theorem setTokAt_below {B : Nat} {w0 w : World} (h : Below B w0 w) {b : Nat} (hb : B ≤ b) (o : Nat) (k p n : Int) (s : ByteArray) : Below B w0 (setTokAt w b o k p n s) := (((h.setCell hb _).setCell hb _).setCell hb _).setCell hb _
theorem setTokAt_size (w : World) (b o : Nat) (k p n : Int) (s : ByteArray) : (setTokAt w b o k p n s).heap.size = w.heap.size := by simp [setTokAt]
theorem setTokAt_row {w : World} {b : Nat} {cur : Array Value} (h : At w b (.cells cur 32 (0, 0))) (o : Nat) (k p n : Int) (s : ByteArray) : ∃ cur', At (setTokAt w b o k p n s) b (.cells cur' 32 (0, 0)) ∧ cur'.size = cur.size := by
  unfold At setTokAt at *
  have h1 := heap_setCell_same w b o _ 32 (.int .u8 k) h
  have h2 := heap_setCell_same _ b (o + 1) _ 32 (.int .i64 p) h1
  have h3 := heap_setCell_same _ b (o + 2) _ 32 (.int .i64 n) h2
  have h4 := heap_setCell_same _ b (o + 3) _ 32 (.string s) h3
  exact ⟨_, h4, by simp⟩
theorem row_cells {w : World} {b : Nat} {cur : Array Value} (h : At w b (.cells cur 32 (0, 0))) (o : Nat) (ho : o < cur.size) : (w.cell? ⟨b, o, none⟩ = some cur[o]) ∧ w.frozen? ⟨b, o, none⟩ = false := by
  refine ⟨?_, frozen_of_row w b o _ 32 h⟩
  rw [cell_of_row w b o cur 32 (0, 0) h]
  simp [ho]
theorem eql_func (gf : Nat) (lb : Array Value) (w : World) : (binOp .eql 34 (.func (.func gf) #[] lb) .nilFunc).run Tryd.prog w = .ok (.bool false) w := by
  kernel_rfl
theorem tat_off {A B : World} {a : Option Addr} {ts : List Tk} {g : Nat} (h : TAt A a ts) (hk : ∀ b, b ≠ g → B.heap[b]? = A.heap[b]?) (ha : ∀ g', a.map (·.block) = some g' → g' ≠ g) : TAt B a ts := fun hn => by
  obtain ⟨g', rfl, hr⟩ := h hn
  have hg : B.heap[g']? = A.heap[g']? := hk g' (ha g' rfl)
  exact tat_two (x := g') h ⟨hg, hg⟩ hn

end Go.Proofs.YtpnamkpoapcgeaaDoor
