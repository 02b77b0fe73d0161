import Derived.Test.YtnohcppipkpgmaaDoorE
import Derived.Test.YtnohcppipkpgmaaDoorH
import Derived.OwnWalk
namespace Go.Proofs.YtnohcppipkpgmaaDoor
open Go.RowKit
set_option linter.unusedVariables false
set_option linter.unusedSimpArgs false

theorem hidD {p : Prop} (h : p) : Hid p := h
/-- Fields in memory: their types. -/
def FdAt (w : World) (fa : Option Addr) (fs : List Ty) : Prop := fs.length ≤ maxLen ∧ (fs ≠ [] → ∃ g off, fa = some ⟨g, off, none⟩ ∧ ∀ k t, fs[k]? = some t → ∃ (V : Fv) (nm : ByteArray), w.cell? ⟨g, off + k * 6, none⟩ = some (.string nm) ∧ C5 w g (off + k * 6 + 1) V ∧ TyAt w V t)
theorem FdAt.bel {w w' : World} {fa : Option Addr} {fs : List Ty} (h : FdAt w fa fs) (hb : Below w.heap.size w w') : FdAt w' fa fs :=
  ⟨h.1, fun hne => by
    obtain ⟨g, off, e, hk⟩ := h.2 hne
    refine ⟨g, off, e, fun k t ht => ?_⟩
    obtain ⟨V, nm, h0, h1, h2⟩ := hk k t ht
    exact ⟨V, nm, (hb.cell (p := ⟨g, off + k * 6, none⟩) h1.1).trans h0, h1.below hb, h2.bel hb⟩⟩
/-- Structs in memory: their fields' types. -/
structure StAt (w : World) (a : Option Addr) (n cap : Nat) (ss : List (List Ty)) : Prop where
  len : n = ss.length
  big : n ≤ maxLen
  cells : ss ≠ [] → ∃ g off, a = some ⟨g, off, none⟩ ∧ g < w.heap.size ∧ ∀ i fs, ss[i]? = some fs → ∃ fa fcap, w.cell? ⟨g, off + i * 2 + 1, none⟩ = some (.slice fa fs.length fcap) ∧ FdAt w fa fs
theorem StAt.bel {w w' : World} {a : Option Addr} {n cap : Nat} {ss : List (List Ty)} (h : StAt w a n cap ss) (hb : Below w.heap.size w w') : StAt w' a n cap ss :=
  ⟨h.len, h.big, fun hne => by
    obtain ⟨g, off, e, hg, hk⟩ := h.cells hne
    refine ⟨g, off, e, Nat.lt_of_lt_of_le hg hb.size, fun i fs hi => ?_⟩
    obtain ⟨fa, fcap, h1, h2⟩ := hk i fs hi
    exact ⟨fa, fcap, (hb.cell (p := ⟨g, off + i * 2 + 1, none⟩) hg).trans h1, h2.bel hb⟩⟩
/-- One struct of them. -/
theorem StAt.one {w : World} {a : Option Addr} {n cap : Nat} {ss : List (List Ty)} (h : StAt w a n cap ss) {i : Nat} {fs : List Ty} (hi : ss[i]? = some fs) : ∃ g off fa fcap, a = some ⟨g, off, none⟩ ∧ g < w.heap.size ∧ w.cell? ⟨g, off + i * 2 + 1, none⟩ = some (.slice fa fs.length fcap) ∧ FdAt w fa fs := by
  obtain ⟨g, off, e, hg, hk⟩ := h.cells (fun e => by subst e; simp at hi)
  obtain ⟨fa, fcap, h1, h2⟩ := hk i fs hi
  exact ⟨g, off, fa, fcap, e, hg, h1, h2⟩
end Go.Proofs.YtnohcppipkpgmaaDoor
