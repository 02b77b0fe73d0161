import Derived.Test.YtpnamkpoapcgeaaDoorZc
namespace Go.Proofs.YtpnamkpoapcgeaaDoor
open Go.RowKit Go.Shelf
attribute [local go_sem] Oper.semAt_some
set_option linter.unusedVariables false
set_option linter.unusedSimpArgs false

theorem tk_ext {a b : Tk} (h1 : a.k = b.k) (h2 : a.p = b.p) (h3 : a.n = b.n) (h4 : a.s = b.s) : a = b := by
  cases a; cases b
  simp only at *
  subst h1 h2 h3 h4
  rfl
theorem str_inj {a b : List UInt8} (h : (str a == str b) = true) : a = b := by
  have h' : ((str a).data == (str b).data) = true := h
  have := congrArg Array.toList (eq_of_beq h')
  exact this
set_option maxRecDepth 100000 in
set_option maxHeartbeats 4000000 in
/-- Two tokens that are the same are not told apart. -/
theorem neq_same (t : Tk) (w : World) : (binOp .neq 32 (tkV t) (tkV t)).run Tryd.prog w = .ok (.bool false) w := by
  simp only [binOp, Op.equal]
  rw [show Op.maxDepth = (Op.maxDepth - 2) + 1 + 1 from rfl]
  simp [Op.equalIn, run_underlying Tryd.underlying32, run_underlying Tryd.underlying30, run_underlying Tryd.underlying3, run_underlying Tryd.underlying2, run_underlying Tryd.underlying9, go_sem]
  show ((str t.s).data == (str t.s).data) = true
  exact beq_self_eq_true _
set_option maxRecDepth 100000 in
set_option maxHeartbeats 8000000 in
/-- Two that are not are. -/
theorem neq_other (x t : Tk) (h : x ≠ t) (w : World) : (binOp .neq 32 (tkV x) (tkV t)).run Tryd.prog w = .ok (.bool true) w := by
  simp only [binOp, Op.equal]
  rw [show Op.maxDepth = (Op.maxDepth - 2) + 1 + 1 from rfl]
  simp [Op.equalIn, run_underlying Tryd.underlying32, run_underlying Tryd.underlying30, run_underlying Tryd.underlying3, run_underlying Tryd.underlying2, run_underlying Tryd.underlying9, go_sem]
  intro h1 h2 h3
  cases hb : (str x.s == str t.s)
  · rfl
  · exact absurd (tk_ext (by omega) (by omega) (by omega) (str_inj hb)) h
end Go.Proofs.YtpnamkpoapcgeaaDoor
