import Derived.Test.YtahdnfogdnondaaGreatDoorTlo
import Derived.Test.YtahdnfogdnondaaGreatDoorZl
import Derived.Deep.Cut
namespace Go.Proofs.YtahdnfogdnondaaGreatDoor
open Go.RowKit Go.Shelf
set_option linter.unusedVariables false
set_option linter.unusedSimpArgs false

theorem lvl_pos (x : Nx) : 1 ≤ lvlN x := by
  unfold lvlN lvlS
  repeat' split
  all_goals omega
theorem TM.bel {w w' : World} {a : Option Addr} {T : List Nd} (h : TM w a T) (hb : Below w.heap.size w w') : TM w' a T := ⟨h.t.below hb, h.n, h.s, h.i⟩
/-- whole tells the text of the tree. -/
theorem whole_root {w : World} {x : Nx} {c : Fo} {T : List Nd} (hTe : T = (Fo.cons x c .nil).flat 0) (hall : (Fo.cons x c .nil).all okP = true) (hx : kExpr x.k = true) {a : Option Addr} (hM : TM w a T) (cap : Nat) (hTab : TabOk w) (hwt : wtF (Fo.cons x c .nil) ≤ 9000000) : TxC 35 w T a cap 0 (bareN x (txs c)) := by
  have hK := kids_any (lib_of hTab) hM (cap := cap) (Fo.cons x c .nil) 0 (by subst hTe; exact whole_seg x c) hall (fun k hk => by
    simp [Fo.kinds] at hk
    subst hk
    unfold kX
    rw [hx]
    rfl) hwt 0 (lvlN x, bareN x (txs c)) rfl
  obtain ⟨q, d, h1, h2, h3, h4⟩ := hK
  simp [Fo.starts] at h1
  have h1' : q = 0 := by omega
  subst h1'
  simp [Fo.kinds] at h3
  have hne : d.x.k ≠ 35 := by rw [← h3]; exact kexpr_ne hx
  have := LvC.tx h4 hM h2 hne
  rwa [show brk (lvlN x, bareN x (txs c)) 1 = bareN x (txs c) by unfold brk; rw [if_neg (by have := lvl_pos x; simp; omega)]] at this
set_option maxRecDepth 100000 in
set_option maxHeartbeats 4000000 in
/-- Expr, of a tree that may be and is an expression. -/
theorem expr_yes {w : World} {x : Nx} {c : Fo} {T : List Nd} (hTe : T = (Fo.cons x c .nil).flat 0) (hMay : Mayb okP T) (hall : (Fo.cons x c .nil).all okP = true) (hx : kExpr x.k = true) {a : Option Addr} (hM : TM w a T) (hS : Sm T) (cap : Nat) (hTab : TabOk w) (hwt : wtF (Fo.cons x c .nil) ≤ 9000000) (hle : (bareN x (txs c)).length ≤ 10000000) :
    Calls Tryz.prog 10 #[trV a T.length cap] w fun e w' => e = .returned (.tuple #[.string (if (bareN x (txs c)).length ≤ 65536 then str (bareN x (txs c)) else ⟨#[]⟩), .int .i64 (if (bareN x (txs c)).length ≤ 65536 then 0 else 3)]) ∧ Below w.heap.size w w' := by
  have A1 := At.new w (Tro a T.length cap)
  have hB1 : Below w.heap.size w (w.alloc (Tro a T.length cap)) := belA (Below.refl _ _)
  have hd : T[0]? = some ⟨x, c.starts 1⟩ := by rw [hTe]; rfl
  have HR := hidD (rooted_yes (cap := cap) (hM.t.below hB1) hS hMay 34 (.inl rfl) hd true (fun W => by have := pExpr_any x.k W; rwa [hx] at this))
  have HW := hidD (whole_root hTe hall hx hM cap hTab hwt)
  have HBD := hidD (fun W => bounded_any (bareN x (txs c)) (by omega) W)
  obtain ⟨sb, hsb⟩ : ∃ sb, sb = str (bareN x (txs c)) := ⟨_, rfl⟩
  obtain ⟨r1, hr1⟩ : ∃ r, r = (if (bareN x (txs c)).length ≤ 65536 then str (bareN x (txs c)) else ⟨#[]⟩) := ⟨_, rfl⟩
  obtain ⟨r2, hr2⟩ : ∃ r : Int, r = (if (bareN x (txs c)).length ≤ 65536 then 0 else 3) := ⟨_, rfl⟩
  unfold TxC at HW
  rw [← hr1, ← hr2, ← hsb] at HBD
  rw [← hsb] at HW
  rw [← hr1, ← hr2]
  have HA := hidD A1
  obtain ⟨c0, f0⟩ := A1.one
  clear hTe hMay hall hx hM hS hTab hwt hle hd hsb hr1 hr2
  go_enter Tryz.func10, Tryz.ntmps10
  go_wp2_with (first
    | (go_at_call 27; refine HR.out.mono ?_; rintro e w1 ⟨rfl, hb1⟩; have HB2 := hidD (below1 hb1); obtain ⟨d0, e0⟩ := (HA.out.below hb1).one; clear hb1)
    | (go_at_call 35; refine (HW.out _ HB2.out).mono ?_; rintro e w2 ⟨rfl, hb2⟩)
    | (go_at_call 32; refine (HBD.out _).mono ?_; rintro e w3 ⟨rfl, hb3⟩))
  go_ret2
  exact ⟨rfl, below_aft HB2.out (below_aft hb2 hb3)⟩
set_option maxRecDepth 100000 in
set_option maxHeartbeats 4000000 in
/-- Expr, where rooted says no. -/
theorem expr_of {w : World} {T : List Nd} {a : Option Addr} (cap : Nat) (hR : ∀ W, Below w.heap.size w W → Calls Tryz.prog 27 #[trV a T.length cap, .func (.func 34) #[] #[]] W fun e w' => e = .returned (.bool false) ∧ Below W.heap.size W w') :
    Calls Tryz.prog 10 #[trV a T.length cap] w fun e w' => e = .returned (.tuple #[.string ⟨#[]⟩, .int .i64 2]) ∧ Below w.heap.size w w' := by
  have A1 := At.new w (Tro a T.length cap)
  have hB1 : Below w.heap.size w (w.alloc (Tro a T.length cap)) := belA (Below.refl _ _)
  have HR := hidD (hR _ hB1)
  obtain ⟨c0, f0⟩ := A1.one
  clear hR
  go_enter Tryz.func10, Tryz.ntmps10
  go_wp2_with (go_at_call 27; refine HR.out.mono ?_; rintro e w1 ⟨rfl, hb1⟩)
  go_ret2
  exact ⟨rfl, below1 hb1⟩
theorem expr_no {w : World} {T : List Nd} {a : Option Addr} (cap : Nat) (hT : TAt w a T) (hS : Sm T) (h : ¬ Mayb okP T ∨ Mayb okP T ∧ ∃ d, T[0]? = some d ∧ kExpr d.x.k = false) :
    Calls Tryz.prog 10 #[trV a T.length cap] w fun e w' => e = .returned (.tuple #[.string ⟨#[]⟩, .int .i64 2]) ∧ Below w.heap.size w w' := by
  refine expr_of cap (fun W hW => ?_)
  rcases h with h | ⟨h, d, hd, hk⟩
  · exact rooted_no (hT.below hW) hS h _
  · exact rooted_yes (hT.below hW) hS h 34 (.inl rfl) hd false (fun W => by have := pExpr_any d.x.k W; rwa [hk] at this)
end Go.Proofs.YtahdnfogdnondaaGreatDoor
namespace Go.Proofs.YtahdnfogdnondaaGreatDoor
open Go.RowKit Go.Shelf
set_option linter.unusedVariables false
set_option linter.unusedSimpArgs false

theorem wt_le : ∀ (f : Fo) (o : Nat), (∀ d ∈ f.flat o, d.x.s.length ≤ 100) → wtF f ≤ f.size * 148
  | .nil, _, _ => by simp [wtF, Fo.size]
  | .cons x c r, o, h => by
    have h1 := wt_le c (o + 1) (fun d hd => h d (by simp [Fo.flat, hd]))
    have h2 := wt_le r (o + 1 + c.size) (fun d hd => h d (by simp [Fo.flat, hd]))
    have h3 := h ⟨x, Fo.starts (o + 1) c⟩ (by simp [Fo.flat])
    replace h3 : x.s.length ≤ 100 := h3
    rw [wtF, Fo.size]
    omega
/-- What is asked of a node by the statement. -/
def Nb (x : Nx) : Prop := x.s.length ≤ 100 ∧ -9223372036854775808 ≤ x.n ∧ x.n ≤ 9223372036854775807
/-- A tree of the statement: one that may be, small. -/
structure Sq (T : List Nd) (n : Nat) (x : Nx) (c : Fo) : Prop where
  tw : Tw T n x c
  nb : ∀ d ∈ T, Nb d.x
theorem Sq.part {T : List Nd} {n : Nat} {x : Nx} {c : Fo} (h : Sq T n x c) {k : Nat} (hk : k < n) : ∃ y e, (Fo.cons x c .nil).sub k = some (y, e) ∧ Sq ((Fo.cons y e .nil).flat 0) (1 + e.size) y e := by
  obtain ⟨y, e, h1, h2, h3, h4⟩ := h.tw.part hk
  obtain ⟨y', e', d, hP⟩ := part_of h.tw.e h.tw.ok (n := k) (by rw [h.tw.ln]; exact hk)
  have h5 := hP.sub
  rw [h1] at h5
  cases h5
  refine ⟨y, e, h1, h2, xs_flat _ Nb (0 + k) 0 (fun d hd => ?_)⟩
  rw [← hP.seg] at hd
  exact h.nb d (List.mem_of_mem_drop (List.mem_of_mem_take hd))
theorem Sq.tm {T : List Nd} {n : Nat} {x : Nx} {c : Fo} (h : Sq T n x c) {w : World} {a : Option Addr} (hT : TAt w a T) : TM w a T :=
  ⟨hT, by have := h.tw.le; rw [h.tw.ln]; omega, fun d hd => by have := (h.nb d hd).1; omega, fun d hd => (h.nb d hd).2⟩
theorem Sq.wt {T : List Nd} {n : Nat} {x : Nx} {c : Fo} (h : Sq T n x c) : wtF (Fo.cons x c .nil) ≤ 9000000 := by
  have h1 := wt_le (Fo.cons x c .nil) 0 (fun d hd => (h.nb d (by rw [h.tw.e]; exact hd)).1)
  have h2 := h.tw.l
  have h3 := h.tw.le
  have h4 : (Fo.cons x c .nil).size = n := by rw [h2]; simp [Fo.size]
  rw [h4] at h1
  omega
theorem Sq.len {T : List Nd} {n : Nat} {x : Nx} {c : Fo} (h : Sq T n x c) : (bareN x (txs c)).length ≤ 9000000 := by
  have h1 := txs_le (f := Fo.cons x c .nil) (o := 0) (fun d hd => (h.nb d (by rw [h.tw.e]; exact hd)).2) (i := 0) (t := (lvlN x, bareN x (txs c))) rfl
  have h2 := h.wt
  have h3 : (bareN x (txs c)).length + 4 ≤ wtF (Fo.cons x c .nil) := h1
  omega
/-- Expr of such a tree. -/
theorem Sq.expr {T : List Nd} {n : Nat} {x : Nx} {c : Fo} (h : Sq T n x c) (hx : kExpr x.k = true) {w : World} {a : Option Addr} (cap : Nat) (hT : TAt w a T) (hTab : TabOk w) :
    Calls Tryz.prog 10 #[trV a n cap] w fun e w' => e = .returned (.tuple #[.string (if (bareN x (txs c)).length ≤ 65536 then str (bareN x (txs c)) else ⟨#[]⟩), .int .i64 (if (bareN x (txs c)).length ≤ 65536 then 0 else 3)]) ∧ Below w.heap.size w w' := by
  have := expr_yes h.tw.e h.tw.may h.tw.ok hx (h.tm hT) h.tw.sm cap hTab h.wt (by have := h.len; omega)
  rw [h.tw.ln] at this
  exact this
theorem Sq.root {T : List Nd} {n : Nat} {x : Nx} {c : Fo} (h : Sq T n x c) : ∃ d, T[0]? = some d ∧ d.x = x := ⟨⟨x, c.starts 1⟩, by rw [h.tw.e]; rfl, rfl⟩
theorem Sq.expr_no {T : List Nd} {n : Nat} {x : Nx} {c : Fo} (h : Sq T n x c) (hx : kExpr x.k = false) {w : World} {a : Option Addr} (cap : Nat) (hT : TAt w a T) :
    Calls Tryz.prog 10 #[trV a n cap] w fun e w' => e = .returned (.tuple #[.string ⟨#[]⟩, .int .i64 2]) ∧ Below w.heap.size w w' := by
  obtain ⟨d, h1, h2⟩ := h.root
  have := Go.Proofs.YtahdnfogdnondaaGreatDoor.expr_no cap hT h.tw.sm (.inr ⟨h.tw.may, d, h1, by rw [h2]; exact hx⟩)
  rw [h.tw.ln] at this
  exact this
/-- A part of an expression: its kind; its text stands in the whole's. -/
theorem Sq.sbs {T : List Nd} {n : Nat} {x : Nx} {c : Fo} (h : Sq T n x c) (hx : kExpr x.k = true) {k : Nat} {y : Nx} {e : Fo} (hs : (Fo.cons x c .nil).sub k = some (y, e)) : (kExpr y.k = true ∨ y.k = 35) ∧ Sbs (bareN y (txs e)) (bareN x (txs c)) := by
  obtain ⟨h1, i, t, h2, h3⟩ := sbs_sub (Fo.cons x c .nil) h.tw.ok (fun k hk => by
    simp [Fo.kinds] at hk
    subst hk
    unfold kX
    rw [hx]
    rfl) k y e hs
  refine ⟨?_, ?_⟩
  · unfold kX at h1
    simp at h1
    exact h1
  · have hi := (List.getElem?_eq_some_iff.1 h2).1
    simp [txs] at hi
    subst hi
    simp [txs] at h2
    subst h2
    exact h3
theorem nd_sub {T : List Nd} {n : Nat} {x : Nx} {c : Fo} (h : Sq T n x c) {k : Nat} {y : Nx} {e : Fo} (hk : k < n) (hs : (Fo.cons x c .nil).sub k = some (y, e)) : ∃ d, T[k]? = some d ∧ d.x = y := by
  obtain ⟨y', e', d, hP⟩ := part_of h.tw.e h.tw.ok (n := k) (by rw [h.tw.ln]; exact hk)
  have h5 := hP.sub
  rw [hs] at h5
  cases h5
  have hseg := hP.seg
  have h6 := congrArg (·[0]?) hseg
  simp [Fo.flat, List.getElem?_take, List.getElem?_drop] at h6
  exact ⟨_, h6.2, rfl⟩
end Go.Proofs.YtahdnfogdnondaaGreatDoor
namespace Go.Proofs.YtahdnfogdnondaaGreatDoor
open Go.RowKit Go.Shelf
set_option linter.unusedVariables false
set_option linter.unusedSimpArgs false

/-- The law's own calls of what is fixed. -/
def AwC (w : World) : Prop := ∀ W, Below w.heap.size w W → Calls Tryz.prog 7 #[] W fun e w' => e = .returned (.bool true) ∧ Below W.heap.size W w'
set_option maxRecDepth 100000 in
set_option maxHeartbeats 4000000 in
/-- PrintParts, where the tree is too great. -/
theorem pp_big {w : World} {T : List Nd} {n : Nat} (hn : T.length = n) {a : Option Addr} (cap : Nat) (hT : TAt w a T) (hL : Lg T) (hF : ¬ Fit5 T) (hA : AwC w) :
    Calls Tryz.prog 5 #[trV a n cap] w fun e w' => e = .returned (.bool true) ∧ Below w.heap.size w w' := by
  have hB1 : Below w.heap.size w (w.alloc (Tro a n cap)) := belA (Below.refl _ _)
  have A1 := At.new w (Tro a n cap)
  obtain ⟨c0, f0⟩ := A1.one
  have HF := hidD (fits5_any T n hn false (by simp; exact hF) a cap _ (hT.below hB1) hL)
  have HA := hidD hA
  have HB := hidD hB1
  clear hn hT hL hF hA A1 hB1
  go_enter Tryz.func5, Tryz.ntmps5
  go_wp2_with (first
    | (go_at_call 6; refine HF.out.mono ?_; rintro e w1 ⟨rfl, hb1⟩)
    | (go_at_call 7; refine (HA.out _ (below_aft HB.out hb1)).mono ?_; rintro e w2 ⟨rfl, hb2⟩))
  go_ret
  exact ⟨rfl, below_aft HB.out (below_aft hb1 hb2)⟩
set_option maxRecDepth 100000 in
set_option maxHeartbeats 4000000 in
/-- PrintParts, where the tree may not be. -/
theorem pp_no {w : World} {T : List Nd} {n : Nat} (hn : T.length = n) {a : Option Addr} (cap : Nat) (hT : TAt w a T) (hL : Lg T) (hS : Sm T) (hF : Fit5 T) (hM : ¬ Mayb okP T) (hA : AwC w) :
    Calls Tryz.prog 5 #[trV a n cap] w fun e w' => e = .returned (.bool true) ∧ Below w.heap.size w w' := by
  have hB1 : Below w.heap.size w (w.alloc (Tro a n cap)) := belA (Below.refl _ _)
  have A1 := At.new w (Tro a n cap)
  have A0 := hidD A1
  obtain ⟨c0, f0⟩ := A1.one
  have HF := hidD (fits5_any T n hn true (by simp; exact hF) a cap _ (hT.below hB1) hL)
  have HM : Hid (∀ W, Below w.heap.size w W → Calls Tryz.prog 24 #[trV a n cap] W fun e w' => e = .returned (.bool false) ∧ Below W.heap.size W w') := hidD (fun W hW => by
    have := may_no (cap := cap) (hT.below hW) hS hM
    rw [hn] at this
    exact this)
  have HA := hidD hA
  have HB := hidD hB1
  clear hn hT hL hF hA A1 hB1 hS hM
  go_enter Tryz.func5, Tryz.ntmps5
  go_wp2_with (first
    | (go_at_call 6; refine HF.out.mono ?_; rintro e w1 ⟨rfl, hb1⟩; obtain ⟨c1, f1⟩ := (A0.out.below hb1).one)
    | (go_at_call 24; refine (HM.out _ (below_aft HB.out hb1)).mono ?_; rintro e w2 ⟨rfl, hb2⟩)
    | (go_at_call 7; refine (HA.out _ (below_aft HB.out (below_aft hb1 hb2))).mono ?_; rintro e w3 ⟨rfl, hb3⟩))
  go_ret
  exact ⟨rfl, below_aft HB.out (below_aft hb1 (below_aft hb2 hb3))⟩
set_option maxRecDepth 100000 in
set_option maxHeartbeats 4000000 in
/-- PrintParts, where Expr refuses the tree. -/
theorem pp_err {w : World} {T : List Nd} {n : Nat} {x : Nx} {c : Fo} (h : Sq T n x c) {a : Option Addr} (cap : Nat) (hT : TAt w a T) (hL : Lg T) (hF : Fit5 T) (ec : Int) (hec : ¬ ec = 0) (hE : ∀ W, Below w.heap.size w W → Calls Tryz.prog 10 #[trV a n cap] W fun e w' => e = .returned (.tuple #[.string ⟨#[]⟩, .int .i64 ec]) ∧ Below W.heap.size W w') (hA : AwC w) :
    Calls Tryz.prog 5 #[trV a n cap] w fun e w' => e = .returned (.bool true) ∧ Below w.heap.size w w' := by
  have hB1 : Below w.heap.size w (w.alloc (Tro a n cap)) := belA (Below.refl _ _)
  have A1 := At.new w (Tro a n cap)
  have A0 := hidD A1
  obtain ⟨c0, f0⟩ := A1.one
  have HF := hidD (fits5_any T n h.tw.ln true (by simp; exact hF) a cap _ (hT.below hB1) hL)
  have HM : Hid (∀ W, Below w.heap.size w W → Calls Tryz.prog 24 #[trV a n cap] W fun e w' => e = .returned (.bool true) ∧ Below W.heap.size W w') := hidD (fun W hW => h.tw.mayC a cap W (hT.below hW))
  have HE := hidD hE
  have HA := hidD hA
  have HB := hidD hB1
  clear h hT hL hF hA A1 hB1 hE
  go_enter Tryz.func5, Tryz.ntmps5
  go_wp2_with (first
    | (go_at_call 6; refine HF.out.mono ?_; rintro e w1 ⟨rfl, hb1⟩; have A2 := hidD (A0.out.below hb1); obtain ⟨c1, f1⟩ := A2.out.one)
    | (go_at_call 24; refine (HM.out _ (below_aft HB.out hb1)).mono ?_; rintro e w2 ⟨rfl, hb2⟩; obtain ⟨c2, f2⟩ := (A2.out.below hb2).one)
    | (go_at_call 10; refine (HE.out _ (below_aft HB.out (below_aft hb1 hb2))).mono ?_; rintro e w3 ⟨rfl, hb3⟩)
    | (go_at_call 7; refine (HA.out _ (below_aft HB.out (below_aft hb1 (below_aft hb2 hb3)))).mono ?_; rintro e w4 ⟨rfl, hb4⟩))
  go_ret
  exact ⟨rfl, below_aft HB.out (below_aft hb1 (below_aft hb2 (below_aft hb3 hb4)))⟩
end Go.Proofs.YtahdnfogdnondaaGreatDoor
namespace Go.Proofs.YtahdnfogdnondaaGreatDoor
open Go.RowKit Go.Shelf
set_option linter.unusedVariables false
set_option linter.unusedSimpArgs false

/-- What a round of the law asks of a part: Sub's answer, then Expr's of it. -/
structure Rnd (w : World) (a : Option Addr) (n cap k : Nat) (kd : Nat) (m : Nat) (s u : ByteArray) (ec : Int) : Prop where
  sub : ∀ W, Below w.heap.size w W → Calls Tryz.prog 25 #[trV a n cap, .int .i64 (k : Int)] W fun e w' => ∃ g, e = .returned (.tuple #[trV (some ⟨g, 0, none⟩) m m, .int .i64 0]) ∧ Below W.heap.size W w' ∧ ∀ V, Below w'.heap.size w' V → Calls Tryz.prog 10 #[trV (some ⟨g, 0, none⟩) m m] V fun e v' => e = .returned (.tuple #[.string u, .int .i64 ec]) ∧ Below V.heap.size V v'
  nd : ∀ W, Below w.heap.size w W → ∃ g off, a = some ⟨g, off, none⟩ ∧ W.cell? ⟨g, off + k * 5, none⟩ = some (.int .u8 (kd : Int))
  yes : (ec = 0 ∧ ∀ W : World, Calls Tryz.prog 26 #[.string u, .string s] W fun e w' => e = .returned (.bool true) ∧ w' = W) ∨ (ec = 2 ∧ kd = 35)
/-- Each part of an expression has such a round. -/
theorem rnd_of {w : World} {T : List Nd} {n : Nat} {x : Nx} {c : Fo} (h : Sq T n x c) (hx : kExpr x.k = true) {a : Option Addr} (cap : Nat) (hT : TAt w a T) (hcap : n ≤ cap) (hTab : TabOk w) (hle : (bareN x (txs c)).length ≤ 65536) {k : Nat} (hk : k < n) :
    ∃ kd m u ec, Rnd w a n cap k kd m (str (bareN x (txs c))) u ec := by
  obtain ⟨y, e, hs, hq⟩ := h.part hk
  obtain ⟨hy, hsb⟩ := h.sbs hx hs
  obtain ⟨d, hd1, hd2⟩ := nd_sub h hk hs
  have hnd : ∀ W, Below w.heap.size w W → ∃ g off, a = some ⟨g, off, none⟩ ∧ W.cell? ⟨g, off + k * 5, none⟩ = some (.int .u8 (y.k : Int)) := fun W hW => by
    obtain ⟨g, off, h1, h2⟩ := nd_at (hT.below hW) hd1
    obtain ⟨h3, h4, -⟩ := h2
    rw [hd2] at h4
    exact ⟨g, off, h1, h4⟩
  rcases hy with hy | hy
  · have hl : (bareN y (txs e)).length ≤ 65536 := Nat.le_trans hsb.len hle
    refine ⟨y.k, 1 + e.size, str (bareN y (txs e)), 0, ⟨fun W hW => ?_, hnd, .inl ⟨rfl, fun W => ?_⟩⟩⟩
    · refine (h.tw.sub hk hs a cap W (hT.below hW) hcap).mono ?_
      rintro e' w' ⟨g, cur, rfl, hO, hb⟩
      refine ⟨g, rfl, hb, fun V hV => ?_⟩
      have h1 := hq.expr hy (a := some ⟨g, 0, none⟩) (1 + e.size) ((hO.tat (by rw [hq.tw.ln])).below hV) (hTab.bel (below_aft hW (below_aft hb hV)))
      rw [if_pos hl, if_pos hl] at h1
      exact h1
    · obtain ⟨p, q, hpq⟩ := hsb
      rw [hpq]
      exact within_any _ p q (by rw [← hpq]; omega) W
  · refine ⟨y.k, 1 + e.size, ⟨#[]⟩, 2, ⟨fun W hW => ?_, hnd, .inr ⟨rfl, hy⟩⟩⟩
    refine (h.tw.sub hk hs a cap W (hT.below hW) hcap).mono ?_
    rintro e' w' ⟨g, cur, rfl, hO, hb⟩
    refine ⟨g, rfl, hb, fun V hV => ?_⟩
    exact hq.expr_no (by rw [hy]; rfl) (1 + e.size) ((hO.tat (by rw [hq.tw.ln])).below hV)
set_option maxRecDepth 100000 in
set_option maxHeartbeats 4000000 in
/-- PrintParts, where Expr tells the tree's text. -/
theorem pp_ok {w : World} {T : List Nd} {n : Nat} {x : Nx} {c : Fo} (h : Sq T n x c) (hx : kExpr x.k = true) {a : Option Addr} (cap : Nat) (hT : TAt w a T) (hL : Lg T) (hF : Fit5 T) (hcap : n ≤ cap) (hTab : TabOk w) (hle : (bareN x (txs c)).length ≤ 65536) (hA : AwC w) :
    Calls Tryz.prog 5 #[trV a n cap] w fun e w' => e = .returned (.bool true) ∧ Below w.heap.size w w' := by
  have hB1 : Below w.heap.size w (w.alloc (Tro a n cap)) := belA (Below.refl _ _)
  have A1 := At.new w (Tro a n cap)
  have A0 := hidD A1
  obtain ⟨c0, f0⟩ := A1.one
  obtain ⟨s, hs⟩ : ∃ s, s = str (bareN x (txs c)) := ⟨_, rfl⟩
  have HF := hidD (fits5_any T n h.tw.ln true (by simp; exact hF) a cap _ (hT.below hB1) hL)
  have HM : Hid (∀ W, Below w.heap.size w W → Calls Tryz.prog 24 #[trV a n cap] W fun e w' => e = .returned (.bool true) ∧ Below W.heap.size W w') := hidD (fun W hW => h.tw.mayC a cap W (hT.below hW))
  have HE : Hid (∀ W, Below w.heap.size w W → Calls Tryz.prog 10 #[trV a n cap] W fun e w' => e = .returned (.tuple #[.string s, .int .i64 0]) ∧ Below W.heap.size W w') := hidD (fun W hW => by
    have h1 := h.expr hx (a := a) cap (hT.below hW) (hTab.bel hW)
    rw [if_pos hle, if_pos hle, ← hs] at h1
    exact h1)
  have HRD : Hid (∀ k, k < n → ∃ kd m u ec, Rnd w a n cap k kd m s u ec) := hidD (fun k hk => by rw [hs]; exact rnd_of h hx cap hT hcap hTab hle hk)
  have HA := hidD hA
  have HB := hidD hB1
  have hn : n ≤ 16384 := h.tw.le
  clear h hT hL hF hA A1 hB1 hTab hle hcap hs hx
  go_enter Tryz.func5, Tryz.ntmps5
  go_wp2_with (first
    | (go_at_call 6; refine HF.out.mono ?_; rintro e w1 ⟨rfl, hb1⟩; have A2 := hidD (A0.out.below hb1); obtain ⟨c1, f1⟩ := A2.out.one)
    | (go_at_call 24; refine (HM.out _ (below_aft HB.out hb1)).mono ?_; rintro e w2 ⟨rfl, hb2⟩; have A3 := hidD (A2.out.below hb2); obtain ⟨c2, f2⟩ := A3.out.one)
    | (go_at_call 10; refine (HE.out _ (below_aft HB.out (below_aft hb1 hb2))).mono ?_; rintro e w3 ⟨rfl, hb3⟩; have A4 := hidD (A3.out.below hb3); have B4 := hidD (below_aft HB.out (below_aft hb1 (below_aft hb2 hb3)))))
  clear hb1 hb2 hb3 c0 f0 c1 f1 c2 f2 A0 A2 A3 HF HM HE HB
  go_loopw [5] (fun i W => ∃ k : Nat, k ≤ n ∧ i = .int .i64 k ∧ At W w.heap.size (Tro a n cap) ∧ Below w.heap.size w W) (fun i _ => n - (intOf i).toNat)
  case atStart => exact ⟨0, Nat.zero_le _, rfl, A4.out, B4.out⟩
  case round =>
    obtain ⟨k, hk, rfl, hAt, hB⟩ := hrel
    have HAT := hidD hAt
    have HBB := hidD hB
    have w3 : IntKind.i64.wrap ((k : Int) + 1) = (k : Int) + 1 := by rw [IntKind.wrap_i64]; omega
    obtain ⟨c0, f0⟩ := HAT.out.one
    clear A4 B4 hAt hB
    by_cases hlt : k < n ∧ k < 60
    · obtain ⟨kd, m, u, ec, hR⟩ := HRD.out k hlt.1
      have HSUB := hidD (hR.sub wr HBB.out)
      have k1 : (k : Int) < (n : Int) := by omega
      have k2 : (k : Int) < 60 := by omega
      have k0 : (0 : Int) ≤ (k : Int) := by omega
      have HND := hidD hR.nd
      rcases hR.yes with ⟨rfl, hW⟩ | ⟨rfl, rfl⟩
      · have HW := hidD hW
        clear hR hW HRD
        go_wp2_with (first
          | (go_at_call 25; refine HSUB.out.mono ?_; rintro e v1 ⟨g, rfl, hb1, hEx⟩; have HEX := hidD hEx; have HV1 := hidD hb1; clear hb1 hEx)
          | (go_at_call 10; refine (HEX.out _ (belA (Below.refl _ _))).mono ?_; rintro e v2 ⟨rfl, hb2⟩; have HV2 := hidD (below_aft HV1.out (below1 hb2)); clear hb2)
          | (go_at_call 26; refine (HW.out _).mono ?_; rintro e v3 ⟨rfl, rfl⟩))
        exact ⟨⟨k + 1, by omega, by go_num, HAT.out.below HV2.out, below_aft HBB.out HV2.out⟩, by simp [intOf]; omega⟩
      · clear hR HRD
        go_wp2_with (first
          | (go_at_call 25; refine HSUB.out.mono ?_; rintro e v1 ⟨g, rfl, hb1, hEx⟩; have HEX := hidD hEx; have HV1 := hidD hb1; clear hb1 hEx)
          | (go_at_call 10; refine (HEX.out _ (belA (Below.refl _ _))).mono ?_; rintro e v2 ⟨rfl, hb2⟩; have HV2 := hidD (below_aft HV1.out (below1 hb2)); clear hb2; obtain ⟨c9, f9⟩ := (HAT.out.below HV2.out).one; obtain ⟨gg, oo, rfl, n0⟩ := HND.out _ (below_aft HBB.out HV2.out)))
        exact ⟨⟨k + 1, by omega, by go_num, HAT.out.below HV2.out, below_aft HBB.out HV2.out⟩, by simp [intOf]; omega⟩
    · have HAW := hidD (HA.out wr HBB.out)
      clear HRD
      by_cases h1 : k < n
      · have k1 : (k : Int) < (n : Int) := by omega
        have k2 : ¬ (k : Int) < 60 := by omega
        go_wp2_with (go_at_call 7; refine HAW.out.mono ?_; rintro e v1 ⟨rfl, hb1⟩)
        go_ret
        exact ⟨rfl, below_aft HBB.out hb1⟩
      · have k1 : ¬ (k : Int) < (n : Int) := by omega
        go_wp2_with (go_at_call 7; refine HAW.out.mono ?_; rintro e v1 ⟨rfl, hb1⟩)
        go_ret
        exact ⟨rfl, below_aft HBB.out hb1⟩
end Go.Proofs.YtahdnfogdnondaaGreatDoor
