import Derived.Test.YtahdnfogdnondaaGreatDoorTt
import Derived.Deep.Cut
import Derived.Test.YtahdnfogdnondaaGreatDoorTps
namespace Go.Proofs.YtahdnfogdnondaaGreatDoor
open Go.RowKit Go.Shelf
set_option linter.unusedVariables false
set_option linter.unusedSimpArgs false

theorem LnS.alloc {B0 lo b1 b2 : Nat} {w V : World} {i : Int} {v : Value} {m : Nat} {xs : List Value} (h : LnS B0 lo b1 b2 w V i v m xs) (hB : B0 ≤ V.heap.size) (o : Obj) : LnS B0 lo b1 b2 w (V.alloc o) i v m xs :=
  ⟨h.a1.alloc o, h.a2.alloc o, h.row.alloc o, h.bel.alloc hB o, by have := h.lo; simp; omega⟩
/-- A node of a tree of one. -/
def O1 (k : Nat) : Nd := ⟨⟨k, 0, 0, []⟩, []⟩
set_option maxRecDepth 100000 in
/-- tellEach of nothing. -/
theorem tellEach_nil (src fv : Value) (w : World) : Calls Tryz.prog 74 #[src, .slice none 0 0, fv] w fun e w' => e = .returned (.tuple #[]) ∧ w' = w := by
  go_enter Tryz.func74, Tryz.ntmps74
  go_wp2_with fail
  go_loopw [10] (fun i W => i = .int .i64 0 ∧ W = w) (fun _ _ => 0)
  case atStart => exact ⟨rfl, rfl⟩
  case round =>
    obtain ⟨rfl, rfl⟩ := hrel
    go_wp2_with fail
    exact bodyPost_end (results_none rfl _ _ _) rfl ⟨rfl, rfl⟩
abbrev lnV (b1 b2 : Nat) : Value := .func (.func 52) #[] #[.pointer (some ⟨b1, 0, none⟩), .pointer (some ⟨b2, 0, none⟩)]
/-- What a call of the closure leaves. -/
def LnC (B0 lo b1 b2 : Nat) (w : World) (t : ByteArray) (i j : Int) (m : Nat) (xs : List Value) : Prop := ∀ V v, LnS B0 lo b1 b2 w V i v m xs → Calls Tryz.prog 52 #[.string t, .pointer (some ⟨b1, 0, none⟩), .pointer (some ⟨b2, 0, none⟩)] V fun e V' => e = .returned (.tuple #[]) ∧ ∃ v', LnS B0 lo b1 b2 w V' j v' (m + 1) (xs ++ [.string t])
set_option maxRecDepth 100000 in
set_option maxHeartbeats 4000000 in
/-- openBlock, of a block without statements. -/
theorem openBlock_nil {B0 lo b1 b2 : Nat} {w V : World} {v : Value} {m : Nat} {xs : List Value} {g off cap : Nat} (h : LnS B0 lo b1 b2 w V 0 v m xs) (hg : g < B0) (hc : w.cell? ⟨g, off + 4, none⟩ = some (.slice none 0 0)) (hC : LnC B0 lo b1 b2 w ⟨#[123]⟩ 0 1 m xs) :
    Calls Tryz.prog 96 #[.slice (some ⟨g, off, none⟩) 1 cap, .string ⟨#[]⟩, .int .i64 0, lnV b1 b2] V fun e V' => e = .returned (.tuple #[]) ∧ ∃ v', LnS B0 lo b1 b2 w V' 1 v' (m + 1) (xs ++ [.string ⟨#[123]⟩]) := by
  have HH := hidD h
  have HC := hidD (hC V v h)
  clear h hC
  go_enter Tryz.func96, Tryz.ntmps96
  go_wp2_with (first
    | (go_at_call 52; refine HC.out.mono ?_; rintro e w1 ⟨rfl, v1, h1⟩; have H1 := hidD h1; have c4 : w1.cell? ⟨g, off + 4, none⟩ = some (.slice none 0 0) := (h1.bel.cell hg).trans hc; clear h1 hc)
    | (go_at_call 74; refine (tellEach_nil _ _ _).mono ?_; rintro e w2 ⟨rfl, hw2⟩; replace hw2 := hw2.symm; subst hw2))
  exact bodyPost_end (results_none rfl _ _ _) rfl ⟨rfl, v1, H1.out⟩
set_option maxRecDepth 100000 in
set_option maxHeartbeats 4000000 in
/-- block, without statements. -/
theorem block_nil {B0 lo b1 b2 : Nat} {w V : World} {v : Value} {m : Nat} {xs : List Value} {g off cap : Nat} (h : LnS B0 lo b1 b2 w V 0 v m xs) (hg : g < B0) (hc : w.cell? ⟨g, off + 4, none⟩ = some (.slice none 0 0)) (hC : LnC B0 lo b1 b2 w ⟨#[123]⟩ 0 1 m xs) (hD : LnC B0 lo b1 b2 w ⟨#[125]⟩ 1 0 (m + 1) (xs ++ [.string ⟨#[123]⟩])) :
    Calls Tryz.prog 77 #[.slice (some ⟨g, off, none⟩) 1 cap, .string ⟨#[]⟩, .int .i64 0, lnV b1 b2] V fun e V' => e = .returned (.tuple #[]) ∧ ∃ v', LnS B0 lo b1 b2 w V' 0 v' (m + 1 + 1) (xs ++ [.string ⟨#[123]⟩] ++ [.string ⟨#[125]⟩]) := by
  have HO := hidD (openBlock_nil (cap := cap) h hg hc hC)
  have HD := hidD hD
  clear h hC hD hc
  go_enter Tryz.func77, Tryz.ntmps77
  go_wp2_with (first
    | (go_at_call 96; refine HO.out.mono ?_; rintro e w1 ⟨rfl, v1, h1⟩; have H1 := hidD h1; clear h1)
    | (go_at_call 52; refine (HD.out _ _ H1.out).mono ?_; rintro e w2 ⟨rfl, v2, h2⟩; have H2 := hidD h2; clear h2))
  exact bodyPost_end (results_none rfl _ _ _) rfl ⟨rfl, v2, H2.out⟩
set_option maxRecDepth 100000 in
set_option maxHeartbeats 4000000 in
/-- tell of a block without statements. -/
theorem tell_13 {B0 lo b1 b2 : Nat} {w V : World} {v : Value} {m : Nat} {xs : List Value} {g off cap : Nat} (h : LnS B0 lo b1 b2 w V 0 v m xs) (hV : B0 ≤ V.heap.size) (hg : g < B0) (c0 : w.cell? ⟨g, off, none⟩ = some (.int .u8 13)) (c1 : w.cell? ⟨g, off + 1, none⟩ = some (.int .i64 0)) (c2 : w.cell? ⟨g, off + 2, none⟩ = some (.int .i64 0)) (c3 : w.cell? ⟨g, off + 3, none⟩ = some (.string ⟨#[]⟩)) (hc : w.cell? ⟨g, off + 4, none⟩ = some (.slice none 0 0)) (hC : LnC B0 lo b1 b2 w ⟨#[123]⟩ 0 1 m xs) (hD : LnC B0 lo b1 b2 w ⟨#[125]⟩ 1 0 (m + 1) (xs ++ [.string ⟨#[123]⟩])) :
    Calls Tryz.prog 51 #[.slice (some ⟨g, off, none⟩) 1 cap, .int .i64 0, lnV b1 b2] V fun e V' => e = .returned (.tuple #[]) ∧ ∃ v', LnS B0 lo b1 b2 w V' 0 v' (m + 1 + 1) (xs ++ [.string ⟨#[123]⟩] ++ [.string ⟨#[125]⟩]) := by
  have d0 := (h.bel.cell (p := ⟨g, off, none⟩) hg).trans c0
  have d1 := (h.bel.cell (p := ⟨g, off + 1, none⟩) hg).trans c1
  have d2 := (h.bel.cell (p := ⟨g, off + 2, none⟩) hg).trans c2
  have d3 := (h.bel.cell (p := ⟨g, off + 3, none⟩) hg).trans c3
  have d4 := (h.bel.cell (p := ⟨g, off + 4, none⟩) hg).trans hc
  have HB := hidD (block_nil (cap := cap) (h.alloc hV (.cells #[.int .u8 13, .int .i64 0, .int .i64 0, .string ⟨#[]⟩, .slice none 0 0] 44)) hg hc hC hD)
  clear h hC hD hc c0 c1 c2 c3
  go_enter Tryz.func51, Tryz.ntmps51
  go_wp2_with (go_at_call 77; refine HB.out.mono ?_; rintro e w1 ⟨rfl, v1, h1⟩; have H1 := hidD h1; clear h1)
  exact bodyPost_end (results_none rfl _ _ _) rfl ⟨rfl, v1, H1.out⟩
end Go.Proofs.YtahdnfogdnondaaGreatDoor
namespace Go.Proofs.YtahdnfogdnondaaGreatDoor
open Go.RowKit Go.Shelf
set_option linter.unusedVariables false
set_option linter.unusedSimpArgs false

/-- A tree of one node without anything, in memory. -/
structure One1 (w : World) (g off k : Nat) : Prop where
  lt : g < w.heap.size
  c0 : w.cell? ⟨g, off, none⟩ = some (.int .u8 (k : Int))
  c1 : w.cell? ⟨g, off + 1, none⟩ = some (.int .i64 0)
  c2 : w.cell? ⟨g, off + 2, none⟩ = some (.int .i64 0)
  c3 : w.cell? ⟨g, off + 3, none⟩ = some (.string ⟨#[]⟩)
  c4 : w.cell? ⟨g, off + 4, none⟩ = some (.slice none 0 0)
theorem One1.bel {w w' : World} {g off k : Nat} (h : One1 w g off k) (hb : Below w.heap.size w w') : One1 w' g off k :=
  ⟨Nat.lt_of_lt_of_le h.lt hb.size, (hb.cell h.lt).trans h.c0, (hb.cell h.lt).trans h.c1, (hb.cell h.lt).trans h.c2, (hb.cell h.lt).trans h.c3, (hb.cell h.lt).trans h.c4⟩
theorem One1.tat {w : World} {g off k : Nat} (h : One1 w g off k) : TAt w (some ⟨g, off, none⟩) [O1 k] := fun _ => ⟨g, off, rfl, fun i d hd => by
  match i, hd with
  | 0, hd =>
    simp at hd
    subst hd
    refine ⟨h.lt, ?_, ?_, ?_, ?_, none, 0, ?_, fun hn => absurd rfl hn⟩
    · rw [Nat.zero_mul, Nat.add_zero]; exact h.c0
    · rw [Nat.zero_mul, Nat.add_zero]; exact h.c1
    · rw [Nat.zero_mul, Nat.add_zero]; exact h.c2
    · rw [Nat.zero_mul, Nat.add_zero]; exact h.c3
    · rw [Nat.zero_mul, Nat.add_zero]; exact h.c4
  | i + 1, hd => simp at hd⟩
theorem sm_one (k : Nat) (hk : k ≤ 255) : Sm [O1 k] := ⟨by simp, fun d hd => by
  simp at hd
  subst hd
  exact ⟨hk, by show (-9223372036854775808 : Int) ≤ 0; omega, by show (0 : Int) ≤ 9223372036854775807; omega, by show (-9223372036854775808 : Int) ≤ 0; omega, by show (0 : Int) ≤ 9223372036854775807; omega, by show 0 ≤ maxLen; exact Nat.zero_le _, by show 0 ≤ 20000; omega, fun c hc => by cases hc⟩⟩
theorem mayb_one (k : Nat) (h : okP ⟨k, 0, 0, []⟩ [] = true) : Mayb okP [O1 k] := ⟨⟨k, 0, 0, []⟩, .nil, rfl, by simp [Fo.all, Fo.kinds, h], by simp [Fo.deep], by simp⟩
set_option maxRecDepth 100000 in
set_option maxHeartbeats 4000000 in
/-- linesOf of a block without statements. -/
theorem linesOf_13 {w : World} {g off cap : Nat} (h : One1 w g off 13) :
    Calls Tryz.prog 29 #[trV (some ⟨g, off, none⟩) 1 cap] w fun e w' => (∃ v, e = .returned v ∧ w'.ownsRow (w.heap.size + 1 + 1 + 1) 9 1 v 2 [.string ⟨#[123]⟩, .string ⟨#[125]⟩]) ∧ Below w.heap.size w w' := by
  have A1 := At.new w (Tro (some ⟨g, off, none⟩) 1 cap)
  obtain ⟨c0, f0⟩ := A1.one
  have HT : Hid (∀ V v, LnS w.heap.size (w.heap.size + 1 + 1 + 1) (w.heap.size + 1 + 1) (w.heap.size + 1) w V 0 v 0 [] → Calls Tryz.prog 51 #[.slice (some ⟨g, off, none⟩) 1 cap, .int .i64 0, lnV (w.heap.size + 1 + 1) (w.heap.size + 1)] V fun e V' => e = .returned (.tuple #[]) ∧ ∃ v', LnS w.heap.size (w.heap.size + 1 + 1 + 1) (w.heap.size + 1 + 1) (w.heap.size + 1) w V' 0 v' 2 [.string ⟨#[123]⟩, .string ⟨#[125]⟩]) := hidD (fun V v hL =>
    tell_13 hL (by have := hL.lo; omega) h.lt h.c0 h.c1 h.c2 h.c3 h.c4 (fun V v hL => line_open hL (by omega) (by omega)) (fun V v hL => line_close hL (by omega) (by omega)))
  have HI : Hid (LnS w.heap.size (w.heap.size + 1 + 1 + 1) (w.heap.size + 1 + 1) (w.heap.size + 1) w (((w.alloc (Tro (some ⟨g, off, none⟩) 1 cap)).alloc (One (.slice none 0 0) 33)).alloc (One (.int .i64 0) 3)) 0 (.slice none 0 0) 0 []) := hidD
    ⟨by have := At.new ((w.alloc (Tro (some ⟨g, off, none⟩) 1 cap)).alloc (One (.slice none 0 0) 33)) (One (.int .i64 0) 3); simpa using this, by have := (At.new (w.alloc (Tro (some ⟨g, off, none⟩) 1 cap)) (One (.slice none 0 0) 33)).alloc (One (.int .i64 0) 3); simpa using this, World.ownsRow_nil _ _ _ _, belA (belA (belA (Below.refl _ _))), by simp⟩
  clear h A1
  go_enter Tryz.func29, Tryz.ntmps29
  go_wp2_with (go_at_call 51; refine (HT.out _ _ HI.out).mono ?_; rintro e w1 ⟨rfl, v1, h1⟩; have H1 := hidD h1; obtain ⟨c2, f2⟩ := h1.a2.one; clear h1)
  go_ret
  exact ⟨⟨v1, rfl, H1.out.row⟩, H1.out.bel⟩
end Go.Proofs.YtahdnfogdnondaaGreatDoor
namespace Go.Proofs.YtahdnfogdnondaaGreatDoor
open Go.RowKit Go.Shelf
set_option linter.unusedVariables false
set_option linter.unusedSimpArgs false

set_option maxRecDepth 100000 in
theorem hasLines_13 (w : World) : Calls Tryz.prog 42 #[.int .u8 ((13 : Nat) : Int)] w fun e w' => e = .returned (.bool true) ∧ w' = w := by
  rw [show ((13 : Nat) : Int) = 13 from rfl]
  go_enter Tryz.func42, Tryz.ntmps42
  go_wp2
  go_ret
  exact ⟨rfl, rfl⟩
set_option maxRecDepth 100000 in
theorem isType_8 (w : World) : Calls Tryz.prog 36 #[.int .u8 ((8 : Nat) : Int)] w fun e w' => e = .returned (.bool true) ∧ w' = w := by
  rw [show ((8 : Nat) : Int) = 8 from rfl]
  go_enter Tryz.func36, Tryz.ntmps36
  go_wp2
  go_ret
  exact ⟨rfl, rfl⟩
set_option maxRecDepth 100000 in
theorem isFile_29 (w : World) : Calls Tryz.prog 28 #[.int .u8 ((29 : Nat) : Int)] w fun e w' => e = .returned (.bool false) ∧ w' = w := by
  rw [show ((29 : Nat) : Int) = 29 from rfl]
  go_enter Tryz.func28, Tryz.ntmps28
  go_wp2
  go_ret
  exact ⟨rfl, rfl⟩
theorem own_two {W : World} {lo : Nat} {v : Value} {a b : Value} (h : W.ownsRow lo 9 1 v 2 [a, b]) : ∃ g c, v = .slice (some ⟨g, 0, none⟩) 2 c ∧ g < W.heap.size ∧ W.cell? ⟨g, 0, none⟩ = some a ∧ W.cell? ⟨g, 1, none⟩ = some b := by
  rcases h.2 with ⟨-, h9⟩ | ⟨g, cap, cur, rfl, h8⟩
  · simp at h9
  · have hc := h.cells (g := g) rfl
    exact ⟨g, cap, rfl, At.lt h8.2.1, by simpa [Addr.add] using hc 0 a rfl, by simpa [Addr.add] using hc 1 b rfl⟩
set_option maxRecDepth 100000 in
set_option maxHeartbeats 4000000 in
/-- Lines of a block without statements. -/
theorem lines_13 {w : World} {g off cap : Nat} (h : One1 w g off 13) :
    Calls Tryz.prog 15 #[trV (some ⟨g, off, none⟩) 1 cap] w fun e w' => (∃ gv cv, e = .returned (.tuple #[.slice (some ⟨gv, 0, none⟩) 2 cv, .int .i64 0]) ∧ gv < w'.heap.size ∧ w'.cell? ⟨gv, 0, none⟩ = some (.string ⟨#[123]⟩)) ∧ Below w.heap.size w w' := by
  have A1 := At.new w (Tro (some ⟨g, off, none⟩) 1 cap)
  have hB1 : Below w.heap.size w (w.alloc (Tro (some ⟨g, off, none⟩) 1 cap)) := belA (Below.refl _ _)
  have HR := hidD (rooted_yes (cap := cap) (h.bel hB1).tat (sm_one 13 (by omega)) (mayb_one 13 (by decide +kernel)) 42 (.inr (.inr (.inr rfl))) (d := O1 13) rfl true hasLines_13)
  have HL : Hid (∀ W, Below w.heap.size w W → Calls Tryz.prog 29 #[trV (some ⟨g, off, none⟩) 1 cap] W fun e w' => (∃ gv cv, e = .returned (.slice (some ⟨gv, 0, none⟩) 2 cv) ∧ gv < w'.heap.size ∧ w'.cell? ⟨gv, 0, none⟩ = some (.string ⟨#[123]⟩) ∧ w'.cell? ⟨gv, 1, none⟩ = some (.string ⟨#[125]⟩)) ∧ Below W.heap.size W w') := hidD (fun W hW => (linesOf_13 (cap := cap) (h.bel hW)).mono fun e w' k => by
    obtain ⟨⟨v, rfl, hv⟩, hb⟩ := k
    obtain ⟨gv, cv, rfl, h0, h1, h2⟩ := own_two hv
    exact ⟨⟨gv, cv, rfl, h0, h1, h2⟩, hb⟩)
  have HA := hidD A1
  have HB := hidD hB1
  obtain ⟨c0, f0⟩ := A1.one
  clear h A1 hB1
  go_enter Tryz.func15, Tryz.ntmps15
  go_wp2_with (first
    | (go_at_call 27; refine HR.out.mono ?_; rintro e w1 ⟨rfl, hb1⟩; have HB2 := hidD (below_aft HB.out hb1); obtain ⟨d0, e0⟩ := (HA.out.below hb1).one; clear hb1)
    | (go_at_call 29; refine (HL.out _ HB2.out).mono ?_; rintro e w2 ⟨⟨gv, cv, rfl, lg, l0, l1⟩, hb2⟩; have HB3 := hidD (below_aft HB2.out hb2); clear hb2))
  have HL0 := hidD l0
  have HLG := hidD lg
  clear lg
  go_loopw [5, 17] (fun t i W => ∃ k : Nat, k ≤ 2 ∧ i = .int .i64 k ∧ t = .int .i64 ((2 + k : Nat) : Int) ∧ W = w2) (fun _ i _ => 2 - (intOf i).toNat)
  case atStart => exact ⟨0, by omega, rfl, rfl, rfl⟩
  case round =>
    obtain ⟨k, hk, rfl, rfl, rfl⟩ := hrel
    have hk3 : k = 0 ∨ k = 1 ∨ k = 2 := by omega
    rcases hk3 with rfl | rfl | rfl
    · go_wp2_with fail
      refine ⟨⟨1, by omega, ?_⟩, by simp [intOf]⟩
      simp
    · go_wp2_with fail
      refine ⟨⟨2, by omega, ?_⟩, by simp [intOf]⟩
      simp
    · go_wp2_with fail
      go_ret2
      exact ⟨⟨gv, cv, rfl, HLG.out, HL0.out⟩, HB3.out⟩
set_option maxRecDepth 100000 in
set_option maxHeartbeats 4000000 in
/-- typeText of i64. -/
theorem typeText_8 {w : World} {g off cap : Nat} (h : One1 w g off 8) :
    Calls Tryz.prog 37 #[.slice (some ⟨g, off, none⟩) 1 cap, .int .i64 0] w fun e w' => e = .returned (.string ⟨#[105, 54, 52]⟩) ∧ Below w.heap.size w w' := by
  obtain ⟨hg, c0, c1, c2, c3, c4⟩ := h
  replace c0 : w.cell? ⟨g, off, none⟩ = some (.int .u8 8) := c0
  go_enter Tryz.func37, Tryz.ntmps37
  go_wp2_with fail
  go_ret
  exact ⟨rfl, belA (Below.refl _ _)⟩
set_option maxRecDepth 100000 in
set_option maxHeartbeats 4000000 in
/-- Type of i64. -/
theorem type_8 {w : World} {g off cap : Nat} (h : One1 w g off 8) :
    Calls Tryz.prog 11 #[trV (some ⟨g, off, none⟩) 1 cap] w fun e w' => e = .returned (.tuple #[.string ⟨#[105, 54, 52]⟩, .int .i64 0]) ∧ Below w.heap.size w w' := by
  have A1 := At.new w (Tro (some ⟨g, off, none⟩) 1 cap)
  have hB1 : Below w.heap.size w (w.alloc (Tro (some ⟨g, off, none⟩) 1 cap)) := belA (Below.refl _ _)
  have HR := hidD (rooted_yes (cap := cap) (h.bel hB1).tat (sm_one 8 (by omega)) (mayb_one 8 (by decide +kernel)) 36 (.inr (.inr (.inl rfl))) (d := O1 8) rfl true isType_8)
  have HT : Hid (∀ W, Below w.heap.size w W → Calls Tryz.prog 37 #[.slice (some ⟨g, off, none⟩) 1 cap, .int .i64 0] W fun e w' => e = .returned (.string ⟨#[105, 54, 52]⟩) ∧ Below W.heap.size W w') := hidD (fun W hW => typeText_8 (h.bel hW))
  have HBD : Hid (∀ W, Calls Tryz.prog 32 #[.string ⟨#[105, 54, 52]⟩] W fun e w' => e = .returned (.tuple #[.string ⟨#[105, 54, 52]⟩, .int .i64 0]) ∧ Below W.heap.size W w') := hidD (fun W => bounded_any [105, 54, 52] (by decide) W)
  have HA := hidD A1
  have HB := hidD hB1
  obtain ⟨c0, f0⟩ := A1.one
  clear h A1 hB1
  go_enter Tryz.func11, Tryz.ntmps11
  go_wp2_with (first
    | (go_at_call 27; refine HR.out.mono ?_; rintro e w1 ⟨rfl, hb1⟩; have HB2 := hidD (below_aft HB.out hb1); obtain ⟨d0, e0⟩ := (HA.out.below hb1).one; clear hb1)
    | (go_at_call 37; refine (HT.out _ HB2.out).mono ?_; rintro e w2 ⟨rfl, hb2⟩)
    | (go_at_call 32; refine (HBD.out _).mono ?_; rintro e w3 ⟨rfl, hb3⟩))
  go_ret2
  exact ⟨rfl, below_aft HB2.out (below_aft hb2 hb3)⟩
set_option maxRecDepth 100000 in
set_option maxHeartbeats 4000000 in
/-- File, where rooted says no. -/
theorem file_of {w : World} {T : List Nd} {a : Option Addr} (cap : Nat) (hR : ∀ W, Below w.heap.size w W → Calls Tryz.prog 27 #[trV a T.length cap, .func (.func 28) #[] #[]] W fun e w' => e = .returned (.bool false) ∧ Below W.heap.size W w') :
    Calls Tryz.prog 9 #[trV a T.length cap] w fun e w' => e = .returned (.tuple #[.string ⟨#[]⟩, .int .i64 2]) ∧ Below w.heap.size w w' := by
  have A1 := At.new w (Tro a T.length cap)
  have hB1 : Below w.heap.size w (w.alloc (Tro a T.length cap)) := belA (Below.refl _ _)
  have HR := hidD (hR _ hB1)
  obtain ⟨c0, f0⟩ := A1.one
  clear hR
  go_enter Tryz.func9, Tryz.ntmps9
  go_wp2_with (go_at_call 27; refine HR.out.mono ?_; rintro e w1 ⟨rfl, hb1⟩)
  go_ret2
  exact ⟨rfl, below1 hb1⟩
end Go.Proofs.YtahdnfogdnondaaGreatDoor
namespace Go.Proofs.YtahdnfogdnondaaGreatDoor
open Go.RowKit Go.Shelf
set_option linter.unusedVariables false
set_option linter.unusedSimpArgs false

/-- The tree by hand. -/
def y0 : Nx := ⟨29, 0, 0, []⟩
def e0 : Fo := .cons ⟨29, 0, 1, []⟩ (.cons ⟨27, 0, 0, [102]⟩ (.cons ⟨28, 0, 0, []⟩ (.cons ⟨26, 0, 0, [120]⟩ .nil .nil) .nil) .nil) .nil
def T0 : List Nd := [⟨⟨29, 0, 0, []⟩, [1]⟩, ⟨⟨29, 0, 1, []⟩, [2]⟩, ⟨⟨27, 0, 0, [102]⟩, [3]⟩, ⟨⟨28, 0, 0, []⟩, [4]⟩, ⟨⟨26, 0, 0, [120]⟩, []⟩]
theorem sq_T0 : Sq T0 5 y0 e0 := by
  have hS : Sm T0 := ⟨by decide, fun d hd => by
    simp only [T0, List.mem_cons, List.not_mem_nil, or_false] at hd
    rcases hd with rfl | rfl | rfl | rfl | rfl <;> exact ⟨by decide, by decide, by decide, by decide, by decide, by decide, by decide, fun c hc => by simp at hc; try (subst hc; decide)⟩⟩
  refine ⟨⟨rfl, rfl, rfl, by omega, by decide +kernel, by decide +kernel, hS⟩, fun d hd => ?_⟩
  simp only [T0, List.mem_cons, List.not_mem_nil, or_false] at hd
  rcases hd with rfl | rfl | rfl | rfl | rfl <;> exact ⟨by decide, by decide, by decide⟩
theorem text_T0 : bareN y0 (txs e0) = [38, 32, 38, 109, 117, 116, 32, 40, 42, 120, 41, 46, 102] := by decide +kernel
set_option maxRecDepth 100000 in
set_option maxHeartbeats 4000000 in
/-- Level of an expression of a tree that may be. -/
theorem level_yes {w : World} {T : List Nd} {n : Nat} {x : Nx} {c : Fo} (h : Sq T n x c) {a : Option Addr} (cap : Nat) (hT : TAt w a T) {o : Nat} {d : Nd} (hd : T[o]? = some d) (hk : kExpr d.x.k = true) :
    Calls Tryz.prog 17 #[trV a n cap, .int .i64 (o : Int)] w fun e w' => e = .returned (.tuple #[.int .i64 (lvlN d.x : Int), .int .i64 0]) ∧ Below w.heap.size w w' := by
  have A1 := At.new w (Tro a n cap)
  have hB1 : Below w.heap.size w (w.alloc (Tro a n cap)) := belA (Below.refl _ _)
  have HM := hidD (h.tw.mayC a cap _ (hT.below hB1))
  have ho : o < n := by rw [← h.tw.ln]; exact (List.getElem?_eq_some_iff.1 hd).1
  have HX : Hid (∀ W, Calls Tryz.prog 34 #[.int .u8 (d.x.k : Int)] W fun e w' => e = .returned (.bool true) ∧ w' = W) := hidD (fun W => by have := pExpr_any d.x.k W; rwa [hk] at this)
  have HA := hidD A1
  have HB := hidD hB1
  have HT := hidD hT
  have HD := hidD hd
  obtain ⟨c0, f0⟩ := A1.one
  have o1 : (o : Int) < (n : Int) := by omega
  have o0 : (0 : Int) ≤ (o : Int) := by omega
  have g0 : ¬ (o : Int) < 0 := by omega
  have g1 : ¬ (n : Int) ≤ (o : Int) := by omega
  clear h hT hd hk A1 hB1 ho
  go_enter Tryz.func17, Tryz.ntmps17
  go_wp2_with (first
    | (go_at_call 24; refine HM.out.mono ?_; rintro e w1 ⟨rfl, hb1⟩; have HB2 := hidD (below_aft HB.out hb1); obtain ⟨d0, f1⟩ := (HA.out.below hb1).one; obtain ⟨g, off, rfl, hN⟩ := nd_at (HT.out.below HB2.out) HD.out; obtain ⟨hg, n0, n1, n2, n3, al, capl, n4, hrow⟩ := hN; clear hb1 hrow)
    | (go_at_call 34; refine (HX.out _).mono ?_; rintro e w2 ⟨rfl, hw2⟩; replace hw2 := hw2.symm; subst hw2)
    | (go_at_call 46; refine (levelOf_any d.x al d.l.length capl _).mono ?_; rintro e w3 ⟨rfl, hb3⟩))
  go_ret2
  exact ⟨rfl, below_aft HB2.out hb3⟩
set_option maxRecDepth 100000 in
set_option maxHeartbeats 4000000 in
/-- one: a tree of one node. -/
theorem one_any (k : Nat) (w : World) : Calls Tryz.prog 22 #[ndV ⟨k, 0, 0, []⟩ none 0 0] w fun e w' => (∃ g, e = .returned (trV (some ⟨g, 0, none⟩) 1 1) ∧ One1 w' g 0 k) ∧ Below w.heap.size w w' := by
  have hs : ∀ o1 o2 : Obj, ((w.alloc o1).alloc o2).heap.size = w.heap.size + 1 + 1 := fun o1 o2 => by simp
  go_enter Tryz.func22, Tryz.ntmps22
  go_wp2_with fail
  have A3 : At (((w.alloc (Ndo ⟨k, 0, 0, []⟩ none 0 0)).alloc (Tro (some ⟨w.heap.size + 1 + 1, 0, none⟩) 1 1)).alloc (Ndo ⟨k, 0, 0, []⟩ none 0 0)) (w.heap.size + 1 + 1) (Ndo ⟨k, 0, 0, []⟩ none 0 0) := by
    have := At.new ((w.alloc (Ndo ⟨k, 0, 0, []⟩ none 0 0)).alloc (Tro (some ⟨w.heap.size + 1 + 1, 0, none⟩) 1 1)) (Ndo ⟨k, 0, 0, []⟩ none 0 0)
    rwa [hs] at this
  have A2 : At (((w.alloc (Ndo ⟨k, 0, 0, []⟩ none 0 0)).alloc (Tro (some ⟨w.heap.size + 1 + 1, 0, none⟩) 1 1)).alloc (Ndo ⟨k, 0, 0, []⟩ none 0 0)) (w.heap.size + 1) (Tro (some ⟨w.heap.size + 1 + 1, 0, none⟩) 1 1) := (at_snd w _ _).alloc _
  obtain ⟨d0, d1, d2, d3, d4, -⟩ := A3.nd
  obtain ⟨q0, -⟩ := A2.one
  have r22 : Tryz.f22.results = #[.cell 2 24] := rfl
  refine bodyPost_ret (v := trV (some ⟨w.heap.size + 1 + 1, 0, none⟩) 1 1) (by simp [results, r22, go_sem, q0]) rfl ⟨⟨_, rfl, ⟨A3.lt, d0, by rw [Nat.zero_add]; exact d1, by rw [Nat.zero_add]; exact d2, by rw [Nat.zero_add]; exact d3, by rw [Nat.zero_add]; exact d4⟩⟩, belA (belA (belA (Below.refl _ _)))⟩
/-- The tree by hand, in memory. -/
def ndW (h : Nat) : Array Value := #[.int .u8 29, .int .i64 0, .int .i64 0, .string ⟨#[]⟩, .slice (some ⟨h, 0, none⟩) 1 1, .int .u8 29, .int .i64 0, .int .i64 1, .string ⟨#[]⟩, .slice (some ⟨h + 1, 0, none⟩) 1 1, .int .u8 27, .int .i64 0, .int .i64 0, .string ⟨#[102]⟩, .slice (some ⟨h + 1 + 1, 0, none⟩) 1 1, .int .u8 28, .int .i64 0, .int .i64 0, .string ⟨#[]⟩, .slice (some ⟨h + 1 + 1 + 1, 0, none⟩) 1 1, .int .u8 26, .int .i64 0, .int .i64 0, .string ⟨#[120]⟩, .slice none 0 0]
def hdW (w : World) : World := (((((w.alloc (One (.int .i64 1) 3)).alloc (One (.int .i64 2) 3)).alloc (One (.int .i64 3) 3)).alloc (One (.int .i64 4) 3)).alloc (.cells (ndW w.heap.size) 44 (0, 0))).alloc (Tro (some ⟨w.heap.size + 1 + 1 + 1 + 1, 0, none⟩) 5 5)
theorem hdW_bel (w : World) : Below w.heap.size w (hdW w) := belA (belA (belA (belA (belA (belA (Below.refl _ _))))))
theorem hdW_at (w : World) : At (hdW w) w.heap.size (One (.int .i64 1) 3) ∧ At (hdW w) (w.heap.size + 1) (One (.int .i64 2) 3) ∧ At (hdW w) (w.heap.size + 1 + 1) (One (.int .i64 3) 3) ∧ At (hdW w) (w.heap.size + 1 + 1 + 1) (One (.int .i64 4) 3) ∧ At (hdW w) (w.heap.size + 1 + 1 + 1 + 1) (.cells (ndW w.heap.size) 44 (0, 0)) ∧ At (hdW w) (w.heap.size + 1 + 1 + 1 + 1 + 1) (Tro (some ⟨w.heap.size + 1 + 1 + 1 + 1, 0, none⟩) 5 5) := by
  have s1 : ∀ (W : World) (o : Obj) (n : Nat), W.heap.size = n → At (W.alloc o) n o := fun W o n h => by subst h; exact At.new W o
  unfold hdW
  refine ⟨?_, ?_, ?_, ?_, ?_, ?_⟩
  · exact (((((s1 _ _ _ rfl).alloc _).alloc _).alloc _).alloc _).alloc _
  · exact ((((s1 _ _ _ (by simp)).alloc _).alloc _).alloc _).alloc _
  · exact (((s1 _ _ _ (by simp)).alloc _).alloc _).alloc _
  · exact ((s1 _ _ _ (by simp)).alloc _).alloc _
  · exact (s1 _ _ _ (by simp)).alloc _
  · exact s1 _ _ _ (by simp)
theorem hdW_tat (w : World) : TAt (hdW w) (some ⟨w.heap.size + 1 + 1 + 1 + 1, 0, none⟩) T0 := fun _ => by
  obtain ⟨a1, a2, a3, a4, a5, a6⟩ := hdW_at w
  have hc : ∀ j v, (ndW w.heap.size)[j]? = some v → (hdW w).cell? ⟨w.heap.size + 1 + 1 + 1 + 1, j, none⟩ = some v := fun j v hj => by rw [cell_of_row _ _ _ _ _ _ a5]; exact hj
  have hi : ∀ (b : Nat) (x : Int), At (hdW w) b (One (.int .i64 x) 3) → IRow (hdW w) (some ⟨b, 0, none⟩) [x] := fun b x h _ => ⟨b, 0, rfl, h.lt, fun i c hc => by
    match i, hc with
    | 0, hc => simp at hc; subst hc; exact h.one.1
    | i + 1, hc => simp at hc⟩
  refine ⟨_, 0, rfl, fun i d hd => ?_⟩
  match i, hd with
  | 0, hd =>
    cases hd
    exact ⟨a5.lt, hc 0 _ rfl, hc 1 _ rfl, hc 2 _ rfl, hc 3 _ rfl, _, _, hc 4 _ rfl, hi _ _ a1⟩
  | 1, hd =>
    cases hd
    exact ⟨a5.lt, hc 5 _ rfl, hc 6 _ rfl, hc 7 _ rfl, hc 8 _ rfl, _, _, hc 9 _ rfl, hi _ _ a2⟩
  | 2, hd =>
    cases hd
    exact ⟨a5.lt, hc 10 _ rfl, hc 11 _ rfl, hc 12 _ rfl, hc 13 _ rfl, _, _, hc 14 _ rfl, hi _ _ a3⟩
  | 3, hd =>
    cases hd
    exact ⟨a5.lt, hc 15 _ rfl, hc 16 _ rfl, hc 17 _ rfl, hc 18 _ rfl, _, _, hc 19 _ rfl, hi _ _ a4⟩
  | 4, hd =>
    cases hd
    exact ⟨a5.lt, hc 20 _ rfl, hc 21 _ rfl, hc 22 _ rfl, hc 23 _ rfl, _, _, hc 24 _ rfl, fun h => absurd rfl h⟩
  | i + 5, hd => simp [T0] at hd
set_option maxRecDepth 100000 in
set_option maxHeartbeats 4000000 in
theorem awake_true (w : World) (hTab : TabOk w) : Calls Tryz.prog 7 #[] w fun e w' => e = .returned (.bool true) ∧ Below w.heap.size w w' := by
  have HE : Hid (∀ W, Below (hdW w).heap.size (hdW w) W → Calls Tryz.prog 10 #[trV (some ⟨w.heap.size + 1 + 1 + 1 + 1, 0, none⟩) 5 5] W fun e w' => e = .returned (.tuple #[.string ⟨#[38, 32, 38, 109, 117, 116, 32, 40, 42, 120, 41, 46, 102]⟩, .int .i64 0]) ∧ Below W.heap.size W w') := hidD (fun W hW => by
    have h1 := sq_T0.expr (by decide) (a := some ⟨w.heap.size + 1 + 1 + 1 + 1, 0, none⟩) 5 ((hdW_tat w).below hW) (hTab.bel (below_aft (hdW_bel w) hW))
    rw [text_T0, if_pos (by decide), if_pos (by decide)] at h1
    exact h1)
  have HL : Hid (∀ W, Below (hdW w).heap.size (hdW w) W → Calls Tryz.prog 17 #[trV (some ⟨w.heap.size + 1 + 1 + 1 + 1, 0, none⟩) 5 5, .int .i64 2] W fun e w' => e = .returned (.tuple #[.int .i64 7, .int .i64 0]) ∧ Below W.heap.size W w') := hidD (fun W hW => level_yes sq_T0 5 ((hdW_tat w).below hW) (o := 2) (d := ⟨⟨27, 0, 0, [102]⟩, [3]⟩) rfl (by decide))
  have HF : Hid (∀ W, Below (hdW w).heap.size (hdW w) W → Calls Tryz.prog 9 #[trV (some ⟨w.heap.size + 1 + 1 + 1 + 1, 0, none⟩) 5 5] W fun e w' => e = .returned (.tuple #[.string ⟨#[]⟩, .int .i64 2]) ∧ Below W.heap.size W w') := hidD (fun W hW => file_of (T := T0) 5 (fun V hV => rooted_yes ((hdW_tat w).below (below_aft hW hV)) sq_T0.tw.sm sq_T0.tw.may 28 (.inr (.inl rfl)) (d := ⟨⟨29, 0, 0, []⟩, [1]⟩) rfl false isFile_29))
  obtain ⟨-, -, -, -, -, a6⟩ := hdW_at w
  have HA := hidD a6
  have HB := hidD (hdW_bel w)
  obtain ⟨W1, hW1⟩ : ∃ W1, W1 = hdW w := ⟨_, rfl⟩
  have HW1 : Hid ((((((w.alloc (.cells #[.int .i64 1] 3)).alloc (.cells #[.int .i64 2] 3)).alloc (.cells #[.int .i64 3] 3)).alloc (.cells #[.int .i64 4] 3)).alloc (.cells (ndW w.heap.size) 44)).alloc (.cells #[.slice (some ⟨w.heap.size + 1 + 1 + 1 + 1, 0, none⟩) 5 5] 24) = W1) := hidD hW1.symm
  rw [← hW1] at HE HL HF HA HB
  clear hW1 a6 hTab
  go_enter Tryz.func7, Tryz.ntmps7
  go_upto_region 2 with fail
  have HW2 := HW1.out
  unfold ndW at HW2
  rw [HW2]
  clear HW2 HW1
  obtain ⟨bp, hbp⟩ : ∃ bp, bp = w.heap.size + 1 + 1 + 1 + 1 + 1 := ⟨_, rfl⟩
  obtain ⟨bn, hbn⟩ : ∃ bn, bn = w.heap.size + 1 + 1 + 1 + 1 := ⟨_, rfl⟩
  rw [← hbn] at hbp HE HL HF HA ⊢
  rw [← hbp] at HA ⊢
  clear hbp hbn
  obtain ⟨c0, f0⟩ := HA.out.one
  go_wp2_with (first
    | (go_at_call 10; refine (HE.out _ (Below.refl _ _)).mono ?_; rintro e w1 ⟨rfl, hb1⟩; have B1 := hidD hb1; obtain ⟨c1, f1⟩ := (HA.out.below hb1).one; clear hb1)
    | (go_at_call 17; refine (HL.out _ B1.out).mono ?_; rintro e w2 ⟨rfl, hb2⟩; have B2 := hidD (below_aft B1.out hb2); clear hb2)
    | (go_at_call 11; refine (type_8 HO.out).mono ?_; rintro e w4 ⟨rfl, hb4⟩; have B4 := hidD (below_aft B3.out hb4); clear hb4)
    | (go_at_call 15; refine (lines_13 HO.out).mono ?_; rintro e w6 ⟨⟨gv, cv, rfl, lg, l0⟩, hb6⟩; have B6 := hidD (below_aft B5.out hb6); have LG := hidD lg; have L0 := hidD l0; obtain ⟨c6, f6⟩ := (HA.out.below B6.out).one; clear hb6 lg l0)
    | (go_at_call 9; refine (HF.out _ B6.out).mono ?_; rintro e w7 ⟨rfl, hb7⟩; have B7 := hidD (below_aft B6.out hb7); have l7 := (hb7.cell (p := ⟨gv, 0, none⟩) LG.out).trans L0.out; clear hb7)
    | (go_at_call 22; first
        | (refine (one_any 8 _).mono ?_; rintro e w3 ⟨⟨g3, rfl, h3⟩, hb3⟩; have B3 := hidD (below_aft B2.out hb3); have HO := hidD h3; clear h3 hb3)
        | (refine (one_any 13 _).mono ?_; rintro e w5 ⟨⟨g5, rfl, h5⟩, hb5⟩; have B5 := hidD (below_aft B4.out hb5); clear HO; have HO := hidD h5; clear h5 hb5)))
  go_ret
  exact ⟨rfl, below_aft HB.out B7.out⟩
end Go.Proofs.YtahdnfogdnondaaGreatDoor
namespace Go.Proofs.YtahdnfogdnondaaGreatDoor
open Go.RowKit Go.Shelf
set_option linter.unusedVariables false
set_option linter.unusedSimpArgs false

/-- PrintParts is true of every tree. -/
theorem pp_walk {T : List Nd} {a : Option Addr} {cap : Nat} {w : World} (hT : TAt w a T) (hL : Lg T) (hcap : T.length ≤ cap) (hTab : TabOk w) :
    Calls Tryz.prog 5 #[trV a T.length cap] w fun e w' => e = .returned (.bool true) ∧ Below w.heap.size w w' := by
  have hA : AwC w := fun W hW => awake_true W (hTab.bel hW)
  by_cases hF : Fit5 T
  · have hS : Sm T := hL.sm (by have := hF.1; omega) (fun d hd => by have := hF.l d hd; omega)
    by_cases hM : Mayb okP T
    · obtain ⟨x, c, hf, hok, hd, hle⟩ := hM
      have h : Sq T T.length x c := ⟨⟨hf, rfl, by rw [hf, Fo.len_flat]; simp [Fo.size], hle, hok, hd, hS⟩, fun d hd => ⟨hF.2.2 d hd, (hL.x d hd).n0, (hL.x d hd).n1⟩⟩
      by_cases hx : kExpr x.k = true
      · by_cases hl : (bareN x (txs c)).length ≤ 65536
        · exact pp_ok h hx cap hT hL hF hcap hTab hl hA
        · refine pp_err h cap hT hL hF 3 (by decide) (fun W hW => ?_) hA
          have h1 := h.expr hx (a := a) cap (hT.below hW) (hTab.bel hW)
          rw [if_neg hl, if_neg hl] at h1
          exact h1
      · exact pp_err h cap hT hL hF 2 (by decide) (fun W hW => h.expr_no (by simpa using hx) cap (hT.below hW)) hA
    · exact pp_no rfl cap hT hL hS hF hM hA
  · exact pp_big rfl cap hT hL hF hA
end Go.Proofs.YtahdnfogdnondaaGreatDoor
