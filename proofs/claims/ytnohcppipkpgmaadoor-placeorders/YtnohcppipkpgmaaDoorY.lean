import Derived.Test.YtnohcppipkpgmaaDoorX
namespace Go.Proofs.YtnohcppipkpgmaaDoor
open Go.RowKit Go.Shelf
set_option linter.unusedVariables false
set_option linter.unusedSimpArgs false

/-- Does it begin with an ampersand? -/
def Ch.isRef : Ch → Bool
  | .ref _ _ _ => true
  | _ => false
/-- A type's text. -/
def txt : Ch → List UInt8
  | .leaf k s => if k = 1 then [105, 54, 52] else if k = 2 then [98, 111, 111, 108] else [35] ++ Lib.itoa s
  | .box c => [66, 111, 120, 60] ++ txt c ++ [62]
  | .ref m r c => hdT m r c.isRef ++ txt c
theorem hdT_len (m : Bool) (r : Int) (x : Bool) (h0 : -9223372036854775808 ≤ r) (h1 : r ≤ 9223372036854775807) : (hdT m r x).length ≤ 29 := by
  have := Lib.itoa_length_le r h0 h1
  unfold hdT
  by_cases hr : 0 ≤ r
  · have h2 : ¬ r < 0 := by omega
    cases m <;> simp [hr, h2] <;> omega
  · have h2 : r < 0 := by omega
    cases m <;> cases x <;> simp [hr, h2]
theorem txt_len : ∀ c : Ch, c.rg → (txt c).length ≤ 30 * c.depth
  | .leaf k s, h => by
    have := Lib.itoa_length_le s h.2.1 h.2.2
    simp only [txt, Ch.depth]
    split
    · simp
    split
    · simp
    · simp; omega
  | .box c, h => by have := txt_len c h; simp [txt, Ch.depth]; omega
  | .ref m r c, h => by have := txt_len c h.2; have := hdT_len m r c.isRef h.1.1 h.1.2; simp [txt, Ch.depth]; omega
/-- The numbers that are told. -/
def Ch.nums : Ch → List Int
  | .leaf k s => if k = 5 then [s] else []
  | .box c => c.nums
  | .ref _ r c => if 0 ≤ r then r :: c.nums else c.nums
abbrev BldT (B b : Nat) (l : List UInt8) (w : World) : Prop := Lib.IsBuilderF 92 5 B b (Lib.byteCells l) w
theorem keepT_others {w w' : World} {b : Nat} (h : Lib.OthersKept 5 (some b) w w') (hb : ∀ f : Fv, ¬ At w b f.o) : KeepT w w' := fun i f hA => h i _ hA (fun e => hb f (by have := Option.some.inj e; subst this; exact hA)) (fun c fz => by simp [Fv.o])
theorem bld_ne {B b : Nat} {bs : List Value} {w : World} (h : Lib.IsBuilderF 92 5 B b bs w) (f : Fv) : ¬ At w b f.o := by
  intro hA
  unfold At at hA
  rcases h with ⟨_, v, hb, _⟩ | ⟨_, v, hb, _⟩ <;> (rw [hb] at hA; simp [Fv.o] at hA)
theorem bld_alloc {B b : Nat} {bs : List Value} {w : World} (h : Lib.IsBuilderF 92 5 B b bs w) (o : Obj) : Lib.IsBuilderF 92 5 B b bs (w.alloc o) := by
  rcases h with ⟨h1, v, hb, ho, hn⟩ | ⟨h1, v, hb, ho, hn⟩
  · exact .inl ⟨h1, v, (At.alloc hb o), ho.alloc o, hn⟩
  · exact .inr ⟨h1, v, (At.alloc hb o), ho.alloc o, hn⟩
theorem bld_below {B b : Nat} {bs : List Value} {w w' : World} (h : Lib.IsBuilderF 92 5 B b bs w) (k : Below w.heap.size w w') : Lib.IsBuilderF 92 5 B b bs w' := by
  have hown : ∀ v, w.ownsRowF B 5 1 v bs.length bs → w'.ownsRowF B 5 1 v bs.length bs := fun v ho => by
    refine ⟨ho.1, ?_⟩
    rcases ho.2 with hn | ⟨g, cap, cur, fz, hv, h1, hg, rest⟩
    · exact .inl hn
    · exact .inr ⟨g, cap, cur, fz, hv, h1, (k.block g (lt_of_block hg)).trans hg, rest⟩
  rcases h with ⟨h1, v, hb, ho, hn⟩ | ⟨h1, v, hb, ho, hn⟩
  · exact .inl ⟨h1, v, At.below hb k, hown v ho, hn⟩
  · exact .inr ⟨h1, v, At.below hb k, hown v ho, hn⟩
/-- A text is written. -/
theorem wr_any (B b : Nat) (l s : List UInt8) (w : World) (h : BldT B b l w) (hl : l.length + s.length ≤ 100000) (hBw : B ≤ w.heap.size) :
    Calls Tryd.prog 50 #[.pointer (some ⟨b, 0, none⟩), .string (str s)] w fun e w' => e = .returned (.tuple #[.int .i64 s.length, .nilIface]) ∧ BldT B b (l ++ s) w' ∧ Below B w w' ∧ KeepT w w' := by
  refine (writeString_any B b (Lib.byteCells l) (str s) w h (by simp [Lib.byteCells, str_size]; omega) hBw).mono fun e w' k => ⟨k.1, ?_, k.2.2.1, keepT_others k.2.2.2 (bld_ne h)⟩
  have := k.2.1
  have e : Lib.byteCells l ++ Lib.strCells (str s) = Lib.byteCells (l ++ s) := by simp [Lib.byteCells, Lib.strCells, str]
  rw [e] at this
  exact this
theorem isRef_k {w0 : World} {c : Ch} (hc : c.ok 32) {f : Fv} (h : TyAt w0 f c.ty) : decide (f.k = 4) = c.isRef := by
  cases c with
  | leaf k s =>
    obtain ⟨a, cap, rfl, -⟩ := h.leaf
    have : (k = 1 ∨ k = 2) ∧ s = 0 ∨ k = 5 ∧ 0 ≤ s ∧ s < 32 := hc
    exact decide_eq_false (show ¬ k = 4 by omega)
  | box c => obtain ⟨g, off, cap, f', rfl, -⟩ := h.box; rfl
  | ref m r c => obtain ⟨g, off, cap, f', rfl, -⟩ := h.ref; rfl
end Go.Proofs.YtnohcppipkpgmaaDoor
