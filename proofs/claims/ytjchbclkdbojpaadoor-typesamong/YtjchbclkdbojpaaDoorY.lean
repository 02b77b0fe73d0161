import Derived.Test.YtjchbclkdbojpaaDoorX
namespace Go.Proofs.YtjchbclkdbojpaaDoor
open Go.RowKit Go.Shelf
set_option linter.unusedVariables false
set_option linter.unusedSimpArgs false

/-- Does it begin with an ampersand? -/
def Ch.isRef : Ch → Bool
  | .ref _ _ _ => true
  | _ => false
/-- A type's text. -/
def txt : Ch → List UInt8
  | .leaf k s => if k = 1 then [105, 54, 52] else if k = 2 then [98, 111, 111, 108] else [35] ++ Lib.itoa s
  | .box c => [66, 111, 120, 60] ++ txt c ++ [62]
  | .ref m r c => hdT m r c.isRef ++ txt c
theorem hdT_len (m : Bool) (r : Int) (x : Bool) (h0 : -9223372036854775808 ≤ r) (h1 : r ≤ 9223372036854775807) : (hdT m r x).length ≤ 29 := by
  have := Lib.itoa_length_le r h0 h1
  unfold hdT
  by_cases hr : 0 ≤ r
  · have h2 : ¬ r < 0 := by omega
    cases m <;> simp [hr, h2] <;> omega
  · have h2 : r < 0 := by omega
    cases m <;> cases x <;> simp [hr, h2]
theorem txt_len : ∀ c : Ch, c.rg → (txt c).length ≤ 30 * c.depth
  | .leaf k s, h => by
    have := Lib.itoa_length_le s h.2.1 h.2.2
    simp only [txt, Ch.depth]
    split
    · simp
    split
    · simp
    · simp; omega
  | .box c, h => by have := txt_len c h; simp [txt, Ch.depth]; omega
  | .ref m r c, h => by have := txt_len c h.2; have := hdT_len m r c.isRef h.1.1 h.1.2; simp [txt, Ch.depth]; omega
/-- The numbers that are told. -/
def Ch.nums : Ch → List Int
  | .leaf k s => if k = 5 then [s] else []
  | .box c => c.nums
  | .ref _ r c => if 0 ≤ r then r :: c.nums else c.nums
abbrev BldT (B b : Nat) (l : List UInt8) (w : World) : Prop := Lib.IsBuilderF 108 5 B b (Lib.byteCells l) w
theorem keepT_others {w w' : World} {b : Nat} (h : Lib.OthersKept 5 (some b) w w') (hb : ∀ f : Fv, ¬ At w b f.o) : KeepT w w' := fun i f hA => h i _ hA (fun e => hb f (by have := Option.some.inj e; subst this; exact hA)) (fun c fz => by simp [Fv.o])
theorem bld_ne {B b : Nat} {bs : List Value} {w : World} (h : Lib.IsBuilderF 108 5 B b bs w) (f : Fv) : ¬ At w b f.o := by
  intro hA
  unfold At at hA
  rcases h with ⟨_, v, hb, _⟩ | ⟨_, v, hb, _⟩ <;> (rw [hb] at hA; simp [Fv.o] at hA)
theorem bld_alloc {B b : Nat} {bs : List Value} {w : World} (h : Lib.IsBuilderF 108 5 B b bs w) (o : Obj) : Lib.IsBuilderF 108 5 B b bs (w.alloc o) := by
  rcases h with ⟨h1, v, hb, ho, hn⟩ | ⟨h1, v, hb, ho, hn⟩
  · exact .inl ⟨h1, v, (At.alloc hb o), ho.alloc o, hn⟩
  · exact .inr ⟨h1, v, (At.alloc hb o), ho.alloc o, hn⟩
theorem bld_below {B b : Nat} {bs : List Value} {w w' : World} (h : Lib.IsBuilderF 108 5 B b bs w) (k : Below w.heap.size w w') : Lib.IsBuilderF 108 5 B b bs w' := by
  have hown : ∀ v, w.ownsRowF B 5 1 v bs.length bs → w'.ownsRowF B 5 1 v bs.length bs := fun v ho => by
    refine ⟨ho.1, ?_⟩
    rcases ho.2 with hn | ⟨g, cap, cur, fz, hv, h1, hg, rest⟩
    · exact .inl hn
    · exact .inr ⟨g, cap, cur, fz, hv, h1, (k.block g (lt_of_block hg)).trans hg, rest⟩
  rcases h with ⟨h1, v, hb, ho, hn⟩ | ⟨h1, v, hb, ho, hn⟩
  · exact .inl ⟨h1, v, At.below hb k, hown v ho, hn⟩
  · exact .inr ⟨h1, v, At.below hb k, hown v ho, hn⟩
/-- A text is written. -/
theorem wr_any (B b : Nat) (l s : List UInt8) (w : World) (h : BldT B b l w) (hl : l.length + s.length ≤ 100000) (hBw : B ≤ w.heap.size) :
    Calls Tryd.prog 86 #[.pointer (some ⟨b, 0, none⟩), .string (str s)] w fun e w' => e = .returned (.tuple #[.int .i64 s.length, .nilIface]) ∧ BldT B b (l ++ s) w' ∧ Below B w w' ∧ KeepT w w' := by
  refine (writeString_any B b (Lib.byteCells l) (str s) w h (by simp [Lib.byteCells, str_size]; omega) hBw).mono fun e w' k => ⟨k.1, ?_, k.2.2.1, keepT_others k.2.2.2 (bld_ne h)⟩
  have := k.2.1
  have e : Lib.byteCells l ++ Lib.strCells (str s) = Lib.byteCells (l ++ s) := by simp [Lib.byteCells, Lib.strCells, str]
  rw [e] at this
  exact this
/-- What write does. -/
def WrC (w0 : World) (c : Ch) : Prop := ∀ (f : Fv) (B b : Nat) (l : List UInt8) (W : World), TyAt w0 f c.ty → BldT B b l W → B ≤ W.heap.size → w0.heap.size ≤ B → Below w0.heap.size w0 W → l.length + (txt c).length ≤ 50000 →
  Calls Tryd.prog 75 #[.pointer (some ⟨b, 0, none⟩), f.v] W fun e w' => e = .returned (.tuple #[]) ∧ BldT B b (l ++ txt c) w' ∧ Below B W w' ∧ KeepT W w'
set_option maxRecDepth 100000 in
set_option maxHeartbeats 2000000 in
theorem write_leaf (w0 : World) (k : Nat) (s : Int) (hk : (k = 1 ∨ k = 2) ∧ s = 0 ∨ k = 5 ∧ 0 ≤ s ∧ s < 32) (hI : k = 5 → ItC w0 s) : WrC w0 (.leaf k s) := by
  intro f B b l W h hb hB hw hbl hlen
  obtain ⟨a, cap, rfl, -⟩ := h.leaf
  have hb1 := bld_alloc hb (tyO k false 0 s a 0 cap)
  have CW : Hid (∀ t W1, BldT B b l W1 → Below B (W.alloc (tyO k false 0 s a 0 cap)) W1 → KeepT W W1 → l.length + t.length ≤ 100000 → Calls Tryd.prog 86 #[.pointer (some ⟨b, 0, none⟩), .string (str t)] W1 fun e w' => e = .returned (.tuple #[.int .i64 t.length, .nilIface]) ∧ BldT B b (l ++ t) w' ∧ Below B W w' ∧ KeepT W w') := fun t W1 h1 h2 h3 h4 => by
    refine (wr_any B b l t W1 h1 h4 (by have := h2.size; simp at this; omega)).mono fun e w' k => ⟨k.1, k.2.1, (((Below.refl B W).alloc hB _).trans h2).trans k.2.2.1, h3.trans k.2.2.2⟩
  show Calls Tryd.prog 75 #[.pointer (some ⟨b, 0, none⟩), tyV k false 0 s a 0 cap] W _
  clear hb h
  rcases hk with ⟨hk, rfl⟩ | ⟨rfl, s0, s1⟩
  · rcases hk with rfl | rfl
    · have HC : Hid (Calls Tryd.prog 86 #[.pointer (some ⟨b, 0, none⟩), .string (str [105, 54, 52])] (W.alloc (tyO 1 false 0 0 a 0 cap)) fun e w' => e = .returned (.tuple #[.int .i64 3, .nilIface]) ∧ BldT B b (l ++ [105, 54, 52]) w' ∧ Below B W w' ∧ KeepT W w') := CW.out [105, 54, 52] _ hb1 (Below.refl _ _) (keepT_alloc _ _) (by simp; omega)
      have e : txt (.leaf 1 0) = [105, 54, 52] := rfl
      rw [e]
      clear hI hlen CW hb1 hbl e
      go_enter Tryd.func75, Tryd.ntmps75
      go_wp2_with (go_at_call 86; refine HC.out.mono ?_; rintro e w1 ⟨rfl, h1, h2, h3⟩)
      go_end0
      exact ⟨rfl, h1, h2, h3⟩
    · have HC : Hid (Calls Tryd.prog 86 #[.pointer (some ⟨b, 0, none⟩), .string (str [98, 111, 111, 108])] (W.alloc (tyO 2 false 0 0 a 0 cap)) fun e w' => e = .returned (.tuple #[.int .i64 4, .nilIface]) ∧ BldT B b (l ++ [98, 111, 111, 108]) w' ∧ Below B W w' ∧ KeepT W w') := CW.out [98, 111, 111, 108] _ hb1 (Below.refl _ _) (keepT_alloc _ _) (by simp; omega)
      have e : txt (.leaf 2 0) = [98, 111, 111, 108] := rfl
      rw [e]
      clear hI hlen CW hb1 hbl e
      go_enter Tryd.func75, Tryd.ntmps75
      go_wp2_with (go_at_call 86; refine HC.out.mono ?_; rintro e w1 ⟨rfl, h1, h2, h3⟩)
      go_end0
      exact ⟨rfl, h1, h2, h3⟩
  · have CI : Hid (Calls Tryd.prog 87 #[.int .i64 s] (W.alloc (tyO 5 false 0 s a 0 cap)) fun e w' => e = .returned (.string (str (Lib.itoa s))) ∧ Below (W.alloc (tyO 5 false 0 s a 0 cap)).heap.size (W.alloc (tyO 5 false 0 s a 0 cap)) w') := hI rfl _ (hbl.alloc hbl.size _)
    have e : txt (.leaf 5 s) = [35] ++ Lib.itoa s := rfl
    rw [e] at hlen ⊢
    have C2 : Hid (∀ W1, Below (W.alloc (tyO 5 false 0 s a 0 cap)).heap.size (W.alloc (tyO 5 false 0 s a 0 cap)) W1 → Calls Tryd.prog 86 #[.pointer (some ⟨b, 0, none⟩), .string ((⟨#[35]⟩ : ByteArray) ++ str (Lib.itoa s))] W1 fun e w' => e = .returned (.tuple #[.int .i64 ([35] ++ Lib.itoa s).length, .nilIface]) ∧ BldT B b (l ++ ([35] ++ Lib.itoa s)) w' ∧ Below B W w' ∧ KeepT W w') := fun W1 hW1 => by
      have := CW.out ([35] ++ Lib.itoa s) W1 (bld_below hb1 hW1) (hW1.mono (by simp; omega)) ((keepT_alloc W _).trans fun i f hA => hA.below hW1) (by omega)
      rw [← str_app] at this
      exact this
    obtain ⟨t, ht⟩ : ∃ t, t = str (Lib.itoa s) := ⟨_, rfl⟩
    obtain ⟨z, hz⟩ : ∃ z, t.size = z := ⟨_, rfl⟩
    have z20 : z ≤ 21 := by rw [← hz, ht]; exact Lib.itoa_length_le s (by omega) (by omega)
    have n1 : ¬ 9223372036854775807 < 1 + z := by omega
    rw [← ht] at CI C2
    clear hI hlen CW hb1 hbl e ht z20
    go_enter Tryd.func75, Tryd.ntmps75
    go_wp2_with (first
      | (go_at_call 87; refine CI.out.mono ?_; rintro e w1 ⟨rfl, h1⟩)
      | (go_at_call 86; refine (C2.out w1 h1).mono ?_; rintro e w2 ⟨rfl, h2, h3, h4⟩))
    go_end0
    exact ⟨rfl, h2, h3, h4⟩
set_option maxRecDepth 100000 in
set_option maxHeartbeats 2000000 in
theorem write_box (w0 : World) (c : Ch) (ih : WrC w0 c) : WrC w0 (.box c) := by
  intro f B b l W h hb hB hw hbl hlen
  obtain ⟨g, off, cap, f', rfl, hc5, ht⟩ := h.box
  have e : txt (.box c) = [66, 111, 120, 60] ++ txt c ++ [62] := rfl
  rw [e] at hlen
  have hlen2 : l.length + (4 + (txt c).length + 1) ≤ 50000 := by simp at hlen; omega
  rw [e]
  have A1 : At (W.alloc (tyO 3 false 0 0 (some ⟨g, off, none⟩) 1 cap)) W.heap.size (Fv.o ⟨3, false, 0, 0, some ⟨g, off, none⟩, 1, cap⟩) := At.new _ _
  have B0 : Below B W (W.alloc (tyO 3 false 0 0 (some ⟨g, off, none⟩) 1 cap)) := (Below.refl B W).alloc hB _
  have C1 : Hid (Calls Tryd.prog 86 #[.pointer (some ⟨b, 0, none⟩), .string (str [66, 111, 120, 60])] (W.alloc (tyO 3 false 0 0 (some ⟨g, off, none⟩) 1 cap)) fun e w' => e = .returned (.tuple #[.int .i64 4, .nilIface]) ∧ BldT B b (l ++ [66, 111, 120, 60]) w' ∧ Below B W w' ∧ KeepT (W.alloc (tyO 3 false 0 0 (some ⟨g, off, none⟩) 1 cap)) w') :=
    (wr_any B b l [66, 111, 120, 60] _ (bld_alloc hb _) (by simp; omega) (by simp; omega)).mono fun e w' k => ⟨k.1, k.2.1, B0.trans k.2.2.1, k.2.2.2⟩
  have C2 : Hid (∀ W1, BldT B b (l ++ [66, 111, 120, 60]) W1 → Below B W W1 → Calls Tryd.prog 75 #[.pointer (some ⟨b, 0, none⟩), f'.v] W1 fun e w' => e = .returned (.tuple #[]) ∧ BldT B b (l ++ [66, 111, 120, 60] ++ txt c) w' ∧ Below B W w' ∧ KeepT W1 w') := fun W1 h1 h2 =>
    (ih f' B b (l ++ [66, 111, 120, 60]) W1 ht h1 (by have := h2.size; omega) hw (hbl.trans (h2.mono hw)) (by simp; omega)).mono fun e w' k => ⟨k.1, k.2.1, h2.trans k.2.2.1, k.2.2.2⟩
  have C3 : Hid (∀ W1, BldT B b (l ++ [66, 111, 120, 60] ++ txt c) W1 → Below B W W1 → Calls Tryd.prog 86 #[.pointer (some ⟨b, 0, none⟩), .string (str [62])] W1 fun e w' => e = .returned (.tuple #[.int .i64 1, .nilIface]) ∧ BldT B b (l ++ ([66, 111, 120, 60] ++ txt c ++ [62])) w' ∧ Below B W w' ∧ KeepT W1 w') := fun W1 h1 h2 =>
    (wr_any B b _ [62] W1 h1 (by simp; omega) (by have := h2.size; omega)).mono fun e w' k => ⟨k.1, by rw [← List.append_assoc, ← List.append_assoc]; exact k.2.1, h2.trans k.2.2.1, k.2.2.2⟩
  have PC : Hid (∀ W1, Below B W W1 → C5 W1 g off f') := fun W1 h2 => hc5.below (hbl.trans (h2.mono hw))
  show Calls Tryd.prog 75 #[.pointer (some ⟨b, 0, none⟩), tyV 3 false 0 0 (some ⟨g, off, none⟩) 1 cap] W _
  clear h hb ht ih hc5 hlen hlen2 e hbl
  have st1 : Stg 1 := .mk 1
  go_enter Tryd.func75, Tryd.ntmps75
  go_wp2_with (first
    | (have _s := st1; clear st1 _s; go_at_call 86; refine C1.out.mono ?_; rintro e w1 ⟨rfl, h1, h2, h3⟩; have st2 : Stg 2 := .mk 2; have k1 := h3; obtain ⟨-, p0, p1, p2, p3, p4⟩ := (k1 _ _ A1).ty; obtain ⟨-, q0, q1, q2, q3, q4⟩ := PC.out w1 h2)
    | (go_at_call 75; refine (C2.out w1 h1 h2).mono ?_; rintro e w2 ⟨rfl, h4, h5, h6⟩)
    | (have _s := st2; clear st2 _s; go_at_call 86; refine (C3.out w2 h4 h5).mono ?_; rintro e w3 ⟨rfl, h7, h8, h9⟩))
  go_end0
  exact ⟨rfl, h7, h8, (keepT_alloc W _).trans (h3.trans (h6.trans h9))⟩
set_option maxRecDepth 100000 in
set_option maxHeartbeats 2000000 in
theorem write_ref (w0 : World) (m : Bool) (r : Int) (c : Ch) (hr1 : r ≤ 9223372036854775807) (hr0 : -9223372036854775808 ≤ r) (hk : ∀ f, TyAt w0 f c.ty → decide (f.k = 4) = c.isRef) (hI : 0 ≤ r → ItC w0 r) (ih : WrC w0 c) : WrC w0 (.ref m r c) := by
  intro f B b l W h hb hB hw hbl hlen
  obtain ⟨g, off, cap, f', rfl, hc5, ht, -, -⟩ := h.ref
  have e : txt (.ref m r c) = hdT m r c.isRef ++ txt c := rfl
  rw [e] at hlen
  have hlen2 : l.length + ((hdT m r c.isRef).length + (txt c).length) ≤ 50000 := by simp at hlen; omega
  rw [e]
  have A1 : At (W.alloc (tyO 4 m r 0 (some ⟨g, off, none⟩) 1 cap)) W.heap.size (Fv.o ⟨4, m, r, 0, some ⟨g, off, none⟩, 1, cap⟩) := At.new _ _
  have B0 : Below B W (W.alloc (tyO 4 m r 0 (some ⟨g, off, none⟩) 1 cap)) := (Below.refl B W).alloc hB _
  have hkk := hk f' ht
  have C0 : Hid (Calls Tryd.prog 88 #[tyV 4 m r 0 (some ⟨g, off, none⟩) 1 cap] (W.alloc (tyO 4 m r 0 (some ⟨g, off, none⟩) 1 cap)) fun e w' => e = .returned (.string (str (hdT m r c.isRef))) ∧ Below (W.alloc (tyO 4 m r 0 (some ⟨g, off, none⟩) 1 cap)).heap.size (W.alloc (tyO 4 m r 0 (some ⟨g, off, none⟩) 1 cap)) w') := by
    have := head_any m r g off cap f' (W.alloc (tyO 4 m r 0 (some ⟨g, off, none⟩) 1 cap)) (hc5.below (hbl.alloc hbl.size _)) hr1 (fun h0 W1 hW1 => hI h0 W1 ((hbl.alloc hbl.size _).trans (hW1.mono (by have := hbl.size; simp; omega))))
    rw [hkk] at this
    exact this
  have C1 : Hid (∀ W1, Below (W.alloc (tyO 4 m r 0 (some ⟨g, off, none⟩) 1 cap)).heap.size (W.alloc (tyO 4 m r 0 (some ⟨g, off, none⟩) 1 cap)) W1 → Calls Tryd.prog 86 #[.pointer (some ⟨b, 0, none⟩), .string (str (hdT m r c.isRef))] W1 fun e w' => e = .returned (.tuple #[.int .i64 (hdT m r c.isRef).length, .nilIface]) ∧ BldT B b (l ++ hdT m r c.isRef) w' ∧ Below B W w' ∧ KeepT (W.alloc (tyO 4 m r 0 (some ⟨g, off, none⟩) 1 cap)) w') := fun W1 hW1 =>
    (wr_any B b l (hdT m r c.isRef) W1 (bld_below (bld_alloc hb _) hW1) (by omega) (by have := hW1.size; simp at this; omega)).mono fun e w' k => ⟨k.1, k.2.1, (B0.trans (hW1.mono (by simp; omega))).trans k.2.2.1, KeepT.trans (fun i f hA => hA.below hW1) k.2.2.2⟩
  have C2 : Hid (∀ W1, BldT B b (l ++ hdT m r c.isRef) W1 → Below B W W1 → Calls Tryd.prog 75 #[.pointer (some ⟨b, 0, none⟩), f'.v] W1 fun e w' => e = .returned (.tuple #[]) ∧ BldT B b (l ++ (hdT m r c.isRef ++ txt c)) w' ∧ Below B W w' ∧ KeepT W1 w') := fun W1 h1 h2 =>
    (ih f' B b (l ++ hdT m r c.isRef) W1 ht h1 (by have := h2.size; omega) hw (hbl.trans (h2.mono hw)) (by simp; omega)).mono fun e w' k => ⟨k.1, by rw [← List.append_assoc]; exact k.2.1, h2.trans k.2.2.1, k.2.2.2⟩
  have PC : Hid (∀ W1, Below B W W1 → C5 W1 g off f') := fun W1 h2 => hc5.below (hbl.trans (h2.mono hw))
  obtain ⟨hh, hhe⟩ : ∃ hh, hh = str (hdT m r c.isRef) := ⟨_, rfl⟩
  rw [← hhe] at C0 C1
  show Calls Tryd.prog 75 #[.pointer (some ⟨b, 0, none⟩), tyV 4 m r 0 (some ⟨g, off, none⟩) 1 cap] W _
  clear h hb ht ih hc5 hlen hlen2 e hbl hkk hk hhe hI
  go_enter Tryd.func75, Tryd.ntmps75
  go_wp2_with (first
    | (go_at_call 88; refine C0.out.mono ?_; rintro e w0' ⟨rfl, h0⟩)
    | (go_at_call 86; refine (C1.out w0' h0).mono ?_; rintro e w1 ⟨rfl, h1, h2, h3⟩; have k1 := h3; obtain ⟨-, p0, p1, p2, p3, p4⟩ := (k1 _ _ A1).ty; obtain ⟨-, q0, q1, q2, q3, q4⟩ := PC.out w1 h2)
    | (go_at_call 75; refine (C2.out w1 h1 h2).mono ?_; rintro e w2 ⟨rfl, h4, h5, h6⟩))
  go_end0
  exact ⟨rfl, h4, h5, (keepT_alloc W _).trans (h3.trans h6)⟩
theorem isRef_k {w0 : World} {c : Ch} (hc : c.ok 32) {f : Fv} (h : TyAt w0 f c.ty) : decide (f.k = 4) = c.isRef := by
  cases c with
  | leaf k s =>
    obtain ⟨a, cap, rfl, -⟩ := h.leaf
    have : (k = 1 ∨ k = 2) ∧ s = 0 ∨ k = 5 ∧ 0 ≤ s ∧ s < 32 := hc
    exact decide_eq_false (show ¬ k = 4 by omega)
  | box c => obtain ⟨g, off, cap, f', rfl, -⟩ := h.box; rfl
  | ref m r c => obtain ⟨g, off, cap, f', rfl, -⟩ := h.ref; rfl
theorem write_all (w0 : World) : ∀ c : Ch, c.ok 32 → c.rg → (∀ n ∈ c.nums, ItC w0 n) → WrC w0 c
  | .leaf k s, h, hr, hI => write_leaf w0 k s h (fun hk => hI s (by simp [Ch.nums, hk]))
  | .box c, h, hr, hI => write_box w0 c (write_all w0 c h hr hI)
  | .ref m r c, h, hr, hI => write_ref w0 m r c hr.1.2 hr.1.1 (fun f hf => isRef_k h.2 hf) (fun h0 => hI r (by simp [Ch.nums, h0])) (write_all w0 c h.2 hr.2 (fun n hn => hI n (by unfold Ch.nums; split <;> simp [hn])))
end Go.Proofs.YtjchbclkdbojpaaDoor
