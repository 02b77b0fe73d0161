import Derived.Test.YtnohcppipkpgmaaDoorRc
import Derived.Test.YtnohcppipkpgmaaDoorY
namespace Go.Proofs.YtnohcppipkpgmaaDoor
open Go.RowKit Go.Shelf
set_option linter.unusedVariables false
set_option linter.unusedSimpArgs false

/-- Has it a number that no place has? -/
def badP (l : Int) (p : List Int) : Prop := l < 0 ∨ ∃ s ∈ p, s < -1
/-- What Text tells. -/
noncomputable def txP (l : Int) (p : List Int) : List UInt8 := open Classical in if badP l p then [] else txtP l p
theorem txP_bad {l : Int} {p : List Int} (h : badP l p) : txP l p = [] := by unfold txP; rw [if_pos h]
theorem txP_ok {l : Int} {p : List Int} (h : ¬ badP l p) : txP l p = txtP l p := by unfold txP; rw [if_neg h]
theorem stT_len {s : Int} (h : -9223372036854775808 ≤ s ∧ s ≤ 9223372036854775807) : (stT s).length ≤ 22 := by
  have := Lib.itoa_length_le s h.1 h.2
  unfold stT
  split
  · simp
  · simp; omega
theorem flat_len : ∀ p : List Int, (∀ x ∈ p, -9223372036854775808 ≤ x ∧ x ≤ 9223372036854775807) → ((p.map stT).flatten).length ≤ 22 * p.length
  | [], _ => by simp
  | s :: p, h => by
    have h1 := stT_len (h s (List.mem_cons_self ..))
    have h2 := flat_len p (fun x hx => h x (List.mem_cons_of_mem _ hx))
    rw [List.map_cons, List.flatten_cons, List.length_append, List.length_cons]
    omega
theorem flat_next {p : List Int} {i : Nat} {x : Int} (h : p[i]? = some x) : ((p.take (i + 1)).map stT).flatten = ((p.take i).map stT).flatten ++ stT x := by
  rw [List.take_add_one, h, List.map_append, List.flatten_append]
  simp
set_option maxRecDepth 100000 in
set_option maxHeartbeats 4000000 in
/-- Text. -/
theorem Text_any {w : World} {x : Pt} {p : List Int} (h : PAt w x p) (hn : p.length ≤ 1000) (hI : ∀ n : Int, 0 ≤ n → (n = x.l ∨ n ∈ p) → ItC w n) :
    Calls Tryd.prog 29 #[x.v] w fun e w' => e = .returned (.string (str (txP x.l p))) ∧ Below w.heap.size w w' := by
  obtain ⟨l, a, n, cap⟩ := x
  have hlen : n = p.length := h.row.len
  have l0 : -9223372036854775808 ≤ l := h.l0
  have l1 : l ≤ 9223372036854775807 := h.l1
  obtain ⟨R, hR⟩ : ∃ R, R = str (txP l p) := ⟨_, rfl⟩
  show Calls Tryd.prog 29 #[plV l a n cap] w fun e w' => e = .returned (.string (str (txP l p))) ∧ Below w.heap.size w w'
  rw [← hR]
  by_cases hl : l < 0
  · rw [txP_bad (.inl hl)] at hR
    have e : R = (⟨#[]⟩ : ByteArray) := hR
    subst e
    clear hR h hI
    go_enter Tryd.func29, Tryd.ntmps29
    go_wp2_with fail
    go_ret
    exact ⟨rfl, belA (Below.refl _ _)⟩
  · have HP := hidD h
    have HN := hidD hlen
    have HR := hidD hR
    have A0 : At ((w.alloc (plO l a n cap)).alloc (.cells #[.pointer none, .slice none 0 0] 92)) w.heap.size (plO l a n cap) := (At.new w _).alloc _
    have HA0 := hidD A0
    have h0 : BldT (w.heap.size + 1) (w.heap.size + 1) [] ((w.alloc (plO l a n cap)).alloc (.cells #[.pointer none, .slice none 0 0] 92)) := .inl ⟨Nat.le_refl _, .slice none 0 0, at_snd w _ _, World.ownsRowF_of (World.ownsRow_nil _ _ _ _), by simp [Value.ownBlock]⟩
    have HB0 := hidD h0
    have CI : Hid (∀ v : Int, 0 ≤ v → (v = l ∨ v ∈ p) → ∀ W, Below w.heap.size w W → Calls Tryd.prog 51 #[.int .i64 v] W fun e w' => e = .returned (.string (str (Lib.itoa v))) ∧ Below W.heap.size W w') := fun v v0 v1 => hI v v0 v1
    have CW : Hid (∀ (s t : List UInt8) W, BldT (w.heap.size + 1) (w.heap.size + 1) t W → t.length + s.length ≤ 100000 → w.heap.size + 1 ≤ W.heap.size → Calls Tryd.prog 50 #[.pointer (some ⟨w.heap.size + 1, 0, none⟩), .string (str s)] W fun e w' => e = .returned (.tuple #[.int .i64 s.length, .nilIface]) ∧ BldT (w.heap.size + 1) (w.heap.size + 1) (t ++ s) w' ∧ Below (w.heap.size + 1) W w') := fun s t W h1 h2 h3 =>
      (wr_any _ _ t s W h1 h2 h3).mono fun e w' k => ⟨k.1, k.2.1, k.2.2.1⟩
    have CT : Hid (∀ t W, BldT (w.heap.size + 1) (w.heap.size + 1) t W → w.heap.size + 1 ≤ W.heap.size → Calls Tryd.prog 52 #[.pointer (some ⟨w.heap.size + 1, 0, none⟩)] W fun e w' => e = .returned (.string (str t)) ∧ Below (w.heap.size + 1) W w') := fun t W h1 h2 =>
      (Tryd.Builder_String_any_k _ _ t W h1 h2).mono fun e w' k => ⟨k.1, k.2.2.1⟩
    obtain ⟨tl, htl⟩ : ∃ t, t = str (Lib.itoa l) := ⟨_, rfl⟩
    obtain ⟨z, hz⟩ : ∃ z, tl.size = z := ⟨_, rfl⟩
    have z20 : z ≤ 21 := by rw [← hz, htl]; exact Lib.itoa_length_le l l0 l1
    have n1 : ¬ 9223372036854775807 < 1 + z := by omega
    have C1 := hidD (CI.out l (by omega) (.inl rfl))
    rw [← htl] at C1
    have C2 : Hid (∀ W, BldT (w.heap.size + 1) (w.heap.size + 1) [] W → w.heap.size + 1 ≤ W.heap.size → Calls Tryd.prog 50 #[.pointer (some ⟨w.heap.size + 1, 0, none⟩), .string ((⟨#[95]⟩ : ByteArray) ++ tl)] W fun e w' => e = .returned (.tuple #[.int .i64 ([95] ++ Lib.itoa l).length, .nilIface]) ∧ BldT (w.heap.size + 1) (w.heap.size + 1) ([95] ++ Lib.itoa l) w' ∧ Below (w.heap.size + 1) W w') := fun W h1 h2 => by
      have := CW.out ([95] ++ Lib.itoa l) [] W h1 (by have := Lib.itoa_length_le l l0 l1; simp; omega) h2
      rw [← str_app, ← htl] at this
      exact this
    clear h hI hlen hR A0 h0 htl z20 l0 l1
    go_enter Tryd.func29, Tryd.ntmps29
    go_wp2_with (first
      | (go_at_call 51; refine (C1.out _ (belA (belA (Below.refl _ _)))).mono ?_; rintro e w1 ⟨rfl, hb1⟩; have HA1 := hidD (HA0.out.below hb1); have HD1 := hidD (bld_below HB0.out hb1); have HB1 := hidD (below2 hb1); have HS1 := hidD hb1.size; clear hb1)
      | (go_at_call 50; refine (C2.out w1 HD1.out (by have := HS1.out; simp at this; omega)).mono ?_; rintro e w2 ⟨rfl, h2, h3⟩; have HA2 := hidD (HA1.out.belowB h3 (by omega)); have HD2 := hidD h2; have HB2 := hidD (HB1.out.trans (h3.mono (by omega))); have HS2 := hidD h3.size; have HS1' : Hid (w.heap.size + 1 ≤ w2.heap.size) := (by have := HS1.out; simp at this; have := HS2.out; show w.heap.size + 1 ≤ w2.heap.size; omega); clear h2 h3; obtain ⟨c0, c1⟩ := HA2.out.pl))
    have HL := hidD hl
    clear hl n1 hz C1 C2 c0 c1 HA0 HB0 HA1 HD1 HB1 HS1
    go_loopw [17] (fun v V => ∃ i : Nat, i ≤ n ∧ v = .int .i64 i ∧ (∀ s ∈ p.take i, -1 ≤ s) ∧ BldT (w.heap.size + 1) (w.heap.size + 1) ([95] ++ Lib.itoa l ++ ((p.take i).map stT).flatten) V ∧ Below w.heap.size w V ∧ w.heap.size + 1 ≤ V.heap.size) (fun v _ => n - (intOf v).toNat)
    case atStart => exact ⟨0, Nat.zero_le _, rfl, fun s hs => by simp at hs, by simpa using HD2.out, HB2.out, by have := HS1'.out; omega⟩
    case round =>
      obtain ⟨i, hi, rfl, hall, hD, hB, hS⟩ := hrel
      have HALL := hidD hall
      have HD := hidD hD
      have HB := hidD hB
      have HS := hidD hS
      clear hall hD hB hS HD2 HB2 HS2 HA2
      by_cases hlt : i < n
      · obtain ⟨x, hx⟩ : ∃ x, p[i]? = some x := ⟨_, List.getElem?_eq_getElem (by have := HN.out; omega)⟩
        obtain ⟨g, off, ea, hg, hc, x0, x1⟩ := (HP.out.row.bel HB.out).nth hx
        have ea2 : a = some ⟨g, off, none⟩ := ea
        have HX := hidD hx
        subst ea2
        have hlen : Hid (([95] ++ Lib.itoa l ++ ((p.take i).map stT).flatten).length + 22 ≤ 100000) := by
          have e1 := Lib.itoa_length_le l HP.out.l0 HP.out.l1
          have e2 := flat_len (p.take i) (fun y hy => HP.out.row.rng y (List.mem_of_mem_take hy))
          have e3 : (p.take i).length ≤ p.length := by rw [List.length_take]; omega
          show ([95] ++ Lib.itoa l ++ ((p.take i).map stT).flatten).length + 22 ≤ 100000
          rw [List.length_append, List.length_append]
          have e4 : ([95] : List UInt8).length = 1 := rfl
          omega
        have mem : Hid (x ∈ p) := List.mem_of_getElem? hx
        have NX : Hid (([95] ++ Lib.itoa l ++ ((p.take (i + 1)).map stT).flatten) = ([95] ++ Lib.itoa l ++ ((p.take i).map stT).flatten) ++ stT x) := by
          show ([95] ++ Lib.itoa l ++ ((p.take (i + 1)).map stT).flatten) = ([95] ++ Lib.itoa l ++ ((p.take i).map stT).flatten) ++ stT x
          rw [flat_next hx, ← List.append_assoc]
        have AX : Hid (-1 ≤ x → ∀ s ∈ p.take (i + 1), -1 ≤ s) := fun hx1 s hs => by
          rw [List.take_add_one, hx] at hs
          rcases List.mem_append.1 hs with hs | hs
          · exact HALL.out s hs
          · simp at hs
            omega
        obtain ⟨T, hT⟩ : ∃ T, T = [95] ++ Lib.itoa l ++ ((p.take i).map stT).flatten := ⟨_, rfl⟩
        rw [← hT] at HD hlen NX
        have j0 : (0 : Int) ≤ (i : Int) := by omega
        have j1 : (i : Int) < (n : Int) := by omega
        have j2 : (i : Int) ≤ 1000 := by have := HN.out; omega
        clear hx ea hT
        by_cases b1 : x < -1
        · have hr : R = (⟨#[]⟩ : ByteArray) := by
            have := HR.out
            rw [txP_bad (.inr ⟨x, mem.out, b1⟩)] at this
            exact this
          subst hr
          clear x0 x1
          go_wp2_with fail
          go_ret
          exact ⟨rfl, HB.out⟩
        · by_cases b2 : x = -1
          · subst b2
            have C : Hid (Calls Tryd.prog 50 #[.pointer (some ⟨w.heap.size + 1, 0, none⟩), .string ⟨#[46, 42]⟩] wr fun e w' => e = .returned (.tuple #[.int .i64 2, .nilIface]) ∧ BldT (w.heap.size + 1) (w.heap.size + 1) (T ++ [46, 42]) w' ∧ Below (w.heap.size + 1) wr w') :=
              CW.out [46, 42] T wr HD.out (by have := hlen.out; simp; omega) HS.out
            clear x0 x1 b1
            go_wp2_with (go_at_call 50; refine C.out.mono ?_; rintro e w3 ⟨rfl, h3, h4⟩)
            refine ⟨⟨i + 1, hlt, rfl, AX.out (by omega), ?_, HB.out.trans (h4.mono (by omega)), Nat.le_trans HS.out h4.size⟩, ?_⟩
            · rw [NX.out]
              exact h3
            · show n - ((i : Int) + 1).toNat < n - (i : Int).toNat
              omega
          · have e1 : stT x = [46] ++ Lib.itoa x := if_neg b2
            obtain ⟨tx, htx⟩ : ∃ t, t = str (Lib.itoa x) := ⟨_, rfl⟩
            obtain ⟨z, hz⟩ : ∃ z, tx.size = z := ⟨_, rfl⟩
            have z20 : z ≤ 21 := by rw [← hz, htx]; exact Lib.itoa_length_le x x0 x1
            have n1 : ¬ 9223372036854775807 < 1 + z := by omega
            have C1 := hidD (CI.out x (by omega) (.inr mem.out) wr HB.out)
            rw [← htx] at C1
            have C2 : Hid (∀ W, Below wr.heap.size wr W → Calls Tryd.prog 50 #[.pointer (some ⟨w.heap.size + 1, 0, none⟩), .string ((⟨#[46]⟩ : ByteArray) ++ tx)] W fun e w' => e = .returned (.tuple #[.int .i64 ([46] ++ Lib.itoa x).length, .nilIface]) ∧ BldT (w.heap.size + 1) (w.heap.size + 1) (T ++ stT x) w' ∧ Below (w.heap.size + 1) wr w') := fun W hW => by
              have := CW.out ([46] ++ Lib.itoa x) T W (bld_below HD.out hW) (by have := hlen.out; have := Lib.itoa_length_le x x0 x1; rw [List.length_append]; have e4 : ([46] : List UInt8).length = 1 := rfl; omega) (Nat.le_trans HS.out hW.size)
              rw [← str_app, ← htx, ← e1] at this
              exact this.mono fun e w' k => ⟨by rw [k.1, e1], k.2.1, (hW.mono HS.out).trans k.2.2⟩
            have HX1 : Hid (-1 ≤ x) := by show -1 ≤ x; omega
            clear x0 x1 htx e1 z20
            go_wp2_with (first
              | (go_at_call 51; refine C1.out.mono ?_; rintro e w2 ⟨rfl, hb2⟩)
              | (go_at_call 50; refine (C2.out w2 hb2).mono ?_; rintro e w3 ⟨rfl, h3, h4⟩))
            refine ⟨⟨i + 1, hlt, rfl, AX.out HX1.out, ?_, HB.out.trans (h4.mono (by omega)), Nat.le_trans HS.out h4.size⟩, ?_⟩
            · rw [NX.out]
              exact h3
            · show n - ((i : Int) + 1).toNat < n - (i : Int).toNat
              omega
      · obtain rfl : i = n := by omega
        have lt : ¬ (i : Int) < (i : Int) := by omega
        have hr : R = str ([95] ++ Lib.itoa l ++ ((p.take i).map stT).flatten) := by
          have e := HALL.out
          have e2 := HN.out
          rw [e2, List.take_length] at e ⊢
          rw [HR.out, txP_ok]
          · rfl
          · rintro (h1 | ⟨s, hs, h1⟩)
            · have := HL.out
              omega
            · have := e s hs
              omega
        have C : Hid (Calls Tryd.prog 52 #[.pointer (some ⟨w.heap.size + 1, 0, none⟩)] wr fun e w' => e = .returned (.string R) ∧ Below (w.heap.size + 1) wr w') := by
          have := CT.out _ wr HD.out HS.out
          rw [← hr] at this
          exact this
        clear hr
        go_wp2_with (go_at_call 52; refine C.out.mono ?_; rintro e w3 ⟨rfl, h3⟩)
        go_ret
        exact ⟨rfl, HB.out.trans (h3.mono (by omega))⟩
end Go.Proofs.YtnohcppipkpgmaaDoor
