import Derived.Test.YtpnamkpoapcgeaaDoorLd
namespace Go.Proofs.YtpnamkpoapcgeaaDoor
open Go.RowKit Go.Shelf
set_option linter.unusedVariables false
set_option linter.unusedSimpArgs false

theorem tight_of (v : Value) (s : ByteArray) (er : Int) (w : World) (h : Calls Tryd.prog 38 #[v, .func (.func 41) #[] #[]] w fun e w' => e = .returned (.tuple #[.string s, .int .i64 er]) ∧ Below w.heap.size w w') :
    Calls Tryd.prog 21 #[v] w fun e w' => e = .returned (.tuple #[.string s, .int .i64 er]) ∧ Below w.heap.size w w' := by
  have H : Hid (Calls Tryd.prog 38 #[v, .func (.func 41) #[] #[]] w fun e w' => e = .returned (.tuple #[.string s, .int .i64 er]) ∧ Below w.heap.size w w') := h
  clear h
  go_enter Tryd.func21, Tryd.ntmps21
  go_wp2_with (go_at_call 38; refine H.out.mono ?_; rintro e w1 ⟨rfl, hb1⟩)
  go_ret2
  exact ⟨rfl, hb1⟩
theorem values_any (a : Option Addr) (n c : Nat) (w : World) :
    Calls Tryd.prog 32 #[.slice a n c] w fun e w' => ∃ b, e = .returned (.func (.func 54) #[] #[.pointer (some ⟨b, 0, none⟩)]) ∧ At w' b (One (.slice a n c) 23) ∧ w.heap.size ≤ b ∧ Below w.heap.size w w' := by
  go_enter Tryd.func32, Tryd.ntmps32
  go_wp2
  go_ret
  exact ⟨w.heap.size, rfl, At.new _ _, Nat.le_refl _, belA (Below.refl _ _)⟩
theorem each_any (S : List UInt8) (hm : S.length ≤ maxLen) (w : World) :
    Calls Tryd.prog 13 #[.string (str S)] w fun e w' => ∃ b v, e = .returned (.func (.func 54) #[] #[.pointer (some ⟨b, 0, none⟩)]) ∧ At w' b (One v 23) ∧ TRow w' w.heap.size v (lexToks S) ∧ Below w.heap.size w w' := by
  have HL : Hid (Calls Tryd.prog 10 #[.string (str S)] w fun e w' => ∃ (v : Value) (p er : Int), e = .returned (.tuple #[v, .int .i64 p, .int .i64 er]) ∧ TRow w' w.heap.size v (lexToks S) ∧ Below w.heap.size w w') := lex_row w S hm
  go_enter Tryd.func13, Tryd.ntmps13
  go_wp2_with (first
    | (go_at_call 10; refine HL.out.mono ?_; rintro e w1 ⟨v, p, er, rfl, hr, hb1⟩; obtain ⟨sa, sc, rfl⟩ := row_slice hr)
    | (go_at_call 32; refine (values_any _ _ _ w1).mono ?_; rintro e w2 ⟨b, rfl, hA, hle, hb2⟩))
  go_ret
  exact ⟨b, _, rfl, hA, ownsRow_kept hr (grown_of_below (r := none) hb2) (fun k e => by cases e), below_aft hb1 hb2⟩
set_option maxRecDepth 100000 in
theorem line_long (S : List UInt8) (p : Int) (w : World) (hS : 65536 < S.length) (hm : S.length ≤ maxLen) :
    Calls Tryd.prog 23 #[.string (str S), .int .i64 p] w fun e w' => e = .returned (.tuple #[.int .i64 0, .int .i64 0, .int .i64 3]) ∧ w' = w := by
  have hsz := str_size S
  have hgt : (65536 : Int) < (S.length : Int) := by omega
  go_enter Tryd.func23, Tryd.ntmps23
  go_wp2
  exact bodyPost_ret (v := .tuple #[.int .i64 0, .int .i64 0, .int .i64 3]) (by simp [results, Tryd.results23, go_sem]) rfl ⟨rfl, rfl⟩
set_option maxRecDepth 100000 in
theorem line_arg (S : List UInt8) (p : Int) (w : World) (hS : S.length ≤ 65536) (hp : p < 0 ∨ (S.length : Int) < p) :
    Calls Tryd.prog 23 #[.string (str S), .int .i64 p] w fun e w' => e = .returned (.tuple #[.int .i64 0, .int .i64 0, .int .i64 2]) ∧ w' = w := by
  have hsz := str_size S
  have hgt : ¬ (65536 : Int) < (S.length : Int) := by omega
  by_cases h0 : p < 0
  · go_enter Tryd.func23, Tryd.ntmps23
    go_wp2
    exact bodyPost_ret (v := .tuple #[.int .i64 0, .int .i64 0, .int .i64 2]) (by simp [results, Tryd.results23, go_sem]) rfl ⟨rfl, rfl⟩
  · have h1 : (S.length : Int) < p := by omega
    go_enter Tryd.func23, Tryd.ntmps23
    go_wp2
    exact bodyPost_ret (v := .tuple #[.int .i64 0, .int .i64 0, .int .i64 2]) (by simp [results, Tryd.results23, go_sem]) rfl ⟨rfl, rfl⟩
set_option maxRecDepth 100000 in
theorem line_ok (S : List UInt8) (p : Nat) (w : World) (hS : S.length ≤ 65536) (hp : p ≤ S.length) :
    Calls Tryd.prog 23 #[.string (str S), .int .i64 p] w fun e w' => e = .returned (.tuple #[.int .i64 (1 + Lib.countByte (S.take p) 10), .int .i64 ((p : Int) - Lib.lastIndexByte (str (S.take p)) 10), .int .i64 0]) ∧ w' = w := by
  have hsz := str_size S
  have hgt : ¬ (65536 : Int) < (S.length : Int) := by omega
  have h0 : ¬ (p : Int) < 0 := by omega
  have h1 : ¬ (S.length : Int) < (p : Int) := by omega
  have h2 : (0 : Int) ≤ (p : Int) := by omega
  have h3 : (p : Int) ≤ (S.length : Int) := by omega
  have hx : (str S).extract 0 p = str (S.take p) := by rw [str_ext, List.drop_zero]
  have HC : Hid (Calls Tryd.prog 43 #[.string (str (S.take p)), .string ⟨#[10]⟩] w fun e w' => e = .returned (.int .i64 (Lib.countByte (S.take p) 10)) ∧ w' = w) := Tryd.strings_Count_one (str (S.take p)) 10 w
  have HI : Hid (Calls Tryd.prog 42 #[.string (str (S.take p)), .int .u8 10] w fun e w' => e = .returned (.int .i64 (Lib.lastIndexByte (str (S.take p)) 10)) ∧ w' = w) := Tryd.strings_LastIndexByte (str (S.take p)) 10 (by rw [str_size, List.length_take]; omega) w
  have hc : Lib.countByte (S.take p) 10 ≤ 65536 := by
    unfold Lib.countByte
    have := List.count_le_length (a := (10 : UInt8)) (l := S.take p)
    rw [List.length_take] at this
    omega
  have hi : -1 ≤ Lib.lastIndexByte (str (S.take p)) 10 ∧ Lib.lastIndexByte (str (S.take p)) 10 ≤ 65536 := by
    unfold Lib.lastIndexByte
    have hz : (str (S.take p)).size ≤ 65536 := by rw [str_size, List.length_take]; omega
    rcases Lib.lastIdx_spec (str (S.take p)) 10 (str (S.take p)).size with ⟨h, _⟩ | ⟨i, hi, h, _⟩ <;> rw [h] <;> omega
  generalize Lib.countByte (S.take p) 10 = cn at *
  generalize Lib.lastIndexByte (str (S.take p)) 10 = li at *
  have w1 : IntKind.i64.wrap (1 + (cn : Int)) = 1 + (cn : Int) := by rw [IntKind.wrap_i64]; omega
  have w2 : IntKind.i64.wrap ((p : Int) - li) = (p : Int) - li := by rw [IntKind.wrap_i64]; omega
  go_enter Tryd.func23, Tryd.ntmps23
  go_wp2_with (first
    | (go_at_call 42; refine HI.out.mono ?_; rintro e w1 ⟨rfl, rfl⟩)
    | (go_at_call 43; refine HC.out.mono ?_; rintro e w1 ⟨rfl, rfl⟩))
  exact bodyPost_ret (v := .tuple #[.int .i64 (1 + (cn : Int)), .int .i64 ((p : Int) - li), .int .i64 0]) (by simp [results, Tryd.results23, go_sem]) rfl ⟨rfl, rfl⟩
end Go.Proofs.YtpnamkpoapcgeaaDoor
