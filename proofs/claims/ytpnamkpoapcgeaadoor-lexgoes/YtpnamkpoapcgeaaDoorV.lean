import Derived.Test.YtpnamkpoapcgeaaDoorT
namespace Go.Proofs.YtpnamkpoapcgeaaDoor
open Go.RowKit
set_option linter.unusedVariables false
set_option linter.unusedSimpArgs false

/-- What the reference tells of the token at a place: where it ends, whether it is one, and then which. -/
def OneV (p : Nat) (R : Rd) (v : Value) : Prop := ∃ (k a n : Int) (s : ByteArray), v = .tuple #[tok k a n s, .int .i64 ((p + R.far : Nat) : Int), .bool (R.k != 0)] ∧ (R.k ≠ 0 → k = R.k ∧ a = p ∧ n = R.n ∧ s = str R.s)
theorem intGo_k : ∀ (l : List UInt8) (v n : Nat), ((intGo v n l).k = 5 ∨ (intGo v n l).k = 0) ∧ (intGo v n l).s = []
  | [], v, n => by simp [intGo]
  | c :: r, v, n => by
    unfold intGo
    split
    · split
      · simp
      · split
        · simp
        · exact intGo_k r _ _
    · simp
set_option maxRecDepth 100000 in
set_option maxHeartbeats 600000 in
theorem one_num (w : World) (S : List UInt8) (p : Nat) (c : UInt8) (hS : S.length ≤ maxLen) (hp : p < S.length) (hcl : c = S[p]) (hd : isD c.toNat = true) (h1 : isL c.toNat = false) (h2 : isG c.toNat = false) :
    Calls Tryd.prog 31 #[.string (str S), .int .i64 (p : Int)] w fun e w' => (∃ v, e = .returned v ∧ OneV p (intGo 0 0 (S.drop p)) v) ∧ Below w.heap.size w w' := by
  have HNu : Hid (∀ W, Calls Tryd.prog 52 #[.string (str S), .int .i64 (p : Int)] W fun e w' => e = .returned (numV p (intGo 0 0 (S.drop p))) ∧ w' = W) := fun W => rNumber_any W S p hS hp
  have hK := intGo_k (S.drop p) 0 0
  unfold maxLen at hS
  have hsz : (str S).size = S.length := str_size S
  have hc : (str S)[p]'(by rw [hsz]; exact hp) = c := by rw [hcl]; rfl
  have gp0 : (0 : Int) ≤ (p : Int) := by omega
  have gp1 : (p : Int) < (S.length : Int) := by omega
  generalize intGo 0 0 (S.drop p) = R at *
  obtain ⟨Rk, Rn, Rs, Rf⟩ := R
  dsimp only at hK
  obtain ⟨hk5, hks⟩ := hK
  subst hks
  have HL : Hid (∀ W, Calls Tryd.prog 47 #[.int .u8 (c.toNat : Int)] W fun e w' => e = .returned (.bool false) ∧ w' = W) := fun W => by have := rLetter_any c.toNat W; rw [h1] at this; exact this
  have HG : Hid (∀ W, Calls Tryd.prog 48 #[.int .u8 (c.toNat : Int)] W fun e w' => e = .returned (.bool false) ∧ w' = W) := fun W => by have := rGreat_any c.toNat W; rw [h2] at this; exact this
  have HD : Hid (∀ W, Calls Tryd.prog 51 #[.int .u8 (c.toNat : Int)] W fun e w' => e = .returned (.bool true) ∧ w' = W) := fun W => by have := rDigit_any c.toNat W; rw [hd] at this; exact this
  have HO : Hid (OneV p ⟨Rk, Rn, [], Rf⟩ (.tuple #[tok 5 p Rn ⟨#[]⟩, .int .i64 ((p + Rf : Nat) : Int), .bool (Rk == 5)])) := by
    refine ⟨5, p, Rn, ⟨#[]⟩, ?_, fun hne => ⟨?_, rfl, rfl, rfl⟩⟩
    · rcases hk5 with h | h <;> (rw [h]; rfl)
    · rcases hk5 with h | h
      · show (5 : Int) = (Rk : Int); omega
      · exact absurd h hne
  obtain ⟨b, hb⟩ : ∃ b, b = (Rk == 5) := ⟨_, rfl⟩
  obtain ⟨f, hf⟩ : ∃ f, f = p + Rf := ⟨_, rfl⟩
  unfold numV at HNu
  dsimp only at HNu
  rw [← hb, ← hf] at HO HNu
  clear hcl hd h1 h2 hk5 hb hf
  go_enter Tryd.func31, Tryd.ntmps31
  go_wp2_with (first
    | (go_at_call 47; refine (HL.out _).mono ?_; rintro e w' ⟨rfl, rfl⟩)
    | (go_at_call 48; refine (HG.out _).mono ?_; rintro e w' ⟨rfl, rfl⟩)
    | (go_at_call 51; refine (HD.out _).mono ?_; rintro e w' ⟨rfl, rfl⟩)
    | (go_at_call 52; refine (HNu.out _).mono ?_; rintro e w' ⟨rfl, rfl⟩))
  refine bodyPost_ret (v := .tuple #[tok 5 p Rn ⟨#[]⟩, .int .i64 (f : Int), .bool b]) (by simp [results, Tryd.results31, go_sem]) rfl ⟨⟨_, rfl, HO.out⟩, ?_⟩
  exact ((Below.refl _ _).alloc (Nat.le_refl _) _).alloc (by simp) _
set_option maxRecDepth 100000 in
set_option maxHeartbeats 600000 in
set_option maxRecDepth 100000 in
set_option maxHeartbeats 600000 in
set_option maxRecDepth 100000 in
set_option maxHeartbeats 2000000 in
theorem one_name_false (w : World) (S : List UInt8) (p : Nat) (c : UInt8) (hS : S.length ≤ maxLen) (hp : p < S.length) (hcl : c = S[p]) (h1 : isL c.toNat = true) (h2 : isG c.toNat = false) :
    Calls Tryd.prog 31 #[.string (str S), .int .i64 (p : Int)] w fun e w' => (∃ v, e = .returned v ∧ OneV p (rdRow 2 isN (S.drop p)) v) ∧ Below w.heap.size w w' := by
  have HNm : Hid (∀ W, Calls Tryd.prog 49 #[.string (str S), .int .i64 (p : Int), .bool false] W fun e w' => e = .returned (.tuple #[.int .i64 (nmEnd S p false : Int), .bool (nmOk S p false)]) ∧ w' = W) := fun W => rName_any W S p false hS (by omega)
  unfold nmEnd nmOk at HNm
  rw [may_false] at HNm
  have hrle := (rowLen_le isN (S.drop p)).2
  rw [List.length_drop] at hrle
  unfold maxLen at hS
  have hsz : (str S).size = S.length := str_size S
  have hc : (str S)[p]'(by rw [hsz]; exact hp) = c := by rw [hcl]; rfl
  have gp0 : (0 : Int) ≤ (p : Int) := by omega
  have gp1 : (p : Int) < (S.length : Int) := by omega
  have HL : Hid (∀ W, Calls Tryd.prog 47 #[.int .u8 (c.toNat : Int)] W fun e w' => e = .returned (.bool true) ∧ w' = W) := fun W => by have := rLetter_any c.toNat W; rw [h1] at this; exact this
  have HG : Hid (∀ W, Calls Tryd.prog 48 #[.int .u8 (c.toNat : Int)] W fun e w' => e = .returned (.bool false) ∧ w' = W) := fun W => by have := rGreat_any c.toNat W; rw [h2] at this; exact this
  have HR : Hid (rdRow 2 isN (S.drop p) = if rowAt (S.drop p) (rowLen isN (S.drop p)) then ⟨0, 0, [], rowLen isN (S.drop p)⟩ else ⟨if isWl ((S.drop p).take (rowLen isN (S.drop p))) then 1 else 2, 0, (S.drop p).take (rowLen isN (S.drop p)), rowLen isN (S.drop p)⟩) := rfl
  generalize rdRow 2 isN (S.drop p) = R at *
  generalize rowLen isN (S.drop p) = m at *
  obtain ⟨f, hf⟩ : ∃ f, f = p + m := ⟨_, rfl⟩
  have gf0 : (p : Int) ≤ (f : Int) := by omega
  have gf1 : (f : Int) ≤ (S.length : Int) := by omega
  have hx : (str S).extract p f = str ((S.drop p).take m) := by rw [str_ext, List.drop_take, hf, show p + m - p = m by omega]
  rw [← hf] at HNm
  generalize (S.drop p).take m = q at *
  have T1 := (At.new w (Tok 0 0 0 ⟨#[]⟩)).alloc (Tok 2 p 0 (str q))
  have T2 := at_snd w (Tok 0 0 0 ⟨#[]⟩) (Tok 2 p 0 (str q))
  cases hra : rowAt (S.drop p) m
  · have HWd : Hid (∀ W, Calls Tryd.prog 50 #[.string (str q)] W fun e w' => e = .returned (.bool (isWl q)) ∧ Below W.heap.size W w') := fun W => by have := rWord_any (str q) W; rw [isW_str] at this; exact this
    rw [hra] at HNm HR
    simp only [Bool.not_false] at HNm
    cases hw : isWl q
    · rw [hw] at HWd HR
      have hR : R = ⟨2, 0, q, m⟩ := HR.out
      have HO : Hid (OneV p R (.tuple #[tok 2 p 0 (str q), .int .i64 (f : Int), .bool true])) := by
        rw [hR]; exact ⟨2, p, 0, str q, by rw [hf]; rfl, fun _ => ⟨rfl, rfl, rfl, rfl⟩⟩
      clear HR hra hw hcl h1 h2 hf hR
      go_enter Tryd.func31, Tryd.ntmps31
      go_wp2_with (first
      | (go_at_call 47; refine (HL.out _).mono ?_; rintro e w' ⟨rfl, rfl⟩)
      | (go_at_call 48; refine (HG.out _).mono ?_; rintro e w' ⟨rfl, rfl⟩)
      | (go_at_call 49; refine (HNm.out _).mono ?_; rintro e w' ⟨rfl, rfl⟩)
      | (go_at_call 50; refine (HWd.out _).mono ?_; rintro e w1 ⟨rfl, hb1⟩; have T1' := T1.below hb1; have T2' := T2.below hb1; obtain ⟨c0, c1, c2, c3, f0⟩ := T1'.tok; obtain ⟨d0, d1, d2, d3, f1⟩ := T2'.tok))
      have T3 := T1'.setTok 2 p 0 (str q)
      obtain ⟨i0, i1, i2, i3, i4⟩ := T3.tok
      unfold setTok at i0 i1 i2 i3
      refine bodyPost_ret (v := .tuple #[tok 2 p 0 (str q), .int .i64 (f : Int), .bool true]) (by simp [results, Tryd.results31, go_sem, i0, i1, i2, i3]) rfl ⟨⟨_, rfl, HO.out⟩, ?_⟩
      exact below_setTok (below2 hb1) (Nat.le_refl _) 2 p 0 (str q)
    · rw [hw] at HWd HR
      have hR : R = ⟨1, 0, q, m⟩ := HR.out
      have HO : Hid (OneV p R (.tuple #[tok 1 p 0 (str q), .int .i64 (f : Int), .bool true])) := by
        rw [hR]; exact ⟨1, p, 0, str q, by rw [hf]; rfl, fun _ => ⟨rfl, rfl, rfl, rfl⟩⟩
      have n1 : w.heap.size ≠ w.heap.size + 1 := by omega
      have n2 : w.heap.size + 1 ≠ w.heap.size := by omega
      clear HR hra hw hcl h1 h2 hf hR
      go_enter Tryd.func31, Tryd.ntmps31
      go_wp2_with (first
      | (go_at_call 47; refine (HL.out _).mono ?_; rintro e w' ⟨rfl, rfl⟩)
      | (go_at_call 48; refine (HG.out _).mono ?_; rintro e w' ⟨rfl, rfl⟩)
      | (go_at_call 49; refine (HNm.out _).mono ?_; rintro e w' ⟨rfl, rfl⟩)
      | (go_at_call 50; refine (HWd.out _).mono ?_; rintro e w1 ⟨rfl, hb1⟩; have T1' := T1.below hb1; have T2' := T2.below hb1; obtain ⟨c0, c1, c2, c3, f0⟩ := T1'.tok; obtain ⟨d0, d1, d2, d3, f1⟩ := T2'.tok))
      have T3 := (T1'.set (a := ⟨w.heap.size + 1, 0, none⟩) n1 (.int .u8 1)).setTok 1 p 0 (str q)
      obtain ⟨i0, i1, i2, i3, i4⟩ := T3.tok
      unfold setTok at i0 i1 i2 i3
      refine bodyPost_ret (v := .tuple #[tok 1 p 0 (str q), .int .i64 (f : Int), .bool true]) (by simp [results, Tryd.results31, go_sem, i0, i1, i2, i3]) rfl ⟨⟨_, rfl, HO.out⟩, ?_⟩
      exact below_setTok ((below2 hb1).setCell (p := ⟨w.heap.size + 1, 0, none⟩) (by simp) (.int .u8 1)) (Nat.le_refl _) 1 p 0 (str q)
  · rw [hra] at HNm HR
    simp only [Bool.not_true] at HNm
    have hR : R = ⟨0, 0, [], m⟩ := HR.out
    have HO : Hid (OneV p R (.tuple #[tok 0 p 0 ⟨#[]⟩, .int .i64 (f : Int), .bool false])) := by
      rw [hR]; exact ⟨0, p, 0, ⟨#[]⟩, by rw [hf]; rfl, fun h => absurd rfl h⟩
    clear HR hra hcl h1 h2 hf hR hx T1 T2
    go_enter Tryd.func31, Tryd.ntmps31
    go_wp2_with (first
      | (go_at_call 47; refine (HL.out _).mono ?_; rintro e w' ⟨rfl, rfl⟩)
      | (go_at_call 48; refine (HG.out _).mono ?_; rintro e w' ⟨rfl, rfl⟩)
      | (go_at_call 49; refine (HNm.out _).mono ?_; rintro e w' ⟨rfl, rfl⟩))
    refine bodyPost_ret (v := .tuple #[tok 0 p 0 ⟨#[]⟩, .int .i64 (f : Int), .bool false]) (by simp [results, Tryd.results31, go_sem]) rfl ⟨⟨_, rfl, HO.out⟩, ?_⟩
    exact ((Below.refl _ _).alloc (Nat.le_refl _) _).alloc (by simp) _
set_option maxRecDepth 100000 in
set_option maxHeartbeats 2000000 in
theorem one_name_true (w : World) (S : List UInt8) (p : Nat) (c : UInt8) (hS : S.length ≤ maxLen) (hp : p < S.length) (hcl : c = S[p]) (h1 : isL c.toNat = false) (h2 : isG c.toNat = true) :
    Calls Tryd.prog 31 #[.string (str S), .int .i64 (p : Int)] w fun e w' => (∃ v, e = .returned v ∧ OneV p (rdRow 3 isR (S.drop p)) v) ∧ Below w.heap.size w w' := by
  have HNm : Hid (∀ W, Calls Tryd.prog 49 #[.string (str S), .int .i64 (p : Int), .bool true] W fun e w' => e = .returned (.tuple #[.int .i64 (nmEnd S p true : Int), .bool (nmOk S p true)]) ∧ w' = W) := fun W => rName_any W S p true hS (by omega)
  unfold nmEnd nmOk at HNm
  rw [may_true] at HNm
  have hrle := (rowLen_le isR (S.drop p)).2
  rw [List.length_drop] at hrle
  unfold maxLen at hS
  have hsz : (str S).size = S.length := str_size S
  have hc : (str S)[p]'(by rw [hsz]; exact hp) = c := by rw [hcl]; rfl
  have gp0 : (0 : Int) ≤ (p : Int) := by omega
  have gp1 : (p : Int) < (S.length : Int) := by omega
  have HL : Hid (∀ W, Calls Tryd.prog 47 #[.int .u8 (c.toNat : Int)] W fun e w' => e = .returned (.bool false) ∧ w' = W) := fun W => by have := rLetter_any c.toNat W; rw [h1] at this; exact this
  have HG : Hid (∀ W, Calls Tryd.prog 48 #[.int .u8 (c.toNat : Int)] W fun e w' => e = .returned (.bool true) ∧ w' = W) := fun W => by have := rGreat_any c.toNat W; rw [h2] at this; exact this
  have HR : Hid (rdRow 3 isR (S.drop p) = if rowAt (S.drop p) (rowLen isR (S.drop p)) then ⟨0, 0, [], rowLen isR (S.drop p)⟩ else ⟨if isWl ((S.drop p).take (rowLen isR (S.drop p))) then 1 else 3, 0, (S.drop p).take (rowLen isR (S.drop p)), rowLen isR (S.drop p)⟩) := rfl
  generalize rdRow 3 isR (S.drop p) = R at *
  generalize rowLen isR (S.drop p) = m at *
  obtain ⟨f, hf⟩ : ∃ f, f = p + m := ⟨_, rfl⟩
  have gf0 : (p : Int) ≤ (f : Int) := by omega
  have gf1 : (f : Int) ≤ (S.length : Int) := by omega
  have hx : (str S).extract p f = str ((S.drop p).take m) := by rw [str_ext, List.drop_take, hf, show p + m - p = m by omega]
  rw [← hf] at HNm
  generalize (S.drop p).take m = q at *
  have T1 := (At.new w (Tok 0 0 0 ⟨#[]⟩)).alloc (Tok 3 p 0 (str q))
  have T2 := at_snd w (Tok 0 0 0 ⟨#[]⟩) (Tok 3 p 0 (str q))
  cases hra : rowAt (S.drop p) m
  · have HWd : Hid (∀ W, Calls Tryd.prog 50 #[.string (str q)] W fun e w' => e = .returned (.bool (isWl q)) ∧ Below W.heap.size W w') := fun W => by have := rWord_any (str q) W; rw [isW_str] at this; exact this
    rw [hra] at HNm HR
    simp only [Bool.not_false] at HNm
    cases hw : isWl q
    · rw [hw] at HWd HR
      have hR : R = ⟨3, 0, q, m⟩ := HR.out
      have HO : Hid (OneV p R (.tuple #[tok 3 p 0 (str q), .int .i64 (f : Int), .bool true])) := by
        rw [hR]; exact ⟨3, p, 0, str q, by rw [hf]; rfl, fun _ => ⟨rfl, rfl, rfl, rfl⟩⟩
      clear HR hra hw hcl h1 h2 hf hR
      go_enter Tryd.func31, Tryd.ntmps31
      go_wp2_with (first
      | (go_at_call 47; refine (HL.out _).mono ?_; rintro e w' ⟨rfl, rfl⟩)
      | (go_at_call 48; refine (HG.out _).mono ?_; rintro e w' ⟨rfl, rfl⟩)
      | (go_at_call 49; refine (HNm.out _).mono ?_; rintro e w' ⟨rfl, rfl⟩)
      | (go_at_call 50; refine (HWd.out _).mono ?_; rintro e w1 ⟨rfl, hb1⟩; have T1' := T1.below hb1; have T2' := T2.below hb1; obtain ⟨c0, c1, c2, c3, f0⟩ := T1'.tok; obtain ⟨d0, d1, d2, d3, f1⟩ := T2'.tok))
      have T3 := T1'.setTok 3 p 0 (str q)
      obtain ⟨i0, i1, i2, i3, i4⟩ := T3.tok
      unfold setTok at i0 i1 i2 i3
      refine bodyPost_ret (v := .tuple #[tok 3 p 0 (str q), .int .i64 (f : Int), .bool true]) (by simp [results, Tryd.results31, go_sem, i0, i1, i2, i3]) rfl ⟨⟨_, rfl, HO.out⟩, ?_⟩
      exact below_setTok (below2 hb1) (Nat.le_refl _) 3 p 0 (str q)
    · rw [hw] at HWd HR
      have hR : R = ⟨1, 0, q, m⟩ := HR.out
      have HO : Hid (OneV p R (.tuple #[tok 1 p 0 (str q), .int .i64 (f : Int), .bool true])) := by
        rw [hR]; exact ⟨1, p, 0, str q, by rw [hf]; rfl, fun _ => ⟨rfl, rfl, rfl, rfl⟩⟩
      have n1 : w.heap.size ≠ w.heap.size + 1 := by omega
      have n2 : w.heap.size + 1 ≠ w.heap.size := by omega
      clear HR hra hw hcl h1 h2 hf hR
      go_enter Tryd.func31, Tryd.ntmps31
      go_wp2_with (first
      | (go_at_call 47; refine (HL.out _).mono ?_; rintro e w' ⟨rfl, rfl⟩)
      | (go_at_call 48; refine (HG.out _).mono ?_; rintro e w' ⟨rfl, rfl⟩)
      | (go_at_call 49; refine (HNm.out _).mono ?_; rintro e w' ⟨rfl, rfl⟩)
      | (go_at_call 50; refine (HWd.out _).mono ?_; rintro e w1 ⟨rfl, hb1⟩; have T1' := T1.below hb1; have T2' := T2.below hb1; obtain ⟨c0, c1, c2, c3, f0⟩ := T1'.tok; obtain ⟨d0, d1, d2, d3, f1⟩ := T2'.tok))
      have T3 := (T1'.set (a := ⟨w.heap.size + 1, 0, none⟩) n1 (.int .u8 1)).setTok 1 p 0 (str q)
      obtain ⟨i0, i1, i2, i3, i4⟩ := T3.tok
      unfold setTok at i0 i1 i2 i3
      refine bodyPost_ret (v := .tuple #[tok 1 p 0 (str q), .int .i64 (f : Int), .bool true]) (by simp [results, Tryd.results31, go_sem, i0, i1, i2, i3]) rfl ⟨⟨_, rfl, HO.out⟩, ?_⟩
      exact below_setTok ((below2 hb1).setCell (p := ⟨w.heap.size + 1, 0, none⟩) (by simp) (.int .u8 1)) (Nat.le_refl _) 1 p 0 (str q)
  · rw [hra] at HNm HR
    simp only [Bool.not_true] at HNm
    have hR : R = ⟨0, 0, [], m⟩ := HR.out
    have HO : Hid (OneV p R (.tuple #[tok 0 p 0 ⟨#[]⟩, .int .i64 (f : Int), .bool false])) := by
      rw [hR]; exact ⟨0, p, 0, ⟨#[]⟩, by rw [hf]; rfl, fun h => absurd rfl h⟩
    clear HR hra hcl h1 h2 hf hR hx T1 T2
    go_enter Tryd.func31, Tryd.ntmps31
    go_wp2_with (first
      | (go_at_call 47; refine (HL.out _).mono ?_; rintro e w' ⟨rfl, rfl⟩)
      | (go_at_call 48; refine (HG.out _).mono ?_; rintro e w' ⟨rfl, rfl⟩)
      | (go_at_call 49; refine (HNm.out _).mono ?_; rintro e w' ⟨rfl, rfl⟩))
    refine bodyPost_ret (v := .tuple #[tok 0 p 0 ⟨#[]⟩, .int .i64 (f : Int), .bool false]) (by simp [results, Tryd.results31, go_sem]) rfl ⟨⟨_, rfl, HO.out⟩, ?_⟩
    exact ((Below.refl _ _).alloc (Nat.le_refl _) _).alloc (by simp) _
end Go.Proofs.YtpnamkpoapcgeaaDoor
