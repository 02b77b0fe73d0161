import Derived.Test.YtpnamkpoapcgeaaDoorX
namespace Go.Proofs.YtpnamkpoapcgeaaDoor
open Go.RowKit
set_option linter.unusedVariables false
set_option linter.unusedSimpArgs false

set_option maxRecDepth 100000 in
set_option maxHeartbeats 2000000 in
theorem one_life_letter (w : World) (S : List UInt8) (p : Nat) (c : UInt8) (hS : S.length ≤ maxLen) (hp : p < S.length) (hcl : c = S[p]) (h4 : c.toNat = 39) (h5 : p + 1 < S.length) (h6 : isL S[p + 1].toNat = true) :
    Calls Tryd.prog 31 #[.string (str S), .int .i64 (p : Int)] w fun e w' => (∃ v, e = .returned v ∧ OneV p (rdLife (S.drop (p + 1))) v) ∧ Below w.heap.size w w' := by
  have HR : Hid (rdLife (S.drop (p + 1)) = if (rdRow 2 isN (S.drop (p + 1))).k = 2 then ⟨4, 0, (rdRow 2 isN (S.drop (p + 1))).s, 1 + (rdRow 2 isN (S.drop (p + 1))).far⟩ else ⟨0, 0, [], 1 + (rdRow 2 isN (S.drop (p + 1))).far⟩) := by
    show _ = _
    rw [show S.drop (p + 1) = S[p + 1] :: S.drop (p + 1 + 1) from List.drop_eq_getElem_cons h5]
    unfold rdLife
    simp only [h6]
    rfl
  generalize rdLife (S.drop (p + 1)) = R at *
  have HNm : Hid (∀ W, Calls Tryd.prog 49 #[.string (str S), .int .i64 ((p : Int) + 1), .bool false] W fun e w' => e = .returned (.tuple #[.int .i64 (nmEnd S (p + 1) false : Int), .bool (nmOk S (p + 1) false)]) ∧ w' = W) := fun W => by
    have := rName_any W S (p + 1) false hS (by omega)
    rwa [show ((p + 1 : Nat) : Int) = (p : Int) + 1 from rfl] at this
  unfold nmEnd nmOk at HNm
  rw [may_false] at HNm
  have HRow : Hid (rdRow 2 isN (S.drop (p + 1)) = if rowAt (S.drop (p + 1)) (rowLen isN (S.drop (p + 1))) then ⟨0, 0, [], rowLen isN (S.drop (p + 1))⟩ else ⟨if isWl ((S.drop (p + 1)).take (rowLen isN (S.drop (p + 1)))) then 1 else 2, 0, (S.drop (p + 1)).take (rowLen isN (S.drop (p + 1))), rowLen isN (S.drop (p + 1))⟩) := rfl
  have hrle := (rowLen_le isN (S.drop (p + 1))).2
  rw [List.length_drop] at hrle
  generalize rdRow 2 isN (S.drop (p + 1)) = R0 at *
  generalize rowLen isN (S.drop (p + 1)) = m at *
  obtain ⟨f, hf⟩ : ∃ f, f = p + 1 + m := ⟨_, rfl⟩
  have gf0 : (p : Int) + 1 ≤ (f : Int) := by omega
  have gf1 : (f : Int) ≤ (S.length : Int) := by omega
  have hx : (str S).extract (p + 1) f = str ((S.drop (p + 1)).take m) := by rw [str_ext, List.drop_take, hf, show p + 1 + m - (p + 1) = m by omega]
  rw [← hf] at HNm
  generalize (S.drop (p + 1)).take m = q at *
  obtain ⟨d, hdl⟩ : ∃ d, d = S[p + 1] := ⟨_, rfl⟩
  rw [← hdl] at h6
  have HL2 : Hid (∀ W, Calls Tryd.prog 47 #[.int .u8 (d.toNat : Int)] W fun e w' => e = .returned (.bool true) ∧ w' = W) := fun W => by have := rLetter_any d.toNat W; rw [h6] at this; exact this
  unfold maxLen at hS
  have hsz : (str S).size = S.length := str_size S
  have hc : (str S)[p]'(by rw [hsz]; exact hp) = c := by rw [hcl]; rfl
  have gp0 : (0 : Int) ≤ (p : Int) := by omega
  have gp1 : (p : Int) < (S.length : Int) := by omega
  have h1 : isL c.toNat = false := by rw [h4]; rfl
  have h2 : isG c.toNat = false := by rw [h4]; rfl
  have h3 : isD c.toNat = false := by rw [h4]; rfl
  have g39 : ((c.toNat : Int) == 39) = true := by simp; omega
  have HL : Hid (∀ W, Calls Tryd.prog 47 #[.int .u8 (c.toNat : Int)] W fun e w' => e = .returned (.bool false) ∧ w' = W) := fun W => by have := rLetter_any c.toNat W; rw [h1] at this; exact this
  have HG : Hid (∀ W, Calls Tryd.prog 48 #[.int .u8 (c.toNat : Int)] W fun e w' => e = .returned (.bool false) ∧ w' = W) := fun W => by have := rGreat_any c.toNat W; rw [h2] at this; exact this
  have HD : Hid (∀ W, Calls Tryd.prog 51 #[.int .u8 (c.toNat : Int)] W fun e w' => e = .returned (.bool false) ∧ w' = W) := fun W => by have := rDigit_any c.toNat W; rw [h3] at this; exact this
  have hd : (str S)[p + 1]'(by rw [hsz]; exact h5) = d := by rw [hdl]; rfl
  have e1 : ((p : Int) + 1 == (S.length : Int)) = false := by simp; omega
  have g5 : (p : Int) + 1 < (S.length : Int) := by omega
  have g6 : (0 : Int) ≤ (p : Int) + 1 := by omega
  have HF : Hid (((p + (1 + m) : Nat) : Int) = (f : Int)) := by show _ = _; omega
  clear hcl h1 h2 h3 h4 hdl h6 hf
  have T1 := (At.new w (Tok 0 0 0 ⟨#[]⟩)).alloc (Tok 4 p 0 (str q))
  have T2 := at_snd w (Tok 0 0 0 ⟨#[]⟩) (Tok 4 p 0 (str q))
  have BU : Below w.heap.size w ((w.alloc (Tok 0 0 0 ⟨#[]⟩)).alloc (Tok 4 p 0 (str q))) := belA (belA (Below.refl _ _))
  cases hra : rowAt (S.drop (p + 1)) m
  · rw [hra] at HNm HRow
    simp only [Bool.not_false] at HNm
    have HWd : Hid (∀ W, Calls Tryd.prog 50 #[.string (str q)] W fun e w' => e = .returned (.bool (isWl q)) ∧ Below W.heap.size W w') := fun W => by have := rWord_any (str q) W; rw [isW_str] at this; exact this
    obtain ⟨b, hb⟩ : ∃ b, isWl q = b := ⟨_, rfl⟩
    rw [hb] at HWd HRow
    have HO : Hid (OneV p R (.tuple #[tok 4 p 0 (str q), .int .i64 (f : Int), .bool (!b)])) := by
      have e0 := HRow.out
      have eR := HR.out
      rw [if_neg (by simp)] at e0
      subst e0
      cases b
      · rw [eR]; exact ⟨4, p, 0, str q, by rw [← HF.out]; rfl, fun _ => ⟨rfl, rfl, rfl, rfl⟩⟩
      · rw [eR]; exact ⟨4, p, 0, str q, by rw [← HF.out]; rfl, fun h => absurd rfl h⟩
    clear hra HR HRow hb
    go_enter Tryd.func31, Tryd.ntmps31
    go_wp2_with (first
      | (with_reducible show Calls _ 47 #[.int .u8 (d.toNat : Int)] _ _; refine (HL2.out _).mono ?_; rintro e w' ⟨rfl, rfl⟩)
      | (go_at_call 47; refine (HL.out _).mono ?_; rintro e w' ⟨rfl, rfl⟩)
      | (go_at_call 48; refine (HG.out _).mono ?_; rintro e w' ⟨rfl, rfl⟩)
      | (go_at_call 49; refine (HNm.out _).mono ?_; rintro e w' ⟨rfl, rfl⟩)
      | (go_at_call 51; refine (HD.out _).mono ?_; rintro e w' ⟨rfl, rfl⟩))
    generalize (w.alloc (Tok 0 0 0 ⟨#[]⟩)).alloc (Tok 4 p 0 (str q)) = U at *
    have KS : Hid (∀ W' : World, At W' (w.heap.size + 1) (Tok 4 p 0 (str q)) → (fun W' : World => W'.cell? ⟨w.heap.size + 1, 0, none⟩ = some (.int .u8 4) ∧ W'.cell? ⟨w.heap.size + 1, 1, none⟩ = some (.int .i64 p) ∧ W'.cell? ⟨w.heap.size + 1, 2, none⟩ = some (.int .i64 0) ∧ W'.cell? ⟨w.heap.size + 1, 3, none⟩ = some (.string (str q))) W') := fun W' h => ⟨h.tok.1, h.tok.2.1, h.tok.2.2.1, h.tok.2.2.2.1⟩
    go_region_held3 (fun W' : World => W'.cell? ⟨w.heap.size + 1, 0, none⟩ = some (.int .u8 4) ∧ W'.cell? ⟨w.heap.size + 1, 1, none⟩ = some (.int .i64 p) ∧ W'.cell? ⟨w.heap.size + 1, 2, none⟩ = some (.int .i64 0) ∧ W'.cell? ⟨w.heap.size + 1, 3, none⟩ = some (.string (str q)))
      (first | (exact KS.out _ T2.drew) | (exact KS.out _ T2') | (exact KS.out _ (T2'.offTok (by omega) _ _ _ _)) | go_keep)
      (first | (go_at_call 50; refine (HWd.out _).mono ?_; rintro e w1 ⟨rfl, hb1⟩; have T1' := T1.drew.below hb1; have T2' := T2.drew.below hb1; obtain ⟨d0, d1, d2, d3, df⟩ := T1'.tok))
    have T3 := T1'.setTok 4 p 0 (str q)
    obtain ⟨i0, i1, i2, i3, i4⟩ := T3.tok
    unfold setTok at i0 i1 i2 i3
    go_wp2
    refine bodyPost_ret (v := .tuple #[tok 4 p 0 (str q), .int .i64 (f : Int), .bool (!b)]) (by simp [results, Tryd.results31, go_sem, i0, i1, i2, i3]) rfl ⟨⟨_, rfl, HO.out⟩, ?_⟩
    exact below_setTok (below_aft BU.drew hb1) (Nat.le_refl _) 4 p 0 (str q)
  · rw [hra] at HNm HRow
    simp only [Bool.not_true] at HNm
    have HO : Hid (OneV p R (.tuple #[tok 4 p 0 (str q), .int .i64 (f : Int), .bool false])) := by
      have e0 := HRow.out
      have eR := HR.out
      rw [if_pos rfl] at e0
      subst e0
      rw [eR]; exact ⟨4, p, 0, str q, by rw [← HF.out]; rfl, fun h => absurd rfl h⟩
    clear hra HR HRow
    go_enter Tryd.func31, Tryd.ntmps31
    go_wp2_with (first
      | (with_reducible show Calls _ 47 #[.int .u8 (d.toNat : Int)] _ _; refine (HL2.out _).mono ?_; rintro e w' ⟨rfl, rfl⟩)
      | (go_at_call 47; refine (HL.out _).mono ?_; rintro e w' ⟨rfl, rfl⟩)
      | (go_at_call 48; refine (HG.out _).mono ?_; rintro e w' ⟨rfl, rfl⟩)
      | (go_at_call 49; refine (HNm.out _).mono ?_; rintro e w' ⟨rfl, rfl⟩)
      | (go_at_call 51; refine (HD.out _).mono ?_; rintro e w' ⟨rfl, rfl⟩))
    obtain ⟨t0, t1, t2, t3, tf⟩ := T1.tok
    obtain ⟨u0, u1, u2, u3, uf⟩ := T2.tok
    go_region
    all_goals go_wp2
    have T3 := ((At.new w (Tok 4 p 0 (str q))).alloc (Tok 4 p 0 (str q))).drew
    obtain ⟨i0, i1, i2, i3, i4⟩ := T3.tok
    refine bodyPost_ret (v := .tuple #[tok 4 p 0 (str q), .int .i64 (f : Int), .bool false]) (by simp [results, Tryd.results31, go_sem, i0, i1, i2, i3]) rfl ⟨⟨_, rfl, HO.out⟩, ?_⟩
    exact (belA (belA (Below.refl _ _))).drew
/-- What the reference's one tells of every place of a text. -/
theorem one_any (w : World) (S : List UInt8) (p : Nat) (hS : S.length ≤ maxLen) (hp : p < S.length) :
    Calls Tryd.prog 31 #[.string (str S), .int .i64 (p : Int)] w fun e w' => (∃ v, e = .returned v ∧ OneV p (rd (S.drop p)) v) ∧ Below w.heap.size w w' := by
  have hdr : S.drop p = S[p] :: S.drop (p + 1) := List.drop_eq_getElem_cons hp
  obtain ⟨c, hcl⟩ : ∃ c, c = S[p] := ⟨_, rfl⟩
  have hrd : rd (S.drop p) = if isL c.toNat then rdRow 2 isN (S.drop p) else if isG c.toNat then rdRow 3 isR (S.drop p) else if isD c.toNat then intGo 0 0 (S.drop p) else if c.toNat = 39 then rdLife (S.drop (p + 1)) else rdSign (S.drop p) := by
    rw [hdr, ← hcl]; rfl
  cases h1 : isL c.toNat with
  | true =>
    have h2 : isG c.toNat = false := by
      unfold isL at h1; unfold isG
      simp only [decide_eq_true_eq, decide_eq_false_iff_not] at h1 ⊢
      omega
    rw [hrd, if_pos (by rw [h1])]
    exact one_name_false w S p c hS hp hcl h1 h2
  | false =>
    rw [hrd, if_neg (by rw [h1]; simp)]
    cases h2 : isG c.toNat with
    | true => rw [if_pos rfl]; exact one_name_true w S p c hS hp hcl h1 h2
    | false =>
      rw [if_neg (by simp)]
      cases h3 : isD c.toNat with
      | true => rw [if_pos rfl]; exact one_num w S p c hS hp hcl h3 h1 h2
      | false =>
        rw [if_neg (by simp)]
        by_cases h4 : c.toNat = 39
        · rw [if_pos h4]
          by_cases h5 : p + 1 = S.length
          · exact one_life_end w S p c hS hp hcl h4 h5
          · have h5' : p + 1 < S.length := by omega
            cases h6 : isL S[p + 1].toNat with
            | true => exact one_life_letter w S p c hS hp hcl h4 h5' h6
            | false => exact one_life_other w S p c hS hp hcl h4 h5' h6
        · rw [if_neg h4]
          by_cases h5 : c.toNat = 124
          · cases h6 : (sg (S.drop p)).isEmpty with
            | true => exact one_sign_none w S p c hS hp hcl h1 h2 h3 h4 h5 (List.isEmpty_iff.1 h6)
            | false => exact one_sign_bar w S p c hS hp hcl h1 h2 h3 h4 h5 h6
          · exact one_sign_other w S p c hS hp hcl h1 h2 h3 h4 h5
end Go.Proofs.YtpnamkpoapcgeaaDoor
