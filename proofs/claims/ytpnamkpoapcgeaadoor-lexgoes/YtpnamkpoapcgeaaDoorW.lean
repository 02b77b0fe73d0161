import Derived.Test.YtpnamkpoapcgeaaDoorV
import Derived.Deep.RegionHeld3
namespace Go.Proofs.YtpnamkpoapcgeaaDoor
open Go.RowKit
set_option linter.unusedVariables false
set_option linter.unusedSimpArgs false

theorem At.setS {w : World} {b : Nat} {k p n : Int} {s : ByteArray} (h : At w b (Tok k p n s)) (s' : ByteArray) : At (w.setCell ⟨b, 3, none⟩ (.string s')) b (Tok k p n s') := by
  unfold At Tok at *
  have h4 := heap_setCell_same w b 3 _ 32 (.string s') h
  simpa using h4
set_option maxRecDepth 100000 in
set_option maxHeartbeats 800000 in
theorem one_sign_other (w : World) (S : List UInt8) (p : Nat) (c : UInt8) (hS : S.length ≤ maxLen) (hp : p < S.length) (hcl : c = S[p]) (h1 : isL c.toNat = false) (h2 : isG c.toNat = false) (h3 : isD c.toNat = false) (h4 : c.toNat ≠ 39) (h5 : c.toNat ≠ 124) :
    Calls Tryd.prog 31 #[.string (str S), .int .i64 (p : Int)] w fun e w' => (∃ v, e = .returned v ∧ OneV p (rdSign (S.drop p)) v) ∧ Below w.heap.size w w' := by
  have hSm := hS
  unfold maxLen at hS
  have hsz : (str S).size = S.length := str_size S
  have hc : (str S)[p]'(by rw [hsz]; exact hp) = c := by rw [hcl]; rfl
  have hx : (str S).extract p S.length = str (S.drop p) := by rw [str_ext, List.take_of_length_le (Nat.le_refl _)]
  have gp0 : (0 : Int) ≤ (p : Int) := by omega
  have gp1 : (p : Int) < (S.length : Int) := by omega
  have gp2 : (p : Int) ≤ (S.length : Int) := by omega
  have hdr : S.drop p = c :: S.drop (p + 1) := by rw [hcl]; exact List.drop_eq_getElem_cons hp
  have hql : (S.drop p).length ≤ maxLen := by rw [List.length_drop]; omega
  have hsl := sg_le (S.drop p)
  rw [List.length_drop] at hsl
  have g39 : ((c.toNat : Int) == 39) = false := by simp; omega
  have HL : Hid (∀ W, Calls Tryd.prog 47 #[.int .u8 (c.toNat : Int)] W fun e w' => e = .returned (.bool false) ∧ w' = W) := fun W => by have := rLetter_any c.toNat W; rw [h1] at this; exact this
  have HG : Hid (∀ W, Calls Tryd.prog 48 #[.int .u8 (c.toNat : Int)] W fun e w' => e = .returned (.bool false) ∧ w' = W) := fun W => by have := rGreat_any c.toNat W; rw [h2] at this; exact this
  have HD : Hid (∀ W, Calls Tryd.prog 51 #[.int .u8 (c.toNat : Int)] W fun e w' => e = .returned (.bool false) ∧ w' = W) := fun W => by have := rDigit_any c.toNat W; rw [h3] at this; exact this
  have HSg : Hid (∀ W, Calls Tryd.prog 53 #[.string (str (S.drop p))] W fun e w' => e = .returned (.string (str (sg (S.drop p)))) ∧ Below W.heap.size W w') := fun W => rSign_any W _ hql
  have hhd : (S.drop p).head? = some c := by rw [hdr]; rfl
  have hcc : (some c = some 124) ↔ c.toNat = 124 := by
    constructor
    · intro e; cases e; rfl
    · intro e; rw [Option.some.injEq]; exact UInt8.toNat_inj.1 e
  have HR : Hid (rdSign (S.drop p) = if (sg (S.drop p)).isEmpty then ⟨0, 0, [], if c.toNat = 124 then 1 else 0⟩ else ⟨6, 0, sg (S.drop p), (sg (S.drop p)).length⟩) := by
    show _ = _
    unfold rdSign
    rw [hhd]
    simp only [hcc]
  generalize rdSign (S.drop p) = R at *
  generalize sg (S.drop p) = q at *
  generalize S.drop p = l at *
  clear hdr hhd hcl h1 h2 h3 h4 hcc hSm hql
  have g124 : ((c.toNat : Int) == 124) = false := by simp; omega
  obtain ⟨b, hb⟩ : ∃ b, b = !q.isEmpty := ⟨_, rfl⟩
  have hbq : (!(str q).toList.isEmpty) = b := by rw [str_list]; exact hb.symm
  have hqz : (str q).size = q.length := str_size q
  have HO : Hid (OneV p R (.tuple #[tok 6 p 0 (str q), .int .i64 ((p : Int) + (q.length : Int)), .bool b])) := by
    rw [HR.out, hb]
    cases hq : q with
    | nil => exact ⟨6, p, 0, str [], by simp [h5], fun h => absurd rfl h⟩
    | cons a r => exact ⟨6, p, 0, str (a :: r), by simp, fun _ => ⟨rfl, rfl, rfl, rfl⟩⟩
  have T1 := (At.new w (Tok 0 0 0 ⟨#[]⟩)).alloc (Tok 6 p 0 ⟨#[]⟩)
  have T2 := at_snd w (Tok 0 0 0 ⟨#[]⟩) (Tok 6 p 0 ⟨#[]⟩)
  have n1 : w.heap.size ≠ w.heap.size + 1 := by omega
  have n2 : w.heap.size + 1 ≠ w.heap.size := by omega
  have gl : (q.length : Int) ≤ (S.length : Int) := by omega
  have gl2 : (p : Int) + (q.length : Int) ≤ (S.length : Int) := by omega
  have hwr : IntKind.i64.wrap ((p : Int) + (q.length : Int)) = (p : Int) + (q.length : Int) := IntWalk.i64_in _ ⟨by omega, by omega⟩
  clear HR hb h5
  go_enter Tryd.func31, Tryd.ntmps31
  go_wp2_with (first
    | (go_at_call 47; refine (HL.out _).mono ?_; rintro e w' ⟨rfl, rfl⟩)
    | (go_at_call 48; refine (HG.out _).mono ?_; rintro e w' ⟨rfl, rfl⟩)
    | (go_at_call 51; refine (HD.out _).mono ?_; rintro e w' ⟨rfl, rfl⟩)
    | (go_at_call 53; refine (HSg.out _).mono ?_; rintro e w1 ⟨rfl, hb1⟩; have T1' := T1.below hb1; have T2' := T2.below hb1; have hl1 := T1'.lt; have hl2 := T2'.lt; obtain ⟨c0, c1, c2, c3, f0⟩ := T1'.tok; obtain ⟨d0, d1, d2, d3, f1⟩ := T2'.tok))
  have U2 := T2'.setS (str q)
  have U1 := T1'.set (a := ⟨w.heap.size + 1, 3, none⟩) n1 (.string (str q))
  have BU : Below w.heap.size w (w1.setCell ⟨w.heap.size + 1, 3, none⟩ (.string (str q))) := (below2 hb1).setCell (p := ⟨w.heap.size + 1, 3, none⟩) (by simp) _
  generalize w1.setCell ⟨w.heap.size + 1, 3, none⟩ (.string (str q)) = W1 at *
  clear c0 c1 c2 c3 f0 d0 d1 d2 d3 f1 T1' T2'
  obtain ⟨c0, c1, c2, c3, f0⟩ := U1.tok
  obtain ⟨d0, d1, d2, d3, f1⟩ := U2.tok
  have HS : Hid (∀ W', (∃ k a n z, W' = setTok W1.drew w.heap.size k a n z) ∨ W' = W1.drew → (W'.cell? ⟨w.heap.size + 1, 0, none⟩ = some (.int .u8 6) ∧ W'.cell? ⟨w.heap.size + 1, 1, none⟩ = some (.int .i64 p) ∧ W'.cell? ⟨w.heap.size + 1, 2, none⟩ = some (.int .i64 0) ∧ W'.cell? ⟨w.heap.size + 1, 3, none⟩ = some (.string (str q)))) := fun W' h => by
    rcases h with ⟨k, a, n, z, rfl⟩ | rfl
    · have := (U2.drew.offTok n2 k a n z).tok; exact ⟨this.1, this.2.1, this.2.2.1, this.2.2.2.1⟩
    · exact ⟨d0, d1, d2, d3⟩
  go_region_held3 (fun W' => W'.cell? ⟨w.heap.size + 1, 0, none⟩ = some (.int .u8 6) ∧ W'.cell? ⟨w.heap.size + 1, 1, none⟩ = some (.int .i64 p) ∧ W'.cell? ⟨w.heap.size + 1, 2, none⟩ = some (.int .i64 0) ∧ W'.cell? ⟨w.heap.size + 1, 3, none⟩ = some (.string (str q)))
    (first | (exact HS.out _ (.inr rfl)) | (exact HS.out _ (.inl ⟨_, _, _, _, rfl⟩)) | go_keep) (fail)
  all_goals go_wp2
  have T3 := U1.setTok 6 p 0 (str q)
  obtain ⟨i0, i1, i2, i3, i4⟩ := T3.tok
  unfold setTok at i0 i1 i2 i3
  refine bodyPost_ret (v := .tuple #[tok 6 p 0 (str q), .int .i64 ((p : Int) + (q.length : Int)), .bool b]) (by simp [results, Tryd.results31, go_sem, i0, i1, i2, i3]) rfl ⟨⟨_, rfl, HO.out⟩, ?_⟩
  exact (below_setTok BU (Nat.le_refl _) 6 p 0 (str q)).drew
set_option maxRecDepth 100000 in
set_option maxHeartbeats 800000 in
theorem one_sign_none (w : World) (S : List UInt8) (p : Nat) (c : UInt8) (hS : S.length ≤ maxLen) (hp : p < S.length) (hcl : c = S[p]) (h1 : isL c.toNat = false) (h2 : isG c.toNat = false) (h3 : isD c.toNat = false) (h4 : c.toNat ≠ 39) (h5 : c.toNat = 124) (h6 : sg (S.drop p) = []) :
    Calls Tryd.prog 31 #[.string (str S), .int .i64 (p : Int)] w fun e w' => (∃ v, e = .returned v ∧ OneV p (rdSign (S.drop p)) v) ∧ Below w.heap.size w w' := by
  have hSm := hS
  unfold maxLen at hS
  have hsz : (str S).size = S.length := str_size S
  have hc : (str S)[p]'(by rw [hsz]; exact hp) = c := by rw [hcl]; rfl
  have hx : (str S).extract p S.length = str (S.drop p) := by rw [str_ext, List.take_of_length_le (Nat.le_refl _)]
  have gp0 : (0 : Int) ≤ (p : Int) := by omega
  have gp1 : (p : Int) < (S.length : Int) := by omega
  have gp2 : (p : Int) ≤ (S.length : Int) := by omega
  have hdr : S.drop p = c :: S.drop (p + 1) := by rw [hcl]; exact List.drop_eq_getElem_cons hp
  have hql : (S.drop p).length ≤ maxLen := by rw [List.length_drop]; omega
  have hsl := sg_le (S.drop p)
  rw [List.length_drop] at hsl
  have g39 : ((c.toNat : Int) == 39) = false := by simp; omega
  have HL : Hid (∀ W, Calls Tryd.prog 47 #[.int .u8 (c.toNat : Int)] W fun e w' => e = .returned (.bool false) ∧ w' = W) := fun W => by have := rLetter_any c.toNat W; rw [h1] at this; exact this
  have HG : Hid (∀ W, Calls Tryd.prog 48 #[.int .u8 (c.toNat : Int)] W fun e w' => e = .returned (.bool false) ∧ w' = W) := fun W => by have := rGreat_any c.toNat W; rw [h2] at this; exact this
  have HD : Hid (∀ W, Calls Tryd.prog 51 #[.int .u8 (c.toNat : Int)] W fun e w' => e = .returned (.bool false) ∧ w' = W) := fun W => by have := rDigit_any c.toNat W; rw [h3] at this; exact this
  have HSg : Hid (∀ W, Calls Tryd.prog 53 #[.string (str (S.drop p))] W fun e w' => e = .returned (.string (str (sg (S.drop p)))) ∧ Below W.heap.size W w') := fun W => rSign_any W _ hql
  have hhd : (S.drop p).head? = some c := by rw [hdr]; rfl
  have hcc : (some c = some 124) ↔ c.toNat = 124 := by
    constructor
    · intro e; cases e; rfl
    · intro e; rw [Option.some.injEq]; exact UInt8.toNat_inj.1 e
  have HR : Hid (rdSign (S.drop p) = if (sg (S.drop p)).isEmpty then ⟨0, 0, [], if c.toNat = 124 then 1 else 0⟩ else ⟨6, 0, sg (S.drop p), (sg (S.drop p)).length⟩) := by
    show _ = _
    unfold rdSign
    rw [hhd]
    simp only [hcc]
  generalize rdSign (S.drop p) = R at *
  rw [h6] at HR HSg; clear h6 hsl
  generalize S.drop p = l at *
  clear hdr hhd hcl h1 h2 h3 h4 hcc hSm hql
  have g124 : ((c.toNat : Int) == 124) = true := by simp; omega
  have he : (str []).toList.isEmpty = true := by rw [str_list]; rfl
  have HO : Hid (OneV p R (.tuple #[tok 0 p 0 ⟨#[]⟩, .int .i64 ((p : Int) + 1), .bool false])) := by
    rw [HR.out]
    exact ⟨0, p, 0, ⟨#[]⟩, by simp [h5], fun h => absurd rfl h⟩
  have T1 := (At.new w (Tok 0 0 0 ⟨#[]⟩)).alloc (Tok 0 p 0 ⟨#[]⟩)
  have T2 := at_snd w (Tok 0 0 0 ⟨#[]⟩) (Tok 0 p 0 ⟨#[]⟩)
  clear HR h5
  go_enter Tryd.func31, Tryd.ntmps31
  go_wp2_with (first
    | (go_at_call 47; refine (HL.out _).mono ?_; rintro e w' ⟨rfl, rfl⟩)
    | (go_at_call 48; refine (HG.out _).mono ?_; rintro e w' ⟨rfl, rfl⟩)
    | (go_at_call 51; refine (HD.out _).mono ?_; rintro e w' ⟨rfl, rfl⟩)
    | (go_at_call 53; refine (HSg.out _).mono ?_; rintro e w1 ⟨rfl, hb1⟩; have T1' := T1.below hb1; have T2' := T2.below hb1; have hl1 := T1'.lt; have hl2 := T2'.lt; obtain ⟨c0, c1, c2, c3, f0⟩ := T1'.tok; obtain ⟨d0, d1, d2, d3, f1⟩ := T2'.tok))
  have T3 := T1'.setTok 0 p 0 ⟨#[]⟩
  obtain ⟨i0, i1, i2, i3, i4⟩ := T3.tok
  unfold setTok at i0 i1 i2 i3
  refine bodyPost_ret (v := .tuple #[tok 0 p 0 ⟨#[]⟩, .int .i64 ((p : Int) + 1), .bool false]) (by simp [results, Tryd.results31, go_sem, i0, i1, i2, i3]) rfl ⟨⟨_, rfl, HO.out⟩, ?_⟩
  exact below_setTok (below2 hb1) (Nat.le_refl _) 0 p 0 ⟨#[]⟩
theorem At.setK {w : World} {b : Nat} {k p n : Int} {s : ByteArray} (h : At w b (Tok k p n s)) (k' : Int) : At (w.setCell ⟨b, 0, none⟩ (.int .u8 k')) b (Tok k' p n s) := by
  unfold At Tok at *
  have h4 := heap_setCell_same w b 0 _ 32 (.int .u8 k') h
  simpa using h4
set_option maxRecDepth 100000 in
set_option maxHeartbeats 800000 in
theorem one_sign_bar (w : World) (S : List UInt8) (p : Nat) (c : UInt8) (hS : S.length ≤ maxLen) (hp : p < S.length) (hcl : c = S[p]) (h1 : isL c.toNat = false) (h2 : isG c.toNat = false) (h3 : isD c.toNat = false) (h4 : c.toNat ≠ 39) (h5 : c.toNat = 124) (h6 : (sg (S.drop p)).isEmpty = false) :
    Calls Tryd.prog 31 #[.string (str S), .int .i64 (p : Int)] w fun e w' => (∃ v, e = .returned v ∧ OneV p (rdSign (S.drop p)) v) ∧ Below w.heap.size w w' := by
  have hSm := hS
  unfold maxLen at hS
  have hsz : (str S).size = S.length := str_size S
  have hc : (str S)[p]'(by rw [hsz]; exact hp) = c := by rw [hcl]; rfl
  have hx : (str S).extract p S.length = str (S.drop p) := by rw [str_ext, List.take_of_length_le (Nat.le_refl _)]
  have gp0 : (0 : Int) ≤ (p : Int) := by omega
  have gp1 : (p : Int) < (S.length : Int) := by omega
  have gp2 : (p : Int) ≤ (S.length : Int) := by omega
  have hdr : S.drop p = c :: S.drop (p + 1) := by rw [hcl]; exact List.drop_eq_getElem_cons hp
  have hql : (S.drop p).length ≤ maxLen := by rw [List.length_drop]; omega
  have hsl := sg_le (S.drop p)
  rw [List.length_drop] at hsl
  have g39 : ((c.toNat : Int) == 39) = false := by simp; omega
  have HL : Hid (∀ W, Calls Tryd.prog 47 #[.int .u8 (c.toNat : Int)] W fun e w' => e = .returned (.bool false) ∧ w' = W) := fun W => by have := rLetter_any c.toNat W; rw [h1] at this; exact this
  have HG : Hid (∀ W, Calls Tryd.prog 48 #[.int .u8 (c.toNat : Int)] W fun e w' => e = .returned (.bool false) ∧ w' = W) := fun W => by have := rGreat_any c.toNat W; rw [h2] at this; exact this
  have HD : Hid (∀ W, Calls Tryd.prog 51 #[.int .u8 (c.toNat : Int)] W fun e w' => e = .returned (.bool false) ∧ w' = W) := fun W => by have := rDigit_any c.toNat W; rw [h3] at this; exact this
  have HSg : Hid (∀ W, Calls Tryd.prog 53 #[.string (str (S.drop p))] W fun e w' => e = .returned (.string (str (sg (S.drop p)))) ∧ Below W.heap.size W w') := fun W => rSign_any W _ hql
  have hhd : (S.drop p).head? = some c := by rw [hdr]; rfl
  have hcc : (some c = some 124) ↔ c.toNat = 124 := by
    constructor
    · intro e; cases e; rfl
    · intro e; rw [Option.some.injEq]; exact UInt8.toNat_inj.1 e
  have HR : Hid (rdSign (S.drop p) = if (sg (S.drop p)).isEmpty then ⟨0, 0, [], if c.toNat = 124 then 1 else 0⟩ else ⟨6, 0, sg (S.drop p), (sg (S.drop p)).length⟩) := by
    show _ = _
    unfold rdSign
    rw [hhd]
    simp only [hcc]
  generalize rdSign (S.drop p) = R at *
  generalize sg (S.drop p) = q at *
  generalize S.drop p = l at *
  clear hdr hhd hcl h1 h2 h3 h4 hcc hSm hql
  have g124 : ((c.toNat : Int) == 124) = true := by simp; omega
  have he : (str q).toList.isEmpty = false := by rw [str_list]; exact h6
  have hbq : (!(str q).toList.isEmpty) = true := by rw [he]; rfl
  have hqz : (str q).size = q.length := str_size q
  have HO : Hid (OneV p R (.tuple #[tok 6 p 0 (str q), .int .i64 ((p : Int) + (q.length : Int)), .bool true])) := by
    rw [HR.out, h6]
    exact ⟨6, p, 0, str q, by simp, fun _ => ⟨rfl, rfl, rfl, rfl⟩⟩
  have T1 := (At.new w (Tok 0 0 0 ⟨#[]⟩)).alloc (Tok 0 p 0 ⟨#[]⟩)
  have T2 := at_snd w (Tok 0 0 0 ⟨#[]⟩) (Tok 0 p 0 ⟨#[]⟩)
  have n1 : w.heap.size ≠ w.heap.size + 1 := by omega
  have n2 : w.heap.size + 1 ≠ w.heap.size := by omega
  have gl : (q.length : Int) ≤ (S.length : Int) := by omega
  have gl2 : (p : Int) + (q.length : Int) ≤ (S.length : Int) := by omega
  have hwr : IntKind.i64.wrap ((p : Int) + (q.length : Int)) = (p : Int) + (q.length : Int) := IntWalk.i64_in _ ⟨by omega, by omega⟩
  clear HR h5 h6
  go_enter Tryd.func31, Tryd.ntmps31
  go_wp2_with (first
    | (go_at_call 47; refine (HL.out _).mono ?_; rintro e w' ⟨rfl, rfl⟩)
    | (go_at_call 48; refine (HG.out _).mono ?_; rintro e w' ⟨rfl, rfl⟩)
    | (go_at_call 51; refine (HD.out _).mono ?_; rintro e w' ⟨rfl, rfl⟩)
    | (go_at_call 53; have _x := U2a; refine (HSg.out _).mono ?_; rintro e w2 ⟨rfl, hb2⟩; have V1 := U1a.below hb2; have V2 := U2a.below hb2; have B2 := below_aft Ba hb2; have hl3 := V1.lt; have hl4 := V2.lt; clear c0 c1 c2 c3 f0 d0 d1 d2 d3 f1; obtain ⟨c0, c1, c2, c3, f0⟩ := V1.tok; obtain ⟨d0, d1, d2, d3, f1⟩ := V2.tok)
    | (go_at_call 53; refine (HSg.out _).mono ?_; rintro e w1 ⟨rfl, hb1⟩; have T1' := T1.below hb1; have T2' := T2.below hb1; have U1a := T1'.set (a := ⟨w.heap.size + 1, 0, none⟩) n1 (.int .u8 6); have U2a := T2'.setK 6; have Ba : Below w.heap.size w (w1.setCell ⟨w.heap.size + 1, 0, none⟩ (.int .u8 6)) := (below2 hb1).setCell (p := ⟨w.heap.size + 1, 0, none⟩) (by simp) _; have hl1 := T1'.lt; have hl2 := T2'.lt; obtain ⟨c0, c1, c2, c3, f0⟩ := T1'.tok; obtain ⟨d0, d1, d2, d3, f1⟩ := T2'.tok))
  have U2 := V2.setS (str q)
  have U1 := V1.set (a := ⟨w.heap.size + 1, 3, none⟩) n1 (.string (str q))
  have BU : Below w.heap.size w (w2.setCell ⟨w.heap.size + 1, 3, none⟩ (.string (str q))) := B2.setCell (p := ⟨w.heap.size + 1, 3, none⟩) (by simp) _
  generalize w2.setCell ⟨w.heap.size + 1, 3, none⟩ (.string (str q)) = W1 at *
  clear c0 c1 c2 c3 f0 d0 d1 d2 d3 f1 V1 V2
  obtain ⟨c0, c1, c2, c3, f0⟩ := U1.tok
  obtain ⟨d0, d1, d2, d3, f1⟩ := U2.tok
  have HS : Hid (∀ W', (∃ k a n z, W' = setTok W1.drew w.heap.size k a n z) ∨ W' = W1.drew → (W'.cell? ⟨w.heap.size + 1, 0, none⟩ = some (.int .u8 6) ∧ W'.cell? ⟨w.heap.size + 1, 1, none⟩ = some (.int .i64 p) ∧ W'.cell? ⟨w.heap.size + 1, 2, none⟩ = some (.int .i64 0) ∧ W'.cell? ⟨w.heap.size + 1, 3, none⟩ = some (.string (str q)))) := fun W' h => by
    rcases h with ⟨k, a, n, z, rfl⟩ | rfl
    · have := (U2.drew.offTok n2 k a n z).tok; exact ⟨this.1, this.2.1, this.2.2.1, this.2.2.2.1⟩
    · exact ⟨d0, d1, d2, d3⟩
  go_region_held3 (fun W' => W'.cell? ⟨w.heap.size + 1, 0, none⟩ = some (.int .u8 6) ∧ W'.cell? ⟨w.heap.size + 1, 1, none⟩ = some (.int .i64 p) ∧ W'.cell? ⟨w.heap.size + 1, 2, none⟩ = some (.int .i64 0) ∧ W'.cell? ⟨w.heap.size + 1, 3, none⟩ = some (.string (str q)))
    (first | (exact HS.out _ (.inr rfl)) | (exact HS.out _ (.inl ⟨_, _, _, _, rfl⟩)) | go_keep) (fail)
  all_goals go_wp2
  have T3 := U1.setTok 6 p 0 (str q)
  obtain ⟨i0, i1, i2, i3, i4⟩ := T3.tok
  unfold setTok at i0 i1 i2 i3
  refine bodyPost_ret (v := .tuple #[tok 6 p 0 (str q), .int .i64 ((p : Int) + (q.length : Int)), .bool true]) (by simp [results, Tryd.results31, go_sem, i0, i1, i2, i3]) rfl ⟨⟨_, rfl, HO.out⟩, ?_⟩
  exact (below_setTok BU (Nat.le_refl _) 6 p 0 (str q)).drew
end Go.Proofs.YtpnamkpoapcgeaaDoor
