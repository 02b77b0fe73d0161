/-
  TypesAmong returns true for every list of structs and every type, and leaves them as they were: the row of 'loanwordlaw06.TypesAmong', and its card, tied to the program's text. No condition beyond the statement's own (the library's tables laid).
-/
import Derived.Test.YtjchbclkdbojpaaDoorDv
import Derived.Test.YtjchbclkdbojpaaDoorDd
namespace Go.Proofs.YtjchbclkdbojpaaDoor
open Go.ChangeShapes Go.WideShapes Go.ChangeAt Go.RowKit Go.Joins Go.Shelf Go.WideElems Go.Maps
set_option linter.unusedVariables false
set_option linter.unusedSimpArgs false

set_option maxRecDepth 100000 in
set_option maxHeartbeats 2000000 in
theorem among_big1 (w : World) (a : Option Addr) (n cap : Nat) (f : Fv) (h9 : FitS a n cap false w) :
    Calls Tryd.prog 3 #[.slice a n cap, f.v] w fun e w' => e = .returned (.bool true) ∧ Below w.heap.size w w' := by
  have CA : Hid (∀ W, Calls Tryd.prog 11 #[] W fun e w' => e = .returned (.bool true) ∧ Below W.heap.size W w') := awake_true
  have C9 := hidD h9
  obtain ⟨k, m, r, s, aa, nn, cc⟩ := f
  show Calls Tryd.prog 3 #[.slice a n cap, tyV k m r s aa nn cc] w _
  clear h9
  go_enter Tryd.func3, Tryd.ntmps3
  go_wp2_with (first
    | (go_at_call 9; refine (C9.out _ (belA (Below.refl _ _))).mono ?_; rintro e w1 ⟨rfl, hb1⟩)
    | (go_at_call 11; refine (CA.out _).mono ?_; rintro e w7 ⟨rfl, hb7⟩))
  go_ret
  exact ⟨rfl, below_aft (below1 hb1) hb7⟩
set_option maxRecDepth 100000 in
set_option maxHeartbeats 2000000 in
theorem among_big2 (w : World) (a : Option Addr) (n cap : Nat) (f : Fv) (t : Ty) (h9 : FitS a n cap true w) (ht : TyAt w f t) (hF : FitC 60 t false) :
    Calls Tryd.prog 3 #[.slice a n cap, f.v] w fun e w' => e = .returned (.bool true) ∧ Below w.heap.size w w' := by
  have CA : Hid (∀ W, Calls Tryd.prog 11 #[] W fun e w' => e = .returned (.bool true) ∧ Below W.heap.size W w') := awake_true
  have C9 := hidD h9
  have C10 : Hid (∀ W, Below w.heap.size w W → Calls Tryd.prog 10 #[f.v, .int .i64 60] W fun e w' => e = .returned (.bool false) ∧ Below W.heap.size W w') := hidD (fun W hW => hF f W (ht.bel hW))
  obtain ⟨k, m, r, s, aa, nn, cc⟩ := f
  show Calls Tryd.prog 3 #[.slice a n cap, tyV k m r s aa nn cc] w _
  clear h9 ht hF
  go_enter Tryd.func3, Tryd.ntmps3
  go_wp2_with (first
    | (go_at_call 9; refine (C9.out _ (belA (Below.refl _ _))).mono ?_; rintro e w1 ⟨rfl, hb1⟩; obtain ⟨hlp, p0, p1, p2, p3, p4⟩ := keepT (f := ⟨k, m, r, s, aa, nn, cc⟩) hb1; simp only [Nat.zero_add] at p0 p1 p2 p3 p4)
    | (go_at_call 10; refine (C10.out w1 (below1 hb1)).mono ?_; rintro e w2 ⟨rfl, hb2⟩)
    | (go_at_call 11; refine (CA.out _).mono ?_; rintro e w7 ⟨rfl, hb7⟩))
  go_ret
  exact ⟨rfl, below_aft (below_aft (below1 hb1) hb2) hb7⟩
/-- What is copied, both sides say. -/
theorem cop_both (t : Ty) (f : Fv) (w : World) (h : TyAt w f t) : ∃ cp, (∀ W, Below w.heap.size w W → Calls Tryd.prog 16 #[f.v] W fun e w' => e = .returned (.bool cp) ∧ Below W.heap.size W w') ∧ ∀ W, Below w.heap.size w W → Calls Tryd.prog 17 #[f.v] W fun e w' => e = .returned (.bool cp) ∧ Below W.heap.size W w' := by
  cases hi : isT t with
  | false => exact ⟨false, fun W hW => Copies_no t f W hi (h.bel hW), fun W hW => rCopies_no t f W hi (h.bel hW)⟩
  | true =>
    obtain ⟨c, rfl, hc⟩ := ok_of hi
    exact ⟨copB c, fun W hW => Copies_yes c f W hc (h.bel hW), fun W hW => rCopies_yes c f W hc (h.bel hW)⟩
theorem among_walk (a : Option Addr) (n cap : Nat) (ss : List (List Ty)) (f : Fv) (t : Ty) (w : World) (h : StAt w a n cap ss) (ht : TyAt w f t) :
    Calls Tryd.prog 3 #[.slice a n cap, f.v] w fun e w' => e = .returned (.bool true) ∧ Below w.heap.size w w' := by
  obtain ⟨x9, h9, -⟩ := fitS_ex a n cap ss w h
  cases x9 with
  | false => exact among_big1 w a n cap f h9
  | true =>
  obtain ⟨x10, hF⟩ := fits_ex 60 60 rfl (by decide) t
  cases x10 with
  | false => exact among_big2 w a n cap f t h9 ht hF
  | true =>
  obtain ⟨b1, b2, b3, hb⟩ := flt_ex ss
  obtain ⟨cp, h16, h17⟩ := cop_both t f w ht
  have h10 : ∀ W, Below w.heap.size w W → Calls Tryd.prog 10 #[f.v, .int .i64 60] W fun e w' => e = .returned (.bool true) ∧ Below W.heap.size W w' := fun W hW => hF f W (ht.bel hW)
  have h12 : ∀ W, Below w.heap.size w W → Calls Tryd.prog 12 #[.slice a n cap] W fun e w' => e = .returned (.tuple #[.int .i64 ((stRes n b1 b2 b3).1 : Int), .int .i64 ((stRes n b1 b2 b3).2 : Int)]) ∧ Below W.heap.size W w' := fun W hW => Structs_any a n cap ss W (h.bel hW) b1 b2 b3 hb
  have h13 : ∀ W, Below w.heap.size w W → Calls Tryd.prog 13 #[.slice a n cap] W fun e w' => e = .returned (.tuple #[.int .i64 ((stRes n b1 b2 b3).1 : Int), .int .i64 ((stRes n b1 b2 b3).2 : Int)]) ∧ Below W.heap.size W w' := fun W hW => rStructs_any a n cap ss W (h.bel hW) b1 b2 b3 hb
  have h14 : ∀ W, Below w.heap.size w W → Calls Tryd.prog 14 #[.slice a n cap, f.v] W fun e w' => e = .returned (.bool (mayS n b1 b2 b3 t)) ∧ Below W.heap.size W w' := fun W hW => May_any a n cap ss W (h.bel hW) b1 b2 b3 hb t f (ht.bel hW) _ rfl
  have h15 : ∀ W, Below w.heap.size w W → Calls Tryd.prog 15 #[.slice a n cap, f.v] W fun e w' => e = .returned (.bool (mayS n b1 b2 b3 t)) ∧ Below W.heap.size W w' := fun W hW => rMay_any a n cap ss W (h.bel hW) b1 b2 b3 hb t f (ht.bel hW) _ rfl
  cases hm : mayS n b1 b2 b3 t with
  | false =>
    exact among_no w a n cap f _ _ 0 2 2 _ false cp
      ⟨h9, h10, h12, h13, h14, h15, h16, h17, fun W hW => Words_no a n cap ss W (h.bel hW) b1 b2 b3 hb t f (ht.bel hW) hm, fun W hW => rWords_no a n cap ss W (h.bel hW) b1 b2 b3 hb t f (ht.bel hW) hm, fun W hW => Drops_no a n cap ss W (h.bel hW) b1 b2 b3 hb t f (ht.bel hW) hm, fun W hW => rDrops_no a n cap ss W (h.bel hW) b1 b2 b3 hb t f (ht.bel hW) hm⟩
      (fun W hW => Fields_no a n cap ss W (h.bel hW) b1 b2 b3 hb t f (ht.bel hW) (.inr hm)) (fun W hW => rFields_no a n cap ss W (h.bel hW) b1 b2 b3 hb t f (ht.bel hW) (.inr hm))
  | true =>
  obtain ⟨hW, hmb⟩ := well_of h hb hm
  have hA : Amg w a n cap f ((stRes n b1 b2 b3).1 : Int) ((stRes n b1 b2 b3).2 : Int) (wdT ss t : Int) 0 0 (mayS n b1 b2 b3 t) (dpT ss t) cp :=
    ⟨h9, h10, h12, h13, h14, h15, h16, h17, fun W hW => Words_yes a n cap ss W (h.bel hW) b1 b2 b3 hb t f (ht.bel hW) hm _ rfl, fun W hW => rWords_yes a n cap ss W (h.bel hW) b1 b2 b3 hb t f (ht.bel hW) hm _ rfl, fun W hW => Drops_yes a n cap ss W (h.bel hW) b1 b2 b3 hb t f (ht.bel hW) hm _ rfl, fun W hW => rDrops_yes a n cap ss W (h.bel hW) b1 b2 b3 hb t f (ht.bel hW) hm _ rfl⟩
  rcases may_kind hmb ht ss with ⟨j, hj, hs, hk, hfs⟩ | ⟨hs, hk, hd⟩
  · obtain ⟨fs, hfs'⟩ : ∃ fs, ss[j]? = some fs := ⟨_, List.getElem?_eq_getElem (by have := hW.len; omega)⟩
    have hfl := fld_of hfs'
    obtain ⟨g1, g2, g3⟩ := hW.fine j fs hfs'
    have hnn : n = ss.length := hW.len
    rw [← hnn] at g3
    obtain ⟨cs, hcs, hok⟩ := chains_ex fs g3
    have hlen : fs.length = cs.length := by rw [hcs]; simp
    have hcr : ∀ c' ∈ cs, c'.rg := fun c' hc' => by
      obtain ⟨i, hi'⟩ := List.mem_iff_getElem?.1 hc'
      obtain ⟨_, _, fa, _, _, _, _, hFd⟩ := h.one hfs'
      have hti : fs[i]? = some c'.ty := by rw [hcs, List.getElem?_map, hi']; rfl
      obtain ⟨_, _, _, hkk⟩ := hFd.2 (fun e => by subst e; simp at hti)
      obtain ⟨V, _, _, _, hVt⟩ := hkk i c'.ty hti
      exact TyAt.rg hVt
    exact among_st w a n cap f _ _ _ _ _ _ _ _ hA cs (by omega) hcr
      (fun W hW' => Fields_yes a n cap ss W (h.bel hW') b1 b2 b3 hb t f (ht.bel hW') hm j hk hfs hj cs (hfl.trans hcs) hok)
      (fun W hW' => rFields_yes a n cap ss W (h.bel hW') b1 b2 b3 hb t f (ht.bel hW') hm j hk hfs hj cs (hfl.trans hcs))
  · exact among_no w a n cap f _ _ _ _ _ _ _ _ hA (fun W hW' => Fields_no a n cap ss W (h.bel hW') b1 b2 b3 hb t f (ht.bel hW') (.inl hk)) (fun W hW' => rFields_no a n cap ss W (h.bel hW') b1 b2 b3 hb t f (ht.bel hW') (.inl hk))
set_option maxRecDepth 100000 in
theorem typesAmong_lifted (os : Os) (started : os.Started) (H : Type) (enc : TypeId × Value → H) :
    ReturnsInHanded {} Tryd.checked os 3 .any (fun w args => (Rows.typesAmongSpec.pre enc Tryd.prog Tryd.f3 [] false w args ∧ laidMetH Tryd.prog laidT w) ∧ sizedMet enc Tryd.prog Tryd.f3 (OpenSpec.ofChange Rows.typesAmongSpec) false w args)
      (Rows.typesAmongSpec.post enc Tryd.prog Tryd.f3 false true false false) := by
  refine lift_shaped (C := Tryd.checked) (X := fun w _ => laidMetH Tryd.prog laidT w) (fun _ _ _ hh h => h.of_heap hh) own started (by kernel_rfl) Tryd.func3
    (ChangeSpec.witness_shaped (enc := enc) (C := Tryd.checked) (os := os) (X := fun w _ => laidMetH Tryd.prog laidT w) false (World.laidAll Tryd.prog os laidT) #[.slice none 0 0, .agg #[.int .u8 0, .bool false, .int .i64 0, .int .i64 0, .slice none 0 0]] 8 (World.laidAll_os _ _ _) (World.shaped_of_ZipB (by kernel_rfl) (by kernel_rfl)) (by kernel_rfl) (by kernel_rfl) (by kernel_rfl) (door_metT os _)) ?_
  intro W base args ds gs before hval0 hW hL hsh
  have hval : ∀ (j : Nat) t v, Tryd.f3.params[j]? = some t → args[j]? = some v → Value.okWide Tryd.prog W .any base t v := hval0
  have hW' := hW
  obtain ⟨p, q, hA0, hV, rfl, hfz, hnd⟩ := hW
  have hA : DataW.TrodAll enc Tryd.prog W 0 (fun _ => true) true Tryd.f3.params.toList args.toList ds p := hA0
  rw [Tryd.params3] at hA hval
  obtain ⟨v0, vs0, d0, ds0, p0, q0, hargs, rfl, rfl, h0, r0⟩ := trodAll_cons hA
  obtain ⟨v1, vs1, d1, ds1, p1, q1, rfl, rfl, rfl, h1, r1⟩ := trodAll_cons r0
  obtain ⟨rfl, rfl, rfl⟩ := trodAll_nil r1
  obtain rfl : args = #[v0, v1] := by cases args; simp_all
  obtain ⟨rfl, rfl⟩ := trodVars_none hV
  have k0 := h0
  have k1 := h1
  have lt0 : ∀ x ∈ p0, x.block < W.heap.size := by obtain ⟨m, hm⟩ := k0; exact DataW.trod_lt m _ _ _ hm
  have lt1 : ∀ x ∈ p1, x.block < W.heap.size := by obtain ⟨m, hm⟩ := k1; exact DataW.trod_lt m _ _ _ hm
  obtain ⟨a, n, cap, ss, rfl, hS⟩ := open_structs (hval 0 22 v0 rfl rfl) h0
  obtain ⟨f, t, rfl, hT⟩ := open_type (hval 1 26 v1 rfl rfl) h1
  clear hA0 hval0
  refine (among_walk a n cap ss f t W hS hT).mono fun e W' ⟨he, bel⟩ => ?_
  subst he
  exact ⟨_, rfl, _, _, _, [], _, [], hW', trodAll_mk1 (shut_bool Tryd.underlying4 _), (trodAll_cons_mk (Below.trod laidOut (by kernel_rfl) (of_decide_eq_true (by kernel_rfl)) k0 bel lt0) (trodAll_cons_mk (Below.trod laidOut (by kernel_rfl) (of_decide_eq_true (by kernel_rfl)) k1 bel lt1) trodAll_mk0)), rfl, bel.frame _, fun h => by cases h⟩
theorem typesAmong_row : Rows.TypesAmongSaid :=
  OpenClaim.holds_of_wide 3 Tryd.f3 rfl rfl rfl rfl rfl rfl rfl ⟨rfl, rfl, rfl, rfl, rfl⟩ rfl rfl rfl rfl rfl (by kernel_rfl) Tryd.func3 (by kernel_rfl)
    (of_decide_eq_true (by kernel_rfl)) (by unfold Func.isWrapper; first | (rw [if_pos (by decide +kernel)]; kernel_rfl) | (rw [if_neg (by decide +kernel)]; exact ⟨rfl, rfl⟩))
    (fun os started H enc _ => typesAmong_lifted os started H enc)
theorem typesAmong_holds : Rows.TypesAmongCardSaid :=
  Claim7.holds_tied_plain_at .later [] [.data, .data, .data] true (true, "1452669d7a3223c60428030cae66f8ebb1e5237a8679f11303ec3cf39a5f89b7") false
    typesAmong_row (fun _ h => by cases h) (by kernel_rfl) (fun _ h => by cases h) typesAmong_row_tie rfl ⟨rfl, rfl⟩ (by kernel_rfl) rfl
    (fun f fn hf hfn => by
      obtain rfl : f = 3 := Option.some.inj ((show Tryd.prog.funcNamed "loanword/loanwordlaw06.TypesAmong" = some 3 by kernel_rfl).symm.trans hf) |>.symm
      obtain rfl : fn = Tryd.f3 := (Option.some.inj (Tryd.func3.symm.trans hfn)).symm
      exact ⟨by kernel_rfl, fun j t ht => by
        rw [Tryd.params3] at ht
        have hm : t ∈ [22, 26] := by simpa using Array.mem_of_getElem? ht
        have hall : ([22, 26].all fun u => !Tryd.prog.wantsStandIn u) = true := by kernel_rfl
        exact (show Tryd.prog.wantsStandIn t = false by simpa using List.all_eq_true.1 hall t hm)⟩)
    (by kernel_rfl)
#print axioms typesAmong_holds
end Go.Proofs.YtjchbclkdbojpaaDoor
