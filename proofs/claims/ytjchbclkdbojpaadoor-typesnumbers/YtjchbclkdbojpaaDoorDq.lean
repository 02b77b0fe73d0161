/-
  TypesNumbers returns true for every list of structs, every type and every number, and leaves them as they were: the row of 'loanwordlaw06.TypesNumbers', and its card, tied to the program's text. No condition beyond the statement's own (the library's tables laid).
-/
import Derived.Test.YtjchbclkdbojpaaDoorDp
import Derived.Test.YtjchbclkdbojpaaDoorDd
namespace Go.Proofs.YtjchbclkdbojpaaDoor
open Go.ChangeShapes Go.WideShapes Go.ChangeAt Go.RowKit Go.Joins Go.Shelf Go.WideElems Go.Maps
set_option linter.unusedVariables false
set_option linter.unusedSimpArgs false

set_option maxRecDepth 100000 in
set_option maxHeartbeats 2000000 in
theorem nums_big1 (w : World) (a : Option Addr) (n cap : Nat) (f : Fv) (fr : Int) (h9 : FitS a n cap false w) :
    Calls Tryd.prog 8 #[.slice a n cap, f.v, .int .i64 fr] w fun e w' => e = .returned (.bool true) ∧ Below w.heap.size w w' := by
  have CA : Hid (∀ W, Calls Tryd.prog 11 #[] W fun e w' => e = .returned (.bool true) ∧ Below W.heap.size W w') := awake_true
  have C9 := hidD h9
  obtain ⟨k, m, r, s, aa, nn, cc⟩ := f
  show Calls Tryd.prog 8 #[.slice a n cap, tyV k m r s aa nn cc, .int .i64 fr] w _
  clear h9
  go_enter Tryd.func8, Tryd.ntmps8
  go_wp2_with (first
    | (go_at_call 9; refine (C9.out _ (belA (Below.refl _ _))).mono ?_; rintro e w1 ⟨rfl, hb1⟩)
    | (go_at_call 11; refine (CA.out _).mono ?_; rintro e w7 ⟨rfl, hb7⟩))
  go_ret
  exact ⟨rfl, below_aft (below1 hb1) hb7⟩
set_option maxRecDepth 100000 in
set_option maxHeartbeats 2000000 in
theorem nums_big2 (w : World) (a : Option Addr) (n cap : Nat) (f : Fv) (t : Ty) (fr : Int) (h9 : FitS a n cap true w) (ht : TyAt w f t) (hF : FitC 60 t false) :
    Calls Tryd.prog 8 #[.slice a n cap, f.v, .int .i64 fr] w fun e w' => e = .returned (.bool true) ∧ Below w.heap.size w w' := by
  have CA : Hid (∀ W, Calls Tryd.prog 11 #[] W fun e w' => e = .returned (.bool true) ∧ Below W.heap.size W w') := awake_true
  have C9 := hidD h9
  have C10 : Hid (∀ W, Below w.heap.size w W → Calls Tryd.prog 10 #[f.v, .int .i64 60] W fun e w' => e = .returned (.bool false) ∧ Below W.heap.size W w') := hidD (fun W hW => hF f W (ht.bel hW))
  obtain ⟨k, m, r, s, aa, nn, cc⟩ := f
  show Calls Tryd.prog 8 #[.slice a n cap, tyV k m r s aa nn cc, .int .i64 fr] w _
  clear h9 ht hF
  go_enter Tryd.func8, Tryd.ntmps8
  go_wp2_with (first
    | (go_at_call 9; refine (C9.out _ (belA (Below.refl _ _))).mono ?_; rintro e w1 ⟨rfl, hb1⟩; obtain ⟨hlp, p0, p1, p2, p3, p4⟩ := keepP (f := ⟨k, m, r, s, aa, nn, cc⟩) hb1; simp only [Nat.zero_add] at p0 p1 p2 p3 p4)
    | (go_at_call 10; refine (C10.out w1 (below1 hb1)).mono ?_; rintro e w2 ⟨rfl, hb2⟩)
    | (go_at_call 11; refine (CA.out _).mono ?_; rintro e w7 ⟨rfl, hb7⟩))
  go_ret
  exact ⟨rfl, below_aft (below_aft (below1 hb1) hb2) hb7⟩
set_option maxRecDepth 100000 in
set_option maxHeartbeats 4000000 in
theorem nums_un (w : World) (a : Option Addr) (n cap : Nat) (f : Fv) (t : Ty) (fr : Int) (h9 : FitS a n cap true w) (ht : TyAt w f t) (hF : FitC 60 t true) (hb : isT t = false) (h14 : ∀ W, Below w.heap.size w W → Calls Tryd.prog 14 #[.slice a n cap, f.v] W fun e w' => e = .returned (.bool false) ∧ Below W.heap.size W w') :
    Calls Tryd.prog 8 #[.slice a n cap, f.v, .int .i64 fr] w fun e w' => e = .returned (.bool true) ∧ Below w.heap.size w w' := by
  have CA : Hid (∀ W, Calls Tryd.prog 11 #[] W fun e w' => e = .returned (.bool true) ∧ Below W.heap.size W w') := awake_true
  have C9 := hidD h9
  have C14 := hidD h14
  have C10 : Hid (∀ W, Below w.heap.size w W → Calls Tryd.prog 10 #[f.v, .int .i64 60] W fun e w' => e = .returned (.bool true) ∧ Below W.heap.size W w') := hidD (fun W hW => hF f W (ht.bel hW))
  have C32 : Hid (∀ W, Below w.heap.size w W → Calls Tryd.prog 32 #[f.v] W fun e w' => e = .returned (.slice none 0 0) ∧ Below W.heap.size W w') := hidD (fun W hW => Regions_no t f W (ht.bel hW) hb)
  have C36 : Hid (∀ W, Below w.heap.size w W → Calls Tryd.prog 36 #[f.v, .slice none 0 0] W fun e w' => ∃ f' : Fv, e = .returned (.tuple #[f'.v, .int .i64 2]) ∧ New W w' f' (.leaf 0 0)) := hidD (fun W hW => Anew_un t f none 0 0 W (ht.bel hW) hb)
  have C26 : Hid (∀ W, Below w.heap.size w W → Calls Tryd.prog 26 #[f.v] W fun e w' => ∃ f' : Fv, e = .returned (.tuple #[f'.v, .int .i64 2]) ∧ New W w' f' (.leaf 0 0)) := hidD (fun W hW => Own_no t f W hb (ht.bel hW))
  have C34 : Hid (∀ W, Below w.heap.size w W → Calls Tryd.prog 34 #[f.v, .int .i64 fr] W fun e w' => ∃ f' : Fv, e = .returned (.tuple #[f'.v, .int .i64 0, .int .i64 2]) ∧ New W w' f' (.leaf 0 0)) := hidD (fun W hW => Number_no t f fr W (ht.bel hW) _ rfl (.inl hb))
  obtain ⟨k, m, r, s, aa, nn, cc⟩ := f
  show Calls Tryd.prog 8 #[.slice a n cap, tyV k m r s aa nn cc, .int .i64 fr] w _
  clear h9 ht hF hb h14
  have st1 : Stg 1 := .mk 1
  go_enter Tryd.func8, Tryd.ntmps8
  go_wp2_with (first
    | (have _s := st1; clear st1 _s; go_at_call 9; refine (C9.out _ (belA (Below.refl _ _))).mono ?_; rintro e w1 ⟨rfl, hb1⟩; have HB1 := hidD hb1; obtain ⟨hlp, p0, p1, p2, p3, p4⟩ := keepP (f := ⟨k, m, r, s, aa, nn, cc⟩) HB1.out; simp only [Nat.zero_add] at p0 p1 p2 p3 p4; clear hb1; have st2 : Stg 2 := .mk 2)
    | (have _s := st2; clear st2 _s; go_at_call 10; refine (C10.out w1 (below1 HB1.out)).mono ?_; rintro e w2 ⟨rfl, hb2⟩; have HB2 := hidD (below_aft HB1.out hb2); clear p0 p1 p2 p3 p4 hlp; obtain ⟨hlp, p0, p1, p2, p3, p4⟩ := keepP (f := ⟨k, m, r, s, aa, nn, cc⟩) HB2.out; simp only [Nat.zero_add] at p0 p1 p2 p3 p4; clear hb2; have st3 : Stg 3 := .mk 3)
    | (have _s := st3; clear st3 _s; go_at_call 32; refine (C32.out w2 (below1 HB2.out)).mono ?_; rintro e w3 ⟨rfl, hb3⟩; have HB3 := hidD (below_aft HB2.out hb3); clear p0 p1 p2 p3 p4 hlp; obtain ⟨hlp, p0, p1, p2, p3, p4⟩ := keepP (f := ⟨k, m, r, s, aa, nn, cc⟩) HB3.out; simp only [Nat.zero_add] at p0 p1 p2 p3 p4; clear hb3; have st4 : Stg 4 := .mk 4)
    | (have _s := st4; clear st4 _s; go_at_call 36; refine (C36.out w3 (below1 HB3.out)).mono ?_; rintro e w4 ⟨fx, rfl, hN⟩; have HB4 := hidD (below_aft HB3.out hN.bel); clear p0 p1 p2 p3 p4 hlp; obtain ⟨hlp, p0, p1, p2, p3, p4⟩ := keepP (f := ⟨k, m, r, s, aa, nn, cc⟩) HB4.out; simp only [Nat.zero_add] at p0 p1 p2 p3 p4; clear hN; have st5 : Stg 5 := .mk 5)
    | (have _s := st5; clear st5 _s; go_at_call 26; refine (C26.out (w4.alloc fx.o) (below1 (belA HB4.out))).mono ?_; rintro e w5 ⟨fy, rfl, hN⟩; have HB5 := hidD (below_aft (belA HB4.out) hN.bel); clear p0 p1 p2 p3 p4 hlp; obtain ⟨hlp, p0, p1, p2, p3, p4⟩ := keepP (f := ⟨k, m, r, s, aa, nn, cc⟩) HB5.out; simp only [Nat.zero_add] at p0 p1 p2 p3 p4; clear hN; have st6 : Stg 6 := .mk 6)
    | (have _s := st6; clear st6 _s; go_at_call 34; refine (C34.out (w5.alloc fy.o) (below1 (belA HB5.out))).mono ?_; rintro e w6 ⟨fz, rfl, hN⟩; have HB6 := hidD (below_aft (belA HB5.out) hN.bel); clear p0 p1 p2 p3 p4 hlp; obtain ⟨hlp, p0, p1, p2, p3, p4⟩ := keepP (f := ⟨k, m, r, s, aa, nn, cc⟩) HB6.out; simp only [Nat.zero_add] at p0 p1 p2 p3 p4; clear hN; have st7 : Stg 7 := .mk 7)
    | (have _s := st7; clear st7 _s; go_at_call 14; refine (C14.out (w6.alloc fz.o) (below1 (belA HB6.out))).mono ?_; rintro e w7 ⟨rfl, hb7⟩; have HB7 := hidD (below_aft (belA HB6.out) hb7); clear p0 p1 p2 p3 p4 hlp; clear hb7; have st8 : Stg 8 := .mk 8)
    | (have _s := st8; clear st8 _s; go_at_call 11; refine (CA.out _).mono ?_; rintro e w8 ⟨rfl, hb8⟩; have HB8 := hidD (below_aft HB7.out hb8); clear hb8))
  go_ret
  exact ⟨rfl, below1 HB8.out⟩
theorem mayS_is {n : Nat} {b1 b2 b3 : Nat → Bool} {t : Ty} (h : mayS n b1 b2 b3 t = true) : isT t = true := by
  unfold mayS at h
  rw [Bool.and_eq_true, decide_eq_true_iff] at h
  obtain ⟨h1, -⟩ := stRes_ok h.1
  obtain ⟨c, rfl, h3, h4⟩ := mayB_ch h.2
  exact ch_mayB (Ch.ok_mono (by omega) c h3) h4
/-- Of structs that may be: a field's type is among them, too. -/
theorem mayS_field {n : Nat} {b1 b2 b3 : Nat → Bool} {t : Ty} (h : mayS n b1 b2 b3 t = true) {c : Ch} (hc : c.ok n) (hd : c.depth ≤ 48) : mayS n b1 b2 b3 c.ty = true := by
  unfold mayS at h ⊢
  rw [Bool.and_eq_true] at h ⊢
  exact ⟨h.1, ch_mayB hc hd⟩
/-- What is copied is one word, and is not dropped. -/
theorem cop_one (ss : List (List Ty)) {c : Ch} (h : copB c = true) : wdT ss c.ty = 1 ∧ dpT ss c.ty = false ∧ subT c.ty = none := by
  cases c with
  | leaf k s =>
    have hk : k = 1 ∨ k = 2 := by simpa [copB] using h
    have e : subT (Ch.leaf k s).ty = none := by simp only [Ch.ty, subT]; rw [if_neg (by omega)]
    refine ⟨by unfold wdT; rw [e], ?_, e⟩
    unfold dpT
    rw [e]
    simp only [Ch.ty, boxT]
    exact decide_eq_false (by omega)
  | box c => cases h
  | ref m r c => exact ⟨rfl, rfl, rfl⟩
theorem any_map {α β : Type} (f : α → β) (p : β → Bool) : ∀ l : List α, (l.map f).any p = l.any (fun x => p (f x))
  | [] => rfl
  | x :: l => by
    rw [List.map_cons, List.any_cons, List.any_cons, any_map f p l]
theorem nums_walk (a : Option Addr) (n cap : Nat) (ss : List (List Ty)) (f : Fv) (t : Ty) (fr : Int) (w : World) (h : StAt w a n cap ss) (ht : TyAt w f t) (hfr : -9223372036854775808 ≤ fr ∧ fr ≤ 9223372036854775807) :
    Calls Tryd.prog 8 #[.slice a n cap, f.v, .int .i64 fr] w fun e w' => e = .returned (.bool true) ∧ Below w.heap.size w w' := by
  obtain ⟨x9, h9, -⟩ := fitS_ex a n cap ss w h
  cases x9 with
  | false => exact nums_big1 w a n cap f fr h9
  | true =>
  obtain ⟨x10, hF⟩ := fits_ex 60 60 rfl (by decide) t
  cases x10 with
  | false => exact nums_big2 w a n cap f t fr h9 ht hF
  | true =>
  obtain ⟨b1, b2, b3, hb⟩ := flt_ex ss
  have M14 : ∀ x, x = mayS n b1 b2 b3 t → ∀ W, Below w.heap.size w W → Calls Tryd.prog 14 #[.slice a n cap, f.v] W fun e w' => e = .returned (.bool x) ∧ Below W.heap.size W w' := fun x hx W hW => May_any a n cap ss W (h.bel hW) b1 b2 b3 hb t f (ht.bel hW) x hx
  cases hi : isT t with
  | false =>
    refine nums_un w a n cap f t fr h9 ht hF hi (M14 false ?_)
    cases hm : mayS n b1 b2 b3 t with
    | false => rfl
    | true => rw [mayS_is hm] at hi; cases hi
  | true =>
  obtain ⟨c, rfl, hc⟩ := ok_of hi
  obtain ⟨L, hL⟩ : ∃ L, L = c.regs.length := ⟨_, rfl⟩
  have hL60 : L ≤ 60 := by have := hc.deep; have := regs_le c; omega
  have hP := num_p w f c hc ht hF L hL
  have hrg := TyAt.rg ht
  cases hm : mayS n b1 b2 b3 c.ty with
  | false =>
    by_cases hfr2 : 0 ≤ fr ∧ fr ≤ 512
    · exact nums_y_no w a n cap f c fr L hL60 h9 hP hrg _ (num_q w f c hc ht L hL fr hfr2.1 hfr2.2) hfr2.1 hfr2.2 (M14 false hm.symm)
    · exact nums_n_no w a n cap f c fr L hL60 h9 hP hrg (fun W hW => Number_no c.ty f fr W (ht.bel hW) _ rfl (.inr (by omega))) (M14 false hm.symm)
  | true =>
  have h14 := M14 true hm.symm
  obtain ⟨hW, hmb⟩ := well_of h hb hm
  have h18 : ∀ W, Below w.heap.size w W → Calls Tryd.prog 18 #[.slice a n cap, f.v] W fun e w' => e = .returned (.tuple #[.int .i64 (wdT ss c.ty : Int), .int .i64 0]) ∧ Below W.heap.size W w' := fun W hW' => Words_yes a n cap ss W (h.bel hW') b1 b2 b3 hb c.ty f (ht.bel hW') hm _ rfl
  have h20 : ∀ W, Below w.heap.size w W → Calls Tryd.prog 20 #[.slice a n cap, f.v] W fun e w' => e = .returned (.tuple #[.bool (dpT ss c.ty), .int .i64 0]) ∧ Below W.heap.size W w' := fun W hW' => Drops_yes a n cap ss W (h.bel hW') b1 b2 b3 hb c.ty f (ht.bel hW') hm _ rfl
  have h16 : ∀ W, Below w.heap.size w W → Calls Tryd.prog 16 #[f.v] W fun e w' => e = .returned (.bool (copB c)) ∧ Below W.heap.size W w' := fun W hW' => Copies_yes c f W hc (ht.bel hW')
  rcases may_kind hmb ht ss with ⟨j, hj, hs, hk, hfs⟩ | ⟨hs, hk, hd⟩
  · have hcp : copB c = false := by
      cases hcp : copB c with
      | false => rfl
      | true => rw [(cop_one ss hcp).2.2] at hs; cases hs
    rw [hcp] at h16
    obtain ⟨fs, hfs'⟩ : ∃ fs, ss[j]? = some fs := ⟨_, List.getElem?_eq_getElem (by have := hW.len; omega)⟩
    have hfl := fld_of hfs'
    obtain ⟨g1, g2, g3⟩ := hW.fine j fs hfs'
    have hnn : n = ss.length := hW.len
    rw [← hnn] at g3
    obtain ⟨cs, hcs, hok⟩ := chains_ex fs g3
    obtain ⟨rk, hr⟩ := hW.rank
    have hlen : fs.length = cs.length := by rw [hcs]; simp
    have hwle : ∀ c' ∈ cs, wdT ss c'.ty ≤ 16 ∧ 1 ≤ wdT ss c'.ty := fun c' hc' => wd_le hW (fun l hl => by
      have hp : PlainT n c'.ty := ⟨c', rfl, hok c' hc'⟩
      exact (hp.sub hl).1)
    have e1 : wdT ss c.ty = tw ss j := by unfold wdT; rw [hs]
    have e2 : dpT ss c.ty = dp ss j := by unfold dpT; rw [hs]
    have hsum : (cs.map fun c' => wdT ss c'.ty).sum = wdT ss c.ty := by
      rw [e1, tw_eq hr, hfl, hcs, List.map_map]
      rfl
    have hany : (cs.any fun c' => dpT ss c'.ty) = dpT ss c.ty := by
      rw [e2, dp_eq hr, hfl, hcs, any_map]
    have hlq : cs.length ≤ wdT ss c.ty := by
      rw [← hsum]
      exact sum_len (fun c' : Ch => wdT ss c'.ty) cs (fun c' hc' => (hwle c' hc').2)
    have hcr : ∀ c' ∈ cs, c'.rg := fun c' hc' => by
      obtain ⟨i, hi'⟩ := List.mem_iff_getElem?.1 hc'
      obtain ⟨_, _, fa, _, _, _, _, hFd⟩ := h.one hfs'
      have hti : fs[i]? = some c'.ty := by rw [hcs, List.getElem?_map, hi']; rfl
      obtain ⟨_, _, _, hkk⟩ := hFd.2 (fun e => by subst e; simp at hti)
      obtain ⟨V, _, _, _, hVt⟩ := hkk i c'.ty hti
      exact TyAt.rg hVt
    have h22 : ∀ W, Below w.heap.size w W → Calls Tryd.prog 22 #[.slice a n cap, f.v] W fun e w' => ∃ v fl lo hi, e = .returned (.tuple #[v, .int .i64 0]) ∧ FRow w' W.heap.size v cs fl lo hi ∧ Below W.heap.size W w' := fun W hW' => Fields_yes a n cap ss W (h.bel hW') b1 b2 b3 hb c.ty f (ht.bel hW') hm j hk hfs hj cs (hfl.trans hcs) hok
    have f18 : ∀ W (g : Fv) c', c' ∈ cs → Below w.heap.size w W → TyAt W g c'.ty → Calls Tryd.prog 18 #[.slice a n cap, g.v] W fun e w' => e = .returned (.tuple #[.int .i64 ((wdT ss c'.ty : Nat) : Int), .int .i64 0]) ∧ Below W.heap.size W w' := fun W g c' hc' hW' hg => Words_yes a n cap ss W (h.bel hW') b1 b2 b3 hb c'.ty g hg (mayS_field hm (hok c' hc').1 (hok c' hc').2.1) _ rfl
    have f20 : ∀ W (g : Fv) c', c' ∈ cs → Below w.heap.size w W → TyAt W g c'.ty → Calls Tryd.prog 20 #[.slice a n cap, g.v] W fun e w' => e = .returned (.tuple #[.bool (dpT ss c'.ty), .int .i64 0]) ∧ Below W.heap.size W w' := fun W g c' hc' hW' hg => Drops_yes a n cap ss W (h.bel hW') b1 b2 b3 hb c'.ty g hg (mayS_field hm (hok c' hc').1 (hok c' hc').2.1) _ rfl
    have hq := wd_le hW (t := c.ty) (fun l hl => by rw [hs] at hl; cases hl; exact hj)
    by_cases hfr2 : 0 ≤ fr ∧ fr ≤ 512
    · exact nums_y_st w a n cap f c fr L hL60 h9 hP hrg _ (num_q w f c hc ht L hL fr hfr2.1 hfr2.2) hfr2.1 hfr2.2 h14 _ hq.2 hq.1 _ h18 h20 h16 cs h22 (fun c' => wdT ss c'.ty) (fun c' => dpT ss c'.ty) (fun c' hc' => (hwle c' hc').1) (by omega) hcr hsum hany hlq f18 f20
    · exact nums_n_st w a n cap f c fr L hL60 h9 hP hrg (fun W hW => Number_no c.ty f fr W (ht.bel hW) _ rfl (.inr (by omega))) h14 _ hq.2 hq.1 _ h18 h20 h16 cs h22 (fun c' => wdT ss c'.ty) (fun c' => dpT ss c'.ty) (fun c' hc' => (hwle c' hc').1) (by omega) hcr hsum hany hlq f18 f20
  · have e1 : wdT ss c.ty = 1 := by unfold wdT; rw [hs]
    rw [e1] at h18
    have h22 : ∀ W, Below w.heap.size w W → Calls Tryd.prog 22 #[.slice a n cap, f.v] W fun e w' => e = .returned (.tuple #[.slice none 0 0, .int .i64 2]) ∧ Below W.heap.size W w' := fun W hW' => Fields_no a n cap ss W (h.bel hW') b1 b2 b3 hb c.ty f (ht.bel hW') (.inl hk)
    cases hcp : copB c with
    | true =>
      rw [hcp] at h16
      rw [(cop_one ss hcp).2.1] at h20
      by_cases hfr2 : 0 ≤ fr ∧ fr ≤ 512
      · exact nums_y_cp w a n cap f c fr L hL60 h9 hP hrg _ (num_q w f c hc ht L hL fr hfr2.1 hfr2.2) hfr2.1 hfr2.2 h14 h18 h20 h16 h22
      · exact nums_n_cp w a n cap f c fr L hL60 h9 hP hrg (fun W hW => Number_no c.ty f fr W (ht.bel hW) _ rfl (.inr (by omega))) h14 h18 h20 h16 h22
    | false =>
      rw [hcp] at h16
      by_cases hfr2 : 0 ≤ fr ∧ fr ≤ 512
      · exact nums_y_nc w a n cap f c fr L hL60 h9 hP hrg _ (num_q w f c hc ht L hL fr hfr2.1 hfr2.2) hfr2.1 hfr2.2 h14 _ h18 h20 h16 h22
      · exact nums_n_nc w a n cap f c fr L hL60 h9 hP hrg (fun W hW => Number_no c.ty f fr W (ht.bel hW) _ rfl (.inr (by omega))) h14 _ h18 h20 h16 h22
set_option maxRecDepth 100000 in
theorem typesNumbers_lifted (os : Os) (started : os.Started) (H : Type) (enc : TypeId × Value → H) :
    ReturnsInHanded {} Tryd.checked os 8 .any (fun w args => (Rows.typesNumbersSpec.pre enc Tryd.prog Tryd.f8 [] false w args ∧ laidMetH Tryd.prog laidT w) ∧ sizedMet enc Tryd.prog Tryd.f8 (OpenSpec.ofChange Rows.typesNumbersSpec) false w args)
      (Rows.typesNumbersSpec.post enc Tryd.prog Tryd.f8 false true false false) := by
  refine lift_shaped (C := Tryd.checked) (X := fun w _ => laidMetH Tryd.prog laidT w) (fun _ _ _ hh h => h.of_heap hh) own started (by kernel_rfl) Tryd.func8
    (ChangeSpec.witness_shaped (enc := enc) (C := Tryd.checked) (os := os) (X := fun w _ => laidMetH Tryd.prog laidT w) false (World.laidAll Tryd.prog os laidT) #[.slice none 0 0, .agg #[.int .u8 0, .bool false, .int .i64 0, .int .i64 0, .slice none 0 0], .int .i64 0] 8 (World.laidAll_os _ _ _) (World.shaped_of_ZipB (by kernel_rfl) (by kernel_rfl)) (by kernel_rfl) (by kernel_rfl) (by kernel_rfl) (door_metT os _)) ?_
  intro W base args ds gs before hval0 hW hL hsh
  have hval : ∀ (j : Nat) t v, Tryd.f8.params[j]? = some t → args[j]? = some v → Value.okWide Tryd.prog W .any base t v := hval0
  have hW' := hW
  obtain ⟨p, q, hA0, hV, rfl, hfz, hnd⟩ := hW
  have hA : DataW.TrodAll enc Tryd.prog W 0 (fun _ => true) true Tryd.f8.params.toList args.toList ds p := hA0
  rw [Tryd.params8] at hA hval
  obtain ⟨v0, vs0, d0, ds0, p0, q0, hargs, rfl, rfl, h0, r0⟩ := trodAll_cons hA
  obtain ⟨v1, vs1, d1, ds1, p1, q1, rfl, rfl, rfl, h1, r1⟩ := trodAll_cons r0
  obtain ⟨v2, vs2, d2, ds2, p2, q2, rfl, rfl, rfl, h2, r2⟩ := trodAll_cons r1
  obtain ⟨rfl, rfl, rfl⟩ := trodAll_nil r2
  obtain rfl : args = #[v0, v1, v2] := by cases args; simp_all
  obtain ⟨rfl, rfl⟩ := trodVars_none hV
  have k0 := h0
  have k1 := h1
  have k2 := h2
  have lt0 : ∀ x ∈ p0, x.block < W.heap.size := by obtain ⟨m, hm⟩ := k0; exact DataW.trod_lt m _ _ _ hm
  have lt1 : ∀ x ∈ p1, x.block < W.heap.size := by obtain ⟨m, hm⟩ := k1; exact DataW.trod_lt m _ _ _ hm
  have lt2 : ∀ x ∈ p2, x.block < W.heap.size := by obtain ⟨m, hm⟩ := k2; exact DataW.trod_lt m _ _ _ hm
  obtain ⟨a, n, cap, ss, rfl, hS⟩ := open_structs (hval 0 22 v0 rfl rfl) h0
  obtain ⟨f, t, rfl, hT⟩ := open_type (hval 1 26 v1 rfl rfl) h1
  obtain ⟨fr, rfl⟩ := okWide_int Tryd.underlying3 (hval 2 3 v2 rfl rfl)
  have hfr : -9223372036854775808 ≤ fr ∧ fr ≤ 9223372036854775807 := by
    obtain ⟨fu, hfu⟩ := h2
    obtain ⟨x, q0, _, w0⟩ := DataW.trod_int Tryd.underlying3 hfu
    simp [Value.cells] at q0
    subst q0
    simp [Lit.wf, IntKind.min, IntKind.max, IntKind.signed, IntKind.bits] at w0
    omega
  clear hA0 hval0
  refine (nums_walk a n cap ss f t fr W hS hT hfr).mono fun e W' ⟨he, bel⟩ => ?_
  subst he
  exact ⟨_, rfl, _, _, _, [], _, [], hW', trodAll_mk1 (shut_bool Tryd.underlying4 _), (trodAll_cons_mk (Below.trod laidOut (by kernel_rfl) (of_decide_eq_true (by kernel_rfl)) k0 bel lt0) (trodAll_cons_mk (Below.trod laidOut (by kernel_rfl) (of_decide_eq_true (by kernel_rfl)) k1 bel lt1) (trodAll_cons_mk (Below.trod laidOut (by kernel_rfl) (of_decide_eq_true (by kernel_rfl)) k2 bel lt2) trodAll_mk0))), rfl, bel.frame _, fun h => by cases h⟩
theorem typesNumbers_row : Rows.TypesNumbersSaid :=
  OpenClaim.holds_of_wide 8 Tryd.f8 rfl rfl rfl rfl rfl rfl rfl ⟨rfl, rfl, rfl, rfl, rfl⟩ rfl rfl rfl rfl rfl (by kernel_rfl) Tryd.func8 (by kernel_rfl)
    (of_decide_eq_true (by kernel_rfl)) (by unfold Func.isWrapper; first | (rw [if_pos (by decide +kernel)]; kernel_rfl) | (rw [if_neg (by decide +kernel)]; exact ⟨rfl, rfl⟩))
    (fun os started H enc _ => typesNumbers_lifted os started H enc)
theorem typesNumbers_holds : Rows.TypesNumbersCardSaid :=
  Claim7.holds_tied_plain_at .later [] [.data, .data, .data] true (true, "1452669d7a3223c60428030cae66f8ebb1e5237a8679f11303ec3cf39a5f89b7") false
    typesNumbers_row (fun _ h => by cases h) (by kernel_rfl) (fun _ h => by cases h) typesNumbers_row_tie rfl ⟨rfl, rfl⟩ (by kernel_rfl) rfl
    (fun f fn hf hfn => by
      obtain rfl : f = 8 := Option.some.inj ((show Tryd.prog.funcNamed "loanword/loanwordlaw06.TypesNumbers" = some 8 by kernel_rfl).symm.trans hf) |>.symm
      obtain rfl : fn = Tryd.f8 := (Option.some.inj (Tryd.func8.symm.trans hfn)).symm
      exact ⟨by kernel_rfl, fun j t ht => by
        rw [Tryd.params8] at ht
        have hm : t ∈ [22, 26, 3] := by simpa using Array.mem_of_getElem? ht
        have hall : ([22, 26, 3].all fun u => !Tryd.prog.wantsStandIn u) = true := by kernel_rfl
        exact (show Tryd.prog.wantsStandIn t = false by simpa using List.all_eq_true.1 hall t hm)⟩)
    (by kernel_rfl)
#print axioms typesNumbers_holds
end Go.Proofs.YtjchbclkdbojpaaDoor
