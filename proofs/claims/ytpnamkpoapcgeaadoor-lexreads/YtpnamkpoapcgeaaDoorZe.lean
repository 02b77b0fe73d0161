import Derived.Test.YtpnamkpoapcgeaaDoorZd
namespace Go.Proofs.YtpnamkpoapcgeaaDoor
open Go.RowKit Go.Shelf
attribute [local go_sem] Oper.semAt_some
set_option linter.unusedVariables false
set_option linter.unusedSimpArgs false

set_option maxRecDepth 100000 in
set_option maxHeartbeats 4000000 in
theorem reads_round0 (few : Int) (b3 b4 b11 bx : Nat) (ts : List Tk) (la : Option Addr) (lc : Nat) (ia : Option Addr) (ic : Nat) (W0 : World) (hA3 : At W0 b3 (One (.int .i64 few) 3)) (hA4 : At W0 b4 (One (.bool false) 4)) (hA11 : At W0 b11 (One (.slice la ts.length lc) 23)) (hTW : TAt W0 la ts) (hbx : At W0 bx (One (.slice ia ts.length ic) 23)) (hTI : TAt W0 ia ts) (hgb : blkOr ia bx < W0.heap.size) (hLl : ts.length ≤ 65536)
    (W : World) (hBW : Below W0.heap.size W0 W) (b16 : Nat) (hb16 : W0.heap.size ≤ b16) (A16 : At W b16 (One (.int .i64 0) 3)) (Ds : List Nat) (hDs : Kept Ds W) (ds : List Deferred) (Q : Exit → Act → World → Prop)
    (t0 t1 t2 t5 t6 t7 t8 t9 t10 t12 t13 t14 t17 t18 t19 t20 t21 t22 t23 t24 t25 t26 t27 t28 t29 t30 t31 t32 t33 t34 t35 t36 t37 t38 t39 t40 t41 t42 t43 t44 t45 t46 t47 t48 t49 t50 t51 t52 t53 t54 t55 t56 t57 t58 t59 t60 t61 t62 t63 t64 t65 t66 t67 t68 t69 t70 t71 t72 t73 t74 t75 t76 t77 t78 t79 t80 t81 t82 t83 t84 t85 t86 t87 t88 t89 t90 t91 t92 t93 t94 t95 t96 t97 t98 t99 t100 t101 t102 t103 t104 t105 t106 t107 t108 t109 t110 t111 t112 t113 t114 t115 t116 : Value) :
    Code.wpIn Fence.wide 4 Tryd.prog ((Tryd.f3.body.bind lastLoop).getD .skip) (Exit.then (fun a' w' => ∃ (D b16' : Nat) (u17 u18 u75 u76 u77 u78 u79 u80 u81 u82 u83 u84 u85 u86 u87 u88 u89 u90 u91 u92 u93 u94 u95 u96 u97 u98 u99 u100 u101 u102 u103 u104 u105 u106 u107 u108 u109 u110 u111 u112 u113 u114 u115 : Value), a' = ⟨#[t0, t1, t2, .pointer (some ⟨b3, 0, none⟩), .pointer (some ⟨b4, 0, none⟩), t5, t6, t7, t8, t9, t10, .pointer (some ⟨b11, 0, none⟩), t12, t13, t14, .func (.func 54) #[] #[.pointer (some ⟨bx, 0, none⟩)], .pointer (some ⟨b16', 0, none⟩), u17, u18, t19, t20, t21, t22, t23, t24, t25, t26, t27, t28, t29, t30, t31, t32, t33, t34, t35, t36, t37, t38, t39, t40, t41, t42, t43, t44, t45, t46, t47, t48, t49, t50, t51, t52, t53, t54, t55, t56, t57, t58, t59, t60, t61, t62, t63, t64, t65, t66, t67, t68, t69, t70, t71, t72, t73, t74, u75, u76, u77, u78, u79, u80, u81, u82, u83, u84, u85, u86, u87, u88, u89, u90, u91, u92, u93, u94, u95, u96, u97, u98, u99, u100, u101, u102, u103, u104, u105, u106, u107, u108, u109, u110, u111, u112, u113, u114, u115, t116], { target := .collected D, args := #[] } :: ds⟩ ∧ Below W0.heap.size W0 w' ∧ W0.heap.size ≤ b16' ∧ At w' b16' (One (.int .i64 1) 3) ∧ Kept (D :: Ds) w' ∧ W0.heap.size ≤ D ∧ D ∉ Ds) Q) ⟨#[t0, t1, t2, .pointer (some ⟨b3, 0, none⟩), .pointer (some ⟨b4, 0, none⟩), t5, t6, t7, t8, t9, t10, .pointer (some ⟨b11, 0, none⟩), t12, t13, t14, .func (.func 54) #[] #[.pointer (some ⟨bx, 0, none⟩)], .pointer (some ⟨b16, 0, none⟩), t17, t18, t19, t20, t21, t22, t23, t24, t25, t26, t27, t28, t29, t30, t31, t32, t33, t34, t35, t36, t37, t38, t39, t40, t41, t42, t43, t44, t45, t46, t47, t48, t49, t50, t51, t52, t53, t54, t55, t56, t57, t58, t59, t60, t61, t62, t63, t64, t65, t66, t67, t68, t69, t70, t71, t72, t73, t74, t75, t76, t77, t78, t79, t80, t81, t82, t83, t84, t85, t86, t87, t88, t89, t90, t91, t92, t93, t94, t95, t96, t97, t98, t99, t100, t101, t102, t103, t104, t105, t106, t107, t108, t109, t110, t111, t112, t113, t114, t115, t116], ds⟩ W := by
  conv => arg 4; whnf
  have hDl := hDs.lt
  have hsz : W0.heap.size ≤ W.heap.size + 1 := Nat.le_succ_of_le hBW.size
  have hl16 := A16.lt
  have hl3 := hA3.lt
  have hl4 := hA4.lt
  have hl11 := hA11.lt
  have hlx := hbx.lt
  have hsz' := hBW.size
  have hn3 : b3 ≠ W.heap.size := by omega
  have hn4 : b4 ≠ W.heap.size := by omega
  have hn11 : b11 ≠ W.heap.size := by omega
  have hn16 : b16 ≠ W.heap.size := by omega
  obtain ⟨c16, f16⟩ := A16.one
  gi_wp2
  clear c16 f16
  refine wpIn_rangeFunc_ownH rfl (by omega) (gf := 54) (lb := #[.pointer (some ⟨bx, 0, none⟩)]) rfl trivial (enters_of Tryd.func54 (by kernel_rfl) rfl) (values1_stops 3 bx (by omega) ts ia ic hLl W0 hbx hTI) two_t (two_b (by simp; omega) (by simp; omega)) (hBW.alloc hBW.size _) (fun _ => rfl)
    (fun pre V => ((At V W.heap.size (One (.int .i64 (pre.length : Int)) 3) ∧ At V b16 (One (.int .i64 0) 3) ∧ pre <+: ts) ∧ Kept Ds V) ∧ Below W0.heap.size W0 V)
    (fun c pre V => (c = .ret ∧ ¬ (pre <+: ts)) ∨ (c = .exit 4 ∧ At V W.heap.size (One (.int .i64 few) 3) ∧ At V b16 (One (.int .i64 0) 3) ∧ 0 = (0 : Int) ∧ Kept Ds V ∧ Below W0.heap.size W0 V))
    (OwnFrom.and (OwnFrom.and (Own.from (fun s A B row hs hg hr => ⟨obj_kept hs.1 rfl hg hr, obj_kept hs.2.1 rfl hg hr, hs.2.2⟩) _) (kept_from (fun D hD => by have := hDl D hD; simp; omega))) (ownFrom_below (Nat.le_refl _) (by simp; omega)))
    (fun c s A B row hs hg hr => by
      rcases hs with hs | ⟨h1, h2, h3, h4, h5, h6⟩
      · exact .inl hs
      · exact .inr ⟨h1, obj_kept h2 rfl hg (fun r e => (hr r e).2), obj_kept h3 rfl hg (fun r e => (hr r e).2), h4, kept_from (β := Unit) (fun D hD => by have := hDl D hD; simp; omega) () A B row h5 hg hr, ownFrom_below (β := Unit) (Nat.le_refl _) (by simp; omega) () A B row h6 hg hr⟩)
    ⟨⟨⟨At.new W _, A16.alloc _, List.nil_prefix⟩, hDs.others (KeepsOthers.alloc _ _)⟩, hBW.alloc hBW.size _⟩
    (fun x a' V => ∃ b18, At V b18 (Tok x.k x.p x.n (str x.s)) ∧ W.heap.size < b18 ∧ a' = { tmps := #[t0, t1, t2, .pointer (some ⟨b3, 0, none⟩), .pointer (some ⟨b4, 0, none⟩), t5, t6, t7, t8, t9, t10, .pointer (some ⟨b11, 0, none⟩), t12, t13, t14, .func (.func 54) #[] #[.pointer (some ⟨bx, 0, none⟩)], .pointer (some ⟨b16, 0, none⟩), .pointer (some ⟨W.heap.size, 0, none⟩), .pointer (some ⟨b18, 0, none⟩), t19, t20, t21, t22, t23, t24, t25, t26, t27, t28, t29, t30, t31, t32, t33, t34, t35, t36, t37, t38, t39, t40, t41, t42, t43, t44, t45, t46, t47, t48, t49, t50, t51, t52, t53, t54, t55, t56, t57, t58, t59, t60, t61, t62, t63, t64, t65, t66, t67, t68, t69, t70, t71, t72, t73, t74, .int .i64 0, .bool true, t77, t78, .func (.func 54) #[] #[.pointer (some ⟨bx, 0, none⟩)], tkV x, t81, t82, t83, t84, t85, t86, t87, t88, t89, t90, t91, t92, t93, t94, t95, t96, t97, t98, t99, t100, t101, t102, t103, t104, t105, t106, t107, t108, t109, t110, t111, t112, t113, t114, t115, t116], defers := [] })
    (fun x a' s A B row hs hg hr => by
      obtain ⟨b18, h1, h2, h3⟩ := hs
      exact ⟨b18, obj_kept h1 rfl hg (fun r e => (hr r e).2), h2, h3⟩) ?assign ?body ?done ?stop
  case assign =>
    rintro l pre x V K ⟨⟨⟨A17, A16', hpre⟩, hDs'⟩, hB⟩ hK
    gi_wp2
    exact hK _ _ ((KeepsOthers.alloc _ _).from _) (two_below (belA (Below.refl _ V)) (by have := hB.size; omega) (by have := hB.size; omega)) ⟨⟨⟨A17.alloc _, A16'.alloc _, hpre⟩, hDs'.others (KeepsOthers.alloc _ _)⟩, belA hB⟩ ⟨V.heap.size, At.new _ _, A17.lt, rfl⟩
  case body =>
    rintro l pre x a' V hl hloop ⟨⟨⟨A17, A16', hpre⟩, hDs'⟩, hB⟩ ⟨b18, A18, hb18, rfl⟩ hlen
    have hne : ts ≠ [] := by rintro rfl; simp at hlen
    obtain ⟨g, rfl, hr⟩ := (hTW.below hB) hne
    obtain ⟨t, ht⟩ : ∃ t, ts[pre.length]? = some t := ⟨_, List.getElem?_eq_getElem hlen⟩
    obtain ⟨_, k0, k1, k2, k3⟩ := hr pre.length (tkZ t) (by rw [List.getElem?_map, ht]; rfl)
    simp only [Nat.zero_add, tkZ] at k0 k1 k2 k3
    have h0 : (0 : Int) ≤ (pre.length : Int) := by omega
    have h1 : (pre.length : Int) < (ts.length : Int) := by omega
    have h1d : decide ((ts.length : Int) ≤ (pre.length : Int)) = false := decide_eq_false (by omega)
    have h1n : decide (ts.length ≤ pre.length) = false := decide_eq_false (by omega)
    have h1m : ¬ ts.length ≤ pre.length := by omega
    have w1 : IntKind.i64.wrap ((pre.length : Int) + 1) = (pre.length : Int) + 1 := by rw [IntKind.wrap_i64]; omega
    obtain ⟨c17, f17⟩ := A17.one
    obtain ⟨c16, f16⟩ := A16'.one
    obtain ⟨c3, f3⟩ := (hA3.below hB).one
    obtain ⟨c4, f4⟩ := (hA4.below hB).one
    obtain ⟨c11, f11⟩ := (hA11.below hB).one
    obtain ⟨x0, x1, x2, x3, xf⟩ := A18.tok
    have HT : Hid (ts[pre.length]? = some t) := ht
    clear hr ht hTW hTI hDl
    obtain ⟨b, hneq, hbt, hbf⟩ : ∃ b : Bool, (∀ W, (binOp .neq 32 (tkV x) (tkV t)).run Tryd.prog W = .ok (.bool b) W) ∧ (b = true → ¬ pre ++ [x] <+: ts) ∧ (b = false → pre ++ [x] <+: ts) := by
      by_cases hx : x = t
      · subst hx
        exact ⟨false, neq_same x, (fun h => by cases h), (fun _ => pre_snoc hpre HT.out)⟩
      · exact ⟨true, neq_other x t hx, (fun _ => not_pre HT.out hx), (fun h => by cases h)⟩
    have HBT : Hid (b = true → ¬ pre ++ [x] <+: ts) := hbt
    have HBF : Hid (b = false → pre ++ [x] <+: ts) := hbf
    clear hbt hbf hpre HT
    gi_wp2
    gi_cut [92] from 81 (fun v wx => v = .bool b ∧ wx = V.drew)
    case first =>
      gi_region
      all_goals gi_wp2
      all_goals gi_meet
      all_goals exact ⟨rfl, rfl⟩
    case rest =>
    obtain ⟨rfl, hwc⟩ := hcut
    subst hwc
    clear hneq
    cases b with
    | true =>
      gi_wp2
      have hnp := HBT.out (by first | rfl | trivial)
      have K0 : KeepsOthers V (V.setCell ⟨b4, 0, none⟩ (.bool false)).drew := (KeepsOthers.setCell _ _ _).trans (KeepsOthers.drew _)
      first | exact ⟨K0.from _, .inl ⟨rfl, hnp⟩⟩ | exact ⟨K0.from _, ⟨rfl, hnp⟩⟩
    | false =>
      have K1 : KeepsOthers V (V.setCell ⟨W.heap.size, 0, none⟩ (.int .i64 ((pre.length : Int) + 1))).drew := (KeepsOthers.setCell _ _ _).trans (KeepsOthers.drew _)
      have T1 : Two2 bx (blkOr ia bx) V (V.setCell ⟨W.heap.size, 0, none⟩ (.int .i64 ((pre.length : Int) + 1))).drew := two_put V _ (by omega) (by omega)
      have L1 : Below W0.heap.size W0 (V.setCell ⟨W.heap.size, 0, none⟩ (.int .i64 ((pre.length : Int) + 1))).drew := (hB.setCell (p := ⟨W.heap.size, 0, none⟩) hsz' _).drew
      have e1 : (((pre ++ [x]).length : Nat) : Int) = (pre.length : Int) + 1 := by simp
      have P17 := (A17.setOne (.int .i64 ((pre.length : Int) + 1))).drew
      have P16 := (A16'.set (a := ⟨W.heap.size, 0, none⟩) hn16 (.int .i64 ((pre.length : Int) + 1))).drew
      by_cases hf : (pre.length : Int) + 1 = few
      · have hfb : ((pre.length : Int) + 1 == few) = true := by simpa using hf
        gi_wp2
        rw [hf] at K1 P16 P17 L1
        exact ⟨K1.from _, .inr ⟨rfl, P17, P16, hDs'.others K1, L1⟩⟩
      · have hfb : ((pre.length : Int) + 1 == few) = false := by simpa using hf
        gi_wp2
        refine ⟨K1.from _, T1, ⟨⟨?_, P16, HBF.out (by first | rfl | trivial)⟩, hDs'.others K1⟩, L1⟩
        rw [e1]; exact P17
  case done =>
    rintro D xs V hD rfl ⟨⟨⟨A17, A16', hpre⟩, hDs'⟩, hB⟩ hK
    have hKD : Kept (D :: Ds) (V.alloc (One (.int .i64 1) 3)) := by
      intro D' hD'
      rcases List.mem_cons.1 hD' with rfl | h
      · exact (KeepsOthers.alloc V _).same _ _ hK rfl
      · exact (KeepsOthers.alloc V _).same _ _ (hDs' D' h) rfl
    have hDn : D ∉ Ds := fun h => by have := hDl D h; simp at hD; omega
    obtain ⟨c17, f17⟩ := A17.one
    obtain ⟨c16, f16⟩ := A16'.one
    obtain ⟨c3, f3⟩ := (hA3.below hB).one
    obtain ⟨c11, f11⟩ := (hA11.below hB).one
    simp only [World.size_alloc] at hD
    clear hTW hTI hpre
    gi_wp2
    exact ⟨D, V.heap.size, _, _, _, _, _, _, _, _, _, _, _, _, _, _, _, _, _, _, _, _, _, _, _, _, _, _, _, _, _, _, _, _, _, _, _, _, _, _, _, _, _, _, _, rfl, hB.alloc hB.size _, hB.size, At.new V _, hKD, Nat.le_trans hsz hD, hDn⟩
  case stop =>
    rintro D c pre V hD hSp (⟨rfl, hnp⟩ | ⟨rfl, A17, A16', hr, hDs', hB⟩) hK
    · exact absurd hSp hnp
    have hKD : Kept (D :: Ds) (V.alloc (One (.int .i64 1) 3)) := by
      intro D' hD'
      rcases List.mem_cons.1 hD' with rfl | h
      · exact (KeepsOthers.alloc V _).same _ _ hK rfl
      · exact (KeepsOthers.alloc V _).same _ _ (hDs' D' h) rfl
    have hDn : D ∉ Ds := fun h => by have := hDl D h; simp at hD; omega
    obtain ⟨c17, f17⟩ := A17.one
    obtain ⟨c16, f16⟩ := A16'.one
    obtain ⟨c3, f3⟩ := (hA3.below hB).one
    obtain ⟨c11, f11⟩ := (hA11.below hB).one
    simp only [World.size_alloc] at hD
    clear hTW hTI hSp hr
    by_cases hq : few = (ts.length : Int)
    · have hqb : (few != (ts.length : Int)) = false := by simpa using hq
      gi_wp2
      exact ⟨D, V.heap.size, _, _, _, _, _, _, _, _, _, _, _, _, _, _, _, _, _, _, _, _, _, _, _, _, _, _, _, _, _, _, _, _, _, _, _, _, _, _, _, _, _, _, _, rfl, hB.alloc hB.size _, hB.size, At.new V _, hKD, Nat.le_trans hsz hD, hDn⟩
    · have hqb : (few != (ts.length : Int)) = true := by simpa using hq
      gi_wp2
      exact ⟨D, V.heap.size, _, _, _, _, _, _, _, _, _, _, _, _, _, _, _, _, _, _, _, _, _, _, _, _, _, _, _, _, _, _, _, _, _, _, _, _, _, _, _, _, _, _, _, rfl, hB.alloc hB.size _, hB.size, At.new V _, hKD, Nat.le_trans hsz hD, hDn⟩
end Go.Proofs.YtpnamkpoapcgeaaDoor
