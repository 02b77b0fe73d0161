import Derived.Test.YtpnamkpoapcgeaaDoorZe
namespace Go.Proofs.YtpnamkpoapcgeaaDoor
open Go.RowKit Go.Shelf
attribute [local go_sem] Oper.semAt_some
set_option linter.unusedVariables false
set_option linter.unusedSimpArgs false

theorem then_mono {F : Fence} {n : Nat} {P : Program} {c : Code} {K R : Act → World → Prop} {Q : Exit → Act → World → Prop} {a : Act} {w : World} (h : c.wpIn F n P (Exit.then R Q) a w) (hk : ∀ a w, R a w → K a w) : c.wpIn F n P (Exit.then K Q) a w := by
  refine wpIn_mono h ?_
  intro e a' w' hq
  cases e with
  | normal => exact hk _ _ hq
  | exit id => exact hq
  | goto l => exact hq
  | ret => exact hq
  | panic ch => exact hq
  | outgrown => exact hq
set_option maxRecDepth 100000 in
set_option maxHeartbeats 4000000 in
theorem reads_last (b3 b4 b11 bx : Nat) (W : World) (b16 : Nat) (A16 : At W b16 (One (.int .i64 2) 3)) (ds : List Deferred) (R : Act → World → Prop) (Q : Exit → Act → World → Prop)
    (t0 t1 t2 t5 t6 t7 t8 t9 t10 t12 t13 t14 t17 t18 t19 t20 t21 t22 t23 t24 t25 t26 t27 t28 t29 t30 t31 t32 t33 t34 t35 t36 t37 t38 t39 t40 t41 t42 t43 t44 t45 t46 t47 t48 t49 t50 t51 t52 t53 t54 t55 t56 t57 t58 t59 t60 t61 t62 t63 t64 t65 t66 t67 t68 t69 t70 t71 t72 t73 t74 t75 t76 t77 t78 t79 t80 t81 t82 t83 t84 t85 t86 t87 t88 t89 t90 t91 t92 t93 t94 t95 t96 t97 t98 t99 t100 t101 t102 t103 t104 t105 t106 t107 t108 t109 t110 t111 t112 t113 t114 t115 t116 : Value) (hexit : ∀ u75 u76, Q (.exit 2) ⟨#[t0, t1, t2, .pointer (some ⟨b3, 0, none⟩), .pointer (some ⟨b4, 0, none⟩), t5, t6, t7, t8, t9, t10, .pointer (some ⟨b11, 0, none⟩), t12, t13, t14, .func (.func 54) #[] #[.pointer (some ⟨bx, 0, none⟩)], .pointer (some ⟨b16, 0, none⟩), t17, t18, t19, t20, t21, t22, t23, t24, t25, t26, t27, t28, t29, t30, t31, t32, t33, t34, t35, t36, t37, t38, t39, t40, t41, t42, t43, t44, t45, t46, t47, t48, t49, t50, t51, t52, t53, t54, t55, t56, t57, t58, t59, t60, t61, t62, t63, t64, t65, t66, t67, t68, t69, t70, t71, t72, t73, t74, u75, u76, t77, t78, t79, t80, t81, t82, t83, t84, t85, t86, t87, t88, t89, t90, t91, t92, t93, t94, t95, t96, t97, t98, t99, t100, t101, t102, t103, t104, t105, t106, t107, t108, t109, t110, t111, t112, t113, t114, t115, t116], ds⟩ W) :
    Code.wpIn Fence.wide 4 Tryd.prog ((Tryd.f3.body.bind lastLoop).getD .skip) (Exit.then R Q) ⟨#[t0, t1, t2, .pointer (some ⟨b3, 0, none⟩), .pointer (some ⟨b4, 0, none⟩), t5, t6, t7, t8, t9, t10, .pointer (some ⟨b11, 0, none⟩), t12, t13, t14, .func (.func 54) #[] #[.pointer (some ⟨bx, 0, none⟩)], .pointer (some ⟨b16, 0, none⟩), t17, t18, t19, t20, t21, t22, t23, t24, t25, t26, t27, t28, t29, t30, t31, t32, t33, t34, t35, t36, t37, t38, t39, t40, t41, t42, t43, t44, t45, t46, t47, t48, t49, t50, t51, t52, t53, t54, t55, t56, t57, t58, t59, t60, t61, t62, t63, t64, t65, t66, t67, t68, t69, t70, t71, t72, t73, t74, t75, t76, t77, t78, t79, t80, t81, t82, t83, t84, t85, t86, t87, t88, t89, t90, t91, t92, t93, t94, t95, t96, t97, t98, t99, t100, t101, t102, t103, t104, t105, t106, t107, t108, t109, t110, t111, t112, t113, t114, t115, t116], ds⟩ W := by
  conv => arg 4; whnf
  obtain ⟨c16, f16⟩ := A16.one
  gi_wp2
  exact hexit _ _
set_option maxRecDepth 100000 in
set_option maxHeartbeats 4000000 in
theorem reads_loop (few : Int) (b3 b4 b11 bx : Nat) (ts : List Tk) (la : Option Addr) (lc : Nat) (ia : Option Addr) (ic : Nat) (W0 : World) (hA3 : At W0 b3 (One (.int .i64 few) 3)) (hA4 : At W0 b4 (One (.bool false) 4)) (hA11 : At W0 b11 (One (.slice la ts.length lc) 23)) (hTW : TAt W0 la ts) (hbx : At W0 bx (One (.slice ia ts.length ic) 23)) (hTI : TAt W0 ia ts) (hgb : blkOr ia bx < W0.heap.size) (hLl : ts.length ≤ 65536) (Q : Exit → Act → World → Prop)
    (t0 t1 t2 t5 t6 t7 t8 t9 t10 t12 t13 t14 t17 t18 t19 t20 t21 t22 t23 t24 t25 t26 t27 t28 t29 t30 t31 t32 t33 t34 t35 t36 t37 t38 t39 t40 t41 t42 t43 t44 t45 t46 t47 t48 t49 t50 t51 t52 t53 t54 t55 t56 t57 t58 t59 t60 t61 t62 t63 t64 t65 t66 t67 t68 t69 t70 t71 t72 t73 t74 t75 t76 t77 t78 t79 t80 t81 t82 t83 t84 t85 t86 t87 t88 t89 t90 t91 t92 t93 t94 t95 t96 t97 t98 t99 t100 t101 t102 t103 t104 t105 t106 t107 t108 t109 t110 t111 t112 t113 t114 t115 t116 : Value)
    (hexit : ∀ (D1 D2 b16 : Nat) (u17 u18 u75 u76 u77 u78 u79 u80 u81 u82 u83 u84 u85 u86 u87 u88 u89 u90 u91 u92 u93 u94 u95 u96 u97 u98 u99 u100 u101 u102 u103 u104 u105 u106 u107 u108 u109 u110 u111 u112 u113 u114 u115 : Value) (V : World), Below W0.heap.size W0 V → Kept [D2, D1] V → W0.heap.size ≤ D1 → W0.heap.size ≤ D2 → D2 ≠ D1 → Q (.exit 2) ⟨#[t0, t1, t2, .pointer (some ⟨b3, 0, none⟩), .pointer (some ⟨b4, 0, none⟩), t5, t6, t7, t8, t9, t10, .pointer (some ⟨b11, 0, none⟩), t12, t13, t14, .func (.func 54) #[] #[.pointer (some ⟨bx, 0, none⟩)], .pointer (some ⟨b16, 0, none⟩), u17, u18, t19, t20, t21, t22, t23, t24, t25, t26, t27, t28, t29, t30, t31, t32, t33, t34, t35, t36, t37, t38, t39, t40, t41, t42, t43, t44, t45, t46, t47, t48, t49, t50, t51, t52, t53, t54, t55, t56, t57, t58, t59, t60, t61, t62, t63, t64, t65, t66, t67, t68, t69, t70, t71, t72, t73, t74, u75, u76, u77, u78, u79, u80, u81, u82, u83, u84, u85, u86, u87, u88, u89, u90, u91, u92, u93, u94, u95, u96, u97, u98, u99, u100, u101, u102, u103, u104, u105, u106, u107, u108, u109, u110, u111, u112, u113, u114, u115, t116], [{ target := .collected D2, args := #[] }, { target := .collected D1, args := #[] }]⟩ V) :
    Code.wpIn Fence.wide 4 Tryd.prog (Code.loop ((Tryd.f3.body.bind lastLoop).getD .skip)) Q ⟨#[t0, t1, t2, .pointer (some ⟨b3, 0, none⟩), .pointer (some ⟨b4, 0, none⟩), t5, t6, t7, t8, t9, t10, .pointer (some ⟨b11, 0, none⟩), t12, t13, t14, .func (.func 54) #[] #[.pointer (some ⟨bx, 0, none⟩)], .pointer (some ⟨W0.heap.size, 0, none⟩), t17, t18, t19, t20, t21, t22, t23, t24, t25, t26, t27, t28, t29, t30, t31, t32, t33, t34, t35, t36, t37, t38, t39, t40, t41, t42, t43, t44, t45, t46, t47, t48, t49, t50, t51, t52, t53, t54, t55, t56, t57, t58, t59, t60, t61, t62, t63, t64, t65, t66, t67, t68, t69, t70, t71, t72, t73, t74, t75, t76, t77, t78, t79, t80, t81, t82, t83, t84, t85, t86, t87, t88, t89, t90, t91, t92, t93, t94, t95, t96, t97, t98, t99, t100, t101, t102, t103, t104, t105, t106, t107, t108, t109, t110, t111, t112, t113, t114, t115, t116], []⟩ (W0.alloc (One (.int .i64 0) 3)) := by
  refine wpIn_loop_rounds 3 ?_
  rw [roundsIn_succ]
  refine then_mono (reads_round0 few b3 b4 b11 bx ts la lc ia ic W0 hA3 hA4 hA11 hTW hbx hTI hgb hLl (W0.alloc (One (.int .i64 0) 3)) ((Below.refl _ _).alloc (Nat.le_refl _) _) W0.heap.size (Nat.le_refl _) (At.new _ _) [] (fun _ h => by cases h) [] Q t0 t1 t2 t5 t6 t7 t8 t9 t10 t12 t13 t14 t17 t18 t19 t20 t21 t22 t23 t24 t25 t26 t27 t28 t29 t30 t31 t32 t33 t34 t35 t36 t37 t38 t39 t40 t41 t42 t43 t44 t45 t46 t47 t48 t49 t50 t51 t52 t53 t54 t55 t56 t57 t58 t59 t60 t61 t62 t63 t64 t65 t66 t67 t68 t69 t70 t71 t72 t73 t74 t75 t76 t77 t78 t79 t80 t81 t82 t83 t84 t85 t86 t87 t88 t89 t90 t91 t92 t93 t94 t95 t96 t97 t98 t99 t100 t101 t102 t103 t104 t105 t106 t107 t108 t109 t110 t111 t112 t113 t114 t115 t116) ?_
  intro a1 w1 h1
  obtain ⟨D1, h1⟩ := h1
  obtain ⟨b16a, h1⟩ := h1
  obtain ⟨x17, h1⟩ := h1
  obtain ⟨x18, h1⟩ := h1
  obtain ⟨x75, h1⟩ := h1
  obtain ⟨x76, h1⟩ := h1
  obtain ⟨x77, h1⟩ := h1
  obtain ⟨x78, h1⟩ := h1
  obtain ⟨x79, h1⟩ := h1
  obtain ⟨x80, h1⟩ := h1
  obtain ⟨x81, h1⟩ := h1
  obtain ⟨x82, h1⟩ := h1
  obtain ⟨x83, h1⟩ := h1
  obtain ⟨x84, h1⟩ := h1
  obtain ⟨x85, h1⟩ := h1
  obtain ⟨x86, h1⟩ := h1
  obtain ⟨x87, h1⟩ := h1
  obtain ⟨x88, h1⟩ := h1
  obtain ⟨x89, h1⟩ := h1
  obtain ⟨x90, h1⟩ := h1
  obtain ⟨x91, h1⟩ := h1
  obtain ⟨x92, h1⟩ := h1
  obtain ⟨x93, h1⟩ := h1
  obtain ⟨x94, h1⟩ := h1
  obtain ⟨x95, h1⟩ := h1
  obtain ⟨x96, h1⟩ := h1
  obtain ⟨x97, h1⟩ := h1
  obtain ⟨x98, h1⟩ := h1
  obtain ⟨x99, h1⟩ := h1
  obtain ⟨x100, h1⟩ := h1
  obtain ⟨x101, h1⟩ := h1
  obtain ⟨x102, h1⟩ := h1
  obtain ⟨x103, h1⟩ := h1
  obtain ⟨x104, h1⟩ := h1
  obtain ⟨x105, h1⟩ := h1
  obtain ⟨x106, h1⟩ := h1
  obtain ⟨x107, h1⟩ := h1
  obtain ⟨x108, h1⟩ := h1
  obtain ⟨x109, h1⟩ := h1
  obtain ⟨x110, h1⟩ := h1
  obtain ⟨x111, h1⟩ := h1
  obtain ⟨x112, h1⟩ := h1
  obtain ⟨x113, h1⟩ := h1
  obtain ⟨x114, h1⟩ := h1
  obtain ⟨x115, h1⟩ := h1
  obtain ⟨rfl, hB1, hb1, hA1, hK1, hD1, -⟩ := h1
  rw [roundsIn_succ]
  refine then_mono (reads_round1 few b3 b4 b11 bx ts la lc ia ic W0 hA3 hA4 hA11 hTW hbx hTI hgb hLl w1 hB1 b16a hb1 hA1 [D1] hK1 _ Q t0 t1 t2 t5 t6 t7 t8 t9 t10 t12 t13 t14 x17 x18 t19 t20 t21 t22 t23 t24 t25 t26 t27 t28 t29 t30 t31 t32 t33 t34 t35 t36 t37 t38 t39 t40 t41 t42 t43 t44 t45 t46 t47 t48 t49 t50 t51 t52 t53 t54 t55 t56 t57 t58 t59 t60 t61 t62 t63 t64 t65 t66 t67 t68 t69 t70 t71 t72 t73 t74 x75 x76 x77 x78 x79 x80 x81 x82 x83 x84 x85 x86 x87 x88 x89 x90 x91 x92 x93 x94 x95 x96 x97 x98 x99 x100 x101 x102 x103 x104 x105 x106 x107 x108 x109 x110 x111 x112 x113 x114 x115 t116) ?_
  intro a2 w2 h2
  obtain ⟨D2, h2⟩ := h2
  obtain ⟨b16b, h2⟩ := h2
  obtain ⟨y17, h2⟩ := h2
  obtain ⟨y18, h2⟩ := h2
  obtain ⟨y75, h2⟩ := h2
  obtain ⟨y76, h2⟩ := h2
  obtain ⟨y77, h2⟩ := h2
  obtain ⟨y78, h2⟩ := h2
  obtain ⟨y79, h2⟩ := h2
  obtain ⟨y80, h2⟩ := h2
  obtain ⟨y81, h2⟩ := h2
  obtain ⟨y82, h2⟩ := h2
  obtain ⟨y83, h2⟩ := h2
  obtain ⟨y84, h2⟩ := h2
  obtain ⟨y85, h2⟩ := h2
  obtain ⟨y86, h2⟩ := h2
  obtain ⟨y87, h2⟩ := h2
  obtain ⟨y88, h2⟩ := h2
  obtain ⟨y89, h2⟩ := h2
  obtain ⟨y90, h2⟩ := h2
  obtain ⟨y91, h2⟩ := h2
  obtain ⟨y92, h2⟩ := h2
  obtain ⟨y93, h2⟩ := h2
  obtain ⟨y94, h2⟩ := h2
  obtain ⟨y95, h2⟩ := h2
  obtain ⟨y96, h2⟩ := h2
  obtain ⟨y97, h2⟩ := h2
  obtain ⟨y98, h2⟩ := h2
  obtain ⟨y99, h2⟩ := h2
  obtain ⟨y100, h2⟩ := h2
  obtain ⟨y101, h2⟩ := h2
  obtain ⟨y102, h2⟩ := h2
  obtain ⟨y103, h2⟩ := h2
  obtain ⟨y104, h2⟩ := h2
  obtain ⟨y105, h2⟩ := h2
  obtain ⟨y106, h2⟩ := h2
  obtain ⟨y107, h2⟩ := h2
  obtain ⟨y108, h2⟩ := h2
  obtain ⟨y109, h2⟩ := h2
  obtain ⟨y110, h2⟩ := h2
  obtain ⟨y111, h2⟩ := h2
  obtain ⟨y112, h2⟩ := h2
  obtain ⟨y113, h2⟩ := h2
  obtain ⟨y114, h2⟩ := h2
  obtain ⟨y115, h2⟩ := h2
  obtain ⟨rfl, hB2, hb2, hA2, hK2, hD2, hn2⟩ := h2
  rw [roundsIn_succ]
  refine reads_last b3 b4 b11 bx w2 b16b hA2 _ _ Q t0 t1 t2 t5 t6 t7 t8 t9 t10 t12 t13 t14 y17 y18 t19 t20 t21 t22 t23 t24 t25 t26 t27 t28 t29 t30 t31 t32 t33 t34 t35 t36 t37 t38 t39 t40 t41 t42 t43 t44 t45 t46 t47 t48 t49 t50 t51 t52 t53 t54 t55 t56 t57 t58 t59 t60 t61 t62 t63 t64 t65 t66 t67 t68 t69 t70 t71 t72 t73 t74 y75 y76 y77 y78 y79 y80 y81 y82 y83 y84 y85 y86 y87 y88 y89 y90 y91 y92 y93 y94 y95 y96 y97 y98 y99 y100 y101 y102 y103 y104 y105 y106 y107 y108 y109 y110 y111 y112 y113 y114 y115 t116 (fun u75 u76 => ?_)
  exact hexit D1 D2 b16b y17 y18 u75 u76 y77 y78 y79 y80 y81 y82 y83 y84 y85 y86 y87 y88 y89 y90 y91 y92 y93 y94 y95 y96 y97 y98 y99 y100 y101 y102 y103 y104 y105 y106 y107 y108 y109 y110 y111 y112 y113 y114 y115 w2 hB2 hK2 hD1 hD2 (by simpa using hn2)
end Go.Proofs.YtpnamkpoapcgeaaDoor
