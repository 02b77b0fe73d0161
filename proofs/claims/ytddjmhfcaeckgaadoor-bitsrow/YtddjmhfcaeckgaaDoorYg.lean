import Derived.Test.YtddjmhfcaeckgaaDoorYf
namespace Go.Proofs.YtddjmhfcaeckgaaDoor
open Go.RowKit Go.Shelf
attribute [local go_sem] Oper.semAt_some
set_option linter.unusedVariables false
set_option linter.unusedSimpArgs false

theorem then_mono {F : Fence} {n : Nat} {P : Program} {c : Code} {K R : Act → World → Prop} {Q : Exit → Act → World → Prop} {a : Act} {w : World} (h : c.wpIn F n P (Exit.then R Q) a w) (hk : ∀ a w, R a w → K a w) : c.wpIn F n P (Exit.then K Q) a w := by
  refine wpIn_mono h ?_
  intro e a' w' hq
  cases e with
  | normal => exact hk _ _ hq
  | exit id => exact hq
  | goto l => exact hq
  | ret => exact hq
  | panic ch => exact hq
  | outgrown => exact hq
set_option maxRecDepth 100000 in
set_option maxHeartbeats 4000000 in
theorem row_last (b7 b8 b17 gf : Nat) (lb : Array Value) (W : World) (b19 : Nat) (A19 : At W b19 (One (.int .i64 2) 3)) (ds : List Deferred) (R : Act → World → Prop) (Q : Exit → Act → World → Prop)
    (t0 t1 t2 t3 t4 t5 t6 t9 t10 t11 t12 t13 t14 t15 t16 t20 t21 t22 t23 t24 t25 t26 t27 t28 t29 t30 t31 t32 t33 t34 t35 t36 t37 t38 t39 t40 t41 t42 t43 t44 t45 t46 t47 t48 t49 t50 t51 t52 t53 t54 t55 t56 t57 t58 t59 t60 t61 t62 t63 t64 t65 t66 t67 t68 t69 t70 t71 t72 t73 t74 t75 t76 t77 t78 t79 t80 t81 t82 t83 t84 t85 t86 t87 t88 t89 t90 t91 t92 t93 t94 t95 t96 t97 t98 t99 t100 t101 t102 t103 t104 t105 t106 t107 t108 t109 t110 t111 t112 t113 t114 t115 t116 t117 t118 t119 t120 t121 t122 t123 t124 t125 t126 t127 t128 t129 t130 t131 t132 t133 t134 t135 t136 t137 t138 t139 t140 t141 t142 t143 t144 t145 t146 t147 t148 t149 t150 t151 t152 t153 t154 t155 t156 t157 t158 t159 t160 t161 t162 t163 t164 t165 t166 t167 t168 t169 t170 t171 t172 : Value) (hexit : ∀ u126 u127, Q (.exit 0) ⟨#[t0, t1, t2, t3, t4, t5, t6, .pointer (some ⟨b7, 0, none⟩), .pointer (some ⟨b8, 0, none⟩), t9, t10, t11, t12, t13, t14, t15, t16, .pointer (some ⟨b17, 0, none⟩), .func (.func gf) #[] lb, .pointer (some ⟨b19, 0, none⟩), t20, t21, t22, t23, t24, t25, t26, t27, t28, t29, t30, t31, t32, t33, t34, t35, t36, t37, t38, t39, t40, t41, t42, t43, t44, t45, t46, t47, t48, t49, t50, t51, t52, t53, t54, t55, t56, t57, t58, t59, t60, t61, t62, t63, t64, t65, t66, t67, t68, t69, t70, t71, t72, t73, t74, t75, t76, t77, t78, t79, t80, t81, t82, t83, t84, t85, t86, t87, t88, t89, t90, t91, t92, t93, t94, t95, t96, t97, t98, t99, t100, t101, t102, t103, t104, t105, t106, t107, t108, t109, t110, t111, t112, t113, t114, t115, t116, t117, t118, t119, t120, t121, t122, t123, t124, t125, u126, u127, t128, t129, t130, t131, t132, t133, t134, t135, t136, t137, t138, t139, t140, t141, t142, t143, t144, t145, t146, t147, t148, t149, t150, t151, t152, t153, t154, t155, t156, t157, t158, t159, t160, t161, t162, t163, t164, t165, t166, t167, t168, t169, t170, t171, t172], ds⟩ W) :
    Code.wpIn Fence.wide 4 Tryd.prog ((Tryd.f3.body.bind firstLoop).getD .skip) (Exit.then R Q) ⟨#[t0, t1, t2, t3, t4, t5, t6, .pointer (some ⟨b7, 0, none⟩), .pointer (some ⟨b8, 0, none⟩), t9, t10, t11, t12, t13, t14, t15, t16, .pointer (some ⟨b17, 0, none⟩), .func (.func gf) #[] lb, .pointer (some ⟨b19, 0, none⟩), t20, t21, t22, t23, t24, t25, t26, t27, t28, t29, t30, t31, t32, t33, t34, t35, t36, t37, t38, t39, t40, t41, t42, t43, t44, t45, t46, t47, t48, t49, t50, t51, t52, t53, t54, t55, t56, t57, t58, t59, t60, t61, t62, t63, t64, t65, t66, t67, t68, t69, t70, t71, t72, t73, t74, t75, t76, t77, t78, t79, t80, t81, t82, t83, t84, t85, t86, t87, t88, t89, t90, t91, t92, t93, t94, t95, t96, t97, t98, t99, t100, t101, t102, t103, t104, t105, t106, t107, t108, t109, t110, t111, t112, t113, t114, t115, t116, t117, t118, t119, t120, t121, t122, t123, t124, t125, t126, t127, t128, t129, t130, t131, t132, t133, t134, t135, t136, t137, t138, t139, t140, t141, t142, t143, t144, t145, t146, t147, t148, t149, t150, t151, t152, t153, t154, t155, t156, t157, t158, t159, t160, t161, t162, t163, t164, t165, t166, t167, t168, t169, t170, t171, t172], ds⟩ W := by
  conv => arg 4; whnf
  obtain ⟨c19, f19⟩ := A19.one
  gi_wp2
  exact hexit _ _
set_option maxRecDepth 100000 in
set_option maxHeartbeats 4000000 in
theorem row_loop (few : Int) (b7 b8 b17 gf : Nat) (lb : Array Value) (L : List Nat) (la : Option Addr) (lc : Nat) (W0 : World) (hA7 : At W0 b7 (One (.int .i64 few) 3)) (hA8 : At W0 b8 (One (.bool false) 4)) (hA17 : At W0 b17 (One (.slice la L.length lc) 36)) (hIC : ICells W0 la (L.map (fun (j : Nat) => (j : Int)))) (hTe : Tells W0 gf lb L) (hLl : L.length ≤ 1088) (hT0 : 0 < W0.heap.size) (Q : Exit → Act → World → Prop)
    (t0 t1 t2 t3 t4 t5 t6 t9 t10 t11 t12 t13 t14 t15 t16 t20 t21 t22 t23 t24 t25 t26 t27 t28 t29 t30 t31 t32 t33 t34 t35 t36 t37 t38 t39 t40 t41 t42 t43 t44 t45 t46 t47 t48 t49 t50 t51 t52 t53 t54 t55 t56 t57 t58 t59 t60 t61 t62 t63 t64 t65 t66 t67 t68 t69 t70 t71 t72 t73 t74 t75 t76 t77 t78 t79 t80 t81 t82 t83 t84 t85 t86 t87 t88 t89 t90 t91 t92 t93 t94 t95 t96 t97 t98 t99 t100 t101 t102 t103 t104 t105 t106 t107 t108 t109 t110 t111 t112 t113 t114 t115 t116 t117 t118 t119 t120 t121 t122 t123 t124 t125 t126 t127 t128 t129 t130 t131 t132 t133 t134 t135 t136 t137 t138 t139 t140 t141 t142 t143 t144 t145 t146 t147 t148 t149 t150 t151 t152 t153 t154 t155 t156 t157 t158 t159 t160 t161 t162 t163 t164 t165 t166 t167 t168 t169 t170 t171 t172 : Value)
    (hexit : ∀ (D1 D2 b19 : Nat) (u20 u21 u126 u127 u128 u129 u130 u131 u132 u133 u134 u135 u136 u137 u138 u139 u140 u141 u142 u143 u144 u145 u146 u147 u148 u149 u150 u151 u152 u153 u154 u155 u156 u157 u158 u159 u160 u161 u162 u163 u164 u165 u166 : Value) (V : World), Below W0.heap.size W0 V → Kept [D2, D1] V → W0.heap.size ≤ D1 → W0.heap.size ≤ D2 → D2 ≠ D1 → Q (.exit 0) ⟨#[t0, t1, t2, t3, t4, t5, t6, .pointer (some ⟨b7, 0, none⟩), .pointer (some ⟨b8, 0, none⟩), t9, t10, t11, t12, t13, t14, t15, t16, .pointer (some ⟨b17, 0, none⟩), .func (.func gf) #[] lb, .pointer (some ⟨b19, 0, none⟩), u20, u21, t22, t23, t24, t25, t26, t27, t28, t29, t30, t31, t32, t33, t34, t35, t36, t37, t38, t39, t40, t41, t42, t43, t44, t45, t46, t47, t48, t49, t50, t51, t52, t53, t54, t55, t56, t57, t58, t59, t60, t61, t62, t63, t64, t65, t66, t67, t68, t69, t70, t71, t72, t73, t74, t75, t76, t77, t78, t79, t80, t81, t82, t83, t84, t85, t86, t87, t88, t89, t90, t91, t92, t93, t94, t95, t96, t97, t98, t99, t100, t101, t102, t103, t104, t105, t106, t107, t108, t109, t110, t111, t112, t113, t114, t115, t116, t117, t118, t119, t120, t121, t122, t123, t124, t125, u126, u127, u128, u129, u130, u131, u132, u133, u134, u135, u136, u137, u138, u139, u140, u141, u142, u143, u144, u145, u146, u147, u148, u149, u150, u151, u152, u153, u154, u155, u156, u157, u158, u159, u160, u161, u162, u163, u164, u165, u166, t167, t168, t169, t170, t171, t172], [{ target := .collected D2, args := #[] }, { target := .collected D1, args := #[] }]⟩ V) :
    Code.wpIn Fence.wide 4 Tryd.prog (Code.loop ((Tryd.f3.body.bind firstLoop).getD .skip)) Q ⟨#[t0, t1, t2, t3, t4, t5, t6, .pointer (some ⟨b7, 0, none⟩), .pointer (some ⟨b8, 0, none⟩), t9, t10, t11, t12, t13, t14, t15, t16, .pointer (some ⟨b17, 0, none⟩), .func (.func gf) #[] lb, .pointer (some ⟨W0.heap.size, 0, none⟩), t20, t21, t22, t23, t24, t25, t26, t27, t28, t29, t30, t31, t32, t33, t34, t35, t36, t37, t38, t39, t40, t41, t42, t43, t44, t45, t46, t47, t48, t49, t50, t51, t52, t53, t54, t55, t56, t57, t58, t59, t60, t61, t62, t63, t64, t65, t66, t67, t68, t69, t70, t71, t72, t73, t74, t75, t76, t77, t78, t79, t80, t81, t82, t83, t84, t85, t86, t87, t88, t89, t90, t91, t92, t93, t94, t95, t96, t97, t98, t99, t100, t101, t102, t103, t104, t105, t106, t107, t108, t109, t110, t111, t112, t113, t114, t115, t116, t117, t118, t119, t120, t121, t122, t123, t124, t125, t126, t127, t128, t129, t130, t131, t132, t133, t134, t135, t136, t137, t138, t139, t140, t141, t142, t143, t144, t145, t146, t147, t148, t149, t150, t151, t152, t153, t154, t155, t156, t157, t158, t159, t160, t161, t162, t163, t164, t165, t166, t167, t168, t169, t170, t171, t172], []⟩ (W0.alloc (One (.int .i64 0) 3)) := by
  refine wpIn_loop_rounds 3 ?_
  rw [roundsIn_succ]
  refine then_mono (row_round0 few b7 b8 b17 gf lb L la lc W0 hA7 hA8 hA17 hIC hTe hLl hT0 (W0.alloc (One (.int .i64 0) 3)) ((Below.refl _ _).alloc (Nat.le_refl _) _) W0.heap.size (Nat.le_refl _) (At.new _ _) [] (fun _ h => by cases h) [] Q t0 t1 t2 t3 t4 t5 t6 t9 t10 t11 t12 t13 t14 t15 t16 t20 t21 t22 t23 t24 t25 t26 t27 t28 t29 t30 t31 t32 t33 t34 t35 t36 t37 t38 t39 t40 t41 t42 t43 t44 t45 t46 t47 t48 t49 t50 t51 t52 t53 t54 t55 t56 t57 t58 t59 t60 t61 t62 t63 t64 t65 t66 t67 t68 t69 t70 t71 t72 t73 t74 t75 t76 t77 t78 t79 t80 t81 t82 t83 t84 t85 t86 t87 t88 t89 t90 t91 t92 t93 t94 t95 t96 t97 t98 t99 t100 t101 t102 t103 t104 t105 t106 t107 t108 t109 t110 t111 t112 t113 t114 t115 t116 t117 t118 t119 t120 t121 t122 t123 t124 t125 t126 t127 t128 t129 t130 t131 t132 t133 t134 t135 t136 t137 t138 t139 t140 t141 t142 t143 t144 t145 t146 t147 t148 t149 t150 t151 t152 t153 t154 t155 t156 t157 t158 t159 t160 t161 t162 t163 t164 t165 t166 t167 t168 t169 t170 t171 t172) ?_
  intro a1 w1 h1
  obtain ⟨D1, h1⟩ := h1
  obtain ⟨b19a, h1⟩ := h1
  obtain ⟨x20, h1⟩ := h1
  obtain ⟨x21, h1⟩ := h1
  obtain ⟨x126, h1⟩ := h1
  obtain ⟨x127, h1⟩ := h1
  obtain ⟨x128, h1⟩ := h1
  obtain ⟨x129, h1⟩ := h1
  obtain ⟨x130, h1⟩ := h1
  obtain ⟨x131, h1⟩ := h1
  obtain ⟨x132, h1⟩ := h1
  obtain ⟨x133, h1⟩ := h1
  obtain ⟨x134, h1⟩ := h1
  obtain ⟨x135, h1⟩ := h1
  obtain ⟨x136, h1⟩ := h1
  obtain ⟨x137, h1⟩ := h1
  obtain ⟨x138, h1⟩ := h1
  obtain ⟨x139, h1⟩ := h1
  obtain ⟨x140, h1⟩ := h1
  obtain ⟨x141, h1⟩ := h1
  obtain ⟨x142, h1⟩ := h1
  obtain ⟨x143, h1⟩ := h1
  obtain ⟨x144, h1⟩ := h1
  obtain ⟨x145, h1⟩ := h1
  obtain ⟨x146, h1⟩ := h1
  obtain ⟨x147, h1⟩ := h1
  obtain ⟨x148, h1⟩ := h1
  obtain ⟨x149, h1⟩ := h1
  obtain ⟨x150, h1⟩ := h1
  obtain ⟨x151, h1⟩ := h1
  obtain ⟨x152, h1⟩ := h1
  obtain ⟨x153, h1⟩ := h1
  obtain ⟨x154, h1⟩ := h1
  obtain ⟨x155, h1⟩ := h1
  obtain ⟨x156, h1⟩ := h1
  obtain ⟨x157, h1⟩ := h1
  obtain ⟨x158, h1⟩ := h1
  obtain ⟨x159, h1⟩ := h1
  obtain ⟨x160, h1⟩ := h1
  obtain ⟨x161, h1⟩ := h1
  obtain ⟨x162, h1⟩ := h1
  obtain ⟨x163, h1⟩ := h1
  obtain ⟨x164, h1⟩ := h1
  obtain ⟨x165, h1⟩ := h1
  obtain ⟨x166, h1⟩ := h1
  obtain ⟨rfl, hB1, hb1, hA1, hK1, hD1, -⟩ := h1
  rw [roundsIn_succ]
  refine then_mono (row_round1 few b7 b8 b17 gf lb L la lc W0 hA7 hA8 hA17 hIC hTe hLl hT0 w1 hB1 b19a hb1 hA1 [D1] hK1 _ Q t0 t1 t2 t3 t4 t5 t6 t9 t10 t11 t12 t13 t14 t15 t16 x20 x21 t22 t23 t24 t25 t26 t27 t28 t29 t30 t31 t32 t33 t34 t35 t36 t37 t38 t39 t40 t41 t42 t43 t44 t45 t46 t47 t48 t49 t50 t51 t52 t53 t54 t55 t56 t57 t58 t59 t60 t61 t62 t63 t64 t65 t66 t67 t68 t69 t70 t71 t72 t73 t74 t75 t76 t77 t78 t79 t80 t81 t82 t83 t84 t85 t86 t87 t88 t89 t90 t91 t92 t93 t94 t95 t96 t97 t98 t99 t100 t101 t102 t103 t104 t105 t106 t107 t108 t109 t110 t111 t112 t113 t114 t115 t116 t117 t118 t119 t120 t121 t122 t123 t124 t125 x126 x127 x128 x129 x130 x131 x132 x133 x134 x135 x136 x137 x138 x139 x140 x141 x142 x143 x144 x145 x146 x147 x148 x149 x150 x151 x152 x153 x154 x155 x156 x157 x158 x159 x160 x161 x162 x163 x164 x165 x166 t167 t168 t169 t170 t171 t172) ?_
  intro a2 w2 h2
  obtain ⟨D2, h2⟩ := h2
  obtain ⟨b19b, h2⟩ := h2
  obtain ⟨y20, h2⟩ := h2
  obtain ⟨y21, h2⟩ := h2
  obtain ⟨y126, h2⟩ := h2
  obtain ⟨y127, h2⟩ := h2
  obtain ⟨y128, h2⟩ := h2
  obtain ⟨y129, h2⟩ := h2
  obtain ⟨y130, h2⟩ := h2
  obtain ⟨y131, h2⟩ := h2
  obtain ⟨y132, h2⟩ := h2
  obtain ⟨y133, h2⟩ := h2
  obtain ⟨y134, h2⟩ := h2
  obtain ⟨y135, h2⟩ := h2
  obtain ⟨y136, h2⟩ := h2
  obtain ⟨y137, h2⟩ := h2
  obtain ⟨y138, h2⟩ := h2
  obtain ⟨y139, h2⟩ := h2
  obtain ⟨y140, h2⟩ := h2
  obtain ⟨y141, h2⟩ := h2
  obtain ⟨y142, h2⟩ := h2
  obtain ⟨y143, h2⟩ := h2
  obtain ⟨y144, h2⟩ := h2
  obtain ⟨y145, h2⟩ := h2
  obtain ⟨y146, h2⟩ := h2
  obtain ⟨y147, h2⟩ := h2
  obtain ⟨y148, h2⟩ := h2
  obtain ⟨y149, h2⟩ := h2
  obtain ⟨y150, h2⟩ := h2
  obtain ⟨y151, h2⟩ := h2
  obtain ⟨y152, h2⟩ := h2
  obtain ⟨y153, h2⟩ := h2
  obtain ⟨y154, h2⟩ := h2
  obtain ⟨y155, h2⟩ := h2
  obtain ⟨y156, h2⟩ := h2
  obtain ⟨y157, h2⟩ := h2
  obtain ⟨y158, h2⟩ := h2
  obtain ⟨y159, h2⟩ := h2
  obtain ⟨y160, h2⟩ := h2
  obtain ⟨y161, h2⟩ := h2
  obtain ⟨y162, h2⟩ := h2
  obtain ⟨y163, h2⟩ := h2
  obtain ⟨y164, h2⟩ := h2
  obtain ⟨y165, h2⟩ := h2
  obtain ⟨y166, h2⟩ := h2
  obtain ⟨rfl, hB2, hb2, hA2, hK2, hD2, hn2⟩ := h2
  rw [roundsIn_succ]
  refine row_last b7 b8 b17 gf lb w2 b19b hA2 _ _ Q t0 t1 t2 t3 t4 t5 t6 t9 t10 t11 t12 t13 t14 t15 t16 y20 y21 t22 t23 t24 t25 t26 t27 t28 t29 t30 t31 t32 t33 t34 t35 t36 t37 t38 t39 t40 t41 t42 t43 t44 t45 t46 t47 t48 t49 t50 t51 t52 t53 t54 t55 t56 t57 t58 t59 t60 t61 t62 t63 t64 t65 t66 t67 t68 t69 t70 t71 t72 t73 t74 t75 t76 t77 t78 t79 t80 t81 t82 t83 t84 t85 t86 t87 t88 t89 t90 t91 t92 t93 t94 t95 t96 t97 t98 t99 t100 t101 t102 t103 t104 t105 t106 t107 t108 t109 t110 t111 t112 t113 t114 t115 t116 t117 t118 t119 t120 t121 t122 t123 t124 t125 y126 y127 y128 y129 y130 y131 y132 y133 y134 y135 y136 y137 y138 y139 y140 y141 y142 y143 y144 y145 y146 y147 y148 y149 y150 y151 y152 y153 y154 y155 y156 y157 y158 y159 y160 y161 y162 y163 y164 y165 y166 t167 t168 t169 t170 t171 t172 (fun u126 u127 => ?_)
  exact hexit D1 D2 b19b y20 y21 u126 u127 y128 y129 y130 y131 y132 y133 y134 y135 y136 y137 y138 y139 y140 y141 y142 y143 y144 y145 y146 y147 y148 y149 y150 y151 y152 y153 y154 y155 y156 y157 y158 y159 y160 y161 y162 y163 y164 y165 y166 w2 hB2 hK2 hD1 hD2 (by simpa using hn2)
end Go.Proofs.YtddjmhfcaeckgaaDoor
