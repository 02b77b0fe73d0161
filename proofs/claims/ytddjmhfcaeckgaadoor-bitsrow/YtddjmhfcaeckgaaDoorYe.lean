import Derived.Test.YtddjmhfcaeckgaaDoorYb
import Derived.LoopNIn
namespace Go.Proofs.YtddjmhfcaeckgaaDoor
open Go.RowKit Go.Shelf
attribute [local go_sem] Oper.semAt_some
set_option linter.unusedVariables false
set_option linter.unusedSimpArgs false

/-- The first loop of a code. -/
def firstLoop : Code → Option Code
  | .loop c => some c
  | .seq a b => match firstLoop a with
    | some c => some c
    | none => firstLoop b
  | .block _ c => firstLoop c
  | .scope c => firstLoop c
  | .cond _ a b => match firstLoop a with
    | some c => some c
    | none => firstLoop b
  | _ => none
/-- What is kept for the calls that are put off. -/
def Kept (Ds : List Nat) (W : World) : Prop := ∀ D ∈ Ds, W.heap[D]? = some (.deferred (some []))
theorem Kept.others {Ds : List Nat} {W W' : World} (h : Kept Ds W) (k : KeepsOthers W W') : Kept Ds W' := fun D hD => k.same D _ (h D hD) rfl
theorem Kept.lt {Ds : List Nat} {W : World} (h : Kept Ds W) : ∀ D ∈ Ds, D < W.heap.size := fun D hD => lt_of_block (h D hD)
theorem kept_from {β : Type} {Ds : List Nat} {B : Nat} (hB : ∀ D ∈ Ds, D < B) : OwnFrom B (fun (_ : β) W => Kept Ds W) := by
  intro s A A' row hs hg hr D hD
  have h1 := hs D hD
  refine (hg.block D (lt_of_block h1) (fun e => ?_)).trans h1
  have := (hr D e.symm).1
  have := hB D hD
  omega
theorem pre_snoc {L : List Nat} {pre : List K} {k : K} (h : ks pre <+: L) (hk : L.getD pre.length 0 = k.1) (hl : pre.length < L.length) : ks (pre ++ [k]) <+: L := by
  obtain ⟨r, e⟩ := h
  have hlen : (ks pre).length = pre.length := by simp [ks]
  cases r with
  | nil => rw [List.append_nil] at e; rw [← e] at hl; omega
  | cons y r =>
    have : y = k.1 := by rw [← e, List.getD_eq_getElem?_getD, List.getElem?_append_right (by omega)] at hk; simpa [hlen] using hk
    subst this
    refine ⟨r, ?_⟩
    rw [← e, ks_snoc]; simp
theorem not_pre {L : List Nat} {pre : List K} {k : K} (hl : pre.length < L.length) (hk : L.getD pre.length 0 ≠ k.1) : ¬ ks (pre ++ [k]) <+: L := by
  rintro ⟨r, e⟩
  have hlen : (ks pre).length = pre.length := by simp [ks]
  apply hk
  rw [← e, ks_snoc, List.getD_eq_getElem?_getD]
  simp [List.getElem?_append_left, hlen, List.getElem?_append_right]

set_option maxRecDepth 100000 in
set_option maxHeartbeats 4000000 in
theorem row_round1 (few : Int) (b7 b8 b17 gf : Nat) (lb : Array Value) (L : List Nat) (la : Option Addr) (lc : Nat) (W0 : World) (hA7 : At W0 b7 (One (.int .i64 few) 3)) (hA8 : At W0 b8 (One (.bool false) 4)) (hA17 : At W0 b17 (One (.slice la L.length lc) 36)) (hIC : ICells W0 la (L.map (fun (j : Nat) => (j : Int)))) (hTe : Tells W0 gf lb L) (hLl : L.length ≤ 1088) (hT0 : 0 < W0.heap.size)
    (W : World) (hBW : Below W0.heap.size W0 W) (b19 : Nat) (hb19 : W0.heap.size ≤ b19) (A19 : At W b19 (One (.int .i64 1) 3)) (Ds : List Nat) (hDs : Kept Ds W) (ds : List Deferred) (Q : Exit → Act → World → Prop)
    (t0 t1 t2 t3 t4 t5 t6 t9 t10 t11 t12 t13 t14 t15 t16 t20 t21 t22 t23 t24 t25 t26 t27 t28 t29 t30 t31 t32 t33 t34 t35 t36 t37 t38 t39 t40 t41 t42 t43 t44 t45 t46 t47 t48 t49 t50 t51 t52 t53 t54 t55 t56 t57 t58 t59 t60 t61 t62 t63 t64 t65 t66 t67 t68 t69 t70 t71 t72 t73 t74 t75 t76 t77 t78 t79 t80 t81 t82 t83 t84 t85 t86 t87 t88 t89 t90 t91 t92 t93 t94 t95 t96 t97 t98 t99 t100 t101 t102 t103 t104 t105 t106 t107 t108 t109 t110 t111 t112 t113 t114 t115 t116 t117 t118 t119 t120 t121 t122 t123 t124 t125 t126 t127 t128 t129 t130 t131 t132 t133 t134 t135 t136 t137 t138 t139 t140 t141 t142 t143 t144 t145 t146 t147 t148 t149 t150 t151 t152 t153 t154 t155 t156 t157 t158 t159 t160 t161 t162 t163 t164 t165 t166 t167 t168 t169 t170 t171 t172 : Value) :
    Code.wpIn Fence.wide 4 Tryd.prog ((Tryd.f3.body.bind firstLoop).getD .skip) (Exit.then (fun a' w' => ∃ (D b19' : Nat) (u20 u21 u126 u127 u128 u129 u130 u131 u132 u133 u134 u135 u136 u137 u138 u139 u140 u141 u142 u143 u144 u145 u146 u147 u148 u149 u150 u151 u152 u153 u154 u155 u156 u157 u158 u159 u160 u161 u162 u163 u164 u165 u166 : Value), a' = ⟨#[t0, t1, t2, t3, t4, t5, t6, .pointer (some ⟨b7, 0, none⟩), .pointer (some ⟨b8, 0, none⟩), t9, t10, t11, t12, t13, t14, t15, t16, .pointer (some ⟨b17, 0, none⟩), .func (.func gf) #[] lb, .pointer (some ⟨b19', 0, none⟩), u20, u21, t22, t23, t24, t25, t26, t27, t28, t29, t30, t31, t32, t33, t34, t35, t36, t37, t38, t39, t40, t41, t42, t43, t44, t45, t46, t47, t48, t49, t50, t51, t52, t53, t54, t55, t56, t57, t58, t59, t60, t61, t62, t63, t64, t65, t66, t67, t68, t69, t70, t71, t72, t73, t74, t75, t76, t77, t78, t79, t80, t81, t82, t83, t84, t85, t86, t87, t88, t89, t90, t91, t92, t93, t94, t95, t96, t97, t98, t99, t100, t101, t102, t103, t104, t105, t106, t107, t108, t109, t110, t111, t112, t113, t114, t115, t116, t117, t118, t119, t120, t121, t122, t123, t124, t125, u126, u127, u128, u129, u130, u131, u132, u133, u134, u135, u136, u137, u138, u139, u140, u141, u142, u143, u144, u145, u146, u147, u148, u149, u150, u151, u152, u153, u154, u155, u156, u157, u158, u159, u160, u161, u162, u163, u164, u165, u166, t167, t168, t169, t170, t171, t172], { target := .collected D, args := #[] } :: ds⟩ ∧ Below W0.heap.size W0 w' ∧ W0.heap.size ≤ b19' ∧ At w' b19' (One (.int .i64 2) 3) ∧ Kept (D :: Ds) w' ∧ W0.heap.size ≤ D ∧ D ∉ Ds) Q) ⟨#[t0, t1, t2, t3, t4, t5, t6, .pointer (some ⟨b7, 0, none⟩), .pointer (some ⟨b8, 0, none⟩), t9, t10, t11, t12, t13, t14, t15, t16, .pointer (some ⟨b17, 0, none⟩), .func (.func gf) #[] lb, .pointer (some ⟨b19, 0, none⟩), t20, t21, t22, t23, t24, t25, t26, t27, t28, t29, t30, t31, t32, t33, t34, t35, t36, t37, t38, t39, t40, t41, t42, t43, t44, t45, t46, t47, t48, t49, t50, t51, t52, t53, t54, t55, t56, t57, t58, t59, t60, t61, t62, t63, t64, t65, t66, t67, t68, t69, t70, t71, t72, t73, t74, t75, t76, t77, t78, t79, t80, t81, t82, t83, t84, t85, t86, t87, t88, t89, t90, t91, t92, t93, t94, t95, t96, t97, t98, t99, t100, t101, t102, t103, t104, t105, t106, t107, t108, t109, t110, t111, t112, t113, t114, t115, t116, t117, t118, t119, t120, t121, t122, t123, t124, t125, t126, t127, t128, t129, t130, t131, t132, t133, t134, t135, t136, t137, t138, t139, t140, t141, t142, t143, t144, t145, t146, t147, t148, t149, t150, t151, t152, t153, t154, t155, t156, t157, t158, t159, t160, t161, t162, t163, t164, t165, t166, t167, t168, t169, t170, t171, t172], ds⟩ W := by
  conv => arg 4; whnf
  have hDl := hDs.lt
  obtain ⟨heg, gE, hgE, hSt⟩ := hTe
  have hsz : W0.heap.size ≤ W.heap.size + 1 := Nat.le_succ_of_le hBW.size
  have hl19 := A19.lt
  have hl7 := hA7.lt
  have hl8 := hA8.lt
  have hl17 := hA17.lt
  have hsz' := hBW.size
  have hn7 : b7 ≠ W.heap.size := by omega
  have hn8 : b8 ≠ W.heap.size := by omega
  have hn17 : b17 ≠ W.heap.size := by omega
  have hn19 : b19 ≠ W.heap.size := by omega
  obtain ⟨c19, f19⟩ := A19.one
  gi_wp2
  clear c19 f19
  refine wpIn_rangeFunc_ownF rfl (by omega) (gf := gf) (lb := lb) rfl trivial heg (hSt W0 (Below.refl _ _)) two_t (two_b (by simp; omega) (by simp)) ((hBW.alloc hBW.size _)) (fun _ => rfl)
    (fun pre V => ((At V W.heap.size (One (.int .i64 (pre.length : Int)) 3) ∧ At V b19 (One (.int .i64 1) 3) ∧ ks pre <+: L) ∧ Kept Ds V) ∧ Below W0.heap.size W0 V)
    (fun c pre V => (c = .ret ∧ ¬ (ks pre <+: L)) ∨ (c = .exit 2 ∧ At V W.heap.size (One (.int .i64 few) 3) ∧ At V b19 (One (.int .i64 1) 3) ∧ 1 = (0 : Int) ∧ Kept Ds V ∧ Below W0.heap.size W0 V))
    (OwnFrom.and (OwnFrom.and (Own.from (fun s A B row hs hg hr => ⟨obj_kept hs.1 rfl hg hr, obj_kept hs.2.1 rfl hg hr, hs.2.2⟩) _) (kept_from (fun D hD => by have := hDl D hD; simp; omega))) (ownFrom_below (Nat.le_refl _) (by simp; omega)))
    (fun c s A B row hs hg hr => by
      rcases hs with hs | ⟨h1, h2, h3, h4, h5, h6⟩
      · exact .inl hs
      · exact .inr ⟨h1, obj_kept h2 rfl hg (fun r e => (hr r e).2), obj_kept h3 rfl hg (fun r e => (hr r e).2), h4, kept_from (β := Unit) (fun D hD => by have := hDl D hD; simp; omega) () A B row h5 hg hr, ownFrom_below (β := Unit) (Nat.le_refl _) (by simp; omega) () A B row h6 hg hr⟩)
    ⟨⟨⟨At.new W _, A19.alloc _, List.nil_prefix⟩, hDs.others (KeepsOthers.alloc _ _)⟩, hBW.alloc hBW.size _⟩
    (fun k => { tmps := #[t0, t1, t2, t3, t4, t5, t6, .pointer (some ⟨b7, 0, none⟩), .pointer (some ⟨b8, 0, none⟩), t9, t10, t11, t12, t13, t14, t15, t16, .pointer (some ⟨b17, 0, none⟩), .func (.func gf) #[] lb, .pointer (some ⟨b19, 0, none⟩), .pointer (some ⟨W.heap.size, 0, none⟩), .int .i64 (k.1 : Int), t22, t23, t24, t25, t26, t27, t28, t29, t30, t31, t32, t33, t34, t35, t36, t37, t38, t39, t40, t41, t42, t43, t44, t45, t46, t47, t48, t49, t50, t51, t52, t53, t54, t55, t56, t57, t58, t59, t60, t61, t62, t63, t64, t65, t66, t67, t68, t69, t70, t71, t72, t73, t74, t75, t76, t77, t78, t79, t80, t81, t82, t83, t84, t85, t86, t87, t88, t89, t90, t91, t92, t93, t94, t95, t96, t97, t98, t99, t100, t101, t102, t103, t104, t105, t106, t107, t108, t109, t110, t111, t112, t113, t114, t115, t116, t117, t118, t119, t120, t121, t122, t123, t124, t125, .int .i64 1, .bool true, t128, t129, .func (.func gf) #[] lb, .int .i64 (k.1 : Int), t132, t133, t134, t135, t136, t137, t138, t139, t140, t141, t142, t143, t144, t145, t146, t147, t148, t149, t150, t151, t152, t153, t154, t155, t156, t157, t158, t159, t160, t161, t162, t163, t164, t165, t166, t167, t168, t169, t170, t171, t172], defers := [] }) ?assign ?body ?done ?stop
  case assign =>
    intro l x V K hK
    gi_wp2
    exact hK
  case body =>
    rintro l pre kk V ⟨⟨⟨A20, A19', hpre⟩, hDs'⟩, hB⟩ hlen
    rcases hIC.below hB with h | ⟨bl, off, hla, hbl, hcl⟩
    · rw [List.map_eq_nil_iff] at h; rw [h] at hlen; exact absurd hlen (Nat.not_lt_zero _)
    subst hla
    have hcj := hcl pre.length (by simpa using hlen)
    obtain ⟨z, hz⟩ : ∃ z, z = (L.map (fun (j : Nat) => (j : Int))).getD pre.length 0 := ⟨_, rfl⟩
    have hz' : z = ((L.getD pre.length 0 : Nat) : Int) := by rw [hz]; simp [hlen]
    rw [← hz] at hcj
    have h0 : (0 : Int) ≤ (pre.length : Int) := by omega
    have h1 : (pre.length : Int) < (L.length : Int) := by omega
    have h2 : (pre.length : Int) < 2000 := by omega
    obtain ⟨c20, f20⟩ := A20.one
    obtain ⟨c19, f19⟩ := A19'.one
    obtain ⟨c7, f7⟩ := (hA7.below hB).one
    obtain ⟨c8, f8⟩ := (hA8.below hB).one
    obtain ⟨c17, f17⟩ := (hA17.below hB).one
    clear hcl hIC hSt hz hDl
    by_cases hk : (kk.1 : Int) = z
    · have hpre' := pre_snoc (k := kk) hpre (by omega) hlen
      rw [← hk] at hcj
      have HP : Hid (ks (pre ++ [kk]) <+: L) := hpre'
      clear hk hz' hpre' hpre
      have K1 : KeepsOthers V (V.setCell ⟨W.heap.size, 0, none⟩ (.int .i64 ((pre.length : Int) + 1))) := KeepsOthers.setCell _ _ _
      have T1 : Two2 gE V (V.setCell ⟨W.heap.size, 0, none⟩ (.int .i64 ((pre.length : Int) + 1))) := two_set V _ (by omega) (by omega)
      have L1 : Below W0.heap.size W0 (V.setCell ⟨W.heap.size, 0, none⟩ (.int .i64 ((pre.length : Int) + 1))) := hB.setCell (p := ⟨W.heap.size, 0, none⟩) hsz' _
      have e1 : (((pre ++ [kk]).length : Nat) : Int) = (pre.length : Int) + 1 := by simp
      have P20 := A20.setOne (.int .i64 ((pre.length : Int) + 1))
      have P19 := A19'.set (a := ⟨W.heap.size, 0, none⟩) hn19 (.int .i64 ((pre.length : Int) + 1))
      gi_wp2
      refine ⟨K1, T1, ⟨⟨?_, P19, HP.out⟩, hDs'.others K1⟩, L1⟩
      rw [e1]; exact P20
    · have hnp := not_pre (k := kk) hlen (by omega)
      have hkb : ((kk.1 : Int) != z) = true := by simpa using hk
      have HP : Hid (¬ ks (pre ++ [kk]) <+: L) := hnp
      clear hk hz' hnp hpre
      gi_wp2
      have K1 := KeepsOthers.setCell V ⟨b8, 0, none⟩ (.bool false)
      exact ⟨K1, .inl ⟨rfl, HP.out⟩⟩
  case done =>
    rintro D xs V hD hS ⟨⟨⟨A20, A19', hpre⟩, hDs'⟩, hB⟩ hK
    have hlx : (xs.length : Int) = (L.length : Int) := by rw [← hS]; simp [ks]
    rw [hlx] at A20
    have hKD : Kept (D :: Ds) (V.alloc (One (.int .i64 2) 3)) := by
      intro D' hD'
      rcases List.mem_cons.1 hD' with rfl | h
      · exact (KeepsOthers.alloc V _).same _ _ hK rfl
      · exact (KeepsOthers.alloc V _).same _ _ (hDs' D' h) rfl
    have hDn : D ∉ Ds := fun h => by have := hDl D h; simp at hD; omega
    obtain ⟨c20, f20⟩ := A20.one
    obtain ⟨c19, f19⟩ := A19'.one
    obtain ⟨c7, f7⟩ := (hA7.below hB).one
    obtain ⟨c17, f17⟩ := (hA17.below hB).one
    simp only [World.size_alloc] at hD
    clear hSt hIC hS hlx hpre
    gi_wp2
    exact ⟨D, V.heap.size, _, _, _, _, _, _, _, _, _, _, _, _, _, _, _, _, _, _, _, _, _, _, _, _, _, _, _, _, _, _, _, _, _, _, _, _, _, _, _, _, _, _, _, rfl, hB.alloc hB.size _, hB.size, At.new V _, hKD, Nat.le_trans hsz hD, hDn⟩
  case stop =>
    rintro D c pre V hD hSp (⟨rfl, hnp⟩ | ⟨rfl, A20, A19', hr, hDs', hB⟩) hK
    · exact absurd hSp hnp
    · exact absurd hr (by decide)
end Go.Proofs.YtddjmhfcaeckgaaDoor
