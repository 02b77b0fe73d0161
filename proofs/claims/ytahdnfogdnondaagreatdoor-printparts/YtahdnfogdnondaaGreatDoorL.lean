import Derived.Test.YtahdnfogdnondaaGreatDoorJ
import Derived.Deep.RegionHeld3
namespace Go.Proofs.YtahdnfogdnondaaGreatDoor
open Go.RowKit
set_option linter.unusedVariables false
set_option linter.unusedSimpArgs false

/-- What is said of a panic does not hang on the frame. -/
def CalmP (Q : Exit → Act → World → Prop) : Prop := ∀ c (a : Act) (d : Tmp) (v : Value) (w : World), Q (.panic c) (a.put (some d) v) w → Q (.panic c) a w
theorem beginH {P : Program} {ops : Array Oper} {Q : Exit → Act → World → Prop} {S : World → Prop} {id : Nat} {a : Act} {w : World} (hq : CalmP Q) (hm : P.follows .mixedOrders = true) (hS : S w.drew)
    (h : CalmP Q → S w.drew → wpAnyH P .any ops Q S ops.size (Array.replicate ops.size false) a w.drew) : (Code.region id ops true).wp P Q a w :=
  wp_region_held_drew hm hS (h hq)
theorem takeH {P : Program} {ops : Array Oper} {Q : Exit → Act → World → Prop} {S : World → Prop} {md : Region.Mode} {i d : Nat} {oi : Oper} (v : Value) {fuel : Nat} {listed : Array Bool} {a : Act} {w : World} (hq : CalmP Q) (hi : ops[i]? = some oi) (hd : oi.dst = some d)
    (hs : Region.noSelect ops = true) (hf : Region.free md ops listed i = true) (hr : (Region.ready md ops listed).contains i = true)
    (hw : Region.wanted oi (yielded ops a.tmps) = true) (hy : ∀ w, S w → (execOp a.eval oi).run P w = .ok (.value v) w) (hS : S w)
    (h : wpAnyH P md ops Q S fuel (listed.setIfInBounds i true) (a.put (some d) v) w) : wpAnyH P md ops Q S (fuel + 1) listed a w :=
  wpAnyH_take hi hs hf hr (fun c a w h => hq c a d _ w (hd ▸ h)) (Or.inl ⟨hw, hy⟩) hS (hd ▸ h)
theorem skipH {P : Program} {ops : Array Oper} {Q : Exit → Act → World → Prop} {S : World → Prop} {md : Region.Mode} {i d : Nat} {oi : Oper} {fuel : Nat} {listed : Array Bool} {a : Act} {w : World} (hq : CalmP Q) (hi : ops[i]? = some oi) (hd : oi.dst = some d)
    (hs : Region.noSelect ops = true) (hf : Region.free md ops listed i = true) (hr : (Region.ready md ops listed).contains i = true)
    (hw : Region.wanted oi (yielded ops a.tmps) = false) (hS : S w)
    (h : wpAnyH P md ops Q S fuel (listed.setIfInBounds i true) (a.put (some d) undef) w) : wpAnyH P md ops Q S (fuel + 1) listed a w :=
  wpAnyH_take hi hs hf hr (fun c a w h => hq c a d _ w (hd ▸ h)) (Or.inr ⟨hw, rfl⟩) hS (hd ▸ h)

/-- What a function asks of its children: so many lifetimes, parameters, a type, a block. -/
def fnB (q : Nat) (ks : List Nat) : Bool :=
  if ks.length < q + 2 ∨ q + 10 < ks.length then false
  else (ks.take q).all (kIs 5) && ((ks.drop q).take (ks.length - q - 2)).all (kIs 7) && turn (ks.drop (ks.length - 2)) [kType, kIs 13]
theorem fnB_no {q : Nat} {ks : List Nat} (h : ks.length < q + 2 ∨ q + 10 < ks.length) : fnB q ks = false := by unfold fnB; rw [if_pos h]
theorem fnB_yes {q : Nat} {ks : List Nat} (h : ¬ (ks.length < q + 2 ∨ q + 10 < ks.length)) : fnB q ks = ((ks.take q).all (kIs 5) && ((ks.drop q).take (ks.length - q - 2)).all (kIs 7) && turn (ks.drop (ks.length - 2)) [kType, kIs 13]) := by unfold fnB; rw [if_neg h]
theorem KRow.take {w : World} {g off : Nat} {ks : List Nat} (h : KRow w (some ⟨g, off, none⟩) ks) (n : Nat) : KRow w (some ⟨g, off, none⟩) (ks.take n) := fun hn => by
  obtain ⟨g', off', e, hg, hc⟩ := h (by rintro rfl; simp at hn)
  cases e
  exact ⟨g, off, rfl, hg, fun i c hi => hc i c (by rw [List.getElem?_take] at hi; split at hi <;> simp_all)⟩
theorem KRow.drop {w : World} {g off : Nat} {ks : List Nat} (h : KRow w (some ⟨g, off, none⟩) ks) (n : Nat) : KRow w (some ⟨g, off + n, none⟩) (ks.drop n) := fun hn => by
  obtain ⟨g', off', e, hg, hc⟩ := h (by rintro rfl; simp at hn)
  cases e
  exact ⟨g, off + n, rfl, hg, fun i c hi => by rw [Nat.add_assoc]; exact hc (n + i) c (by rw [List.getElem?_drop] at hi; exact hi)⟩
set_option maxRecDepth 100000 in
set_option maxHeartbeats 4000000 in
theorem fnFits_1 (q : Nat) (ks : List Nat) (g off m cap : Nat) (w : World) (hm : ks.length = m) (hK : KRow w (some ⟨g, off, none⟩) ks) (h1 : q ≤ 8) (h2 : q + 2 ≤ m) (h6 : m ≤ q + 10) (h4 : m ≤ cap) (h5 : cap ≤ 140737488355328)
    (hc1 : (ks.take q).all (kIs 5) = false)  :
    Calls Tryz.prog 134 #[.int .i64 q, .slice (some ⟨g, off, none⟩) m cap] w fun e w' => e = .returned (.bool (false)) ∧ Below w.heap.size w w' := by
  have e1 : IntKind.i64.wrap ((m : Int) - (q : Int)) = (m : Int) - (q : Int) := by rw [IntKind.wrap_i64]; omega
  have e2 : IntKind.i64.wrap ((m : Int) - (q : Int) - 2) = (m : Int) - (q : Int) - 2 := by rw [IntKind.wrap_i64]; omega
  have e3 : decide ((m : Int) - (q : Int) - 2 < 0) = false := decide_eq_false (by omega)
  have e4 : ¬ ((8:Int) < (m : Int) - (q : Int) - 2) := by omega
  have e5 : IntKind.i64.wrap ((q : Int) + ((m : Int) - (q : Int) - 2)) = (m : Int) - 2 := by rw [IntKind.wrap_i64]; omega
  have e6 : (q : Int) ≤ (m : Int) - 2 := by omega
  have z1 : (0 : Int) ≤ (q : Int) := by omega
  have z2 : (q : Int) ≤ (cap : Int) := by omega
  have z3 : (m : Int) - 2 ≤ (cap : Int) := by omega
  have z4 : (m : Int) - 2 ≤ (m : Int) := by omega
  have z5 : (0 : Int) ≤ (m : Int) - 2 := by omega
  have z6 : ((m : Int) - 2).toNat = m - 2 := by omega
  have z7 : m - 2 - q = m - q - 2 := by omega
  have z8 : m - (m - 2) = 2 := by omega
  have zc1 : ¬ cap = q := by omega
  have zm1 : ¬ (m : Int) < 2 := by omega
  have zm2 : (2 : Int) ≤ (m : Int) := by omega
  have zc2 : ¬ cap = m - 2 := by omega
  have l1 : (ks.take q).length = q := by rw [List.length_take]; omega
  have l2 : ((ks.drop q).take (m - q - 2)).length = m - q - 2 := by rw [List.length_take, List.length_drop]; omega
  have l3 : (ks.drop (m - 2)).length = 2 := by rw [List.length_drop]; omega
  have HL2 : Hid (((ks.drop q).take (m - q - 2)).length = m - q - 2) := l2
  have HL1 : Hid ((ks.take q).length = q) := l1
  have HL3 : Hid ((ks.drop (m - 2)).length = 2) := l3
  have HM : Hid (ks.length = m) := hm
  have A1 : Hid (∀ W, Below w.heap.size w W → ∀ v, Cl W v (kIs 5) → Calls Tryz.prog 131 #[.slice (some ⟨g, off, none⟩) q cap, v] W fun e w' => e = .returned (.bool (false)) ∧ w' = W) := fun W hW v hv => by
    have := allAre_any (ks.take q) (some ⟨g, off, none⟩) cap v (kIs 5) W ((hK.take q).below hW) (by omega) hv
    rw [l1, hc1] at this
    exact this
  clear hK hc1 l1 l2 l3 hm
  go_enter Tryz.func134, Tryz.ntmps134
  go_wp2
  refine beginH (S := fun w' => Below w.heap.size w w') (fun _ _ _ _ _ h => h) (by kernel_rfl) (Below.refl _ _).drew (fun hq hHeld => ?_)
  refine takeH (i := 0) (d := 17) _ hq rfl rfl (by kernel_rfl) (by kernel_rfl) (by kernel_rfl) (by rfl) (fun W hSw => by (go_simp; try rfl)) hHeld ?_
  try simp only [Act.put, List.setIfInBounds_toArray, List.set_cons_zero, List.set_cons_succ]
  refine takeH (i := 1) (d := 18) _ hq rfl rfl (by kernel_rfl) (by kernel_rfl) (by kernel_rfl) (by rfl) (fun W hSw => by (go_simp; try rfl)) hHeld ?_
  try simp only [Act.put, List.setIfInBounds_toArray, List.set_cons_zero, List.set_cons_succ]
  refine takeH (i := 2) (d := 19) (.slice (some ⟨g, off, none⟩) q cap) hq rfl rfl (by kernel_rfl) (by kernel_rfl) (by kernel_rfl) (by rfl) (fun W hSw => by (go_simp; try rfl)) hHeld ?_
  try simp only [Act.put, List.setIfInBounds_toArray, List.set_cons_zero, List.set_cons_succ]
  refine wpAnyH_ready (rs := [3]) (by kernel_rfl) (by simp) ?_
  refine AllReadyH.cons rfl (fun K hK => ?_) AllReadyH.nil
  go_simp
  refine (is_any 5 _).mono ?_; rintro e w1 ⟨b1, rfl, hcl1, hb1⟩; have B1 : Below w.heap.size w w1 := below_aft hHeld hb1
  go_wp2_with fail
  refine hK.out _ _ B1 (fun hHeld => ?_)
  clear hK K
  try simp only [Act.put, List.setIfInBounds_toArray, List.set_cons_zero, List.set_cons_succ]
  refine wpAnyH_ready (rs := [4]) (by kernel_rfl) (by simp) ?_
  refine AllReadyH.cons rfl (fun K hK => ?_) AllReadyH.nil
  go_simp
  refine (A1.out w1 B1 _ hcl1).mono ?_; rintro e w2 ⟨rfl, hw2⟩; replace hw2 := hw2.symm; subst hw2
  go_wp2_with fail
  refine hK.out _ _ B1 (fun hHeld => ?_)
  clear hK K
  try simp only [Act.put, List.setIfInBounds_toArray, List.set_cons_zero, List.set_cons_succ]
  refine takeH (i := 5) (d := 22) _ hq rfl rfl (by kernel_rfl) (by kernel_rfl) (by kernel_rfl) (by rfl) (fun W hSw => by (go_simp; try rfl)) hHeld ?_
  try simp only [Act.put, List.setIfInBounds_toArray, List.set_cons_zero, List.set_cons_succ]
  refine skipH (i := 6) (d := 23) hq rfl rfl (by kernel_rfl) (by kernel_rfl) (by kernel_rfl) (by rfl) hHeld ?_
  try simp only [Act.put, List.setIfInBounds_toArray, List.set_cons_zero, List.set_cons_succ]
  refine skipH (i := 7) (d := 24) hq rfl rfl (by kernel_rfl) (by kernel_rfl) (by kernel_rfl) (by rfl) hHeld ?_
  try simp only [Act.put, List.setIfInBounds_toArray, List.set_cons_zero, List.set_cons_succ]
  refine skipH (i := 8) (d := 25) hq rfl rfl (by kernel_rfl) (by kernel_rfl) (by kernel_rfl) (by rfl) hHeld ?_
  try simp only [Act.put, List.setIfInBounds_toArray, List.set_cons_zero, List.set_cons_succ]
  refine skipH (i := 9) (d := 26) hq rfl rfl (by kernel_rfl) (by kernel_rfl) (by kernel_rfl) (by rfl) hHeld ?_
  try simp only [Act.put, List.setIfInBounds_toArray, List.set_cons_zero, List.set_cons_succ]
  refine skipH (i := 10) (d := 27) hq rfl rfl (by kernel_rfl) (by kernel_rfl) (by kernel_rfl) (by rfl) hHeld ?_
  try simp only [Act.put, List.setIfInBounds_toArray, List.set_cons_zero, List.set_cons_succ]
  refine skipH (i := 11) (d := 28) hq rfl rfl (by kernel_rfl) (by kernel_rfl) (by kernel_rfl) (by rfl) hHeld ?_
  try simp only [Act.put, List.setIfInBounds_toArray, List.set_cons_zero, List.set_cons_succ]
  refine skipH (i := 12) (d := 29) hq rfl rfl (by kernel_rfl) (by kernel_rfl) (by kernel_rfl) (by rfl) hHeld ?_
  try simp only [Act.put, List.setIfInBounds_toArray, List.set_cons_zero, List.set_cons_succ]
  refine skipH (i := 13) (d := 30) hq rfl rfl (by kernel_rfl) (by kernel_rfl) (by kernel_rfl) (by rfl) hHeld ?_
  try simp only [Act.put, List.setIfInBounds_toArray, List.set_cons_zero, List.set_cons_succ]
  refine takeH (i := 14) (d := 31) _ hq rfl rfl (by kernel_rfl) (by kernel_rfl) (by kernel_rfl) (by rfl) (fun W hSw => by (go_simp; try rfl)) hHeld ?_
  try simp only [Act.put, List.setIfInBounds_toArray, List.set_cons_zero, List.set_cons_succ]
  refine takeH (i := 15) (d := 32) _ hq rfl rfl (by kernel_rfl) (by kernel_rfl) (by kernel_rfl) (by rfl) (fun W hSw => by (go_simp; try rfl)) hHeld ?_
  try simp only [Act.put, List.setIfInBounds_toArray, List.set_cons_zero, List.set_cons_succ]
  refine skipH (i := 16) (d := 33) hq rfl rfl (by kernel_rfl) (by kernel_rfl) (by kernel_rfl) (by rfl) hHeld ?_
  try simp only [Act.put, List.setIfInBounds_toArray, List.set_cons_zero, List.set_cons_succ]
  refine skipH (i := 17) (d := 34) hq rfl rfl (by kernel_rfl) (by kernel_rfl) (by kernel_rfl) (by rfl) hHeld ?_
  try simp only [Act.put, List.setIfInBounds_toArray, List.set_cons_zero, List.set_cons_succ]
  refine skipH (i := 18) (d := 35) hq rfl rfl (by kernel_rfl) (by kernel_rfl) (by kernel_rfl) (by rfl) hHeld ?_
  try simp only [Act.put, List.setIfInBounds_toArray, List.set_cons_zero, List.set_cons_succ]
  refine skipH (i := 19) (d := 36) hq rfl rfl (by kernel_rfl) (by kernel_rfl) (by kernel_rfl) (by rfl) hHeld ?_
  try simp only [Act.put, List.setIfInBounds_toArray, List.set_cons_zero, List.set_cons_succ]
  refine skipH (i := 20) (d := 37) hq rfl rfl (by kernel_rfl) (by kernel_rfl) (by kernel_rfl) (by rfl) hHeld ?_
  try simp only [Act.put, List.setIfInBounds_toArray, List.set_cons_zero, List.set_cons_succ]
  refine skipH (i := 21) (d := 38) hq rfl rfl (by kernel_rfl) (by kernel_rfl) (by kernel_rfl) (by rfl) hHeld ?_
  try simp only [Act.put, List.setIfInBounds_toArray, List.set_cons_zero, List.set_cons_succ]
  refine skipH (i := 22) (d := 39) hq rfl rfl (by kernel_rfl) (by kernel_rfl) (by kernel_rfl) (by rfl) hHeld ?_
  try simp only [Act.put, List.setIfInBounds_toArray, List.set_cons_zero, List.set_cons_succ]
  refine skipH (i := 23) (d := 40) hq rfl rfl (by kernel_rfl) (by kernel_rfl) (by kernel_rfl) (by rfl) hHeld ?_
  try simp only [Act.put, List.setIfInBounds_toArray, List.set_cons_zero, List.set_cons_succ]
  refine takeH (i := 24) (d := 41) _ hq rfl rfl (by kernel_rfl) (by kernel_rfl) (by kernel_rfl) (by rfl) (fun W hSw => by (go_simp; try rfl)) hHeld ?_
  try simp only [Act.put, List.setIfInBounds_toArray, List.set_cons_zero, List.set_cons_succ]
  refine takeH (i := 25) (d := 4) _ hq rfl rfl (by kernel_rfl) (by kernel_rfl) (by kernel_rfl) (by rfl) (fun W hSw => by (go_simp; try rfl)) hHeld ?_
  try simp only [Act.put, List.setIfInBounds_toArray, List.set_cons_zero, List.set_cons_succ]
  refine wpAnyH_done (by kernel_rfl) ?_ _
  go_wp2
  go_ret
  exact ⟨rfl, hHeld⟩
set_option maxRecDepth 100000 in
set_option maxHeartbeats 4000000 in
theorem fnFits_2 (q : Nat) (ks : List Nat) (g off m cap : Nat) (w : World) (hm : ks.length = m) (hK : KRow w (some ⟨g, off, none⟩) ks) (h1 : q ≤ 8) (h2 : q + 2 ≤ m) (h6 : m ≤ q + 10) (h4 : m ≤ cap) (h5 : cap ≤ 140737488355328)
    (hc1 : (ks.take q).all (kIs 5) = true) (hc2 : ((ks.drop q).take (m - q - 2)).all (kIs 7) = false) :
    Calls Tryz.prog 134 #[.int .i64 q, .slice (some ⟨g, off, none⟩) m cap] w fun e w' => e = .returned (.bool (false)) ∧ Below w.heap.size w w' := by
  have e1 : IntKind.i64.wrap ((m : Int) - (q : Int)) = (m : Int) - (q : Int) := by rw [IntKind.wrap_i64]; omega
  have e2 : IntKind.i64.wrap ((m : Int) - (q : Int) - 2) = (m : Int) - (q : Int) - 2 := by rw [IntKind.wrap_i64]; omega
  have e3 : decide ((m : Int) - (q : Int) - 2 < 0) = false := decide_eq_false (by omega)
  have e4 : ¬ ((8:Int) < (m : Int) - (q : Int) - 2) := by omega
  have e5 : IntKind.i64.wrap ((q : Int) + ((m : Int) - (q : Int) - 2)) = (m : Int) - 2 := by rw [IntKind.wrap_i64]; omega
  have e6 : (q : Int) ≤ (m : Int) - 2 := by omega
  have z1 : (0 : Int) ≤ (q : Int) := by omega
  have z2 : (q : Int) ≤ (cap : Int) := by omega
  have z3 : (m : Int) - 2 ≤ (cap : Int) := by omega
  have z4 : (m : Int) - 2 ≤ (m : Int) := by omega
  have z5 : (0 : Int) ≤ (m : Int) - 2 := by omega
  have z6 : ((m : Int) - 2).toNat = m - 2 := by omega
  have z7 : m - 2 - q = m - q - 2 := by omega
  have z8 : m - (m - 2) = 2 := by omega
  have zc1 : ¬ cap = q := by omega
  have zm1 : ¬ (m : Int) < 2 := by omega
  have zm2 : (2 : Int) ≤ (m : Int) := by omega
  have zc2 : ¬ cap = m - 2 := by omega
  have l1 : (ks.take q).length = q := by rw [List.length_take]; omega
  have l2 : ((ks.drop q).take (m - q - 2)).length = m - q - 2 := by rw [List.length_take, List.length_drop]; omega
  have l3 : (ks.drop (m - 2)).length = 2 := by rw [List.length_drop]; omega
  have HL2 : Hid (((ks.drop q).take (m - q - 2)).length = m - q - 2) := l2
  have HL1 : Hid ((ks.take q).length = q) := l1
  have HL3 : Hid ((ks.drop (m - 2)).length = 2) := l3
  have HM : Hid (ks.length = m) := hm
  have A1 : Hid (∀ W, Below w.heap.size w W → ∀ v, Cl W v (kIs 5) → Calls Tryz.prog 131 #[.slice (some ⟨g, off, none⟩) q cap, v] W fun e w' => e = .returned (.bool (true)) ∧ w' = W) := fun W hW v hv => by
    have := allAre_any (ks.take q) (some ⟨g, off, none⟩) cap v (kIs 5) W ((hK.take q).below hW) (by omega) hv
    rw [l1, hc1] at this
    exact this
  have A2 : Hid (∀ W, Below w.heap.size w W → ∀ v, Cl W v (kIs 7) → Calls Tryz.prog 131 #[.slice (some ⟨g, off + q, none⟩) (m - q - 2) (cap - q), v] W fun e w' => e = .returned (.bool (false)) ∧ w' = W) := fun W hW v hv => by
    have := allAre_any ((ks.drop q).take (m - q - 2)) (some ⟨g, off + q, none⟩) (cap - q) v (kIs 7) W (((hK.drop q).take _).below hW) (by omega) hv
    rw [l2, hc2] at this
    exact this
  clear hK hc1 l1 l2 l3 hm
  go_enter Tryz.func134, Tryz.ntmps134
  go_wp2
  refine beginH (S := fun w' => Below w.heap.size w w') (fun _ _ _ _ _ h => h) (by kernel_rfl) (Below.refl _ _).drew (fun hq hHeld => ?_)
  refine takeH (i := 0) (d := 17) _ hq rfl rfl (by kernel_rfl) (by kernel_rfl) (by kernel_rfl) (by rfl) (fun W hSw => by (go_simp; try rfl)) hHeld ?_
  try simp only [Act.put, List.setIfInBounds_toArray, List.set_cons_zero, List.set_cons_succ]
  refine takeH (i := 1) (d := 18) _ hq rfl rfl (by kernel_rfl) (by kernel_rfl) (by kernel_rfl) (by rfl) (fun W hSw => by (go_simp; try rfl)) hHeld ?_
  try simp only [Act.put, List.setIfInBounds_toArray, List.set_cons_zero, List.set_cons_succ]
  refine takeH (i := 2) (d := 19) (.slice (some ⟨g, off, none⟩) q cap) hq rfl rfl (by kernel_rfl) (by kernel_rfl) (by kernel_rfl) (by rfl) (fun W hSw => by (go_simp; try rfl)) hHeld ?_
  try simp only [Act.put, List.setIfInBounds_toArray, List.set_cons_zero, List.set_cons_succ]
  refine wpAnyH_ready (rs := [3]) (by kernel_rfl) (by simp) ?_
  refine AllReadyH.cons rfl (fun K hK => ?_) AllReadyH.nil
  go_simp
  refine (is_any 5 _).mono ?_; rintro e w1 ⟨b1, rfl, hcl1, hb1⟩; have B1 : Below w.heap.size w w1 := below_aft hHeld hb1
  go_wp2_with fail
  refine hK.out _ _ B1 (fun hHeld => ?_)
  clear hK K
  try simp only [Act.put, List.setIfInBounds_toArray, List.set_cons_zero, List.set_cons_succ]
  refine wpAnyH_ready (rs := [4]) (by kernel_rfl) (by simp) ?_
  refine AllReadyH.cons rfl (fun K hK => ?_) AllReadyH.nil
  go_simp
  refine (A1.out w1 B1 _ hcl1).mono ?_; rintro e w2 ⟨rfl, hw2⟩; replace hw2 := hw2.symm; subst hw2
  go_wp2_with fail
  refine hK.out _ _ B1 (fun hHeld => ?_)
  clear hK K
  try simp only [Act.put, List.setIfInBounds_toArray, List.set_cons_zero, List.set_cons_succ]
  refine takeH (i := 5) (d := 22) _ hq rfl rfl (by kernel_rfl) (by kernel_rfl) (by kernel_rfl) (by rfl) (fun W hSw => by (go_simp; try rfl)) hHeld ?_
  try simp only [Act.put, List.setIfInBounds_toArray, List.set_cons_zero, List.set_cons_succ]
  refine takeH (i := 6) (d := 23) _ hq rfl rfl (by kernel_rfl) (by kernel_rfl) (by kernel_rfl) (by rfl) (fun W hSw => by (go_simp; try rfl)) hHeld ?_
  try simp only [Act.put, List.setIfInBounds_toArray, List.set_cons_zero, List.set_cons_succ]
  refine takeH (i := 7) (d := 24) _ hq rfl rfl (by kernel_rfl) (by kernel_rfl) (by kernel_rfl) (by rfl) (fun W hSw => by (go_simp; try rfl)) hHeld ?_
  try simp only [Act.put, List.setIfInBounds_toArray, List.set_cons_zero, List.set_cons_succ]
  refine takeH (i := 8) (d := 25) _ hq rfl rfl (by kernel_rfl) (by kernel_rfl) (by kernel_rfl) (by rfl) (fun W hSw => by (go_simp; try rfl)) hHeld ?_
  try simp only [Act.put, List.setIfInBounds_toArray, List.set_cons_zero, List.set_cons_succ]
  refine takeH (i := 9) (d := 26) _ hq rfl rfl (by kernel_rfl) (by kernel_rfl) (by kernel_rfl) (by rfl) (fun W hSw => by (go_simp; try rfl)) hHeld ?_
  try simp only [Act.put, List.setIfInBounds_toArray, List.set_cons_zero, List.set_cons_succ]
  refine takeH (i := 10) (d := 27) _ hq rfl rfl (by kernel_rfl) (by kernel_rfl) (by kernel_rfl) (by rfl) (fun W hSw => by (go_simp; try rfl)) hHeld ?_
  try simp only [Act.put, List.setIfInBounds_toArray, List.set_cons_zero, List.set_cons_succ]
  refine takeH (i := 11) (d := 28) (.slice (some ⟨g, off + q, none⟩) (m - q - 2) (cap - q)) hq rfl rfl (by kernel_rfl) (by kernel_rfl) (by kernel_rfl) (by rfl) (fun W hSw => by (go_simp; try rfl)) hHeld ?_
  try simp only [Act.put, List.setIfInBounds_toArray, List.set_cons_zero, List.set_cons_succ]
  refine wpAnyH_ready (rs := [12]) (by kernel_rfl) (by simp) ?_
  refine AllReadyH.cons rfl (fun K hK => ?_) AllReadyH.nil
  go_simp
  refine (is_any 7 _).mono ?_; rintro e w2 ⟨b2, rfl, hcl2, hb2⟩; have B2 : Below w.heap.size w w2 := below_aft hHeld hb2
  go_wp2_with fail
  refine hK.out _ _ B2 (fun hHeld => ?_)
  clear hK K
  try simp only [Act.put, List.setIfInBounds_toArray, List.set_cons_zero, List.set_cons_succ]
  refine wpAnyH_ready (rs := [13]) (by kernel_rfl) (by simp) ?_
  refine AllReadyH.cons rfl (fun K hK => ?_) AllReadyH.nil
  go_simp
  refine (A2.out w2 B2 _ hcl2).mono ?_; rintro e w3 ⟨rfl, hw3⟩; replace hw3 := hw3.symm; subst hw3
  go_wp2_with fail
  refine hK.out _ _ B2 (fun hHeld => ?_)
  clear hK K
  try simp only [Act.put, List.setIfInBounds_toArray, List.set_cons_zero, List.set_cons_succ]
  refine takeH (i := 14) (d := 31) _ hq rfl rfl (by kernel_rfl) (by kernel_rfl) (by kernel_rfl) (by rfl) (fun W hSw => by (go_simp; try rfl)) hHeld ?_
  try simp only [Act.put, List.setIfInBounds_toArray, List.set_cons_zero, List.set_cons_succ]
  refine takeH (i := 15) (d := 32) _ hq rfl rfl (by kernel_rfl) (by kernel_rfl) (by kernel_rfl) (by rfl) (fun W hSw => by (go_simp; try rfl)) hHeld ?_
  try simp only [Act.put, List.setIfInBounds_toArray, List.set_cons_zero, List.set_cons_succ]
  refine skipH (i := 16) (d := 33) hq rfl rfl (by kernel_rfl) (by kernel_rfl) (by kernel_rfl) (by rfl) hHeld ?_
  try simp only [Act.put, List.setIfInBounds_toArray, List.set_cons_zero, List.set_cons_succ]
  refine skipH (i := 17) (d := 34) hq rfl rfl (by kernel_rfl) (by kernel_rfl) (by kernel_rfl) (by rfl) hHeld ?_
  try simp only [Act.put, List.setIfInBounds_toArray, List.set_cons_zero, List.set_cons_succ]
  refine skipH (i := 18) (d := 35) hq rfl rfl (by kernel_rfl) (by kernel_rfl) (by kernel_rfl) (by rfl) hHeld ?_
  try simp only [Act.put, List.setIfInBounds_toArray, List.set_cons_zero, List.set_cons_succ]
  refine skipH (i := 19) (d := 36) hq rfl rfl (by kernel_rfl) (by kernel_rfl) (by kernel_rfl) (by rfl) hHeld ?_
  try simp only [Act.put, List.setIfInBounds_toArray, List.set_cons_zero, List.set_cons_succ]
  refine skipH (i := 20) (d := 37) hq rfl rfl (by kernel_rfl) (by kernel_rfl) (by kernel_rfl) (by rfl) hHeld ?_
  try simp only [Act.put, List.setIfInBounds_toArray, List.set_cons_zero, List.set_cons_succ]
  refine skipH (i := 21) (d := 38) hq rfl rfl (by kernel_rfl) (by kernel_rfl) (by kernel_rfl) (by rfl) hHeld ?_
  try simp only [Act.put, List.setIfInBounds_toArray, List.set_cons_zero, List.set_cons_succ]
  refine skipH (i := 22) (d := 39) hq rfl rfl (by kernel_rfl) (by kernel_rfl) (by kernel_rfl) (by rfl) hHeld ?_
  try simp only [Act.put, List.setIfInBounds_toArray, List.set_cons_zero, List.set_cons_succ]
  refine skipH (i := 23) (d := 40) hq rfl rfl (by kernel_rfl) (by kernel_rfl) (by kernel_rfl) (by rfl) hHeld ?_
  try simp only [Act.put, List.setIfInBounds_toArray, List.set_cons_zero, List.set_cons_succ]
  refine takeH (i := 24) (d := 41) _ hq rfl rfl (by kernel_rfl) (by kernel_rfl) (by kernel_rfl) (by rfl) (fun W hSw => by (go_simp; try rfl)) hHeld ?_
  try simp only [Act.put, List.setIfInBounds_toArray, List.set_cons_zero, List.set_cons_succ]
  refine takeH (i := 25) (d := 4) _ hq rfl rfl (by kernel_rfl) (by kernel_rfl) (by kernel_rfl) (by rfl) (fun W hSw => by (go_simp; try rfl)) hHeld ?_
  try simp only [Act.put, List.setIfInBounds_toArray, List.set_cons_zero, List.set_cons_succ]
  refine wpAnyH_done (by kernel_rfl) ?_ _
  go_wp2
  go_ret
  exact ⟨rfl, hHeld⟩
set_option maxRecDepth 100000 in
set_option maxHeartbeats 4000000 in
theorem fnFits_3 (q : Nat) (ks : List Nat) (g off m cap : Nat) (w : World) (hm : ks.length = m) (hK : KRow w (some ⟨g, off, none⟩) ks) (h1 : q ≤ 8) (h2 : q + 2 ≤ m) (h6 : m ≤ q + 10) (h4 : m ≤ cap) (h5 : cap ≤ 140737488355328)
    (hc1 : (ks.take q).all (kIs 5) = true) (hc2 : ((ks.drop q).take (m - q - 2)).all (kIs 7) = true) :
    Calls Tryz.prog 134 #[.int .i64 q, .slice (some ⟨g, off, none⟩) m cap] w fun e w' => e = .returned (.bool (turn (ks.drop (m - 2)) [kType, kIs 13])) ∧ Below w.heap.size w w' := by
  have e1 : IntKind.i64.wrap ((m : Int) - (q : Int)) = (m : Int) - (q : Int) := by rw [IntKind.wrap_i64]; omega
  have e2 : IntKind.i64.wrap ((m : Int) - (q : Int) - 2) = (m : Int) - (q : Int) - 2 := by rw [IntKind.wrap_i64]; omega
  have e3 : decide ((m : Int) - (q : Int) - 2 < 0) = false := decide_eq_false (by omega)
  have e4 : ¬ ((8:Int) < (m : Int) - (q : Int) - 2) := by omega
  have e5 : IntKind.i64.wrap ((q : Int) + ((m : Int) - (q : Int) - 2)) = (m : Int) - 2 := by rw [IntKind.wrap_i64]; omega
  have e6 : (q : Int) ≤ (m : Int) - 2 := by omega
  have z1 : (0 : Int) ≤ (q : Int) := by omega
  have z2 : (q : Int) ≤ (cap : Int) := by omega
  have z3 : (m : Int) - 2 ≤ (cap : Int) := by omega
  have z4 : (m : Int) - 2 ≤ (m : Int) := by omega
  have z5 : (0 : Int) ≤ (m : Int) - 2 := by omega
  have z6 : ((m : Int) - 2).toNat = m - 2 := by omega
  have z7 : m - 2 - q = m - q - 2 := by omega
  have z8 : m - (m - 2) = 2 := by omega
  have zc1 : ¬ cap = q := by omega
  have zm1 : ¬ (m : Int) < 2 := by omega
  have zm2 : (2 : Int) ≤ (m : Int) := by omega
  have zc2 : ¬ cap = m - 2 := by omega
  have l1 : (ks.take q).length = q := by rw [List.length_take]; omega
  have l2 : ((ks.drop q).take (m - q - 2)).length = m - q - 2 := by rw [List.length_take, List.length_drop]; omega
  have l3 : (ks.drop (m - 2)).length = 2 := by rw [List.length_drop]; omega
  have HL2 : Hid (((ks.drop q).take (m - q - 2)).length = m - q - 2) := l2
  have HL1 : Hid ((ks.take q).length = q) := l1
  have HL3 : Hid ((ks.drop (m - 2)).length = 2) := l3
  have HM : Hid (ks.length = m) := hm
  have A1 : Hid (∀ W, Below w.heap.size w W → ∀ v, Cl W v (kIs 5) → Calls Tryz.prog 131 #[.slice (some ⟨g, off, none⟩) q cap, v] W fun e w' => e = .returned (.bool (true)) ∧ w' = W) := fun W hW v hv => by
    have := allAre_any (ks.take q) (some ⟨g, off, none⟩) cap v (kIs 5) W ((hK.take q).below hW) (by omega) hv
    rw [l1, hc1] at this
    exact this
  have A2 : Hid (∀ W, Below w.heap.size w W → ∀ v, Cl W v (kIs 7) → Calls Tryz.prog 131 #[.slice (some ⟨g, off + q, none⟩) (m - q - 2) (cap - q), v] W fun e w' => e = .returned (.bool (true)) ∧ w' = W) := fun W hW v hv => by
    have := allAre_any ((ks.drop q).take (m - q - 2)) (some ⟨g, off + q, none⟩) (cap - q) v (kIs 7) W (((hK.drop q).take _).below hW) (by omega) hv
    rw [l2, hc2] at this
    exact this
  have A3 : Hid (∀ W, Below w.heap.size w W → ∀ v, Cl W v (kIs 13) → ∀ t, Calls Tryz.prog 135 #[.slice (some ⟨g, off + (m - 2), none⟩) 2 (cap - (m - 2)), .slice (some ⟨W.heap.size, 0, none⟩) 2 2] (W.alloc (.cells #[fnV 136, v] t)) fun e w' => e = .returned (.bool (turn (ks.drop (m - 2)) [kType, kIs 13])) ∧ w' = W.alloc (.cells #[fnV 136, v] t)) := fun W hW v hv t => by
    have := inTurn_2 (ks.drop (m - 2)) (some ⟨g, off + (m - 2), none⟩) (cap - (m - 2)) W (fnV 136) v kType (kIs 13) ((hK.drop (m - 2)).below hW) (by omega) .type hv t
    rw [l3] at this
    exact this
  generalize turn (ks.drop (m - 2)) [kType, kIs 13] = tv at *
  clear hK hc1 l1 l2 l3 hm
  go_enter Tryz.func134, Tryz.ntmps134
  go_wp2
  refine beginH (S := fun w' => Below w.heap.size w w') (fun _ _ _ _ _ h => h) (by kernel_rfl) (Below.refl _ _).drew (fun hq hHeld => ?_)
  refine takeH (i := 0) (d := 17) _ hq rfl rfl (by kernel_rfl) (by kernel_rfl) (by kernel_rfl) (by rfl) (fun W hSw => by (go_simp; try rfl)) hHeld ?_
  try simp only [Act.put, List.setIfInBounds_toArray, List.set_cons_zero, List.set_cons_succ]
  refine takeH (i := 1) (d := 18) _ hq rfl rfl (by kernel_rfl) (by kernel_rfl) (by kernel_rfl) (by rfl) (fun W hSw => by (go_simp; try rfl)) hHeld ?_
  try simp only [Act.put, List.setIfInBounds_toArray, List.set_cons_zero, List.set_cons_succ]
  refine takeH (i := 2) (d := 19) (.slice (some ⟨g, off, none⟩) q cap) hq rfl rfl (by kernel_rfl) (by kernel_rfl) (by kernel_rfl) (by rfl) (fun W hSw => by (go_simp; try rfl)) hHeld ?_
  try simp only [Act.put, List.setIfInBounds_toArray, List.set_cons_zero, List.set_cons_succ]
  refine wpAnyH_ready (rs := [3]) (by kernel_rfl) (by simp) ?_
  refine AllReadyH.cons rfl (fun K hK => ?_) AllReadyH.nil
  go_simp
  refine (is_any 5 _).mono ?_; rintro e w1 ⟨b1, rfl, hcl1, hb1⟩; have B1 : Below w.heap.size w w1 := below_aft hHeld hb1
  go_wp2_with fail
  refine hK.out _ _ B1 (fun hHeld => ?_)
  clear hK K
  try simp only [Act.put, List.setIfInBounds_toArray, List.set_cons_zero, List.set_cons_succ]
  refine wpAnyH_ready (rs := [4]) (by kernel_rfl) (by simp) ?_
  refine AllReadyH.cons rfl (fun K hK => ?_) AllReadyH.nil
  go_simp
  refine (A1.out w1 B1 _ hcl1).mono ?_; rintro e w2 ⟨rfl, hw2⟩; replace hw2 := hw2.symm; subst hw2
  go_wp2_with fail
  refine hK.out _ _ B1 (fun hHeld => ?_)
  clear hK K
  try simp only [Act.put, List.setIfInBounds_toArray, List.set_cons_zero, List.set_cons_succ]
  refine takeH (i := 5) (d := 22) _ hq rfl rfl (by kernel_rfl) (by kernel_rfl) (by kernel_rfl) (by rfl) (fun W hSw => by (go_simp; try rfl)) hHeld ?_
  try simp only [Act.put, List.setIfInBounds_toArray, List.set_cons_zero, List.set_cons_succ]
  refine takeH (i := 6) (d := 23) _ hq rfl rfl (by kernel_rfl) (by kernel_rfl) (by kernel_rfl) (by rfl) (fun W hSw => by (go_simp; try rfl)) hHeld ?_
  try simp only [Act.put, List.setIfInBounds_toArray, List.set_cons_zero, List.set_cons_succ]
  refine takeH (i := 7) (d := 24) _ hq rfl rfl (by kernel_rfl) (by kernel_rfl) (by kernel_rfl) (by rfl) (fun W hSw => by (go_simp; try rfl)) hHeld ?_
  try simp only [Act.put, List.setIfInBounds_toArray, List.set_cons_zero, List.set_cons_succ]
  refine takeH (i := 8) (d := 25) _ hq rfl rfl (by kernel_rfl) (by kernel_rfl) (by kernel_rfl) (by rfl) (fun W hSw => by (go_simp; try rfl)) hHeld ?_
  try simp only [Act.put, List.setIfInBounds_toArray, List.set_cons_zero, List.set_cons_succ]
  refine takeH (i := 9) (d := 26) _ hq rfl rfl (by kernel_rfl) (by kernel_rfl) (by kernel_rfl) (by rfl) (fun W hSw => by (go_simp; try rfl)) hHeld ?_
  try simp only [Act.put, List.setIfInBounds_toArray, List.set_cons_zero, List.set_cons_succ]
  refine takeH (i := 10) (d := 27) _ hq rfl rfl (by kernel_rfl) (by kernel_rfl) (by kernel_rfl) (by rfl) (fun W hSw => by (go_simp; try rfl)) hHeld ?_
  try simp only [Act.put, List.setIfInBounds_toArray, List.set_cons_zero, List.set_cons_succ]
  refine takeH (i := 11) (d := 28) (.slice (some ⟨g, off + q, none⟩) (m - q - 2) (cap - q)) hq rfl rfl (by kernel_rfl) (by kernel_rfl) (by kernel_rfl) (by rfl) (fun W hSw => by (go_simp; try rfl)) hHeld ?_
  try simp only [Act.put, List.setIfInBounds_toArray, List.set_cons_zero, List.set_cons_succ]
  refine wpAnyH_ready (rs := [12]) (by kernel_rfl) (by simp) ?_
  refine AllReadyH.cons rfl (fun K hK => ?_) AllReadyH.nil
  go_simp
  refine (is_any 7 _).mono ?_; rintro e w2 ⟨b2, rfl, hcl2, hb2⟩; have B2 : Below w.heap.size w w2 := below_aft hHeld hb2
  go_wp2_with fail
  refine hK.out _ _ B2 (fun hHeld => ?_)
  clear hK K
  try simp only [Act.put, List.setIfInBounds_toArray, List.set_cons_zero, List.set_cons_succ]
  refine wpAnyH_ready (rs := [13]) (by kernel_rfl) (by simp) ?_
  refine AllReadyH.cons rfl (fun K hK => ?_) AllReadyH.nil
  go_simp
  refine (A2.out w2 B2 _ hcl2).mono ?_; rintro e w3 ⟨rfl, hw3⟩; replace hw3 := hw3.symm; subst hw3
  go_wp2_with fail
  refine hK.out _ _ B2 (fun hHeld => ?_)
  clear hK K
  try simp only [Act.put, List.setIfInBounds_toArray, List.set_cons_zero, List.set_cons_succ]
  refine takeH (i := 14) (d := 31) _ hq rfl rfl (by kernel_rfl) (by kernel_rfl) (by kernel_rfl) (by rfl) (fun W hSw => by (go_simp; try rfl)) hHeld ?_
  try simp only [Act.put, List.setIfInBounds_toArray, List.set_cons_zero, List.set_cons_succ]
  refine takeH (i := 15) (d := 32) _ hq rfl rfl (by kernel_rfl) (by kernel_rfl) (by kernel_rfl) (by rfl) (fun W hSw => by (go_simp; try rfl)) hHeld ?_
  try simp only [Act.put, List.setIfInBounds_toArray, List.set_cons_zero, List.set_cons_succ]
  refine takeH (i := 16) (d := 33) _ hq rfl rfl (by kernel_rfl) (by kernel_rfl) (by kernel_rfl) (by rfl) (fun W hSw => by (go_simp; try rfl)) hHeld ?_
  try simp only [Act.put, List.setIfInBounds_toArray, List.set_cons_zero, List.set_cons_succ]
  refine takeH (i := 17) (d := 34) _ hq rfl rfl (by kernel_rfl) (by kernel_rfl) (by kernel_rfl) (by rfl) (fun W hSw => by (go_simp; try rfl)) hHeld ?_
  try simp only [Act.put, List.setIfInBounds_toArray, List.set_cons_zero, List.set_cons_succ]
  refine takeH (i := 18) (d := 35) _ hq rfl rfl (by kernel_rfl) (by kernel_rfl) (by kernel_rfl) (by rfl) (fun W hSw => by (go_simp; try rfl)) hHeld ?_
  try simp only [Act.put, List.setIfInBounds_toArray, List.set_cons_zero, List.set_cons_succ]
  refine takeH (i := 19) (d := 36) _ hq rfl rfl (by kernel_rfl) (by kernel_rfl) (by kernel_rfl) (by rfl) (fun W hSw => by (go_simp; try rfl)) hHeld ?_
  try simp only [Act.put, List.setIfInBounds_toArray, List.set_cons_zero, List.set_cons_succ]
  refine takeH (i := 20) (d := 37) (.slice (some ⟨g, off + (m - 2), none⟩) 2 (cap - (m - 2))) hq rfl rfl (by kernel_rfl) (by kernel_rfl) (by kernel_rfl) (by rfl) (fun W hSw => by (go_simp; try rfl)) hHeld ?_
  try simp only [Act.put, List.setIfInBounds_toArray, List.set_cons_zero, List.set_cons_succ]
  refine wpAnyH_ready (rs := [21]) (by kernel_rfl) (by simp) ?_
  refine AllReadyH.cons rfl (fun K hK => ?_) AllReadyH.nil
  go_simp
  refine (is_any 13 _).mono ?_; rintro e w3 ⟨b3, rfl, hcl3, hb3⟩; have B3 : Below w.heap.size w w3 := below_aft hHeld hb3
  go_wp2_with fail
  refine hK.out _ _ B3 (fun hHeld => ?_)
  clear hK K
  try simp only [Act.put, List.setIfInBounds_toArray, List.set_cons_zero, List.set_cons_succ]
  refine wpAnyH_ready (rs := [22]) (by kernel_rfl) (by simp) ?_
  refine AllReadyH.cons rfl (fun K hK => ?_) AllReadyH.nil
  go_simp
  go_wp2_with fail
  refine hK.out _ _ (belA B3) (fun hHeld => ?_)
  clear hK K
  try simp only [Act.put, List.setIfInBounds_toArray, List.set_cons_zero, List.set_cons_succ]
  refine wpAnyH_ready (rs := [23]) (by kernel_rfl) (by simp) ?_
  refine AllReadyH.cons rfl (fun K hK => ?_) AllReadyH.nil
  go_simp
  refine (A3.out w3 B3 _ hcl3 _).mono ?_; rintro e w4 ⟨rfl, hw4⟩; subst hw4
  go_wp2_with fail
  refine hK.out _ _ (belA B3) (fun hHeld => ?_)
  clear hK K
  try simp only [Act.put, List.setIfInBounds_toArray, List.set_cons_zero, List.set_cons_succ]
  refine takeH (i := 24) (d := 41) _ hq rfl rfl (by kernel_rfl) (by kernel_rfl) (by kernel_rfl) (by rfl) (fun W hSw => by (go_simp; try rfl)) hHeld ?_
  try simp only [Act.put, List.setIfInBounds_toArray, List.set_cons_zero, List.set_cons_succ]
  refine takeH (i := 25) (d := 4) _ hq rfl rfl (by kernel_rfl) (by kernel_rfl) (by kernel_rfl) (by rfl) (fun W hSw => by (go_simp; try rfl)) hHeld ?_
  try simp only [Act.put, List.setIfInBounds_toArray, List.set_cons_zero, List.set_cons_succ]
  refine wpAnyH_done (by kernel_rfl) ?_ _
  go_wp2
  go_ret
  exact ⟨rfl, hHeld⟩
set_option maxRecDepth 100000 in
set_option maxHeartbeats 2000000 in
theorem fnFits_any (q : Nat) (ks : List Nat) (a : Option Addr) (cap : Nat) (w : World) (hK : KRow w a ks) (h1 : q ≤ 8) (h3 : ks.length ≤ 20000) (h4 : ks.length ≤ cap) (h5 : cap ≤ 140737488355328) :
    Calls Tryz.prog 134 #[.int .i64 q, .slice a ks.length cap] w fun e w' => e = .returned (.bool (fnB q ks)) ∧ Below w.heap.size w w' := by
  by_cases hc : ks.length < q + 2 ∨ q + 10 < ks.length
  · rw [fnB_no hc]
    obtain ⟨m, hm⟩ : ∃ m, m = ks.length := ⟨_, rfl⟩
    rw [← hm] at hc h3 h4 ⊢
    have e1 : IntKind.i64.wrap ((m : Int) - (q : Int)) = (m : Int) - (q : Int) := by rw [IntKind.wrap_i64]; omega
    have e2 : IntKind.i64.wrap ((m : Int) - (q : Int) - 2) = (m : Int) - (q : Int) - 2 := by rw [IntKind.wrap_i64]; omega
    rcases hc with hc | hc
    · have e3 : decide ((m : Int) - (q : Int) - 2 < 0) = true := decide_eq_true (by omega)
      go_enter Tryz.func134, Tryz.ntmps134
      go_wp2
      go_ret
      exact ⟨rfl, Below.refl _ _⟩
    · have e3 : decide ((m : Int) - (q : Int) - 2 < 0) = false := decide_eq_false (by omega)
      have e4 : ((8:Int) < (m : Int) - (q : Int) - 2) := by omega
      have e5 : decide ((8:Int) < (m : Int) - (q : Int) - 2) = true := decide_eq_true e4
      go_enter Tryz.func134, Tryz.ntmps134
      go_wp2
      go_ret
      exact ⟨rfl, Below.refl _ _⟩
  · rw [fnB_yes hc]
    obtain ⟨g, off, rfl, hg, -⟩ := hK (by rintro rfl; simp at hc)
    cases hc1 : (ks.take q).all (kIs 5) with
    | false => exact fnFits_1 q ks g off _ cap w rfl hK h1 (by omega) (by omega) h4 h5 hc1
    | true =>
      cases hc2 : ((ks.drop q).take (ks.length - q - 2)).all (kIs 7) with
      | false => exact fnFits_2 q ks g off _ cap w rfl hK h1 (by omega) (by omega) h4 h5 hc1 hc2
      | true => exact fnFits_3 q ks g off _ cap w rfl hK h1 (by omega) (by omega) h4 h5 hc1 hc2
end Go.Proofs.YtahdnfogdnondaaGreatDoor
