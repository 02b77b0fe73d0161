import Derived.Test.YtkidcmglidnaoaaRb
import Derived.Test.YtkidcmglidnaoaaZe
import Derived.RangeFuncNested
import Derived.RangeFuncBound
import Derived.RangeFuncCalls
import Derived.RangeFuncLeaves
import Derived.RangeFuncBox
import Derived.Shelf.Abstract
import Derived.Shelf.RegionOpen
import Derived.WalkKit
import Derived.OwnWalkIn
import Derived.TacticsInMore
import Derived.LoopNIn
import Derived.LoopIn
namespace Go.Proofs.Ytkidcmglidnaoaa
open Go.RowKit Go.Shelf
attribute [local go_sem] Oper.semAt_some
set_option linter.unusedVariables false
set_option linter.unusedSimpArgs false

/-- Numbers with their places. -/
def enumI (L : List Int) : List (Int × Int) := L.zipIdx.map fun x => ((x.2 : Int), x.1)
theorem enumI_get {L : List Int} {i : Nat} {p c : Int} : (enumI L)[i]? = some (p, c) ↔ p = (i : Int) ∧ L[i]? = some c := by
  unfold enumI
  rw [List.getElem?_map, List.getElem?_zipIdx]
  cases h : L[i]? with
  | none => simp
  | some v =>
    simp
    intro _
    exact eq_comm
theorem enumI_len (L : List Int) : (enumI L).length = L.length := by simp [enumI]
set_option maxRecDepth 100000 in
set_option maxHeartbeats 8000000 in
theorem all1_in (nn l bx g n : Nat) (hnn : 1 ≤ nn) (L : List Int) (hL : L.length = n) (hn : n ≤ 20000) (J : Nat → World → Prop) (Jx : Nat → World → Prop) (W : World)
    (hJ : Bears W.heap.size J) (hK : ∀ i W1, J i W1 → Rw W1 g 3 (iCells L) ∧ At W1 bx (One (.slice (some ⟨g, 0, none⟩) n n) 35))
    (hY : ∀ i p c W1, J i W1 → (enumI L)[i]? = some (p, c) → YieldAt Fence.wide (nn - 1) Try.prog l #[.int .i64 p, .int .i64 c] W1 fun e W' =>
      (e = .returned (.bool true) ∧ Apart W.heap.size W1 W' ∧ J (i + 1) W') ∨ (e = .returned (.bool false) ∧ Jx i W'))
    (h0 : J 0 W) :
    CallsIn Fence.wide nn Try.prog 67 #[.func (.yield l) #[] #[], .pointer (some ⟨bx, 0, none⟩)] W fun e W' => (∃ v, e = .returned v) ∧ (J (enumI L).length W' ∨ ∃ x, Jx x W') := by
  rw [enumI_len, hL]
  have HL : Hid (L.length = n) := hL
  clear hL
  obtain ⟨hR0, hX0⟩ := hK 0 W h0
  obtain ⟨x0, xf⟩ := hX0.one
  refine callsIn_of_wp Try.func67 rfl trivial ?_ rfl
  simp only [Try.ntmps67, List.size_toArray, List.length_cons, List.length_nil, Nat.reduceAdd, Nat.reduceSub, Array.replicate_succ, Array.replicate_zero, List.push_toArray, List.append_toArray, List.nil_append, List.cons_append]
  gi_wp2
  gi_loopw [7] (fun i wr => ∃ k : Nat, k ≤ n ∧ i = .int .i64 k ∧ J k wr) (fun i _ => n - (intOf i).toNat)
  case atStart => exact ⟨0, Nat.zero_le _, rfl, h0⟩
  case round =>
    obtain ⟨k, hk, rfl, hj⟩ := hrel
    by_cases hlt : k < n
    · obtain ⟨hR, hX⟩ := hK k wr hj
      obtain ⟨c, hc⟩ : ∃ c, L[k]? = some c := ⟨_, List.getElem?_eq_getElem (by rw [HL.out]; exact hlt)⟩
      have c1 : wr.cell? ⟨g, k, none⟩ = some (.int .i64 c) := hR.cell (by rw [iCells, List.getElem?_map, hc]; rfl)
      have k0 : (0 : Int) ≤ (k : Int) := by omega
      have k1 : (k : Int) < (n : Int) := by omega
      have w3 : IntKind.i64.wrap ((k : Int) + 1) = (k : Int) + 1 := by rw [IntKind.wrap_i64]; omega
      obtain ⟨fn, tmps, assign, body, hy, hRR⟩ := hY k (k : Int) c wr hj (enumI_get.2 ⟨rfl, hc⟩)
      clear hR hX hc
      gi_wp2
      refine hRR.mono ?_
      clear hRR hy
      rintro e W3 (⟨rfl, hap, hj3⟩ | ⟨rfl, hjx⟩)
      · gi_wp2
        exact ⟨⟨k + 1, by omega, by go_num, hj3⟩, by simp [intOf]; omega⟩
      · gi_wp2
        refine bodyPost_ret (results_none rfl _ _ _) rfl ?_
        exact ⟨⟨_, rfl⟩, .inr ⟨_, hjx⟩⟩
    · obtain rfl : k = n := by omega
      gi_wp2
      go_end0
      exact ⟨⟨_, rfl⟩, .inl hj⟩
theorem all1_tells (nn bx g n : Nat) (hnn : 1 ≤ nn) (L : List Int) (hL : L.length = n) (hn : n ≤ 20000) (w : World) :
    TellsL Fence.wide nn Try.prog 67 #[.pointer (some ⟨bx, 0, none⟩)] (enumI L) (fun W => Rw W g 3 (iCells L) ∧ At W bx (One (.slice (some ⟨g, 0, none⟩) n n) 35)) w :=
  fun l J Jx W hW hJ hK hY h0 => all1_in nn l bx g n hnn L hL hn J Jx W hJ hK hY h0
theorem all_any' (w : World) (g n : Nat) :
    Calls Try.prog 45 #[.slice (some ⟨g, 0, none⟩) n n] w fun e w' => e = .returned (.func (.func 67) #[] #[.pointer (some ⟨w.heap.size, 0, none⟩)]) ∧ At w' w.heap.size (One (.slice (some ⟨g, 0, none⟩) n n) 35) ∧ Below w.heap.size w w' := by
  go_enter Try.func45, Try.ntmps45
  go_wp2
  go_ret
  exact ⟨rfl, At.new _ _, belA (Below.refl _ _)⟩
set_option maxRecDepth 100000 in
theorem walk_yes (x : Nx) (c : Fo) (T : List Nd) (hTe : T = (Fo.cons x c .nil).flat 0) (hMay : Mayb okP T) (n : Nat) (hn : T.length = n) (a : Option Addr) (cap : Nat) (w : World) (hT : TAt w a T) (hS : Sm T) :
    Calls Try.prog 17 #[trV a n cap] w fun e w' => ∃ g b, e = .returned (.func (.func 67) #[] #[.pointer (some ⟨b, 0, none⟩)]) ∧ Rw w' g 3 (iCells (lvI x c)) ∧ At w' b (One (.slice (some ⟨g, 0, none⟩) n n) 35) ∧ w.heap.size ≤ g ∧ w.heap.size ≤ b ∧ Below w.heap.size w w' := by
  have hTl : T.length = 1 + c.size := by rw [hTe, Fo.len_flat]; simp [Fo.size]
  have A1 := At.new w (Tro a n cap)
  have hB1 : Below w.heap.size w (w.alloc (Tro a n cap)) := belA (Below.refl _ _)
  have HM : Hid (∀ W, Below w.heap.size w W → Calls Try.prog 14 #[trV a n cap] W fun e w' => e = .returned (.bool true) ∧ Below W.heap.size W w') := fun W hW => by
    have := may_yes (cap := cap) (hT.below hW) hS hMay
    rw [hn] at this
    exact this
  have HLV : Hid (∀ W, Below w.heap.size w W → Calls Try.prog 38 #[trV a n cap] W fun e w' => ∃ g, e = .returned (.slice (some ⟨g, 0, none⟩) n n) ∧ Rw w' g 3 (iCells (lvI x c)) ∧ W.heap.size ≤ g ∧ Below W.heap.size W w') := fun W hW => levels_n x c n (by omega) a cap W (by rw [← hTe]; exact hT.below hW) (by rw [← hTe]; exact hS)
  clear hT hS hMay hTl
  obtain ⟨L, hL⟩ : ∃ L, L = lvI x c := ⟨_, rfl⟩
  rw [← hL] at HLV ⊢
  clear hL hTe
  go_enter Try.func17, Try.ntmps17
  go_wp2_with (first
    | (go_at_call 14; refine (HM.out _ hB1).mono ?_; rintro e w1 ⟨rfl, hb1⟩; obtain ⟨x0, xf⟩ := (A1.below hb1).one)
    | (go_at_call 38; refine (HLV.out _ (below_aft hB1 hb1)).mono ?_; rintro e w2 ⟨g, rfl, hR, hg, hb2⟩)
    | (go_at_call 45; refine (all_any' _ g n).mono ?_; rintro e w3 ⟨rfl, hX, hb3⟩))
  go_ret
  have s1 := (below_aft hB1 hb1).size
  have s2 := (below_aft (below_aft hB1 hb1) hb2).size
  exact ⟨g, w2.heap.size, rfl, hR.below hb3, hX, by omega, s2, below_aft (below_aft (below_aft hB1 hb1) hb2) hb3⟩
/-- What holds between two rounds of Deep. -/
structure DI (w : World) (a : Option Addr) (n cap g b bd : Nat) (L : List Int) (i : Nat) (W : World) : Prop where
  d : ∃ m : Int, At W bd (One (.int .i64 m) 3) ∧ 0 ≤ m ∧ m ≤ 20001 ∧ (∀ j v, j < i → L[j]? = some v → v + 1 ≤ m) ∧ (m = 0 ∨ ∃ v ∈ L, m = v + 1)
  r : Rw W g 3 (iCells L)
  b : At W b (One (.slice (some ⟨g, 0, none⟩) n n) 35)
  bel : Below w.heap.size w W
theorem di_bears (w : World) (a : Option Addr) (n cap g b bd : Nat) (L : List Int) (B : Nat) (hB : w.heap.size ≤ B) (h1 : g < B) (h2 : b < B) (h3 : bd < B) : Bears B (DI w a n cap g b bd L) := by
  rintro i W W' row ⟨⟨m, k1, k2⟩, k3, k4, k5⟩ hg hrow
  have ne : ∀ b, b < B → some b ≠ row := fun b hb e => by have := hrow b e.symm; omega
  exact ⟨⟨m, k1.grown hg (ne _ h3), k2⟩, k3.grown hg (ne _ h1), k4.grown hg (ne _ h2), k5.grown hg k5.size (fun k e => by have := hrow k e; omega)⟩
theorem none_ownL (B : Nat) : OwnFrom B (fun (_ : Nat) (_ : World) => False) := fun _ _ _ _ h _ _ => h
theorem lvI_small {x : Nx} {c : Fo} {v : Int} (h : v ∈ lvI x c) : 0 ≤ v ∧ v < 1 + c.size := by
  obtain ⟨u, hu, rfl⟩ := List.mem_map.1 h
  have := Fo.lv_bound _ _ u hu
  have h2 := deep_le (.cons x c .nil)
  simp only [Fo.size] at h2
  omega
set_option maxRecDepth 100000 in
set_option maxHeartbeats 8000000 in
theorem deep_any (x : Nx) (c : Fo) (T : List Nd) (hTe : T = (Fo.cons x c .nil).flat 0) (hMay : Mayb okP T) (a : Option Addr) (cap : Nat) (w : World) (hT : TAt w a T) (hS : Sm T) :
    Calls Try.prog 18 #[trV a T.length cap] w fun e w' => e = .returned (.int .i64 ((Fo.cons x c .nil).deep : Int)) ∧ Below w.heap.size w w' := by
  have hTn := hS.n
  have hTl : T.length = 1 + c.size := by rw [hTe, Fo.len_flat]; simp [Fo.size]
  obtain ⟨n, hn⟩ : ∃ n, n = T.length := ⟨_, rfl⟩
  rw [← hn] at hTn hTl ⊢
  have HWK : Hid (∀ W, Below w.heap.size w W → Calls Try.prog 17 #[trV a n cap] W fun e w' => ∃ g b, e = .returned (.func (.func 67) #[] #[.pointer (some ⟨b, 0, none⟩)]) ∧ Rw w' g 3 (iCells (lvI x c)) ∧ At w' b (One (.slice (some ⟨g, 0, none⟩) n n) 35) ∧ W.heap.size ≤ g ∧ W.heap.size ≤ b ∧ Below W.heap.size W w') := fun W hW => walk_yes x c T hTe hMay n hn.symm a cap W (hT.below hW) hS
  have hLl : (lvI x c).length = n := by rw [lvI_len, hTl]
  have hL0 : (lvI x c)[0]? = some 0 := rfl
  have hsm : ∀ v ∈ lvI x c, 0 ≤ v ∧ v ≤ 20000 := fun v hv => by have := lvI_small hv; omega
  have hmx : ∀ m : Int, m ∈ lvI x c → (∀ v ∈ lvI x c, v ≤ m) → m + 1 = ((Fo.cons x c .nil).deep : Int) := fun m h1 h2 => max_deep h1 h2
  obtain ⟨D0, hD0⟩ : ∃ D0 : Int, D0 = ((Fo.cons x c .nil).deep : Int) := ⟨_, rfl⟩
  rw [← hD0] at hmx ⊢
  obtain ⟨L, hL⟩ : ∃ L, L = lvI x c := ⟨_, rfl⟩
  rw [← hL] at HWK hLl hL0 hsm hmx
  have HL : Hid (L.length = n) := hLl
  have HL0 : Hid (L[0]? = some 0) := hL0
  have HSM : Hid (∀ v ∈ L, 0 ≤ v ∧ v ≤ 20000) := hsm
  have HMX : Hid (∀ m : Int, m ∈ L → (∀ v ∈ L, v ≤ m) → m + 1 = D0) := hmx
  clear hL hD0 hLl hL0 hsm hmx hT hS hMay hTe hTl hn
  refine (callsIn_wide (n := 3)).1 ?_
  refine callsIn_of_wp_marks Try.func18 rfl trivial ?_ rfl
  simp only [Try.ntmps18, List.size_toArray, List.length_cons, List.length_nil, Nat.reduceAdd, Nat.reduceSub, Array.replicate_succ, Array.replicate_zero, List.push_toArray, List.append_toArray, List.nil_append, List.cons_append]
  have B0 : Below w.heap.size w ((w.alloc (Tro a n cap)).alloc (One (.int .i64 0) 3)) := belA (belA (Below.refl _ _))
  gi_wp2_with (first
    | (refine ⟨trivial, ?_⟩; gi_at_call 17; refine (callsIn_wide.2 (HWK.out _ B0)).mono ?_; rintro e w2 ⟨g, b, rfl, hR, hX, hg, hb, hb2⟩))
  have a2 : At w2 (w.heap.size + 1) (One (.int .i64 0) 3) := (at_snd w _ (One (.int .i64 0) 3)).below hb2
  have hB2 : Below w.heap.size w w2 := below_aft B0 hb2
  have hs2 : w.heap.size + 1 < w2.heap.size := a2.lt
  have hgl := hR.lt
  have hbl := hX.lt
  have hg2 : w.heap.size + 2 ≤ g := by simpa using hg
  have hb2' : w.heap.size + 2 ≤ b := by simpa using hb
  clear hb2 hg hb B0
  refine range_tellsL (xs := enumI L) rfl (by omega) (gf := 67) (lb := #[.pointer (some ⟨b, 0, none⟩)]) rfl trivial (enters_of Try.func67 (by kernel_rfl) rfl)
    (all1_tells 2 b g n (by omega) L HL.out hTn w2) (Below.refl _ _) rfl
    (DI w a n cap g b (w.heap.size + 1) L) (fun _ _ => False) (di_bears w a n cap g b _ L _ (by omega) hgl hbl hs2) (fun i W h => ⟨h.r, h.b⟩) (none_ownL _)
    ⟨⟨0, a2, by omega, by omega, fun j _ h => absurd h (Nat.not_lt_zero j), .inl rfl⟩, hR, hX, hB2⟩
    (fun p d => { tmps := #[trV a n cap, .pointer (some ⟨w.heap.size, 0, none⟩), .int .i64 0, .pointer (some ⟨w.heap.size + 1, 0, none⟩), undef, .int .i64 d, .agg #[.slice a n cap], .func (.func 67) #[] #[.pointer (some ⟨b, 0, none⟩)], .int .i64 p, .int .i64 d, undef, undef, undef, undef, undef], defers := [] }) ?assign ?body ?done ?stop
  case assign =>
    intro l p c W K hK
    gi_wp2
    exact hK
  case body =>
    rintro l i p v W ⟨⟨m, h1, h2, h3, h4, h5⟩, h6, h7, h8⟩ hxs
    obtain ⟨-, hv⟩ := enumI_get.1 hxs
    obtain ⟨v1, v2⟩ := HSM.out v (List.mem_of_getElem? hv)
    obtain ⟨y0, yf⟩ := h1.one
    have e1 : IntKind.i64.wrap (v + 1) = v + 1 := by rw [IntKind.wrap_i64]; omega
    have HV : Hid (L[i]? = some v) := hv
    have H4 : Hid ((∀ j v, j < i → L[j]? = some v → v + 1 ≤ m) ∧ (m = 0 ∨ ∃ v ∈ L, m = v + 1)) := ⟨h4, h5⟩
    clear hv hxs h4 h5
    gi_wp2
    refine ⟨KeepsOthers.setCell _ _ _, ⟨by simp, fun k e1 e2 => Below.heap_setCell _ _ _ k (by simp; omega)⟩, ⟨⟨_, h1.setOne _, ?_, ?_, fun j u hj hu => ?_, ?_⟩, h6.off (by simp; omega) _, h7.set (by simp; omega) _, h8.setCell (by simp) _⟩⟩
    · omega
    · omega
    · rcases Nat.lt_or_ge j i with h | h
      · have := H4.out.1 j u h hu
        omega
      · obtain rfl : j = i := by omega
        rw [HV.out] at hu
        cases hu
        omega
    · rw [Int.max_def]
      split
      · exact .inr ⟨v, List.mem_of_getElem? HV.out, rfl⟩
      · exact H4.out.2
  case done =>
    rintro D W hD ⟨⟨m, h1, h2, h3, h4, h5⟩, h6, h7, h8⟩ hK
    obtain ⟨y0, yf⟩ := h1.one
    rw [enumI_len] at h4
    have hm : m = D0 := by
      have hall : ∀ v ∈ L, v + 1 ≤ m := fun v hv => by
        obtain ⟨j, hj, rfl⟩ := List.getElem_of_mem hv
        exact h4 j _ hj (List.getElem?_eq_getElem hj)
      have h00 := hall 0 (List.mem_of_getElem? HL0.out)
      rcases h5 with h5 | ⟨v, hv, rfl⟩
      · omega
      · exact HMX.out v hv (fun u hu => by have := hall u hu; omega)
    subst hm
    clear h4 h5
    gi_wp2
    refine ⟨by simp, .inl ⟨_, _, rfl, run_takeDeferred hK, ?_⟩⟩
    have hg := grownBy_putObj' W D (.deferred none)
    refine ⟨.int .i64 m, ?_, rfl, h8.grown hg h8.size (fun k e => by cases e; omega)⟩
    simp [results, Try.results18, go_sem]
  case stop => exact fun _ _ _ _ h _ => h.elim
end Go.Proofs.Ytkidcmglidnaoaa
