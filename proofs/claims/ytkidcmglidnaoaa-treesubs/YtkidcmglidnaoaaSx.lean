import Derived.Test.YtkidcmglidnaoaaSw
namespace Go.Proofs.Ytkidcmglidnaoaa
open Go.RowKit Go.Shelf
set_option linter.unusedVariables false
set_option linter.unusedSimpArgs false
theorem sm_part {x : Nx} {c : Fo} {T : List Nd} (hTe : T = (Fo.cons x c .nil).flat 0) (hS : Sm T) {n : Nat} {y : Nx} {e0 : Fo} {dd : Nat} (hP : Part x c T n y e0 dd) : Sm ((Fo.cons y e0 .nil).flat 0) := by
  have hlen := hP.len
  have hn := hS.n
  refine ⟨by rw [Fo.len_flat]; simp [Fo.size]; omega, fun d hd => ?_⟩
  rw [← seg_front (x := y) (c := e0) hP.seg, List.mem_map] at hd
  obtain ⟨d', hd', rfl⟩ := hd
  have hm : d' ∈ T := List.mem_of_mem_drop (List.mem_of_mem_take hd')
  have s := hS.d d' hm
  refine ⟨s.k, s.p0, s.p1, s.n0, s.n1, s.s, by show (d'.l.map _).length ≤ _; rw [List.length_map]; exact s.l, fun q hq => ?_⟩
  obtain ⟨q', hq', rfl⟩ := List.mem_map.1 hq
  have h1 := (flat_kids _ 0 d' (by rw [← hTe]; exact hm)).1 q' hq'
  have h2 : T.length = (Fo.cons x c .nil).size := by rw [hTe, Fo.len_flat]
  omega
theorem subs_yes (T O : List Nd) (n : Nat) (hM : Mayb okP T) (hn : n < T.length) (a ao : Option Addr) (cap capo : Nat) (w : World) (hT : TAt w a T) (hO : TAt w ao O) (hL : Lg T) (hLo : Lg O) (hF : Fit T) (hFo : Fit O) :
    Calls Try.prog 5 #[trV a T.length cap, trV ao O.length capo, .int .i64 n] w fun e w' => e = .returned (.bool true) ∧ Below w.heap.size w w' := by
  have hM' := hM
  obtain ⟨x, c, k1, k2, k3, k4⟩ := hM'
  obtain ⟨y, e0, dd, hP⟩ := part_of k1 k2 hn
  have sT := hL.sm hF.1 hF.l
  have sP := sm_part k1 sT hP
  have hl : ((Fo.cons y e0 .nil).flat 0).length = 1 + e0.size := by rw [Fo.len_flat]; simp [Fo.size]
  refine subs_main T O (n : Int) 0 T.length O.length rfl rfl a ao cap capo w hT hO hL hLo hF hFo
    (fun lo hi W v m c => ∃ g cur, v = some ⟨g, 0, none⟩ ∧ m = ((Fo.cons y e0 .nil).flat 0).length ∧ OC W lo hi g m ((Fo.cons y e0 .nil).flat 0) m cur)
    (fun lo W v m c => m = ((Fo.cons y e0 .nil).flat 0).length ∧ ∃ ys, OG lo W (.slice v m c) ((Fo.cons y e0 .nil).flat 0) ys) ?_ ?_ ?_ ?_ ?_
  · rintro lo hi W W' v m c ⟨g, cur, rfl, rfl, h⟩ hk
    exact ⟨g, cur, rfl, rfl, h.keep hk⟩
  · rintro lo W W' v m c ⟨rfl, ys, h⟩ hb
    exact ⟨rfl, ys, h.below hb⟩
  · intro W b cp hb hcp
    refine (sub_yes x c T k1 hM k2 n y e0 dd hP b cp W hb sT hcp).mono ?_
    rintro e w' ⟨g, cur, rfl, h, hb⟩
    exact ⟨_, _, _, rfl, ⟨g, cur, rfl, hl.symm, h⟩, hb⟩
  · intro W hW
    refine (rsub_yes x c T k1 hM n y e0 dd hP a cap W hW sT).mono ?_
    rintro e w' ⟨v, ys, rfl, h, hb⟩
    obtain ⟨b, cp, rfl, _⟩ := h.form
    exact ⟨_, _, _, rfl, ⟨rfl, ys, h⟩, hb⟩
  · rintro W lo hi lo2 hi2 lo3 v1 m1 c1 v2 m2 c2 v3 m3 c3 ⟨g1, cur1, rfl, rfl, h1⟩ ⟨g2, cur2, rfl, rfl, h2⟩ ⟨rfl, ys, h3⟩ a1 a2 a3 a4
    have q1 := h1.gh
    have q2 := h2.gh
    have q3 := h2.lg
    exact held_yes _ sP lo hi g1 cur1 _ _ c1 c2 c3 W h1 (tapt_oc h2 rfl a1 a4) (tapt_og h3 (by omega)) (by omega)
theorem subs_no (T O : List Nd) (n : Int) (hM : ¬ (Mayb okP T ∧ 0 ≤ n ∧ n < T.length)) (a ao : Option Addr) (cap capo : Nat) (w : World) (hT : TAt w a T) (hO : TAt w ao O) (hL : Lg T) (hLo : Lg O) (hF : Fit T) (hFo : Fit O) :
    Calls Try.prog 5 #[trV a T.length cap, trV ao O.length capo, .int .i64 n] w fun e w' => e = .returned (.bool true) ∧ Below w.heap.size w w' := by
  have sT := hL.sm hF.1 hF.l
  refine subs_main T O n 2 T.length O.length rfl rfl a ao cap capo w hT hO hL hLo hF hFo
    (fun lo hi W v m c => m = 0 ∧ hi ≤ W.heap.size) (fun lo W v m c => m = 0) ?_ ?_ ?_ ?_ ?_
  · rintro lo hi W W' v m c ⟨rfl, h⟩ hk
    exact ⟨rfl, Nat.le_trans h hk.size⟩
  · rintro lo W W' v m c rfl hb
    rfl
  · intro W b cp hb hcp
    refine (sub_no T n b cp W hb sT hM).mono ?_
    rintro e w' ⟨rfl, hb⟩
    exact ⟨_, _, _, rfl, ⟨rfl, Nat.le_refl _⟩, hb⟩
  · intro W hW
    refine (rsub_no T n a cap W hW sT hM).mono ?_
    rintro e w' ⟨rfl, hb⟩
    exact ⟨_, _, _, rfl, rfl, hb⟩
  · rintro W lo hi lo2 hi2 lo3 v1 m1 c1 v2 m2 c2 v3 m3 c3 ⟨rfl, h1⟩ ⟨rfl, h2⟩ rfl a1 a2 a3 a4
    exact held_nil v1 v2 v3 c1 c2 c3 lo hi W h1
set_option maxRecDepth 100000 in
set_option maxHeartbeats 4000000 in
theorem subs_big1 (T : List Nd) (n : Int) (a ao : Option Addr) (cap on capo : Nat) (w : World) (hT : TAt w a T) (hL : Lg T) (hF : ¬ Fit T) :
    Calls Try.prog 5 #[trV a T.length cap, trV ao on capo, .int .i64 n] w fun e w' => e = .returned (.bool true) ∧ Below w.heap.size w w' := by
  obtain ⟨W2, hW2⟩ : ∃ W2, W2 = (w.alloc (Tro a T.length cap)).alloc (Tro ao on capo) := ⟨_, rfl⟩
  have B2 : Below w.heap.size w W2 := by rw [hW2]; exact belA (belA (Below.refl _ _))
  have HW2 : Hid ((w.alloc (.cells #[.slice a T.length cap] 24)).alloc (.cells #[.slice ao on capo] 24) = W2) := hidE hW2.symm
  have HF1 : Hid (Calls Try.prog 9 #[trV a T.length cap] W2 fun e w' => e = .returned (.bool false) ∧ Below W2.heap.size W2 w') := hidE (fits_any T T.length rfl false ⟨fun h => (by cases h), fun h => absurd h hF⟩ a cap W2 (hT.below B2) hL)
  clear hW2 hT hL hF
  go_enter Try.func5, Try.ntmps5
  go_wp2_with (first
    | (go_at_call 9; rw [HW2.out]; refine HF1.out.mono ?_; rintro e w1 ⟨rfl, hb1⟩; have B1 := below_aft B2 hb1)
    | (go_at_call 10; refine (awake_true _).mono ?_; rintro e w3 ⟨rfl, hb3⟩))
  go_ret
  exact ⟨rfl, below_aft B1 hb3⟩
set_option maxRecDepth 100000 in
set_option maxHeartbeats 4000000 in
theorem subs_big2 (T O : List Nd) (n : Int) (a ao : Option Addr) (cap capo : Nat) (w : World) (hT : TAt w a T) (hO : TAt w ao O) (hL : Lg T) (hLo : Lg O) (hF : Fit T) (hFo : ¬ Fit O) :
    Calls Try.prog 5 #[trV a T.length cap, trV ao O.length capo, .int .i64 n] w fun e w' => e = .returned (.bool true) ∧ Below w.heap.size w w' := by
  obtain ⟨W2, hW2⟩ : ∃ W2, W2 = (w.alloc (Tro a T.length cap)).alloc (Tro ao O.length capo) := ⟨_, rfl⟩
  have B2 : Below w.heap.size w W2 := by rw [hW2]; exact belA (belA (Below.refl _ _))
  have A2 : At W2 (w.heap.size + 1) (Tro ao O.length capo) := by rw [hW2]; exact at_snd _ _ _
  have HW2 : Hid ((w.alloc (.cells #[.slice a T.length cap] 24)).alloc (.cells #[.slice ao O.length capo] 24) = W2) := hidE hW2.symm
  have HF1 : Hid (Calls Try.prog 9 #[trV a T.length cap] W2 fun e w' => e = .returned (.bool true) ∧ Below W2.heap.size W2 w') := hidE (fits_any T T.length rfl true ⟨fun _ => hF, fun _ => rfl⟩ a cap W2 (hT.below B2) hL)
  have HF2 : Hid (∀ W, Below w.heap.size w W → Calls Try.prog 9 #[trV ao O.length capo] W fun e w' => e = .returned (.bool false) ∧ Below W.heap.size W w') := hidE fun W hW => fits_any O O.length rfl false ⟨fun h => (by cases h), fun h => absurd h hFo⟩ ao capo W (hO.below hW) hLo
  clear hW2 hT hL hF hO hLo hFo
  have st1 : Stg' 1 := .mk 1
  go_enter Try.func5, Try.ntmps5
  go_wp2_with (first
    | (have _s := st1; clear st1 _s; go_at_call 9; rw [HW2.out]; refine HF1.out.mono ?_; rintro e w1 ⟨rfl, hb1⟩; have B1 := below_aft B2 hb1; obtain ⟨p0, pf⟩ := (A2.below hb1).one; have st2 : Stg' 2 := .mk 2)
    | (have _s := st2; clear st2 _s; go_at_call 9; refine (HF2.out _ B1).mono ?_; rintro e w2 ⟨rfl, hb2⟩)
    | (go_at_call 10; refine (awake_true _).mono ?_; rintro e w3 ⟨rfl, hb3⟩))
  go_ret
  exact ⟨rfl, below_aft (below_aft B1 hb2) hb3⟩
theorem subs_walk (T O : List Nd) (n : Int) (a ao : Option Addr) (cap capo : Nat) (w : World) (hT : TAt w a T) (hO : TAt w ao O) (hL : Lg T) (hLo : Lg O) :
    Calls Try.prog 5 #[trV a T.length cap, trV ao O.length capo, .int .i64 n] w fun e w' => e = .returned (.bool true) ∧ Below w.heap.size w w' := by
  by_cases hF : Fit T
  · by_cases hFo : Fit O
    · by_cases h : Mayb okP T ∧ 0 ≤ n ∧ n < T.length
      · obtain ⟨k, rfl⟩ : ∃ k : Nat, n = (k : Int) := ⟨n.toNat, by omega⟩
        exact subs_yes T O k h.1 (by omega) a ao cap capo w hT hO hL hLo hF hFo
      · exact subs_no T O n h a ao cap capo w hT hO hL hLo hF hFo
    · exact subs_big2 T O n a ao cap capo w hT hO hL hLo hF hFo
  · exact subs_big1 T n a ao cap O.length capo w hT hL hF
end Go.Proofs.Ytkidcmglidnaoaa
