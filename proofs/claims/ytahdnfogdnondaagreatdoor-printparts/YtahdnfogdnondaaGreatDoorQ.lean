import Derived.Test.YtahdnfogdnondaaGreatDoorK
import Derived.Test.YtahdnfogdnondaaGreatDoorM
import Derived.Test.YtahdnfogdnondaaGreatDoorN
import Derived.Test.YtahdnfogdnondaaGreatDoorO
namespace Go.Proofs.YtahdnfogdnondaaGreatDoor
open Go.RowKit
set_option linter.unusedVariables false
set_option linter.unusedSimpArgs false

/-- A node of children of these kinds is as its kind asks. -/
def okP (x : Nx) (ks : List Nat) : Bool := decide (0 ≤ x.p) && txB x.k x.s && nuB x.k x.n && cfB x.k x.n ks
theorem ask_no1 {T : List Nd} {d : Nd} (h : (decide (0 ≤ d.x.p) && txB d.x.k d.x.s && nuB d.x.k d.x.n) = false) : askB okP T d = false := by
  unfold askB okP
  cases kq T d.l with
  | none => rfl
  | some ks => simp only [h, Bool.false_and]
theorem ask_no2 {T : List Nd} {d : Nd} (h : kq T d.l = none) : askB okP T d = false := by unfold askB; rw [h]
theorem ask_yes {T : List Nd} {d : Nd} {ks : List Nat} (h : kq T d.l = some ks) (h1 : (decide (0 ≤ d.x.p) && txB d.x.k d.x.s && nuB d.x.k d.x.n) = true) : askB okP T d = cfB d.x.k d.x.n ks := by
  unfold askB okP; rw [h]; simp only [h1, Bool.true_and]
theorem Nd.bound {w : World} {al : Option Addr} {l : List Int} (h : IRow w al l) (o : Obj) : IRow (w.alloc o) al l := h.below (belA (Below.refl _ _))
theorem at_fst (W : World) (o1 o2 : Obj) : At ((W.alloc o1).alloc o2) W.heap.size o1 := (At.new W o1).alloc o2
set_option maxRecDepth 100000 in
set_option maxHeartbeats 4000000 in
theorem asks_any (T : List Nd) (a : Option Addr) (cap : Nat) (d : Nd) (al : Option Addr) (capl : Nat) (w : World) (hT : TAt w a T) (hTn : T.length ≤ 20000) (hl : IRow w al d.l) (hd : SmN d) :
    Calls Tryz.prog 93 #[trV a T.length cap, ndV d.x al d.l.length capl] w fun e w' => e = .returned (.bool (askB okP T d)) ∧ Below w.heap.size w w' := by
  obtain ⟨x, l⟩ := d
  have hs := hd.s
  have hln := hd.l
  replace hl : IRow w al l := hl
  replace hs : x.s.length ≤ maxLen := hs
  replace hln : l.length ≤ 20000 := hln
  clear hd
  obtain ⟨W2, hW2⟩ : ∃ W2, W2 = (w.alloc (Tro a T.length cap)).alloc (Ndo x al l.length capl) := ⟨_, rfl⟩
  have B2 : Below w.heap.size w W2 := by rw [hW2]; exact belA (belA (Below.refl _ _))
  have A1 : At W2 w.heap.size (Tro a T.length cap) := by rw [hW2]; exact at_fst _ _ _
  have A2 : At W2 (w.heap.size + 1) (Ndo x al l.length capl) := by rw [hW2]; exact at_snd _ _ _
  have HW2 : Hid ((w.alloc (.cells #[.slice a T.length cap] 24)).alloc (.cells #[.int .u8 (x.k : Int), .int .i64 x.p, .int .i64 x.n, .string (str x.s), .slice al l.length capl] 44) = W2) := hW2.symm
  clear hW2
  obtain ⟨c1, f1⟩ := A1.one
  obtain ⟨d0, d1, d2, d3, d4, df⟩ := A2.nd
  have HX : Hid (∀ b, askB okP T ⟨x, l⟩ = b → Ending.returned (.bool b) = .returned (.bool (askB okP T ⟨x, l⟩))) := fun b h => by rw [h]
  obtain ⟨r, hr⟩ : ∃ r, r = askB okP T ⟨x, l⟩ := ⟨_, rfl⟩
  rw [← hr]
  have HR : Hid (r = askB okP T ⟨x, l⟩) := hr
  clear hr HX
  by_cases hp : x.p < 0
  · have hpd : decide (x.p < 0) = true := decide_eq_true hp
    have hrr : r = false := by rw [HR.out]; exact ask_no1 (by rw [show decide (0 ≤ (⟨x, l⟩ : Nd).x.p) = false from decide_eq_false (by show ¬ 0 ≤ x.p; omega)]; rfl)
    subst hrr
    go_enter Tryz.func93, Tryz.ntmps93
    (first | go_wp2 | skip)
    try rw [HW2.out]
    go_wp2
    go_ret
    exact ⟨rfl, B2⟩
  · have hpd : decide (x.p < 0) = false := decide_eq_false hp
    have hp0 : decide (0 ≤ x.p) = true := decide_eq_true (by omega)
    have HT1 : Hid (∀ W, Calls Tryz.prog 112 #[ndV x al l.length capl] W fun e w' => e = .returned (.bool (txB x.k x.s)) ∧ Below W.heap.size W w') := fun W => textFits_any x al _ capl W hs
    have HT2 : Hid (∀ W, Calls Tryz.prog 113 #[ndV x al l.length capl] W fun e w' => e = .returned (.bool (nuB x.k x.n)) ∧ Below W.heap.size W w') := fun W => numberFits_any x al _ capl W
    have HT3 : Hid (∀ W, Below w.heap.size w W → _) := fun W hW => kindsOf_any T a cap l al capl W (hT.below hW) hTn (hl.below hW) hln
    have HT4 : Hid (nuB x.k x.n = true → ∀ W (ks : List Nat) (g : Nat), ks.length = l.length → KRow W (some ⟨g, 0, none⟩) ks → Calls Tryz.prog 115 #[ndV x al l.length capl, .slice (some ⟨g, 0, none⟩) l.length l.length] W fun e w' => e = .returned (.bool (cfB x.k x.n ks)) ∧ Below W.heap.size W w') := fun hn W ks g hks hK => by
      have := childrenFit_any x al l.length capl ks (some ⟨g, 0, none⟩) ks.length W hK (by omega) (Nat.le_refl _) (by omega) hn
      rw [hks] at this
      exact this
    have HNO : Hid ((txB x.k x.s && nuB x.k x.n) = false → r = false) := fun h => by rw [HR.out]; exact ask_no1 (by show (decide (0 ≤ x.p) && txB x.k x.s && nuB x.k x.n) = false; rw [hp0, Bool.true_and]; exact h)
    have HNK : Hid (kq T l = none → r = false) := fun h => by rw [HR.out]; exact ask_no2 h
    have HYES : Hid ((txB x.k x.s && nuB x.k x.n) = true → ∀ ks, kq T l = some ks → r = cfB x.k x.n ks) := fun h ks hk => by rw [HR.out]; exact ask_yes hk (by show (decide (0 ≤ x.p) && txB x.k x.s && nuB x.k x.n) = true; rw [hp0, Bool.true_and]; exact h)
    clear hp0 HR hT hl
    cases htx : txB x.k x.s with
    | false =>
      rw [htx] at HT1 HNO
      obtain rfl := HNO.out rfl
      go_enter Tryz.func93, Tryz.ntmps93
      go_wp2_with (go_at_call 112; rw [HW2.out]; refine (HT1.out _).mono ?_; rintro e w1 ⟨rfl, hb1⟩)
      go_ret
      exact ⟨rfl, below_aft B2 hb1⟩
    | true =>
      cases hnu : nuB x.k x.n with
      | false =>
        rw [htx] at HT1
        rw [hnu] at HT2
        rw [htx, hnu] at HNO
        obtain rfl := HNO.out rfl
        go_enter Tryz.func93, Tryz.ntmps93
        go_wp2_with (first
          | (go_at_call 112; rw [HW2.out]; refine (HT1.out _).mono ?_; rintro e w1 ⟨rfl, hb1⟩; obtain ⟨e0, e1, e2, e3, e4, ef⟩ := (A2.below hb1).nd)
          | (go_at_call 113; refine (HT2.out _).mono ?_; rintro e w2 ⟨rfl, hb2⟩))
        go_ret
        exact ⟨rfl, below_aft (below_aft B2 hb1) hb2⟩
      | true =>
        rw [htx] at HT1
        rw [hnu] at HT2
        rw [htx, hnu] at HYES
        have hcf := HT4.out hnu
        have HCF : Hid (∀ W (ks : List Nat) (g : Nat), ks.length = l.length → KRow W (some ⟨g, 0, none⟩) ks → Calls Tryz.prog 115 #[ndV x al l.length capl, .slice (some ⟨g, 0, none⟩) l.length l.length] W fun e w' => e = .returned (.bool (cfB x.k x.n ks)) ∧ Below W.heap.size W w') := hcf
        clear hcf HT4 HNO htx hnu
        cases hkq : kq T l with
        | none =>
          obtain rfl := HNK.out hkq
          have HKQ : Hid (kq T l = none) := hkq
          clear HYES HNK hkq
          go_enter Tryz.func93, Tryz.ntmps93
          go_wp2_with (first
            | (go_at_call 112; rw [HW2.out]; refine (HT1.out _).mono ?_; rintro e w1 ⟨rfl, hb1⟩; obtain ⟨e0, e1, e2, e3, e4, ef⟩ := (A2.below hb1).nd)
            | (go_at_call 113; refine (HT2.out _).mono ?_; rintro e w2 ⟨rfl, hb2⟩; obtain ⟨g0, g1, g2, g3, g4, gf⟩ := ((A2.below hb1).below hb2).nd; obtain ⟨q1, qf⟩ := ((A1.below hb1).below hb2).one)
            | (go_at_call 114; refine (HT3.out _ (below_aft (below_aft B2 hb1) hb2)).mono ?_; rintro e w3 ⟨hb3, (⟨-, rfl⟩ | ⟨ks, g, hk, -⟩)⟩; rotate_left; (exfalso; rw [HKQ.out] at hk; cases hk)))
          go_ret
          exact ⟨rfl, below_aft (below_aft (below_aft B2 hb1) hb2) hb3⟩
        | some ks0 =>
          have hrr := HYES.out rfl ks0 hkq
          have HRR : Hid (r = cfB x.k x.n ks0) := hrr
          have HKQ : Hid (kq T l = some ks0) := hkq
          clear HYES HNK hkq hrr
          go_enter Tryz.func93, Tryz.ntmps93
          go_wp2_with (first
            | (go_at_call 112; rw [HW2.out]; refine (HT1.out _).mono ?_; rintro e w1 ⟨rfl, hb1⟩; obtain ⟨e0, e1, e2, e3, e4, ef⟩ := (A2.below hb1).nd)
            | (go_at_call 113; refine (HT2.out _).mono ?_; rintro e w2 ⟨rfl, hb2⟩; obtain ⟨g0, g1, g2, g3, g4, gf⟩ := ((A2.below hb1).below hb2).nd; obtain ⟨q1, qf⟩ := ((A1.below hb1).below hb2).one)
            | (go_at_call 114; refine (HT3.out _ (below_aft (below_aft B2 hb1) hb2)).mono ?_; rintro e w3 ⟨hb3, (⟨hk, -⟩ | ⟨ks, g, hk, hks, rfl, hKR⟩)⟩; (exfalso; rw [HKQ.out] at hk; cases hk); rw [HKQ.out] at hk; cases hk; obtain ⟨u0, u1, u2, u3, u4, uf⟩ := (((A2.below hb1).below hb2).below hb3).nd)
            | (go_at_call 115; refine (HCF.out _ ks0 g hks hKR).mono ?_; rintro e w4 ⟨rfl, hb4⟩))
          go_ret
          exact ⟨ret_bool HRR.out.symm, below_aft (below_aft (below_aft (below_aft B2 hb1) hb2) hb3) hb4⟩
set_option maxRecDepth 100000 in
set_option maxHeartbeats 4000000 in
theorem firstUnlike_any (T : List Nd) (a : Option Addr) (cap : Nat) (w : World) (hT : TAt w a T) (hS : Sm T) :
    Calls Tryz.prog 70 #[trV a T.length cap] w fun e w' => (∃ n : Nat, e = .returned (.int .i64 n) ∧ n ≤ T.length ∧ (n = T.length ↔ ∀ d ∈ T, askB okP T d = true)) ∧ Below w.heap.size w w' := by
  have hTn := hS.n
  have A1 := At.new w (Tro a T.length cap)
  obtain ⟨c0, f0⟩ := A1.one
  have hB1 : Below w.heap.size w (w.alloc (Tro a T.length cap)) := belA (Below.refl _ _)
  have HT : Hid (TAt w a T) := hT
  have HS : Hid (Sm T) := hS
  clear hT hS
  go_enter Tryz.func70, Tryz.ntmps70
  go_wp2
  go_loopw [8] (fun i W => ∃ k : Nat, k ≤ T.length ∧ i = .int .i64 k ∧ (∀ j d, j < k → T[j]? = some d → askB okP T d = true) ∧ At W w.heap.size (Tro a T.length cap) ∧ Below w.heap.size w W) (fun i _ => T.length - (intOf i).toNat)
  case atStart => exact ⟨0, by omega, rfl, fun j _ h => absurd h (Nat.not_lt_zero j), A1, hB1⟩
  case round =>
    obtain ⟨k, hk, rfl, hall, hA, hB⟩ := hrel
    have HALL : Hid (∀ j d, j < k → T[j]? = some d → askB okP T d = true) := hall
    clear hall c0 f0 A1 hB1
    obtain ⟨c0, f0⟩ := hA.one
    by_cases hlt : k < T.length
    · obtain ⟨d, hd⟩ : ∃ d, T[k]? = some d := ⟨_, List.getElem?_eq_getElem hlt⟩
      have hSd := HS.out.d d (List.mem_of_getElem? hd)
      obtain ⟨g, off, rfl, hn'⟩ := (HT.out.below hB) (by rintro rfl; simp at hlt)
      obtain ⟨n0, n1, n2, n3, n4, al, capl, n5, n6⟩ := hn' k d hd
      have k0 : (0 : Int) ≤ (k : Int) := by omega
      have k1 : (k : Int) < (T.length : Int) := by omega
      have w3 : IntKind.i64.wrap ((k : Int) + 1) = (k : Int) + 1 := by rw [IntKind.wrap_i64]; omega
      obtain ⟨W2, hW2⟩ : ∃ W2, W2 = wr.alloc (Ndo d.x al d.l.length capl) := ⟨_, rfl⟩
      have B2 : Below wr.heap.size wr W2 := by rw [hW2]; exact belA (Below.refl _ _)
      have HW2 : Hid (wr.alloc (.cells #[.int .u8 (d.x.k : Int), .int .i64 d.x.p, .int .i64 d.x.n, .string (str d.x.s), .slice al d.l.length capl] 44) = W2) := hW2.symm
      have A2 : At W2 wr.heap.size (Ndo d.x al d.l.length capl) := by rw [hW2]; exact At.new _ _
      clear hW2
      have HAS : Hid (Calls Tryz.prog 93 #[trV (some ⟨g, off, none⟩) T.length cap, ndV d.x al d.l.length capl] W2 fun e w' => e = .returned (.bool (askB okP T d)) ∧ Below W2.heap.size W2 w') := asks_any T _ cap d al capl W2 (HT.out.below (below_aft hB B2)) hTn (n6.below B2) hSd
      have HD : Hid (T[k]? = some d) := hd
      obtain ⟨q1, qf⟩ := (hA.below B2).one
      obtain ⟨e0, e1, e2, e3, e4, ef⟩ := A2.nd
      have hz := hA.lt
      clear hn' hd hSd n6
      cases hv : askB okP T d with
      | true =>
        rw [hv] at HAS
        have HV : Hid (askB okP T d = true) := hv
        clear hv
        go_wp2_with (go_at_call 93; rw [HW2.out]; refine HAS.out.mono ?_; rintro e w1 ⟨rfl, hb1⟩)
        refine ⟨⟨k + 1, by omega, by go_num, fun j d' hjk hj => ?_, (hA.below B2).below hb1, below_aft (below_aft hB B2) hb1⟩, by simp [intOf]; omega⟩
        rcases Nat.lt_or_ge j k with h | h
        · exact HALL.out j d' h hj
        · obtain rfl : j = k := by omega
          rw [HD.out] at hj
          cases hj
          exact HV.out
      | false =>
        rw [hv] at HAS
        have HV : Hid (askB okP T d = false) := hv
        clear hv
        go_wp2_with (go_at_call 93; rw [HW2.out]; refine HAS.out.mono ?_; rintro e w1 ⟨rfl, hb1⟩)
        go_ret
        refine ⟨⟨k, rfl, by omega, ⟨fun h => by omega, fun h => ?_⟩⟩, below_aft (below_aft hB B2) hb1⟩
        have := h d (List.mem_of_getElem? HD.out)
        rw [HV.out] at this
        cases this
    · obtain rfl : k = T.length := by omega
      go_wp2
      go_ret
      refine ⟨⟨T.length, rfl, Nat.le_refl _, ⟨fun _ d hd => ?_, fun _ => rfl⟩⟩, hB⟩
      obtain ⟨j, hj, rfl⟩ := List.getElem_of_mem hd
      exact HALL.out j _ hj (List.getElem?_eq_getElem hj)
end Go.Proofs.YtahdnfogdnondaaGreatDoor
