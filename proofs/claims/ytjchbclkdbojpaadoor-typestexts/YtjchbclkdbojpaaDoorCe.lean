import Derived.Test.YtjchbclkdbojpaaDoorCd
namespace Go.Proofs.YtjchbclkdbojpaaDoor
open Go.RowKit
set_option linter.unusedVariables false
set_option linter.unusedSimpArgs false

/-- What 'reference' reads. -/
def refR (S : List UInt8) (n p : Nat) : Nat × Option Ch :=
  if (hdP S (n + 1) (p + 1)).2.2.2 then ((rdT S n (hdP S (n + 1) (p + 1)).2.2.1).1, (rdT S n (hdP S (n + 1) (p + 1)).2.2.1).2.map (fun c => .ref (hdP S (n + 1) (p + 1)).1 (hdP S (n + 1) (p + 1)).2.1 c))
  else ((hdP S (n + 1) (p + 1)).2.2.1, none)
theorem refR_yes {S : List UInt8} {n p q : Nat} {m : Bool} {r : Int} (h : hdP S (n + 1) (p + 1) = (m, r, q, true)) : refR S n p = ((rdT S n q).1, (rdT S n q).2.map (fun c => .ref m r c)) := by
  unfold refR
  rw [h]
  rfl
theorem refR_no {S : List UInt8} {n p q : Nat} {m : Bool} {r : Int} (h : hdP S (n + 1) (p + 1) = (m, r, q, false)) : refR S n p = (q, none) := by
  unfold refR
  rw [h]
  rfl
theorem ne_b {x c : Nat} (h : x ≠ c) : ((x : Int) == (c : Int)) = false := by
  have : ¬ (x : Int) = (c : Int) := by omega
  simpa using this
theorem ref_all (S : List UInt8) (n : Nat) (hn : 1 ≤ n) (hn48 : n + 1 ≤ 48) (hK : RKind S n) (hS : S.length ≤ 16384) (b p : Nat) (w : World) (d : Int) (hd : d = n + 1) (h : Rr b S p false w) (hpl : p < S.length) :
    Calls Tryd.prog 97 #[.pointer (some ⟨b, 0, none⟩), .int .i64 d] w fun e w' => ∃ f : Fv, e = .returned f.v ∧ RPost b S w (refR S n p) f w' := by
  have hp : p ≤ S.length := by omega
  have hd2 : 2 ≤ d := by omega
  have hd48 : d ≤ 48 := by omega
  have hdd : d - 1 = n := by omega
  have hx : nx S (p + 1) false = ah S (p + 1) := rfl
  by_cases x39 : ah S (p + 1) = 39
  · rw [x39] at hx
    have hp2 : p + 1 < S.length := ah_lt (by rw [x39]; decide)
    obtain ⟨r, q, hq⟩ : ∃ r q, nm S maxR (p + 1 + 1) = (r, q) := ⟨_, _, rfl⟩
    by_cases hqn : p + 1 + 1 < q
    · obtain ⟨q2, ok2, hq2⟩ : ∃ q2 ok2, tk S [32] q = (q2, ok2) := ⟨_, _, rfl⟩
      have hrg : rgP S (p + 1) = (r, q2, ok2) := by unfold rgP; rw [hq]; simp only; rw [if_pos hqn, hq2]
      cases ok2 with
      | false =>
        rw [refR_no (m := false) (r := r) (q := q2) (by unfold hdP; rw [if_pos x39, hrg]; rfl)]
        exact ref_reg_bl b S p n d w h hp hpl hS hd2 hd48 hdd hp2 hx r q hq hqn q2 hq2
      | true =>
        by_cases y109 : ah S q2 = 109
        · obtain ⟨q3, ok3, hq3⟩ : ∃ q3 ok3, tk S [109, 117, 116, 32] q2 = (q3, ok3) := ⟨_, _, rfl⟩
          have hhd : hdP S (n + 1) (p + 1) = (true, r, q3, ok3) := by unfold hdP; rw [if_pos x39, hrg]; simp only; rw [if_pos trivial, if_pos y109, hq3]
          cases ok3 with
          | false =>
            rw [refR_no hhd]
            exact ref_reg_mut_no b S p n d w h hp hpl hS hd2 hd48 hdd hp2 hx r q hq hqn q2 hq2 y109 q3 hq3
          | true =>
            rw [refR_yes hhd]
            exact ref_reg_mut b S p n d w h hp hpl hS hd2 hd48 hdd hK _ hp2 hx r q hq hqn q2 hq2 y109 q3 hq3 rfl
        · have hhd : hdP S (n + 1) (p + 1) = (false, r, q2, true) := by unfold hdP; rw [if_pos x39, hrg]; simp only; rw [if_pos trivial, if_neg y109]
          rw [refR_yes hhd]
          exact ref_reg b S p n d w h hp hpl hS hd2 hd48 hdd hK _ hp2 hx r q hq hqn q2 hq2 (ah S q2) rfl (ne_b y109) rfl
    · have hrg : rgP S (p + 1) = (r, q, false) := by unfold rgP; rw [hq]; simp only; rw [if_neg hqn]
      rw [refR_no (m := false) (r := r) (q := q) (by unfold hdP; rw [if_pos x39, hrg]; rfl)]
      exact ref_reg_no b S p n d w h hp hpl hS hd2 hd48 hdd hp2 hx r q hq hqn
  · by_cases x109 : ah S (p + 1) = 109
    · rw [x109] at hx
      obtain ⟨q, ok, hq⟩ : ∃ q ok, tk S [109, 117, 116, 32] (p + 1) = (q, ok) := ⟨_, _, rfl⟩
      have hhd : hdP S (n + 1) (p + 1) = (true, -1, q, ok) := by unfold hdP; rw [if_neg x39, if_pos x109, hq]
      cases ok with
      | false =>
        rw [refR_no hhd]
        exact ref_mut_no b S p n d w h hp hpl hS hd2 hd48 hdd hx q hq
      | true =>
        rw [refR_yes hhd]
        exact ref_mut b S p n d w h hp hpl hS hd2 hd48 hdd hK _ hx q hq rfl
    · have hhd : hdP S (n + 1) (p + 1) = (false, -1, (apP S (n + 1) (p + 1)).1, (apP S (n + 1) (p + 1)).2) := by unfold hdP; rw [if_neg x39, if_neg x109]
      by_cases x32 : ah S (p + 1) = 32
      · by_cases n2 : n + 1 = 2
        · have ha : apP S (n + 1) (p + 1) = (p + 1, false) := by unfold apP; rw [if_neg (by simpa using x32), if_pos n2]
          rw [ha] at hhd
          rw [refR_no hhd]
          have n1 : n = 1 := by omega
          subst n1
          have hr : rdT S 1 (p + 1) = (p + 1, none) := by simp [rdT, x32]
          have := ref_blank2 b S p 1 d w h hp hpl hS hd2 hd48 hdd hK _ (by rw [hx, x32]) (by omega) rfl
          rw [hr] at this
          exact this
        · have ha : apP S (n + 1) (p + 1) = (p + 1 + 1, decide (ah S (p + 1 + 1) = 38)) := by unfold apP; rw [if_neg (by simpa using x32), if_neg n2]
          rw [ha] at hhd
          have hp2 : p + 1 < S.length := ah_lt (by rw [x32]; decide)
          by_cases y38 : ah S (p + 1 + 1) = 38
          · rw [show decide (ah S (p + 1 + 1) = 38) = true by simpa using y38] at hhd
            rw [refR_yes hhd]
            exact ref_blank b S p n d w h hp hpl hS hd2 hd48 hdd hK _ hp2 (by rw [hx, x32]) (by omega) y38 rfl
          · rw [show decide (ah S (p + 1 + 1) = 38) = false by simpa using y38] at hhd
            rw [refR_no hhd]
            exact ref_blank_no b S p n d w h hp hpl hS hd2 hd48 hdd hp2 (by rw [hx, x32]) (by omega) (ah S (p + 1 + 1)) rfl (ne_b y38)
      · by_cases x38 : ah S (p + 1) = 38
        · have ha : apP S (n + 1) (p + 1) = (p + 1, false) := by unfold apP; rw [if_pos (by simpa using x32)]; simp [x38]
          rw [ha] at hhd
          rw [refR_no hhd]
          exact ref_amp b S p n d w h hp hpl hS hd2 hd48 hdd (by rw [hx, x38])
        · have ha : apP S (n + 1) (p + 1) = (p + 1, true) := by unfold apP; rw [if_pos (by simpa using x32)]; simp [x38]
          rw [ha] at hhd
          rw [refR_yes hhd]
          exact ref_plain b S p n d w h hp hpl hS hd2 hd48 hdd hK _ (ah S (p + 1)) rfl (ne_b x39) (ne_b x109) (ne_b x38) (ne_b x32) rfl
set_option maxRecDepth 100000 in
set_option maxHeartbeats 2000000 in
theorem kind_ref (b : Nat) (S : List UInt8) (p : Nat) (d : Int) (w : World) (hx : nx S p false = 38) (hd : 2 ≤ d) (h : Rr b S p false w) (hp : p ≤ S.length) (hS : S.length ≤ 16384) (R : Nat × Option Ch)
    (hC : ∀ W, Rr b S p false W → Calls Tryd.prog 97 #[.pointer (some ⟨b, 0, none⟩), .int .i64 d] W fun e w' => ∃ f : Fv, e = .returned f.v ∧ RPost b S W R f w') : Calls Tryd.prog 79 #[.pointer (some ⟨b, 0, none⟩), .int .i64 d] w fun e w' => ∃ f : Fv, e = .returned f.v ∧ RPost b S w R f w' := by
  have CN : Hid (Calls Tryd.prog 94 #[.pointer (some ⟨b, 0, none⟩)] (w.alloc zT.o) fun e w' => e = .returned (.int .u8 ((38 : Nat) : Int)) ∧ Below (w.alloc zT.o).heap.size (w.alloc zT.o) w') := next_v b S p false 38 hx _ (At.alloc h _) hp hS
  have A4 : Hid (At (w.alloc zT.o) w.heap.size zT.o) := At.new _ _
  have HH := hid0 h
  have hbl := h.lt
  have HC := hid0 hC
  have hd' : ¬ d < 2 := by omega
  clear h hx hC hd
  go_enter Tryd.func79, Tryd.ntmps79
  go_wp2_with (first
    | (go_at_call 94; refine CN.out.mono ?_; rintro e w1 ⟨rfl, hb1⟩; have R1 := hid0 ((At.alloc HH.out zT.o).below hb1); have B1 := hid0 (A4.out.below hb1); have hs1 : w.heap.size < w1.heap.size := B1.out.lt)
    | (go_at_call 97; refine (HC.out _ R1.out).mono ?_; rintro e w2 ⟨f2, rfl, hP⟩; have HP := hid0 hP; have B4 := B1.out.but hP.but (by omega); clear hP; have g0 := (B4).tyF 0; have g1 := (B4).tyF 1; have g2 := (B4).tyF 2; have g3 := (B4).tyF 3; have g4 := (B4).tyF 4; obtain ⟨hlq, q0, q1, q2, q3, q4⟩ := (B4).ty; simp only [Nat.zero_add] at q0 q1 q2 q3 q4))
  obtain ⟨F1, F2⟩ := kfin (R := R) f2 B4 (Nat.le_refl _) hbl HP.out.rd ((but1 (But.below hb1)).trans HP.out.but) HP.out.le (fun c hc => (HP.out.own c hc).low (by omega))
  exact bodyPost_ret (results_c1 (g := f2) Tryd.results79 rfl F1) rfl ⟨_, rfl, F2⟩
set_option maxRecDepth 100000 in
set_option maxHeartbeats 4000000 in
theorem box_w (b : Nat) (S : List UInt8) (p n : Nat) (d : Int) (w : World) (hx : nx S p false = 66) (hd : 2 ≤ d) (hd48 : d ≤ 48) (hdd : d - 1 = n) (h : Rr b S p false w) (hp : p ≤ S.length) (hS : S.length ≤ 16384) (q : Nat) (hq : tk S [66, 111, 120, 60] p = (q, false)) : Calls Tryd.prog 79 #[.pointer (some ⟨b, 0, none⟩), .int .i64 d] w fun e w' => ∃ f : Fv, e = .returned f.v ∧ RPost b S w (q, none) f w' := by
  have CN : Hid (Calls Tryd.prog 94 #[.pointer (some ⟨b, 0, none⟩)] (w.alloc zT.o) fun e w' => e = .returned (.int .u8 ((66 : Nat) : Int)) ∧ Below (w.alloc zT.o).heap.size (w.alloc zT.o) w') := next_v b S p false 66 hx _ (At.alloc h _) hp hS
  have A4 : Hid (At (w.alloc zT.o) w.heap.size zT.o) := At.new _ _
  have HH := hid0 h
  have hbl := h.lt
  have CW : Hid (∀ W, Rr b S p false W → Calls Tryd.prog 95 #[.pointer (some ⟨b, 0, none⟩), .string (str [66, 111, 120, 60])] W fun e w' => e = .returned (.tuple #[]) ∧ Rr b S q (!false) w' ∧ But b W w') := fun W hW => word_v b S _ p q false hq W hW hp hS (by simp) (by simp)
  have hql : q ≤ S.length := by
    have := tk_le S [66, 111, 120, 60] p hp (by simp)
    rw [hq] at this
    exact this
  have HDD := hid0 hdd
  have hd' : ¬ d < 2 := by omega
  have st1 : Stg 1 := .mk 1
  clear h hx hdd hq
  go_enter Tryd.func79, Tryd.ntmps79
  go_wp2_with (first
    | (go_at_call 94; refine CN.out.mono ?_; rintro e w1 ⟨rfl, hb1⟩; have R1 := hid0 ((At.alloc HH.out zT.o).below hb1); have B1 := hid0 (A4.out.below hb1); have hs1 : w.heap.size < w1.heap.size := B1.out.lt)
    | (have _s := st1; clear st1 _s; go_at_call 95; refine (CW.out _ R1.out).mono ?_; rintro e w2 ⟨rfl, hr2, hb2⟩; have HR2 := hid0 hr2; have hs2 := hb2.size; have B2 := hid0 (B1.out.but hb2 (by omega)); have st2 : Stg 2 := .mk 2; clear hr2)
    | (go_at_call 79; refine (kind_stuck b S q _ _ HR2.out hql hS).mono ?_; rintro e w3 ⟨f2, rfl, hr3, hb3⟩; have HR3 := hid0 hr3; have HB3 := hid0 hb3; clear hr3 hb3; have B3 := hid0 (B2.out.but HB3.out (by omega)); have G3 := hid0 (((At.new w3 f2.o).alloc (Fv.o ⟨3, false, 0, 0, some ⟨w3.heap.size, 0, none⟩, 1, 1⟩))); have G5 := hid0 (at_snd w3 f2.o (Fv.o ⟨3, false, 0, 0, some ⟨w3.heap.size, 0, none⟩, 1, 1⟩)); have HR5 := hid0 ((At.alloc HR3.out f2.o).alloc (Fv.o ⟨3, false, 0, 0, some ⟨w3.heap.size, 0, none⟩, 1, 1⟩)); have B5 := hid0 ((B3.out.alloc f2.o).alloc (Fv.o ⟨3, false, 0, 0, some ⟨w3.heap.size, 0, none⟩, 1, 1⟩)))
    | (have _s := st2; clear st2 _s; go_at_call 95; refine (word_stuck b S [62] q _ HR5.out (by simp)).mono ?_; rintro e w4 ⟨rfl, hr4, hb4⟩; have HR4 := hid0 hr4; have HB4 := hid0 hb4; have B4 := B5.out.but hb4 (by omega); clear hr4 hb4; have hl3 : w.heap.size < w3.heap.size := B3.out.lt; have D5 := G5.out.but HB4.out (by omega); obtain ⟨hlp, p0, p1, p2, p3, p4⟩ := D5.ty; simp only [Nat.zero_add] at p0 p1 p2 p3 p4; clear D5; have g0 := (B4).tyF 0; have g1 := (B4).tyF 1; have g2 := (B4).tyF 2; have g3 := (B4).tyF 3; have g4 := (B4).tyF 4; obtain ⟨hlq, q0, q1, q2, q3, q4⟩ := (B4).ty; simp only [Nat.zero_add] at q0 q1 q2 q3 q4))
  obtain ⟨F1, F2⟩ := kfin (R := (q, none)) ⟨3, false, 0, 0, some ⟨w3.heap.size, 0, none⟩, 1, 1⟩ B4 (Nat.le_refl _) hbl (HR4.out) ((((but1 (But.below hb1)).trans hb2).trans HB3.out).trans ((((But.refl b w3).alloc _).alloc _).trans HB4.out)) hql (fun c hc => by cases hc)
  exact bodyPost_ret (results_c1 (g := ⟨3, false, 0, 0, some ⟨w3.heap.size, 0, none⟩, 1, 1⟩) Tryd.results79 rfl F1) rfl ⟨_, rfl, F2⟩
set_option maxRecDepth 100000 in
set_option maxHeartbeats 4000000 in
theorem box_in (b : Nat) (S : List UInt8) (p n : Nat) (d : Int) (w : World) (hx : nx S p false = 66) (hd : 2 ≤ d) (hd48 : d ≤ 48) (hdd : d - 1 = n) (h : Rr b S p false w) (hp : p ≤ S.length) (hS : S.length ≤ 16384) (hK : RKind S n) (q : Nat) (hq : tk S [66, 111, 120, 60] p = (q, true)) (R1v : Nat × Option Ch) (hR1 : R1v = rdT S n q) (hN : R1v.2 = none) : Calls Tryd.prog 79 #[.pointer (some ⟨b, 0, none⟩), .int .i64 d] w fun e w' => ∃ f : Fv, e = .returned f.v ∧ RPost b S w (R1v.1, none) f w' := by
  have CN : Hid (Calls Tryd.prog 94 #[.pointer (some ⟨b, 0, none⟩)] (w.alloc zT.o) fun e w' => e = .returned (.int .u8 ((66 : Nat) : Int)) ∧ Below (w.alloc zT.o).heap.size (w.alloc zT.o) w') := next_v b S p false 66 hx _ (At.alloc h _) hp hS
  have A4 : Hid (At (w.alloc zT.o) w.heap.size zT.o) := At.new _ _
  have HH := hid0 h
  have hbl := h.lt
  have HK := hid0 hK
  have HR1 := hid0 hR1
  clear hK hR1
  have HN := hid0 hN
  clear hN
  have CW : Hid (∀ W, Rr b S p false W → Calls Tryd.prog 95 #[.pointer (some ⟨b, 0, none⟩), .string (str [66, 111, 120, 60])] W fun e w' => e = .returned (.tuple #[]) ∧ Rr b S q (!true) w' ∧ But b W w') := fun W hW => word_v b S _ p q true hq W hW hp hS (by simp) (by simp)
  have hql : q ≤ S.length := by
    have := tk_le S [66, 111, 120, 60] p hp (by simp)
    rw [hq] at this
    exact this
  have HDD := hid0 hdd
  have hd' : ¬ d < 2 := by omega
  have st1 : Stg 1 := .mk 1
  clear h hx hdd hq
  go_enter Tryd.func79, Tryd.ntmps79
  go_wp2_with (first
    | (go_at_call 94; refine CN.out.mono ?_; rintro e w1 ⟨rfl, hb1⟩; have R1 := hid0 ((At.alloc HH.out zT.o).below hb1); have B1 := hid0 (A4.out.below hb1); have hs1 : w.heap.size < w1.heap.size := B1.out.lt)
    | (have _s := st1; clear st1 _s; go_at_call 95; refine (CW.out _ R1.out).mono ?_; rintro e w2 ⟨rfl, hr2, hb2⟩; have HR2 := hid0 hr2; have hs2 := hb2.size; have B2 := hid0 (B1.out.but hb2 (by omega)); have st2 : Stg 2 := .mk 2; clear hr2)
    | (go_at_call 79; refine (HK.out b q _ R1v _ HR1.out HDD.out HR2.out hql).mono ?_; rintro e w3 ⟨f2, rfl, hP⟩; have HP := hid0 hP; have HR3 := hid0 hP.rd; have HB3 := hid0 hP.but; clear hP; rw [HN.out] at HR3; have B3 := hid0 (B2.out.but HB3.out (by omega)); have G3 := hid0 (((At.new w3 f2.o).alloc (Fv.o ⟨3, false, 0, 0, some ⟨w3.heap.size, 0, none⟩, 1, 1⟩))); have G5 := hid0 (at_snd w3 f2.o (Fv.o ⟨3, false, 0, 0, some ⟨w3.heap.size, 0, none⟩, 1, 1⟩)); have HR5 := hid0 ((At.alloc HR3.out f2.o).alloc (Fv.o ⟨3, false, 0, 0, some ⟨w3.heap.size, 0, none⟩, 1, 1⟩)); have B5 := hid0 ((B3.out.alloc f2.o).alloc (Fv.o ⟨3, false, 0, 0, some ⟨w3.heap.size, 0, none⟩, 1, 1⟩)))
    | (have _s := st2; clear st2 _s; go_at_call 95; refine (word_stuck b S [62] R1v.1 _ HR5.out (by simp)).mono ?_; rintro e w4 ⟨rfl, hr4, hb4⟩; have HR4 := hid0 hr4; have HB4 := hid0 hb4; have B4 := B5.out.but hb4 (by omega); clear hr4 hb4; have hl3 : w.heap.size < w3.heap.size := B3.out.lt; have D5 := G5.out.but HB4.out (by omega); obtain ⟨hlp, p0, p1, p2, p3, p4⟩ := D5.ty; simp only [Nat.zero_add] at p0 p1 p2 p3 p4; clear D5; have g0 := (B4).tyF 0; have g1 := (B4).tyF 1; have g2 := (B4).tyF 2; have g3 := (B4).tyF 3; have g4 := (B4).tyF 4; obtain ⟨hlq, q0, q1, q2, q3, q4⟩ := (B4).ty; simp only [Nat.zero_add] at q0 q1 q2 q3 q4))
  obtain ⟨F1, F2⟩ := kfin (R := (R1v.1, none)) ⟨3, false, 0, 0, some ⟨w3.heap.size, 0, none⟩, 1, 1⟩ B4 (Nat.le_refl _) hbl (HR4.out) ((((but1 (But.below hb1)).trans hb2).trans HB3.out).trans ((((But.refl b w3).alloc _).alloc _).trans HB4.out)) HP.out.le (fun c hc => by cases hc)
  exact bodyPost_ret (results_c1 (g := ⟨3, false, 0, 0, some ⟨w3.heap.size, 0, none⟩, 1, 1⟩) Tryd.results79 rfl F1) rfl ⟨_, rfl, F2⟩
set_option maxRecDepth 100000 in
set_option maxHeartbeats 4000000 in
theorem box_all (b : Nat) (S : List UInt8) (p n : Nat) (d : Int) (w : World) (hx : nx S p false = 66) (hd : 2 ≤ d) (hd48 : d ≤ 48) (hdd : d - 1 = n) (h : Rr b S p false w) (hp : p ≤ S.length) (hS : S.length ≤ 16384) (hK : RKind S n) (q : Nat) (hq : tk S [66, 111, 120, 60] p = (q, true)) (R1v : Nat × Option Ch) (hR1 : R1v = rdT S n q) (c : Ch) (hN : R1v.2 = some c) (e2 : Nat) (ok2 : Bool) (hq2 : tk S [62] R1v.1 = (e2, ok2)) (R : Nat × Option Ch) (hR : R = (e2, if ok2 then some (.box c) else none)) : Calls Tryd.prog 79 #[.pointer (some ⟨b, 0, none⟩), .int .i64 d] w fun e w' => ∃ f : Fv, e = .returned f.v ∧ RPost b S w R f w' := by
  have CN : Hid (Calls Tryd.prog 94 #[.pointer (some ⟨b, 0, none⟩)] (w.alloc zT.o) fun e w' => e = .returned (.int .u8 ((66 : Nat) : Int)) ∧ Below (w.alloc zT.o).heap.size (w.alloc zT.o) w') := next_v b S p false 66 hx _ (At.alloc h _) hp hS
  have A4 : Hid (At (w.alloc zT.o) w.heap.size zT.o) := At.new _ _
  have HH := hid0 h
  have hbl := h.lt
  have HRR := hid0 hR
  clear hR
  have HK := hid0 hK
  have HR1 := hid0 hR1
  clear hK hR1
  have HN := hid0 hN
  have HQ2 := hid0 hq2
  clear hN hq2
  have CW : Hid (∀ W, Rr b S p false W → Calls Tryd.prog 95 #[.pointer (some ⟨b, 0, none⟩), .string (str [66, 111, 120, 60])] W fun e w' => e = .returned (.tuple #[]) ∧ Rr b S q (!true) w' ∧ But b W w') := fun W hW => word_v b S _ p q true hq W hW hp hS (by simp) (by simp)
  have hql : q ≤ S.length := by
    have := tk_le S [66, 111, 120, 60] p hp (by simp)
    rw [hq] at this
    exact this
  have HDD := hid0 hdd
  have hd' : ¬ d < 2 := by omega
  have st1 : Stg 1 := .mk 1
  clear h hx hdd hq
  go_enter Tryd.func79, Tryd.ntmps79
  go_wp2_with (first
    | (go_at_call 94; refine CN.out.mono ?_; rintro e w1 ⟨rfl, hb1⟩; have R1 := hid0 ((At.alloc HH.out zT.o).below hb1); have B1 := hid0 (A4.out.below hb1); have hs1 : w.heap.size < w1.heap.size := B1.out.lt)
    | (have _s := st1; clear st1 _s; go_at_call 95; refine (CW.out _ R1.out).mono ?_; rintro e w2 ⟨rfl, hr2, hb2⟩; have HR2 := hid0 hr2; have hs2 := hb2.size; have B2 := hid0 (B1.out.but hb2 (by omega)); have st2 : Stg 2 := .mk 2; clear hr2)
    | (go_at_call 79; refine (HK.out b q _ R1v _ HR1.out HDD.out HR2.out hql).mono ?_; rintro e w3 ⟨f2, rfl, hP⟩; have HP := hid0 hP; have HR3 := hid0 hP.rd; have HB3 := hid0 hP.but; clear hP; rw [HN.out] at HR3; have B3 := hid0 (B2.out.but HB3.out (by omega)); have G3 := hid0 (((At.new w3 f2.o).alloc (Fv.o ⟨3, false, 0, 0, some ⟨w3.heap.size, 0, none⟩, 1, 1⟩))); have G5 := hid0 (at_snd w3 f2.o (Fv.o ⟨3, false, 0, 0, some ⟨w3.heap.size, 0, none⟩, 1, 1⟩)); have HR5 := hid0 ((At.alloc HR3.out f2.o).alloc (Fv.o ⟨3, false, 0, 0, some ⟨w3.heap.size, 0, none⟩, 1, 1⟩)); have B5 := hid0 ((B3.out.alloc f2.o).alloc (Fv.o ⟨3, false, 0, 0, some ⟨w3.heap.size, 0, none⟩, 1, 1⟩)))
    | (have _s := st2; clear st2 _s; go_at_call 95; refine (word_v b S [62] R1v.1 e2 ok2 HQ2.out _ HR5.out HP.out.le hS (by simp) (by simp)).mono ?_; rintro e w4 ⟨rfl, hr4, hb4⟩; have HR4 := hid0 hr4; have HB4 := hid0 hb4; have B4 := B5.out.but hb4 (by omega); clear hr4 hb4; have hl3 : w.heap.size < w3.heap.size := B3.out.lt; have D5 := G5.out.but HB4.out (by omega); obtain ⟨hlp, p0, p1, p2, p3, p4⟩ := D5.ty; simp only [Nat.zero_add] at p0 p1 p2 p3 p4; clear D5; have g0 := (B4).tyF 0; have g1 := (B4).tyF 1; have g2 := (B4).tyF 2; have g3 := (B4).tyF 3; have g4 := (B4).tyF 4; obtain ⟨hlq, q0, q1, q2, q3, q4⟩ := (B4).ty; simp only [Nat.zero_add] at q0 q1 q2 q3 q4))
  rw [HRR.out]
  obtain ⟨F1, F2⟩ := kfin (R := (e2, if ok2 then some (.box c) else none)) ⟨3, false, 0, 0, some ⟨w3.heap.size, 0, none⟩, 1, 1⟩ B4 (Nat.le_refl _) hbl (by cases ok2 <;> exact HR4.out) ((((but1 (But.below hb1)).trans hb2).trans HB3.out).trans ((((But.refl b w3).alloc _).alloc _).trans HB4.out)) (by have := tk_le S [62] R1v.1 HP.out.le (by simp); rw [HQ2.out] at this; exact this) (fun c0 hc => by cases ok2 <;> simp at hc; subst hc; exact .box w3.heap.size f2 c (by omega) (G3.out.but HB4.out (by omega)) ((((HP.out.own c HN.out).keep fun i o hi hA => ((hA.alloc _).alloc _).but HB4.out (by omega))).low (by omega)))
  exact bodyPost_ret (results_c1 (g := ⟨3, false, 0, 0, some ⟨w3.heap.size, 0, none⟩, 1, 1⟩) Tryd.results79 rfl F1) rfl ⟨_, rfl, F2⟩
theorem rkind_all (S : List UInt8) (hS : S.length ≤ 16384) : ∀ n, 1 ≤ n → n ≤ 48 → RKind S n
  | 0, h, _ => by omega
  | n + 1, _, h48 => by
    intro b p w R d hR hd h hp
    have ih : 1 ≤ n → RKind S n := fun h1 => rkind_all S hS n h1 (by omega)
    have hx : nx S p false = ah S p := rfl
    rw [rdT] at hR
    by_cases x105 : ah S p = 105
    · rw [if_pos x105] at hR
      exact kind_i b S p d w 105 x105.symm rfl h hp hS _ _ rfl R hR
    rw [if_neg x105] at hR
    by_cases x98 : ah S p = 98
    · rw [if_pos x98] at hR
      exact kind_b b S p d w 98 x98.symm rfl h hp hS _ _ rfl R hR
    rw [if_neg x98] at hR
    by_cases x35 : ah S p = 35
    · rw [if_pos x35] at hR
      exact kind_n b S p d w 35 x35.symm rfl h hp hS _ _ rfl R hR
    rw [if_neg x35] at hR
    by_cases x66 : ah S p = 66
    · by_cases n1 : 1 ≤ n
      · rw [if_pos ⟨x66, n1⟩] at hR
        obtain ⟨q, ok, hq⟩ : ∃ q ok, tk S [66, 111, 120, 60] p = (q, ok) := ⟨_, _, rfl⟩
        rw [hq] at hR
        cases ok with
        | false =>
          rw [hR]
          exact box_w b S p n d w (by rw [hx, x66]) (by omega) (by omega) (by omega) h hp hS q hq
        | true =>
          simp only [if_true] at hR
          cases hN : (rdT S n q).2 with
          | none =>
            rw [hN] at hR
            rw [hR]
            exact box_in b S p n d w (by rw [hx, x66]) (by omega) (by omega) (by omega) h hp hS (ih n1) q hq _ rfl hN
          | some c =>
            rw [hN] at hR
            exact box_all b S p n d w (by rw [hx, x66]) (by omega) (by omega) (by omega) h hp hS (ih n1) q hq _ rfl c hN _ _ rfl R hR
      · rw [if_neg (fun e => n1 e.2), if_neg (fun e => n1 e.2)] at hR
        rw [hR]
        exact kind_deepB b S p d w 66 x66.symm rfl (by omega) h hp hS
    rw [if_neg (fun e => x66 e.1)] at hR
    by_cases x38 : ah S p = 38
    · by_cases n1 : 1 ≤ n
      · rw [if_pos ⟨x38, n1⟩] at hR
        have hpl : p < S.length := ah_lt (by rw [x38]; decide)
        have hR' : R = refR S n p := hR
        rw [hR']
        exact kind_ref b S p d w (by rw [hx, x38]) (by omega) h hp hS _ (fun W hW => ref_all S n n1 (by omega) (ih n1) hS b p W d (by omega) hW hpl)
      · rw [if_neg (fun e => n1 e.2)] at hR
        rw [hR]
        exact kind_deepR b S p d w 38 x38.symm rfl (by omega) h hp hS
    rw [if_neg (fun e => x38 e.1)] at hR
    rw [hR]
    exact kind_other b S p d w _ rfl x105 x35 x98 x66 x38 h hp hS
end Go.Proofs.YtjchbclkdbojpaaDoor
