import Derived.Test.YtkidcmglidnaoaaY
namespace Go.Proofs.Ytkidcmglidnaoaa
open Go.RowKit
set_option linter.unusedVariables false
set_option linter.unusedSimpArgs false

theorem below_drewN {B : Nat} {w W : World} (h : Below B w W) (n : Nat) : Below B w (W.drewN n) := h.trans ⟨rfl, rfl, rfl, Nat.le_refl _, fun _ _ => rfl⟩
theorem below_drew {B : Nat} {w W : World} (h : Below B w W) : Below B w W.drew := h.trans ⟨rfl, rfl, rfl, Nat.le_refl _, fun _ _ => rfl⟩
set_option maxRecDepth 100000 in
set_option maxHeartbeats 4000000 in
theorem equal_any (l m : List Int) (a b : Option Addr) (ca cb : Nat) (w : World) (hl : IRow w a l) (hm : IRow w b m) (hn : l.length ≤ 20000) (hn2 : m.length ≤ 20000) :
    Calls Try.prog 68 #[.slice a l.length ca, .slice b m.length cb] w fun e w' => e = .returned (.bool (decide (l = m))) ∧ Below w.heap.size w w' := by
  by_cases hlen : l.length = m.length
  · obtain ⟨r, hr⟩ : ∃ r, r = decide (l = m) := ⟨_, rfl⟩
    rw [← hr, ← hlen]
    have HR : Hid (r = decide (l = m)) := hr
    have HL : Hid (IRow w a l ∧ IRow w b m) := ⟨hl, hm⟩
    have HN : Hid (l.length = m.length) := hlen
    clear hr hl hm hlen
    go_enter Try.func68, Try.ntmps68
    go_wp2
    go_loopw [13] (fun i W => ∃ k : Nat, k ≤ l.length ∧ i = .int .i64 k ∧ (∀ j, j < k → l[j]? = m[j]?) ∧ Below w.heap.size w W) (fun i _ => l.length - (intOf i).toNat)
    case atStart => exact ⟨0, Nat.zero_le _, rfl, fun j h => absurd h (Nat.not_lt_zero j), Below.refl _ _⟩
    case round =>
      obtain ⟨k, hk, rfl, hall, hB⟩ := hrel
      have HALL : Hid (∀ j, j < k → l[j]? = m[j]?) := hall
      clear hall
      by_cases hlt : k < l.length
      · have hlt2 : k < m.length := by rw [← HN.out]; exact hlt
        obtain ⟨g1, o1, rfl, _, hr1⟩ := (HL.out.1.below hB) (by rintro rfl; simp at hlt)
        obtain ⟨g2, o2, rfl, _, hr2⟩ := (HL.out.2.below hB) (by rintro rfl; simp at hlt2)
        obtain ⟨c, hc⟩ : ∃ c, l[k]? = some c := ⟨_, List.getElem?_eq_getElem hlt⟩
        obtain ⟨d, hd⟩ : ∃ d, m[k]? = some d := ⟨_, List.getElem?_eq_getElem hlt2⟩
        have c1 := hr1 k c hc
        have c2 := hr2 k d hd
        have k0 : (0 : Int) ≤ (k : Int) := by omega
        have k1 : (k : Int) < (l.length : Int) := by omega
        have w3 : IntKind.i64.wrap ((k : Int) + 1) = (k : Int) + 1 := by rw [IntKind.wrap_i64]; omega
        have HCD : Hid (l[k]? = some c ∧ m[k]? = some d) := ⟨hc, hd⟩
        clear hr1 hr2 hc hd hlt2
        by_cases hcd : c = d
        · subst hcd
          go_wp2
          go_quiet (fail)
          go_wp2
          refine ⟨⟨k + 1, by omega, by go_num, fun j hj => ?_, below_drewN hB _⟩, by simp [intOf]; omega⟩
          rcases Nat.lt_or_ge j k with h | h
          · exact HALL.out j h
          · obtain rfl : j = k := by omega
            rw [HCD.out.1, HCD.out.2]
        · have hcb : (c == d) = false := by simpa using hcd
          have hno : r = false := by
            rw [HR.out]
            apply decide_eq_false
            intro h
            have h2 := HCD.out
            rw [h] at h2
            rw [h2.1] at h2
            exact hcd (Option.some.inj h2.2)
          subst hno
          go_wp2
          go_quiet (fail)
          go_wp2
          go_ret
          exact ⟨rfl, below_drewN hB _⟩
      · obtain rfl : k = l.length := by omega
        have hyes : r = true := by
          rw [HR.out]
          apply decide_eq_true
          apply List.ext_getElem?
          intro i
          rcases Nat.lt_or_ge i l.length with h | h
          · exact HALL.out i h
          · rw [List.getElem?_eq_none h, List.getElem?_eq_none (by rw [← HN.out]; exact h)]
        subst hyes
        go_wp2
        go_ret
        exact ⟨rfl, hB⟩
  · rw [decide_eq_false (fun h => hlen (by rw [h]))]
    have h1 : ((l.length : Int) == (m.length : Int)) = false := by simpa using (by omega : ¬ (l.length : Int) = (m.length : Int))
    have h2 : (l.length == m.length) = false := by simpa using hlen
    go_enter Try.func68, Try.ntmps68
    go_wp2
    go_ret
    exact ⟨rfl, Below.refl _ _⟩
theorem toList_loop (b : ByteArray) : ∀ (k i : Nat) (r : List UInt8), b.size - i = k → ByteArray.toList.loop b i r = r.reverse ++ b.data.toList.drop i := by
  intro k
  induction k with
  | zero =>
    intro i r h
    rw [ByteArray.toList.loop]
    rw [if_neg (by omega), List.drop_of_length_le (by simp; omega), List.append_nil]
  | succ k ih =>
    intro i r h
    rw [ByteArray.toList.loop]
    rw [if_pos (by omega), ih (i + 1) _ (by omega)]
    have hi : i < b.data.toList.length := by simp; omega
    rw [List.drop_eq_getElem_cons hi]
    simp [ByteArray.get!]
    rw [getElem!_pos]
theorem toList_data (b : ByteArray) : b.toList = b.data.toList := by
  rw [ByteArray.toList, toList_loop b _ 0 [] rfl]; simp
theorem str_toList (s : List UInt8) : (str s).toList = s := by rw [toList_data]; rfl
theorem str_inj {s t : List UInt8} (h : str s = str t) : s = t := by rw [← str_toList s, h, str_toList]
/-- Are two nodes the same, wherever they stand? -/
def alB (c d : Nd) : Bool := (c.x.k == d.x.k) && (c.x.n == d.x.n) && decide (c.x.s = d.x.s) && decide (c.l = d.l)
set_option maxRecDepth 100000 in
set_option maxHeartbeats 4000000 in
theorem alike_any (c d : Nd) (a b : Option Addr) (ca cb : Nat) (w : World) (hl : IRow w a c.l) (hm : IRow w b d.l) (hn : c.l.length ≤ 20000) (hn2 : d.l.length ≤ 20000) :
    Calls Try.prog 52 #[ndV c.x a c.l.length ca, ndV d.x b d.l.length cb] w fun e w' => e = .returned (.bool (alB c d)) ∧ Below w.heap.size w w' := by
  obtain ⟨⟨k1, p1, n1, s1⟩, l⟩ := c
  obtain ⟨⟨k2, p2, n2, s2⟩, m⟩ := d
  have HE : Hid (∀ W, Below w.heap.size w W → Calls Try.prog 68 #[.slice a l.length ca, .slice b m.length cb] W fun e w' => e = .returned (.bool (decide (l = m))) ∧ Below W.heap.size W w') := fun W hW => equal_any l m a b ca cb W (hl.below hW) (hm.below hW) hn hn2
  have B2 : ∀ o o', Below w.heap.size w ((w.alloc o).alloc o') := fun o o' => belA (belA (Below.refl _ _))
  go_enter Try.func52, Try.ntmps52
  by_cases hk : k1 = k2
  · subst hk
    by_cases hnn : n1 = n2
    · subst hnn
      by_cases hss : s1 = s2
      · subst hss
        have hr : alB ⟨⟨k1, p1, n1, s1⟩, l⟩ ⟨⟨k1, p2, n1, s1⟩, m⟩ = decide (l = m) := by simp [alB]
        rw [hr]
        go_wp2_with (go_at_call 68; refine (HE.out _ (B2 _ _)).mono ?_; rintro e w1 ⟨rfl, hb1⟩)
        go_ret
        exact ⟨rfl, below_aft (B2 _ _) hb1⟩
      · have hr : alB ⟨⟨k1, p1, n1, s1⟩, l⟩ ⟨⟨k1, p2, n1, s2⟩, m⟩ = false := by simp [alB, hss]
        rw [hr]
        have hs2 : (str s1).toList ≠ (str s2).toList := by rw [str_toList, str_toList]; exact hss
        have hs3 : ((str s1).toList == (str s2).toList) = false := by simpa using hs2
        have hs4 : ¬ str s1 = str s2 := fun h => hss (str_inj h)
        go_wp2
        go_ret
        exact ⟨rfl, B2 _ _⟩
    · have hr : alB ⟨⟨k1, p1, n1, s1⟩, l⟩ ⟨⟨k1, p2, n2, s2⟩, m⟩ = false := by simp [alB, hnn]
      rw [hr]
      have h2 : (n1 == n2) = false := by simpa using hnn
      go_wp2
      go_ret
      exact ⟨rfl, B2 _ _⟩
  · have hr : alB ⟨⟨k1, p1, n1, s1⟩, l⟩ ⟨⟨k2, p2, n2, s2⟩, m⟩ = false := by simp [alB, hk]
    rw [hr]
    have h2 : ((k1 : Int) == (k2 : Int)) = false := by simpa using (by omega : ¬ (k1 : Int) = (k2 : Int))
    have h3 : (k1 == k2) = false := by simpa using hk
    go_wp2
    go_ret
    exact ⟨rfl, B2 _ _⟩
/-- Are two rows of nodes the same, wherever they stand? -/
def sameB : List Nd → List Nd → Bool
  | [], [] => true
  | c :: T, d :: U => alB c d && sameB T U
  | _, _ => false
theorem sameB_iff : ∀ (T U : List Nd), sameB T U = true ↔ T.length = U.length ∧ ∀ (i : Nat) (c d : Nd), T[i]? = some c → U[i]? = some d → alB c d = true
  | [], [] => by simp [sameB]
  | [], d :: U => by simp [sameB]
  | c :: T, [] => by simp [sameB]
  | c :: T, d :: U => by
    simp only [sameB, Bool.and_eq_true, sameB_iff T U, List.length_cons]
    constructor
    · rintro ⟨h1, h2, h3⟩
      refine ⟨by omega, fun i x y hx hy => ?_⟩
      cases i with
      | zero => simp at hx hy; rw [← hx, ← hy]; exact h1
      | succ i => exact h3 i x y (by simpa using hx) (by simpa using hy)
    · rintro ⟨h1, h2⟩
      exact ⟨h2 0 c d rfl rfl, by omega, fun i x y hx hy => h2 (i + 1) x y (by simpa using hx) (by simpa using hy)⟩
set_option maxRecDepth 100000 in
set_option maxHeartbeats 4000000 in
theorem equalFunc_any (T U : List Nd) (a b : Option Addr) (ca cb : Nat) (w : World) (hT : TAt w a T) (hU : TAt w b U) (hS : Sm T) (hS2 : Sm U) :
    Calls Try.prog 51 #[.slice a T.length ca, .slice b U.length cb, fnV 52] w fun e w' => e = .returned (.bool (sameB T U)) ∧ Below w.heap.size w w' := by
  have hn := hS.n
  have hn2 := hS2.n
  obtain ⟨r, hr⟩ : ∃ r, r = sameB T U := ⟨_, rfl⟩
  rw [← hr]
  have HR : Hid (r = sameB T U) := hr
  clear hr
  by_cases hlen : T.length = U.length
  · have HL : Hid (TAt w a T ∧ TAt w b U) := ⟨hT, hU⟩
    have HS : Hid (Sm T ∧ Sm U) := ⟨hS, hS2⟩
    have HN : Hid (T.length = U.length) := hlen
    rw [← hlen]
    clear hT hU hlen hS hS2
    go_enter Try.func51, Try.ntmps51
    go_wp2
    go_loopw [17] (fun i W => ∃ k : Nat, k ≤ T.length ∧ i = .int .i64 k ∧ (∀ j c d, j < k → T[j]? = some c → U[j]? = some d → alB c d = true) ∧ Below w.heap.size w W) (fun i _ => T.length - (intOf i).toNat)
    case atStart => exact ⟨0, Nat.zero_le _, rfl, fun j _ _ h => absurd h (Nat.not_lt_zero j), Below.refl _ _⟩
    case round =>
      obtain ⟨k, hk, rfl, hall, hB⟩ := hrel
      have HALL : Hid (∀ j c d, j < k → T[j]? = some c → U[j]? = some d → alB c d = true) := hall
      clear hall
      by_cases hlt : k < T.length
      · have hlt2 : k < U.length := by rw [← HN.out]; exact hlt
        obtain ⟨g1, o1, rfl, hr1⟩ := (HL.out.1.below hB) (by rintro rfl; simp at hlt)
        obtain ⟨g2, o2, rfl, hr2⟩ := (HL.out.2.below hB) (by rintro rfl; simp at hlt2)
        obtain ⟨c, hc⟩ : ∃ c, T[k]? = some c := ⟨_, List.getElem?_eq_getElem hlt⟩
        obtain ⟨d, hd⟩ : ∃ d, U[k]? = some d := ⟨_, List.getElem?_eq_getElem hlt2⟩
        obtain ⟨q0, q1, q2, q3, q4, al, capl, q5, q6⟩ := hr1 k c hc
        obtain ⟨u0, u1, u2, u3, u4, bl, capm, u5, u6⟩ := hr2 k d hd
        have hcl := (HS.out.1.d c (List.mem_of_getElem? hc)).l
        have hdl := (HS.out.2.d d (List.mem_of_getElem? hd)).l
        have k0 : (0 : Int) ≤ (k : Int) := by omega
        have k1 : (k : Int) < (T.length : Int) := by omega
        have w3 : IntKind.i64.wrap ((k : Int) + 1) = (k : Int) + 1 := by rw [IntKind.wrap_i64]; omega
        have HCD : Hid (T[k]? = some c ∧ U[k]? = some d) := ⟨hc, hd⟩
        have HA : Hid (∀ W, Below wr.heap.size wr W → Calls Try.prog 52 #[ndV c.x al c.l.length capl, ndV d.x bl d.l.length capm] W fun e w' => e = .returned (.bool (alB c d)) ∧ Below W.heap.size W w') := fun W hW => alike_any c d al bl capl capm W (q6.below hW) (u6.below hW) hcl hdl
        have B2 : ∀ o o', Below wr.heap.size wr ((wr.alloc o).alloc o') := fun o o' => belA (belA (Below.refl _ _))
        clear hr1 hr2 hc hd hlt2 q6 u6
        cases hv : alB c d with
        | true =>
          rw [hv] at HA
          have HV : Hid (alB c d = true) := hv
          clear hv
          go_wp2_with (go_at_call 52; refine (HA.out _ (B2 _ _)).mono ?_; rintro e w1 ⟨rfl, hb1⟩)
          refine ⟨⟨k + 1, by omega, by go_num, fun j x y hj hx hy => ?_, below_aft (below_aft hB (B2 _ _)) hb1⟩, by simp [intOf]; omega⟩
          rcases Nat.lt_or_ge j k with h | h
          · exact HALL.out j x y h hx hy
          · obtain rfl : j = k := by omega
            rw [HCD.out.1] at hx
            rw [HCD.out.2] at hy
            cases hx; cases hy
            exact HV.out
        | false =>
          rw [hv] at HA
          have hno : r = false := by
            rw [HR.out]
            cases hb : sameB T U with
            | false => rfl
            | true =>
              have := ((sameB_iff T U).1 hb).2 k c d HCD.out.1 HCD.out.2
              rw [hv] at this
              cases this
          subst hno
          clear hv
          go_wp2_with (go_at_call 52; refine (HA.out _ (B2 _ _)).mono ?_; rintro e w1 ⟨rfl, hb1⟩)
          go_ret
          exact ⟨rfl, below_aft (below_aft hB (B2 _ _)) hb1⟩
      · obtain rfl : k = T.length := by omega
        have hyes : r = true := by
          rw [HR.out, sameB_iff]
          exact ⟨HN.out, fun i c d hc hd => HALL.out i c d ((List.getElem?_eq_some_iff.1 hc).1) hc hd⟩
        subst hyes
        go_wp2
        go_ret
        exact ⟨rfl, hB⟩
  · have hno : r = false := by
      rw [HR.out]
      cases hb : sameB T U with
      | false => rfl
      | true => exact absurd ((sameB_iff T U).1 hb).1 hlen
    subst hno
    have h1 : ((T.length : Int) == (U.length : Int)) = false := by simpa using (by omega : ¬ (T.length : Int) = (U.length : Int))
    have h2 : (T.length == U.length) = false := by simpa using hlen
    go_enter Try.func51, Try.ntmps51
    go_wp2
    go_ret
    exact ⟨rfl, Below.refl _ _⟩
theorem may_yes {T : List Nd} {a : Option Addr} {cap : Nat} {w : World} (hT : TAt w a T) (hS : Sm T) (h : Mayb okP T) :
    Calls Try.prog 14 #[trV a T.length cap] w fun e w' => e = .returned (.bool true) ∧ Below w.heap.size w w' :=
  (may_any T a cap w hT hS).mono fun e w' ⟨⟨b, h1, h2⟩, hb⟩ => ⟨by rw [h1, h2.2 h], hb⟩
theorem may_no {T : List Nd} {a : Option Addr} {cap : Nat} {w : World} (hT : TAt w a T) (hS : Sm T) (h : ¬ Mayb okP T) :
    Calls Try.prog 14 #[trV a T.length cap] w fun e w' => e = .returned (.bool false) ∧ Below w.heap.size w w' :=
  (may_any T a cap w hT hS).mono fun e w' ⟨⟨b, h1, h2⟩, hb⟩ => ⟨by
    cases b with
    | true => exact absurd (h2.1 rfl) h
    | false => exact h1, hb⟩
set_option maxRecDepth 100000 in
set_option maxHeartbeats 4000000 in
theorem same_any (T U : List Nd) (a b : Option Addr) (ca cb : Nat) (w : World) (hT : TAt w a T) (hU : TAt w b U) (hS : Sm T) (hS2 : Sm U) :
    Calls Try.prog 28 #[trV a T.length ca, trV b U.length cb] w fun e w' => (∃ r : Bool, e = .returned (.bool r) ∧ (r = true ↔ Mayb okP T ∧ Mayb okP U ∧ sameB T U = true)) ∧ Below w.heap.size w w' := by
  obtain ⟨W2, hW2⟩ : ∃ W2, W2 = (w.alloc (Tro a T.length ca)).alloc (Tro b U.length cb) := ⟨_, rfl⟩
  have B2 : Below w.heap.size w W2 := by rw [hW2]; exact belA (belA (Below.refl _ _))
  have A1 : At W2 w.heap.size (Tro a T.length ca) := by rw [hW2]; exact at_fst _ _ _
  have A2 : At W2 (w.heap.size + 1) (Tro b U.length cb) := by rw [hW2]; exact at_snd _ _ _
  have HW2 : Hid ((w.alloc (.cells #[.slice a T.length ca] 24)).alloc (.cells #[.slice b U.length cb] 24) = W2) := hW2.symm
  clear hW2
  have HE : Hid (∀ W, Below w.heap.size w W → Calls Try.prog 51 #[.slice a T.length ca, .slice b U.length cb, fnV 52] W fun e w' => e = .returned (.bool (sameB T U)) ∧ Below W.heap.size W w') := fun W hW => equalFunc_any T U a b ca cb W (hT.below hW) (hU.below hW) hS hS2
  by_cases m1 : Mayb okP T
  · have HM1 : Hid (∀ W, Below w.heap.size w W → Calls Try.prog 14 #[trV a T.length ca] W fun e w' => e = .returned (.bool true) ∧ Below W.heap.size W w') := fun W hW => may_yes (hT.below hW) hS m1
    by_cases m2 : Mayb okP U
    · have HM2 : Hid (∀ W, Below w.heap.size w W → Calls Try.prog 14 #[trV b U.length cb] W fun e w' => e = .returned (.bool true) ∧ Below W.heap.size W w') := fun W hW => may_yes (hU.below hW) hS2 m2
      have HF : Hid (Mayb okP T ∧ Mayb okP U) := ⟨m1, m2⟩
      clear m1 m2 hT hU
      go_enter Try.func28, Try.ntmps28
      go_wp2_with (first
        | (go_at_call 14; rw [HW2.out]; refine (HM1.out _ B2).mono ?_; rintro e w1 ⟨rfl, hb1⟩; obtain ⟨x0, xf⟩ := (A2.below hb1).one)
        | (go_at_call 14; refine (HM2.out _ (below_aft B2 hb1)).mono ?_; rintro e w2 ⟨rfl, hb2⟩; obtain ⟨y0, yf⟩ := ((A2.below hb1).below hb2).one; obtain ⟨z0, zf⟩ := ((A1.below hb1).below hb2).one)
        | (go_at_call 51; refine (HE.out _ (below_aft (below_aft B2 hb1) hb2)).mono ?_; rintro e w3 ⟨rfl, hb3⟩))
      go_ret
      exact ⟨⟨_, rfl, ⟨fun h => ⟨HF.out.1, HF.out.2, h⟩, fun h => h.2.2⟩⟩, below_aft (below_aft (below_aft B2 hb1) hb2) hb3⟩
    · have HM2 : Hid (∀ W, Below w.heap.size w W → Calls Try.prog 14 #[trV b U.length cb] W fun e w' => e = .returned (.bool false) ∧ Below W.heap.size W w') := fun W hW => may_no (hU.below hW) hS2 m2
      have HF : Hid (¬ Mayb okP U) := m2
      clear m1 m2 hT hU
      go_enter Try.func28, Try.ntmps28
      go_wp2_with (first
        | (go_at_call 14; rw [HW2.out]; refine (HM1.out _ B2).mono ?_; rintro e w1 ⟨rfl, hb1⟩; obtain ⟨x0, xf⟩ := (A2.below hb1).one)
        | (go_at_call 14; refine (HM2.out _ (below_aft B2 hb1)).mono ?_; rintro e w2 ⟨rfl, hb2⟩))
      go_ret
      exact ⟨⟨false, rfl, ⟨fun h => (by cases h), fun h => absurd h.2.1 HF.out⟩⟩, below_aft (below_aft B2 hb1) hb2⟩
  · have HM1 : Hid (∀ W, Below w.heap.size w W → Calls Try.prog 14 #[trV a T.length ca] W fun e w' => e = .returned (.bool false) ∧ Below W.heap.size W w') := fun W hW => may_no (hT.below hW) hS m1
    have HF : Hid (¬ Mayb okP T) := m1
    clear m1 hT hU
    go_enter Try.func28, Try.ntmps28
    go_wp2_with (go_at_call 14; rw [HW2.out]; refine (HM1.out _ B2).mono ?_; rintro e w1 ⟨rfl, hb1⟩)
    go_ret
    exact ⟨⟨false, rfl, ⟨fun h => (by cases h), fun h => absurd h.1 HF.out⟩⟩, below_aft B2 hb1⟩
end Go.Proofs.Ytkidcmglidnaoaa
