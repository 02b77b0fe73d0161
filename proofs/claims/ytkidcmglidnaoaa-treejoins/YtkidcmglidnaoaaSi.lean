import Derived.Test.YtkidcmglidnaoaaSh
namespace Go.Proofs.Ytkidcmglidnaoaa
open Go.RowKit Go.Shelf
set_option linter.unusedVariables false
set_option linter.unusedSimpArgs false
/-- What the reference's walk tells. -/
def wkV : Nat ⊕ Nat → Value
  | .inl p => .tuple #[.int .i64 (-1), .int .i64 (p : Int)]
  | .inr k => .tuple #[.int .i64 (k : Int), .int .i64 0]
theorem wk_stop {T : List Nd} {f n next : Nat} {c : Int} {ls : List Int} (h : ¬ (c = (next : Int) ∧ next < T.length)) : wk T f n (c :: ls) next = .inl n := by
  cases f with
  | zero => simp only [wk]
  | succ f => simp only [wk]; rw [if_neg h]
theorem wk_in {T : List Nd} {f n next : Nat} {ls : List Int} (h : next < T.length) : wk T (f + 1) n ((next : Int) :: ls) next = match wk T f next (kids T next) (next + 1) with | .inl p => .inl p | .inr k => wk T (f + 1) n ls k := by
  simp only [wk]
  rw [if_pos ⟨trivial, h⟩]
  cases wk T f next (kids T next) (next + 1) <;> rfl
theorem wk_nil {T : List Nd} {f n next : Nat} : wk T f n [] next = .inr next := by cases f <;> simp only [wk]
theorem wk_le {T : List Nd} {f n next k : Nat} {ls : List Int} (hle : next ≤ T.length) (h : wk T f n ls next = .inr k) : k ≤ T.length := by
  obtain ⟨g, -, -, h, -⟩ := wk_inr T f n ls next k hle h
  exact h
set_option maxRecDepth 100000 in
set_option maxHeartbeats 4000000 in
theorem rwalk_step (T : List Nd) (a : Option Addr) (cap : Nat) (hS : Sm T) (f : Nat) (IH : Hid (∀ f0, f = f0 + 1 → ∀ (n next : Nat) (w : World), TAt w a T → n < T.length → next ≤ T.length → T.length ≤ next + f0 →
    Calls Try.prog 39 #[trV a T.length cap, .int .i64 (n : Int), .int .i64 (next : Int)] w fun e w' => e = .returned (wkV (wk T f0 n (kids T n) next)) ∧ Below w.heap.size w w')) (n next : Nat) (w : World) (hT : TAt w a T) (hn : n < T.length) (hle : next ≤ T.length) (hf : T.length ≤ next + f) :
    Calls Try.prog 39 #[trV a T.length cap, .int .i64 (n : Int), .int .i64 (next : Int)] w fun e w' => e = .returned (wkV (wk T f n (kids T n) next)) ∧ Below w.heap.size w w' := by
  have hTn := hS.n
  have A1 := At.new w (Tro a T.length cap)
  obtain ⟨c0, f0⟩ := A1.one
  have hB1 : Below w.heap.size w (w.alloc (Tro a T.length cap)) := belA (Below.refl _ _)
  obtain ⟨d, hd⟩ : ∃ d, T[n]? = some d := ⟨_, List.getElem?_eq_getElem hn⟩
  have hdl := (hS.d d (List.mem_of_getElem? hd)).l
  have HT : Hid (TAt w a T) := hidE hT
  have hkd : kids T n = d.l := by unfold kids; rw [hd]; rfl
  rw [hkd]
  obtain ⟨R, hR⟩ : ∃ R, R = wk T f n d.l next := ⟨_, rfl⟩
  rw [← hR]
  have HR0 : Hid (wk T f n (d.l.drop 0) next = R) := hidE (by rw [hR]; rfl)
  have HD : Hid (T[n]? = some d) := hidE hd
  clear hR hd hkd hT hS
  go_enter Try.func39, Try.ntmps39
  go_wp2_with fail
  go_loopw [2, 8] (fun v j W => ∃ m cur : Nat, m ≤ d.l.length ∧ j = .int .i64 (m : Int) ∧ v = .int .i64 (cur : Int) ∧ next ≤ cur ∧ cur ≤ T.length ∧ Hid (wk T f n (d.l.drop m) cur = R) ∧ At W w.heap.size (Tro a T.length cap) ∧ Below w.heap.size w W) (fun _ j _ => d.l.length - (intOf j).toNat)
  case atStart => exact ⟨0, next, Nat.zero_le _, rfl, rfl, Nat.le_refl _, hle, HR0, A1, hB1⟩
  case round =>
    obtain ⟨m, cur, hm, rfl, rfl, hc1, hc2, HW, hA, hB⟩ := hrel
    clear c0 f0 A1 hB1
    obtain ⟨c0, f0⟩ := hA.one
    obtain ⟨g, off, rfl, hn'⟩ := (HT.out.below hB) (by rintro rfl; simp at hn)
    obtain ⟨n0, -, -, -, -, al, capl, n5, n6⟩ := hn' n d HD.out
    have HTW : Hid (TAt wr (some ⟨g, off, none⟩) T) := hidE (HT.out.below hB)
    have i0 : (0 : Int) ≤ (n : Int) := by omega
    have i1 : (n : Int) < (T.length : Int) := by omega
    have m3 : IntKind.i64.wrap ((m : Int) + 1) = (m : Int) + 1 := by rw [IntKind.wrap_i64]; omega
    have u3 : IntKind.i64.wrap ((cur : Int) + 1) = (cur : Int) + 1 := by rw [IntKind.wrap_i64]; omega
    clear hn'
    by_cases hlt : m < d.l.length
    · obtain ⟨gl, ol, rfl, hgl, hlr⟩ := n6 (by intro h; rw [h] at hlt; simp at hlt)
      obtain ⟨c, hc⟩ : ∃ c, d.l[m]? = some c := ⟨_, List.getElem?_eq_getElem hlt⟩
      have cc := hlr m c hc
      have m0 : (0 : Int) ≤ (m : Int) := by omega
      have m1 : (m : Int) < (d.l.length : Int) := by omega
      have HDR : Hid (d.l.drop m = c :: d.l.drop (m + 1)) := hidE (by rw [List.drop_eq_getElem_cons hlt]; congr 1; exact (List.getElem?_eq_some_iff.1 hc).2)
      clear hlr hc n6
      by_cases hs : c = (cur : Int) ∧ cur < T.length
      · obtain ⟨rfl, hcl⟩ := hs
        have g1 : ((cur : Int) != (cur : Int)) = false := by simp
        have hge : ¬ (T.length : Int) ≤ (cur : Int) := by omega
        have hged : decide ((T.length : Int) ≤ (cur : Int)) = false := decide_eq_false hge
        obtain ⟨f0, rfl⟩ : ∃ f0, f = f0 + 1 := ⟨f - 1, by omega⟩
        have HC := hidE (IH.out f0 rfl cur (cur + 1) wr HTW.out hcl hcl (by omega))
        have HWE : Hid ((match wk T f0 cur (kids T cur) (cur + 1) with | .inl p => .inl p | .inr k => wk T (f0 + 1) n (d.l.drop (m + 1)) k) = R) := hidE (by rw [← wk_in hcl, ← HDR.out]; exact HW.out)
        rw [show (((cur + 1 : Nat)) : Int) = (cur : Int) + 1 by omega] at HC
        cases hwk : wk T f0 cur (kids T cur) (cur + 1) with
        | inl p =>
          rw [hwk] at HC HWE
          have HRR : Hid (R = .inl p) := hidE HWE.out.symm
          clear HWE hwk HW HDR
          go_wp2_with (go_at_call 39; refine HC.out.mono ?_; rintro e w1 ⟨rfl, hb1⟩; unfold wkV)
          go_ret2
          exact ⟨by rw [HRR.out]; rfl, below_aft hB hb1⟩
        | inr k =>
          have hkl := wk_le (T := T) (by omega) hwk
          have hk2 : cur + 1 ≤ k := by
            obtain ⟨g', -, hk', -, -⟩ := wk_inr T f0 cur _ (cur + 1) k (by omega) hwk
            omega
          rw [hwk] at HC HWE
          have hk0 : ¬ (k : Int) < 0 := by omega
          have hk0d : decide ((k : Int) < 0) = false := decide_eq_false hk0
          clear hwk HW HDR
          go_wp2_with (go_at_call 39; refine HC.out.mono ?_; rintro e w1 ⟨rfl, hb1⟩; unfold wkV)
          exact ⟨⟨m + 1, k, by omega, by go_num, rfl, by omega, hkl, HWE, hA.below hb1, below_aft hB hb1⟩, by simp [intOf]; omega⟩
      · have HRR : Hid (R = .inl n) := hidE (by rw [← HW.out, HDR.out, wk_stop hs])
        clear HW HDR
        by_cases he : c = (cur : Int)
        · subst he
          have g1 : ((cur : Int) != (cur : Int)) = false := by simp
          have hge : (T.length : Int) ≤ (cur : Int) := by omega
          have hged : decide ((T.length : Int) ≤ (cur : Int)) = true := decide_eq_true hge
          go_wp2_with fail
          go_ret2
          exact ⟨by rw [HRR.out]; rfl, hB⟩
        · have g1 : (c != (cur : Int)) = true := by simpa using he
          go_wp2_with fail
          go_ret2
          exact ⟨by rw [HRR.out]; rfl, hB⟩
    · obtain rfl : m = d.l.length := by omega
      have lt : ¬ (d.l.length : Int) < (d.l.length : Int) := by omega
      have HRR : Hid (R = .inr cur) := hidE (by rw [← HW.out, List.drop_length, wk_nil])
      clear HW
      go_wp2_with fail
      go_ret2
      exact ⟨by rw [HRR.out]; rfl, hB⟩
theorem rwalk_any (T : List Nd) (a : Option Addr) (cap : Nat) (hS : Sm T) : ∀ (f n next : Nat) (w : World), TAt w a T → n < T.length → next ≤ T.length → T.length ≤ next + f →
    Calls Try.prog 39 #[trV a T.length cap, .int .i64 (n : Int), .int .i64 (next : Int)] w fun e w' => e = .returned (wkV (wk T f n (kids T n) next)) ∧ Below w.heap.size w w' := by
  intro f
  induction f with
  | zero => exact rwalk_step T a cap hS 0 (hidE fun f0 h => by omega)
  | succ f ih =>
    refine rwalk_step T a cap hS (f + 1) (hidE fun f0 h => ?_)
    obtain rfl : f = f0 := by omega
    exact ih
end Go.Proofs.Ytkidcmglidnaoaa
