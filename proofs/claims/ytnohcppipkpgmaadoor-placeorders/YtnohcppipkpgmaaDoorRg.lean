import Derived.Test.YtnohcppipkpgmaaDoorRf
namespace Go.Proofs.YtnohcppipkpgmaaDoor
open Go.RowKit Go.Shelf
set_option linter.unusedVariables false
set_option linter.unusedSimpArgs false

theorem rdP_lc (S : List UInt8) : rdP S = (lcR S).bind fun x => (stsR 8 x.2).map fun p => (x.1, p) := by
  unfold rdP lcR
  by_cases h : S.head? = some 95
  · rw [if_pos h, if_pos h]
  · rw [if_neg h, if_neg h]; rfl
theorem lcR_text {S : List UInt8} {l : Int} {T : List UInt8} (h : lcR S = some (l, T)) : 0 ≤ l ∧ l ≤ 9223372036854775807 ∧ T.length ≤ S.length := by
  unfold lcR at h
  split at h
  · obtain ⟨g1, g2, -, g4⟩ := dgs_text h
    have := congrArg List.length g4
    rw [List.length_append, List.length_tail] at this
    exact ⟨g1, g2, by omega⟩
  · cases h
/-- Where the reading stands: the text that is left, or that it is stuck. -/
def RdI (R : Option (Int × List Int)) (l : Int) (q : List Int) (rest : ByteArray) (ok : Bool) : Prop := ok = true ∧ (∃ T, rest = str T ∧ RdR R l q T) ∨ ok = false ∧ R = none ∧ q.length ≤ 8
theorem lcI {R : Option (Int × List Int)} {S : List UInt8} (hS : S.length ≤ 100000) (hR : R = rdP S) {e : Ending} (h : LocPost (lcR S) e) : ∃ l r ok, e = .returned (.tuple #[plV l none 0 0, .string r, .bool ok]) ∧ RdI R l [] r ok := by
  rw [rdP_lc] at hR
  cases hl : lcR S with
  | some x =>
    rw [hl] at h hR
    obtain ⟨l, T⟩ := x
    obtain ⟨g1, g2, g3⟩ := lcR_text hl
    refine ⟨l, str T, true, h, .inl ⟨rfl, T, rfl, by simp, by omega, ?_, fun s hs => by simp at hs, g1, g2⟩⟩
    rw [hR]
    show Option.map _ _ = Option.map _ _
    simp
  | none =>
    rw [hl] at h hR
    obtain ⟨n, r, he⟩ := h
    exact ⟨n, r, false, he, .inr ⟨rfl, hR, by simp⟩⟩
theorem stI {R : Option (Int × List Int)} {l : Int} {q : List Int} {T : List UInt8} (h : RdR R l q T) (hq : q.length < 8) (hT : ¬ T = []) {e : Ending} (he : NumPost (stR T) e) : ∃ s r ok, e = .returned (.tuple #[.int .i64 s, .string r, .bool ok]) ∧ RdI R l (q ++ [s]) r ok := by
  cases hs : stR T with
  | some x =>
    rw [hs] at he
    obtain ⟨s, r⟩ := x
    exact ⟨s, str r, true, he, .inl ⟨rfl, r, rfl, h.step hq hT hs⟩⟩
  | none =>
    rw [hs] at he
    obtain ⟨n, r, he⟩ := he
    exact ⟨n, r, false, he, .inr ⟨rfl, h.stuck hq hT hs, by simp; omega⟩⟩
theorem RdS.init {w V : World} {l : Int} (hB : Below w.heap.size w V) (hr : At V w.heap.size (plO 0 none 0 0)) : RdS w (S2 (V.alloc (plO 0 none 0 0)) V.heap.size ⟨l, none, 0, 0⟩) V.heap.size l [] none 0 where
  row := World.ownsRow_nil _ _ _ _
  var := (At.new V (plO 0 none 0 0)).set2 (x := ⟨0, none, 0, 0⟩) ⟨l, none, 0, 0⟩
  res := (hr.alloc _).S2 (by have := hr.lt; omega) _
  bel := below_s2 (belA hB) hB.size _
  lo := hr.lt
theorem own_grow {W W' : World} {B e s n : Nat} {v : Value} {xs : List Value} {r : Option Nat} (h : W.ownsRow B e s v n xs) (k : W.grownBy W' r) (hn : ∀ g, v.ownBlock = some g → some g ≠ r) : W'.ownsRow B e s v n xs := by
  refine ⟨h.1, ?_⟩
  rcases h.2 with h0 | ⟨g, cap, cur, e0, h1, hg, h2⟩
  · exact .inl h0
  · subst e0
    exact .inr ⟨g, cap, cur, rfl, h1, (k.block g (lt_of_block hg) (hn g rfl)).trans hg, h2⟩
theorem RdS.fin {w V : World} {b1 : Nat} {l : Int} {q : List Int} {a : Option Addr} {cap : Nat} (h : RdS w V b1 l q a cap) (hr : ∀ s ∈ q, -1 ≤ s ∧ s ≤ 9223372036854775807) (hl : 0 ≤ l ∧ l ≤ 9223372036854775807) (y : Pt) : PAt (S2 V w.heap.size y) ⟨l, a, q.length, cap⟩ q := by
  have e := row_ne h.row (x := ⟨0, none, 0, 0⟩) h.res
  have h2 := own_grow h.row (but_s2 V w.heap.size y) (fun g hg e2 => e (by rw [hg, e2]))
  exact ⟨row_int (n := 0) h2 (fun x hx => by have := hr x hx; omega), by show (-9223372036854775808 : Int) ≤ l; omega, hl.2⟩
theorem RdS.low {w V : World} {b1 : Nat} {l : Int} {q : List Int} {a : Option Addr} {cap : Nat} (h : RdS w V b1 l q a cap) : ∀ ad, a = some ad → w.heap.size ≤ ad.block := fun ad e => by
  rcases h.row.2 with ⟨e0, -⟩ | ⟨g, cap', cur, e0, h1, -⟩
  · injection e0 with e1
    rw [e1] at e
    cases e
  · injection e0 with e1
    rw [e1] at e
    cases e
    exact h1
theorem RdS.drewN {w V : World} {b1 : Nat} {l : Int} {q : List Int} {a : Option Addr} {cap : Nat} (h : RdS w V b1 l q a cap) (d : Nat) : RdS w (V.drewN d) b1 l q a cap := ⟨h.row, h.var, h.res, belN h.bel d, h.lo⟩
/-- How long a place's path is. -/
def qlen (b : Nat) (V : World) : Nat := match V.cell? ⟨b, 1, none⟩ with | some (.slice _ n _) => n | _ => 0
theorem RdS.qlen {w V : World} {b1 : Nat} {l : Int} {q : List Int} {a : Option Addr} {cap : Nat} (h : RdS w V b1 l q a cap) : qlen b1 V = q.length := by
  unfold Go.Proofs.YtnohcppipkpgmaaDoor.qlen
  rw [h.var.pl.2]
set_option maxRecDepth 100000 in
set_option maxHeartbeats 4000000 in
/-- Read. -/
theorem Read_any (S : List UInt8) (hS : S.length ≤ 100000) (w : World) (R : Option (Int × List Int)) (hR : R = rdP S) :
    Calls Tryd.prog 33 #[.string (str S)] w fun e w' => ReadPost R w w' e ∧ Below w.heap.size w w' := by
  have C1 : Hid (Calls Tryd.prog 53 #[.string (str S)] (w.alloc (plO 0 none 0 0)) fun e w' => (∃ l r ok, e = .returned (.tuple #[plV l none 0 0, .string r, .bool ok]) ∧ RdI R l [] r ok) ∧ Below (w.alloc (plO 0 none 0 0)).heap.size (w.alloc (plO 0 none 0 0)) w') :=
    (local_any S hS (w.alloc (plO 0 none 0 0)) _ rfl).mono fun e w' k => ⟨lcI hS hR k.1, k.2⟩
  have HA0 := hidD (At.new w (plO 0 none 0 0))
  obtain ⟨i62, hi62, hz62, hs62, hb62⟩ := info_parts Tryd.info62
  have HS := hidD hS
  clear hR hS
  go_enter Tryd.func33, Tryd.ntmps33
  go_wp2_with (first
    | (go_at_call 53; refine C1.out.mono ?_; rintro e w1 ⟨⟨l, r, ok, rfl, hI⟩, hb1⟩; have HI := hidD hI; have HB1 := hidD (below1 hb1); have HA1 := hidD (HA0.out.below hb1); clear hI hb1)
    | (refine wpl_storeP w1.heap.size ⟨0, none, 0, 0⟩ ⟨l, none, 0, 0⟩ (At.new w1 (plO 0 none 0 0)) rfl rfl ?_; intro w2 hw2; have HS2 : Hid (RdS w w2 w1.heap.size l [] none 0) := (by rw [hw2]; exact RdS.init HB1.out HA1.out); clear hw2))
  obtain ⟨b1, hb1⟩ : ∃ b1, b1 = w1.heap.size := ⟨_, rfl⟩
  rw [← hb1] at HS2 ⊢
  clear hb1 HB1 HA1 HA0 C1
  go_loopw [5, 6] (fun x y V => ∃ (q : List Int) (r : ByteArray) (ok : Bool) (a : Option Addr) (cap : Nat), x = .string r ∧ y = .bool ok ∧ RdI R l q r ok ∧ RdS w V b1 l q a cap) (fun _ _ V => 9 - qlen b1 V)
  case atStart => exact ⟨[], r, ok, none, 0, rfl, rfl, HI.out, HS2.out⟩
  case round =>
    clear HI HS2
    obtain ⟨q, rr, okk, a, cap, rfl, rfl, hI, hS⟩ := hrel
    have HR := hidD hS
    clear hS
    obtain ⟨c0, c1⟩ := HR.out.var.pl
    obtain ⟨d0, d1⟩ := HR.out.res.pl
    have f0 := HR.out.res.plF (x := ⟨0, none, 0, 0⟩) 0
    have f1 := HR.out.res.plF (x := ⟨0, none, 0, 0⟩) 1
    have f2 := HR.out.var.plF (x := ⟨l, a, q.length, cap⟩) 1
    have hlo := HR.out.lo
    have nb : ¬ b1 = w.heap.size := by omega
    have FAIL : Hid (R = none → ∀ W', ReadPost R w W' (.returned (.tuple #[plV 0 none 0 0, .int .i64 90]))) := fun hn W' => ⟨⟨0, none, 0, 0⟩, [], 90, rfl, ⟨⟨rfl, Nat.le_refl _, by simp, fun h => absurd rfl h, fun x hx => by simp at hx, fun _ => rfl⟩, by show (-9223372036854775808 : Int) ≤ 0; omega, by show (0 : Int) ≤ 9223372036854775807; omega⟩, .inr ⟨hn, rfl, rfl, rfl⟩, fun ad h => by cases h⟩
    rcases hI with ⟨rfl, T, rfl, hRR⟩ | ⟨rfl, hn, hq8⟩
    · have HRR := hidD hRR
      have t1 : (str T).toList = T := str_toList T
      clear hRR
      by_cases hT : T = []
      · subst hT
        have HD := hidD HRR.out.done
        clear FAIL
        go_wp2_with fail
        refine bodyPost_ret (results_p2 (g := ⟨l, a, q.length, cap⟩) Tryd.results33 rfl rfl (HR.out.res.set2 (x := ⟨0, none, 0, 0⟩) ⟨l, a, q.length, cap⟩)) rfl ⟨⟨_, q, 0, rfl, HR.out.fin HRR.out.2.2.2.1 HRR.out.2.2.2.2 ⟨l, a, q.length, cap⟩, .inl ⟨HD.out, rfl⟩, HR.out.low⟩, below_s2 HR.out.bel (Nat.le_refl _) ⟨l, a, q.length, cap⟩⟩
      · have hE : T.isEmpty = false := by
          cases T with
          | nil => exact absurd rfl hT
          | cons c T => rfl
        by_cases hq : q.length < 8
        · have C2 : Hid (∀ W, Calls Tryd.prog 54 #[.string (str T)] W fun e w' => (∃ s r ok, e = .returned (.tuple #[.int .i64 s, .string r, .bool ok]) ∧ RdI R l (q ++ [s]) r ok) ∧ ∃ d, w' = W.drewN d) := fun W =>
            (step_any T HRR.out.2.1 W _ rfl).mono fun e w' k => ⟨stI HRR.out hq hT k.1, k.2⟩
          have q1 : (q.length : Int) < 8 := by omega
          have HQ := hidD hq
          obtain ⟨m, hm⟩ : ∃ m, m = q.length := ⟨_, rfl⟩
          have HM := hidD hm
          rw [← hm] at c1 q1
          have hrow := HR.out.row
          rw [← hm] at hrow
          have HO := hidD hrow
          clear FAIL hq hm hrow
          go_wp2_with (first
            | (go_at_call 54; refine (C2.out _).mono ?_; rintro e w' ⟨⟨s, r2, ok2, rfl, hI2⟩, d, hw⟩; subst hw; have HI2 := hidD hI2; clear hI2)
            | (at_builtin; (refine wpList_append_own _ rfl (.tmp 32) (.tmp 34) 24 rfl w.heap.size 62 i62 (.int .i64 0) 1 8 Tryd.underlying24 hi62 hz62 hs62 hb62 rfl (by omega) (.slice a m cap) m (q.map (.int .i64)) rfl (HO.out.alloc _) ⟨wr.heap.size, 0, none⟩ 1 1 [.int .i64 s] rfl rfl (new1 _ _ _) (by intro u hu; simp at hu; subst hu; rfl) (by unfold maxLen; omega) (by omega) (by have := HR.out.bel.size; simp; omega) ?_); intro v3 w3 ho3 hg3 hn3; obtain ⟨a3, cap3, rfl⟩ := own_sl ho3; rw [HM.out] at ho3 hg3; have HN3 := hidD ((HR.out.drewN d).next ho3 hg3); have HV3 := hidD (((HR.out.drewN d).var.alloc _).grown hg3 (row_ne HR.out.row (x := ⟨l, a, q.length, cap⟩) HR.out.var)); clear ho3 hg3 hn3; obtain ⟨e0, e1⟩ := HV3.out.pl; have f3 := HV3.out.plF (x := ⟨l, a, q.length, cap⟩) 1))
          have eM := HM.out
          subst eM
          refine ⟨⟨q ++ [s], r2, ok2, a3, cap3, rfl, rfl, HI2.out, HN3.out⟩, ?_⟩
          rw [HN3.out.qlen, HR.out.qlen, List.length_append]
          have := HQ.out
          show 9 - (q.length + 1) < 9 - q.length
          omega
        · have hq8 : q.length = 8 := by have := HRR.out.1; omega
          have HP := hidD (FAIL.out (HRR.out.full hq8 hT))
          have q1 : ¬ (q.length : Int) < 8 := by omega
          clear FAIL hq
          go_wp2_with fail
          exact bodyPost_ret (results_p2 (g := ⟨0, none, 0, 0⟩) Tryd.results33 rfl rfl (HR.out.res.set2 (x := ⟨0, none, 0, 0⟩) ⟨0, none, 0, 0⟩)) rfl ⟨HP.out _, below_s2 HR.out.bel (Nat.le_refl _) ⟨0, none, 0, 0⟩⟩
    · have HP := hidD (FAIL.out hn)
      clear FAIL
      go_wp2_with fail
      exact bodyPost_ret (results_p2 (g := ⟨0, none, 0, 0⟩) Tryd.results33 rfl rfl (HR.out.res.set2 (x := ⟨0, none, 0, 0⟩) ⟨0, none, 0, 0⟩)) rfl ⟨HP.out _, below_s2 HR.out.bel (Nat.le_refl _) ⟨0, none, 0, 0⟩⟩
end Go.Proofs.YtnohcppipkpgmaaDoor
