import Derived.Test.YtjchbclkdbojpaaDoorQ
namespace Go.Proofs.YtjchbclkdbojpaaDoor
open Go.RowKit
set_option linter.unusedVariables false
set_option linter.unusedSimpArgs false

/-- The reference's reader. -/
abbrev rrO (S : List UInt8) (p : Nat) (st : Bool) : Obj := .cells #[.string (str S), .int .i64 (p : Int), .bool st] 119 (0, 0)
abbrev Rr (b : Nat) (S : List UInt8) (p : Nat) (st : Bool) (W : World) : Prop := At W b (rrO S p st)
theorem Rr.c {b : Nat} {S : List UInt8} {p : Nat} {st : Bool} {W : World} (h : Rr b S p st W) : W.cell? ⟨b, 0, none⟩ = some (.string (str S)) ∧ W.cell? ⟨b, 1, none⟩ = some (.int .i64 (p : Int)) ∧ W.cell? ⟨b, 2, none⟩ = some (.bool st) := by
  unfold Rr At at h
  exact ⟨by simp [World.cell?, h], by simp [World.cell?, h], by simp [World.cell?, h]⟩
theorem Rr.f {b : Nat} {S : List UInt8} {p : Nat} {st : Bool} {W : World} (h : Rr b S p st W) (o : Nat) : W.frozen? ⟨b, o, none⟩ = false := frozen_of_row W b o _ 119 h
theorem Rr.go {b : Nat} {S : List UInt8} {p : Nat} {st : Bool} {W : World} (h : Rr b S p st W) (q : Nat) : Rr b S q st (W.setCell ⟨b, 1, none⟩ (.int .i64 (q : Int))) := by
  have := heap_setCell_same W b 1 #[.string (str S), .int .i64 (p : Int), .bool st] 119 (.int .i64 (q : Int)) h
  unfold Rr At
  simpa using this
theorem Rr.stop {b : Nat} {S : List UInt8} {p : Nat} {st : Bool} {W : World} (h : Rr b S p st W) (st' : Bool) : Rr b S p st' (W.setCell ⟨b, 2, none⟩ (.bool st')) := by
  have := heap_setCell_same W b 2 #[.string (str S), .int .i64 (p : Int), .bool st] 119 (.bool st') h
  unfold Rr At
  simpa using this
theorem Tryd.results95 : Tryd.f95.results = #[] := rfl
theorem hid0 {p : Prop} (h : p) : Hid p := h
/-- What it sees ahead. -/
def nx (S : List UInt8) (p : Nat) (st : Bool) : Nat := if st then 0 else ah S p
set_option maxRecDepth 100000 in
set_option maxHeartbeats 1000000 in
theorem next_any (b : Nat) (S : List UInt8) (p : Nat) (st : Bool) (w : World) (h : Rr b S p st w) (hp : p ≤ S.length) (hS : S.length ≤ 16384) :
    Calls Tryd.prog 94 #[.pointer (some ⟨b, 0, none⟩)] w fun e w' => e = .returned (.int .u8 (nx S p st : Int)) ∧ Below w.heap.size w w' := by
  obtain ⟨c0, c1, c2⟩ := h.c
  have hbl := h.lt
  cases st with
  | true =>
    show Calls Tryd.prog 94 #[.pointer (some ⟨b, 0, none⟩)] w fun e w' => e = .returned (.int .u8 ((0 : Nat) : Int)) ∧ Below w.heap.size w w'
    clear h hp hS
    go_enter Tryd.func94, Tryd.ntmps94
    go_wp2_with fail
    go_quiet (fail)
    go_wp2_with fail
    go_ret
    exact ⟨rfl, belN (Below.refl _ _) _⟩
  | false =>
    rcases Nat.lt_or_ge p S.length with hlt | hge
    · have ha : nx S p false = S[p].toNat := by simp [nx, ah, hlt]
      rw [ha]
      obtain ⟨d, hd⟩ : ∃ d, d = S[p] := ⟨_, rfl⟩
      have hc : (str S)[p]'(by rw [str_size]; exact hlt) = d := by rw [hd]; rfl
      rw [← hd]
      obtain ⟨n, hn⟩ : ∃ n, n = S.length := ⟨_, rfl⟩
      have hszn : (str S).size = n := by rw [hn]; rfl
      have k0 : (0 : Int) ≤ (p : Int) := by omega
      have k1 : (p : Int) < (n : Int) := by omega
      have k2 : ¬ (n : Int) ≤ (p : Int) := by omega
      have k3 : ¬ n ≤ p := by omega
      clear hd ha hn h hp
      go_enter Tryd.func94, Tryd.ntmps94
      go_wp2_with fail
      go_quiet (fail)
      go_wp2_with fail
      go_quiet (fail)
      go_wp2_with fail
      go_ret
      exact ⟨rfl, belN (belN (Below.refl _ _) _) _⟩
    · have ha : nx S p false = 0 := by simp [nx, ah, hge]
      rw [ha]
      have hpp : p = S.length := by omega
      have hsz : (str S).size = p := by rw [hpp]; rfl
      clear hpp ha hp hS hge h
      go_enter Tryd.func94, Tryd.ntmps94
      go_wp2_with fail
      go_quiet (fail)
      go_wp2_with fail
      go_ret
      exact ⟨rfl, belN (Below.refl _ _) _⟩
set_option maxRecDepth 100000 in
set_option maxHeartbeats 1000000 in
theorem word_stuck (b : Nat) (S ws : List UInt8) (p : Nat) (w : World) (h : Rr b S p true w) (hw : ws.length ≤ 10) :
    Calls Tryd.prog 95 #[.pointer (some ⟨b, 0, none⟩), .string (str ws)] w fun e w' => e = .returned (.tuple #[]) ∧ Rr b S p true w' ∧ But b w w' := by
  obtain ⟨n, hn⟩ : ∃ n, n = ws.length := ⟨_, rfl⟩
  have hsz : (str ws).size = n := by rw [hn]; rfl
  have HH : Hid (Rr b S p true w) := h
  rw [← hn] at hw
  clear h hn
  go_enter Tryd.func95, Tryd.ntmps95
  go_wp2_with fail
  go_loopw [4] (fun i W => i = .int .i64 0 ∧ W = w) (fun i _ => 1)
  case atStart => exact ⟨rfl, rfl⟩
  case round =>
    obtain ⟨rfl, hW⟩ := hrel
    cases hW
    obtain ⟨c0, c1, c2⟩ := HH.out.c
    have hbl := HH.out.lt
    by_cases hz : 0 < n
    · have k1 : (0 : Int) < (n : Int) := by omega
      go_wp2_with fail
      go_end0
      exact ⟨rfl, HH.out, But.refl _ _⟩
    · have k1 : ¬ (0 : Int) < (n : Int) := by omega
      go_wp2_with fail
      go_end0
      exact ⟨rfl, HH.out, But.refl _ _⟩
set_option maxRecDepth 100000 in
set_option maxHeartbeats 2000000 in
theorem word_any (b : Nat) (S ws : List UInt8) (n : Nat) (hn : ws.length = n) (p : Nat) (w : World) (h : Rr b S p false w) (hp : p ≤ S.length) (hS : S.length ≤ 16384) (hw : n ≤ 10) (h0 : ∀ c ∈ ws, c.toNat ≠ 0) :
    Calls Tryd.prog 95 #[.pointer (some ⟨b, 0, none⟩), .string (str ws)] w fun e w' => e = .returned (.tuple #[]) ∧ Rr b S (tk S ws p).1 (!(tk S ws p).2) w' ∧ But b w w' := by
  obtain ⟨R, hR⟩ : ∃ R, R = tk S ws p := ⟨_, rfl⟩
  rw [← hR]
  have hsz : (str ws).size = n := hn
  have HR : Hid (R = tk S ws p) := hR
  have H0 : Hid (∀ c ∈ ws, c.toNat ≠ 0) := h0
  have HN : Hid (ws.length = n) := hn
  have HD : Hid (Rr b S p false w) := h
  clear hR h0 hn h
  go_enter Tryd.func95, Tryd.ntmps95
  go_wp2_with fail
  go_loopw [4] (fun i W => ∃ k : Nat, k ≤ n ∧ i = .int .i64 k ∧ R = tk S (ws.drop k) (p + k) ∧ p + k ≤ S.length ∧ Rr b S (p + k) false W ∧ But b w W) (fun i _ => n - (intOf i).toNat)
  case atStart => exact ⟨0, Nat.zero_le _, rfl, HR.out, hp, HD.out, But.refl _ _⟩
  case round =>
    obtain ⟨k, hk, rfl, hRk, hpk, hRd, hB⟩ := hrel
    have HRk : Hid (R = tk S (ws.drop k) (p + k)) := hRk
    have hbl : b < wr.heap.size := hRd.lt
    have HB := hid0 hB
    obtain ⟨q, hq⟩ : ∃ q, q = p + k := ⟨_, rfl⟩
    rw [← hq] at hRd HRk hpk
    have HQ : Hid (q = p + k) := hq
    have HRd : Hid (Rr b S q false wr) := hRd
    obtain ⟨c0, c1, c2⟩ := hRd.c
    have f1 := hRd.f 1
    have f2 := hRd.f 2
    clear hRk HR HD hB hq hRd
    by_cases hlt : k < n
    · have hlt' : k < ws.length := by rw [HN.out]; exact hlt
      obtain ⟨d, hd⟩ : ∃ d, d = ws[k] := ⟨_, rfl⟩
      have hc : (str ws)[k]'(by rw [str_size]; exact hlt') = d := by rw [hd]; rfl
      have HDR : Hid (ws.drop k = d :: ws.drop (k + 1)) := by rw [hd]; exact List.drop_eq_getElem_cons hlt'
      have HD0 : Hid (d.toNat ≠ 0) := H0.out d (by rw [hd]; exact List.getElem_mem _)
      have k0 : (0 : Int) ≤ (k : Int) := by omega
      have k1 : (k : Int) < (n : Int) := by omega
      have k2 : (k : Int) ≤ 1000 := by omega
      have q0 : (0 : Int) ≤ (q : Int) := by omega
      have q1 : (q : Int) ≤ 100000 := by omega
      obtain ⟨L, hL⟩ : ∃ L, L = S.length := ⟨_, rfl⟩
      have hszS : (str S).size = L := by rw [hL]; rfl
      have HL : Hid (L = S.length) := hL
      rw [← hL] at hpk
      clear hd
      by_cases hql : q < L
      · have hql' : q < S.length := by rw [← hL]; exact hql
        obtain ⟨y, hy⟩ : ∃ y, y = S[q] := ⟨_, rfl⟩
        have hcS : (str S)[q]'(by rw [str_size]; exact hql') = y := by rw [hy]; rfl
        have HY : Hid (ah S q = y.toNat) := hid0 (by rw [hy]; simp [ah, hql'])
        have q2 : (q : Int) < (L : Int) := by omega
        have q3 : ¬ (L : Int) ≤ (q : Int) := by omega
        have q4 : ¬ L ≤ q := by omega
        clear hy hL
        by_cases he : y = d
        · subst he
          go_wp2_with fail
          go_quiet (fail)
          go_wp2_with fail
          refine ⟨⟨k + 1, by omega, by go_num, ?_, ?_, ?_, ?_⟩, by simp [intOf]; omega⟩
          · rw [HRk.out, HDR.out, tk, if_pos HY.out, HQ.out, Nat.add_assoc]
          · have h3 := HQ.out
            have h4 := HL.out
            omega
          · have := Rr.go (p := q) (HRd.out.drewN nq) (q + 1)
            rw [show p + (k + 1) = q + 1 by have := HQ.out; omega]
            have e : ((q + 1 : Nat) : Int) = (q : Int) + 1 := by omega
            rw [e] at this
            exact this
          · exact (HB.out.trans (But.below (belN (Below.refl _ _) nq))).set 1 _
        · have z1 : ¬ y.toNat = d.toNat := fun e => he (UInt8.toNat_inj.1 e)
          have z2 : ¬ (y.toNat : Int) = (d.toNat : Int) := by omega
          have z3 : ((y.toNat : Int) == (d.toNat : Int)) = false := by simpa using z2
          go_wp2_with fail
          go_quiet (fail)
          go_wp2_with fail
          refine bodyPost_ret (results_none Tryd.results95 _ _ _) rfl ?_
          have hT : R = (q, false) := by rw [HRk.out, HDR.out, tk, if_neg (by rw [HY.out]; exact z1)]
          rw [hT]
          exact ⟨rfl, Rr.stop (p := q) (st := false) (HRd.out.drewN nq) true, (HB.out.trans (But.below (belN (Below.refl _ _) nq))).set 2 _⟩
      · have q3 : (L : Int) ≤ (q : Int) := by omega
        have q4 : L ≤ q := by omega
        have hql' : ¬ q < S.length := by rw [← hL]; exact hql
        have HY : Hid (ah S q = 0) := hid0 (by simp [ah, Nat.le_of_not_lt hql'])
        clear hL hql'
        go_wp2_with fail
        go_quiet (fail)
        go_wp2_with fail
        refine bodyPost_ret (results_none Tryd.results95 _ _ _) rfl ?_
        have hT : R = (q, false) := by rw [HRk.out, HDR.out, tk, if_neg (by rw [HY.out]; exact fun e => HD0.out e.symm)]
        rw [hT]
        exact ⟨rfl, Rr.stop (p := q) (st := false) (HRd.out.drewN nq) true, (HB.out.trans (But.below (belN (Below.refl _ _) nq))).set 2 _⟩
    · obtain rfl : k = n := by omega
      have hT : R = (q, true) := by rw [HRk.out, List.drop_of_length_le (by rw [HN.out]; exact Nat.le_refl _)]; rfl
      have HT := hid0 hT
      have z1 : ¬ (k : Int) < (k : Int) := by omega
      clear hT
      go_wp2_with fail
      go_end0
      rw [HT.out]
      exact ⟨rfl, HRd.out, HB.out⟩
end Go.Proofs.YtjchbclkdbojpaaDoor
