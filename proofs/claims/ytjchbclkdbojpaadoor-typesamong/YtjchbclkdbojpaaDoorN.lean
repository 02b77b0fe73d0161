import Derived.Test.YtjchbclkdbojpaaDoorM
namespace Go.Proofs.YtjchbclkdbojpaaDoor
open Go.RowKit
set_option linter.unusedVariables false
set_option linter.unusedSimpArgs false

def str (l : List UInt8) : ByteArray := ⟨l.toArray⟩
theorem str_size (l : List UInt8) : (str l).size = l.length := rfl
/-- The byte that comes next; 0 where none does. -/
def ah (S : List UInt8) (p : Nat) : Nat := ((S[p]?).map (·.toNat)).getD 0
/-- A reader. -/
abbrev Rd (b : Nat) (S : List UInt8) (p : Nat) (t : Nat) (W : World) : Prop := At W b (Two (.string (str S)) (.int .i64 (p : Int)) t)
theorem At.twoF {w : World} {b t : Nat} {u v : Value} (h : At w b (Two u v t)) (o : Nat) : w.frozen? ⟨b, o, none⟩ = false := frozen_of_row w b o _ t h
theorem belN {B : Nat} {a w : World} (h : Below B a w) (n : Nat) : Below B a (w.drewN n) := ⟨h.os, h.tape, h.output, h.size, h.block⟩
set_option maxRecDepth 100000 in
set_option maxHeartbeats 1000000 in
theorem ahead_any (b : Nat) (S : List UInt8) (p : Nat) (w : World) (h : Rd b S p 114 w) (hp : p ≤ S.length) (hS : S.length ≤ 16384) :
    Calls Tryd.prog 89 #[.pointer (some ⟨b, 0, none⟩)] w fun e w' => e = .returned (.int .u8 (ah S p : Int)) ∧ Below w.heap.size w w' := by
  obtain ⟨c0, c1⟩ := h.two
  rcases Nat.lt_or_ge p S.length with hlt | hge
  · have ha : ah S p = S[p].toNat := by simp [ah, hlt]
    rw [ha]
    obtain ⟨d, hd⟩ : ∃ d, d = S[p] := ⟨_, rfl⟩
    have hc : (str S)[p]'(by rw [str_size]; exact hlt) = d := by rw [hd]; rfl
    rw [← hd]
    obtain ⟨n, hn⟩ : ∃ n, n = S.length := ⟨_, rfl⟩
    have hszn : (str S).size = n := by rw [hn]; rfl
    have k0 : (0 : Int) ≤ (p : Int) := by omega
    have k1 : (p : Int) < (n : Int) := by omega
    have k2 : ((p : Int) == (n : Int)) = false := by simpa using (by omega : ¬ (p : Int) = (n : Int))
    have k3 : (p == n) = false := by simpa using (by omega : ¬ p = n)
    clear hd ha hn h hp
    go_enter Tryd.func89, Tryd.ntmps89
    go_wp2_with fail
    go_quiet (fail)
    go_wp2_with fail
    go_quiet (fail)
    go_wp2_with fail
    go_ret
    exact ⟨rfl, belN (belN (Below.refl _ _) _) _⟩
  · have ha : ah S p = 0 := by simp [ah, hge]
    rw [ha]
    have hpp : p = S.length := by omega
    have hsz : (str S).size = p := by rw [hpp]; rfl
    clear hpp ha hp hS hge
    go_enter Tryd.func89, Tryd.ntmps89
    go_wp2_with fail
    go_quiet (fail)
    go_wp2_with fail
    go_ret
    exact ⟨rfl, belN (Below.refl _ _) _⟩
/-- Blocks but one lie as they lay. -/
abbrev But (b : Nat) (w w' : World) : Prop := w.grownBy w' (some b)
theorem But.refl (b : Nat) (w : World) : But b w w := World.grownBy.refl w _
theorem But.trans {b : Nat} {x y z : World} (h : But b x y) (k : But b y z) : But b x z := ⟨k.os.trans h.os, k.tape.trans h.tape, k.output.trans h.output, Nat.le_trans h.size k.size, fun i hi hn => (k.block i (Nat.lt_of_lt_of_le hi h.size) hn).trans (h.block i hi hn)⟩
theorem But.below {b : Nat} {x y : World} (h : Below x.heap.size x y) : But b x y := ⟨h.os, h.tape, h.output, h.size, fun i hi _ => h.block i hi⟩
theorem But.set {b : Nat} {x y : World} (h : But b x y) (o : Nat) (u : Value) : But b x (y.setCell ⟨b, o, none⟩ u) :=
  have k : Below b y (y.setCell ⟨b, o, none⟩ u) := (Below.refl b y).setCell (p := ⟨b, o, none⟩) (Nat.le_refl _) u
  ⟨k.os.trans h.os, k.tape.trans h.tape, k.output.trans h.output, Nat.le_trans h.size k.size, fun i hi hn => (Below.heap_setCell y ⟨b, o, none⟩ u i (fun e => hn (congrArg some e))).trans (h.block i hi hn)⟩
theorem But.drew {b : Nat} {x y : World} (h : But b x y) : But b x y.drew := ⟨h.os, h.tape, h.output, h.size, h.block⟩
theorem But.alloc {b : Nat} {x y : World} (h : But b x y) (o : Obj) : But b x (y.alloc o) := h.trans (But.below (belA (Below.refl _ _)))
theorem At.but {b i : Nat} {x y : World} {o : Obj} (h : At x i o) (k : But b x y) (hn : i ≠ b) : At y i o := h.grown k (fun e => hn (Option.some.inj e))
theorem Rd.go {b : Nat} {S : List UInt8} {p t : Nat} {W : World} (h : Rd b S p t W) (q : Nat) : Rd b S q t (W.setCell ⟨b, 1, none⟩ (.int .i64 (q : Int))) := by
  have := heap_setCell_same W b 1 #[.string (str S), .int .i64 (p : Int)] t (.int .i64 (q : Int)) h
  unfold Rd At
  simpa using this
/-- How far a word stands there, and whether all of it does. -/
def tk (S : List UInt8) : List UInt8 → Nat → Nat × Bool
  | [], p => (p, true)
  | c :: r, p => if ah S p = c.toNat then tk S r (p + 1) else (p, false)
theorem ah_lt {S : List UInt8} {p : Nat} (h : ah S p ≠ 0) : p < S.length := by
  rcases Nat.lt_or_ge p S.length with h1 | h1
  · exact h1
  · exact absurd (by simp [ah, h1]) h
theorem ah_le (S : List UInt8) (p : Nat) : ah S p ≤ 255 := by
  unfold ah
  cases S[p]? with
  | none => simp
  | some c => simp; have := c.toNat_lt; omega
set_option maxRecDepth 100000 in
set_option maxHeartbeats 2000000 in
theorem take_any (b : Nat) (S ws : List UInt8) (n : Nat) (hn : ws.length = n) (p : Nat) (w : World) (h : Rd b S p 114 w) (hp : p ≤ S.length) (hS : S.length ≤ 16384) (hw : n ≤ 10) (h0 : ∀ c ∈ ws, c.toNat ≠ 0) :
    Calls Tryd.prog 90 #[.pointer (some ⟨b, 0, none⟩), .string (str ws)] w fun e w' => e = .returned (.bool (tk S ws p).2) ∧ Rd b S (tk S ws p).1 114 w' ∧ But b w w' ∧ (tk S ws p).1 ≤ S.length := by
  obtain ⟨R, hR⟩ : ∃ R, R = tk S ws p := ⟨_, rfl⟩
  rw [← hR]
  have hsz : (str ws).size = n := hn
  have HR : Hid (R = tk S ws p) := hR
  have H0 : Hid (∀ c ∈ ws, c.toNat ≠ 0) := h0
  have HN : Hid (ws.length = n) := hn
  have HD : Hid (Rd b S p 114 w) := h
  clear hR h0 hn h
  go_enter Tryd.func90, Tryd.ntmps90
  go_wp2_with fail
  go_loopw [8] (fun i W => ∃ k : Nat, k ≤ n ∧ i = .int .i64 k ∧ R = tk S (ws.drop k) (p + k) ∧ p + k ≤ S.length ∧ Rd b S (p + k) 114 W ∧ But b w W) (fun i _ => n - (intOf i).toNat)
  case atStart => exact ⟨0, Nat.zero_le _, rfl, HR.out, hp, HD.out, But.refl _ _⟩
  case round =>
    obtain ⟨k, hk, rfl, hRk, hpk, hRd, hB⟩ := hrel
    have HRk : Hid (R = tk S (ws.drop k) (p + k)) := hRk
    have HRd : Hid (Rd b S (p + k) 114 wr) := hRd
    have hbl : b < wr.heap.size := hRd.lt
    clear hRk HR HD
    by_cases hlt : k < n
    · have hlt' : k < ws.length := by rw [HN.out]; exact hlt
      obtain ⟨d, hd⟩ : ∃ d, d = ws[k] := ⟨_, rfl⟩
      have hc : (str ws)[k]'(by rw [str_size]; exact hlt') = d := by rw [hd]; rfl
      have hdrop : ws.drop k = d :: ws.drop (k + 1) := by rw [hd]; exact List.drop_eq_getElem_cons hlt'
      have HDR : Hid (ws.drop k = d :: ws.drop (k + 1)) := hdrop
      have hd0 : d.toNat ≠ 0 := H0.out d (by rw [hd]; exact List.getElem_mem _)
      have k0 : (0 : Int) ≤ (k : Int) := by omega
      have k1 : (k : Int) < (n : Int) := by omega
      have w3 : IntKind.i64.wrap ((k : Int) + 1) = (k : Int) + 1 := by rw [IntKind.wrap_i64]; omega
      obtain ⟨q, hq⟩ : ∃ q, q = p + k := ⟨_, rfl⟩
      have w4 : IntKind.i64.wrap ((q : Int) + 1) = (q : Int) + 1 := by rw [IntKind.wrap_i64]; omega
      rw [← hq] at HRd HRk hpk
      have HQ : Hid (q = p + k) := hq
      obtain ⟨x, hx⟩ : ∃ x, x = ah S q := ⟨_, rfl⟩
      have CA : Hid (∀ W, Below wr.heap.size wr W → Calls Tryd.prog 89 #[.pointer (some ⟨b, 0, none⟩)] W fun e w' => e = .returned (.int .u8 (x : Int)) ∧ Below W.heap.size W w') := fun W hW => by
        rw [hx]
        exact ahead_any b S q W (HRd.out.below hW) hpk hS
      have HX : Hid (x = ah S q) := hx
      have HD0 : Hid (d.toNat ≠ 0) := hd0
      clear hd hdrop hq hx hRd hd0
      by_cases he : x = d.toNat
      · have z1 : (x : Int) = (d.toNat : Int) := by omega
        have HE : Hid (x = d.toNat) := he
        clear he
        go_wp2_with fail
        refine beginH (S := fun W' => Below wr.heap.size wr W') (fun _ _ _ _ _ h => h) (by kernel_rfl) (Below.refl _ _).drew (fun hq hHeld => ?_)
        refine takeH (i := 0) (d := 11) _ hq rfl rfl (by kernel_rfl) (by kernel_rfl) (by kernel_rfl) (by rfl) (fun W hSw => by (go_simp; try rfl)) hHeld ?_
        try simp only [Act.put, List.setIfInBounds_toArray, List.set_cons_zero, List.set_cons_succ]
        refine takeH (i := 2) (d := 13) _ hq rfl rfl (by kernel_rfl) (by kernel_rfl) (by kernel_rfl) (by rfl) (fun W hSw => by (go_simp; try rfl)) hHeld ?_
        try simp only [Act.put, List.setIfInBounds_toArray, List.set_cons_zero, List.set_cons_succ]
        refine takeH (i := 3) (d := 14) _ hq rfl rfl (by kernel_rfl) (by kernel_rfl) (by kernel_rfl) (by rfl) (fun W hSw => by (go_simp; try rfl)) hHeld ?_
        try simp only [Act.put, List.setIfInBounds_toArray, List.set_cons_zero, List.set_cons_succ]
        refine takeH (i := 4) (d := 15) (.int .u8 (d.toNat : Int)) hq rfl rfl (by kernel_rfl) (by kernel_rfl) (by kernel_rfl) (by rfl) (fun W hSw => by (go_simp; try rfl)) hHeld ?_
        try simp only [Act.put, List.setIfInBounds_toArray, List.set_cons_zero, List.set_cons_succ]
        refine wpAnyH_ready (rs := [1]) (by kernel_rfl) (by simp) ?_
        refine AllReadyH.cons rfl (fun K hK => ?_) AllReadyH.nil
        go_simp
        refine (CA.out _ hHeld).mono ?_; rintro e w1 ⟨rfl, hb1⟩; have B1 := below_aft hHeld hb1
        go_wp2_with fail
        refine hK.out _ _ B1 (fun hHeld => ?_)
        clear hK K
        try simp only [Act.put, List.setIfInBounds_toArray, List.set_cons_zero, List.set_cons_succ]
        refine takeH (i := 5) (d := 16) (.bool false) hq rfl rfl (by kernel_rfl) (by kernel_rfl) (by kernel_rfl) (by rfl) (fun W hSw => by (go_simp; try rfl)) hHeld ?_
        try simp only [Act.put, List.setIfInBounds_toArray, List.set_cons_zero, List.set_cons_succ]
        refine wpAnyH_done (by kernel_rfl) ?_ _
        have BB := hHeld
        clear hHeld hq
        have hR1 := HRd.out.below BB
        obtain ⟨c0, c1⟩ := hR1.two
        have f1 := hR1.twoF 1
        go_wp2_with fail
        refine ⟨⟨k + 1, by omega, by go_num, ?_, ?_, ?_, ?_⟩, by simp [intOf]; omega⟩
        · rw [HRk.out, HDR.out, tk, if_pos (by rw [← HX.out]; exact HE.out), HQ.out, Nat.add_assoc]
        · have h2 := ah_lt (S := S) (p := q) (by rw [← HX.out, HE.out]; exact HD0.out)
          have h3 := HQ.out
          omega
        · have := Rd.go (p := q) hR1 (q + 1)
          rw [show p + (k + 1) = q + 1 by have := HQ.out; omega]
          have e : ((q + 1 : Nat) : Int) = (q : Int) + 1 := by omega
          rw [e] at this
          exact this
        · exact (hB.trans (But.below BB)).set 1 _
      · have z1 : ¬ (x : Int) = (d.toNat : Int) := by omega
        have HE : Hid (¬ x = d.toNat) := he
        clear he
        go_wp2_with fail
        refine beginH (S := fun W' => Below wr.heap.size wr W') (fun _ _ _ _ _ h => h) (by kernel_rfl) (Below.refl _ _).drew (fun hq hHeld => ?_)
        refine takeH (i := 0) (d := 11) _ hq rfl rfl (by kernel_rfl) (by kernel_rfl) (by kernel_rfl) (by rfl) (fun W hSw => by (go_simp; try rfl)) hHeld ?_
        try simp only [Act.put, List.setIfInBounds_toArray, List.set_cons_zero, List.set_cons_succ]
        refine takeH (i := 2) (d := 13) _ hq rfl rfl (by kernel_rfl) (by kernel_rfl) (by kernel_rfl) (by rfl) (fun W hSw => by (go_simp; try rfl)) hHeld ?_
        try simp only [Act.put, List.setIfInBounds_toArray, List.set_cons_zero, List.set_cons_succ]
        refine takeH (i := 3) (d := 14) _ hq rfl rfl (by kernel_rfl) (by kernel_rfl) (by kernel_rfl) (by rfl) (fun W hSw => by (go_simp; try rfl)) hHeld ?_
        try simp only [Act.put, List.setIfInBounds_toArray, List.set_cons_zero, List.set_cons_succ]
        refine takeH (i := 4) (d := 15) (.int .u8 (d.toNat : Int)) hq rfl rfl (by kernel_rfl) (by kernel_rfl) (by kernel_rfl) (by rfl) (fun W hSw => by (go_simp; try rfl)) hHeld ?_
        try simp only [Act.put, List.setIfInBounds_toArray, List.set_cons_zero, List.set_cons_succ]
        refine wpAnyH_ready (rs := [1]) (by kernel_rfl) (by simp) ?_
        refine AllReadyH.cons rfl (fun K hK => ?_) AllReadyH.nil
        go_simp
        refine (CA.out _ hHeld).mono ?_; rintro e w1 ⟨rfl, hb1⟩; have B1 := below_aft hHeld hb1
        go_wp2_with fail
        refine hK.out _ _ B1 (fun hHeld => ?_)
        clear hK K
        try simp only [Act.put, List.setIfInBounds_toArray, List.set_cons_zero, List.set_cons_succ]
        refine takeH (i := 5) (d := 16) (.bool true) hq rfl rfl (by kernel_rfl) (by kernel_rfl) (by kernel_rfl) (by rfl) (fun W hSw => by (go_simp; try rfl)) hHeld ?_
        try simp only [Act.put, List.setIfInBounds_toArray, List.set_cons_zero, List.set_cons_succ]
        refine wpAnyH_done (by kernel_rfl) ?_ _
        have BB := hHeld
        clear hHeld hq
        go_wp2_with fail
        go_ret
        have hT : R = (q, false) := by rw [HRk.out, HDR.out, tk, if_neg (by rw [← HX.out]; exact HE.out)]
        rw [hT]
        exact ⟨rfl, HRd.out.below BB, hB.trans (But.below BB), hpk⟩
    · obtain rfl : k = n := by omega
      have hT : R = (p + k, true) := by rw [HRk.out, List.drop_of_length_le (by rw [HN.out]; exact Nat.le_refl _)]; rfl
      subst hT
      clear HRk
      go_wp2_with fail
      go_ret
      exact ⟨rfl, HRd.out, by first | exact hB | exact ⟨hB, hpk⟩⟩
end Go.Proofs.YtjchbclkdbojpaaDoor
