import Derived.Test.YtjchbclkdbojpaaDoorY
namespace Go.Proofs.YtjchbclkdbojpaaDoor
open Go.RowKit
set_option linter.unusedVariables false
set_option linter.unusedSimpArgs false

/-- From p to q that stands there. -/
def Seg (S : List UInt8) (p q : Nat) (l : List UInt8) : Prop := p + l.length = q ∧ S.drop p = l ++ S.drop q
theorem Seg.nil (S : List UInt8) (p : Nat) : Seg S p p [] := ⟨rfl, rfl⟩
theorem Seg.app {S : List UInt8} {p q r : Nat} {a b : List UInt8} (h : Seg S p q a) (k : Seg S q r b) : Seg S p r (a ++ b) :=
  ⟨by rw [List.length_append]; have := h.1; have := k.1; omega, by rw [h.2, k.2, List.append_assoc]⟩
theorem Seg.split {S : List UInt8} {p r : Nat} {a b : List UInt8} (h : Seg S p r (a ++ b)) : Seg S p (p + a.length) a ∧ Seg S (p + a.length) r b := by
  have h1 := h.1
  rw [List.length_append] at h1
  have e : S.drop (p + a.length) = b ++ S.drop r := by
    rw [← List.drop_drop, h.2, List.append_assoc, List.drop_left]
  exact ⟨⟨rfl, by rw [h.2, e, List.append_assoc]⟩, ⟨by omega, e⟩⟩
theorem ah_drop (S : List UInt8) (p : Nat) : ah S p = (((S.drop p)[0]?).map (·.toNat)).getD 0 := by
  unfold ah
  rw [List.getElem?_drop, Nat.add_zero]
theorem Seg.ah {S : List UInt8} {p q : Nat} {c : UInt8} {l : List UInt8} (h : Seg S p q (c :: l)) : ah S p = c.toNat := by
  rw [ah_drop, h.2]
  rfl
theorem Seg.le {S : List UInt8} {p q : Nat} {l : List UInt8} (h : Seg S p q l) (hp : p ≤ S.length) : q ≤ S.length := by
  have := congrArg List.length h.2
  rw [List.length_drop, List.length_append, List.length_drop] at this
  have := h.1
  omega
theorem seg_one {S : List UInt8} {p : Nat} {c : UInt8} (h : Go.Proofs.YtjchbclkdbojpaaDoor.ah S p = c.toNat) (h0 : c.toNat ≠ 0) : Seg S p (p + 1) [c] := by
  have hl : p < S.length := ah_lt (by rw [h]; exact h0)
  refine ⟨rfl, ?_⟩
  rw [List.drop_eq_getElem_cons hl]
  have : S[p] = c := by
    have e : Go.Proofs.YtjchbclkdbojpaaDoor.ah S p = S[p].toNat := by simp [Go.Proofs.YtjchbclkdbojpaaDoor.ah, hl]
    rw [e] at h
    exact UInt8.toNat_inj.1 h
  rw [this]
  rfl
theorem tk_seg {S : List UInt8} : ∀ (ws : List UInt8) (p q : Nat), (∀ c ∈ ws, c.toNat ≠ 0) → (tk S ws p = (q, true) ↔ Seg S p q ws)
  | [], p, q, _ => by
    constructor
    · intro h
      have : p = q := by injection h
      subst this
      exact Seg.nil S p
    · intro h
      have := h.1
      simp at this
      subst this
      rfl
  | c :: r, p, q, h0 => by
    have ih := tk_seg (S := S) r (p + 1) q (fun d hd => h0 d (by simp [hd]))
    constructor
    · intro h
      unfold tk at h
      split at h
      · rename_i he
        exact (seg_one he (h0 c (by simp))).app (ih.1 h)
      · cases h
    · intro h
      have h2 := Seg.split (a := [c]) (b := r) h
      unfold tk
      rw [if_pos h.ah]
      exact ih.2 h2.2
theorem u8n {n : Nat} (h : n < 256) : (UInt8.ofNat n).toNat = n := by
  rw [UInt8.toNat_ofNat']
  exact Nat.mod_eq_of_lt h
/-- Digits that are those of a number are read whole. -/
theorem nm_go (S : List UInt8) (most : Int) (fr : Nat) : ∀ (u : Nat), (u : Int) ≤ most → ∀ q, Seg S fr q (Lib.decDigits u) → ∀ fuel, nmG S most fr (fuel + (Lib.decDigits u).length) 0 fr = nmG S most fr fuel u q := by
  intro u
  induction u using Nat.strongRecOn with
  | ind u ih =>
    intro hu q hs fuel
    by_cases h10 : u < 10
    · have e : Lib.decDigits u = [UInt8.ofNat (48 + u)] := Lib.decDigits_one h10
      rw [e] at hs ⊢
      have ha := hs.ah
      rw [u8n (by omega)] at ha
      have hq : q = fr + 1 := hs.1.symm
      subst hq
      show nmG S most fr (fuel + 1) 0 fr = _
      rw [nmG, if_pos]
      · rw [ha]
        congr 1
        omega
      · rw [ha]
        refine ⟨by omega, ?_⟩
        rintro (h | h)
        · rw [Int.tdiv_eq_ediv_of_nonneg (by omega)] at h
          omega
        · omega
    · have e : Lib.decDigits u = Lib.decDigits (u / 10) ++ [UInt8.ofNat (48 + u % 10)] := by rw [Lib.decDigits, dif_neg h10]
      rw [e] at hs
      obtain ⟨h1, h2⟩ := hs.split
      have ha := h2.ah
      rw [u8n (by omega)] at ha
      have h3 := ih (u / 10) (by omega) (by omega) _ h1 (fuel + 1)
      rw [e, List.length_append, show fuel + ((Lib.decDigits (u / 10)).length + [UInt8.ofNat (48 + u % 10)].length) = fuel + 1 + (Lib.decDigits (u / 10)).length by simp; omega, h3]
      have hq : q = fr + (Lib.decDigits (u / 10)).length + 1 := h2.1.symm
      rw [nmG, if_pos]
      · rw [ha, ← hq]
        congr 1
        omega
      · rw [ha]
        refine ⟨by omega, ?_⟩
        rintro (h | h)
        · rw [Int.tdiv_eq_ediv_of_nonneg (by omega)] at h
          omega
        · omega
theorem nm_stop (S : List UInt8) (most : Int) (fr : Nat) (fuel : Nat) (n : Int) (q : Nat) (h : ¬ (48 ≤ ah S q ∧ ah S q ≤ 57)) : nmG S most fr fuel n q = (n, q) := by
  cases fuel with
  | zero => rfl
  | succ k => rw [nmG, if_neg (fun hh => h hh.1)]
theorem itoa_nn {v : Int} (h : 0 ≤ v) : Lib.itoa v = Lib.decDigits v.toNat := by
  have := Lib.itoa_nonneg v.toNat
  rwa [Int.toNat_of_nonneg h] at this
theorem dig_len (u : Nat) : 1 ≤ (Lib.decDigits u).length := by
  rw [Lib.decDigits]
  split
  · simp
  · simp
theorem nm_seg {S : List UInt8} {most v : Int} {p q : Nat} (h0 : 0 ≤ v) (hm : v ≤ most) (hs : Seg S p q (Lib.itoa v)) (hp : p ≤ S.length) (hn : ¬ (48 ≤ ah S q ∧ ah S q ≤ 57)) : nm S most p = (v, q) ∧ p < q := by
  rw [itoa_nn h0] at hs
  have hq := hs.le hp
  have hl := hs.1
  have h1 := nm_go S most p v.toNat (by omega) q hs (S.length - q)
  have hd := dig_len v.toNat
  refine ⟨?_, by omega⟩
  unfold nm
  rw [show S.length - p = S.length - q + (Lib.decDigits v.toNat).length by omega, h1, nm_stop S most p _ _ q hn, Int.toNat_of_nonneg h0]
/-- What is read as a number is its numeral. -/
theorem nm_back (S : List UInt8) (most : Int) (fr : Nat) : ∀ (fuel : Nat) (n : Nat) (p : Nat), fr < p → Seg S fr p (Lib.decDigits n) → ∃ v : Nat, (nmG S most fr fuel n p).1 = v ∧ Seg S fr (nmG S most fr fuel n p).2 (Lib.decDigits v)
  | 0, n, p, hp, hs => ⟨n, rfl, hs⟩
  | fuel + 1, n, p, hp, hs => by
    unfold nmG
    split
    · rename_i hc
      obtain ⟨⟨c1, c2⟩, c3⟩ := hc
      have hn : n ≠ 0 := fun e => c3 (.inr ⟨by omega, hp⟩)
      obtain ⟨d, hd⟩ : ∃ d : Nat, ah S p = 48 + d := ⟨ah S p - 48, by omega⟩
      have hd9 : d < 10 := by omega
      have hseg : Seg S p (p + 1) [UInt8.ofNat (48 + d)] := seg_one (by rw [hd, u8n (by omega)]) (by rw [u8n (by omega)]; omega)
      have e : Lib.decDigits (n * 10 + d) = Lib.decDigits n ++ [UInt8.ofNat (48 + d)] := by
        rw [Lib.decDigits, dif_neg (by omega), show (n * 10 + d) / 10 = n by omega, show (n * 10 + d) % 10 = d by omega]
      have h2 := nm_back S most fr fuel (n * 10 + d) (p + 1) (by omega) (by rw [e]; exact hs.app hseg)
      rw [show ((n : Int) * 10 + ((ah S p : Int) - 48)) = ((n * 10 + d : Nat) : Int) by omega]
      exact h2
    · exact ⟨n, rfl, hs⟩
theorem nm_text {S : List UInt8} {most : Int} {p : Nat} (h : p < (nm S most p).2) : 0 ≤ (nm S most p).1 ∧ Seg S p (nm S most p).2 (Lib.itoa (nm S most p).1) := by
  unfold nm at h ⊢
  cases hf : S.length - p with
  | zero => rw [hf] at h; simp [nmG] at h
  | succ k =>
    rw [hf] at h
    unfold nmG at h ⊢
    split at h
    · rename_i hc
      rw [if_pos hc]
      obtain ⟨⟨c1, c2⟩, c3⟩ := hc
      obtain ⟨d, hd⟩ : ∃ d : Nat, ah S p = 48 + d := ⟨ah S p - 48, by omega⟩
      have hseg : Seg S p (p + 1) [UInt8.ofNat (48 + d)] := seg_one (by rw [hd, u8n (by omega)]) (by rw [u8n (by omega)]; omega)
      have e : Lib.decDigits d = [UInt8.ofNat (48 + d)] := Lib.decDigits_one (by omega)
      obtain ⟨v, h1, h2⟩ := nm_back S most p k d (p + 1) (by omega) (by rw [e]; exact hseg)
      rw [show ((0 : Int) * 10 + ((ah S p : Int) - 48)) = ((d : Nat) : Int) by omega, h1]
      refine ⟨by omega, ?_⟩
      rw [Lib.itoa_nonneg]
      exact h2
    · simp at h
end Go.Proofs.YtjchbclkdbojpaaDoor
