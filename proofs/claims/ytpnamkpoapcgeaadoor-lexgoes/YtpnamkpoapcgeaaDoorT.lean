import Derived.Test.YtpnamkpoapcgeaaDoorS
import Derived.Test.YtpnamkpoapcgeaaDoorJ
namespace Go.Proofs.YtpnamkpoapcgeaaDoor
open Go.RowKit
set_option linter.unusedVariables false
set_option linter.unusedSimpArgs false

theorem two_pre {l q : List UInt8} (hq : q.length = 2) (hl : 1 < l.length) : q.isPrefixOf l = (l.take 2 == q) := by
  rw [Bool.eq_iff_iff, List.isPrefixOf_iff_prefix, beq_iff_eq]
  constructor
  · intro h; have := List.prefix_iff_eq_take.1 h; rw [hq] at this; exact this.symm
  · intro h; rw [← h]; exact List.take_prefix _ _
theorem two_short {l q : List UInt8} (hq : q.length = 2) (hl : ¬ 1 < l.length) : q.isPrefixOf l = false := by
  cases h : q.isPrefixOf l
  · rfl
  · have := (List.isPrefixOf_iff_prefix.1 h).length_le; omega
theorem two_vals : ([.string ⟨#[45, 62]⟩, .string ⟨#[61, 61]⟩, .string ⟨#[33, 61]⟩, .string ⟨#[60, 61]⟩, .string ⟨#[62, 61]⟩, .string ⟨#[38, 38]⟩, .string ⟨#[124, 124]⟩] : List Value) = twoVals := by kernel_rfl
theorem two_set (W0 : World) (g : Nat) (h : W0.there g 0 7) {j : Nat} (hj : j < 7) : (W0.setCells g 0 [.string ⟨#[45, 62]⟩, .string ⟨#[61, 61]⟩, .string ⟨#[33, 61]⟩, .string ⟨#[60, 61]⟩, .string ⟨#[62, 61]⟩, .string ⟨#[38, 38]⟩, .string ⟨#[124, 124]⟩]).cell? ⟨g, j, none⟩ = some (.string (str (twos.getD j []))) := by
  rw [two_vals]
  have hl : j < twos.length := hj
  have := World.rangeAt_setCells_same W0 g 0 twoVals h j (.string (str (twos.getD j []))) (by simp [twoVals, List.getElem?_eq_getElem hl, List.getD_eq_getElem?_getD])
  rw [Nat.zero_add] at this
  exact this
theorem twos_at {k : Nat} (hk : k < 7) : (twos.getD k []).length = 2 := by
  have : twos.getD k [] ∈ twos := by
    rw [List.getD_eq_getElem?_getD, List.getElem?_eq_getElem (show k < twos.length from hk)]; exact List.getElem_mem _
  exact twos_len _ this
/-- The sign of one byte at a place. -/
def oc (k : Nat) : UInt8 := (ones.getD k []).headD 0
theorem ones_oc {k : Nat} (hk : k < 18) : ones.getD k [] = [oc k] := by
  have : ∀ k, k < 18 → ones.getD k [] = [oc k] := by decide
  exact this k hk
theorem oc_idx {k : Nat} (hk : k < 18) : (⟨#[123, 125, 40, 41, 60, 62, 44, 59, 58, 46, 38, 42, 33, 61, 43, 45, 47, 37]⟩ : ByteArray)[k]'hk = oc k := by
  have : ∀ k : Fin 18, (⟨#[123, 125, 40, 41, 60, 62, 44, 59, 58, 46, 38, 42, 33, 61, 43, 45, 47, 37]⟩ : ByteArray)[k.1]'k.2 = oc k.1 := by decide
  exact this ⟨k, hk⟩
theorem one_pre {c o : UInt8} {r : List UInt8} : [o].isPrefixOf (c :: r) = (c.toNat == o.toNat) := by
  show (o == c && _) = _
  by_cases h : c = o
  · subst h; simp
  · have h1 : (c.toNat == o.toNat) = false := beq_eq_false_iff_ne.2 (fun e => h (UInt8.toNat_inj.1 e))
    have h2 : (o == c) = false := beq_eq_false_iff_ne.2 (Ne.symm h)
    rw [h1, h2]; rfl
set_option maxRecDepth 100000 in
set_option maxHeartbeats 2000000 in
theorem rSign_any (w : World) (l : List UInt8) (hl : l.length ≤ maxLen) : Calls Tryd.prog 53 #[.string (str l)] w fun e w' => e = .returned (.string (str (sg l))) ∧ Below w.heap.size w w' := by
  unfold maxLen at hl
  have hsz : (str l).size = l.length := str_size l
  go_enter Tryd.func53, Tryd.ntmps53
  go_wp2_with (refine wpList_store_mid rfl 102 _ _ rfl w.heap.size 0 _ rfl rfl (there_new w _ _ (by kernel_rfl)) (by kernel_rfl) (by kernel_rfl) ?_)
  generalize hW : World.setCells _ _ _ _ = W0
  have hB0 : Below w.heap.size w W0 := by rw [← hW]; exact below_cells (Nat.le_refl _) _ _ _ ((Below.refl _ _).alloc (Nat.le_refl _) _)
  have H2 : Hid (∀ j, j < 7 → W0.cell? ⟨w.heap.size, j, none⟩ = some (.string (str (twos.getD j [])))) := fun j hj => by
    rw [← hW]
    exact two_set _ _ (there_new w _ _ (by kernel_rfl)) hj
  clear hW
  go_loopw [4] (fun x wr => ∃ k d : Nat, k ≤ 7 ∧ x = .int .i64 k ∧ wr = W0.drewN d ∧ Hid (∀ j, j < k → (twos.getD j []).isPrefixOf l = false)) (fun x _ => 7 - (intOf x).toNat)
  case atStart => exact ⟨0, 0, Nat.zero_le _, rfl, rfl, fun j hj => absurd hj (Nat.not_lt_zero _)⟩
  case round =>
    obtain ⟨k, d, hk, rfl, rfl, hn⟩ := hrel
    by_cases hlt : k < 7
    · have hc := H2.out k hlt
      have hq2 := twos_at hlt
      have g1 : (k : Int) < 7 := by omega
      have g0 : (0 : Int) ≤ (k : Int) := by omega
      obtain ⟨q, hq⟩ : ∃ q, q = twos.getD k [] := ⟨_, rfl⟩
      rw [← hq] at hc hq2
      have HN : Hid (q.isPrefixOf l = false → ∀ j, j < k + 1 → (twos.getD j []).isPrefixOf l = false) := fun he j hj => by
        rcases Nat.lt_or_ge j k with h | h
        · exact hn.out j h
        · obtain rfl : j = k := by omega
          rw [← hq]; exact he
      have HS : Hid (q.isPrefixOf l = true → sg l = q) := fun he => by rw [hq] at he ⊢; exact sg_two hlt hn.out he
      by_cases hl1 : 1 < l.length
      · have gl : (1 : Int) < (l.length : Int) := by omega
        have gl2 : (2 : Int) ≤ (l.length : Int) := by omega
        have hx : (str l).extract 0 2 = str (l.take 2) := str_take l 2
        have hpq := two_pre hq2 hl1
        cases he : (l.take 2 == q)
        · have hb : ((str (l.take 2)).toList == (str q).toList) = false := by rw [str_list, str_list]; exact he
          have HN' : Hid (∀ j, j < k + 1 → (twos.getD j []).isPrefixOf l = false) := HN.out (hpq.trans he)
          clear hq hn HN HS hpq he hq2
          go_wp2
          go_quiet (fail)
          go_wp2
          go_roundw
          case rel => exact ⟨k + 1, _, by omega, by go_num, rfl, HN'⟩
          case measure => simp [intOf]; omega
        · have hb : ((str (l.take 2)).toList == (str q).toList) = true := by rw [str_list, str_list]; exact he
          have hsg := HS.out (hpq.trans he)
          have HE : Hid (sg l = q) := hsg
          clear hq hn HN HS hpq he hq2 hsg
          go_wp2
          go_quiet (fail)
          go_wp2
          go_ret
          exact ⟨by rw [HE.out]; rfl, hB0.trans (by exact below_drewN (Below.refl _ _) _)⟩
      · have gl : decide ((1 : Int) < (l.length : Int)) = false := by simp; omega
        have gl' : ¬ (1 : Int) < (l.length : Int) := by omega
        have HN' : Hid (∀ j, j < k + 1 → (twos.getD j []).isPrefixOf l = false) := HN.out (two_short hq2 hl1)
        clear hq hn HN HS hq2
        go_wp2
        go_quiet (fail)
        go_wp2
        go_roundw
        case rel => exact ⟨k + 1, _, by omega, by go_num, rfl, HN'⟩
        case measure => simp [intOf]; omega
    · obtain rfl : k = 7 := by omega
      have HT : Hid (∀ j, j < 7 → (twos.getD j []).isPrefixOf l = false) := hn
      clear H2 hn
      go_wp2
      go_loopw [6] (fun x wr => ∃ k d : Nat, k ≤ 18 ∧ x = .int .i64 k ∧ wr = W0.drewN d ∧ Hid (∀ j, j < k → (ones.getD j []).isPrefixOf l = false)) (fun x _ => 18 - (intOf x).toNat)
      case atStart => exact ⟨0, _, Nat.zero_le _, rfl, rfl, fun j hj => absurd hj (Nat.not_lt_zero _)⟩
      case round =>
        obtain ⟨k, d, hk, rfl, rfl, hn⟩ := hrel
        by_cases hlt : k < 18
        · have hoc := oc_idx hlt
          have hones := ones_oc hlt
          have g1 : (k : Int) < 18 := by omega
          have g0 : (0 : Int) ≤ (k : Int) := by omega
          obtain ⟨o, ho⟩ : ∃ o, o = oc k := ⟨_, rfl⟩
          rw [← ho] at hoc hones
          have HN : Hid ([o].isPrefixOf l = false → ∀ j, j < k + 1 → (ones.getD j []).isPrefixOf l = false) := fun he j hj => by
            rcases Nat.lt_or_ge j k with h | h
            · exact hn.out j h
            · obtain rfl : j = k := by omega
              rw [hones]; exact he
          have HS : Hid ([o].isPrefixOf l = true → sg l = [o]) := fun he => by rw [← hones] at he ⊢; exact sg_one HT.out hlt hn.out he
          clear hones ho hn HT
          by_cases hln : l = []
          · have he : (!(str l).toList.isEmpty) = false := by rw [str_list, hln]; rfl
            have HN' : Hid (∀ j, j < k + 1 → (ones.getD j []).isPrefixOf l = false) := HN.out (by rw [hln]; rfl)
            clear HN HS hln
            go_wp2
            go_quiet (fail)
            go_wp2
            go_roundw
            case rel => exact ⟨k + 1, _, by omega, by go_num, rfl, HN'⟩
            case measure => simp [intOf]; omega
          · obtain ⟨c, r, hlc⟩ := List.exists_cons_of_ne_nil hln
            have hl1 : 1 ≤ l.length := by rw [hlc]; simp
            have he : (!(str l).toList.isEmpty) = true := by rw [str_list, hlc]; rfl
            have hc0 : (str l)[0]'(by rw [str_size]; omega) = c := by subst hlc; rfl
            have hx : (str l).extract 0 1 = str [c] := by rw [hlc]; exact str_take (c :: r) 1
            have hlp : (0 : Int) < (l.length : Int) := by omega
            have hlp1 : (1 : Int) ≤ (l.length : Int) := by omega
            have hpq : [o].isPrefixOf l = (c.toNat == o.toNat) := by rw [hlc]; exact one_pre
            clear hlc hln
            cases heq : (c.toNat == o.toNat)
            · have hb : ((c.toNat : Int) == (o.toNat : Int)) = false := by simp at heq ⊢; omega
              have HN' : Hid (∀ j, j < k + 1 → (ones.getD j []).isPrefixOf l = false) := HN.out (hpq.trans heq)
              clear HN HS hpq heq
              go_wp2
              go_quiet (fail)
              go_wp2
              go_roundw
              case rel => exact ⟨k + 1, _, by omega, by go_num, rfl, HN'⟩
              case measure => simp [intOf]; omega
            · have hb : ((c.toNat : Int) == (o.toNat : Int)) = true := by simp at heq ⊢; omega
              have hco : c = o := by simp at heq; exact UInt8.toNat_inj.1 heq
              have HE : Hid (sg l = [c]) := by show _ = _; rw [hco]; exact HS.out (hpq.trans heq)
              clear HN HS hpq heq hco
              go_wp2
              go_quiet (fail)
              go_wp2
              go_ret
              exact ⟨by rw [HE.out]; rfl, hB0.trans (by exact below_drewN (Below.refl _ _) _)⟩
        · obtain rfl : k = 18 := by omega
          have HE : Hid (sg l = []) := sg_none HT.out hn.out
          clear hn HT
          go_wp2
          go_ret
          exact ⟨by rw [HE.out]; rfl, hB0.trans (by exact below_drewN (Below.refl _ _) _)⟩
end Go.Proofs.YtpnamkpoapcgeaaDoor
