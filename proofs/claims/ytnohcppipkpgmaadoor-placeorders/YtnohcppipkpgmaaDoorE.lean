import Derived.Test.YtnohcppipkpgmaaDoorB
namespace Go.Proofs.YtnohcppipkpgmaaDoor
open Go.RowKit
set_option linter.unusedVariables false
set_option linter.unusedSimpArgs false

def FitC (D : Int) (t : Ty) (b : Bool) : Prop := ∀ (f : Fv) (w : World), TyAt w f t → Calls Tryd.prog 35 #[f.v, .int .i64 D] w fun e w' => e = .returned (.bool b) ∧ Below w.heap.size w w'
/-- A type's parts, each with its cells. -/
theorem TyAt.parts {w : World} {k : Nat} {m : Bool} {r s : Int} {a : Option Addr} {n cap : Nat} {of : List Ty} (h : TyAt w ⟨k, m, r, s, a, n, cap⟩ (.mk k m r s of)) (hne : of ≠ []) : ∃ g off, a = some ⟨g, off, none⟩ ∧ ∀ i t, of[i]? = some t → ∃ f', C5 w g (off + i * 5) f' ∧ TyAt w f' t := by
  cases h with
  | mk k m r s a n cap of V hn hl hk r0 r1 s0 s1 h1 h2 =>
    obtain ⟨g, off, rfl, h⟩ := h1 hne
    exact ⟨g, off, rfl, fun i t ht => ⟨V i, h i (List.getElem?_eq_some_iff.1 ht).1, h2 i t ht⟩⟩
theorem TyAt.inv0 {w : World} {f : Fv} {k : Nat} {m : Bool} {r s : Int} {of : List Ty} (h : TyAt w f (.mk k m r s of)) : ∃ a cap, f = ⟨k, m, r, s, a, of.length, cap⟩ := by
  cases h with
  | mk k m r s a n cap of V hn hl hk r0 r1 s0 s1 h1 h2 => exact ⟨a, cap, by rw [hn]⟩
theorem TyAt.big {w : World} {f : Fv} {k : Nat} {m : Bool} {r s : Int} {of : List Ty} (h : TyAt w f (.mk k m r s of)) : of.length ≤ maxLen := by
  cases h with
  | mk k m r s a n cap of V hn hl hk r0 r1 s0 s1 h1 h2 => exact hn ▸ hl
/-- How deep a part may be. -/
def cd (D : Int) (i : Nat) : Int := if i = 0 then D - 1 else if D ≤ 4 then D - 1 else 3
theorem cd_lt (D : Int) (i : Nat) : cd D i < D := by unfold cd; repeat' split <;> omega
theorem cd_nn (D : Int) (i : Nat) (h : 1 ≤ D) : 0 ≤ cd D i := by unfold cd; repeat' split <;> omega
set_option maxRecDepth 100000 in
set_option maxHeartbeats 4000000 in
theorem fits_ex : ∀ (d : Nat) (D : Int), D = d → D ≤ 60 → ∀ t : Ty, ∃ b, FitC D t b := by
  intro d
  induction d using Nat.strongRecOn with
  | ind d ih =>
    rintro D hD hD60 ⟨k, m, r, s, of⟩
    by_cases h0 : D = 0
    · subst h0
      refine ⟨false, fun f w h => ?_⟩
      obtain ⟨a, cap, rfl⟩ := h.inv0
      obtain ⟨q, hq⟩ : ∃ q, q = of.length := ⟨_, rfl⟩
      show Calls Tryd.prog 35 #[tyV k m r s a of.length cap, .int .i64 0] w _
      rw [← hq]
      clear hq h hD hD60 ih
      go_enter Tryd.func35, Tryd.ntmps35
      go_wp2_with fail
      go_ret
      exact ⟨rfl, belA (Below.refl _ _)⟩
    · have D1 : 1 ≤ D := by omega
      by_cases h3 : 3 < of.length
      · refine ⟨false, fun f w h => ?_⟩
        obtain ⟨a, cap, rfl⟩ := h.inv0
        have q3 : (3 : Int) < (of.length : Int) := by omega
        obtain ⟨q, hq⟩ : ∃ q, q = of.length := ⟨_, rfl⟩
        show Calls Tryd.prog 35 #[tyV k m r s a of.length cap, .int .i64 D] w _
        rw [← hq] at q3 ⊢
        clear hq h hD hD60 ih h3 D1
        go_enter Tryd.func35, Tryd.ntmps35
        go_wp2_with fail
        go_ret
        exact ⟨rfl, belA (Below.refl _ _)⟩
      · have hs : ∀ i, ∃ b, ∀ t, of[i]? = some t → FitC (cd D i) t b := fun i => by
          cases hi : of[i]? with
          | none => exact ⟨true, fun t ht => by cases ht⟩
          | some t =>
            obtain ⟨b, hb⟩ := ih (cd D i).toNat (by have := cd_lt D i; have := cd_nn D i D1; omega) (cd D i) (by have := cd_nn D i D1; omega) (by have := cd_lt D i; omega) t
            exact ⟨b, fun u hu => by cases hu; exact hb⟩
        obtain ⟨bs, hbs⟩ : ∃ bs : Nat → Bool, ∀ i t, of[i]? = some t → FitC (cd D i) t (bs i) := ⟨fun i => Classical.choose (hs i), fun i => Classical.choose_spec (hs i)⟩
        obtain ⟨b, hb⟩ : ∃ b : Bool, b = true ↔ ∀ i, i < of.length → bs i = true := by
          by_cases h : ∀ i, i < of.length → bs i = true
          · exact ⟨true, by simpa using h⟩
          · exact ⟨false, by simpa using h⟩
        refine ⟨b, fun f w h => ?_⟩
        obtain ⟨a, cap, rfl⟩ := h.inv0
        have q3 : ¬ (3 : Int) < (of.length : Int) := by omega
        show Calls Tryd.prog 35 #[tyV k m r s a of.length cap, .int .i64 D] w _
        have HS : Hid (∀ i t, of[i]? = some t → FitC (cd D i) t (bs i)) := hbs
        have HB : Hid (b = true ↔ ∀ i, i < of.length → bs i = true) := hb
        have HT : Hid (TyAt w ⟨k, m, r, s, a, of.length, cap⟩ (.mk k m r s of)) := h
        have A1 : At (w.alloc (tyO k m r s a of.length cap)) w.heap.size (tyO k m r s a of.length cap) := At.new _ _
        have hB1 : Below w.heap.size w (w.alloc (tyO k m r s a of.length cap)) := belA (Below.refl _ _)
        clear hs hbs hb h ih hD
        go_enter Tryd.func35, Tryd.ntmps35
        go_wp2_with fail
        go_loopw [5] (fun i W => ∃ j : Nat, j ≤ of.length ∧ i = .int .i64 j ∧ (∀ l, l < j → bs l = true) ∧ At W w.heap.size (tyO k m r s a of.length cap) ∧ Below w.heap.size w W) (fun i _ => of.length - (intOf i).toNat)
        case atStart => exact ⟨0, Nat.zero_le _, rfl, fun l h => absurd h (Nat.not_lt_zero l), A1, hB1⟩
        case round =>
          obtain ⟨j, hj, rfl, hall, hA, hB⟩ := hrel
          obtain ⟨-, c0, c1, c2, c3, c4⟩ := (At.ty (f := ⟨k, m, r, s, a, of.length, cap⟩) hA)
          by_cases hlt : j < of.length
          · obtain ⟨g, off, rfl, hp⟩ := (HT.out.bel hB).parts (by rintro rfl; simp at hlt)
            obtain ⟨x, hx⟩ : ∃ x, of[j]? = some x := ⟨_, List.getElem?_eq_getElem hlt⟩
            obtain ⟨f', ⟨hg, q0, q1, q2, q4, q5⟩, hx'⟩ := hp j x hx
            have CC : Hid (Calls Tryd.prog 35 #[f'.v, .int .i64 (cd D j)] wr fun e w' => e = .returned (.bool (bs j)) ∧ Below wr.heap.size wr w') := HS.out j x hx f' wr hx'
            have yes : bs j = true → ∀ l, l < j + 1 → bs l = true := fun h l hl => by
              rcases Nat.lt_or_ge l j with h' | h'
              · exact hall l h'
              · obtain rfl : l = j := by omega
                exact h
            have no : bs j = false → b = false := fun h => by
              cases hb : b with
              | false => rfl
              | true => rw [HB.out.1 hb j hlt] at h; cases h
            have YES : Hid (bs j = true → ∀ l, l < j + 1 → bs l = true) := yes
            have NO : Hid (bs j = false → b = false) := no
            have w4 : IntKind.i64.wrap (D - 1) = D - 1 := by rw [IntKind.wrap_i64]; omega
            have w5 : IntKind.i64.wrap (60 - 57 * (j : Int)) = 60 - 57 * (j : Int) := by rw [IntKind.wrap_i64]; omega
            have w6 : IntKind.i64.wrap (57 * (j : Int)) = 57 * (j : Int) := by rw [IntKind.wrap_i64]; omega
            clear hp hx hx' hall A1 hB1 yes no HS HB
            obtain ⟨bj, hbj⟩ : ∃ bj, bj = bs j := ⟨_, rfl⟩
            rw [← hbj] at CC YES NO
            clear hbj
            have j2 : j = 0 ∨ j = 1 ∨ j = 2 := by omega
            rcases j2 with j2 | j2 | j2
            · clear h3
              have e : cd D j = D - 1 := by rw [j2]; simp [cd]; try omega
              rw [e] at CC
              have ff0 : (j : Int) ≤ 1 := by omega
              have ff1 : D - 1 ≤ 60 - 57 * (j : Int) := by omega
              clear e j2
              cases bj with
              | true =>
                have Y := YES.out rfl
                have HY : Hid (∀ l, l < j + 1 → bs l = true) := Y
                clear Y YES NO
                go_wp2_with (go_at_call 35; refine CC.out.mono ?_; rintro e w1 ⟨rfl, hb1⟩)
                exact ⟨⟨j + 1, by omega, by go_num, HY.out, hA.below hb1, below_aft hB hb1⟩, by simp [intOf]; omega⟩
              | false =>
                have Y := NO.out rfl
                subst Y
                clear YES NO
                go_wp2_with (go_at_call 35; refine CC.out.mono ?_; rintro e w1 ⟨rfl, hb1⟩)
                go_ret
                exact ⟨rfl, below_aft hB hb1⟩
            · by_cases d4 : D ≤ 4
              · clear h3
                have e : cd D j = D - 1 := by rw [j2]; simp [cd]; try omega
                rw [e] at CC
                have ff0 : (j : Int) ≤ 1 := by omega
                have ff1 : D - 1 ≤ 60 - 57 * (j : Int) := by omega
                clear e j2
                cases bj with
                | true =>
                  have Y := YES.out rfl
                  have HY : Hid (∀ l, l < j + 1 → bs l = true) := Y
                  clear Y YES NO
                  go_wp2_with (go_at_call 35; refine CC.out.mono ?_; rintro e w1 ⟨rfl, hb1⟩)
                  exact ⟨⟨j + 1, by omega, by go_num, HY.out, hA.below hb1, below_aft hB hb1⟩, by simp [intOf]; omega⟩
                | false =>
                  have Y := NO.out rfl
                  subst Y
                  clear YES NO
                  go_wp2_with (go_at_call 35; refine CC.out.mono ?_; rintro e w1 ⟨rfl, hb1⟩)
                  go_ret
                  exact ⟨rfl, below_aft hB hb1⟩
              · clear h3
                have e : cd D j = 60 - 57 * (j : Int) := by rw [j2]; simp [cd]; try omega
                rw [e] at CC
                have ff0 : (j : Int) ≤ 1 := by omega
                have ff1 : 60 - 57 * (j : Int) < D - 1 := by omega
                clear e j2
                cases bj with
                | true =>
                  have Y := YES.out rfl
                  have HY : Hid (∀ l, l < j + 1 → bs l = true) := Y
                  clear Y YES NO
                  go_wp2_with (go_at_call 35; refine CC.out.mono ?_; rintro e w1 ⟨rfl, hb1⟩)
                  exact ⟨⟨j + 1, by omega, by go_num, HY.out, hA.below hb1, below_aft hB hb1⟩, by simp [intOf]; omega⟩
                | false =>
                  have Y := NO.out rfl
                  subst Y
                  clear YES NO
                  go_wp2_with (go_at_call 35; refine CC.out.mono ?_; rintro e w1 ⟨rfl, hb1⟩)
                  go_ret
                  exact ⟨rfl, below_aft hB hb1⟩
            · by_cases d4 : D ≤ 4
              · clear h3
                have e : cd D j = D - 1 := by rw [j2]; simp [cd]; try omega
                rw [e] at CC
                have ff0 : 1 < (j : Int) := by omega
                have ff1 : D - 1 ≤ 3 := by omega
                clear e j2
                cases bj with
                | true =>
                  have Y := YES.out rfl
                  have HY : Hid (∀ l, l < j + 1 → bs l = true) := Y
                  clear Y YES NO
                  go_wp2_with (go_at_call 35; refine CC.out.mono ?_; rintro e w1 ⟨rfl, hb1⟩)
                  exact ⟨⟨j + 1, by omega, by go_num, HY.out, hA.below hb1, below_aft hB hb1⟩, by simp [intOf]; omega⟩
                | false =>
                  have Y := NO.out rfl
                  subst Y
                  clear YES NO
                  go_wp2_with (go_at_call 35; refine CC.out.mono ?_; rintro e w1 ⟨rfl, hb1⟩)
                  go_ret
                  exact ⟨rfl, below_aft hB hb1⟩
              · clear h3
                have e : cd D j = 3 := by rw [j2]; simp [cd]; try omega
                rw [e] at CC
                have ff0 : 1 < (j : Int) := by omega
                have ff1 : 3 < D - 1 := by omega
                clear e j2
                cases bj with
                | true =>
                  have Y := YES.out rfl
                  have HY : Hid (∀ l, l < j + 1 → bs l = true) := Y
                  clear Y YES NO
                  go_wp2_with (go_at_call 35; refine CC.out.mono ?_; rintro e w1 ⟨rfl, hb1⟩)
                  exact ⟨⟨j + 1, by omega, by go_num, HY.out, hA.below hb1, below_aft hB hb1⟩, by simp [intOf]; omega⟩
                | false =>
                  have Y := NO.out rfl
                  subst Y
                  clear YES NO
                  go_wp2_with (go_at_call 35; refine CC.out.mono ?_; rintro e w1 ⟨rfl, hb1⟩)
                  go_ret
                  exact ⟨rfl, below_aft hB hb1⟩
          · obtain rfl : j = of.length := by omega
            have hb : b = true := HB.out.2 hall
            subst hb
            clear hall A1 hB1 HS HB HT
            have lt : ¬ (of.length : Int) < (of.length : Int) := by omega
            go_wp2_with fail
            go_ret
            exact ⟨rfl, hB⟩
end Go.Proofs.YtnohcppipkpgmaaDoor
