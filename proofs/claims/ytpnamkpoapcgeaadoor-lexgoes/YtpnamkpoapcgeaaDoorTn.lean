import Derived.Test.YtpnamkpoapcgeaaDoorTj
namespace Go.Proofs.YtpnamkpoapcgeaaDoor
open Go.RowKit Go.Shelf
attribute [local go_sem] Oper.semAt_some
set_option linter.unusedVariables false
set_option linter.unusedSimpArgs false

theorem jr_snoc (bl : Tz → Tz → Bool) (z d : Tz) : ∀ (r : List Tz) (a : Tz), jr bl a (r ++ [z]) = jr bl a r ++ ((if bl ((a :: r).getD r.length d) z = true then [32] else []) ++ tzText z)
  | [], a => by simp [jr]
  | b :: r, a => by
    have ih := jr_snoc bl z d r b
    simp only [List.cons_append, jr, ih, List.length_cons]
    have : (a :: b :: r).getD (r.length + 1) d = (b :: r).getD r.length d := by simp
    simp only [this, List.append_assoc]
theorem jf_snoc (bl : Tz → Tz → Bool) (ts : List Tz) (z d : Tz) : jf bl (ts ++ [z]) = jf bl ts ++ ((if ts.length ≠ 0 ∧ bl (ts.getD (ts.length - 1) d) z = true then [32] else []) ++ tzText z) := by
  cases ts with
  | nil => simp [jf, jr]
  | cons a r =>
    have h := jr_snoc bl z d r a
    simp only [List.cons_append, jf, h, List.length_cons, Nat.add_sub_cancel]
    simp only [List.append_assoc, ne_eq, Nat.add_eq_zero_iff, Nat.succ_ne_self, and_false, not_false_eq_true, true_and]
theorem jt_jf (bl : Tz → Tz → Bool) (ts : List Tz) : ∀ k, k ≤ ts.length → jt bl ts k = jf bl (ts.take k)
  | 0, _ => by simp [jt, jf]
  | k + 1, h => by
    have ih := jt_jf bl ts k (by omega)
    have hk : k < ts.length := by omega
    have e : ts.take (k + 1) = ts.take k ++ [ts.getD k ⟨0, 0, 0, []⟩] := by
      rw [List.take_succ_eq_append_getElem hk]
      simp [hk]
    rw [e, jf_snoc bl (ts.take k) _ ⟨0, 0, 0, []⟩, jt, ih]
    have hl : (ts.take k).length = k := by rw [List.length_take]; omega
    rw [hl]
    have hg : k ≠ 0 → (ts.take k).getD (k - 1) ⟨0, 0, 0, []⟩ = ts.getD (k - 1) ⟨0, 0, 0, []⟩ := fun h0 => by
      simp [List.getD, List.getElem?_take, show k - 1 < k by omega]
    by_cases h0 : k = 0
    · simp [h0]
    · rw [hg h0]
theorem jt_all (bl : Tz → Tz → Bool) (ts : List Tz) : jt bl ts ts.length = jf bl ts := by
  rw [jt_jf bl ts _ (Nat.le_refl _), List.take_length]
theorem jres_zero {bl : Tz → Tz → Bool} {ts : List Tz} (h : (jres bl ts).2 = 0) : (∀ t ∈ ts, tzMay t = true) ∧ (jf bl ts).length ≤ 65536 ∧ jres bl ts = (jf bl ts, 0) := by
  unfold jres at h ⊢
  rw [jt_all] at h ⊢
  split at h
  · rename_i h1
    split at h
    · rename_i h2
      rw [if_pos h1, if_pos h2]
      exact ⟨List.all_eq_true.1 h1, h2, rfl⟩
    · cases h
  · cases h
theorem jres_of {bl : Tz → Tz → Bool} {ts : List Tz} (h1 : ∀ t ∈ ts, tzMay t = true) (h2 : (jf bl ts).length ≤ 65536) : jres bl ts = (jf bl ts, 0) := by
  unfold jres
  rw [jt_all, if_pos (List.all_eq_true.2 h1), if_pos h2]
theorem lks_len : ∀ {xs : List Tk} {ts : List Tz}, Lks xs ts → xs.length = ts.length
  | [], [], _ => rfl
  | x :: xs, t :: ts, h => by have := lks_len h.2.2; simp [this]
theorem lks_at : ∀ {xs : List Tk} {ts : List Tz}, Lks xs ts → ∀ (i : Nat) (x : Tk) (t : Tz), xs[i]? = some x → ts[i]? = some t → Lk x t
  | [], [], _, i, x, t, h, _ => by simp at h
  | y :: ys, u :: us, h, 0, x, t, h1, h2 => by
    simp at h1 h2
    subst h1 h2
    exact h.1
  | y :: ys, u :: us, h, i + 1, x, t, h1, h2 => lks_at h.2.2 i x t (by simpa using h1) (by simpa using h2)
theorem back_all (bl : Tz → Tz → Bool) (ts : List Tz) (hm : ∀ t ∈ ts, tzMay t = true) (hs : ∀ a b, bl a b = true ∨ cl a b = false) (N : Nat) : ∀ x ∈ pcs N (jf bl ts), x.k ≠ 0 := by
  cases ts with
  | nil => intro x hx; simp [jf, pcs_nil (N := N) (l := []) rfl] at hx
  | cons a r => exact lks_k (back N bl r a (hm a (by simp)) (fun t ht => hm t (by simp [ht])) (sep_of hs r a))
theorem cl_or (a b : Tz) : cl a b = true ∨ cl a b = false := by cases cl a b <;> simp
theorem lex_good (w : World) (S : List UInt8) (hS : S.length ≤ 65536) (hz : ∀ t ∈ pcs S.length S, t.k ≠ 0) :
    Calls Tryd.prog 10 #[.string (str S)] w fun e w' => ∃ v, e = .returned (.tuple #[v, .int .i64 0, .int .i64 0]) ∧ TRow w' w.heap.size v (lexToks S) ∧ Below w.heap.size w w' := by
  refine (lex_any w S hS).mono ?_
  rintro e w' ⟨hb, ⟨v, rfl, hr, _⟩ | ⟨p, t, rfl, hp, hk⟩⟩
  · refine ⟨v, rfl, ?_, hb⟩
    unfold lexToks
    rw [if_pos ⟨hS, hz⟩]
    exact hr
  · exact absurd hk (hz t (by rw [hp]; simp))
theorem pcs_p {N : Nat} : ∀ (f : Nat) (l : List UInt8), l.length < f → l.length ≤ N → ∀ x ∈ pcs N l, x.p ≤ N
  | 0, l, h, _, _, _ => by omega
  | f + 1, l, h, hN, x, hx => by
    cases hp : pcs N l with
    | nil => rw [hp] at hx; cases hx
    | cons y ys =>
      obtain ⟨c, r, h1, rfl, h3, h4⟩ := pcs_step hp
      rw [hp] at hx
      have hsl := sk_len false l
      rw [h1] at hsl
      have hfr := rd_far (c :: r)
      have hpc : (pc N (c :: r)).p ≤ N := by
        unfold pc
        dsimp only
        split <;> omega
      by_cases hk : (rd (c :: r)).k = 0
      · rw [h4 hk] at hx
        simp at hx
        subst hx
        exact hpc
      · rcases List.mem_cons.1 hx with rfl | hx
        · exact hpc
        · rw [h3 hk] at hx
          have := left_lt h1 hk
          exact pcs_p f _ (by omega) (by omega) x hx
theorem lex_bad (w : World) (S : List UInt8) (hS : S.length ≤ 65536) (hz : ¬ ∀ t ∈ pcs S.length S, t.k ≠ 0) :
    Calls Tryd.prog 10 #[.string (str S)] w fun e w' => ∃ p : Nat, e = .returned (.tuple #[.slice none 0 0, .int .i64 (p : Int), .int .i64 20]) ∧ p ≤ S.length ∧ Below w.heap.size w w' := by
  refine (lex_any w S hS).mono ?_
  rintro e w' ⟨hb, ⟨v, rfl, hr, hz'⟩ | ⟨p, t, rfl, hp, hk⟩⟩
  · exact absurd hz' hz
  · exact ⟨t.p, rfl, pcs_p _ S (Nat.lt_succ_self _) (Nat.le_refl _) t (by rw [hp]; simp), hb⟩
theorem intGo_n : ∀ (l : List UInt8) (v n : Nat), v ≤ 9223372036854775807 → (intGo v n l).n ≤ 9223372036854775807
  | [], v, n, h => by simpa [intGo] using h
  | c :: r, v, n, h => by
    unfold intGo
    split
    · split
      · simp
      · cases hw : wdig v c.toNat with
        | none => simp
        | some v' =>
          dsimp only
          refine intGo_n r v' (n + 1) ?_
          unfold wdig at hw
          split at hw
          · rename_i hh; cases hw; exact hh.2
          · cases hw
    · exact h
theorem rd_n_le (l : List UInt8) : (rd l).n ≤ 9223372036854775807 := by
  have hrow : ∀ k p l, (rdRow k p l).n = 0 := fun k p l => by unfold rdRow; split <;> rfl
  cases l with
  | nil => simp [rd]
  | cons c r =>
    rw [rd_cons]
    split
    · rw [hrow]; omega
    · split
      · rw [hrow]; omega
      · split
        · exact intGo_n _ _ _ (by omega)
        · split
          · unfold rdLife
            split
            · simp
            · split
              · split <;> simp
              · simp
          · unfold rdSign
            split <;> simp
theorem rd_s_le (l : List UInt8) (h : (rd l).k ≠ 0) : (rd l).s.length ≤ l.length := by
  have ht := rd_text l h
  have hl := congrArg List.length ht
  rw [List.length_take] at hl
  unfold txt at hl
  by_cases h5 : (rd l).k = 5
  · have hs : (rd l).s = [] := by
      cases l with
      | nil => rfl
      | cons c r =>
        rw [rd_cons] at h5 ⊢
        split at h5
        · rename_i h1
          rw [if_pos h1]
          unfold rdRow at h5
          split at h5
          · cases h5
          · dsimp only at h5; split at h5 <;> omega
        · rename_i h1
          rw [if_neg h1]
          split at h5
          · rename_i h2
            unfold rdRow at h5
            split at h5
            · cases h5
            · dsimp only at h5; split at h5 <;> omega
          · rename_i h2
            rw [if_neg h2]
            split at h5
            · rename_i h3
              rw [if_pos h3]
              exact (intGo_k5 _ _ _ (by omega)).2
            · rename_i h3
              rw [if_neg h3]
              split at h5
              · rename_i h4
                have := rdLife_k (r := r) (by omega)
                obtain ⟨_, _, _, _, _, e⟩ := this
                rw [e] at h5
                cases h5
              · rename_i h4
                have := (rdSign_k (l := c :: r) (by omega)).2
                rw [this] at h5
                cases h5
    rw [hs]; simp
  · rw [if_neg h5] at hl
    split at hl
    · simp at hl; omega
    · omega
theorem pcs_tok {N : Nat} : ∀ (f : Nat) (l : List UInt8), l.length < f → ∀ x ∈ pcs N l, x.k ≠ 0 → x.n ≤ 9223372036854775807 ∧ x.s.length ≤ l.length
  | 0, l, h, _, _, _ => by omega
  | f + 1, l, h, x, hx, hxk => by
    cases hp : pcs N l with
    | nil => rw [hp] at hx; cases hx
    | cons y ys =>
      obtain ⟨c, r, h1, rfl, h3, h4⟩ := pcs_step hp
      rw [hp] at hx
      have hsl := sk_len false l
      rw [h1] at hsl
      by_cases hk : (rd (c :: r)).k = 0
      · rw [h4 hk] at hx
        simp at hx
        subst hx
        exact absurd hk hxk
      · rcases List.mem_cons.1 hx with rfl | hx
        · exact ⟨rd_n_le _, Nat.le_trans (rd_s_le _ hk) hsl⟩
        · rw [h3 hk] at hx
          have hlt := left_lt h1 hk
          have := pcs_tok f _ (by omega) x hx hxk
          exact ⟨this.1, by omega⟩
theorem tat_tza {w : World} {a : Option Addr} {ts : List Tk} (h : TAt w a ts) : TzA w a (ts.map tkZ) := fun hn => by
  obtain ⟨g, e, hr⟩ := h (by rintro rfl; exact hn rfl)
  exact ⟨g, 0, e, hr⟩
set_option maxRecDepth 100000 in
set_option maxHeartbeats 4000000 in
theorem like_ok (us vs : List Tz) (a b : Option Addr) (ca cb : Nat) (w : World) (ha : TzA w a us) (hb : TzA w b vs) (hn : us.length ≤ 65536) (hl : vs.length = us.length) (hlk : ∀ (i : Nat) (x y : Tz), us[i]? = some x → vs[i]? = some y → x.k = y.k ∧ x.n = y.n ∧ x.s = y.s) :
    Calls Tryd.prog 27 #[.slice a us.length ca, .slice b us.length cb] w fun e w' => e = .returned (.bool true) ∧ Below w.heap.size w w' := by
  have HLK : Hid (∀ (i : Nat) (x y : Tz), us[i]? = some x → vs[i]? = some y → x.k = y.k ∧ x.n = y.n ∧ x.s = y.s) := hlk
  have HL : Hid (vs.length = us.length) := hl
  clear hlk hl
  go_enter Tryd.func27, Tryd.ntmps27
  go_wp2
  go_loopw [5] (fun i W => ∃ k d : Nat, k ≤ us.length ∧ i = .int .i64 k ∧ W = w.drewN d) (fun i _ => us.length - (intOf i).toNat)
  case atStart => exact ⟨0, 0, Nat.zero_le _, rfl, rfl⟩
  case round =>
    obtain ⟨k, d, hk, rfl, rfl⟩ := hrel
    by_cases hlt : k < us.length
    · obtain ⟨g1, o1, rfl, hr1⟩ := ha (by rintro rfl; simp at hlt)
      obtain ⟨g2, o2, rfl, hr2⟩ := hb (by intro e; have := HL.out; rw [e] at this; simp at this; omega)
      obtain ⟨x, hx⟩ : ∃ x, us[k]? = some x := ⟨_, List.getElem?_eq_getElem hlt⟩
      obtain ⟨y, hy⟩ : ∃ y, vs[k]? = some y := ⟨_, List.getElem?_eq_getElem (by have := HL.out; omega)⟩
      obtain ⟨_, c0, c1, c2, c3⟩ := hr1 k _ hx
      obtain ⟨_, d0, d1, d2, d3⟩ := hr2 k _ hy
      obtain ⟨e1, e2, e3⟩ := HLK.out k x y hx hy
      rw [← e1] at d0
      rw [← e2] at d2
      rw [← e3] at d3
      obtain ⟨q1, q2, q3, q4⟩ := str_eqs x.s
      have k1 : (x.k != x.k) = false := by simp
      have k2 : (x.n != x.n) = false := by simp
      have g1' : (0 : Int) ≤ (k : Int) := by omega
      have g2' : (k : Int) < (us.length : Int) := by omega
      have w3 : IntKind.i64.wrap ((k : Int) + 1) = (k : Int) + 1 := by rw [IntKind.wrap_i64]; omega
      clear hr1 hr2 hx hy ha hb e1 e2 e3
      go_wp2
      go_big_quiet (fail)
      go_wp2
      exact ⟨⟨k + 1, _, by omega, by go_num, rfl⟩, by simp [intOf]; omega⟩
    · obtain rfl : k = us.length := by omega
      go_wp2
      go_ret
      exact ⟨rfl, below_drewN (Below.refl _ _) _⟩
end Go.Proofs.YtpnamkpoapcgeaaDoor
