import Derived.Test.YtpnamkpoapcgeaaDoorY
import Derived.Test.YtpnamkpoapcgeaaDoorKe
namespace Go.Proofs.YtpnamkpoapcgeaaDoor
open Go.RowKit Go.Shelf
set_option linter.unusedVariables false
set_option linter.unusedSimpArgs false

theorem pcs_sk {N : Nat} {l l' : List UInt8} (h : sk false l = sk false l') : pcs N l = pcs N l' := by
  cases hs : sk false l with
  | nil => rw [pcs_nil (l := l) hs, pcs_nil (l := l') (h ▸ hs)]
  | cons c r =>
    by_cases hk : (rd (c :: r)).k = 0
    · rw [pcs_last (l := l) hs hk, pcs_last (l := l') (h ▸ hs) hk]
    · have e1 := pcs_more (N := N) (l := l) hs hk
      have e2 := pcs_more (N := N) (l := l') (h ▸ hs) hk
      rw [e1, e2]
theorem skA_note {c : UInt8} (r : List UInt8) (h : isB c.toNat = false) (h1 : c = 47) (h2 : r.head? = some 47) : sk false (c :: r) = sk true (c :: r) := by
  have e1 : sk false (c :: r) = sk true r := by rw [sk, if_neg (by rw [h]; simp), if_pos ⟨h1, h2⟩]
  have e2 : sk true (c :: r) = sk true r := by rw [sk, if_neg (by rw [h1]; decide)]
  rw [e1, e2]
theorem skA_token {c : UInt8} (r : List UInt8) (h : isB c.toNat = false) (h1 : ¬(c = 47 ∧ r.head? = some 47)) : sk false (c :: r) = c :: r := by
  rw [sk, if_neg (by rw [h]; simp), if_neg h1]
theorem skA_end (l : List UInt8) (h : l = [] ∨ l.head? = some 10) : sk true l = sk false l := by
  cases l with
  | nil => rfl
  | cons c r =>
    have hc : c = 10 := by simpa using h
    subst hc
    have e1 : sk true (10 :: r) = sk false r := by rw [sk, if_pos rfl]
    have e2 : sk false (10 :: r) = sk false r := by rw [sk, if_pos (by decide)]
    rw [e1, e2]
theorem skA_on {c : UInt8} (r : List UInt8) (h : c ≠ 10) : sk true (c :: r) = sk true r := by
  rw [sk, if_neg h]
set_option maxRecDepth 100000 in
theorem rlex_long (w : World) (S : List UInt8) (hS : 65536 < S.length) (hm : S.length ≤ maxLen) :
    Calls Tryd.prog 11 #[.string (str S)] w fun e w' => e = .returned (.tuple #[.slice none 0 0, .int .i64 0, .int .i64 3]) ∧ w' = w := by
  have hsz := str_size S
  have hgt : (65536 : Int) < (S.length : Int) := by omega
  go_enter Tryd.func11, Tryd.ntmps11
  go_wp2
  exact bodyPost_ret (v := .tuple #[.slice none 0 0, .int .i64 0, .int .i64 3]) (by simp [results, Tryd.results11, go_sem]) rfl ⟨rfl, rfl⟩
set_option maxRecDepth 100000 in
set_option maxHeartbeats 4000000 in
theorem rlex_any (w : World) (S : List UInt8) (hS : S.length ≤ 65536) : Calls Tryd.prog 11 #[.string (str S)] w (LexPost w S) := by
  have hsz := str_size S
  have hgt : ¬ (65536 : Int) < (S.length : Int) := by omega
  obtain ⟨i0, hi, hz0, hz1, hz2⟩ := info_parts Tryd.tokInfo
  have HP : Hid (LexPost w S = LexPost w S) := rfl
  go_enter Tryd.func11, Tryd.ntmps11
  go_wp2
  go_loopw [5, 6] (fun v i W => ∃ (k : Nat) (ts : List Tk), k ≤ S.length ∧ ts.length ≤ k ∧ i = .int .i64 k ∧ TRow W w.heap.size v ts ∧ Below w.heap.size w W ∧ Hid (ts ++ pcs S.length (S.drop k) = pcs S.length S) ∧ Hid (∀ t ∈ ts, t.k ≠ 0)) (fun _ i _ => S.length - (intOf i).toNat)
  case atStart => exact ⟨0, [], Nat.zero_le _, Nat.le_refl _, rfl, World.ownsRow_nil _ _ _ _, Below.refl _ _, (rfl : [] ++ pcs S.length (S.drop 0) = pcs S.length S), fun t h => by cases h⟩
  case round =>
    obtain ⟨k, ts, hk, htk, rfl, hO, hB, HE, HZ⟩ := hrel
    have hsW := hB.size
    by_cases hlt : k < S.length
    · have g1 : (0 : Int) ≤ (k : Int) := by omega
      have g2 : (k : Int) < (S.length : Int) := by omega
      obtain ⟨c, hcl⟩ : ∃ c, c = S[k] := ⟨_, rfl⟩
      have hdr : S.drop k = c :: S.drop (k + 1) := by rw [hcl]; exact List.drop_eq_getElem_cons hlt
      have hc : (str S)[k]'(by rw [hsz]; exact hlt) = c := by rw [hcl]; rfl
      have w3 : IntKind.i64.wrap ((k : Int) + 1) = (k : Int) + 1 := by rw [IntKind.wrap_i64]; omega
      have HBl : Hid (∀ W, Calls Tryd.prog 30 #[.int .u8 (c.toNat : Int)] W fun e w' => e = .returned (.bool (isB c.toNat)) ∧ w' = W) := fun W => rBlank_any c.toNat W
      cases hbl : isB c.toNat with
      | true =>
        rw [hbl] at HBl
        have HE2 : Hid (ts ++ pcs S.length (S.drop (k + 1)) = pcs S.length S) := by
          have := HE.out
          show _ = _
          rwa [hdr, pcs_sk (sk_blank hbl)] at this
        clear hcl hdr HE hbl
        go_wp2_with (first | (go_at_call 30; refine (HBl.out _).mono ?_; rintro e w1 ⟨rfl, hw⟩; replace hw := hw.symm; subst hw))
        exact ⟨⟨k + 1, ts, by omega, by omega, by go_num, hO, hB, HE2, HZ⟩, by simp [intOf]; omega⟩
      | false =>
        rw [hbl] at HBl
        by_cases hnote : c = 47 ∧ (S.drop (k + 1)).head? = some 47
        · obtain ⟨h47, hh⟩ := hnote
          have hk1 : k + 1 < S.length := by
            rcases Nat.lt_or_ge (k + 1) S.length with h | h
            · exact h
            · rw [List.drop_eq_nil_of_le h] at hh; simp at hh
          obtain ⟨d, hdl⟩ : ∃ d, d = S[k + 1] := ⟨_, rfl⟩
          have hd47 : d = 47 := by rw [List.head?_drop, List.getElem?_eq_getElem hk1] at hh; rw [hdl]; exact Option.some.inj hh
          have hd : (str S)[k + 1]'(by rw [hsz]; exact hk1) = d := by rw [hdl]; rfl
          have e47 : ((c.toNat : Int) == 47) = true := by rw [h47]; rfl
          have d47 : ((d.toNat : Int) == 47) = true := by rw [hd47]; rfl
          have g3 : (k : Int) + 1 < (S.length : Int) := by omega
          have g4 : (0 : Int) ≤ (k : Int) + 1 := by omega
          have HSK : Hid (sk true (S.drop k) = sk false (S.drop k)) := by
            show _ = _
            rw [hdr]; exact (skA_note _ hbl h47 hh).symm
          have HK10 : Hid (S[k]? ≠ some 10) := by
            show _ ≠ _
            rw [List.getElem?_eq_getElem hlt, ← hcl, h47]; decide
          clear hcl hdr hbl hdl hd47 h47 hh
          go_wp2_with (first | (go_at_call 30; refine (HBl.out _).mono ?_; rintro e w1 ⟨rfl, hw⟩; replace hw := hw.symm; subst hw))
          go_loop [6] (fun i => ∃ j : Nat, k ≤ j ∧ j ≤ S.length ∧ i = .int .i64 j ∧ Hid (sk true (S.drop j) = sk false (S.drop k))) (fun i => S.length - (intOf i).toNat)
          case atStart => exact ⟨k, Nat.le_refl _, hk, rfl, HSK⟩
          case round =>
            obtain ⟨j, hkj, hj, rfl, HJ⟩ := hrel
            have fin : (j = S.length ∨ S[j]? = some 10) → k < j ∧ ts ++ pcs S.length (S.drop j) = pcs S.length S := fun h => by
              refine ⟨?_, ?_⟩
              · rcases Nat.lt_or_ge k j with h' | h'
                · exact h'
                · have : j = k := by omega
                  subst this
                  rcases h with h | h
                  · omega
                  · exact absurd h HK10.out
              · rw [← HE.out]
                refine congrArg _ (pcs_sk ?_)
                rw [← HJ.out]
                refine (skA_end _ ?_).symm
                rcases h with h | h
                · left; exact List.drop_eq_nil_of_le (by omega)
                · right; rw [List.head?_drop]; exact h
            by_cases hjl : j < S.length
            · obtain ⟨x, hxl⟩ : ∃ x, x = S[j] := ⟨_, rfl⟩
              have hxx : (str S)[j]'(by rw [hsz]; exact hjl) = x := by rw [hxl]; rfl
              have j1 : (0 : Int) ≤ (j : Int) := by omega
              have j2 : (j : Int) < (S.length : Int) := by omega
              have j3 : IntKind.i64.wrap ((j : Int) + 1) = (j : Int) + 1 := by rw [IntKind.wrap_i64]; omega
              by_cases hx : x = 10
              · have x10 : ((x.toNat : Int) == 10) = true := by rw [hx]; rfl
                have x10' : (!((x.toNat : Int) == 10)) = false := by rw [x10]; rfl
                obtain ⟨f1, f2⟩ := fin (.inr (by rw [List.getElem?_eq_getElem hjl, ← hxl, hx]))
                have HF : Hid (ts ++ pcs S.length (S.drop j) = pcs S.length S) := f2
                clear hxl hx f2 fin HJ
                go_wp2
                exact ⟨⟨j, ts, hj, by omega, rfl, hO, hB, HF, HZ⟩, by simp [intOf]; omega⟩
              · have x10 : ((x.toNat : Int) == 10) = false := by
                  have : ¬ (x.toNat = 10) := fun e => hx (UInt8.toNat_inj.1 e)
                  simp only [beq_eq_false_iff_ne, ne_eq]
                  omega
                have x10' : (!((x.toNat : Int) == 10)) = true := by rw [x10]; rfl
                have HJ2 : Hid (sk true (S.drop (j + 1)) = sk false (S.drop k)) := by
                  show _ = _
                  rw [← HJ.out, show S.drop j = x :: S.drop (j + 1) by rw [hxl]; exact List.drop_eq_getElem_cons hjl, skA_on _ hx]
                clear hxl hx fin HJ
                go_wp2
                exact ⟨⟨j + 1, by omega, by omega, by go_num, HJ2⟩, by simp [intOf]; omega⟩
            · obtain ⟨f1, f2⟩ := fin (.inl (by omega))
              have HF : Hid (ts ++ pcs S.length (S.drop j) = pcs S.length S) := f2
              have j2 : ¬ (j : Int) < (S.length : Int) := by omega
              clear f2 fin HJ
              go_wp2
              exact ⟨⟨j, ts, hj, by omega, rfl, hO, hB, HF, HZ⟩, by simp [intOf]; omega⟩
        · have hsk : sk false (S.drop k) = c :: S.drop (k + 1) := by rw [hdr]; exact skA_token _ hbl hnote
          have hcase : ((c.toNat : Int) == 47) = false ∨ (((c.toNat : Int) == 47) = true ∧ S.length ≤ k + 1) ∨ ∃ (hk1 : k + 1 < S.length) (d : UInt8), (str S)[k + 1]'(by rw [hsz]; exact hk1) = d ∧ ((c.toNat : Int) == 47) = true ∧ ((d.toNat : Int) == 47) = false := by
            by_cases h47 : c = 47
            · have e47 : ((c.toNat : Int) == 47) = true := by rw [h47]; rfl
              rcases Nat.lt_or_ge (k + 1) S.length with h | h
              · refine .inr (.inr ⟨h, S[k + 1], rfl, e47, ?_⟩)
                have hne : S[k + 1] ≠ 47 := fun e => hnote ⟨h47, by rw [List.drop_eq_getElem_cons h, e]; rfl⟩
                have : ¬ (S[k + 1].toNat = 47) := fun e => hne (UInt8.toNat_inj.1 e)
                simp only [beq_eq_false_iff_ne, ne_eq]
                omega
              · exact .inr (.inl ⟨e47, h⟩)
            · left
              have : ¬ (c.toNat = 47) := fun e => h47 (UInt8.toNat_inj.1 e)
              simp only [beq_eq_false_iff_ne, ne_eq]
              omega
          have hone := one_any (S := S) (p := k) (hS := by unfold maxLen; omega) (hp := hlt)
          have hpc : pc S.length (c :: S.drop (k + 1)) = ⟨(rd (S.drop k)).k, k + (if (rd (S.drop k)).k = 0 then (rd (S.drop k)).far else 0), (rd (S.drop k)).n, (rd (S.drop k)).s⟩ := by
            rw [← hdr]
            unfold pc
            rw [List.length_drop, show S.length - (S.length - k) = k by omega]
          have hfar := rd_far (S.drop k)
          have hpos := rd_pos c (S.drop (k + 1))
          rw [← hdr] at hpos
          rw [List.length_drop] at hfar
          have hdd : (c :: S.drop (k + 1)).drop (rd (S.drop k)).far = S.drop (k + (rd (S.drop k)).far) := by rw [← hdr, List.drop_drop]
          have hE := HE.out
          clear HE hnote
          by_cases hRk : (rd (S.drop k)).k = 0
          · rw [pcs_last hsk (by rw [← hdr]; exact hRk), hpc, if_pos hRk] at hE
            have HO0 : Hid (∀ W, Calls Tryd.prog 31 #[.string (str S), .int .i64 (k : Int)] W fun e w' => ∃ (kk aa nn : Int) (ss : ByteArray), e = .returned (.tuple #[tok kk aa nn ss, .int .i64 ((k + (rd (S.drop k)).far : Nat) : Int), .bool false]) ∧ Below W.heap.size W w') := fun W => by
              refine (hone W).mono ?_
              rintro e w' ⟨⟨v, rfl, kk, aa, nn, ss, rfl, _⟩, hb⟩
              exact ⟨kk, aa, nn, ss, by rw [hRk]; rfl, hb⟩
            obtain ⟨tt, htt⟩ : ∃ tt : Tk, tt = ⟨(rd (S.drop k)).k, k + (rd (S.drop k)).far, (rd (S.drop k)).n, (rd (S.drop k)).s⟩ := ⟨_, rfl⟩
            rw [← htt] at hE
            have HTP : Hid (tt.p = k + (rd (S.drop k)).far) := by show _ = _; rw [htt]
            have HT : Hid (pcs S.length S = ts ++ [tt] ∧ tt.k = 0) := ⟨hE.symm, by rw [htt]; exact hRk⟩
            clear hone hpc hpos hdd hE hRk htt hsk hdr hcl hbl
            generalize (rd (S.drop k)).far = far at *
            rcases hcase with e47 | ⟨e47, g3⟩ | ⟨hk1, d, hd, e47, d47⟩
            · skip
              go_wp2_with (first
                | (go_at_call 30; refine (HBl.out _).mono ?_; rintro e w1 ⟨rfl, hw⟩; replace hw := hw.symm; subst hw)
                | (go_at_call 31; refine (HO0.out _).mono ?_; rintro e w1 ⟨kk, aa, nn, ss, rfl, hb1⟩))
              refine bodyPost_ret (v := .tuple #[.slice none 0 0, .int .i64 ((k + far : Nat) : Int), .int .i64 20]) (by simp [results, Tryd.results11, go_sem]) rfl ⟨belA (below_aft hB hb1), .inr ⟨ts, tt, by rw [HTP.out], HT.out.1, HT.out.2⟩⟩
            · have g3' : ¬ ((k : Int) + 1 < (S.length : Int)) := by omega
              go_wp2_with (first
                | (go_at_call 30; refine (HBl.out _).mono ?_; rintro e w1 ⟨rfl, hw⟩; replace hw := hw.symm; subst hw)
                | (go_at_call 31; refine (HO0.out _).mono ?_; rintro e w1 ⟨kk, aa, nn, ss, rfl, hb1⟩))
              refine bodyPost_ret (v := .tuple #[.slice none 0 0, .int .i64 ((k + far : Nat) : Int), .int .i64 20]) (by simp [results, Tryd.results11, go_sem]) rfl ⟨belA (below_aft hB hb1), .inr ⟨ts, tt, by rw [HTP.out], HT.out.1, HT.out.2⟩⟩
            · have g3 : (k : Int) + 1 < (S.length : Int) := by omega
              have g4 : (0 : Int) ≤ (k : Int) + 1 := by omega
              go_wp2_with (first
                | (go_at_call 30; refine (HBl.out _).mono ?_; rintro e w1 ⟨rfl, hw⟩; replace hw := hw.symm; subst hw)
                | (go_at_call 31; refine (HO0.out _).mono ?_; rintro e w1 ⟨kk, aa, nn, ss, rfl, hb1⟩))
              refine bodyPost_ret (v := .tuple #[.slice none 0 0, .int .i64 ((k + far : Nat) : Int), .int .i64 20]) (by simp [results, Tryd.results11, go_sem]) rfl ⟨belA (below_aft hB hb1), .inr ⟨ts, tt, by rw [HTP.out], HT.out.1, HT.out.2⟩⟩
          · have hE2 := hE
            rw [pcs_more hsk (by rw [← hdr]; exact hRk), hpc, if_neg hRk, ← hdr, List.drop_drop] at hE2
            have HO1' : ∀ W, Calls Tryd.prog 31 #[.string (str S), .int .i64 (k : Int)] W fun e w' => e = .returned (.tuple #[tok ((rd (S.drop k)).k : Int) (k : Int) ((rd (S.drop k)).n : Int) (str (rd (S.drop k)).s), .int .i64 ((k + (rd (S.drop k)).far : Nat) : Int), .bool true]) ∧ Below W.heap.size W w' := fun W => by
              refine (hone W).mono ?_
              rintro e w' ⟨⟨v, rfl, kk, aa, nn, ss, rfl, hv⟩, hb⟩
              obtain ⟨rfl, rfl, rfl, rfl⟩ := hv hRk
              exact ⟨by rw [show ((rd (S.drop k)).k != 0) = true by simpa using hRk], hb⟩
            have hfp := hpos hRk
            obtain ⟨tt, htt⟩ : ∃ tt : Tk, tt = ⟨(rd (S.drop k)).k, k + 0, (rd (S.drop k)).n, (rd (S.drop k)).s⟩ := ⟨_, rfl⟩
            rw [← htt] at hE2
            have HO1 : Hid (∀ W, Calls Tryd.prog 31 #[.string (str S), .int .i64 (k : Int)] W fun e w' => e = .returned (.tuple #[tok (tt.k : Int) (tt.p : Int) (tt.n : Int) (str tt.s), .int .i64 ((k + (rd (S.drop k)).far : Nat) : Int), .bool true]) ∧ Below W.heap.size W w') := by rw [htt]; exact HO1'
            have HE3 : Hid ((ts ++ [tt]) ++ pcs S.length (S.drop (k + (rd (S.drop k)).far)) = pcs S.length S) := by
              show _ = _
              rw [List.append_assoc]; exact hE2
            have HZ3 : Hid (∀ t ∈ ts ++ [tt], t.k ≠ 0) := fun t ht => by
              rcases List.mem_append.1 ht with h | h
              · exact HZ.out t h
              · simp at h; rw [h, htt]; exact hRk
            clear hone hpc hpos hdd hE hE2 hRk htt hsk hdr hcl hbl HO1'
            generalize (rd (S.drop k)).far = far at *
            rcases hcase with e47 | ⟨e47, g3⟩ | ⟨hk1, d, hd, e47, d47⟩
            · skip
              go_wp2_with (first
                | (go_at_call 30; refine (HBl.out _).mono ?_; rintro e w1 ⟨rfl, hw⟩; replace hw := hw.symm; subst hw)
                | (go_at_call 31; refine (HO1.out _).mono ?_; rintro e w1 ⟨rfl, hb1⟩; have hO1 := ownsRow_kept hO (grown_of_below (r := none) hb1) (fun k e => by cases e); have hB1 := below_aft hB hb1; have hs1 := hB1.size; have hO2 : TRow ((w1.alloc (Tok tt.k tt.p tt.n (str tt.s))).alloc (Tok tt.k tt.p tt.n (str tt.s))) w.heap.size _ ts := (hO1.alloc _).alloc _; have hnews := news_tok (w1.alloc (Tok tt.k tt.p tt.n (str tt.s))) tt.k tt.p tt.n (str tt.s); rw [World.size_alloc] at hnews)
                | (at_builtin; refine wpList_append_own _ rfl _ _ 23 rfl w.heap.size 32 i0 (tok 0 0 0 ⟨#[]⟩) 4 40 Tryd.underlying23 hi hz0 hz1 hz2 rfl (by decide) _ ts.length (tkCells ts) rfl hO2 ⟨w1.heap.size + 1, 0, none⟩ 1 1 [.int .u8 (tt.k : Int), .int .i64 (tt.p : Int), .int .i64 (tt.n : Int), .string (str tt.s)] rfl rfl hnews (ones_tok _ _ _ _) (by unfold maxLen; omega) (by omega) (by simp; omega) ?_; intro v' w4 ho4 hg4 _hn; obtain ⟨sa, sc, rfl⟩ := row_slice ho4))
              refine ⟨⟨k + far, ts ++ [tt], by omega, by simp; omega, by rfl, ?_, (belA (belA hB1)).grown hg4 (by simp; omega) (fun j e => (hO2.lt j e).1), HE3, HZ3⟩, by simp [intOf]; omega⟩
              show World.ownsRow _ _ _ _ _ (ts ++ [tt]).length (tkCells (ts ++ [tt]))
              rw [tkCells_snoc, List.length_append]
              exact ho4
            · have g3' : ¬ ((k : Int) + 1 < (S.length : Int)) := by omega
              go_wp2_with (first
                | (go_at_call 30; refine (HBl.out _).mono ?_; rintro e w1 ⟨rfl, hw⟩; replace hw := hw.symm; subst hw)
                | (go_at_call 31; refine (HO1.out _).mono ?_; rintro e w1 ⟨rfl, hb1⟩; have hO1 := ownsRow_kept hO (grown_of_below (r := none) hb1) (fun k e => by cases e); have hB1 := below_aft hB hb1; have hs1 := hB1.size; have hO2 : TRow ((w1.alloc (Tok tt.k tt.p tt.n (str tt.s))).alloc (Tok tt.k tt.p tt.n (str tt.s))) w.heap.size _ ts := (hO1.alloc _).alloc _; have hnews := news_tok (w1.alloc (Tok tt.k tt.p tt.n (str tt.s))) tt.k tt.p tt.n (str tt.s); rw [World.size_alloc] at hnews)
                | (at_builtin; refine wpList_append_own _ rfl _ _ 23 rfl w.heap.size 32 i0 (tok 0 0 0 ⟨#[]⟩) 4 40 Tryd.underlying23 hi hz0 hz1 hz2 rfl (by decide) _ ts.length (tkCells ts) rfl hO2 ⟨w1.heap.size + 1, 0, none⟩ 1 1 [.int .u8 (tt.k : Int), .int .i64 (tt.p : Int), .int .i64 (tt.n : Int), .string (str tt.s)] rfl rfl hnews (ones_tok _ _ _ _) (by unfold maxLen; omega) (by omega) (by simp; omega) ?_; intro v' w4 ho4 hg4 _hn; obtain ⟨sa, sc, rfl⟩ := row_slice ho4))
              refine ⟨⟨k + far, ts ++ [tt], by omega, by simp; omega, by rfl, ?_, (belA (belA hB1)).grown hg4 (by simp; omega) (fun j e => (hO2.lt j e).1), HE3, HZ3⟩, by simp [intOf]; omega⟩
              show World.ownsRow _ _ _ _ _ (ts ++ [tt]).length (tkCells (ts ++ [tt]))
              rw [tkCells_snoc, List.length_append]
              exact ho4
            · have g3 : (k : Int) + 1 < (S.length : Int) := by omega
              have g4 : (0 : Int) ≤ (k : Int) + 1 := by omega
              go_wp2_with (first
                | (go_at_call 30; refine (HBl.out _).mono ?_; rintro e w1 ⟨rfl, hw⟩; replace hw := hw.symm; subst hw)
                | (go_at_call 31; refine (HO1.out _).mono ?_; rintro e w1 ⟨rfl, hb1⟩; have hO1 := ownsRow_kept hO (grown_of_below (r := none) hb1) (fun k e => by cases e); have hB1 := below_aft hB hb1; have hs1 := hB1.size; have hO2 : TRow ((w1.alloc (Tok tt.k tt.p tt.n (str tt.s))).alloc (Tok tt.k tt.p tt.n (str tt.s))) w.heap.size _ ts := (hO1.alloc _).alloc _; have hnews := news_tok (w1.alloc (Tok tt.k tt.p tt.n (str tt.s))) tt.k tt.p tt.n (str tt.s); rw [World.size_alloc] at hnews)
                | (at_builtin; refine wpList_append_own _ rfl _ _ 23 rfl w.heap.size 32 i0 (tok 0 0 0 ⟨#[]⟩) 4 40 Tryd.underlying23 hi hz0 hz1 hz2 rfl (by decide) _ ts.length (tkCells ts) rfl hO2 ⟨w1.heap.size + 1, 0, none⟩ 1 1 [.int .u8 (tt.k : Int), .int .i64 (tt.p : Int), .int .i64 (tt.n : Int), .string (str tt.s)] rfl rfl hnews (ones_tok _ _ _ _) (by unfold maxLen; omega) (by omega) (by simp; omega) ?_; intro v' w4 ho4 hg4 _hn; obtain ⟨sa, sc, rfl⟩ := row_slice ho4))
              refine ⟨⟨k + far, ts ++ [tt], by omega, by simp; omega, by rfl, ?_, (belA (belA hB1)).grown hg4 (by simp; omega) (fun j e => (hO2.lt j e).1), HE3, HZ3⟩, by simp [intOf]; omega⟩
              show World.ownsRow _ _ _ _ _ (ts ++ [tt]).length (tkCells (ts ++ [tt]))
              rw [tkCells_snoc, List.length_append]
              exact ho4
    · obtain rfl : k = S.length := by omega
      have hfin : ts = pcs S.length S := by
        have := HE.out
        rwa [List.drop_eq_nil_of_le (Nat.le_refl _), pcs_nil (l := []) rfl, List.append_nil] at this
      obtain ⟨sa, sc, rfl⟩ := row_slice hO
      go_wp2
      refine bodyPost_ret (v := .tuple #[.slice sa ts.length sc, .int .i64 0, .int .i64 0]) (by simp [results, Tryd.results11, go_sem]) rfl ⟨hB, .inl ⟨_, rfl, ?_, ?_⟩⟩
      · rw [← hfin]; exact hO
      · rw [← hfin]; exact HZ.out
end Go.Proofs.YtpnamkpoapcgeaaDoor
