import Derived.Test.YtddjmhfcaeckgaaDoorZ
namespace Go.Proofs.YtddjmhfcaeckgaaDoor
open Go.RowKit
set_option linter.unusedVariables false
set_option linter.unusedSimpArgs false

theorem blk_step {L ys : List Int} {z : Int} {q g : Nat} {w : World} (HT : Hid (L = turn1 (bits .or .u64) ys z)) (hq : z / 64 = (q : Int)) (hqn : q < ys.length) (h : Blk w g ys) : Blk (w.setCell ⟨g, q, none⟩ (.int .u64 (bits .or .u64 ys[q] (wbit z)))) g L := by
  rw [HT.out]
  have e : turn1 (bits .or .u64) ys z = ys.set q (bits .or .u64 ys[q] (wbit z)) := by
    unfold turn1
    rw [hq]
    simp [hqn]
  rw [e]
  exact h.set q _
theorem none_any (x : Int) (n : Nat) (w : World) (h0 : 0 ≤ x) (h1 : x ≤ 1032) (hn : (n : Int) = (x + 63) / 64) :
    Calls Tryd.prog 41 #[.int .i64 x] w fun e w' => ∃ g, e = .returned (.agg #[.int .i64 x, .slice (some ⟨g, 0, none⟩) n n]) ∧ w.heap.size ≤ g ∧ Blk w' g (List.replicate n 0) ∧ Below w.heap.size w w' := by
  obtain ⟨i0, hi, hz0, hz1, hz2⟩ := info_parts Tryd.info66
  have hm : n ≤ 100 := by omega
  have HN : Hid ((n : Int) = (x + 63) / 64) := hn
  clear hn
  have b1 := At.new w (Two (.int .i64 0) (.slice none 0 0))
  go_enter Tryd.func41, Tryd.ntmps41
  go_wp2_with (at_make; refine wpList_make_full _ rfl _ _ 22 rfl (w.heap.size + 1) 66 i0 (.int .u64 0) 1 Tryd.underlying22 hi hz0 hz1 .i64 .i64 _ _ n rfl rfl HN.out.symm HN.out.symm (by rw [hz2]; omega) (by unfold maxLen; omega) (by simp) ?_; intro w2 hown2 hgrow2; have HM := blk_made hown2; have hb2 := below_of_grown hgrow2; clear hown2 hgrow2; have b12 := b1.below hb2; obtain ⟨d10, d11, g1⟩ := b12.all)
  simp only [World.size_alloc] at HM
  refine bodyPost_ret (v := .agg #[.int .i64 x, .slice (some ⟨w.heap.size + 1, 0, none⟩) n n]) (by simp [results, Tryd.results41, go_sem, d10, d11]) rfl ⟨w.heap.size + 1, rfl, by omega, ?_, ?_⟩
  · exact (HM.at.set (by simp) _).set (by simp) _
  · exact below_setTwo (below1 hb2) (by omega) _ _

set_option maxHeartbeats 1500000 in
theorem refRead_long (xn m n : Nat) (s : ByteArray) (w : World) (h1 : xn ≤ 1032) (hm : ((xn : Int) + 7) / 8 = (m : Int)) (hn : (n : Int) = ((xn : Int) + 63) / 64) (hs : s.size ≤ 5000) (hsz : m < s.size) (hgo : ∀ i j, i < m → j < 8 → ¬ badAt xn s i (8 * i + j)) :
    Calls Tryd.prog 37 #[.int .i64 xn, .string s] w fun e w' => e = .returned (.tuple #[.agg #[.int .i64 0, .slice none 0 0], .int .i64 m, .int .i64 10]) ∧ Below w.heap.size w w' := by
  have h1' : ¬ 1032 < (xn : Int) := by omega
  have hmx : m ≤ 130 := by omega
  have b1 := At.new w (Two (.int .i64 0) (.slice none 0 0))
  have hbA : Below w.heap.size w (w.alloc (Two (.int .i64 0) (.slice none 0 0))) := (Below.refl _ _).alloc (Nat.le_refl _) _
  have HGo : Hid (∀ i j, i < m → j < 8 → ¬ badAt xn s i (8 * i + j)) := hgo
  have HN : Hid ((n : Int) = ((xn : Int) + 63) / 64) := hn
  have HX : Hid (∀ k, k < xn → k / 8 < m ∧ k / 64 < n) := fun k hk => ⟨by omega, by omega⟩
  have hn17 : n ≤ 17 := by omega
  clear hgo hn
  go_enter Tryd.func37, Tryd.ntmps37
  go_wp2
  go_loopw [8] (fun i wr => ∃ k : Nat, k ≤ m ∧ i = .int .i64 k ∧ Below w.heap.size w wr ∧ At wr w.heap.size (Two (.int .i64 0) (.slice none 0 0))) (fun i _ => m - (intOf i).toNat)
  case atStart => exact ⟨0, Nat.zero_le _, rfl, hbA, b1⟩
  case round =>
    obtain ⟨i, hit, rfl, hbr, b1r⟩ := hrel
    clear b1 hbA
    obtain ⟨c10, c11, f1⟩ := b1r.all
    by_cases him : i < m
    · have hi0 : (i : Int) < (m : Int) := by omega
      have his : i < s.size := by omega
      have his' : ¬ ((s.size : Int) ≤ (i : Int)) := by omega
      go_wp2
      have hbq : sb s i = ((s[i]'his).toNat : Int) := by unfold sb; rw [dif_pos his]
      obtain ⟨b, hb⟩ : ∃ b, (((s[i]'his)).toNat : Int) = b := ⟨_, rfl⟩
      have hidx := idx_str his hb
      rw [hb] at hbq
      have HSB : Hid (sb s i = b) := hbq
      clear hbq hb
      go_loopw [9] (fun k wx => ∃ kk d : Nat, 8 * i ≤ kk ∧ kk ≤ 8 * i + 8 ∧ k = .int .i64 kk ∧ wx = wr.drewN d ∧ Hid (∀ k', 8 * i ≤ k' → k' < kk → ¬ badAt xn s i k')) (fun k _ => 8 * i + 8 - (intOf k).toNat)
      case atStart => exact ⟨8 * i, 0, Nat.le_refl _, by omega, by go_num, rfl, fun k' h1 h2 => by omega⟩
      case round =>
        obtain ⟨kk, d, hk1, hk2, rfl, rfl, hnb⟩ := hrel
        by_cases hkk : kk < 8 * i + 8
        · have hkk' : (kk : Int) < 8 * (i : Int) + 8 := by omega
          by_cases hx : xn ≤ kk
          · have hd : decide ((xn : Int) ≤ (kk : Int)) = true := by simp; omega
            cases hbit : (bits .and .u8 b (128 / 2 ^ (kk % 8)) != 0)
            · have HN : Hid (¬ badAt xn s i kk) := fun h => by
                have h2 := h.2
                rw [HSB.out, hbit] at h2
                cases h2
              go_wp2
              go_quiet (fail)
              go_wp2
              go_roundw
              case rel => exact ⟨kk + 1, _, by omega, by omega, by go_num, rfl, fun k' h1 h2 => by
                by_cases e : k' = kk
                · subst e; exact HN.out
                · exact hnb.out k' h1 (by omega)⟩
              case measure => simp [intOf]; omega
            · have HBad : Hid (badAt xn s i kk) := ⟨hx, by rw [HSB.out]; exact hbit⟩
              exfalso
              have h := HGo.out i (kk - 8 * i) him (by omega)
              rw [show 8 * i + (kk - 8 * i) = kk by omega] at h
              exact h HBad.out
          · have hd : decide ((xn : Int) ≤ (kk : Int)) = false := by simp; omega
            have HN : Hid (¬ badAt xn s i kk) := fun h => hx h.1
            go_wp2
            go_quiet (fail)
            go_wp2
            go_roundw
            case rel => exact ⟨kk + 1, _, by omega, by omega, by go_num, rfl, fun k' h1 h2 => by
              by_cases e : k' = kk
              · subst e; exact HN.out
              · exact hnb.out k' h1 (by omega)⟩
            case measure => simp [intOf]; omega
        · have hke : kk = 8 * i + 8 := by omega
          subst hke
          go_wp2
          go_roundw
          case rel => exact ⟨i + 1, by omega, by go_num, below_drewN hbr _, b1r.drewN _⟩
          case measure => simp [intOf]; omega
    · have hie : i = m := by omega
      subst hie
      have hlg : (i : Int) < (s.size : Int) := by omega
      go_wp2
      refine bodyPost_ret (v := .tuple #[.agg #[.int .i64 0, .slice none 0 0], .int .i64 i, .int .i64 10]) (by simp [results, Tryd.results37, go_sem, c10, c11]) rfl ⟨rfl, ?_⟩
      first
        | exact below_setTwo hbr (Nat.le_refl _) _ _
        | exact hbr
set_option maxHeartbeats 1500000 in
theorem refRead_ok (xn m n : Nat) (s : ByteArray) (w : World) (h1 : xn ≤ 1032) (hm : ((xn : Int) + 7) / 8 = (m : Int)) (hn : (n : Int) = ((xn : Int) + 63) / 64) (hs : s.size ≤ 5000) (hsz : s.size = m) (hgo : ∀ i j, i < m → j < 8 → ¬ badAt xn s i (8 * i + j)) :
    Calls Tryd.prog 37 #[.int .i64 xn, .string s] w fun e w' => ∃ g, e = .returned (.tuple #[.agg #[.int .i64 xn, .slice (some ⟨g, 0, none⟩) n n], .int .i64 0, .int .i64 0]) ∧ w.heap.size ≤ g ∧ Blk w' g (wst s n xn) ∧ Below w.heap.size w w' := by
  have h1' : ¬ 1032 < (xn : Int) := by omega
  have hmx : m ≤ 130 := by omega
  have b1 := At.new w (Two (.int .i64 0) (.slice none 0 0))
  have hbA : Below w.heap.size w (w.alloc (Two (.int .i64 0) (.slice none 0 0))) := (Below.refl _ _).alloc (Nat.le_refl _) _
  have HGo : Hid (∀ i j, i < m → j < 8 → ¬ badAt xn s i (8 * i + j)) := hgo
  have HN : Hid ((n : Int) = ((xn : Int) + 63) / 64) := hn
  have HX : Hid (∀ k, k < xn → k / 8 < m ∧ k / 64 < n) := fun k hk => ⟨by omega, by omega⟩
  have hn17 : n ≤ 17 := by omega
  clear hgo hn
  go_enter Tryd.func37, Tryd.ntmps37
  go_wp2
  go_loopw [8] (fun i wr => ∃ k : Nat, k ≤ m ∧ i = .int .i64 k ∧ Below w.heap.size w wr ∧ At wr w.heap.size (Two (.int .i64 0) (.slice none 0 0))) (fun i _ => m - (intOf i).toNat)
  case atStart => exact ⟨0, Nat.zero_le _, rfl, hbA, b1⟩
  case round =>
    obtain ⟨i, hit, rfl, hbr, b1r⟩ := hrel
    clear b1 hbA
    obtain ⟨c10, c11, f1⟩ := b1r.all
    by_cases him : i < m
    · have hi0 : (i : Int) < (m : Int) := by omega
      have his : i < s.size := by omega
      have his' : ¬ ((s.size : Int) ≤ (i : Int)) := by omega
      go_wp2
      have hbq : sb s i = ((s[i]'his).toNat : Int) := by unfold sb; rw [dif_pos his]
      obtain ⟨b, hb⟩ : ∃ b, (((s[i]'his)).toNat : Int) = b := ⟨_, rfl⟩
      have hidx := idx_str his hb
      rw [hb] at hbq
      have HSB : Hid (sb s i = b) := hbq
      clear hbq hb
      go_loopw [9] (fun k wx => ∃ kk d : Nat, 8 * i ≤ kk ∧ kk ≤ 8 * i + 8 ∧ k = .int .i64 kk ∧ wx = wr.drewN d ∧ Hid (∀ k', 8 * i ≤ k' → k' < kk → ¬ badAt xn s i k')) (fun k _ => 8 * i + 8 - (intOf k).toNat)
      case atStart => exact ⟨8 * i, 0, Nat.le_refl _, by omega, by go_num, rfl, fun k' h1 h2 => by omega⟩
      case round =>
        obtain ⟨kk, d, hk1, hk2, rfl, rfl, hnb⟩ := hrel
        by_cases hkk : kk < 8 * i + 8
        · have hkk' : (kk : Int) < 8 * (i : Int) + 8 := by omega
          by_cases hx : xn ≤ kk
          · have hd : decide ((xn : Int) ≤ (kk : Int)) = true := by simp; omega
            cases hbit : (bits .and .u8 b (128 / 2 ^ (kk % 8)) != 0)
            · have HN : Hid (¬ badAt xn s i kk) := fun h => by
                have h2 := h.2
                rw [HSB.out, hbit] at h2
                cases h2
              go_wp2
              go_quiet (fail)
              go_wp2
              go_roundw
              case rel => exact ⟨kk + 1, _, by omega, by omega, by go_num, rfl, fun k' h1 h2 => by
                by_cases e : k' = kk
                · subst e; exact HN.out
                · exact hnb.out k' h1 (by omega)⟩
              case measure => simp [intOf]; omega
            · have HBad : Hid (badAt xn s i kk) := ⟨hx, by rw [HSB.out]; exact hbit⟩
              exfalso
              have h := HGo.out i (kk - 8 * i) him (by omega)
              rw [show 8 * i + (kk - 8 * i) = kk by omega] at h
              exact h HBad.out
          · have hd : decide ((xn : Int) ≤ (kk : Int)) = false := by simp; omega
            have HN : Hid (¬ badAt xn s i kk) := fun h => hx h.1
            go_wp2
            go_quiet (fail)
            go_wp2
            go_roundw
            case rel => exact ⟨kk + 1, _, by omega, by omega, by go_num, rfl, fun k' h1 h2 => by
              by_cases e : k' = kk
              · subst e; exact HN.out
              · exact hnb.out k' h1 (by omega)⟩
            case measure => simp [intOf]; omega
        · have hke : kk = 8 * i + 8 := by omega
          subst hke
          go_wp2
          go_roundw
          case rel => exact ⟨i + 1, by omega, by go_num, below_drewN hbr _, b1r.drewN _⟩
          case measure => simp [intOf]; omega
    · have hie : i = m := by omega
      subst hie
      have hlg : (s.size : Int) = (i : Int) := by omega
      have hx0 : (0 : Int) ≤ (xn : Int) := by omega
      have hx1 : (xn : Int) ≤ 1032 := by omega
      go_wp2_with (go_at_call 41; refine (none_any _ n _ hx0 hx1 HN.out).mono ?_; rintro e w2 ⟨g, rfl, hg, hblk, hb2⟩)
      have b12 := (b1r.below hb2).alloc (Two (.int .i64 xn) (.slice (some ⟨g, 0, none⟩) n n))
      have bo2 := At.new w2 (Two (.int .i64 xn) (.slice (some ⟨g, 0, none⟩) n n))
      have hg2 := Blk.alloc hblk (Two (.int .i64 xn) (.slice (some ⟨g, 0, none⟩) n n))
      have hb22 : Below w.heap.size w (w2.alloc (Two (.int .i64 xn) (.slice (some ⟨g, 0, none⟩) n n))) := (hbr.trans (hb2.mono hbr.size)).alloc (by have := hbr.size; have := hb2.size; omega) _
      have hgl := hblk.lt
      have hs0 := b1r.lt
      have hd1 : w.heap.size ≠ g := by omega
      have hd2 : w2.heap.size ≠ g := by omega
      have hd3 : w.heap.size ≤ g := by omega
      have hd4 : g ≠ w.heap.size := by omega
      have hd5 : w2.heap.size ≠ w.heap.size := by have := hb2.size; omega
      clear b1r hblk hb2 hbr c10 c11 f1 HGo
      go_loopw [11] (fun t wx => ∃ k : Nat, k ≤ xn ∧ t = .int .i64 k ∧ Below w.heap.size w wx ∧ At wx w.heap.size (Two (.int .i64 0) (.slice none 0 0)) ∧ At wx w2.heap.size (Two (.int .i64 xn) (.slice (some ⟨g, 0, none⟩) n n)) ∧ Blk wx g (wst s n k)) (fun t _ => xn - (intOf t).toNat)
      case atStart => exact ⟨0, Nat.zero_le _, rfl, hb22, b12, bo2, hg2⟩
      case round =>
        obtain ⟨k, hk, rfl, hb3, b13, bo3, hG3⟩ := hrel
        clear hb22 b12 bo2 hg2
        obtain ⟨o0, o1, o2⟩ := bo3.all
        obtain ⟨r0, r1, r2⟩ := b13.all
        by_cases hlt : k < xn
        · obtain ⟨hk8, hk64⟩ := HX.out k hlt
          obtain ⟨q, hqq⟩ : ∃ q, q = k / 8 := ⟨_, rfl⟩
          have hq : (k : Int) / 8 = (q : Int) := by omega
          have hqs : q < s.size := by omega
          obtain ⟨b, hb⟩ : ∃ b, ((s[q]'hqs).toNat : Int) = b := ⟨_, rfl⟩
          have hidx := idx_str hqs hb
          have HBt : Hid (sbit s k = (bits .and .u8 b (128 / 2 ^ (k % 8)) != 0)) := by
            show sbit s k = _
            unfold sbit sb
            rw [← hqq, dif_pos hqs, hb]
            have e2 : bbit k = 128 / 2 ^ (k % 8) := by
              unfold bbit
              have : ((k : Int) % 8).toNat = k % 8 := by omega
              rw [this]
            rw [e2]
          have hx3 : IntKind.i64.wrap (q : Int) = (q : Int) := IntWalk.i64_in _ ⟨by omega, by omega⟩
          have hx4 : (k : Int).tdiv 8 = (q : Int) := (Int.tdiv_eq_ediv_of_nonneg (by omega)).trans hq
          have hx5 : (0 : Int) ≤ (k : Int) := by omega
          obtain ⟨p, hpp⟩ : ∃ p, p = k / 64 := ⟨_, rfl⟩
          have hp : (k : Int) / 64 = (p : Int) := by omega
          have hpn : p < n := by omega
          have hy3 : IntKind.i64.wrap (p : Int) = (p : Int) := IntWalk.i64_in _ ⟨by omega, by omega⟩
          have hy4 : (k : Int).tdiv 64 = (p : Int) := (Int.tdiv_eq_ediv_of_nonneg (by omega)).trans hp
          have hy5 : (k : Int).tmod 64 = (k : Int) % 64 := Int.tmod_eq_emod_of_nonneg (by omega)
          have hy6 := wrap_wbit (k : Int)
          have hy7 : 0 ≤ (k : Int) % 64 := by omega
          have hy8 : (0 : Int) ≤ (p : Int) := by omega
          have hy9 : (p : Int) < (n : Int) := by omega
          obtain ⟨ys, hys⟩ : ∃ ys, ys = wst s n k := ⟨_, rfl⟩
          have hyl : ys.length = n := by rw [hys, wst_len]
          rw [← hys] at hG3
          have hpl : p < ys.length := by omega
          have g1 := hG3.cell p hpl
          have g2 := hG3.frozen
          have hkx : (k : Int) < (xn : Int) := by omega
          clear hqq hb hk8 hk64 hpp hqs
          cases hbit : (bits .and .u8 b (128 / 2 ^ (k % 8)) != 0)
          · have HT : Hid (wst s n (k + 1) = ys) := by
              show putW (sbit s k) (wst s n k) k = ys
              rw [HBt.out, hbit, hys]; rfl
            clear hys
            go_wp2
            go_quiet (fail)
            go_wp2
            go_roundw
            case rel => exact ⟨k + 1, by omega, by go_num, below_drewN hb3 _, b13.drewN _, bo3.drewN _, by rw [HT.out]; exact hG3.at.drewN _⟩
            case measure => simp [intOf]; omega
          · have HT : Hid (wst s n (k + 1) = turn1 (bits .or .u64) ys k) := by
              show putW (sbit s k) (wst s n k) k = _
              rw [HBt.out, hbit, hys]; rfl
            clear hys
            go_wp2
            go_quiet (fail)
            go_wp2
            refine wp_region_still_tail 15 (by kernel_rfl) (by kernel_rfl) ?_
            simp only [List.take_succ_cons, List.take_zero, List.drop_succ_cons, List.drop_zero]
            change wpStill _ _ (World.drew (World.drewN wr _)) (fun a' => wpList _ _ _ _ a' (World.drew (World.drewN wr _))) _ _
            iterate 15 still_step
            refine wpStill_nil ?_
            go_wp2
            go_roundw
            case rel => exact ⟨k + 1, by omega, by go_num, (below_drewN hb3 _).setCell hd3 _, (b13.drewN _).set hd1 _, (bo3.drewN _).set hd2 _, blk_step HT hp hpl (hG3.at.drewN _)⟩
            case measure => simp [intOf]; omega
        · have hkx : k = xn := by omega
          subst hkx
          go_wp2
          have bf := b13.setTwo (.int .i64 (k : Int)) (.slice (some ⟨g, 0, none⟩) n n)
          have hbf := below_setTwo hb3 (Nat.le_refl _) (.int .i64 (k : Int)) (.slice (some ⟨g, 0, none⟩) n n)
          have hGf : Blk ((wr.setCell ⟨w.heap.size, 0, none⟩ (.int .i64 (k : Int))).setCell ⟨w.heap.size, 1, none⟩ (.slice (some ⟨g, 0, none⟩) n n)) g (wst s n k) := (hG3.at.set hd4 _).set hd4 _
          clear b13 hb3 hG3 bo3 o0 o1 o2 r0 r1 r2
          generalize (wr.setCell ⟨w.heap.size, 0, none⟩ (.int .i64 (k : Int))).setCell ⟨w.heap.size, 1, none⟩ (.slice (some ⟨g, 0, none⟩) n n) = wf at *
          obtain ⟨e0, e1, _⟩ := bf.all
          exact bodyPost_ret (v := .tuple #[.agg #[.int .i64 (k : Int), .slice (some ⟨g, 0, none⟩) n n], .int .i64 0, .int .i64 0]) (by simp [results, Tryd.results37, go_sem, e0, e1]) rfl ⟨g, rfl, by omega, hGf, hbf⟩
end Go.Proofs.YtddjmhfcaeckgaaDoor
