import Derived.Test.YtpnamkpoapcgeaaDoorI
import Derived.StillTailTactics
namespace Go.Proofs.YtpnamkpoapcgeaaDoor
open Go.RowKit
set_option linter.unusedVariables false
set_option linter.unusedSimpArgs false

theorem twos_len : ∀ p ∈ twos, p.length = 2 := by decide
theorem ones_len : ∀ p ∈ ones, p.length = 1 := by decide
theorem sg_le (l : List UInt8) : (sg l).length ≤ l.length := by
  unfold sg
  split
  · rename_i p h
    exact (List.isPrefixOf_iff_prefix.1 (by simpa using List.find?_some h)).length_le
  · split
    · rename_i p h
      exact (List.isPrefixOf_iff_prefix.1 (by simpa using List.find?_some h)).length_le
    · simp
theorem intGo_far : ∀ (l : List UInt8) (v n : Nat), (intGo v n l).far ≤ n + l.length
  | [], v, n => by simp [intGo]
  | c :: r, v, n => by
    unfold intGo
    split
    · split
      · simp
      · split
        · simp
        · rename_i v' h
          have := intGo_far r v' (n + 1)
          simp; omega
    · simp
theorem rdLife_far (r : List UInt8) : (rdLife r).far ≤ 1 + r.length := by
  unfold rdLife
  split
  · simp
  · rename_i c r
    have h := (rowLen_le isN (c :: r)).2
    split
    · split <;> (rw [rdRow_far]; simp at h ⊢; omega)
    · simp
theorem rd_far (l : List UInt8) : (rd l).far ≤ l.length := by
  unfold rd
  split
  · simp
  · rename_i c r
    split
    · rw [rdRow_far]; exact (rowLen_le _ _).2
    · split
      · rw [rdRow_far]; exact (rowLen_le _ _).2
      · split
        · have := intGo_far (c :: r) 0 0; omega
        · split
          · have := rdLife_far r; simp; omega
          · unfold rdSign
            split
            · simp; split <;> omega
            · exact sg_le _
def po (l : List UInt8) : Nat := l.length - (sk false l).length
theorem po_le (l : List UInt8) : po l ≤ l.length := Nat.sub_le _ _
theorem po_drop {l : List UInt8} {n : Nat} (h : n ≤ l.length) (hd : l.drop n = sk false l) : n = po l := by
  unfold po; rw [← hd, List.length_drop]; omega
theorem passed_po (w : World) (l : List UInt8) (hl : l.length ≤ maxLen) : Calls Tryd.prog 76 #[.string (str l)] w fun e w' => e = .returned (.int .i64 (po l : Int)) ∧ w' = w := by
  refine (passedOver_any w l hl).mono ?_
  rintro e w' ⟨⟨n, rfl, h1, h2⟩, rfl⟩
  rw [po_drop h1 h2]
  exact ⟨rfl, rfl⟩
theorem drop_po (l : List UInt8) (hl : l.length ≤ maxLen) : l.drop (po l) = sk false l := by
  have : ∃ n, n ≤ l.length ∧ l.drop n = sk false l := by
    clear hl
    have key : ∀ (l : List UInt8), (sk true l <:+ l) ∧ (sk false l <:+ l) := by
      intro l
      induction l with
      | nil => exact ⟨List.suffix_refl _, List.suffix_refl _⟩
      | cons c r ih =>
        refine ⟨?_, ?_⟩
        · unfold sk; split
          · exact ih.2.trans (List.suffix_cons _ _)
          · exact ih.1.trans (List.suffix_cons _ _)
        · unfold sk; split
          · exact ih.2.trans (List.suffix_cons _ _)
          · split
            · exact ih.1.trans (List.suffix_cons _ _)
            · exact List.suffix_refl _
    obtain ⟨p, hp⟩ := (key l).2
    exact ⟨p.length, by rw [← hp]; simp, by conv => lhs; rw [← hp]; simp⟩
  obtain ⟨n, h1, h2⟩ := this
  rw [← po_drop h1 h2]; exact h2
theorem grown_below {w w1 w2 : World} {r : Option Nat} (h : w.grownBy w1 r) (hb : Below w1.heap.size w1 w2) : w.grownBy w2 r :=
  ⟨hb.os.trans h.os, hb.tape.trans h.tape, hb.output.trans h.output, Nat.le_trans h.size hb.size, fun k hk hne => (hb.block k (Nat.lt_of_lt_of_le hk h.size)).trans (h.block k hk hne)⟩
theorem grown_of_below {w w1 : World} {r : Option Nat} (hb : Below w.heap.size w w1) : w.grownBy w1 r := ⟨hb.os, hb.tape, hb.output, hb.size, fun k hk _ => hb.block k hk⟩
theorem grown_one (w : World) (b : Nat) (v : Value) : w.grownBy (w.setCell ⟨b, 0, none⟩ v) (some b) :=
  ⟨rfl, rfl, rfl, by simp, fun k hk hne => Below.heap_setCell w ⟨b, 0, none⟩ v k (fun e => hne (by rw [e]))⟩
theorem grown_trans {w w1 w2 : World} {r : Option Nat} (h : w.grownBy w1 r) (h' : w1.grownBy w2 r) : w.grownBy w2 r :=
  ⟨h'.os.trans h.os, h'.tape.trans h.tape, h'.output.trans h.output, Nat.le_trans h.size h'.size, fun k hk hne => (h'.block k (Nat.lt_of_lt_of_le hk h.size) hne).trans (h.block k hk hne)⟩
theorem grown_set {w w1 : World} {g : Nat} (h : w.grownBy w1 (some g)) (q : Nat) (u : Value) : w.grownBy (w1.setCell ⟨g, q, none⟩ u) (some g) :=
  ⟨h.os, h.tape, h.output, by simpa using h.size, fun k hk hr => (Below.heap_setCell w1 ⟨g, q, none⟩ u k (by simpa using hr)).trans (h.block k hk hr)⟩
theorem grown_new {w w1 : World} {r : Option Nat} {b : Nat} (h : w.grownBy w1 r) (hb : w.heap.size ≤ b) (q : Nat) (u : Value) : w.grownBy (w1.setCell ⟨b, q, none⟩ u) r :=
  ⟨h.os, h.tape, h.output, by simpa using h.size, fun k hk hr => (Below.heap_setCell w1 ⟨b, q, none⟩ u k (fun e => by simp at e; omega)).trans (h.block k hk hr)⟩
theorem grown_tok {w w1 : World} {r : Option Nat} {b : Nat} (h : w.grownBy w1 r) (hb : w.heap.size ≤ b) (k p n : Int) (s : ByteArray) : w.grownBy (setTok w1 b k p n s) r :=
  grown_new (grown_new (grown_new (grown_new h hb 0 _) hb 1 _) hb 2 _) hb 3 _
theorem At.grown {w w' : World} {b : Nat} {o : Obj} {r : Option Nat} (h : At w b o) (hg : w.grownBy w' r) (hne : some b ≠ r) : At w' b o := (hg.block b h.lt hne).trans h
/-- A token. -/
structure Tk where
  k : Nat
  p : Nat
  n : Nat
  s : List UInt8
abbrev tkV (t : Tk) : Value := tok (t.k : Int) (t.p : Int) (t.n : Int) (str t.s)
/-- The piece with which what is left begins, of a text of so many bytes. -/
def pc (N : Nat) (l : List UInt8) : Tk := ⟨(rd l).k, N - l.length + (if (rd l).k = 0 then (rd l).far else 0), (rd l).n, (rd l).s⟩
set_option maxRecDepth 100000 in
set_option maxHeartbeats 2000000 in
theorem reader1_nil (w : World) (bl bs : Nat) (l S : List UInt8) (hl : l.length ≤ maxLen) (hbl : At w bl (One (.string (str l)) 9)) (h0 : sk false l = []) :
    Calls Tryd.prog 75 #[.pointer (some ⟨bl, 0, none⟩), .pointer (some ⟨bs, 0, none⟩)] w fun e w' => e = .returned (.tuple #[tok 0 0 0 (str []), .bool false]) ∧ At w' bl (One (.string (str [])) 9) ∧ w.grownBy w' (some bl) := by
  have hd := drop_po l hl
  rw [h0] at hd
  have hple := po_le l
  have hl' := hl
  unfold maxLen at hl'
  obtain ⟨c0, f0⟩ := hbl.one
  have hlt := hbl.lt
  have hsz : (str l).size = l.length := str_size l
  have hx : (str l).extract (po l) l.length = str [] := by rw [str_ext, List.take_of_length_le (Nat.le_refl _), hd]
  have he : (str []).toList.isEmpty = true := by rw [str_list]; rfl
  have HP : Hid (∀ W, Calls Tryd.prog 76 #[.string (str l)] W fun e w' => e = .returned (.int .i64 (po l : Int)) ∧ w' = W) := fun W => passed_po W l hl
  generalize po l = n at *
  have g0 : (0 : Int) ≤ (n : Int) := by omega
  have g1 : (n : Int) ≤ (l.length : Int) := by omega
  go_enter Tryd.func75, Tryd.ntmps75
  go_wp2
  refine wp_region_still_tail 4 (by kernel_rfl) (by kernel_rfl) ?_
  simp only [List.take_succ_cons, List.take_zero, List.drop_succ_cons, List.drop_zero]
  change wpStill _ _ (World.drew _) (fun a' => wpList _ _ _ _ a' (World.drew _)) _ _
  iterate 2 still_step
  still_call (HP.out _)
  iterate 1 still_step
  refine wpStill_nil ?_
  go_wp2
  refine bodyPost_ret (v := .tuple #[tok 0 0 0 ⟨#[]⟩, .bool false]) (by simp [results, Tryd.results75, go_sem]) rfl ⟨rfl, ?_, ?_⟩
  · exact ((hbl.setOne (.string (str []))).alloc (Tok 0 0 0 ⟨#[]⟩)).drew
  · exact grown_below (grown_one w bl (.string (str []))) (((Below.refl _ _).alloc (Nat.le_refl _) (Tok 0 0 0 ⟨#[]⟩)).drew)
set_option maxRecDepth 100000 in
set_option maxHeartbeats 2000000 in
theorem reader1_cons (w : World) (bl bs : Nat) (l S : List UInt8) (c : UInt8) (r : List UInt8) (hS : S.length ≤ maxLen) (hlS : l.length ≤ S.length) (hbl : At w bl (One (.string (str l)) 9)) (hbs : At w bs (One (.string (str S)) 9)) (hne : bs ≠ bl) (h0 : sk false l = c :: r) :
    Calls Tryd.prog 75 #[.pointer (some ⟨bl, 0, none⟩), .pointer (some ⟨bs, 0, none⟩)] w fun e w' => e = .returned (.tuple #[tkV (pc S.length (c :: r)), .bool true]) ∧ At w' bl (One (.string (str ((c :: r).drop (rd (c :: r)).far))) 9) ∧ w.grownBy w' (some bl) := by
  have hl : l.length ≤ maxLen := Nat.le_trans hlS hS
  have hd := drop_po l hl
  rw [h0] at hd
  have hple := po_le l
  have hSl := hS
  unfold maxLen at hSl
  have hql : (c :: r).length ≤ l.length := by rw [← h0]; exact sk_len false l
  have hfar := rd_far (c :: r)
  have HR : Hid (∀ W, Calls Tryd.prog 37 #[.string (str (c :: r))] W fun e w' => e = .returned (rdV (rd (c :: r))) ∧ Below W.heap.size W w') := fun W => read_any W _ (Nat.le_trans hql hl)
  have he : (str (c :: r)).toList.isEmpty = false := by rw [str_list]; rfl
  obtain ⟨pp, hpp⟩ : ∃ pp, pp = pc S.length (c :: r) := ⟨_, rfl⟩
  unfold pc at hpp
  have hpp' : pc S.length (c :: r) = pp := by rw [hpp]; rfl
  rw [hpp']
  obtain ⟨c0, f0⟩ := hbl.one
  obtain ⟨e0, i0⟩ := hbs.one
  have hlt := hbl.lt
  have hlt2 := hbs.lt
  have hsz : (str l).size = l.length := str_size l
  have hSz : (str S).size = S.length := str_size S
  have hx : (str l).extract (po l) l.length = str (c :: r) := by rw [str_ext, List.take_of_length_le (Nat.le_refl _), hd]
  have HP : Hid (∀ W, Calls Tryd.prog 76 #[.string (str l)] W fun e w' => e = .returned (.int .i64 (po l : Int)) ∧ w' = W) := fun W => passed_po W l hl
  generalize po l = n at *
  have g0 : (0 : Int) ≤ (n : Int) := by omega
  have g1 : (n : Int) ≤ (l.length : Int) := by omega
  have hqz : (str (c :: r)).size = (c :: r).length := str_size _
  have hy : (str (c :: r)).extract (rd (c :: r)).far (c :: r).length = str ((c :: r).drop (rd (c :: r)).far) := by rw [str_ext, List.take_of_length_le (Nat.le_refl _)]
  generalize rd (c :: r) = R at *
  obtain ⟨Rk, Rn, Rs, Rf⟩ := R
  dsimp only at hfar hy hpp HR
  clear h0 hd hpp'
  generalize (c :: r) = q at *
  have hm1 : q.length ≤ S.length := by omega
  have g2 : (0 : Int) ≤ (Rf : Int) := by omega
  have g3 : (Rf : Int) ≤ (q.length : Int) := by omega
  have L1 : At ((w.setCell ⟨bl, 0, none⟩ (.string (str q))).alloc (Tok 0 0 0 ⟨#[]⟩)).drew bl (One (.string (str q)) 9) := ((hbl.setOne (.string (str q))).alloc _).drew
  have S1 : At ((w.setCell ⟨bl, 0, none⟩ (.string (str q))).alloc (Tok 0 0 0 ⟨#[]⟩)).drew bs (One (.string (str S)) 9) := ((hbs.set hne (.string (str q))).alloc _).drew
  have T1 : At ((w.setCell ⟨bl, 0, none⟩ (.string (str q))).alloc (Tok 0 0 0 ⟨#[]⟩)).drew w.heap.size (Tok 0 0 0 ⟨#[]⟩) := by
    have := (At.new (w.setCell ⟨bl, 0, none⟩ (.string (str q))) (Tok 0 0 0 ⟨#[]⟩)).drew
    rwa [World.size_setCell] at this
  have G1 : w.grownBy ((w.setCell ⟨bl, 0, none⟩ (.string (str q))).alloc (Tok 0 0 0 ⟨#[]⟩)).drew (some bl) := grown_below (grown_one w bl (.string (str q))) (((Below.refl _ _).alloc (Nat.le_refl _) (Tok 0 0 0 ⟨#[]⟩)).drew)
  obtain ⟨d, hdd⟩ : ∃ d : Nat, d = S.length - q.length := ⟨_, rfl⟩
  have hsub : (S.length : Int) - (q.length : Int) = (d : Int) := by omega
  rw [← hdd] at hpp
  have hd1 : (d : Int) ≤ (S.length : Int) := by omega
  have hd2 : (d : Int) + (Rf : Int) ≤ (S.length : Int) := by omega
  clear hdd
  by_cases hk : Rk = 0
  · subst hk
    go_enter Tryd.func75, Tryd.ntmps75
    go_wp2
    refine wp_region_still_tail 4 (by kernel_rfl) (by kernel_rfl) ?_
    simp only [List.take_succ_cons, List.take_zero, List.drop_succ_cons, List.drop_zero]
    change wpStill _ _ (World.drew _) (fun a' => wpList _ _ _ _ a' (World.drew _)) _ _
    iterate 2 still_step
    still_call (HP.out _)
    iterate 1 still_step
    refine wpStill_nil ?_
    go_wp2_with (go_at_call 37; refine (HR.out _).mono ?_; rintro e w1 ⟨rfl, hb1⟩; have L2 := L1.below hb1; have S2 := S1.below hb1; have T2 := T1.below hb1; have hl1 := L2.lt; have hl2 := S2.lt; have hl3 := T2.lt; have n1 : bl ≠ w1.heap.size := (by omega); have n2 : bs ≠ w1.heap.size := (by omega); have n3 : w.heap.size ≠ w1.heap.size := (by omega); have n4 : bl ≠ w.heap.size := (by omega); have n5 : w.heap.size ≠ bl := (by omega); obtain ⟨c0', f0'⟩ := L2.one; obtain ⟨e0', i0'⟩ := S2.one; obtain ⟨t0, t1, t2, t3, tf⟩ := T2.tok)
    have L3 := (L2.setOne (.string (str (q.drop Rf)))).offTok n4 0 ((d : Int) + (Rf : Int)) Rn (str Rs)
    have T3 := (T2.set (a := ⟨bl, 0, none⟩) n5 (.string (str (q.drop Rf)))).setTok 0 ((d : Int) + (Rf : Int)) Rn (str Rs)
    obtain ⟨d0, d1, d2, d3, f'⟩ := T3.tok
    unfold setTok at d0 d1 d2 d3
    refine bodyPost_ret (v := .tuple #[tok 0 ((d : Int) + (Rf : Int)) Rn (str Rs), .bool true]) (by simp [results, Tryd.results75, go_sem, d0, d1, d2, d3, hl3, n3]) rfl ⟨?_, ?_, ?_⟩
    · rw [hpp]; simp
    · exact L3.alloc _
    · exact grown_below (grown_tok (grown_set (grown_below G1 hb1) 0 (.string (str (q.drop Rf)))) (Nat.le_refl _) 0 ((d : Int) + (Rf : Int)) Rn (str Rs)) ((Below.refl _ _).alloc (Nat.le_refl _) _)
  · have hkb : ((Rk : Int) == 0) = false := by simp; omega
    go_enter Tryd.func75, Tryd.ntmps75
    go_wp2
    refine wp_region_still_tail 4 (by kernel_rfl) (by kernel_rfl) ?_
    simp only [List.take_succ_cons, List.take_zero, List.drop_succ_cons, List.drop_zero]
    change wpStill _ _ (World.drew _) (fun a' => wpList _ _ _ _ a' (World.drew _)) _ _
    iterate 2 still_step
    still_call (HP.out _)
    iterate 1 still_step
    refine wpStill_nil ?_
    go_wp2_with (go_at_call 37; refine (HR.out _).mono ?_; rintro e w1 ⟨rfl, hb1⟩; have L2 := L1.below hb1; have S2 := S1.below hb1; have T2 := T1.below hb1; have hl1 := L2.lt; have hl2 := S2.lt; have hl3 := T2.lt; have n1 : bl ≠ w1.heap.size := (by omega); have n2 : bs ≠ w1.heap.size := (by omega); have n3 : w.heap.size ≠ w1.heap.size := (by omega); have n4 : bl ≠ w.heap.size := (by omega); have n5 : w.heap.size ≠ bl := (by omega); obtain ⟨c0', f0'⟩ := L2.one; obtain ⟨e0', i0'⟩ := S2.one; obtain ⟨t0, t1, t2, t3, tf⟩ := T2.tok)
    have L3 := (L2.setOne (.string (str (q.drop Rf)))).offTok n4 Rk (d : Int) Rn (str Rs)
    have T3 := (T2.set (a := ⟨bl, 0, none⟩) n5 (.string (str (q.drop Rf)))).setTok Rk (d : Int) Rn (str Rs)
    obtain ⟨d0, d1, d2, d3, f'⟩ := T3.tok
    unfold setTok at d0 d1 d2 d3
    refine bodyPost_ret (v := .tuple #[tok Rk (d : Int) Rn (str Rs), .bool true]) (by simp [results, Tryd.results75, go_sem, d0, d1, d2, d3, hl3, n3]) rfl ⟨?_, ?_, ?_⟩
    · rw [hpp, if_neg hk, Nat.add_zero]
    · exact L3.alloc _
    · exact grown_below (grown_tok (grown_set (grown_below G1 hb1) 0 (.string (str (q.drop Rf)))) (Nat.le_refl _) Rk (d : Int) Rn (str Rs)) ((Below.refl _ _).alloc (Nat.le_refl _) _)
end Go.Proofs.YtpnamkpoapcgeaaDoor
