import Derived.Test.YtpnamkpoapcgeaaDoorKc
namespace Go.Proofs.YtpnamkpoapcgeaaDoor
open Go.RowKit Go.Shelf
attribute [local go_sem] Oper.semAt_some
set_option linter.unusedVariables false
set_option linter.unusedSimpArgs false

/-- How much a round has before it: what is left, the token that is held, whether one is held. -/
def ahead (bl : Nat) (v4 v5 : Value) (w : World) : Nat :=
  (match w.cell? ⟨bl, 0, none⟩ with | some (.string s) => s.size | _ => 0) +
  (match v5 with | .bool true => (match v4 with | .pointer (some a) => (match w.cell? a with | some (.int _ k) => if k = 0 then 1 else 2 | _ => 0) | _ => 0) | _ => 0)
theorem ahead_true {bl bt : Nat} {w : World} {l : List UInt8} {k p n : Int} {s : ByteArray} (h1 : At w bl (One (.string (str l)) 9)) (h2 : At w bt (Tok k p n s)) : ahead bl (.pointer (some ⟨bt, 0, none⟩)) (.bool true) w = l.length + (if k = 0 then 1 else 2) := by
  unfold ahead
  rw [h1.one.1]
  dsimp only
  rw [h2.tok.1]
  simp only [str_size]
theorem ahead_false {bl : Nat} {v : Value} {w : World} {l : List UInt8} (h1 : At w bl (One (.string (str l)) 9)) : ahead bl v (.bool false) w = l.length := by
  unfold ahead
  rw [h1.one.1]
  simp only [str_size, Nat.add_zero]

/-- What a call of the closure tells, and leaves. -/
theorem reader1_any (w : World) (bl bs : Nat) (l S : List UInt8) (hS : S.length ≤ maxLen) (hlS : l.length ≤ S.length) (hbl : At w bl (One (.string (str l)) 9)) (hbs : At w bs (One (.string (str S)) 9)) (hne : bs ≠ bl) :
    Calls Tryd.prog 75 #[.pointer (some ⟨bl, 0, none⟩), .pointer (some ⟨bs, 0, none⟩)] w fun e w' => ∃ (t : Tk) (ok : Bool) (l' : List UInt8), e = .returned (.tuple #[tkV t, .bool ok]) ∧ At w' bl (One (.string (str l')) 9) ∧ w.grownBy w' (some bl) ∧
      l'.length ≤ l.length ∧ (ok = true → pcs S.length l = t :: (if t.k = 0 then [] else pcs S.length l')) ∧ (ok = false → pcs S.length l = []) ∧ (ok = true → t.k ≠ 0 → l'.length < l.length) := by
  cases hs : sk false l with
  | nil =>
    refine (reader1_nil w bl bs l S (Nat.le_trans hlS hS) hbl hs).mono ?_
    rintro e w' ⟨rfl, h1, h2⟩
    exact ⟨⟨0, 0, 0, []⟩, false, [], rfl, h1, h2, Nat.zero_le _, fun h => (by cases h), fun _ => pcs_nil hs, fun h => (by cases h)⟩
  | cons c r =>
    refine (reader1_cons w bl bs l S c r hS hlS hbl hbs hne hs).mono ?_
    rintro e w' ⟨rfl, h1, h2⟩
    refine ⟨_, true, _, rfl, h1, h2, left_le hs, fun _ => ?_, fun h => (by cases h), fun _ hk => left_lt hs hk⟩
    by_cases hk : (rd (c :: r)).k = 0
    · rw [pcs_last hs hk, if_pos (show (pc S.length (c :: r)).k = 0 from hk)]
    · rw [pcs_more hs hk, if_neg (show ¬(pc S.length (c :: r)).k = 0 from hk)]
/-- What holds between two rounds of the iterator. -/
structure Mid (B : Nat) (S : List UInt8) (J : Option Nat → List Tk → World → Prop) (bl bs bt : Nat) (ok : Bool) (w : World) (r : Option Nat) (pre : List Tk) (l : List UInt8) (t : Tk) : Prop where
  j : J r pre w
  hl : At w bl (One (.string (str l)) 9)
  hs : At w bs (One (.string (str S)) 9)
  ht : At w bt (Tok (t.k : Int) (t.p : Int) (t.n : Int) (str t.s))
  bB : B ≤ bs ∧ bs < bl ∧ bl < bt
  rt : r ≠ some bt
  len : l.length ≤ S.length
  yes : ok = true → pre ++ t :: (if t.k = 0 then [] else pcs S.length l) = pcs S.length S
  no : ok = false → pre = pcs S.length S

theorem Apart.at {B : Nat} {r : Option Nat} {W W' : World} {b : Nat} {o : Obj} (h : Apart B r W W') (hb : At W b o) (h1 : B ≤ b) (h2 : r ≠ some b) : At W' b o := (h.same b h1 hb.lt h2).trans hb
theorem Tagged.ne {J : Option Nat → List Tk → World → Prop} (h : Tagged 32 J) {r : Option Nat} {s : List Tk} {W : World} (hs : J r s W) {b : Nat} {v : Value} (hb : At W b (One v 9)) : r ≠ some b := by
  intro e
  obtain ⟨cur, hk⟩ := h r s W hs b e
  unfold At at hb
  rw [hb] at hk
  cases hk
theorem Tagged.lt {J : Option Nat → List Tk → World → Prop} (h : Tagged 32 J) {r : Option Nat} {s : List Tk} {W : World} (hs : J r s W) {b : Nat} (hb : W.heap.size ≤ b) : r ≠ some b := by
  intro e
  obtain ⟨cur, hk⟩ := h r s W hs b e
  have := (Array.getElem?_eq_some_iff.1 hk).1
  omega

theorem World.grownBy_refl (w : World) (r : Option Nat) : w.grownBy w r := ⟨rfl, rfl, rfl, Nat.le_refl _, fun _ _ _ => rfl⟩

set_option maxRecDepth 100000 in
set_option maxHeartbeats 4000000 in
theorem pieces1_in (nn l bx : Nat) (hnn : 1 ≤ nn) (S : List UInt8) (hS : S.length ≤ maxLen) (J : Option Nat → List Tk → World → Prop) (Jx : List Tk → World → Prop) (W : World) (hbx : At W bx (One (.string (str S)) 9))
    (hJ : Bears W.heap.size J) (hT : Tagged 32 J)
    (hY : ∀ r pre x W1, J r pre W1 → pre.length < (pcs S.length S).length → YieldAt Fence.wide (nn - 1) Tryd.prog l #[tkV x] W1 fun e W' =>
      (e = .returned (.bool true) ∧ Apart W.heap.size r W1 W' ∧ ∃ r', J r' (pre ++ [x]) W') ∨ (e = .returned (.bool false) ∧ Jx (pre ++ [x]) W'))
    (h0 : J none [] W) :
    CallsIn Fence.wide nn Tryd.prog 45 #[.func (.yield l) #[] #[], .pointer (some ⟨bx, 0, none⟩)] W fun e W' => (∃ v, e = .returned v) ∧
      ((∃ r xs, xs = pcs S.length S ∧ J r xs W') ∨ ∃ pre, pre <+: pcs S.length S ∧ Jx pre W') := by
  obtain ⟨cx, fx⟩ := hbx.one
  obtain ⟨B, hB⟩ : ∃ B, B = W.heap.size := ⟨_, rfl⟩
  rw [← hB] at hJ hY

  refine callsIn_of_wp Tryd.func45 rfl trivial ?_ rfl
  simp only [Tryd.ntmps45, List.size_toArray, List.length_cons, List.length_nil, Nat.reduceAdd, Nat.reduceSub, Array.replicate_succ, Array.replicate_zero, List.push_toArray, List.append_toArray, List.nil_append, List.cons_append]
  gi_wp2_with (first
    | (refine ⟨trivial, ?_⟩; gi_at_call 46; refine (callsIn_wide.2 (reader_any W (str S))).mono ?_; rintro e w1 ⟨bl, bs, rfl, hl1, hs1, hbs, hbl, hb1⟩)
    | (refine ⟨trivial, ?_⟩; gi_at_call 75; refine (callsIn_wide.2 (reader1_any w1 bl bs S S hS (Nat.le_refl _) hl1 hs1 (by omega))).mono ?_; rintro e w2 ⟨t, ok, l2, rfl, hl2, hg2, hlen2, hyes, hno, -⟩))
  have hst : Mid B S J bl bs w2.heap.size ok (w2.alloc (Tok t.k t.p t.n (str t.s))) none [] l2 t := by
    have hB1 : W.grownBy w1 none := grown_of_below hb1
    have z1 := hl2.lt
    have j1 := hJ none [] W w1 none h0 hB1 (fun b e => by cases e)
    have j2 := hJ none [] w1 w2 (some bl) j1 hg2 (fun b e => by cases e; exact ⟨by omega, by simp⟩)
    have j3 := hJ none [] w2 _ none j2 (World.grownBy_alloc w2 (Tok t.k t.p t.n (str t.s)) none) (fun b e => by cases e)
    refine ⟨j3, hl2.alloc _, (hs1.grown hg2 (by simp; omega)).alloc _, At.new _ _, ⟨by omega, hbl, z1⟩, by simp, hlen2, fun h => ?_, fun h => ?_⟩
    · rw [List.nil_append]; exact (hyes h).symm
    · exact (hno h).symm
  gi_loopw [4, 5] (fun v4 v5 wr => ∃ bt r pre ll t ok, v4 = .pointer (some ⟨bt, 0, none⟩) ∧ v5 = .bool ok ∧ Mid B S J bl bs bt ok wr r pre ll t) (fun v4 v5 wr => ahead bl v4 v5 wr)
  case atStart => exact ⟨_, _, _, _, _, _, rfl, rfl, hst⟩
  case round =>
    obtain ⟨bt, r, pre, ll, t, ok, rfl, rfl, M⟩ := hrel
    cases ok with
    | false =>
      gi_wp2
      go_end0
      exact ⟨⟨_, rfl⟩, .inl ⟨r, pre, M.no rfl, M.j⟩⟩
    | true =>
      have yes := M.yes rfl
      have hlen : pre.length < (pcs S.length S).length := by rw [← yes]; simp
      obtain ⟨fn, tmps, assign, body, hy, hR⟩ := hY r pre t wr M.j hlen
      obtain ⟨k0, k1, k2, k3, kf⟩ := M.ht.tok
      gi_wp2
      refine hR.mono ?_
      clear k0 k1 k2 k3 kf
      rintro e W3 (⟨rfl, hap, r', hj3⟩ | ⟨rfl, hjx⟩)
      · have bB := M.bB
        have T3 := hap.at M.ht (by omega) M.rt
        have L3 := hap.at M.hl (by omega) (hT.ne M.j M.hl)
        have S3 := hap.at M.hs (by omega) (hT.ne M.j M.hs)
        obtain ⟨k0, k1, k2, k3, kf⟩ := T3.tok
        have z3 := T3.lt
        by_cases hk : t.k = 0
        · have hb : ((t.k : Int) == 0) = true := by simp [hk]
          gi_wp2
          refine bodyPost_ret (results_none rfl _ _ _) rfl ?_
          rw [if_pos hk] at yes
          exact ⟨⟨_, rfl⟩, .inl ⟨r', _, yes, hj3⟩⟩
        · have hb : ((t.k : Int) == 0) = false := by simp [hk]
          have L4 := L3.alloc (Tok t.k t.p t.n (str t.s))
          have S4 := S3.alloc (Tok t.k t.p t.n (str t.s))
          have T4 := At.new W3 (Tok t.k t.p t.n (str t.s))
          gi_wp2_with (first
            | (refine ⟨trivial, ?_⟩; gi_at_call 75; refine (callsIn_wide.2 (reader1_any _ bl bs ll S hS M.len L4 S4 (by omega))).mono ?_; rintro e w5 ⟨t5, ok5, l5, rfl, L5, hg5, hlen5, hyes5, hno5, hlt5⟩; obtain ⟨d0, d1, d2, d3, df⟩ := (T4.grown hg5 (by simp; omega)).tok))
          have T5 := T4.grown hg5 (by simp; omega)
          have S5 := S4.grown hg5 (by simp; omega)
          rw [if_neg hk] at yes
          have M5 : Mid B S J bl bs W3.heap.size ok5 (setTok w5 W3.heap.size t5.k t5.p t5.n (str t5.s)) r' (pre ++ [t]) l5 t5 := by
            have j4 := hJ r' _ W3 _ none hj3 (World.grownBy_alloc W3 (Tok t.k t.p t.n (str t.s)) none) (fun b e => by cases e)
            have j5 := hJ r' _ _ w5 (some bl) j4 hg5 (fun b e => by cases e; exact ⟨by omega, hT.ne j4 L4⟩)
            have rt := hT.lt hj3 (Nat.le_refl _)
            have j6 := hJ r' _ w5 (setTok w5 W3.heap.size t5.k t5.p t5.n (str t5.s)) (some W3.heap.size) j5 (grown_set (grown_set (grown_set (grown_set (World.grownBy_refl w5 _) 0 _) 1 _) 2 _) 3 _) (fun b e => by cases e; exact ⟨by omega, rt⟩)
            refine ⟨j6, L5.offTok (by omega) _ _ _ _, S5.offTok (by omega) _ _ _ _, T5.setTok _ _ _ _, ⟨by omega, bB.2.1, by omega⟩, rt, Nat.le_trans hlen5 M.len, fun h => ?_, fun h => ?_⟩
            · rw [List.append_assoc, List.singleton_append, ← hyes5 h]; exact yes
            · rw [hno5 h] at yes; exact yes
          refine ⟨⟨_, _, _, _, _, _, rfl, rfl, M5⟩, ?_⟩
          rw [ahead_true M.hl M.ht, if_neg (show ¬(t.k : Int) = 0 by omega)]
          change ahead bl _ _ (setTok w5 W3.heap.size t5.k t5.p t5.n (str t5.s)) < _
          cases ok5 with
          | false => rw [ahead_false M5.hl]; omega
          | true =>
            rw [ahead_true M5.hl M5.ht]
            by_cases hk5 : t5.k = 0
            · rw [if_pos (by omega)]; omega
            · have := hlt5 rfl hk5
              rw [if_neg (by omega)]; omega
      · gi_wp2
        refine bodyPost_ret (results_none rfl _ _ _) rfl ?_
        exact ⟨⟨_, rfl⟩, .inr ⟨_, ⟨_, by rw [← yes, List.append_assoc]; rfl⟩, hjx⟩⟩
theorem pieces1_tells (nn bx : Nat) (hnn : 1 ≤ nn) (S : List UInt8) (hS : S.length ≤ maxLen) (w : World) (hbx : At w bx (One (.string (str S)) 9)) :
    Tells Fence.wide nn Tryd.prog 45 #[.pointer (some ⟨bx, 0, none⟩)] tkV (fun xs => xs = pcs S.length S) (fun pre => pre <+: pcs S.length S) (pcs S.length S).length 32 w :=
  fun l J Jx W hW hJ hT hY h0 => pieces1_in nn l bx hnn S hS J Jx W (hbx.below hW) hJ hT hY h0
end Go.Proofs.YtpnamkpoapcgeaaDoor
