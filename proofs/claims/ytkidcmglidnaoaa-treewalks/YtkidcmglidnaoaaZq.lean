import Derived.Test.YtkidcmglidnaoaaRd
namespace Go.Proofs.Ytkidcmglidnaoaa
open Go.RowKit Go.Shelf
attribute [local go_sem] Oper.semAt_some
set_option linter.unusedVariables false
set_option linter.unusedSimpArgs false

/-- What holds between two rounds of the law's range over Walk. -/
structure WI (w : World) (a : Option Addr) (m0 cap B gu b3 b5 gl bl : Nat) (U L : List Int) (i : Nat) (W : World) : Prop where
  u : Rw W gu 3 (iCells U)
  bu : At W b3 (One (.slice (some ⟨gu, 0, none⟩) m0 m0) 35)
  ab : ∃ sa sc, At W b5 (One (.slice sa i sc) 35) ∧ W.ownsRow B 3 1 (.slice sa i sc) i (iCells (L.take i))
  l : Rw W gl 3 (iCells L)
  b : At W bl (One (.slice (some ⟨gl, 0, none⟩) m0 m0) 35)
  res : At W (w.heap.size + 1) (One (.bool false) 4)
  tb : At W w.heap.size (Tro a m0 cap)
  bel : Below w.heap.size w W
  big : B ≤ W.heap.size
theorem wi_own (w : World) (a : Option Addr) (m0 cap B gu b3 b5 gl bl : Nat) (U L : List Int) (hB : w.heap.size ≤ B) : OwnFrom B (WI w a m0 cap B gu b3 b5 gl bl U L) := by
  rintro i W W' row ⟨h1, h2, ⟨sa, sc, h3, h4⟩, h5, h6, h7, h8, h9, h10⟩ hg hr
  have ne : ∀ b cs t k, W.heap[b]? = some (.cells cs t k) → some b ≠ row := fun b cs t k h e => by
    obtain ⟨_, o, g1, g2⟩ := hr b e.symm
    rw [h] at g1
    cases g1
    simp [Obj.isCells] at g2
  refine ⟨h1.grown hg (ne _ _ _ _ h1), h2.grown hg (ne _ _ _ _ h2), ⟨sa, sc, h3.grown hg (ne _ _ _ _ h3), h4.1, ?_⟩, h5.grown hg (ne _ _ _ _ h5), h6.grown hg (ne _ _ _ _ h6), h7.grown hg (ne _ _ _ _ h7), h8.grown hg (ne _ _ _ _ h8), h9.grown hg h9.size (fun k e => by have := (hr k e).1; omega), Nat.le_trans h10 hg.size⟩
  rcases h4.2 with h | ⟨g, cp, cur, e, k1, k2, k3⟩
  · exact .inl h
  · exact .inr ⟨g, cp, cur, e, k1, (hg.block g (Array.getElem?_eq_some_iff.1 k2).1 (ne _ _ _ _ k2)).trans k2, k3⟩
theorem wi_next {w W w4 : World} {a : Option Addr} {m0 cap B gu b3 b5 gl bl : Nat} {U L : List Int} {i : Nat} {sa : Option Addr} {sc : Nat} {d : Int} {v' : Value} (hB : w.heap.size ≤ B) (hlt : gu < B ∧ b3 < B ∧ b5 < B ∧ gl < B ∧ bl < B ∧ w.heap.size + 1 < B) (hd : b3 ≠ b5 ∧ bl ≠ b5 ∧ w.heap.size + 1 ≠ b5 ∧ w.heap.size ≠ b5 ∧ gu ≠ b5 ∧ gl ≠ b5) (hwb : w.heap.size ≤ b5)
    (h : WI w a m0 cap B gu b3 b5 gl bl U L i W) (hab : At W b5 (One (.slice sa i sc) 35)) (hown : W.ownsRow B 3 1 (.slice sa i sc) i (iCells (L.take i))) (hL : L[i]? = some d) (nq : Nat)
    (ho : w4.ownsRow B 3 1 v' (i + 1) (iCells (L.take i) ++ [.int .i64 d])) (hg : ((W.drewN nq).alloc (One (.int .i64 d) 3)).grownBy w4 (Value.slice sa i sc).ownBlock) :
    KeepsOthers W (w4.setCell ⟨b5, 0, none⟩ v') ∧ WI w a m0 cap B gu b3 b5 gl bl U L (i + 1) (w4.setCell ⟨b5, 0, none⟩ v') := by
  obtain ⟨n1, n2, n3, n4, n5, n6⟩ := hlt
  obtain ⟨d1, d2, d3, d4, d5, d6⟩ := hd
  have hrow : ∀ k, (Value.slice sa i sc).ownBlock = some k → B ≤ k ∧ k < W.heap.size := fun k e => hown.lt k e
  have keep : ∀ (k : Nat) (o : Obj), k < B → At W k o → At w4 k o := fun k o hk hA => ((hA.drewN nq).alloc _).grown hg (fun e => by have := (hrow k e.symm).1; omega)
  have keep2 : ∀ (k : Nat) (o : Obj), k < B → k ≠ b5 → At W k o → At (w4.setCell ⟨b5, 0, none⟩ v') k o := fun k o hk hn hA => (keep k o hk hA).set (a := ⟨b5, 0, none⟩) hn _
  have hsz : W.heap.size ≤ w4.heap.size := by have := hg.size; simp at this; omega
  have h5 : At (w4.setCell ⟨b5, 0, none⟩ v') b5 (One v' 35) := (keep b5 _ n3 hab).setOne v'
  refine ⟨?_, keep2 gu _ n1 d5 h.u, keep2 b3 _ n2 d1 h.bu, ?_, keep2 gl _ n4 d6 h.l, keep2 bl _ n5 d2 h.b, keep2 _ _ n6 d3 h.res, keep2 _ _ (by omega) d4 h.tb, ?_, by simpa using Nat.le_trans h.big hsz⟩
  · have k1 : KeepsOthers W (W.drewN nq) := ⟨Nat.le_refl _, fun _ _ h _ => h⟩
    refine ((k1.trans (KeepsOthers.alloc _ _)).trans (KeepsOthers.of_grownBy hg (fun j o e hj => ?_))).trans (KeepsOthers.setCell _ _ _)
    rcases hown.2 with ⟨hv, _⟩ | ⟨g, cp, cur, hv, _, hg', _⟩
    · rw [hv] at e; cases e
    · rw [hv] at e
      have e' : g = j := by simpa [Value.ownBlock] using e
      subst e'
      have := ((show At W g (.cells cur 3 (0, 0)) from hg').drewN nq).alloc (One (.int .i64 d) 3)
      unfold At at this
      rw [this] at hj
      cases hj
      rfl
  · obtain ⟨sa', sc', hv⟩ : ∃ sa' sc', v' = .slice sa' (i + 1) sc' := by
      rcases ho.2 with ⟨hv, e⟩ | ⟨g, cp, cur, hv, _⟩
      · omega
      · exact ⟨_, _, hv⟩
    subst hv
    refine ⟨sa', sc', h5, ?_⟩
    have e : iCells (L.take (i + 1)) = iCells (L.take i) ++ [.int .i64 d] := by rw [List.take_add_one, hL]; simp [iCells]
    rw [e]
    refine ⟨ho.1, ?_⟩
    rcases ho.2 with h' | ⟨g, cp, cur, hv, hBg, hg', rest⟩
    · exact .inl h'
    · exact .inr ⟨g, cp, cur, hv, hBg, (show At w4 g (.cells cur 3 (0, 0)) from hg').set (a := ⟨b5, 0, none⟩) (by show g ≠ b5; omega) _, rest⟩
  · have hbd : Below w.heap.size w (W.drewN nq) := ⟨h.bel.os, h.bel.tape, h.bel.output, h.bel.size, h.bel.block⟩
    have hb1 : Below w.heap.size w ((W.drewN nq).alloc (One (.int .i64 d) 3)) := belA hbd
    exact (hb1.grown hg hb1.size (fun k e => by have := (hrow k e).1; omega)).setCell (p := ⟨b5, 0, none⟩) hwb _
theorem one_news {W : World} {d : Int} : ∀ j u, ([Value.int .i64 d] : List Value)[j]? = some u → (W.alloc (One (.int .i64 d) 3)).cell? ((⟨W.heap.size, 0, none⟩ : Addr).add j) = some u := fun j u hu => by
  cases j with
  | zero => simp at hu; subst hu; simp [Addr.add, cell_of_one (At.new W (One (.int .i64 d) 3))]
  | succ j => simp at hu
theorem own_shape {W : World} {B e s n : Nat} {v : Value} {xs : List Value} (h : W.ownsRow B e s v n xs) : ∃ a cap, v = .slice a n cap := by
  rcases h.2 with ⟨rfl, rfl⟩ | ⟨g, cap, cur, rfl, _⟩
  · exact ⟨_, _, rfl⟩
  · exact ⟨_, _, rfl⟩
theorem one_ones (d : Int) : ∀ u ∈ ([.int .i64 d] : List Value), u.oneCell' = true := fun u hu => by simp at hu; subst hu; rfl
/-- The greatest of the first i levels, and one. -/
structure Mx (l : List Nat) (i q : Nat) : Prop where
  ge : ∀ j v, j < i → l[j]? = some v → v + 1 ≤ q
  zero : i = 0 → q = 0
  is : 0 < i → ∃ j v, j < i ∧ l[j]? = some v ∧ q = v + 1
theorem Mx.next {l : List Nat} {i q v : Nat} (h : Mx l i q) (hv : l[i]? = some v) : Mx l (i + 1) (max q (v + 1)) := by
  refine ⟨fun j u hj hu => ?_, fun e => by omega, fun _ => ?_⟩
  · by_cases e : j = i
    · subst e
      rw [hv] at hu
      cases hu
      omega
    · have := h.ge j u (by omega) hu
      omega
  · by_cases hq : q ≤ v + 1
    · exact ⟨i, v, by omega, hv, by omega⟩
    · have hi : 0 < i := by
        rcases Nat.eq_zero_or_pos i with e | e
        · have := h.zero e; omega
        · exact e
      obtain ⟨j, u, hj, hu, e⟩ := h.is hi
      exact ⟨j, u, by omega, hu, by omega⟩
theorem Mx.deep {x : Nx} {c : Fo} {n q : Nat} (h : Mx (Fo.lv 0 (.cons x c .nil)) n q) (hn : n = 1 + c.size) : q = (Fo.cons x c .nil).deep := by
  have hl : (Fo.lv 0 (.cons x c .nil)).length = n := by rw [Fo.len_lv]; simp [Fo.size]; omega
  have hp : 0 < (Fo.cons x c .nil).deep := by simp [Fo.deep]; omega
  obtain ⟨j, hj⟩ := List.mem_iff_getElem?.1 (Fo.lv_max (.cons x c .nil) 0 hp)
  have h1 := h.ge j _ (by rw [← hl]; exact (List.getElem?_eq_some_iff.1 hj).1) hj
  obtain ⟨k, v, hk, hv, e⟩ := h.is (by omega)
  have h2 := Fo.lv_bound (.cons x c .nil) 0 v (List.mem_of_getElem? hv)
  omega
set_option maxRecDepth 100000 in
set_option maxHeartbeats 16000000 in
theorem walks_yes (T : List Nd) (m0 : Nat) (x : Nx) (c : Fo) (TW : Tw T m0 x c) (hF : Fit T) (hL : Lg T) (a : Option Addr) (cap : Nat) (w : World) (hT : TAt w a T) (hcap : m0 ≤ cap) :
    Calls Try.prog 8 #[trV a m0 cap] w fun e w' => e = .returned (.bool true) ∧ Below w.heap.size w w' := by
  obtain ⟨i0, hi, hz0, hz1, hz2⟩ := info_parts Try.info3
  obtain ⟨W2, hW2⟩ : ∃ W2, W2 = (w.alloc (Tro a m0 cap)).alloc (One (.bool false) 4) := ⟨_, rfl⟩
  have B2 : Below w.heap.size w W2 := by rw [hW2]; exact belA (belA (Below.refl _ _))
  have A2 : At W2 (w.heap.size + 1) (One (.bool false) 4) := by
    have := At.new (w.alloc (Tro a m0 cap)) (One (.bool false) 4)
    rw [World.size_alloc] at this
    rw [hW2]
    exact this
  have A0 : At W2 w.heap.size (Tro a m0 cap) := by rw [hW2]; exact at_fst _ _ _
  have HW2 : Hid ((w.alloc (.cells #[.slice a m0 cap] 24)).alloc (.cells #[.bool false] 4) = W2) := hW2.symm
  have HFIT : Hid (Calls Try.prog 9 #[trV a m0 cap] W2 fun e w' => e = .returned (.bool true) ∧ Below W2.heap.size W2 w') := fits_any T m0 TW.ln true ⟨fun _ => hF, fun _ => rfl⟩ a cap W2 (hT.below B2) hL
  have HM : Hid (∀ W, Below w.heap.size w W → Calls Try.prog 14 #[trV a m0 cap] W fun e w' => e = .returned (.bool true) ∧ Below W.heap.size W w') := fun W hW => TW.mayC a cap W (hT.below hW)
  have HUP : Hid (∀ W, Below w.heap.size w W → Calls Try.prog 16 #[trV a m0 cap] W fun e w' => ∃ g, e = .returned (.tuple #[.slice (some ⟨g, 0, none⟩) m0 m0, .int .i64 0]) ∧ Rw w' g 3 (iCells (upI c)) ∧ W.heap.size ≤ g ∧ Below W.heap.size W w') := fun W hW => up_any T m0 x c TW a cap W (hT.below hW)
  have HWK : Hid (∀ W, Below w.heap.size w W → Calls Try.prog 17 #[trV a m0 cap] W fun e w' => ∃ g b, e = .returned (.func (.func 67) #[] #[.pointer (some ⟨b, 0, none⟩)]) ∧ Rw w' g 3 (iCells (lvI x c)) ∧ At w' b (One (.slice (some ⟨g, 0, none⟩) m0 m0) 35) ∧ W.heap.size ≤ g ∧ W.heap.size ≤ b ∧ Below W.heap.size W w') := fun W hW => walk_yes x c T TW.e TW.may m0 TW.ln a cap W (hT.below hW) TW.sm
  have HTW : Hid (Tw T m0 x c) := TW
  have HT : Hid (TAt w a T) := hT
  have hm0 := TW.le
  clear hT hL hF hW2 TW
  refine (callsIn_wide (n := 3)).1 ?_
  refine callsIn_of_wp_marks Try.func8 rfl trivial ?_ rfl
  simp only [Try.ntmps8, List.size_toArray, List.length_cons, List.length_nil, Nat.reduceAdd, Nat.reduceSub, Array.replicate_succ, Array.replicate_zero, List.push_toArray, List.append_toArray, List.nil_append, List.cons_append]
  gi_wp2_with (first
    | (refine ⟨trivial, ?_⟩; gi_at_call 9; rw [HW2.out]; refine (callsIn_wide.2 HFIT.out).mono ?_; rintro e w1 ⟨rfl, hb1⟩; have B1 := below_aft B2 hb1; have A1 := A2.below hb1; have C1 := A0.below hb1; obtain ⟨z0, zf⟩ := C1.one; clear HFIT)
    | (refine ⟨trivial, ?_⟩; gi_at_call 14; refine (callsIn_wide.2 (HM.out _ B1)).mono ?_; rintro e w3 ⟨rfl, hb3⟩; have B3 := below_aft B1 hb3; have A3 := A1.below hb3; have C3 := C1.below hb3; obtain ⟨y0, yf⟩ := C3.one; clear z0 zf HM)
    | (refine ⟨trivial, ?_⟩; gi_at_call 16; refine (callsIn_wide.2 (HUP.out _ B3)).mono ?_; rintro e w4 ⟨gu, rfl, RU, hgu, hb4⟩; have B4 := below_aft B3 hb4; have A4 := A3.below hb4; have C4 := C3.below hb4; obtain ⟨x0, xf⟩ := (C4.alloc (.cells #[.slice (some ⟨gu, 0, none⟩) m0 m0] 35)).one; obtain ⟨v0, vf⟩ := ((C4.alloc (.cells #[.slice (some ⟨gu, 0, none⟩) m0 m0] 35)).alloc (.cells #[.slice none 0 0] 35)).one; clear y0 yf HUP)
    | (refine ⟨trivial, ?_⟩; gi_at_call 17; refine (callsIn_wide.2 (HWK.out _ (belA (belA B4)))).mono ?_; rintro e w5 ⟨gl, bl, rfl, RL, AL, hgl, hbl, hb5⟩))
  have u5 : Rw w5 gu 3 (iCells (upI c)) := ((RU.alloc _).alloc _).below hb5
  have bu5 : At w5 w4.heap.size (One (.slice (some ⟨gu, 0, none⟩) m0 m0) 35) := (at_fst w4 _ _).below hb5
  have ab5 : At w5 (w4.heap.size + 1) (One (.slice none 0 0) 35) := by
    have := (At.new (w4.alloc (One (.slice (some ⟨gu, 0, none⟩) m0 m0) 35)) (One (.slice none 0 0) 35)).below hb5
    rw [World.size_alloc] at this
    exact this
  have a5 := ((A4.alloc _).alloc _).below hb5
  have c5 := ((C4.alloc _).alloc _).below hb5
  have bel5 : Below w.heap.size w w5 := below_aft (belA (belA B4)) hb5
  have hs5 := bel5.size
  have n1 : w4.heap.size + 1 < w5.heap.size := ab5.lt
  have n2 : gu < w5.heap.size := u5.lt
  have n3 : gl < w5.heap.size := RL.lt
  have n4 : bl < w5.heap.size := AL.lt
  have n5 : w.heap.size + 1 < w5.heap.size := a5.lt
  have hB4s := B4.size
  obtain ⟨b3, hb3e⟩ : ∃ b3, b3 = w4.heap.size := ⟨_, rfl⟩
  have hA4l := A4.lt
  have hguB : gu < b3 := by rw [hb3e]; exact RU.lt
  simp only [World.size_alloc] at hgl hbl
  rw [← hb3e] at bu5 ab5 n1 hA4l hgl hbl ⊢
  obtain ⟨L, hLe⟩ : ∃ L, L = lvI x c := ⟨_, rfl⟩
  obtain ⟨U, hUe⟩ : ∃ U, U = upI c := ⟨_, rfl⟩
  rw [← hLe] at RL
  rw [← hUe] at u5
  have HLU : Hid (L = lvI x c ∧ U = upI c) := ⟨hLe, hUe⟩
  have hLl : L.length = m0 := by rw [hLe, lvI_len]; exact HTW.out.l.symm
  have J0 : WI w a m0 cap w5.heap.size gu b3 (b3 + 1) gl bl U L 0 w5 := ⟨u5, bu5, ⟨none, 0, ab5, World.ownsRow_nil _ _ _ _⟩, RL, AL, a5, c5, bel5, Nat.le_refl _⟩
  clear u5 bu5 ab5 RL AL a5 c5 hb5 hb3e hLe hUe RU A4 C4 B4 hb4 x0 xf v0 vf A3 C3 B3 hb3 A1 C1 B1 hb1 A0 A2 B2 HWK HW2
  refine range_tellsP rfl (by omega) (gf := 67) (lb := #[.pointer (some ⟨bl, 0, none⟩)]) rfl trivial (enters_of Try.func67 (by kernel_rfl) rfl)
    (all1_tellsP 2 bl gl m0 (by omega) L hLl (by omega) w5) (Below.refl _ _) rfl
    (WI w a m0 cap w5.heap.size gu b3 (b3 + 1) gl bl U L) (fun _ _ => False) (wi_own w a m0 cap w5.heap.size gu b3 (b3 + 1) gl bl U L (by omega)) (fun i W h => ⟨h.l, h.b⟩) (fun _ _ _ _ h _ _ => h)
    J0 ?a1 ?assign ?body ?done ?stop
  case assign =>
    intro l p c W K hK
    gi_wp2
    exact hK
  case stop => exact fun _ _ _ _ h _ => h.elim
  case body =>
    rintro l i p d W hI hpd
    obtain ⟨rfl, hd⟩ := enumI_get.1 hpd
    have HI := hI
    obtain ⟨hu, hbu, ⟨sa, sc, hab, hown⟩, hl, hb, hres, htb, hbel, hbig⟩ := hI
    have HIH : Hid (WI w a m0 cap w5.heap.size gu b3 (b3 + 1) gl bl U L i W) := HI
    have HAB : Hid (At W (b3 + 1) (One (.slice sa i sc) 35)) := hab
    have HOW : Hid (W.ownsRow w5.heap.size 3 1 (.slice sa i sc) i (iCells (L.take i))) := hown
    have HDI : Hid (L[i]? = some d) := hd
    have hb5W : b3 + 1 < W.heap.size := hab.lt
    have hb3W : b3 < W.heap.size := hbu.lt
    have hguW : gu < W.heap.size := hu.lt
    obtain ⟨x0, xf⟩ := hbu.one
    obtain ⟨y0, yf⟩ := hab.one
    have hin : i < m0 := by rw [← hLl]; exact (List.getElem?_eq_some_iff.1 hd).1
    have hzm : (0 : Int) < (m0 : Int) := by omega
    have hzn : 0 < m0 := by omega
    have FINX : Hid (∀ nq v' w4, w4.ownsRow w5.heap.size 3 1 v' (i + 1) (iCells (L.take i) ++ [.int .i64 d]) → ((W.drewN nq).alloc (One (.int .i64 d) 3)).grownBy w4 (Value.slice sa i sc).ownBlock → KeepsOthers W (w4.setCell ⟨b3 + 1, 0, none⟩ v') ∧ WI w a m0 cap w5.heap.size gu b3 (b3 + 1) gl bl U L (i + 1) (w4.setCell ⟨b3 + 1, 0, none⟩ v')) := fun nq v' w4 ho hg => wi_next (by omega) ⟨n2, by omega, n1, n3, n4, n5⟩ ⟨by omega, by omega, by omega, by omega, by omega, by omega⟩ (by omega) HIH.out HAB.out HOW.out HDI.out nq ho hg
    have HB5 : Hid (∀ nq w4, ((W.drewN nq).alloc (One (.int .i64 d) 3)).grownBy w4 (Value.slice sa i sc).ownBlock → At w4 (b3 + 1) (One (.slice sa i sc) 35)) := fun nq w4 hg => ((HAB.out.drewN nq).alloc _).grown hg (fun e => by have := (HOW.out.lt _ e.symm).1; omega)
    have HOWN : Hid (∀ nq, ((W.drewN nq).alloc (One (.int .i64 d) 3)).ownsRow w5.heap.size 3 1 (.slice sa i sc) i (iCells (L.take i))) := fun nq => (show (W.drewN nq).ownsRow w5.heap.size 3 1 (.slice sa i sc) i (iCells (L.take i)) from HOW.out).alloc _
    have HBIG : Hid (∀ nq, w5.heap.size ≤ ((W.drewN nq).alloc (One (.int .i64 d) 3)).heap.size) := fun nq => (by have := hbig; simp; omega)
    clear HI hab hown hl hb hres htb hbel hu hbu hbig
    rcases Nat.eq_zero_or_pos i with rfl | hpos
    · have d0 : d = 0 := by
        have := HDI.out
        rw [HLU.out.1] at this
        simp [lvI, Fo.lv] at this
        exact this.symm
      subst d0
      have cu : W.cell? ⟨gu, 0, none⟩ = some (.int .i64 (-1)) := HIH.out.u.cell (by rw [HLU.out.2]; rfl)
      clear hd hpd
      rw [show ((0 : Nat) : Int) = (0 : Int) from rfl]
      gi_wp2
      refine wpIn_region_plain_lit (by kernel_rfl) (by kernel_rfl) (by kernel_rfl) ?_
      repeat (go_big_quiet_step (fail))
      refine wpQuiet_nil ?_
      intro _ hw'
      obtain ⟨nq, hw''⟩ := hw'
      subst hw''
      gi_wp2_with (gi_at_builtin; refine wpListIn_append_own _ rfl _ _ 35 rfl w5.heap.size 3 i0 (.int .i64 0) 1 8 Try.underlying35 hi hz0 hz1 hz2 rfl (by decide) (.slice sa 0 sc) 0 (iCells (L.take 0)) rfl (HOWN.out nq) ⟨W.heap.size, 0, none⟩ 1 1 [.int .i64 0] rfl rfl (one_news (W := W.drewN nq)) (one_ones _) (by unfold maxLen; omega) (by omega) (HBIG.out nq) ?_; intro v' w6 ho6 hg6 hn6; have HF6 : Hid _ := FINX.out nq v' w6 ho6 hg6; obtain ⟨sa', sc', hv'⟩ := own_shape ho6; subst hv'; obtain ⟨t0, tf⟩ := (HB5.out nq w6 hg6).one; have tl := (HB5.out nq w6 hg6).lt; clear ho6 hg6 hn6)
      exact HF6.out
    · obtain ⟨u, hu'⟩ : ∃ u, (c.ups 0 1)[i - 1]? = some u := ⟨_, List.getElem?_eq_getElem (by rw [Fo.len_ups]; have := HTW.out.l; omega)⟩
      obtain ⟨p, v, rfl, hpj, hpv, hiv⟩ := Fo.lv_step x c (i - 1) u hu'
      have hLp : L[p]? = some (v : Int) := by rw [HLU.out.1]; unfold lvI; rw [List.getElem?_map, hpv]; rfl
      have d1 : d = (v : Int) + 1 := by
        have h1 := HDI.out
        rw [HLU.out.1] at h1
        unfold lvI at h1
        rw [show i = i - 1 + 1 by omega, List.getElem?_map, hiv] at h1
        simp at h1
        omega
      subst d1
      have hv9 : v < 20000 := by
        have := Fo.lv_bound (.cons x c .nil) 0 v (List.mem_of_getElem? hpv)
        have := HTW.out.dp
        omega
      have cu : W.cell? ⟨gu, i, none⟩ = some (.int .i64 (p : Int)) := HIH.out.u.cell (by rw [HLU.out.2]; unfold upI iCells; rw [show i = i - 1 + 1 by omega, List.map_cons, List.getElem?_cons_succ, List.getElem?_map, hu']; rfl)
      obtain ⟨ga, hga⟩ : ∃ ga, sa = some ⟨ga, 0, none⟩ := by
        rcases HOW.out.2 with ⟨_, e⟩ | ⟨g, cp, cur, e, _⟩
        · omega
        · injection e with e1 e2 e3
          exact ⟨g, e1⟩
      subst hga
      have hgal := (HOW.out.lt ga rfl).2
      have ca : W.cell? ⟨ga, p, none⟩ = some (.int .i64 (v : Int)) := by
        rw [HOW.out.cellAt p (by omega)]
        simp only [iCells, List.getElem?_map]
        rw [List.getElem?_take_of_lt (by omega), hLp]
        rfl
      have i0' : (0 : Int) ≤ (i : Int) := by omega
      have i1 : (0 : Int) < (i : Int) := by omega
      have i2 : (i : Int) < (m0 : Int) := by omega
      have i3 : ¬ (i : Int) = 0 := by omega
      have i4 : ((i : Int) == 0) = false := by simpa using i3
      have p0 : (0 : Int) ≤ (p : Int) := by omega
      have p1 : ¬ (p : Int) < 0 := by omega
      have p2 : (p : Int) < (i : Int) := by omega
      have p3 : ¬ (i : Int) ≤ (p : Int) := by omega
      have p4 : ¬ i ≤ p := by omega
      have p5 : p < i := by omega
      have q1 : decide ((p : Int) < 0) = false := decide_eq_false p1
      have q2 : decide ((i : Int) ≤ (p : Int)) = false := decide_eq_false p3
      have q3 : decide (i ≤ p) = false := decide_eq_false p4
      have wv : IntKind.i64.wrap ((v : Int) + 1 - 1) = (v : Int) := by rw [IntKind.wrap_i64]; omega
      clear hd hpd hu' hpv hiv hLp hpj
      gi_wp2
      refine wpIn_region_plain_lit (by kernel_rfl) (by kernel_rfl) (by kernel_rfl) ?_
      repeat (go_big_quiet_step (fail))
      refine wpQuiet_nil ?_
      intro _ hw'
      obtain ⟨nq, hw''⟩ := hw'
      subst hw''
      gi_wp2_with (gi_at_builtin; refine wpListIn_append_own _ rfl _ _ 35 rfl w5.heap.size 3 i0 (.int .i64 0) 1 8 Try.underlying35 hi hz0 hz1 hz2 rfl (by decide) (.slice (some ⟨ga, 0, none⟩) i sc) i (iCells (L.take i)) rfl (HOWN.out nq) ⟨W.heap.size, 0, none⟩ 1 1 [.int .i64 ((v : Int) + 1)] rfl rfl (one_news (W := W.drewN nq)) (one_ones _) (by unfold maxLen; omega) (by omega) (HBIG.out nq) ?_; intro v' w6 ho6 hg6 hn6; have HF6 : Hid _ := FINX.out nq v' w6 ho6 hg6; obtain ⟨sa', sc', hv'⟩ := own_shape ho6; subst hv'; obtain ⟨t0, tf⟩ := (HB5.out nq w6 hg6).one; have tl := (HB5.out nq w6 hg6).lt; clear ho6 hg6 hn6)
      exact HF6.out
  case done =>
    rintro D W hD hI hDef
    rw [enumI_len, hLl] at hI
    obtain ⟨hu, hbu, ⟨sa, sc, hab, hown⟩, hl, hb, hres, htb, hbel, hbig⟩ := hI
    have hm1 : 0 < m0 := by have := HTW.out.l; omega
    have eL : L.take m0 = L := List.take_of_length_le (by omega)
    rw [eL] at hown
    obtain ⟨ga, scx, hga⟩ : ∃ ga sc', (Value.slice sa m0 sc) = .slice (some ⟨ga, 0, none⟩) m0 sc' := by
      rcases hown.2 with ⟨_, e⟩ | ⟨g, cp, cur, e, _⟩
      · omega
      · exact ⟨_, _, e⟩
    rw [hga] at hown hab
    have hgal := (hown.lt ga rfl).2
    have hcA : ∀ (j : Nat) (v : Int), L[j]? = some v → W.cell? ⟨ga, j, none⟩ = some (.int .i64 v) := fun j v hj => by
      have hjl := (List.getElem?_eq_some_iff.1 hj).1
      rw [hown.cellAt j (by omega)]
      simp [iCells, hj]
    obtain ⟨Lv, hLv⟩ : ∃ Lv, Lv = Fo.lv 0 (.cons x c .nil) := ⟨_, rfl⟩
    have hLL : ∀ (j v : Nat), Lv[j]? = some v → L[j]? = some (v : Int) := fun j v hj => by rw [HLU.out.1]; unfold lvI; rw [← hLv, List.getElem?_map, hj]; rfl
    have hlvl : Lv.length = m0 := by rw [hLv, Fo.len_lv, HTW.out.l]; simp [Fo.size]
    have HLVL : Hid (Lv.length = m0) := hlvl
    have HLV : Hid (Lv = Fo.lv 0 (.cons x c .nil)) := hLv
    have HCELL : Hid (∀ Z, Below W.heap.size W Z → ∀ (j v : Nat), Lv[j]? = some v → Z.cell? ⟨ga, j, none⟩ = some (.int .i64 (v : Int))) := fun Z hZ j v hj => (hZ.cell (p := ⟨ga, j, none⟩) hgal).trans (hcA j _ (hLL j v hj))
    have HAB : Hid (At W (b3 + 1) (One (.slice (some ⟨ga, 0, none⟩) m0 scx) 35)) := hab
    have HRES : Hid (At W (w.heap.size + 1) (One (.bool false) 4)) := hres
    have HTB : Hid (At W w.heap.size (Tro a m0 cap)) := htb
    have HBEL : Hid (Below w.heap.size w W) := hbel
    have HDEF : Hid (W.heap[D]? = some (.deferred (some []))) := hDef
    have HDD : Hid (w5.heap.size ≤ D) := hD
    obtain ⟨y0, yf⟩ := hab.one
    obtain ⟨z0, zf⟩ := htb.one
    have hyl := hab.lt
    have hzl := htb.lt
    clear hu hbu hab hown hl hb hres htb hbel hDef hD hga eL hcA hLL hLv hlvl
    gi_wp2
    gi_loopw [8, 9] (fun v8 v9 Z => ∃ i q : Nat, i ≤ m0 ∧ v9 = .int .i64 i ∧ v8 = .int .i64 (q : Int) ∧ q ≤ 20000 ∧ Mx Lv i q ∧ Below W.heap.size W Z) (fun _ v9 _ => m0 - (intOf v9).toNat)
    case atStart => exact ⟨0, 0, by omega, rfl, rfl, by omega, ⟨fun j v hj => by omega, fun _ => rfl, fun h => by omega⟩, Below.refl _ _⟩
    case round =>
      obtain ⟨i, q, hi', rfl, rfl, hq9, hMx, hZ⟩ := hrel
      have HMX : Hid (Mx Lv i q) := hMx
      have HZ : Hid (Below W.heap.size W wr) := hZ
      clear hMx hZ y0 yf z0 zf hyl hzl
      obtain ⟨wo, rfl⟩ : ∃ wo, wo = wr := ⟨_, rfl⟩
      have A5 := HAB.out.below HZ.out
      have A1 := HTB.out.below HZ.out
      obtain ⟨y0, yf⟩ := A5.one
      obtain ⟨z0, zf⟩ := A1.one
      have hyl := A5.lt
      have hzl := A1.lt
      have hgz : ga < wo.heap.size := Nat.lt_of_lt_of_le hgal HZ.out.size
      clear A5 A1
      by_cases hlt : i < m0
      · obtain ⟨dv, hdv⟩ : ∃ dv, Lv[i]? = some dv := ⟨_, List.getElem?_eq_getElem (by have := HLVL.out; omega)⟩
        have ca := HCELL.out wo HZ.out i dv hdv
        have HDV : Hid (Lv[i]? = some dv) := hdv
        have hdv9 : dv < 100 := by
          have h1 := Fo.lv_bound (.cons x c .nil) 0 dv (by rw [← HLV.out]; exact List.mem_of_getElem? hdv)
          have := HTW.out.dp
          omega
        obtain ⟨q', hq'⟩ : ∃ q', q' = max q (dv + 1) := ⟨_, rfl⟩
        have HQ' : Hid (q' = max q (dv + 1)) := hq'
        have hqq : max (q : Int) ((dv : Int) + 1) = (q' : Int) := by omega
        have q'9 : q' ≤ 20000 := by omega
        obtain ⟨r16, hr16⟩ : ∃ r16, r16 = i % 16 := ⟨_, rfl⟩
        have wr16 : (i : Int).tmod 16 = (r16 : Int) := by rw [hr16]; rfl
        have i0' : (0 : Int) ≤ (i : Int) := by omega
        have i2 : (i : Int) < (m0 : Int) := by omega
        have i3 : (i : Int) ≤ 20000 := by omega
        clear hdv hq' hr16
        by_cases hsk : ¬ r16 = 0 ∧ 40 < i
        · obtain ⟨s1, s2⟩ := hsk
          have s3 : ¬ (r16 : Int) = 0 := by omega
          have s4 : ((r16 : Int) == 0) = false := by simpa using s3
          have s5 : (40 : Int) < (i : Int) := by omega
          gi_wp2
          refine ⟨⟨i + 1, q', hlt, by go_num, rfl, q'9, by rw [HQ'.out]; exact HMX.out.next HDV.out, HZ.out⟩, ?_⟩
          show m0 - ((i : Int) + 1).toNat < m0 - (i : Int).toNat
          omega
        · obtain ⟨y, e, dd, hP⟩ := part_of HTW.out.e HTW.out.ok (n := i) (by rw [HTW.out.ln]; exact hlt)
          have hlvc : ∀ (k : Nat) (v : Int), (lvI x c)[k]? = some v → ∃ u : Nat, Lv[k]? = some u ∧ v = (u : Int) := fun k v hk => by
            unfold lvI at hk
            rw [← HLV.out, List.getElem?_map] at hk
            cases hu : Lv[k]? with
            | none => rw [hu] at hk; cases hk
            | some u => rw [hu] at hk; exact ⟨u, rfl, by simpa using hk.symm⟩
          have hdd : dd = dv := by
            obtain ⟨u, h1, h2⟩ := hlvc i _ hP.l1
            have h3 := HDV.out
            rw [h1] at h3
            cases h3
            omega
          subst hdd
          obtain ⟨es, hes⟩ : ∃ es, es = e.size := ⟨_, rfl⟩
          obtain ⟨n6, hn6⟩ : ∃ n6, n6 = 1 + es := ⟨_, rfl⟩
          have hlen : i + 1 + es ≤ m0 := by have := hP.len; rw [HTW.out.ln] at this; omega
          have H2 : Hid (∀ k, i + 1 ≤ k → k < i + 1 + es → ∃ u : Nat, Lv[k]? = some u ∧ dd < u) := fun k h1 h2 => by
            obtain ⟨v, g1, g2⟩ := hP.l2 (k - (i + 1)) (by omega)
            rw [show i + 1 + (k - (i + 1)) = k by omega] at g1
            obtain ⟨u, g3, g4⟩ := hlvc k v g1
            exact ⟨u, g3, by omega⟩
          have H3 : Hid (i + 1 + es < m0 → ∃ u : Nat, Lv[i + 1 + es]? = some u ∧ u ≤ dd) := fun h1 => by
            obtain ⟨v, g1, g2⟩ := hP.l3 (by rw [HTW.out.ln]; omega)
            rw [← hes] at g1
            obtain ⟨u, g3, g4⟩ := hlvc _ v g1
            exact ⟨u, g3, by omega⟩
          have CS : Hid (Calls Try.prog 26 #[trV a m0 cap, .int .i64 (i : Int)] wo fun e' w' => ∃ g6, e' = .returned (.tuple #[trV (some ⟨g6, 0, none⟩) n6 n6, .int .i64 0]) ∧ Below wo.heap.size wo w') := by
            refine (HTW.out.sub hlt hP.sub a cap wo (HT.out.below (below_aft HBEL.out HZ.out)) hcap).mono ?_
            rintro e' w' ⟨g6, cur, rfl, -, hb⟩
            exact ⟨g6, by rw [hn6, hes], hb⟩
          have hrr : r16 = 0 ∨ ¬ r16 = 0 ∧ ¬ 40 < i := by
            rcases Nat.eq_zero_or_pos r16 with h | h
            · exact .inl h
            · exact .inr ⟨by omega, fun h' => hsk ⟨by omega, h'⟩⟩
          have HNE : Hid (n6 = 1 + es) := hn6
          clear hsk hP hlvc hes hn6
          rcases hrr with hrr | hrr
          · have wr0 : (i : Int).tmod 16 = 0 := by rw [wr16, hrr]; rfl
            clear wr16 hrr
            gi_wp2_with (refine ⟨trivial, ?_⟩; gi_at_call 26; refine (callsIn_wide.2 CS.out).mono ?_; rintro e' w6 ⟨g6, rfl, hb6⟩; have HB6 : Hid (Below wo.heap.size wo w6) := hb6; clear hb6)
            obtain ⟨W7, hW7⟩ : ∃ W7, W7 = w6.alloc (Tro (some ⟨g6, 0, none⟩) n6 n6) := ⟨_, rfl⟩
            have HN6 : Hid (At W7 w6.heap.size (Tro (some ⟨g6, 0, none⟩) n6 n6)) := (by rw [hW7]; exact At.new _ _)
            have HZ6 : Hid (∀ Z, Below W7.heap.size W7 Z → Below W.heap.size W Z) := fun Z hZ' => below_aft (by rw [hW7]; exact belA (below_aft HZ.out HB6.out)) hZ'
            have HW7 : Hid (W7 = w6.alloc (Tro (some ⟨g6, 0, none⟩) n6 n6)) := hW7
            clear y0 yf z0 zf hyl hzl hgz ca hW7
            gi_loopw [12] (fun v12 Z => ∃ k : Nat, i + 1 ≤ k ∧ k ≤ i + 1 + es ∧ v12 = .int .i64 (k : Int) ∧ Below W7.heap.size W7 Z) (fun v12 _ => i + 1 + es - (intOf v12).toNat)
            case atStart => exact ⟨i + 1, Nat.le_refl _, by omega, by go_num, by rw [HW7.out]; exact Below.refl _ _⟩
            case round =>
              obtain ⟨k, hk1, hk2, rfl, hBk⟩ := hrel
              have HBk : Hid (Below W7.heap.size W7 wr) := hBk
              have HZk : Hid (Below W.heap.size W wr) := HZ6.out wr hBk
              have A5 := HAB.out.below HZk.out
              have A6 := HN6.out.below hBk
              obtain ⟨y0, yf⟩ := A5.one
              obtain ⟨o0, of'⟩ := A6.one
              have hyl := A5.lt
              have hol := A6.lt
              have hgz : ga < wr.heap.size := Nat.lt_of_lt_of_le hgal HZk.out.size
              have ci := HCELL.out wr HZk.out i dd HDV.out
              have k0 : (0 : Int) ≤ (k : Int) := by omega
              have k9 : (k : Int) ≤ 40000 := by omega
              clear A5 A6 hBk
              by_cases hke : k < i + 1 + es
              · obtain ⟨u, hu, hdu⟩ := H2.out k hk1 hke
                have ck := HCELL.out wr HZk.out k u hu
                have k1 : (k : Int) < (m0 : Int) := by omega
                have k2 : k < m0 := by omega
                have u1 : (dd : Int) < (u : Int) := by omega
                clear hu
                gi_wp2
                refine wpIn_region_plain_lit (by kernel_rfl) (by kernel_rfl) (by kernel_rfl) ?_
                repeat (go_big_quiet_step (fail))
                refine wpQuiet_nil ?_
                intro _ hw'
                obtain ⟨nq, hw''⟩ := hw'
                subst hw''
                gi_wp2
                refine ⟨⟨k + 1, by omega, by omega, by go_num, ⟨HBk.out.os, HBk.out.tape, HBk.out.output, HBk.out.size, HBk.out.block⟩⟩, ?_⟩
                show i + 1 + es - ((k : Int) + 1).toNat < i + 1 + es - (k : Int).toNat
                omega
              · have wk : IntKind.i64.wrap ((k : Int) - (i : Int)) = (n6 : Int) := by have := HNE.out; rw [IntKind.wrap_i64]; omega
                have FIN : Hid (∀ nq, (∃ i_1 q_1 : Nat, i_1 ≤ m0 ∧ Value.int IntKind.i64 ((i : Int) + 1) = Value.int IntKind.i64 (i_1 : Int) ∧ Value.int IntKind.i64 (q' : Int) = Value.int IntKind.i64 (q_1 : Int) ∧ q_1 ≤ 20000 ∧ Mx Lv i_1 q_1 ∧ Below W.heap.size W (wr.drewN nq)) ∧ m0 - (intOf (Value.int IntKind.i64 ((i : Int) + 1))).toNat < m0 - (intOf (Value.int IntKind.i64 (i : Int))).toNat) := fun nq => ⟨⟨i + 1, q', hlt, by go_num, rfl, q'9, by rw [HQ'.out]; exact HMX.out.next HDV.out, ⟨HZk.out.os, HZk.out.tape, HZk.out.output, HZk.out.size, HZk.out.block⟩⟩, (by show m0 - ((i : Int) + 1).toNat < m0 - (i : Int).toNat; omega)⟩
                by_cases hkm : k < m0
                · obtain ⟨u, hu, hdu⟩ := H3.out (by omega)
                  rw [show i + 1 + es = k by omega] at hu
                  have ck := HCELL.out wr HZk.out k u hu
                  have k1 : (k : Int) < (m0 : Int) := by omega
                  have u1 : ¬ (dd : Int) < (u : Int) := by omega
                  have u2 : decide ((dd : Int) < (u : Int)) = false := decide_eq_false u1
                  have u3 : decide (dd < u) = false := decide_eq_false (by omega)
                  clear hu
                  gi_wp2
                  refine wpIn_region_plain_lit (by kernel_rfl) (by kernel_rfl) (by kernel_rfl) ?_
                  repeat (go_big_quiet_step (fail))
                  refine wpQuiet_nil ?_
                  intro _ hw'
                  obtain ⟨nq, hw''⟩ := hw'
                  subst hw''
                  gi_wp2
                  exact FIN.out nq
                · obtain rfl : k = m0 := by omega
                  have k1 : ¬ (k : Int) < (k : Int) := by omega
                  gi_wp2
                  refine wpIn_region_plain_lit (by kernel_rfl) (by kernel_rfl) (by kernel_rfl) ?_
                  repeat (go_big_quiet_step (fail))
                  refine wpQuiet_nil ?_
                  intro _ hw'
                  obtain ⟨nq, hw''⟩ := hw'
                  subst hw''
                  gi_wp2
                  exact FIN.out nq
          · rcases Nat.eq_zero_or_pos r16 with hr0 | hr0
            · exact absurd hr0 hrr.1
            · have s5 : ¬ (40 : Int) < (i : Int) := by have := hrr.2; omega
              have s6 : decide ((40 : Int) < (i : Int)) = false := decide_eq_false s5
              have s7 : decide (40 < i) = false := decide_eq_false hrr.2
              have s3 : ¬ (r16 : Int) = 0 := by omega
              have s4 : ((r16 : Int) == 0) = false := by simpa using s3
              clear hrr hr0
              gi_wp2_with (refine ⟨trivial, ?_⟩; gi_at_call 26; refine (callsIn_wide.2 CS.out).mono ?_; rintro e' w6 ⟨g6, rfl, hb6⟩; have HB6 : Hid (Below wo.heap.size wo w6) := hb6; clear hb6)
              obtain ⟨W7, hW7⟩ : ∃ W7, W7 = w6.alloc (Tro (some ⟨g6, 0, none⟩) n6 n6) := ⟨_, rfl⟩
              have HN6 : Hid (At W7 w6.heap.size (Tro (some ⟨g6, 0, none⟩) n6 n6)) := (by rw [hW7]; exact At.new _ _)
              have HZ6 : Hid (∀ Z, Below W7.heap.size W7 Z → Below W.heap.size W Z) := fun Z hZ' => below_aft (by rw [hW7]; exact belA (below_aft HZ.out HB6.out)) hZ'
              have HW7 : Hid (W7 = w6.alloc (Tro (some ⟨g6, 0, none⟩) n6 n6)) := hW7
              clear y0 yf z0 zf hyl hzl hgz ca hW7
              gi_loopw [12] (fun v12 Z => ∃ k : Nat, i + 1 ≤ k ∧ k ≤ i + 1 + es ∧ v12 = .int .i64 (k : Int) ∧ Below W7.heap.size W7 Z) (fun v12 _ => i + 1 + es - (intOf v12).toNat)
              case atStart => exact ⟨i + 1, Nat.le_refl _, by omega, by go_num, by rw [HW7.out]; exact Below.refl _ _⟩
              case round =>
                obtain ⟨k, hk1, hk2, rfl, hBk⟩ := hrel
                have HBk : Hid (Below W7.heap.size W7 wr) := hBk
                have HZk : Hid (Below W.heap.size W wr) := HZ6.out wr hBk
                have A5 := HAB.out.below HZk.out
                have A6 := HN6.out.below hBk
                obtain ⟨y0, yf⟩ := A5.one
                obtain ⟨o0, of'⟩ := A6.one
                have hyl := A5.lt
                have hol := A6.lt
                have hgz : ga < wr.heap.size := Nat.lt_of_lt_of_le hgal HZk.out.size
                have ci := HCELL.out wr HZk.out i dd HDV.out
                have k0 : (0 : Int) ≤ (k : Int) := by omega
                have k9 : (k : Int) ≤ 40000 := by omega
                clear A5 A6 hBk
                by_cases hke : k < i + 1 + es
                · obtain ⟨u, hu, hdu⟩ := H2.out k hk1 hke
                  have ck := HCELL.out wr HZk.out k u hu
                  have k1 : (k : Int) < (m0 : Int) := by omega
                  have k2 : k < m0 := by omega
                  have u1 : (dd : Int) < (u : Int) := by omega
                  clear hu
                  gi_wp2
                  refine wpIn_region_plain_lit (by kernel_rfl) (by kernel_rfl) (by kernel_rfl) ?_
                  repeat (go_big_quiet_step (fail))
                  refine wpQuiet_nil ?_
                  intro _ hw'
                  obtain ⟨nq, hw''⟩ := hw'
                  subst hw''
                  gi_wp2
                  refine ⟨⟨k + 1, by omega, by omega, by go_num, ⟨HBk.out.os, HBk.out.tape, HBk.out.output, HBk.out.size, HBk.out.block⟩⟩, ?_⟩
                  show i + 1 + es - ((k : Int) + 1).toNat < i + 1 + es - (k : Int).toNat
                  omega
                · have wk : IntKind.i64.wrap ((k : Int) - (i : Int)) = (n6 : Int) := by have := HNE.out; rw [IntKind.wrap_i64]; omega
                  have FIN : Hid (∀ nq, (∃ i_1 q_1 : Nat, i_1 ≤ m0 ∧ Value.int IntKind.i64 ((i : Int) + 1) = Value.int IntKind.i64 (i_1 : Int) ∧ Value.int IntKind.i64 (q' : Int) = Value.int IntKind.i64 (q_1 : Int) ∧ q_1 ≤ 20000 ∧ Mx Lv i_1 q_1 ∧ Below W.heap.size W (wr.drewN nq)) ∧ m0 - (intOf (Value.int IntKind.i64 ((i : Int) + 1))).toNat < m0 - (intOf (Value.int IntKind.i64 (i : Int))).toNat) := fun nq => ⟨⟨i + 1, q', hlt, by go_num, rfl, q'9, by rw [HQ'.out]; exact HMX.out.next HDV.out, ⟨HZk.out.os, HZk.out.tape, HZk.out.output, HZk.out.size, HZk.out.block⟩⟩, (by show m0 - ((i : Int) + 1).toNat < m0 - (i : Int).toNat; omega)⟩
                  by_cases hkm : k < m0
                  · obtain ⟨u, hu, hdu⟩ := H3.out (by omega)
                    rw [show i + 1 + es = k by omega] at hu
                    have ck := HCELL.out wr HZk.out k u hu
                    have k1 : (k : Int) < (m0 : Int) := by omega
                    have u1 : ¬ (dd : Int) < (u : Int) := by omega
                    have u2 : decide ((dd : Int) < (u : Int)) = false := decide_eq_false u1
                    have u3 : decide (dd < u) = false := decide_eq_false (by omega)
                    clear hu
                    gi_wp2
                    refine wpIn_region_plain_lit (by kernel_rfl) (by kernel_rfl) (by kernel_rfl) ?_
                    repeat (go_big_quiet_step (fail))
                    refine wpQuiet_nil ?_
                    intro _ hw'
                    obtain ⟨nq, hw''⟩ := hw'
                    subst hw''
                    gi_wp2
                    exact FIN.out nq
                  · obtain rfl : k = m0 := by omega
                    have k1 : ¬ (k : Int) < (k : Int) := by omega
                    gi_wp2
                    refine wpIn_region_plain_lit (by kernel_rfl) (by kernel_rfl) (by kernel_rfl) ?_
                    repeat (go_big_quiet_step (fail))
                    refine wpQuiet_nil ?_
                    intro _ hw'
                    obtain ⟨nq, hw''⟩ := hw'
                    subst hw''
                    gi_wp2
                    exact FIN.out nq
      · obtain rfl : i = m0 := by omega
        have z1 : ¬ ((i : Int) < (i : Int)) := by omega
        have hqd : q = (Fo.cons x c .nil).deep := by have h1 := HMX.out; rw [HLV.out] at h1; exact h1.deep HTW.out.l
        have CD : Hid (∀ Z, Below w.heap.size w Z → Calls Try.prog 18 #[trV a i cap] Z fun e w' => e = .returned (.int .i64 (q : Int)) ∧ Below Z.heap.size Z w') := fun Z hZ' => by rw [hqd]; exact HTW.out.deepC a cap Z (HT.out.below hZ')
        clear hqd
        gi_wp2_with (first
          | (refine ⟨trivial, ?_⟩; gi_at_call 18; refine (callsIn_wide.2 (CD.out wo (below_aft HBEL.out HZ.out))).mono ?_; rintro e w7 ⟨rfl, hb7⟩; have HB7 : Hid _ := hb7; clear hb7)
          | (refine ⟨trivial, ?_⟩; gi_at_call 10; refine (callsIn_wide.2 (awake_true _)).mono ?_; rintro e w8 ⟨rfl, hb8⟩; have HB8 : Hid _ := below_aft (below_aft HZ.out HB7.out) hb8; obtain ⟨r0, rf⟩ := (HRES.out.below HB8.out).one; have hrl := (HRES.out.below HB8.out).lt; clear hb8))
        have hDl : D < W.heap.size := lt_of_block HDEF.out
        have hD8 : w8.heap[D]? = some (.deferred (some [])) := (HB8.out.block D hDl).trans HDEF.out
        have hK' := (KeepsOthers.setCell w8 ⟨w.heap.size + 1, 0, none⟩ (.bool true)).same D _ hD8 rfl
        have b2 := (HRES.out.below HB8.out).setOne (.bool true)
        have bB := (below_aft HBEL.out HB8.out).setCell (p := ⟨w.heap.size + 1, 0, none⟩) (by simp) (.bool true)
        have hDD := HDD.out
        refine ⟨by simp, .inl ⟨_, _, rfl, run_takeDeferred hK', ?_⟩⟩
        have hg := grownBy_putObj' (w8.setCell ⟨w.heap.size + 1, 0, none⟩ (.bool true)) D (.deferred none)
        have c2 := (b2.grown hg (by simp; omega)).one.1
        refine ⟨.bool true, ?_, rfl, bB.grown hg bB.size (fun k e => by cases e; omega)⟩
        simp [results, Try.results8, go_sem, c2]
end Go.Proofs.Ytkidcmglidnaoaa
