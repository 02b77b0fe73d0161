import Derived.Test.YtjchbclkdbojpaaDoorDe
import Derived.Test.YtjchbclkdbojpaaDoorDk
namespace Go.Proofs.YtjchbclkdbojpaaDoor
open Go.RowKit
set_option linter.unusedVariables false
set_option linter.unusedSimpArgs false

/-- A row of so many in memory. -/
def arn (n : Nat) (v : Nat → Value) : Array Value := ((List.range n).map v).toArray
theorem arn_size (n : Nat) (v : Nat → Value) : (arn n v).size = n := by simp [arn]
theorem arn_at {n : Nat} (v : Nat → Value) {j : Nat} (h : j < n) : (arn n v)[j]? = some (v j) := by simp [arn, h]
theorem arn_set (n : Nat) (v : Nat → Value) (j : Nat) (x : Value) : (arn n v).setIfInBounds j x = arn n (upd v j x) := by
  apply Array.ext_getElem?
  intro i
  by_cases hi : i < n
  · rw [arn_at _ hi]
    by_cases e : i = j
    · subst e
      rw [upd_same]
      simp [arn_size, hi]
    · rw [upd_other _ _ e, Array.getElem?_setIfInBounds_ne (by omega), arn_at _ hi]
  · rw [Array.getElem?_eq_none (by rw [Array.size_setIfInBounds, arn_size]; omega), Array.getElem?_eq_none (by rw [arn_size]; omega)]
abbrev ArN (w : World) (b t n : Nat) (v : Nat → Value) : Prop := At w b (.cells (arn n v) t (0, 0))
theorem At.arnc {w : World} {b t n : Nat} {v : Nat → Value} (h : ArN w b t n v) {j : Nat} (hj : j < n) : w.cell? ⟨b, j, none⟩ = some (v j) := by
  unfold ArN At at h
  simp only [World.cell?, h]
  simpa using arn_at v hj
theorem At.arnf {w : World} {b t n : Nat} {v : Nat → Value} (h : ArN w b t n v) (j : Nat) : w.frozen? ⟨b, j, none⟩ = false := frozen_of_row w b j _ t h
theorem At.arns {w : World} {b t n : Nat} {v : Nat → Value} (h : ArN w b t n v) (j : Nat) (x : Value) : ArN (w.setCell ⟨b, j, none⟩ x) b t n (upd v j x) := by
  have := heap_setCell_same w b j (arn n v) t x h
  rw [arn_set] at this
  exact this
theorem arn_made {w : World} {base g n : Nat} (h : w.ownsRow base 4 1 (.slice (some ⟨g, 0, none⟩) n n) n (madeCells (Value.bool false).cells (n * 1)).toList) : ArN w g 4 n (bV fun _ => false) := by
  rcases h.2 with ⟨h', _⟩ | ⟨g', cap', cur, h', _, hg, _, _, hs, htake⟩
  · simp at h'
  · simp only [Value.slice.injEq, Option.some.injEq, Addr.mk.injEq, and_true, true_and] at h'
    obtain ⟨rfl, rfl⟩ := h'
    rw [show (Value.bool false).cells = #[Value.bool false] from rfl, toList_madeCells_one, List.take_of_length_le (by simp; omega)] at htake
    unfold ArN At
    rw [hg]
    congr 2
    apply Array.toList_inj.1
    rw [htake]
    simp [arn, List.map_const']
/-- The list of what is to be gone through, behind the first. -/
structure BF (ss : List (List Ty)) (i n : Nat) (T : List Nat) (M : Nat → Bool) : Prop where
  mem : ∀ j, M j = true ↔ j ∈ T
  rch : ∀ j ∈ T, Stn ss i j
  lt : ∀ j ∈ T, j < n
  cnt : T.length + left M ≤ 32
  no : i ∉ T
theorem BF.init (ss : List (List Ty)) (i n : Nat) : BF ss i n [] (fun _ => false) := ⟨fun j => (by simp), fun j h => (by cases h), fun j h => (by cases h), (by decide), (by simp)⟩
theorem BF.more {ss : List (List Ty)} {i n : Nat} {T : List Nat} {M : Nat → Bool} (h : BF ss i n T M) {j : Nat} (hj : j < n) (hn : n ≤ 32) (hm : M j = false) (hs : Stn ss i j) (hi : j ≠ i) : BF ss i n (T ++ [j]) (upd M j true) := by
  refine ⟨fun l => ?_, fun l hl => ?_, fun l hl => ?_, ?_, fun hl => ?_⟩
  · by_cases e : l = j
    · subst e; simp [upd]
    · rw [upd_other _ _ e, h.mem l]; simp [e]
  · rcases List.mem_append.1 hl with hl | hl
    · exact h.rch l hl
    · simp at hl; subst hl; exact hs
  · rcases List.mem_append.1 hl with hl | hl
    · exact h.lt l hl
    · simp at hl; subst hl; exact hj
  · have := left_lt (M := M) (j := j) (by omega) hm
    have := h.cnt
    simp
    omega
  · rcases List.mem_append.1 hl with hl | hl
    · exact h.no hl
    · simp at hl; exact hi hl.symm
/-- What the first k have in them is in the list. -/
def Cls (ss : List (List Ty)) (i k : Nat) (T : List Nat) : Prop := ∀ p j, p < k → (i :: T)[p]? = some j → ∀ l, Stp ss j l → l ∈ T
theorem Cls.more {ss : List (List Ty)} {i k : Nat} {T : List Nat} (h : Cls ss i k T) (hk : k ≤ T.length + 1) (l : Nat) : Cls ss i k (T ++ [l]) := fun p j hp hj x hx => by
  rw [← List.cons_append, List.getElem?_append_left (by simp; omega)] at hj
  exact List.mem_append.2 (.inl (h p j hp hj x hx))
theorem bf_end {ss : List (List Ty)} {i n k : Nat} {T : List Nat} {M : Nat → Bool} (h : BF ss i n T M) (hc : Cls ss i k T) (hk : T.length + 1 ≤ k) : ¬ Stn ss i i := fun hs => by
  refine h.no (Stn.closed (M := fun j => j ∈ T) (fun j hj => hc 0 i (by omega) rfl j hj) (fun a b ha hb => ?_) hs)
  obtain ⟨p, hp⟩ := List.mem_iff_getElem?.1 ha
  have hpl := (List.getElem?_eq_some_iff.1 hp).1
  exact hc (p + 1) a (by omega) (by simpa using hp) b hb
abbrev nI (T : List Nat) : List Int := T.map fun x : Nat => (x : Int)
/-- What the memory holds between two rounds. -/
structure EM (w W : World) (v : Value) (gm n i : Nat) (T : List Nat) (M : Nat → Bool) : Prop where
  bel : Below w.heap.size w W
  row : W.ownsRow w.heap.size 3 1 v (T.length + 1) (iCells (nI (i :: T)))
  met : ArN W gm 4 n (bV M)
  gm : w.heap.size ≤ gm
theorem EM.bl {w W W' : World} {v : Value} {gm n i : Nat} {T : List Nat} {M : Nat → Bool} (h : EM w W v gm n i T M) (k : Below W.heap.size W W') : EM w W' v gm n i T M :=
  ⟨below_aft h.bel k, h.row.kept (row := none) ⟨k.os, k.tape, k.output, k.size, fun i hi _ => k.block i hi⟩ (by cases e : v.ownBlock <;> simp), h.met.below k, h.gm⟩
theorem EM.set {w W : World} {v : Value} {gm n i : Nat} {T : List Nat} {M : Nat → Bool} (h : EM w W v gm n i T M) (j : Nat) : EM w (W.setCell ⟨gm, j, none⟩ (.bool true)) v gm n i T (upd M j true) := by
  have hne := own_ne h.row h.met (by decide)
  refine ⟨h.bel.setCell (p := ⟨gm, j, none⟩) h.gm _, h.row.kept (row := some gm) ((But.refl gm W).set j _) (.inr (fun e => hne e.symm)), ?_, h.gm⟩
  have := h.met.arns j (.bool true)
  rw [bV_upd] at this
  exact this
theorem EM.app {w W W' : World} {v v' : Value} {gm n i l m : Nat} {T : List Nat} {M : Nat → Bool} (h : EM w W v gm n i T M) (hr : W'.ownsRow w.heap.size 3 1 v' (T.length + 1 + 1) (iCells (nI (i :: T)) ++ [.int .i64 (l : Int)])) (hg : W.grownBy W' v.ownBlock) : EM w W' v' gm n i (T ++ [l]) M := by
  refine ⟨h.bel.grown hg h.bel.size (fun k hk => (h.row.lt k hk).1), ?_, h.met.grown hg (own_ne h.row h.met (by decide)), h.gm⟩
  have e : iCells (nI (i :: (T ++ [l]))) = iCells (nI (i :: T)) ++ [.int .i64 (l : Int)] := by simp [iCells, nI]
  rw [e]
  simpa using hr
theorem Tryd.info4 : (Tryd.prog.info? 4).map (fun i => (i.zero, i.size, i.bytes)) = some (some (.bool false), 1, 1) := by kernel_rfl
theorem nI_at {i k x : Nat} {T : List Nat} (h : (i :: T)[k]? = some x) : (iCells (nI (i :: T)))[k]? = some (.int .i64 (x : Int)) := by
  simp only [iCells, nI, List.map_map, List.getElem?_map, h]
  rfl
theorem i_one (x : Int) : ∀ u ∈ ([.int .i64 x] : List Value), u.oneCell' = true := fun u hu => by simp at hu; subst hu; rfl
theorem i_news {W : World} {b : Nat} {x : Int} (h : At W b (One (.int .i64 x) 3)) : ∀ j u, ([Value.int .i64 x] : List Value)[j]? = some u → W.cell? ((⟨b, 0, none⟩ : Addr).add j) = some u := fun j u hu => by
  cases j with
  | zero => simp at hu; subst hu; simp [Addr.add, cell_of_one h]
  | succ j => simp at hu
set_option maxRecDepth 100000 in
set_option maxHeartbeats 8000000 in
/-- The reference's endless (53): does a struct stand in itself? -/
theorem rendless_any (a : Option Addr) (n cap : Nat) (ss : List (List Ty)) (w : World) (h : StAt w a n cap ss) (hn : n ≤ 32) (hF : Fine ss) (i : Nat) (hi : i < n) (b : Bool) (hb : b = true ↔ Stn ss i i) :
    Calls Tryd.prog 53 #[.slice a n cap, .int .i64 (i : Int)] w fun e w' => e = .returned (.bool b) ∧ Below w.heap.size w w' := by
  have HB := hidD hb
  have HST := hidD h
  have HFI := hidD hF
  have HLN := hidD h.len
  obtain ⟨i4, hi4, hy0, hy1, hy2⟩ := info_parts Tryd.info4
  obtain ⟨i3, hi3, hz0, hz1, hz2⟩ := info_parts Tryd.info3
  have hnn : (0 : Int) ≤ (n : Int) := by omega
  clear hb h hF
  go_enter Tryd.func53, Tryd.ntmps53
  go_wp2_with (first
    | (at_make; refine wpList_make_full _ rfl _ _ 124 rfl w.heap.size 4 i4 (.bool false) 1 Tryd.underlying124 hi4 hy0 hy1 .i64 .i64 _ _ n rfl rfl rfl rfl (by rw [hy2]; omega) (by unfold maxLen; omega) (Nat.le_refl _) ?_; intro w1 hown1 hgrow1; have HM1 := hidD (arn_made hown1); have HB1 := hidD (below_of_grown hgrow1); clear hown1 hgrow1)
    | (at_builtin; refine wpList_append_own _ rfl _ _ 49 rfl w.heap.size 3 i3 (.int .i64 0) 1 8 Tryd.underlying49 hi3 hz0 hz1 hz2 rfl (by decide) (.slice none 0 0) 0 [] rfl (World.ownsRow_nil _ _ _ _) ⟨w1.heap.size, 0, none⟩ 1 1 [.int .i64 (i : Int)] rfl rfl (i_news (At.new w1 _)) (i_one _) (by unfold maxLen; omega) (by omega) (by have := HB1.out.size; simp; omega) ?_; intro v5 w2 ho2 hg2 hn2; have HE2 := hidD (show EM w w2 v5 w.heap.size n i [] (fun _ => false) from ⟨(belA HB1.out).grown hg2 (by have := HB1.out.size; simp; omega) (fun k hk => by cases hk), ho2, (HM1.out.alloc _).grown hg2 (by simp [Value.ownBlock]), Nat.le_refl _⟩); clear ho2 hg2 hn2))
  go_loopw [5, 7] (fun v5 v7 Z => ∃ (k : Nat) (T : List Nat) (M : Nat → Bool), k ≤ T.length + 1 ∧ v7 = .int .i64 k ∧ EM w Z v5 w.heap.size n i T M ∧ BF ss i n T M ∧ Cls ss i k T) (fun _ v7 _ => 33 - (intOf v7).toNat)
  case atStart => exact ⟨0, [], fun _ => false, by omega, rfl, HE2.out, BF.init _ _ _, fun p j hp => by omega⟩
  case round =>
    obtain ⟨k, T, M, hk, rfl, hE, hBF, hC⟩ := hrel
    obtain ⟨g5, cap5, hv5⟩ := own_is hE.row (by omega)
    subst hv5
    have HE := hidD hE
    have HBF := hidD hBF
    have HC := hidD hC
    have hcnt : T.length ≤ 32 := by have := hBF.cnt; omega
    clear hE hBF hC HE2 HM1 HB1
    by_cases hlk : k < T.length + 1
    · obtain ⟨x, hx⟩ : ∃ x, (i :: T)[k]? = some x := ⟨_, List.getElem?_eq_getElem (by simpa using hlk)⟩
      have hxn : x < n ∧ (x = i ∨ Stn ss i x) := by
        rcases List.mem_cons.1 (List.mem_of_getElem? hx) with e | e
        · exact ⟨by omega, .inl e⟩
        · exact ⟨HBF.out.lt x e, .inr (HBF.out.rch x e)⟩
      obtain ⟨fs, hfs⟩ : ∃ fs, ss[x]? = some fs := ⟨_, List.getElem?_eq_getElem (by have := HLN.out; omega)⟩
      obtain ⟨gs, off, fa, fcap, hag, hgs, hcell, hFd⟩ := HST.out.field HE.out.bel hfs
      have hfl := fld_of hfs
      obtain ⟨f1, f2, f3⟩ := HFI.out x fs hfs
      have HFL := hidD hfl
      have HP := hidD f3
      have HFd := hidD hFd
      have HXN := hidD hxn
      have HX := hidD hx
      subst hag
      obtain ⟨m, hm⟩ : ∃ m, m = fs.length := ⟨_, rfl⟩
      have HM := hidD hm
      have m8 : m ≤ 8 := by omega
      rw [← hm] at hcell
      have hc5 : wr.cell? ⟨g5, k, none⟩ = some (.int .i64 (x : Int)) := by
        rw [HE.out.row.cellAt k (by omega)]
        exact nI_at hx
      have hg5 := (HE.out.row.lt g5 rfl).2
      have hgw : gs < wr.heap.size := Nat.lt_of_lt_of_le hgs HE.out.bel.size
      obtain ⟨tl, htl⟩ : ∃ tl, tl = T.length + 1 := ⟨_, rfl⟩
      have HTL := hidD htl
      have x0 : (0 : Int) ≤ (x : Int) := by omega
      have x1 : (x : Int) < (n : Int) := by omega
      have k0 : (0 : Int) ≤ (k : Int) := by omega
      have k1 : (k : Int) < (tl : Int) := by omega
      have k9 : (k : Int) ≤ 1000 := by omega
      rw [← htl]
      clear hfl f1 f2 f3 hFd hxn hx hm hfs htl
      go_wp2_with fail
      go_loopw [5, 9] (fun v5 v9 Z => ∃ (q : Nat) (T2 : List Nat) (M2 : Nat → Bool), q ≤ m ∧ v9 = .int .i64 q ∧ k < T2.length + 1 ∧ (i :: T2)[k]? = some x ∧ EM w Z v5 w.heap.size n i T2 M2 ∧ BF ss i n T2 M2 ∧ Cls ss i k T2 ∧ (∀ t ∈ fs.take q, ∀ l, subT t = some l → l ∈ T2)) (fun _ v9 _ => m - (intOf v9).toNat)
      case atStart => exact ⟨0, T, M, Nat.zero_le _, rfl, by have := HTL.out; omega, HX.out, (by rw [HTL.out]; exact HE.out), HBF.out, HC.out, fun t ht => by cases ht⟩
      case round =>
        obtain ⟨q, T2, M2, hq, rfl, hk2, hx2, hE2, hBF2, hC2, hall⟩ := hrel
        obtain ⟨g6, cap6, hv6⟩ := own_is hE2.row (by omega)
        subst hv6
        have HE2 := hidD hE2
        have HBF2 := hidD hBF2
        have HC2 := hidD hC2
        have HX2 := hidD hx2
        have HALL := hidD hall
        have hcnt2 : T2.length ≤ 32 := by have := hBF2.cnt; omega
        have HFk := hidD (HFd.out.bel hE2.bel)
        obtain ⟨tl2, htl2⟩ : ∃ tl2, tl2 = T2.length + 1 := ⟨_, rfl⟩
        have HTL2 := hidD htl2
        rw [← htl2]
        clear hE2 hBF2 hC2 hx2 hall htl2
        by_cases hlq : q < m
        · obtain ⟨t, ht⟩ : ∃ t, fs[q]? = some t := ⟨_, List.getElem?_eq_getElem (by have := HM.out; omega)⟩
          obtain ⟨g', off', hfa, hkk⟩ := HFk.out.2 (fun e => by subst e; simp at ht)
          obtain ⟨V, nm, hnm, hV5, hVt⟩ := hkk q t ht
          have HTT := hidD ht
          have HPT := hidD (HP.out t (List.mem_of_getElem? ht))
          obtain ⟨hl5, p0, p1, p2, p3, p4⟩ := hV5
          subst hfa
          have e0 : (0 : Int) ≤ (q : Int) := by omega
          have e1 : (q : Int) < (m : Int) := by omega
          have e2 : (q : Int) ≤ 1000 := by omega
          clear hkk ht
          have HNX : Hid (∀ T3 : List Nat, (∀ y ∈ T2, y ∈ T3) → (∀ l, subT t = some l → l ∈ T3) → ∀ t' ∈ fs.take (q + 1), ∀ l, subT t' = some l → l ∈ T3) := hidD (fun T3 h1 h2 t' ht' l hl => by
            rw [List.take_add_one, HTT.out] at ht'
            rcases List.mem_append.1 ht' with h3 | h3
            · exact h1 l (HALL.out t' h3 l hl)
            · simp at h3; subst h3; exact h2 l hl)
          rcases HPT.out.kind with ⟨l, hl, hs, -, rfl⟩ | ⟨hs, ch, rfl, -, hch⟩
          · obtain ⟨ta, tcap, rfl, -⟩ := hVt.leaf
            have hln : l < n := by have := HLN.out; omega
            have HS := hidD hs
            have HSTP : Hid (Stp ss x l) := hidD ⟨_, by rw [HFL.out]; exact List.mem_of_getElem? HTT.out, hs⟩
            have l0 : (0 : Int) ≤ (l : Int) := by omega
            have l1 : (l : Int) < (n : Int) := by omega
            clear hs hVt
            by_cases hli : l = i
            · subst hli
              have hbt : b = true := HB.out.2 (by
                rcases HXN.out.2 with e | e
                · have := HSTP.out; rw [e] at this; exact .one this
                · exact e.trans (.one HSTP.out))
              go_wp2_with fail
              subst hbt
              go_ret
              exact ⟨rfl, belA HE2.out.bel⟩
            · have HSN : Hid (Stn ss i l) := hidD (by
                rcases HXN.out.2 with e | e
                · have := HSTP.out; rw [e] at this; exact .one this
                · exact e.trans (.one HSTP.out))
              have n1 : ¬ (l : Int) = (i : Int) := by omega
              have n2 : ((l : Int) == (i : Int)) = false := by simpa using n1
              have n3 : (l == i) = false := by simpa using hli
              have hc0 := HE2.out.met.arnc hln
              have hf0 := HE2.out.met.arnf l
              have hbl := HE2.out.met.lt
              cases hm2 : M2 l with
              | true =>
                rw [show bV M2 l = .bool true from by simp [bV, hm2]] at hc0
                have HLT := hidD ((HBF2.out.mem l).1 hm2)
                clear hm2
                go_wp2_with fail
                refine ⟨⟨q + 1, T2, M2, hlq, by go_num, hk2, HX2.out, by rw [HTL2.out]; exact HE2.out.bl (belA (Below.refl _ _)), HBF2.out, HC2.out, HNX.out T2 (fun y hy => hy) (fun l' hl' => ?_)⟩, ?_⟩
                · rw [HS.out] at hl'; cases hl'; exact HLT.out
                · show m - ((q : Int) + 1).toNat < m - (q : Int).toNat
                  omega
              | false =>
                rw [show bV M2 l = .bool false from by simp [bV, hm2]] at hc0
                have HMF := hidD hm2
                have HEA : Hid (∀ o1 o2, EM w (((wr.setCell ⟨w.heap.size, l, none⟩ (.bool true)).alloc o1).alloc o2) (.slice (some ⟨g6, 0, none⟩) tl2 cap6) w.heap.size n i T2 (upd M2 l true)) := hidD (fun o1 o2 => by rw [HTL2.out]; exact ((HE2.out.set l).bl (belA (Below.refl _ _))).bl (belA (Below.refl _ _)))
                have HAN : Hid (∀ o1 x, At (((wr.setCell ⟨w.heap.size, l, none⟩ (.bool true)).alloc o1).alloc (One x 3)) (wr.heap.size + 1) (One x 3)) := hidD (fun o1 x => by have := at_snd (wr.setCell ⟨w.heap.size, l, none⟩ (.bool true)) o1 (One x 3); simpa only [World.size_setCell] using this)
                have HBB : Hid (∀ o1 o2, w.heap.size ≤ (((wr.setCell ⟨w.heap.size, l, none⟩ (.bool true)).alloc o1).alloc o2).heap.size) := hidD (fun o1 o2 => (HEA.out o1 o2).bel.size)
                clear hm2
                go_wp2_with (at_builtin; refine wpList_append_own _ rfl _ _ 49 rfl w.heap.size 3 i3 (.int .i64 0) 1 8 Tryd.underlying49 hi3 hz0 hz1 hz2 rfl (by decide) (.slice (some ⟨g6, 0, none⟩) tl2 cap6) (T2.length + 1) (iCells (nI (i :: T2))) rfl (HEA.out _ _).row ⟨wr.heap.size + 1, 0, none⟩ 1 1 [.int .i64 (l : Int)] rfl rfl (i_news (HAN.out _ _)) (i_one _) (by unfold maxLen; omega) (by omega) (HBB.out _ _) ?_; intro v7 w7 ho7 hg7 hn7; have HE7 := hidD ((HEA.out _ _).app (m := 0) ho7 hg7); clear ho7 hg7 hn7)
                refine ⟨⟨q + 1, T2 ++ [l], upd M2 l true, hlq, by go_num, by simp; omega, ?_, HE7.out, HBF2.out.more hln hn HMF.out HSN.out hli, HC2.out.more (by omega) l, HNX.out _ (fun y hy => List.mem_append.2 (.inl hy)) (fun l' hl' => ?_)⟩, ?_⟩
                · rw [← List.cons_append, List.getElem?_append_left (by simp; omega)]
                  exact HX2.out
                · rw [HS.out] at hl'; cases hl'; simp
                · show m - ((q : Int) + 1).toNat < m - (q : Int).toNat
                  omega
          · have HS := hidD hs
            have hk5 : ¬ (V.k : Int) = 5 := by
              rcases hch with ⟨kk, s, rfl, hkk, -⟩ | ⟨d, rfl, -⟩
              · obtain ⟨ta, tcap, rfl, -⟩ := hVt.leaf
                show ¬ (kk : Int) = 5
                omega
              · obtain ⟨_, _, _, _, rfl, -⟩ := hVt.box
                show ¬ ((3 : Nat) : Int) = 5
                omega
            clear hs hVt hch
            go_wp2_with fail
            refine ⟨⟨q + 1, T2, M2, hlq, by go_num, hk2, HX2.out, by rw [HTL2.out]; exact HE2.out.bl (belA (Below.refl _ _)), HBF2.out, HC2.out, HNX.out T2 (fun y hy => hy) (fun l' hl' => ?_)⟩, ?_⟩
            · rw [HS.out] at hl'; cases hl'
            · show m - ((q : Int) + 1).toNat < m - (q : Int).toNat
              omega
        · obtain rfl : q = m := by omega
          have z1 : ¬ ((q : Int) < (q : Int)) := by omega
          go_wp2_with fail
          refine ⟨⟨k + 1, T2, M2, hk2, by go_num, by rw [HTL2.out]; exact HE2.out, HBF2.out, fun p j hp hj l hl => ?_⟩, ?_⟩
          · by_cases e : p = k
            · subst e
              rw [HX2.out] at hj
              cases hj
              obtain ⟨t, ht, hs⟩ := hl
              rw [HFL.out] at ht
              exact HALL.out t (by rw [List.take_of_length_le (by have := HM.out; omega)]; exact ht) l hs
            · exact HC2.out p j (by omega) hj l hl
          · show 33 - ((k : Int) + 1).toNat < 33 - (k : Int).toNat
            omega
    · obtain rfl : k = T.length + 1 := by omega
      have hbf : b = false := by
        cases hb' : b with
        | false => rfl
        | true => exact absurd (HB.out.1 hb') (bf_end HBF.out HC.out (Nat.le_refl _))
      obtain ⟨tl, htl⟩ : ∃ tl, tl = T.length + 1 := ⟨_, rfl⟩
      rw [← htl]
      have z1 : ¬ ((tl : Int) < (tl : Int)) := by omega
      clear htl
      go_wp2_with fail
      subst hbf
      go_ret
      exact ⟨rfl, HE.out.bel⟩
end Go.Proofs.YtjchbclkdbojpaaDoor
namespace Go.Proofs.YtjchbclkdbojpaaDoor
open Go.RowKit Go.Shelf
set_option linter.unusedVariables false
set_option linter.unusedSimpArgs false

theorem take_wd (ss : List (List Ty)) {l : List Ty} {k : Nat} {t : Ty} (h : l[k]? = some t) : ((l.take (k + 1)).map (wdT ss)).sum = ((l.take k).map (wdT ss)).sum + wdT ss t := by
  rw [List.take_add_one, h]
  simp
theorem take_le (ss : List (List Ty)) (l : List Ty) (k : Nat) : ((l.take k).map (wdT ss)).sum ≤ (l.map (wdT ss)).sum := by
  have e := List.take_append_drop k l
  have : (l.map (wdT ss)).sum = ((l.take k).map (wdT ss)).sum + ((l.drop k).map (wdT ss)).sum := by
    rw [← List.sum_append, ← List.map_append, e]
  omega
set_option maxRecDepth 100000 in
theorem rwords_ne (f : Fv) (w : World) (hk : ¬ (f.k : Int) = 5) (sv kv : Value) : Calls Tryd.prog 54 #[sv, f.v, kv] w fun e w' => e = .returned (.int .i64 1) ∧ Below w.heap.size w w' := by
  obtain ⟨k, m, r, s, a, n, cap⟩ := f
  have k5 : ¬ (k : Int) = 5 := hk
  show Calls Tryd.prog 54 #[sv, tyV k m r s a n cap, kv] w _
  clear hk
  go_enter Tryd.func54, Tryd.ntmps54
  go_wp2_with fail
  go_ret
  exact ⟨rfl, belA (Below.refl _ _)⟩
set_option maxRecDepth 100000 in
set_option maxHeartbeats 4000000 in
theorem rwords_any (w0 : World) (a : Option Addr) (n cap : Nat) (ss : List (List Ty)) (h : StAt w0 a n cap ss) (hn : n ≤ 32) (hF : Fine ss) (rk : Nat → Nat) (hr : Rank ss rk) :
    ∀ (c j most : Nat) (W : World) (V : Fv), rk j < c → j < n → most ≤ 16 → Below w0.heap.size w0 W → V.k = 5 → V.s = (j : Int) →
      Calls Tryd.prog 54 #[.slice a n cap, V.v, .int .i64 (most : Int)] W fun e w' => e = .returned (.int .i64 ((min (tw ss j) (most + 1) : Nat) : Int)) ∧ Below W.heap.size W w' := by
  intro c
  induction c with
  | zero => intro j most W V hc; omega
  | succ c ih =>
    intro j most W V hc hj hmo hBW hVk hVs
    obtain ⟨vk, vm, vr, vs, va, vn, vcap⟩ := V
    simp only at hVk hVs
    subst hVk
    subst hVs
    show Calls Tryd.prog 54 #[.slice a n cap, tyV 5 vm vr (j : Int) va vn vcap, .int .i64 (most : Int)] W _
    have q0 : (0 : Int) ≤ (j : Int) := by omega
    have q2 : (j : Int) < (n : Int) := by omega
    have HC := hidD hc
    have HBW := hidD hBW
    have HLN := hidD h.len
    obtain ⟨x, hx⟩ : ∃ x, x = min (tw ss j) (most + 1) := ⟨_, rfl⟩
    have HX := hidD hx
    rw [← hx]
    obtain ⟨fs, hfs⟩ : ∃ fs, ss[j]? = some fs := ⟨_, List.getElem?_eq_getElem (by have := h.len; omega)⟩
    obtain ⟨g, off, fa, fcap, hag, hg, hcell, hFd⟩ := h.field hBW hfs
    obtain ⟨f1, f2, f3⟩ := hF j fs hfs
    have hg2 : g < W.heap.size := Nat.lt_of_lt_of_le hg hBW.size
    have HFL := hidD (fld_of hfs)
    have IH := hidD ih
    have HF := hidD hFd
    have HP := hidD f3
    have HR := hidD hr
    obtain ⟨m, hm⟩ : ∃ m, m = fs.length := ⟨_, rfl⟩
    have HM := hidD hm
    have m8 : m ≤ 8 := by omega
    have HTW : Hid (tw ss j = (fs.map (wdT ss)).sum) := hidD (by rw [tw_eq hr, fld_of hfs])
    rw [← hm] at hcell
    subst hag
    clear f1 f2 f3 hm hfs hF ih hc hBW h hFd hr hx
    go_enter Tryd.func54, Tryd.ntmps54
    go_wp2_with fail
    go_loopw [7, 9] (fun v7 v9 Z => ∃ k z : Nat, k ≤ m ∧ v9 = .int .i64 k ∧ v7 = .int .i64 (z : Int) ∧ z = min ((fs.take k).map (wdT ss)).sum (most + 1) ∧ Below W.heap.size W Z) (fun _ v9 _ => m - (intOf v9).toNat)
    case atStart => exact ⟨0, 0, Nat.zero_le _, rfl, rfl, by simp, belA (Below.refl _ _)⟩
    case round =>
      obtain ⟨k, z, hk, rfl, rfl, hz, hBV⟩ := hrel
      have HBV := hidD hBV
      have HZ := hidD hz
      have hB0 := HBW.out.trans (hBV.mono HBW.out.size)
      have HB0 := hidD hB0
      have HFk := hidD (HF.out.bel hB0)
      have z17 : z ≤ 17 := by omega
      clear hBV hB0 hz
      by_cases hlk : k < m
      · by_cases hzm : z ≤ most
        · obtain ⟨t, ht⟩ : ∃ t, fs[k]? = some t := ⟨_, List.getElem?_eq_getElem (by have := HM.out; omega)⟩
          obtain ⟨g', off', hfa, hkk⟩ := HFk.out.2 (fun e => by subst e; simp at ht)
          obtain ⟨V, nm, hnm, hV5, hVt⟩ := hkk k t ht
          have HTT := hidD ht
          have HPT := hidD (HP.out t (List.mem_of_getElem? ht))
          have HVT := hidD hVt
          obtain ⟨hl5, p0, p1, p2, p3, p4⟩ := hV5
          subst hfa
          have e0 : (0 : Int) ≤ (k : Int) := by omega
          have e1 : (k : Int) < (m : Int) := by omega
          have e2 : (k : Int) ≤ 1000 := by omega
          have e3 : (z : Int) ≤ (most : Int) := by omega
          obtain ⟨r, hrr⟩ : ∃ r, r = most - z := ⟨_, rfl⟩
          have ws : IntKind.i64.wrap ((most : Int) - (z : Int)) = (r : Int) := by rw [IntKind.wrap_i64]; omega
          obtain ⟨y, hy⟩ : ∃ y, y = min (wdT ss t) (r + 1) := ⟨_, rfl⟩
          have y17 : y ≤ 17 := by omega
          have wa : IntKind.i64.wrap ((z : Int) + (y : Int)) = (z : Int) + (y : Int) := by rw [IntKind.wrap_i64]; omega
          have CW : Hid (∀ W1, Below w0.heap.size w0 W1 → Calls Tryd.prog 54 #[.slice (some ⟨g, off, none⟩) n cap, V.v, .int .i64 (r : Int)] W1 fun e w' => e = .returned (.int .i64 (y : Int)) ∧ Below W1.heap.size W1 w') := hidD (fun W1 hB1 => by
            cases hs : subT t with
            | none =>
              obtain ⟨h1, -⟩ := dpT_ne ss HPT.out hs HVT.out
              have e : wdT ss t = 1 := by unfold wdT; rw [hs]
              have ey : y = 1 := by omega
              rw [ey]
              exact rwords_ne V W1 h1 _ _
            | some l =>
              obtain ⟨hl, rfl⟩ := HPT.out.sub hs
              obtain ⟨ta, tcap, rfl, -⟩ := HVT.out.leaf
              have hst : Stp ss j l := ⟨_, by rw [HFL.out]; exact List.mem_of_getElem? HTT.out, hs⟩
              have := HR.out.2 j l hst
              have hc' := HC.out
              have e : wdT ss (Ch.leaf 5 (l : Int)).ty = tw ss l := by unfold wdT; rw [hs]
              rw [hy, e]
              exact IH.out l r W1 _ (by omega) (by have := HLN.out; omega) (by omega) hB1 rfl rfl)
          have HY := hidD hy
          have HRR := hidD hrr
          clear hkk ht hVt hy hrr
          go_wp2_with (go_at_call 54; refine (CW.out _ HB0.out).mono ?_; rintro e w1 ⟨rfl, hb1⟩)
          refine ⟨⟨k + 1, z + y, hlk, by go_num, by go_num, ?_, below_aft HBV.out hb1⟩, ?_⟩
          · rw [take_wd ss HTT.out]
            have h1 := HZ.out
            have h2 := HY.out
            have h3 := HRR.out
            omega
          · show m - ((k : Int) + 1).toNat < m - (k : Int).toNat
            omega
        · have e1 : (k : Int) < (m : Int) := by omega
          have e3 : ¬ (z : Int) ≤ (most : Int) := by omega
          obtain rfl : z = x := by
            have h1 := HZ.out
            have h2 := HX.out
            have h3 := HTW.out
            have h4 := take_le ss fs k
            omega
          go_wp2_with fail
          go_ret
          exact ⟨rfl, HBV.out⟩
      · obtain rfl : k = m := by omega
        have z1 : ¬ ((k : Int) < (k : Int)) := by omega
        obtain rfl : z = x := by
          have h1 := HZ.out
          have h2 := HX.out
          have h3 := HTW.out
          rw [List.take_of_length_le (by have := HM.out; omega)] at h1
          omega
        go_wp2_with fail
        go_ret
        exact ⟨rfl, HBV.out⟩
set_option maxRecDepth 100000 in
theorem rdrops_ne (f : Fv) (w : World) (hk : ¬ (f.k : Int) = 5) (sv : Value) : Calls Tryd.prog 59 #[sv, f.v] w fun e w' => e = .returned (.bool (decide ((f.k : Int) = 3))) ∧ Below w.heap.size w w' := by
  obtain ⟨k, m, r, s, a, n, cap⟩ := f
  have k5 : ¬ (k : Int) = 5 := hk
  show Calls Tryd.prog 59 #[sv, tyV k m r s a n cap] w fun e w' => e = .returned (.bool (decide ((k : Int) = 3))) ∧ Below w.heap.size w w'
  clear hk
  by_cases k3 : (k : Int) = 3
  · rw [decide_eq_true k3]
    go_enter Tryd.func59, Tryd.ntmps59
    go_wp2_with fail
    go_ret
    exact ⟨rfl, belA (Below.refl _ _)⟩
  · rw [decide_eq_false k3]
    have k4 : ((k : Int) == 3) = false := by simpa using k3
    go_enter Tryd.func59, Tryd.ntmps59
    go_wp2_with fail
    go_ret
    exact ⟨by first | rfl | simp [k3], belA (Below.refl _ _)⟩
set_option maxRecDepth 100000 in
set_option maxHeartbeats 4000000 in
theorem rdrops_any (w0 : World) (a : Option Addr) (n cap : Nat) (ss : List (List Ty)) (h : StAt w0 a n cap ss) (hn : n ≤ 32) (hF : Fine ss) (rk : Nat → Nat) (hr : Rank ss rk) :
    ∀ (c j : Nat) (W : World) (V : Fv), rk j < c → j < n → Below w0.heap.size w0 W → V.k = 5 → V.s = (j : Int) →
      Calls Tryd.prog 59 #[.slice a n cap, V.v] W fun e w' => e = .returned (.bool (dp ss j)) ∧ Below W.heap.size W w' := by
  intro c
  induction c with
  | zero => intro j W V hc; omega
  | succ c ih =>
    intro j W V hc hj hBW hVk hVs
    obtain ⟨vk, vm, vr, vs, va, vn, vcap⟩ := V
    simp only at hVk hVs
    subst hVk
    subst hVs
    show Calls Tryd.prog 59 #[.slice a n cap, tyV 5 vm vr (j : Int) va vn vcap] W _
    have q0 : (0 : Int) ≤ (j : Int) := by omega
    have q2 : (j : Int) < (n : Int) := by omega
    have HC := hidD hc
    have HBW := hidD hBW
    have HLN := hidD h.len
    obtain ⟨x, hx⟩ : ∃ x, x = dp ss j := ⟨_, rfl⟩
    have HX := hidD hx
    rw [← hx]
    obtain ⟨fs, hfs⟩ : ∃ fs, ss[j]? = some fs := ⟨_, List.getElem?_eq_getElem (by have := h.len; omega)⟩
    obtain ⟨g, off, fa, fcap, hag, hg, hcell, hFd⟩ := h.field hBW hfs
    obtain ⟨f1, f2, f3⟩ := hF j fs hfs
    have hg2 : g < W.heap.size := Nat.lt_of_lt_of_le hg hBW.size
    have HFL := hidD (fld_of hfs)
    have IH := hidD ih
    have HF := hidD hFd
    have HP := hidD f3
    have HR := hidD hr
    obtain ⟨m, hm⟩ : ∃ m, m = fs.length := ⟨_, rfl⟩
    have HM := hidD hm
    have m8 : m ≤ 8 := by omega
    rw [← hm] at hcell
    subst hag
    clear f1 f2 f3 hm hfs hF ih hc hBW h hFd hr hx
    go_enter Tryd.func59, Tryd.ntmps59
    go_wp2_with fail
    go_loopw [6] (fun v6 Z => ∃ k : Nat, k ≤ m ∧ v6 = .int .i64 k ∧ (fs.take k).any (dpT ss) = false ∧ Below W.heap.size W Z) (fun v6 _ => m - (intOf v6).toNat)
    case atStart => exact ⟨0, Nat.zero_le _, rfl, rfl, belA (Below.refl _ _)⟩
    case round =>
      obtain ⟨k, hk, rfl, hany, hBV⟩ := hrel
      have HBV := hidD hBV
      have HAN := hidD hany
      have hB0 := HBW.out.trans (hBV.mono HBW.out.size)
      have HB0 := hidD hB0
      have HFk := hidD (HF.out.bel hB0)
      clear hBV hB0 hany
      by_cases hlk : k < m
      · obtain ⟨t, ht⟩ : ∃ t, fs[k]? = some t := ⟨_, List.getElem?_eq_getElem (by have := HM.out; omega)⟩
        obtain ⟨g', off', hfa, hkk⟩ := HFk.out.2 (fun e => by subst e; simp at ht)
        obtain ⟨V, nm, hnm, hV5, hVt⟩ := hkk k t ht
        have HTT := hidD ht
        have HPT := hidD (HP.out t (List.mem_of_getElem? ht))
        have HVT := hidD hVt
        obtain ⟨hl5, p0, p1, p2, p3, p4⟩ := hV5
        subst hfa
        have e0 : (0 : Int) ≤ (k : Int) := by omega
        have e1 : (k : Int) < (m : Int) := by omega
        have e2 : (k : Int) ≤ 1000 := by omega
        have CW : Hid (∀ (y : Bool), y = dpT ss t → ∀ W1, Below w0.heap.size w0 W1 → Calls Tryd.prog 59 #[.slice (some ⟨g, off, none⟩) n cap, V.v] W1 fun e w' => e = .returned (.bool y) ∧ Below W1.heap.size W1 w') := hidD (fun y hy W1 hB1 => by
          rw [hy]
          cases hs : subT t with
          | none =>
            obtain ⟨h1, h2⟩ := dpT_ne ss HPT.out hs HVT.out
            rw [h2]
            exact rdrops_ne V W1 h1 _
          | some l =>
            obtain ⟨hl, rfl⟩ := HPT.out.sub hs
            obtain ⟨ta, tcap, rfl, -⟩ := HVT.out.leaf
            have hst : Stp ss j l := ⟨_, by rw [HFL.out]; exact List.mem_of_getElem? HTT.out, hs⟩
            have := HR.out.2 j l hst
            have hc' := HC.out
            have e : dpT ss (Ch.leaf 5 (l : Int)).ty = dp ss l := by unfold dpT; rw [hs]
            rw [e]
            exact IH.out l W1 _ (by omega) (by have := HLN.out; omega) hB1 rfl rfl)
        clear hkk ht hVt
        cases hy : dpT ss t with
        | true =>
          have CW1 := hidD (CW.out true hy.symm)
          have hx1 : x = true := by
            rw [HX.out, dp_eq HR.out, HFL.out]
            exact List.any_eq_true.2 ⟨t, List.mem_of_getElem? HTT.out, hy⟩
          have HX1 := hidD hx1
          clear CW hx1
          go_wp2_with (go_at_call 59; refine (CW1.out _ HB0.out).mono ?_; rintro e w1 ⟨rfl, hb1⟩)
          go_ret
          rw [HX1.out]
          exact ⟨rfl, below_aft HBV.out hb1⟩
        | false =>
          have CW1 := hidD (CW.out false hy.symm)
          clear CW
          go_wp2_with (go_at_call 59; refine (CW1.out _ HB0.out).mono ?_; rintro e w1 ⟨rfl, hb1⟩)
          refine ⟨⟨k + 1, hlk, by go_num, ?_, below_aft HBV.out hb1⟩, ?_⟩
          · rw [take_any' ss HTT.out, HAN.out, hy]
            rfl
          · show m - ((k : Int) + 1).toNat < m - (k : Int).toNat
            omega
      · obtain rfl : k = m := by omega
        have z1 : ¬ ((k : Int) < (k : Int)) := by omega
        have hx1 : x = false := by
          rw [HX.out, dp_eq HR.out, HFL.out, ← List.take_of_length_le (l := fs) (i := k) (by have := HM.out; omega)]
          exact HAN.out
        have HX1 := hidD hx1
        clear hx1
        go_wp2_with fail
        go_ret
        rw [HX1.out]
        exact ⟨rfl, HBV.out⟩
end Go.Proofs.YtjchbclkdbojpaaDoor
namespace Go.Proofs.YtjchbclkdbojpaaDoor
open Go.RowKit Go.Shelf
set_option linter.unusedVariables false
set_option linter.unusedSimpArgs false

set_option maxRecDepth 100000 in
set_option maxHeartbeats 8000000 in
/-- The reference's Structs (13). -/
theorem rStructs_any (a : Option Addr) (n cap : Nat) (ss : List (List Ty)) (w : World) (h : StAt w a n cap ss) (b1 b2 b3 : Nat → Bool) (hb : Flt ss b1 b2 b3) :
    Calls Tryd.prog 13 #[.slice a n cap] w fun e w' => e = .returned (.tuple #[.int .i64 ((stRes n b1 b2 b3).1 : Int), .int .i64 ((stRes n b1 b2 b3).2 : Int)]) ∧ Below w.heap.size w w' := by
  by_cases hn : 32 < n
  · rw [stRes_big hn]
    have k1 : (32 : Int) < (n : Int) := by omega
    clear h hb
    go_enter Tryd.func13, Tryd.ntmps13
    go_wp2_with fail
    go_ret2
    exact ⟨rfl, Below.refl _ _⟩
  have k1 : ¬ (32 : Int) < (n : Int) := by omega
  obtain ⟨R, hR⟩ : ∃ R, R = stRes n b1 b2 b3 := ⟨_, rfl⟩
  rw [← hR]
  have HR := hidD hR
  have HN := hidD hn
  have hlen : n = ss.length := h.len
  have HLN := hidD hlen
  have HST := hidD h
  have HFL := hidD hb
  have n32 : n ≤ 32 := by omega
  have C2 : Hid ((∀ j, j < n → b1 j = false) → ∀ W i, Below w.heap.size w W → i < n → ∀ x, x = b2 i → Calls Tryd.prog 53 #[.slice a n cap, .int .i64 (i : Int)] W fun e w' => e = .returned (.bool x) ∧ Below W.heap.size W w') := hidD (fun h1 W i hW hi x hx => rendless_any a n cap ss W (h.bel hW) (by omega) (hb.fine (fun j hj => h1 j (by omega))) i hi x (by rw [hx]; exact hb.h2 i))
  have C3 : Hid ((∀ j, j < n → b1 j = false) → (∀ j, j < n → b2 j = false) → ∀ W i, Below w.heap.size w W → i < n → ∃ y : Nat, (b3 i = true ↔ 16 < y) ∧ Calls Tryd.prog 54 #[.slice a n cap, tyV 5 false 0 (i : Int) none 0 0, .int .i64 16] W fun e w' => e = .returned (.int .i64 (y : Int)) ∧ Below W.heap.size W w') := hidD (fun h1 h2 W i hW hi => by
    have hF := hb.fine (fun j hj => h1 j (by omega))
    obtain ⟨rk, hr⟩ := hb.rank hF (fun j hj => h2 j (by omega))
    exact ⟨min (tw ss i) (16 + 1), by rw [hb.h3 i]; omega, rwords_any w a n cap ss h (by omega) hF rk hr _ i 16 W ⟨5, false, 0, (i : Int), none, 0, 0⟩ (Nat.lt_succ_self _) hi (by omega) hW rfl rfl⟩)
  clear h hb hR hn hlen
  go_enter Tryd.func13, Tryd.ntmps13
  go_wp2_with fail
  go_loopw [4] (fun v V => ∃ i : Nat, i ≤ n ∧ v = .int .i64 i ∧ (∀ j, j < i → b1 j = false) ∧ Below w.heap.size w V) (fun v _ => n - (intOf v).toNat)
  case atStart => exact ⟨0, Nat.zero_le _, rfl, fun j hj => by omega, Below.refl _ _⟩
  case round =>
    obtain ⟨i, hi, rfl, hall, hBi⟩ := hrel
    have HALL := hidD hall
    have HBi := hidD hBi
    clear hall hBi
    by_cases hlt : i < n
    · have j0 : (0 : Int) ≤ (i : Int) := by omega
      have j1 : (i : Int) < (n : Int) := by omega
      have j2 : (i : Int) ≤ 1000 := by omega
      obtain ⟨fs, hfs⟩ : ∃ fs, ss[i]? = some fs := ⟨_, List.getElem?_eq_getElem (by have := HLN.out; omega)⟩
      obtain ⟨g, off, fa, fcap, hag, hg, hcell, hFd⟩ := HST.out.field HBi.out hfs
      have HB1 := hidD (HFL.out.h1 i fs hfs)
      have HFd := hidD hFd
      obtain ⟨m, hm⟩ : ∃ m, m = fs.length := ⟨_, rfl⟩
      have HM := hidD hm
      have hgw : g < wr.heap.size := Nat.lt_of_lt_of_le hg HBi.out.size
      rw [← hm] at hcell
      subst hag
      have HRR : Hid (b1 i = true → R = (i, 2)) := hidD (fun h1 => HR.out.trans (stRes_1 HN.out hlt h1 HALL.out))
      obtain ⟨wo, rfl⟩ : ∃ wo, wo = wr := ⟨_, rfl⟩
      clear hFd hm hfs
      by_cases m1 : m < 1
      · have q1 : (m : Int) < 1 := by omega
        have HQ := hidD (HRR.out (HB1.out.2 (fun e => by have := HM.out; omega)))
        go_wp2_with fail
        go_ret2
        rw [HQ.out]
        exact ⟨rfl, HBi.out⟩
      · by_cases m8 : 8 < m
        · have q1 : ¬ (m : Int) < 1 := by omega
          have q2 : (8 : Int) < (m : Int) := by omega
          have HQ := hidD (HRR.out (HB1.out.2 (fun e => by have := HM.out; omega)))
          go_wp2_with fail
          go_ret2
          rw [HQ.out]
          exact ⟨rfl, HBi.out⟩
        · have q1 : ¬ (m : Int) < 1 := by omega
          have q2 : ¬ (8 : Int) < (m : Int) := by omega
          go_wp2_with fail
          go_loopw [6] (fun v V => ∃ k : Nat, k ≤ m ∧ v = .int .i64 k ∧ (∀ k' t, k' < k → fs[k']? = some t → PlainT n t) ∧ Below w.heap.size w V) (fun v _ => m - (intOf v).toNat)
          case atStart => exact ⟨0, Nat.zero_le _, rfl, fun k' t hk => by omega, HBi.out⟩
          case round =>
            obtain ⟨k, hk, rfl, hallk, hBk⟩ := hrel
            have HAK := hidD hallk
            have HBk := hidD hBk
            have HFk := hidD (HFd.out.bel hBk)
            clear hallk hBk
            by_cases hlk : k < m
            · obtain ⟨t, ht⟩ : ∃ t, fs[k]? = some t := ⟨_, List.getElem?_eq_getElem (by have := HM.out; omega)⟩
              obtain ⟨g', off', hfa, hkk⟩ := HFk.out.2 (fun e => by subst e; simp at ht)
              obtain ⟨V, nm, hnm, hV5, hVt⟩ := hkk k t ht
              have HTT := hidD ht
              have HVT := hidD hVt
              have H5 := hidD hV5
              obtain ⟨hl5, p0, p1, p2, p3, p4⟩ := hV5
              subst hfa
              have e0 : (0 : Int) ≤ (k : Int) := by omega
              have e1 : (k : Int) < (m : Int) := by omega
              have e2 : (k : Int) ≤ 1000 := by omega
              clear hkk hVt ht
              have HNO : Hid (¬ PlainT n t → R = (i, 2)) := hidD (fun hno => HRR.out (HB1.out.2 (fun e => hno (by rw [HLN.out]; exact e.2.2 t (List.mem_of_getElem? HTT.out)))))
              have CM : Hid (Calls Tryd.prog 51 #[V.v, .int .i64 (n : Int), .int .i64 48] wr fun e w' => e = .returned (.bool (mayB n 48 t)) ∧ Below wr.heap.size wr w') := hidD (look_all n 48 (by omega) t V wr HVT.out)
              cases hmb : mayB n 48 t with
              | false =>
                rw [hmb] at CM
                have HQ := hidD (HNO.out (fun ⟨c, e1, e2, e3, e4⟩ => by rw [e1, ch_mayB e2 e3] at hmb; cases hmb))
                go_wp2_with (go_at_call 51; refine CM.out.mono ?_; rintro e w1 ⟨rfl, hb1⟩)
                go_ret2
                rw [HQ.out]
                exact ⟨rfl, below_aft HBk.out hb1⟩
              | true =>
                rw [hmb] at CM
                obtain ⟨c, rfl, hc1, hc2⟩ := mayB_ch hmb
                have CR : Hid (∀ W, Below wr.heap.size wr W → Calls Tryd.prog 52 #[V.v] W fun e w' => e = .returned (.bool c.regs.isEmpty) ∧ Below W.heap.size W w') := hidD (fun W hW => plain_any c V W (Ch.ok_mono (by omega) c hc1) (HVT.out.bel hW))
                cases hre : c.regs.isEmpty with
                | false =>
                  rw [hre] at CR
                  have HQ := hidD (HNO.out (fun ⟨c', e1, e2, e3, e4⟩ => by rw [Ch.ty_inj e1, e4] at hre; cases hre))
                  go_wp2_with (first
                    | (go_at_call 51; refine CM.out.mono ?_; rintro e w1 ⟨rfl, hb1⟩; have HB1' := hidD hb1; clear p0 p1 p2 p3 p4 hl5; obtain ⟨hl5, p0, p1, p2, p3, p4⟩ := H5.out.below hb1; clear hb1)
                    | (go_at_call 52; refine (CR.out w1 HB1'.out).mono ?_; rintro e w2 ⟨rfl, hb2⟩))
                  go_ret2
                  rw [HQ.out]
                  exact ⟨rfl, below_aft (below_aft HBk.out HB1'.out) hb2⟩
                | true =>
                  rw [hre] at CR
                  go_wp2_with (first
                    | (go_at_call 51; refine CM.out.mono ?_; rintro e w1 ⟨rfl, hb1⟩; have HB1' := hidD hb1; clear p0 p1 p2 p3 p4 hl5; obtain ⟨hl5, p0, p1, p2, p3, p4⟩ := H5.out.below hb1; clear hb1)
                    | (go_at_call 52; refine (CR.out w1 HB1'.out).mono ?_; rintro e w2 ⟨rfl, hb2⟩))
                  refine ⟨⟨k + 1, hlk, by go_num, fun k' t' hk' ht' => ?_, below_aft (below_aft HBk.out HB1'.out) hb2⟩, ?_⟩
                  · by_cases e : k' = k
                    · subst e
                      rw [HTT.out] at ht'
                      cases ht'
                      exact ⟨c, rfl, hc1, hc2, List.isEmpty_iff.1 hre⟩
                    · exact HAK.out k' t' (by omega) ht'
                  · show m - ((k : Int) + 1).toNat < m - (k : Int).toNat
                    omega
            · obtain rfl : k = m := by omega
              have z1 : ¬ ((k : Int) < (k : Int)) := by omega
              have HF1 : Hid (b1 i = false) := hidD (by
                cases hb' : b1 i with
                | false => rfl
                | true =>
                  refine absurd ⟨by have := HM.out; omega, by have := HM.out; omega, fun t ht => ?_⟩ (HB1.out.1 hb')
                  obtain ⟨k', hk'⟩ := List.mem_iff_getElem?.1 ht
                  rw [← HLN.out]
                  exact HAK.out k' t (by have := (List.getElem?_eq_some_iff.1 hk').1; have := HM.out; omega) hk')
              go_wp2_with fail
              refine ⟨⟨i + 1, hlt, by go_num, fun j hj => ?_, HBk.out⟩, ?_⟩
              · by_cases e : j = i
                · subst e; exact HF1.out
                · exact HALL.out j (by omega)
              · show n - ((i : Int) + 1).toNat < n - (i : Int).toNat
                omega
    · obtain rfl : i = n := by omega
      have z1 : ¬ ((i : Int) < (i : Int)) := by omega
      have H1 := HALL
      have HW1 := HBi
      have D2 := hidD (C2.out H1.out)
      clear HALL HBi C2
      go_wp2_with fail
      go_loopw [7] (fun v V => ∃ i' : Nat, i' ≤ i ∧ v = .int .i64 i' ∧ (∀ j, j < i' → b2 j = false) ∧ Below w.heap.size w V) (fun v _ => i - (intOf v).toNat)
      case atStart => exact ⟨0, Nat.zero_le _, rfl, fun j hj => by omega, HW1.out⟩
      case round =>
        obtain ⟨i', hi', rfl, hall, hBi⟩ := hrel
        have HALL := hidD hall
        have HBi := hidD hBi
        clear hall hBi
        by_cases hlt : i' < i
        · have j1 : (i' : Int) < (i : Int) := by omega
          have j2 : (i' : Int) ≤ 1000 := by omega
          cases hx : b2 i' with
          | true =>
            have CC := hidD (D2.out wr i' HBi.out hlt true hx.symm)
            have HRR := hidD (HR.out.trans (stRes_2 HN.out H1.out hlt hx HALL.out))
            go_wp2_with (go_at_call 53; refine CC.out.mono ?_; rintro e w1 ⟨rfl, hb1⟩)
            go_ret2
            rw [HRR.out]
            exact ⟨rfl, below_aft HBi.out hb1⟩
          | false =>
            have CC := hidD (D2.out wr i' HBi.out hlt false hx.symm)
            have HXF := hidD hx
            clear hx
            go_wp2_with (go_at_call 53; refine CC.out.mono ?_; rintro e w1 ⟨rfl, hb1⟩)
            refine ⟨⟨i' + 1, hlt, by go_num, fun j hj => ?_, below_aft HBi.out hb1⟩, ?_⟩
            · by_cases e : j = i'
              · subst e; exact HXF.out
              · exact HALL.out j (by omega)
            · show i - ((i' : Int) + 1).toNat < i - (i' : Int).toNat
              omega
        · obtain rfl : i' = i := by omega
          have H2 := HALL
          have HW2 := HBi
          have D3 := hidD (C3.out H1.out H2.out)
          clear HALL HBi C3 D2
          go_wp2_with fail
          go_loopw [8] (fun v V => ∃ i'' : Nat, i'' ≤ i' ∧ v = .int .i64 i'' ∧ (∀ j, j < i'' → b3 j = false) ∧ Below w.heap.size w V) (fun v _ => i' - (intOf v).toNat)
          case atStart => exact ⟨0, Nat.zero_le _, rfl, fun j hj => by omega, HW2.out⟩
          case round =>
            obtain ⟨i'', hi'', rfl, hall, hBi⟩ := hrel
            have HALL := hidD hall
            have HBi := hidD hBi
            clear hall hBi
            by_cases hlt : i'' < i'
            · have j1 : (i'' : Int) < (i' : Int) := by omega
              have j2 : (i'' : Int) ≤ 1000 := by omega
              obtain ⟨y, hy, hcal⟩ := D3.out wr i'' HBi.out hlt
              have CC := hidD hcal
              cases hx : b3 i'' with
              | true =>
                have y1 : (16 : Int) < (y : Int) := by have := hy.1 hx; omega
                have HRR := hidD (HR.out.trans (stRes_3 HN.out H1.out H2.out hlt hx HALL.out))
                clear hy hcal
                go_wp2_with (go_at_call 54; refine CC.out.mono ?_; rintro e w1 ⟨rfl, hb1⟩)
                go_ret2
                rw [HRR.out]
                exact ⟨rfl, below_aft HBi.out hb1⟩
              | false =>
                have y1 : ¬ (16 : Int) < (y : Int) := fun e => by have := hy.2 (by omega); rw [hx] at this; cases this
                have HXF := hidD hx
                clear hx hy hcal
                go_wp2_with (go_at_call 54; refine CC.out.mono ?_; rintro e w1 ⟨rfl, hb1⟩)
                refine ⟨⟨i'' + 1, hlt, by go_num, fun j hj => ?_, below_aft HBi.out hb1⟩, ?_⟩
                · by_cases e : j = i''
                  · subst e; exact HXF.out
                  · exact HALL.out j (by omega)
                · show i' - ((i'' : Int) + 1).toNat < i' - (i'' : Int).toNat
                  omega
            · obtain rfl : i'' = i' := by omega
              have HRR := hidD (HR.out.trans (stRes_0 HN.out H1.out H2.out HALL.out))
              go_wp2_with fail
              go_ret2
              rw [HRR.out]
              exact ⟨rfl, HBi.out⟩
end Go.Proofs.YtjchbclkdbojpaaDoor
namespace Go.Proofs.YtjchbclkdbojpaaDoor
open Go.RowKit Go.Shelf
set_option linter.unusedVariables false
set_option linter.unusedSimpArgs false

set_option maxRecDepth 100000 in
set_option maxHeartbeats 2000000 in
theorem rMay_any (a : Option Addr) (n cap : Nat) (ss : List (List Ty)) (w : World) (h : StAt w a n cap ss) (b1 b2 b3 : Nat → Bool) (hb : Flt ss b1 b2 b3) (t : Ty) (f : Fv) (ht : TyAt w f t) (x : Bool) (hx : x = mayS n b1 b2 b3 t) :
    Calls Tryd.prog 15 #[.slice a n cap, f.v] w fun e w' => e = .returned (.bool x) ∧ Below w.heap.size w w' := by
  have A0 : At (w.alloc f.o) w.heap.size f.o := At.new _ _
  obtain ⟨rr, hrr⟩ : ∃ rr, rr = mayB n 48 t := ⟨_, rfl⟩
  have CM : Hid (∀ W, Below w.heap.size w W → Calls Tryd.prog 51 #[f.v, .int .i64 (n : Int), .int .i64 48] W fun e w' => e = .returned (.bool rr) ∧ Below W.heap.size W w') := hidD (fun W hW => by rw [hrr]; exact look_all n 48 (by omega) t f W (ht.bel hW))
  have HX : Hid (x = (decide ((stRes n b1 b2 b3).2 = 0) && rr)) := hidD (by rw [hx, hrr]; rfl)
  rcases stRes_e n b1 b2 b3 with he | he
  · have CS : Hid (∀ W, Below w.heap.size w W → Calls Tryd.prog 13 #[.slice a n cap] W fun e w' => e = .returned (.tuple #[.int .i64 0, .int .i64 0]) ∧ Below W.heap.size W w') := hidD (fun W hW => by
      have := rStructs_any a n cap ss W (h.bel hW) b1 b2 b3 hb
      rw [(stRes_ok he).2.2.2.2] at this
      exact this)
    have HX2 : Hid (x = rr) := hidD (by rw [HX.out, he]; rfl)
    obtain ⟨k, m, r, s, aa, nn, cc⟩ := f
    show Calls Tryd.prog 15 #[.slice a n cap, tyV k m r s aa nn cc] w _
    clear h hb hrr he hx ht HX
    go_enter Tryd.func15, Tryd.ntmps15
    go_wp2_with (first
      | (go_at_call 13; refine (CS.out _ (belA (Below.refl _ _))).mono ?_; rintro e w1 ⟨rfl, hb1⟩; obtain ⟨hl, p0, p1, p2, p3, p4⟩ := (A0.below hb1).ty)
      | (go_at_call 51; refine (CM.out w1 (below1 hb1)).mono ?_; rintro e w2 ⟨rfl, hb2⟩))
    go_ret
    rw [HX2.out]
    exact ⟨rfl, below_aft (below1 hb1) hb2⟩
  · have CS : Hid (∀ W, Below w.heap.size w W → ∃ q : Int, Calls Tryd.prog 13 #[.slice a n cap] W fun e w' => e = .returned (.tuple #[.int .i64 q, .int .i64 2]) ∧ Below W.heap.size W w') := hidD (fun W hW => by
      have := rStructs_any a n cap ss W (h.bel hW) b1 b2 b3 hb
      rw [he] at this
      exact ⟨_, this⟩)
    have HX2 : Hid (x = false) := hidD (by rw [HX.out, he]; rfl)
    obtain ⟨k, m, r, s, aa, nn, cc⟩ := f
    obtain ⟨q, hq⟩ := CS.out _ (belA (o := tyO k m r s aa nn cc) (Below.refl _ _))
    have CQ := hidD hq
    show Calls Tryd.prog 15 #[.slice a n cap, tyV k m r s aa nn cc] w _
    clear h hb hrr he hx ht HX CS hq
    go_enter Tryd.func15, Tryd.ntmps15
    go_wp2_with (go_at_call 13; refine CQ.out.mono ?_; rintro e w1 ⟨rfl, hb1⟩; obtain ⟨hl, p0, p1, p2, p3, p4⟩ := (A0.below hb1).ty)
    go_ret
    rw [HX2.out]
    exact ⟨rfl, below1 hb1⟩
set_option maxRecDepth 100000 in
set_option maxHeartbeats 2000000 in
theorem rWords_no (a : Option Addr) (n cap : Nat) (ss : List (List Ty)) (w : World) (h : StAt w a n cap ss) (b1 b2 b3 : Nat → Bool) (hb : Flt ss b1 b2 b3) (t : Ty) (f : Fv) (ht : TyAt w f t) (hx : mayS n b1 b2 b3 t = false) :
    Calls Tryd.prog 19 #[.slice a n cap, f.v] w fun e w' => e = .returned (.tuple #[.int .i64 0, .int .i64 2]) ∧ Below w.heap.size w w' := by
  have CM : Hid (Calls Tryd.prog 15 #[.slice a n cap, f.v] (w.alloc f.o) fun e w' => e = .returned (.bool false) ∧ Below (w.alloc f.o).heap.size (w.alloc f.o) w') := hidD (rMay_any a n cap ss _ (h.bel (belA (Below.refl _ _))) b1 b2 b3 hb t f (ht.bel (belA (Below.refl _ _))) false hx.symm)
  obtain ⟨k, m, r, s, aa, nn, cc⟩ := f
  show Calls Tryd.prog 19 #[.slice a n cap, tyV k m r s aa nn cc] w _
  clear h hb ht hx
  go_enter Tryd.func19, Tryd.ntmps19
  go_wp2_with (go_at_call 15; refine CM.out.mono ?_; rintro e w1 ⟨rfl, hb1⟩)
  go_ret2
  exact ⟨rfl, below1 hb1⟩
set_option maxRecDepth 100000 in
set_option maxHeartbeats 2000000 in
theorem rWords_yes (a : Option Addr) (n cap : Nat) (ss : List (List Ty)) (w : World) (h : StAt w a n cap ss) (b1 b2 b3 : Nat → Bool) (hb : Flt ss b1 b2 b3) (t : Ty) (f : Fv) (ht : TyAt w f t) (hx : mayS n b1 b2 b3 t = true) (q : Nat) (hq : q = wdT ss t) :
    Calls Tryd.prog 19 #[.slice a n cap, f.v] w fun e w' => e = .returned (.tuple #[.int .i64 (q : Int), .int .i64 0]) ∧ Below w.heap.size w w' := by
  have CM : Hid (Calls Tryd.prog 15 #[.slice a n cap, f.v] (w.alloc f.o) fun e w' => e = .returned (.bool true) ∧ Below (w.alloc f.o).heap.size (w.alloc f.o) w') := hidD (rMay_any a n cap ss _ (h.bel (belA (Below.refl _ _))) b1 b2 b3 hb t f (ht.bel (belA (Below.refl _ _))) true hx.symm)
  obtain ⟨hW, hmb⟩ := well_of h hb hx
  have A0 : At (w.alloc f.o) w.heap.size f.o := At.new _ _
  have CW : Hid (∀ W, Below w.heap.size w W → Calls Tryd.prog 54 #[.slice a n cap, f.v, .int .i64 16] W fun e w' => e = .returned (.int .i64 (q : Int)) ∧ Below W.heap.size W w') := hidD (fun W hB => by
    rcases may_kind hmb ht ss with ⟨j, hj, hs, h1, h2⟩ | ⟨hs, h1, -⟩
    · obtain ⟨rk, hr⟩ := hW.rank
      have e : q = min (tw ss j) (16 + 1) := by
        have h3 := hW.small j hj
        rw [hq]
        unfold wdT
        rw [hs]
        show tw ss j = _
        omega
      rw [e]
      exact rwords_any w a n cap ss h hW.le hW.fine rk hr _ j 16 W f (Nat.lt_succ_self _) hj (by omega) hB h1 h2
    · have e : q = 1 := by rw [hq]; unfold wdT; rw [hs]
      rw [e]
      exact rwords_ne f W h1 _ _)
  obtain ⟨k, m, r, s, aa, nn, cc⟩ := f
  show Calls Tryd.prog 19 #[.slice a n cap, tyV k m r s aa nn cc] w _
  clear h hb ht hx hW hmb hq
  go_enter Tryd.func19, Tryd.ntmps19
  go_wp2_with (first
    | (go_at_call 15; refine CM.out.mono ?_; rintro e w1 ⟨rfl, hb1⟩; obtain ⟨hl, p0, p1, p2, p3, p4⟩ := (A0.below hb1).ty; have HB1 := hidD hb1; clear hb1)
    | (go_at_call 54; refine (CW.out _ (below1 HB1.out)).mono ?_; rintro e w2 ⟨rfl, hb2⟩; have HB2 := hidD hb2; clear hb2))
  go_ret2
  exact ⟨rfl, below_aft (below1 HB1.out) HB2.out⟩
set_option maxRecDepth 100000 in
set_option maxHeartbeats 2000000 in
theorem rDrops_no (a : Option Addr) (n cap : Nat) (ss : List (List Ty)) (w : World) (h : StAt w a n cap ss) (b1 b2 b3 : Nat → Bool) (hb : Flt ss b1 b2 b3) (t : Ty) (f : Fv) (ht : TyAt w f t) (hx : mayS n b1 b2 b3 t = false) :
    Calls Tryd.prog 21 #[.slice a n cap, f.v] w fun e w' => e = .returned (.tuple #[.bool false, .int .i64 2]) ∧ Below w.heap.size w w' := by
  have CM : Hid (Calls Tryd.prog 15 #[.slice a n cap, f.v] (w.alloc f.o) fun e w' => e = .returned (.bool false) ∧ Below (w.alloc f.o).heap.size (w.alloc f.o) w') := hidD (rMay_any a n cap ss _ (h.bel (belA (Below.refl _ _))) b1 b2 b3 hb t f (ht.bel (belA (Below.refl _ _))) false hx.symm)
  obtain ⟨k, m, r, s, aa, nn, cc⟩ := f
  show Calls Tryd.prog 21 #[.slice a n cap, tyV k m r s aa nn cc] w _
  clear h hb ht hx
  go_enter Tryd.func21, Tryd.ntmps21
  go_wp2_with (go_at_call 15; refine CM.out.mono ?_; rintro e w1 ⟨rfl, hb1⟩)
  go_ret2
  exact ⟨rfl, below1 hb1⟩
set_option maxRecDepth 100000 in
set_option maxHeartbeats 2000000 in
theorem rDrops_yes (a : Option Addr) (n cap : Nat) (ss : List (List Ty)) (w : World) (h : StAt w a n cap ss) (b1 b2 b3 : Nat → Bool) (hb : Flt ss b1 b2 b3) (t : Ty) (f : Fv) (ht : TyAt w f t) (hx : mayS n b1 b2 b3 t = true) (q : Bool) (hq : q = dpT ss t) :
    Calls Tryd.prog 21 #[.slice a n cap, f.v] w fun e w' => e = .returned (.tuple #[.bool q, .int .i64 0]) ∧ Below w.heap.size w w' := by
  have CM : Hid (Calls Tryd.prog 15 #[.slice a n cap, f.v] (w.alloc f.o) fun e w' => e = .returned (.bool true) ∧ Below (w.alloc f.o).heap.size (w.alloc f.o) w') := hidD (rMay_any a n cap ss _ (h.bel (belA (Below.refl _ _))) b1 b2 b3 hb t f (ht.bel (belA (Below.refl _ _))) true hx.symm)
  obtain ⟨hW, hmb⟩ := well_of h hb hx
  have A0 : At (w.alloc f.o) w.heap.size f.o := At.new _ _
  have CW : Hid (∀ W, Below w.heap.size w W → Calls Tryd.prog 59 #[.slice a n cap, f.v] W fun e w' => e = .returned (.bool q) ∧ Below W.heap.size W w') := hidD (fun W hB => by
    rcases may_kind hmb ht ss with ⟨j, hj, hs, h1, h2⟩ | ⟨hs, h1, h2⟩
    · obtain ⟨rk, hr⟩ := hW.rank
      have e : q = dp ss j := by rw [hq]; unfold dpT; rw [hs]
      rw [e]
      exact rdrops_any w a n cap ss h hW.le hW.fine rk hr _ j W f (Nat.lt_succ_self _) hj hB h1 h2
    · rw [hq, h2]
      exact rdrops_ne f W h1 _)
  obtain ⟨k, m, r, s, aa, nn, cc⟩ := f
  show Calls Tryd.prog 21 #[.slice a n cap, tyV k m r s aa nn cc] w _
  clear h hb ht hx hW hmb hq
  go_enter Tryd.func21, Tryd.ntmps21
  go_wp2_with (first
    | (go_at_call 15; refine CM.out.mono ?_; rintro e w1 ⟨rfl, hb1⟩; obtain ⟨hl, p0, p1, p2, p3, p4⟩ := (A0.below hb1).ty; have HB1 := hidD hb1; clear hb1)
    | (go_at_call 59; refine (CW.out _ (below1 HB1.out)).mono ?_; rintro e w2 ⟨rfl, hb2⟩; have HB2 := hidD hb2; clear hb2))
  go_ret2
  exact ⟨rfl, below_aft (below1 HB1.out) HB2.out⟩
set_option maxRecDepth 100000 in
set_option maxHeartbeats 1000000 in
theorem Copies_no (t : Ty) (f : Fv) (w : World) (hn : isT t = false) (h : TyAt w f t) : Calls Tryd.prog 16 #[f.v] w fun e w' => e = .returned (.bool false) ∧ Below w.heap.size w w' := by
  have CS : Hid (Calls Tryd.prog 56 #[f.v] (w.alloc f.o) fun e w' => e = .returned (.bool false) ∧ Below (w.alloc f.o).heap.size (w.alloc f.o) w') := by
    have := some_any t f (w.alloc f.o) (h.bel (belA (Below.refl _ _)))
    rw [hn] at this
    exact this
  obtain ⟨k, m, r, s, aa, nn, cc⟩ := f
  show Calls Tryd.prog 16 #[tyV k m r s aa nn cc] w _
  clear h hn
  go_enter Tryd.func16, Tryd.ntmps16
  go_wp2_with (go_at_call 56; refine CS.out.mono ?_; rintro e w1 ⟨rfl, hb1⟩)
  go_ret
  exact ⟨rfl, below1 hb1⟩
set_option maxRecDepth 100000 in
set_option maxHeartbeats 1000000 in
theorem rCopies_no (t : Ty) (f : Fv) (w : World) (hn : isT t = false) (h : TyAt w f t) : Calls Tryd.prog 17 #[f.v] w fun e w' => e = .returned (.bool false) ∧ Below w.heap.size w w' := by
  have CS : Hid (Calls Tryd.prog 27 #[f.v] (w.alloc f.o) fun e w' => e = .returned (.bool false) ∧ Below (w.alloc f.o).heap.size (w.alloc f.o) w') := by
    have := is_any t f (w.alloc f.o) (h.bel (belA (Below.refl _ _)))
    rw [hn] at this
    exact this
  obtain ⟨k, m, r, s, aa, nn, cc⟩ := f
  show Calls Tryd.prog 17 #[tyV k m r s aa nn cc] w _
  clear h hn
  go_enter Tryd.func17, Tryd.ntmps17
  go_wp2_with (go_at_call 27; refine CS.out.mono ?_; rintro e w1 ⟨rfl, hb1⟩)
  go_ret
  exact ⟨rfl, below1 hb1⟩
set_option maxRecDepth 100000 in
set_option maxHeartbeats 1000000 in
theorem rCopies_yes (c : Ch) (f : Fv) (w : World) (hc : Ok c) (h : TyAt w f c.ty) : Calls Tryd.prog 17 #[f.v] w fun e w' => e = .returned (.bool (copB c)) ∧ Below w.heap.size w w' := by
  have CS : Hid (Calls Tryd.prog 27 #[f.v] (w.alloc f.o) fun e w' => e = .returned (.bool true) ∧ Below (w.alloc f.o).heap.size (w.alloc f.o) w') := by
    have := is_any c.ty f (w.alloc f.o) (h.bel (belA (Below.refl _ _)))
    rw [hc.is] at this
    exact this
  have A0 : At (w.alloc f.o) w.heap.size f.o := At.new _ _
  cases c with
  | leaf k s =>
    obtain ⟨a, cap, rfl, -⟩ := h.leaf
    show Calls Tryd.prog 17 #[tyV k false 0 s a 0 cap] w _
    have hk : (k = 1 ∨ k = 2) ∧ s = 0 ∨ k = 5 ∧ 0 ≤ s ∧ s < 32 := hc.ok
    clear h
    have hk2 : k = 1 ∨ k = 2 ∨ k = 5 := by omega
    clear hk
    rcases hk2 with rfl | rfl | rfl
    all_goals
      go_enter Tryd.func17, Tryd.ntmps17
      go_wp2_with (go_at_call 27; refine CS.out.mono ?_; rintro e w1 ⟨rfl, hb1⟩; obtain ⟨hl, p0, p1, p2, p3, p4⟩ := (A0.below hb1).ty)
      go_ret
      exact ⟨rfl, below1 hb1⟩
  | box c =>
    obtain ⟨g, off, cap, f', rfl, -⟩ := h.box
    show Calls Tryd.prog 17 #[tyV 3 false 0 0 (some ⟨g, off, none⟩) 1 cap] w _
    clear h
    go_enter Tryd.func17, Tryd.ntmps17
    go_wp2_with (go_at_call 27; refine CS.out.mono ?_; rintro e w1 ⟨rfl, hb1⟩; obtain ⟨hl, p0, p1, p2, p3, p4⟩ := (A0.below hb1).ty)
    go_ret
    exact ⟨rfl, below1 hb1⟩
  | ref m r c =>
    obtain ⟨g, off, cap, f', rfl, -⟩ := h.ref
    show Calls Tryd.prog 17 #[tyV 4 m r 0 (some ⟨g, off, none⟩) 1 cap] w _
    clear h
    go_enter Tryd.func17, Tryd.ntmps17
    go_wp2_with (go_at_call 27; refine CS.out.mono ?_; rintro e w1 ⟨rfl, hb1⟩; obtain ⟨hl, p0, p1, p2, p3, p4⟩ := (A0.below hb1).ty)
    go_ret
    exact ⟨by first | rfl | simp [copB], below1 hb1⟩
end Go.Proofs.YtjchbclkdbojpaaDoor
