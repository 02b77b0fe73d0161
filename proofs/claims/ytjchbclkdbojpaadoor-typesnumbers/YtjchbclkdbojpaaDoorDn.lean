import Derived.Test.YtjchbclkdbojpaaDoorDm
namespace Go.Proofs.YtjchbclkdbojpaaDoor
open Go.RowKit Go.Shelf
set_option linter.unusedVariables false
set_option linter.unusedSimpArgs false

set_option maxRecDepth 100000 in
set_option maxHeartbeats 2000000 in
theorem Fields_no (a : Option Addr) (n cap : Nat) (ss : List (List Ty)) (w : World) (h : StAt w a n cap ss) (b1 b2 b3 : Nat → Bool) (hb : Flt ss b1 b2 b3) (t : Ty) (f : Fv) (ht : TyAt w f t) (hx : ¬ (f.k : Int) = 5 ∨ mayS n b1 b2 b3 t = false) :
    Calls Tryd.prog 22 #[.slice a n cap, f.v] w fun e w' => e = .returned (.tuple #[.slice none 0 0, .int .i64 2]) ∧ Below w.heap.size w w' := by
  by_cases hk : (f.k : Int) = 5
  · have hx2 : mayS n b1 b2 b3 t = false := by
      rcases hx with h' | h'
      · exact absurd hk h'
      · exact h'
    have CM : Hid (Calls Tryd.prog 14 #[.slice a n cap, f.v] (w.alloc f.o) fun e w' => e = .returned (.bool false) ∧ Below (w.alloc f.o).heap.size (w.alloc f.o) w') := hidD (May_any a n cap ss _ (h.bel (belA (Below.refl _ _))) b1 b2 b3 hb t f (ht.bel (belA (Below.refl _ _))) false hx2.symm)
    obtain ⟨k, m, r, s, aa, nn, cc⟩ := f
    obtain rfl : k = 5 := by have : (k : Int) = 5 := hk; omega
    show Calls Tryd.prog 22 #[.slice a n cap, tyV 5 m r s aa nn cc] w _
    clear h hb ht hx hx2 hk
    go_enter Tryd.func22, Tryd.ntmps22
    go_wp2_with (go_at_call 14; refine CM.out.mono ?_; rintro e w1 ⟨rfl, hb1⟩)
    go_ret2
    exact ⟨rfl, below1 hb1⟩
  · obtain ⟨k, m, r, s, aa, nn, cc⟩ := f
    have k5 : ¬ (k : Int) = 5 := hk
    show Calls Tryd.prog 22 #[.slice a n cap, tyV k m r s aa nn cc] w _
    clear h hb ht hx hk
    go_enter Tryd.func22, Tryd.ntmps22
    go_wp2_with fail
    go_ret2
    exact ⟨rfl, belA (Below.refl _ _)⟩
theorem own_bel {W W' : World} {B e s n : Nat} {v : Value} {xs : List Value} (h : W.ownsRow B e s v n xs) (k : Below W.heap.size W W') : W'.ownsRow B e s v n xs :=
  h.kept (row := none) ⟨k.os, k.tape, k.output, k.size, fun i hi _ => k.block i hi⟩ (by cases e : v.ownBlock <;> simp)
/-- The fields' types as chains. -/
theorem chains_ex {n : Nat} : ∀ (fs : List Ty), (∀ t ∈ fs, PlainT n t) → ∃ cs : List Ch, fs = cs.map Ch.ty ∧ ∀ c ∈ cs, c.ok n ∧ c.depth ≤ 48 ∧ c.regs = []
  | [], _ => ⟨[], rfl, fun c h => by cases h⟩
  | t :: fs, h => by
    obtain ⟨c, rfl, h1⟩ := h t List.mem_cons_self
    obtain ⟨cs, rfl, h2⟩ := chains_ex fs (fun t ht => h t (List.mem_cons_of_mem _ ht))
    refine ⟨c :: cs, rfl, fun d hd => ?_⟩
    rcases List.mem_cons.1 hd with rfl | hd
    · exact h1
    · exact h2 d hd
set_option maxRecDepth 100000 in
set_option maxHeartbeats 4000000 in
theorem Fields_yes (a : Option Addr) (n cap : Nat) (ss : List (List Ty)) (w : World) (h : StAt w a n cap ss) (b1 b2 b3 : Nat → Bool) (hb : Flt ss b1 b2 b3) (t : Ty) (f : Fv) (ht : TyAt w f t) (hx : mayS n b1 b2 b3 t = true) (j : Nat) (hk : f.k = 5) (hs : f.s = (j : Int)) (hj : j < n) (cs : List Ch) (hcs : fld ss j = cs.map Ch.ty) (hok : ∀ c ∈ cs, c.ok n ∧ c.depth ≤ 48 ∧ c.regs = []) :
    Calls Tryd.prog 22 #[.slice a n cap, f.v] w fun e w' => ∃ v fl lo hi, e = .returned (.tuple #[v, .int .i64 0]) ∧ FRow w' w.heap.size v cs fl lo hi ∧ Below w.heap.size w w' := by
  have CM : Hid (Calls Tryd.prog 14 #[.slice a n cap, f.v] (w.alloc f.o) fun e w' => e = .returned (.bool true) ∧ Below (w.alloc f.o).heap.size (w.alloc f.o) w') := hidD (May_any a n cap ss _ (h.bel (belA (Below.refl _ _))) b1 b2 b3 hb t f (ht.bel (belA (Below.refl _ _))) true hx.symm)
  obtain ⟨hW, hmb⟩ := well_of h hb hx
  have A0 : At (w.alloc f.o) w.heap.size f.o := At.new _ _
  obtain ⟨fs, hfs⟩ : ∃ fs, ss[j]? = some fs := ⟨_, List.getElem?_eq_getElem (by have := hW.len; omega)⟩
  have hfl := fld_of hfs
  obtain ⟨f1, f2, f3⟩ := hW.fine j fs hfs
  have hn32 := hW.le
  obtain ⟨k, m, r, s, aa, nn, cc⟩ := f
  simp only at hk hs
  subst hk
  subst hs
  show Calls Tryd.prog 22 #[.slice a n cap, tyV 5 m r (j : Int) aa nn cc] w _
  have HST := hidD h
  have HFS := hidD hfs
  have HFC : Hid (fs = cs.map Ch.ty) := hidD (hfl.symm.trans hcs)
  have HOK := hidD hok
  obtain ⟨i0, hi, hz0, hz1, hz2⟩ := info_parts Tryd.info26
  have q0 : (0 : Int) ≤ (j : Int) := by omega
  have q2 : (j : Int) < (n : Int) := by omega
  obtain ⟨l, hl⟩ : ∃ l, l = fs.length := ⟨_, rfl⟩
  have l8 : l ≤ 8 := by omega
  have HL := hidD hl
  have HLC : Hid (l = cs.length) := hidD (by rw [hl, HFC.out]; simp)
  clear h hb ht hx hW hmb hfs hfl hcs hok f1 f2 f3 hj
  go_enter Tryd.func22, Tryd.ntmps22
  obtain ⟨g, off, fa, fcap, hag, hg, hcell, hFd⟩ := HST.out.one HFS.out
  subst hag
  have HFd := hidD hFd
  have HCELL : Hid (∀ W, Below w.heap.size w W → W.cell? ⟨g, off + j * 2 + 1, none⟩ = some (.slice fa l fcap) ∧ g < W.heap.size) := hidD (fun W hB => ⟨by rw [hl]; exact (hB.cell (p := ⟨g, off + j * 2 + 1, none⟩) hg).trans hcell, Nat.lt_of_lt_of_le hg hB.size⟩)
  clear hFd hcell hl
  go_wp2_with (go_at_call 14; refine CM.out.mono ?_; rintro e w1 ⟨rfl, hb1⟩; obtain ⟨hl1, p0, p1, p2, p3, p4⟩ := (A0.below hb1).ty; have HB1 := hidD (below1 hb1); obtain ⟨c0, hg1⟩ := HCELL.out w1 (below1 hb1); clear hb1)
  go_loopw [6, 25] (fun v6 v25 Z => ∃ (k : Nat) (fl : List Fv) (lo hi : Nat → Nat), k ≤ l ∧ v25 = .int .i64 k ∧ FRow Z w.heap.size v6 (cs.take k) fl lo hi ∧ Below w.heap.size w Z) (fun _ v25 _ => l - (intOf v25).toNat)
  case atStart => exact ⟨0, [], fun _ => 0, fun _ => 0, Nat.zero_le _, rfl, FRow.nil _ _ _ _, HB1.out⟩
  case round =>
    obtain ⟨k, fl, lo, hi', hk, rfl, hR, hBZ⟩ := hrel
    obtain ⟨ra, rcap, hvv⟩ := own_sl hR.row
    subst hvv
    have HR := hidD hR
    have HBZ := hidD hBZ
    clear hR hBZ
    by_cases hlk : k < l
    · obtain ⟨c, hc⟩ : ∃ c, cs[k]? = some c := ⟨_, List.getElem?_eq_getElem (by have := HLC.out; omega)⟩
      have htk : fs[k]? = some c.ty := by rw [HFC.out, List.getElem?_map, hc]; rfl
      have hlen : (cs.take k).length = k := by rw [List.length_take]; have := HLC.out; omega
      obtain ⟨g', off', hfa, hkk⟩ := (HFd.out.bel HBZ.out).2 (fun e => by subst e; simp at htk)
      obtain ⟨V, nm, hnm, hV5, hVt⟩ := hkk k c.ty htk
      have HVT := hidD hVt
      have HC := hidD hc
      have HLN := hidD hlen
      obtain ⟨hl5, p0', p1', p2', p3', p4'⟩ := hV5
      subst hfa
      have e0 : (0 : Int) ≤ (k : Int) := by omega
      have e1 : (k : Int) < (l : Int) := by omega
      have e2 : (k : Int) ≤ 1000 := by omega
      have hcok := HOK.out c (List.mem_of_getElem? hc)
      have CO : Hid (∀ o, Calls Tryd.prog 60 #[V.v] (wr.alloc o) fun e w' => ∃ f' : Fv, e = .returned f'.v ∧ Own w' (wr.alloc o).heap.size f' c ∧ Below (wr.alloc o).heap.size (wr.alloc o) w') := hidD (fun o => owned_any c V _ (Ch.ok_mono (by omega) c hcok.1) (HVT.out.bel (belA (Below.refl _ _))))
      have HRW : Hid (wr.ownsRow w.heap.size 26 5 (.slice ra k rcap) k (tCells fl)) := hidD (by have := HR.out.row; rw [hlen] at this; exact this)
      rw [hlen]
      clear hkk hVt hc hcok hlen htk
      go_wp2_with (first
        | (go_at_call 60; refine (CO.out _).mono ?_; rintro e w2 ⟨f', rfl, hO, hb2⟩; have HO := hidD hO; have HB2 := hidD hb2; have HRW2 := hidD (own_bel HRW.out (below1 hb2)); have HBS := hidD (Nat.le_trans HBZ.out.size (below1 hb2).size); clear hO hb2)
        | (at_builtin; refine wpList_append_two _ rfl _ _ 24 rfl w.heap.size 26 i0 (.agg #[.int .u8 0, .bool false, .int .i64 0, .int .i64 0, .slice none 0 0]) 5 48 Tryd.underlying24 hi hz0 hz1 hz2 rfl (by decide) (.slice ra k rcap) k (tCells fl) rfl (HRW2.out.alloc f'.o) ⟨w2.heap.size, 0, none⟩ 1 1 (c5 f') (by decide) rfl rfl (c5_new (At.new w2 f'.o)) (c5_ones f') (by unfold maxLen; omega) (by omega) (by have := HBS.out; simp; omega) ?_; intro v' w3 ho hg3 hwh; have HO3 := hidD ho; have HG3 := hidD hg3; have HW3 := hidD hwh; clear ho hg3 hwh))
      have s0 : (cs.take k).length = k := HLN.out
      have FS := FRow.snoc (v' := v') (w2 := w3) HR.out HBZ.out.size (belA (o := fdO nm V) (Below.refl _ _)) HO.out HB2.out (by rw [s0]; exact HO3.out) (by rw [s0]; exact HG3.out) (by rw [s0]; exact HW3.out)
      have e9 : cs.take (k + 1) = cs.take k ++ [c] := by rw [List.take_add_one, HC.out]; rfl
      rw [← e9] at FS
      refine ⟨⟨k + 1, _, _, _, hlk, by go_num, FS, ?_⟩, ?_⟩
      · have h1 : Below w.heap.size w w2 := HBZ.out.trans ((below1 HB2.out).mono HBZ.out.size)
        refine (belA h1).grown HG3.out (by have := HBS.out; simp; omega) (fun q hq => (HRW.out.lt q hq).1)
      · show l - ((k : Int) + 1).toNat < l - (k : Int).toNat
        omega
    · obtain rfl : k = l := by omega
      have z1 : ¬ ((k : Int) < (k : Int)) := by omega
      have e : cs.take k = cs := List.take_of_length_le (by have := HLC.out; omega)
      rw [e] at HR ⊢
      have HFR := HR
      obtain ⟨q, hq⟩ : ∃ q, q = cs.length := ⟨_, rfl⟩
      rw [← hq] at HFR ⊢
      clear HR hq
      go_wp2_with fail
      go_ret2
      exact ⟨_, rfl, ⟨fl, lo, hi', HFR.out⟩, HBZ.out⟩
end Go.Proofs.YtjchbclkdbojpaaDoor
