import Derived.Test.YtkidcmglidnaoaaZl
namespace Go.Proofs.Ytkidcmglidnaoaa
open Go.RowKit Go.Shelf
attribute [local go_sem] Oper.semAt_some
set_option linter.unusedVariables false
set_option linter.unusedSimpArgs false

/-- Each node's parent, the root's -1. -/
def upI (c : Fo) : List Int := -1 :: c.ups 0 1
theorem upI_len (c : Fo) : (upI c).length = 1 + c.size := by simp [upI, Fo.len_ups]; omega
/-- What holds between two rounds of Up. -/
structure UI (w : World) (a : Option Addr) (n cap g bv bx : Nat) (L : List Int) (i : Nat) (W : World) : Prop where
  r : Rw W g 3 (part L 0 (i + 1))
  v : At W bv (One (.slice (some ⟨g, 0, none⟩) n n) 35)
  b : At W bx (Tro a n cap)
  bel : Below w.heap.size w W
theorem ui_bears (w : World) (a : Option Addr) (n cap g bv bx : Nat) (L : List Int) (B : Nat) (hB : w.heap.size ≤ B) (hg : g < B) (hbv : bv < B) (hbx : bx < B) : Bears B (UI w a n cap g bv bx L) := by
  rintro i W W' row ⟨h2, h3, h4, h5⟩ hg' hrow
  have ne : ∀ b, b < B → some b ≠ row := fun b hb e => by have := hrow b e.symm; omega
  exact ⟨h2.grown hg' (ne _ hg), h3.grown hg' (ne _ hbv), h4.grown hg' (ne _ hbx), h5.grown hg' h5.size (fun k e => by have := hrow k e; omega)⟩
set_option maxRecDepth 100000 in
set_option maxHeartbeats 8000000 in
theorem up_any (T : List Nd) (n : Nat) (x : Nx) (c : Fo) (TW : Tw T n x c) (a : Option Addr) (cap : Nat) (w : World) (hT : TAt w a T) :
    Calls Try.prog 16 #[trV a n cap] w fun e w' => ∃ g, e = .returned (.tuple #[.slice (some ⟨g, 0, none⟩) n n, .int .i64 0]) ∧ Rw w' g 3 (iCells (upI c)) ∧ w.heap.size ≤ g ∧ Below w.heap.size w w' := by
  obtain ⟨i0, hi, hz0, hz1, hz2⟩ := info_parts Try.info3
  have hTn : n ≤ 20000 := by have := TW.le; omega
  have hS := TW.sm
  have hT0 := TW.ne
  have HTl : Hid (T.length = n) := TW.ln
  have HN : Hid (n = 1 + c.size) := TW.l
  have HTOLD : Hid (∀ {i p : Nat} {d : Int} {s s' : List (Nat × Nat)}, stAt T i = some s → nxt T s = some ((p, d), s') → i < c.size ∧ d = ((i + 1 : Nat) : Int) ∧ (c.ups 0 1)[i]? = some (p : Int)) := fun {i p d s s'} h1 h2 => by
    rw [TW.e] at h1 h2
    exact told_whole h1 h2
  have HEND : Hid (∀ {i : Nat}, Ended T i → i = c.size) := fun {i} h => by
    rw [TW.e] at h
    exact ended_size h
  have HM : Hid (∀ W, Below w.heap.size w W → Calls Try.prog 14 #[trV a n cap] W fun e w' => e = .returned (.bool true) ∧ Below W.heap.size W w') := fun W hW => TW.mayC a cap W (hT.below hW)
  obtain ⟨L, hL⟩ : ∃ L, L = upI c := ⟨_, rfl⟩
  have hL0 : L[0]? = some (-1) := by rw [hL]; rfl
  have HLl : Hid (L.length = n) := by show L.length = n; rw [hL, upI_len]; exact TW.l.symm
  have HLs : Hid (∀ {i : Nat} {p : Int}, (c.ups 0 1)[i]? = some p → L[i + 1]? = some p) := fun {i p} h => by rw [hL]; exact h
  rw [← hL]
  have hn1 : 1 ≤ n := by have := TW.l; omega
  clear TW hL
  refine (callsIn_wide (n := 3)).1 ?_
  refine callsIn_of_wp_marks Try.func16 rfl trivial ?_ rfl
  simp only [Try.ntmps16, List.size_toArray, List.length_cons, List.length_nil, Nat.reduceAdd, Nat.reduceSub, Array.replicate_succ, Array.replicate_zero, List.push_toArray, List.append_toArray, List.nil_append, List.cons_append]
  have A1 := At.new w (Tro a n cap)
  have hB1 : Below w.heap.size w (w.alloc (Tro a n cap)) := belA (Below.refl _ _)
  gi_wp2_with (first
    | (refine ⟨trivial, ?_⟩; gi_at_call 14; refine (callsIn_wide.2 (HM.out _ hB1)).mono ?_; rintro e w1 ⟨rfl, hb1⟩; have A1' := A1.below hb1; have B1 := below_aft hB1 hb1; obtain ⟨c0, f0⟩ := A1'.one; have hs1 := A1'.lt)
    | (gi_at_make; refine wpListIn_make_full _ rfl _ _ 35 rfl w1.heap.size 3 i0 (.int .i64 0) 1 Try.underlying35 hi hz0 hz1 .i64 .i64 _ _ n rfl rfl rfl rfl (by rw [hz2]; omega) (by unfold maxLen; omega) (Nat.le_refl _) ?_; intro w2 hown2 hgrow2; have HMk := rw_made rfl hown2; have hb2 := below_of_grown hgrow2; clear hown2 hgrow2; have A2 := A1'.below hb2; have B2 := below_aft B1 hb2; have hg2 := HMk.lt; have hs2 := A2.lt; obtain ⟨c1, f1⟩ := A2.one; have hR2 := HMk.alloc (One (.slice (some ⟨w1.heap.size, 0, none⟩) n n) 35); obtain ⟨z0, hz0'⟩ : ∃ z, (List.replicate n (Value.int .i64 0))[0]? = some z := ⟨_, List.getElem?_eq_getElem (by simp; omega)⟩; have r0 := HMk.cell hz0'; have rf := HMk.free 0)
    | (refine ⟨trivial, ?_⟩; gi_at_call 43; refine (callsIn_wide.2 (meets_any _ a n cap)).mono ?_; rintro e w3 ⟨bx, rfl, hbx, hlbx, hb3⟩))
  have e : (List.replicate n (Value.int .i64 0)).set 0 (.int .i64 (-1)) = part L 0 (0 + 1) := by
    rw [← part_set hL0]
    unfold part iCells
    rw [HLl.out]
    simp
  have X3 := HMk.set 0 (.int .i64 (-1))
  rw [e] at X3
  have a2 : Rw w3 w1.heap.size 3 (part L 0 (0 + 1)) := (X3.alloc _).below hb3
  have a3 : At w3 w2.heap.size (One (.slice (some ⟨w1.heap.size, 0, none⟩) n n) 35) := by
    have := (At.new (w2.setCell ⟨w1.heap.size, 0, none⟩ (.int .i64 (-1))) (One (.slice (some ⟨w1.heap.size, 0, none⟩) n n) 35)).below hb3
    rw [World.size_setCell] at this
    exact this
  have hB1s := B1.size
  have hB2 : Below w.heap.size w w3 := below_aft (belA (B2.setCell (by show w.heap.size ≤ w1.heap.size; omega) _)) hb3
  have hs3 : w2.heap.size < w3.heap.size := a3.lt
  have hg3 : w1.heap.size < w3.heap.size := a2.lt
  have hbl := hbx.lt
  have hlb : w2.heap.size < bx := by simp at hlbx; omega
  have hwg : w.heap.size ≤ w1.heap.size := hB1s
  clear hb3 hlbx hb2 hb1 HMk hR2 X3 r0 rf hz0' c0 f0 c1 f1 A1 A2 A1' B1 B2 HM e
  obtain ⟨bv, hbv⟩ : ∃ bv, bv = w2.heap.size := ⟨_, rfl⟩
  obtain ⟨g, hg⟩ : ∃ g, g = w1.heap.size := ⟨_, rfl⟩
  rw [← hbv] at a3 hs3 hlb hg2 ⊢
  rw [← hg] at a2 a3 hg3 hwg hg2 ⊢
  clear hbv hg
  have HTELL : Tells Fence.wide 2 Try.prog 66 #[.pointer (some ⟨bx, 0, none⟩)] T (fun W => TAt W a T ∧ At W bx (Tro a n cap)) w3 := by
    have := meets1_tells 2 bx (by omega) T a cap hS hT0 w3
    rw [HTl.out] at this
    exact this
  refine range_tells (T := T) rfl (by omega) (gf := 66) (lb := #[.pointer (some ⟨bx, 0, none⟩)]) rfl trivial (enters_of Try.func66 (by kernel_rfl) rfl)
    HTELL (Below.refl _ _) rfl
    (UI w a n cap g bv bx L) (fun _ _ => False) (ui_bears w a n cap g bv bx L _ (by omega) hg3 hs3 hbl) (fun i W h => ⟨hT.below h.bel, h.b⟩) (none_own _)
    ⟨a2, a3, hbx, hB2⟩
    (fun p d => { tmps := #[trV a n cap, .pointer (some ⟨w.heap.size, 0, none⟩), .slice none 0 0, .int .i64 0, .pointer (some ⟨bv, 0, none⟩), .int .i64 (p : Int), .int .i64 d, .agg #[.slice a n cap], .bool true, .bool false, .pointer (some ⟨w.heap.size, 0, none⟩), .slice a n cap, .int .i64 (n : Int), .slice (some ⟨g, 0, none⟩) n n, .slice (some ⟨g, 0, none⟩) n n, .pointer (some ⟨g, 0, none⟩), .agg #[.slice a n cap], .func (.func 66) #[] #[.pointer (some ⟨bx, 0, none⟩)], .int .i64 (p : Int), .int .i64 d, undef, undef, undef, undef, undef], defers := [] }) ?assign ?body ?done ?stop
  case assign =>
    intro l p c W K hK
    gi_wp2
    exact hK
  case body =>
    rintro l i p d s s' W ⟨h2, h3, h4, h5⟩ hst hnx
    obtain ⟨hi1, rfl, hup⟩ := HTOLD.out hst hnx
    have hv2 := HLs.out hup
    have hin : i + 1 < n := by have := HN.out; omega
    obtain ⟨y0, yf⟩ := h3.one
    have uf := h2.free (i + 1)
    have hset := h2.set (i + 1) (.int .i64 (p : Int))
    rw [part_set hv2] at hset
    obtain ⟨v0, hv0⟩ : ∃ v0, (part L 0 (i + 1))[i + 1]? = some v0 := ⟨_, List.getElem?_eq_getElem (by rw [part_len, HLl.out]; exact hin)⟩
    have ucell := h2.cell hv0
    have e4 : (0 : Int) ≤ (i : Int) + 1 := by omega
    have e5 : (i : Int) + 1 < (n : Int) := by omega
    have HSET : Hid (Rw (W.setCell ⟨g, i + 1, none⟩ (.int .i64 (p : Int))) g 3 (part L 0 (i + 1 + 1))) := hset
    have HST : Hid (stAt T i = some s) := hst
    clear hset hst hnx hup hv2 hv0
    gi_wp2
    all_goals exact ⟨KeepsOthers.setCell _ _ _, ⟨by simp, fun k e1 e2 => Below.heap_setCell _ _ _ k (by simp; omega)⟩, ⟨HSET.out, h3.set (by simp; omega) _, h4.set (by simp; omega) _, h5.setCell (by simp; omega) _⟩, rfl, by rw [HTl.out]; exact hin⟩
  case done =>
    rintro D i s W hD hst hnx ⟨h2, h3, h4, h5⟩ hK
    have hic := HEND.out ⟨s, hst, hnx⟩
    rw [part_full (by have := HLl.out; have := HN.out; omega)] at h2
    obtain ⟨y0, yf⟩ := h3.one
    clear hst hnx
    gi_wp2
    refine ⟨by simp, .inl ⟨_, _, rfl, run_takeDeferred hK, ?_⟩⟩
    have hg := grownBy_putObj' W D (.deferred none)
    refine ⟨.tuple #[.slice (some ⟨g, 0, none⟩) n n, .int .i64 0], ?_, g, rfl, h2.grown hg (by simp; omega), by omega, h5.grown hg h5.size (fun k e => by cases e; omega)⟩
    simp [results, Try.results16, go_sem]
  case stop => exact fun _ _ _ _ h _ => h.elim
end Go.Proofs.Ytkidcmglidnaoaa
