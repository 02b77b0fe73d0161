import Derived.Test.YtpnamkpoapcgeaaDoorZb
import Derived.Test.YtpnamkpoapcgeaaDoorLe
import Derived.RangeFuncNested
namespace Go.Proofs.YtpnamkpoapcgeaaDoor
open Go.RowKit Go.Shelf
attribute [local go_sem] Oper.semAt_some
set_option linter.unusedVariables false
set_option linter.unusedSimpArgs false

/-- Two blocks lie as they lay. -/
def Two2 (x g : Nat) (A B : World) : Prop := B.heap[x]? = A.heap[x]? ∧ B.heap[g]? = A.heap[g]?
theorem two_t {x g : Nat} {A B C : World} (h : Two2 x g A B) (k : Two2 x g B C) : Two2 x g A C := ⟨k.1.trans h.1, k.2.trans h.2⟩
theorem two_below {x g B : Nat} {A C : World} (h : Below B A C) (h1 : x < B) (h2 : g < B) : Two2 x g A C := ⟨h.block x h1, h.block g h2⟩
theorem two_b {x g : Nat} {w : World} (h1 : x < w.heap.size) (h2 : g < w.heap.size) (W : World) (l : Nat) (o o' : Obj) (hl : w.heap.size ≤ l) (h : W.heap[l]? = some o) (hc : o.isCells = false) (hw : o.isWalk = false) : Two2 x g W (W.putObj l o') :=
  two_below (belowK_b (n₀ := w.heap.size) (w := w) (Nat.le_refl _) W l o o' hl h hc hw) h1 h2
/-- The block behind a slice's address, or another. -/
def blkOr (a : Option Addr) (x : Nat) : Nat := (a.map (·.block)).getD x
theorem tat_two {A B : World} {a : Option Addr} {ts : List Tk} {x : Nat} (h : TAt A a ts) (hk : Two2 x (blkOr a x) A B) : TAt B a ts := fun hn => by
  obtain ⟨g, rfl, hr⟩ := h hn
  refine ⟨g, rfl, fun i t hi => ?_⟩
  obtain ⟨h0, h1, h2, h3, h4⟩ := hr i t hi
  have hg : B.heap[g]? = A.heap[g]? := hk.2
  have c : ∀ o, B.cell? ⟨g, o, none⟩ = A.cell? ⟨g, o, none⟩ := fun o => World.cell?_of_block (a := ⟨g, o, none⟩) hg
  refine ⟨?_, (c _).trans h1, (c _).trans h2, (c _).trans h3, (c _).trans h4⟩
  rw [Array.getElem?_eq_getElem h0] at hg
  exact (Array.getElem?_eq_some_iff.1 hg).1
set_option maxRecDepth 100000 in
set_option maxHeartbeats 2000000 in
theorem values1_in (nn l bx : Nat) (hnn : 1 ≤ nn) (ts : List Tk) (a : Option Addr) (ca : Nat) (hn : ts.length ≤ 65536) (J Jx : List Tk → World → Prop) (W : World) (hbx : At W bx (One (.slice a ts.length ca) 23)) (ha : TAt W a ts)
    (hJ : AbidesFrom W.heap.size J)
    (hY : ∀ pre x W1, J pre W1 → pre.length < ts.length → YieldAt Fence.wide (nn - 1) Tryd.prog l #[tkV x] W1 fun e W' =>
      (e = .returned (.bool true) ∧ J (pre ++ [x]) W' ∧ Two2 bx (blkOr a bx) W1 W') ∨ (e = .returned (.bool false) ∧ Jx (pre ++ [x]) W'))
    (h0 : J [] W) :
    CallsIn Fence.wide nn Tryd.prog 54 #[.func (.yield l) #[] #[], .pointer (some ⟨bx, 0, none⟩)] W fun e W' => (∃ v, e = .returned v) ∧
      ((∃ xs, xs = ts ∧ J xs W') ∨ ∃ pre, pre <+: ts ∧ Jx pre W') := by
  obtain ⟨cx, fx⟩ := hbx.one
  have hbl : ∀ g, ts ≠ [] → a = some ⟨g, 0, none⟩ → g < W.heap.size := fun g hne e => by
    obtain ⟨g', e', hr⟩ := ha hne
    rw [e] at e'
    cases e'
    cases ts with
    | nil => exact absurd rfl hne
    | cons t r => exact (hr 0 (tkZ t) rfl).1
  refine callsIn_of_wp Tryd.func54 rfl trivial ?_ rfl
  simp only [Tryd.ntmps54, List.size_toArray, List.length_cons, List.length_nil, Nat.reduceAdd, Nat.reduceSub, Array.replicate_succ, Array.replicate_zero, List.push_toArray, List.append_toArray, List.nil_append, List.cons_append]
  gi_wp2
  gi_loopw [7] (fun i wr => ∃ k : Nat, k ≤ ts.length ∧ i = .int .i64 k ∧ J (ts.take k) wr ∧ TAt wr a ts) (fun i _ => ts.length - (intOf i).toNat)
  case atStart => exact ⟨0, Nat.zero_le _, rfl, h0, ha⟩
  case round =>
    obtain ⟨k, hk, rfl, hj, hA⟩ := hrel
    by_cases hlt : k < ts.length
    · have hne : ts ≠ [] := by rintro rfl; simp at hlt
      obtain ⟨t, ht⟩ : ∃ t, ts[k]? = some t := ⟨_, List.getElem?_eq_getElem hlt⟩
      have htk : ts.take (k + 1) = ts.take k ++ [t] := by
        obtain ⟨h', e⟩ := List.getElem?_eq_some_iff.1 ht
        rw [List.take_succ_eq_append_getElem h', e]
      obtain ⟨g, rfl, hr⟩ := hA hne
      have hz : (ts.map tkZ)[k]? = some (tkZ t) := by rw [List.getElem?_map, ht]; rfl
      obtain ⟨hgl, c0, c1, c2, c3⟩ := hr k _ hz
      simp only [Nat.zero_add, tkZ] at c0 c1 c2 c3
      have g1' : (0 : Int) ≤ (k : Int) := by omega
      have g2' : (k : Int) < (ts.length : Int) := by omega
      have w3 : IntKind.i64.wrap ((k : Int) + 1) = (k : Int) + 1 := by rw [IntKind.wrap_i64]; omega
      have hj2 := hJ _ wr (wr.alloc (Tok t.k t.p t.n (str t.s))) none hj (World.grownBy_alloc _ _ none) (fun r e => by cases e)
      have hA2 := TAt.below hA (belA (Below.refl _ wr) (o := Tok t.k t.p t.n (str t.s)))
      obtain ⟨fn, tmps, assign, body, hy, hR⟩ := hY (ts.take k) t _ hj2 (by rw [List.length_take]; omega)
      have HTK : Hid (ts.take (k + 1) = ts.take k ++ [t]) := htk
      clear htk ht hz hr hA
      gi_wp2
      refine hR.mono ?_
      rintro e W3 (⟨rfl, hj3, hk3⟩ | ⟨rfl, hjx⟩)
      · have hA3 := tat_two hA2 hk3
        gi_wp2
        exact ⟨⟨k + 1, by omega, by go_num, by rw [HTK.out]; exact hj3, hA3⟩, by simp [intOf]; omega⟩
      · gi_wp2
        refine bodyPost_ret (results_none rfl _ _ _) rfl ?_
        refine ⟨⟨_, rfl⟩, .inr ⟨_, ?_, hjx⟩⟩
        rw [← HTK.out]; exact List.take_prefix _ _
    · obtain rfl : k = ts.length := by omega
      rw [List.take_of_length_le (Nat.le_refl _)] at hj
      gi_wp2
      go_end0
      exact ⟨⟨_, rfl⟩, .inl ⟨_, rfl, hj⟩⟩
theorem values1_stops (nn bx : Nat) (hnn : 1 ≤ nn) (ts : List Tk) (a : Option Addr) (ca : Nat) (hn : ts.length ≤ 65536) (w : World) (hbx : At w bx (One (.slice a ts.length ca) 23)) (ha : TAt w a ts) :
    SeqStopsK Fence.wide nn Tryd.prog 54 #[.pointer (some ⟨bx, 0, none⟩)] (fun t : Tk => #[tkV t]) (Two2 bx (blkOr a bx)) (fun xs => xs = ts) (fun pre => pre <+: ts) ts.length w :=
  fun l J Jx W hW hJ hJx hY h0 => values1_in nn l bx hnn ts a ca hn J Jx W (hbx.below hW) (ha.below hW) hJ hY h0
end Go.Proofs.YtpnamkpoapcgeaaDoor
