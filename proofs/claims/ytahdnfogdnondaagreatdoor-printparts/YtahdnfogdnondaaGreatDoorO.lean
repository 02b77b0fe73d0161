import Derived.Test.YtahdnfogdnondaaGreatDoorF
import Derived.OwnWalk
namespace Go.Proofs.YtahdnfogdnondaaGreatDoor
open Go.RowKit
set_option linter.unusedVariables false
set_option linter.unusedSimpArgs false

theorem Tryz.info41 : (Tryz.prog.info? 41).map (fun i => (i.zero, i.size, i.bytes)) = some (some (.int .u8 0), 1, 1) := by kernel_rfl
theorem Tryz.info3 : (Tryz.prog.info? 3).map (fun i => (i.zero, i.size, i.bytes)) = some (some (.int .i64 0), 1, 8) := by kernel_rfl
theorem Tryz.info44 : (Tryz.prog.info? 44).map (fun i => (i.zero, i.size, i.bytes)) = some (some (.agg #[.int .u8 0, .int .i64 0, .int .i64 0, .string ⟨#[]⟩, .slice none 0 0]), 5, 64) := by kernel_rfl
theorem Tryz.info131 : (Tryz.prog.info? 131).map (fun i => (i.zero, i.size, i.bytes)) = some (some (.agg #[.int .i64 0, .int .i64 0]), 2, 16) := by kernel_rfl
theorem below_of_grown {w w' : World} (h : w.grownBy w' none) : Below w.heap.size w w' := (Below.refl _ _).grown h (Nat.le_refl _) (by simp)
/-- A row of one's own. -/
def Rw (w : World) (g : Nat) (t : TypeId) (vs : List Value) : Prop := At w g (.cells vs.toArray t (0, 0))
theorem Rw.lt {w : World} {g : Nat} {t : TypeId} {vs : List Value} (h : Rw w g t vs) : g < w.heap.size := At.lt h
theorem Rw.below {w w' : World} {g : Nat} {t : TypeId} {vs : List Value} (h : Rw w g t vs) (hb : Below w.heap.size w w') : Rw w' g t vs := At.below h hb
theorem Rw.alloc {w : World} {g : Nat} {t : TypeId} {vs : List Value} (h : Rw w g t vs) (o : Obj) : Rw (w.alloc o) g t vs := At.alloc h o
theorem Rw.cell {w : World} {g : Nat} {t : TypeId} {vs : List Value} (h : Rw w g t vs) {i : Nat} {v : Value} (hi : vs[i]? = some v) : w.cell? ⟨g, i, none⟩ = some v := by
  unfold Rw At at h
  simp [World.cell?, h, hi]
theorem Rw.free {w : World} {g : Nat} {t : TypeId} {vs : List Value} (h : Rw w g t vs) (i : Nat) : w.frozen? ⟨g, i, none⟩ = false := frozen_of_row w g i _ t h
theorem Rw.set {w : World} {g : Nat} {t : TypeId} {vs : List Value} (h : Rw w g t vs) (i : Nat) (v : Value) : Rw (w.setCell ⟨g, i, none⟩ v) g t (vs.set i v) := by
  unfold Rw At at h ⊢
  have h1 := heap_setCell_same w g i _ t v h
  simpa using h1
theorem Rw.off {w : World} {g : Nat} {t : TypeId} {vs : List Value} (h : Rw w g t vs) {a : Addr} (ha : g ≠ a.block) (u : Value) : Rw (w.setCell a u) g t vs := At.set h ha u
theorem rw_made {w : World} {base g n : Nat} {t : TypeId} {z : Value} (hz : z.cells = #[z]) (h : w.ownsRow base t 1 (.slice (some ⟨g, 0, none⟩) n n) n (madeCells z.cells (n * 1)).toList) : Rw w g t (List.replicate n z) := by
  rcases h.2 with ⟨h', _⟩ | ⟨g', cap', cur, h', _, hg, _, _, hs, htake⟩
  · simp at h'
  · simp only [Value.slice.injEq, Option.some.injEq, Addr.mk.injEq, and_true, true_and] at h'
    obtain ⟨rfl, rfl⟩ := h'
    rw [hz, toList_madeCells_one, List.take_of_length_le (by simp; omega)] at htake
    unfold Rw At
    rw [hg]
    congr 2
    apply Array.toList_inj.1
    rw [htake]; simp
/-- The kinds so far, and what is still to be laid. -/
def kd (T : List Nd) (c : Int) : Nat := ((T[c.toNat]?).map (·.x.k)).getD 0
def inT (T : List Nd) (c : Int) : Bool := decide (0 ≤ c ∧ c < T.length)
theorem kq_eq (T : List Nd) : ∀ l, kq T l = if l.all (inT T) = true then some (l.map (kd T)) else none
  | [] => rfl
  | c :: l => by
    simp only [kq, List.all_cons, List.map_cons]
    by_cases h : 0 ≤ c ∧ c < T.length
    · rw [if_pos h, kq_eq T l, show inT T c = true from decide_eq_true h, Bool.true_and]
      by_cases h2 : l.all (inT T) = true
      · rw [if_pos h2, if_pos h2]; rfl
      · rw [if_neg h2, if_neg h2]; rfl
    · rw [if_neg h, show inT T c = false from decide_eq_false h, Bool.false_and]; rfl
def kPart (T : List Nd) (l : List Int) (k : Nat) : List Value := (l.take k).map (fun c => .int .u8 (kd T c : Int)) ++ List.replicate (l.length - k) (.int .u8 0)
theorem kPart_zero (T : List Nd) (l : List Int) : kPart T l 0 = List.replicate l.length (.int .u8 0) := by simp [kPart]
theorem kPart_set (T : List Nd) (l : List Int) (k : Nat) (c : Int) (h : l[k]? = some c) : (kPart T l k).set k (.int .u8 (kd T c : Int)) = kPart T l (k + 1) := by
  have hk := (List.getElem?_eq_some_iff.1 h).1
  unfold kPart
  rw [show l.length - k = (l.length - (k + 1)) + 1 by omega, List.replicate_succ, List.set_append, if_neg (by simp; omega)]
  rw [show k - (List.map (fun c => Value.int .u8 (kd T c : Int)) (List.take k l)).length = 0 by simp; omega]
  rw [List.set_cons_zero, List.take_add_one, h]
  simp
theorem kPart_full (T : List Nd) (l : List Int) : kPart T l l.length = l.map (fun c => .int .u8 (kd T c : Int)) := by simp [kPart]
set_option maxRecDepth 100000 in
set_option maxHeartbeats 4000000 in
theorem kindsOf_any (T : List Nd) (a : Option Addr) (cap : Nat) (l : List Int) (al : Option Addr) (capl : Nat) (w : World) (hT : TAt w a T) (hTn : T.length ≤ 20000) (hl : IRow w al l) (hn : l.length ≤ 20000) :
    Calls Tryz.prog 114 #[trV a T.length cap, .slice al l.length capl] w fun e w' => Below w.heap.size w w' ∧
      ((kq T l = none ∧ e = .returned (.tuple #[.slice none 0 0, .bool false])) ∨ (∃ ks g, kq T l = some ks ∧ ks.length = l.length ∧ e = .returned (.tuple #[.slice (some ⟨g, 0, none⟩) l.length l.length, .bool true]) ∧ KRow w' (some ⟨g, 0, none⟩) ks)) := by
  obtain ⟨i0, hi, hz0, hz1, hz2⟩ := info_parts Tryz.info41
  have A1 := At.new w (Tro a T.length cap)
  obtain ⟨c0, f0⟩ := A1.one
  have hs1 : (w.alloc (Tro a T.length cap)).heap.size = w.heap.size + 1 := World.size_alloc _ _
  have hB1 : Below w.heap.size w (w.alloc (Tro a T.length cap)) := belA (Below.refl _ _)
  go_enter Tryz.func114, Tryz.ntmps114
  go_wp2_with (at_make; refine wpList_make_full _ rfl _ _ 107 rfl (w.heap.size + 1) 41 i0 (.int .u8 0) 1 Tryz.underlying107 hi hz0 hz1 .i64 .i64 _ _ l.length rfl rfl rfl rfl (by rw [hz2]; omega) (by unfold maxLen; omega) (by simp) ?_; intro w2 hown2 hgrow2; have HM := rw_made rfl hown2; have hb2 := below_of_grown hgrow2; clear hown2 hgrow2)
  have A2 := A1.below hb2
  have hB2 := below_aft hB1 hb2
  rw [hs1] at HM hb2
  rw [← kPart_zero T l] at HM
  try simp only [World.size_alloc]
  go_loopw [14] (fun i W => ∃ k : Nat, k ≤ l.length ∧ i = .int .i64 k ∧ (∀ j c, j < k → l[j]? = some c → inT T c = true) ∧ Rw W (w.heap.size + 1) 41 (kPart T l k) ∧ At W w.heap.size (Tro a T.length cap) ∧ Below w.heap.size w W) (fun i _ => l.length - (intOf i).toNat)
  case atStart => exact ⟨0, by omega, rfl, fun j _ h => absurd h (Nat.not_lt_zero j), HM, A2, hB2⟩
  case round =>
    obtain ⟨k, hk, rfl, hall, hR, hA, hB⟩ := hrel
    have HALL : Hid (∀ j c, j < k → l[j]? = some c → inT T c = true) := hall
    clear hall HM hb2 A2 hB2 c0 f0 A1
    obtain ⟨c0, f0⟩ := hA.one
    have hl' := hl.below hB
    have hT' := hT.below hB
    by_cases hlt : k < l.length
    · obtain ⟨gl, ol, rfl, hgl, hrow⟩ := hl' (by rintro rfl; simp at hlt)
      obtain ⟨c, hc⟩ : ∃ c, l[k]? = some c := ⟨_, List.getElem?_eq_getElem hlt⟩
      have cc := hrow k c hc
      have k0 : (0 : Int) ≤ (k : Int) := by omega
      have k1 : (k : Int) < (l.length : Int) := by omega
      have w3 : IntKind.i64.wrap ((k : Int) + 1) = (k : Int) + 1 := by rw [IntKind.wrap_i64]; omega
      have HC : Hid (l[k]? = some c) := hc
      clear hrow hc
      by_cases hin : 0 ≤ c ∧ c < T.length
      · obtain ⟨h0, h1⟩ := hin
        obtain ⟨q, rfl⟩ : ∃ q : Nat, c = (q : Int) := ⟨c.toNat, by omega⟩
        have hq : q < T.length := by omega
        obtain ⟨g, off, rfl, hn'⟩ := hT' (by rintro rfl; simp at hq)
        obtain ⟨d, hd⟩ : ∃ d, T[q]? = some d := ⟨_, List.getElem?_eq_getElem hq⟩
        obtain ⟨n0, n1, -⟩ := hn' q d hd
        have hkd : kd T (q : Int) = d.x.k := by simp [kd, hd]
        have f1 := hR.free k
        have hset := hR.set k (.int .u8 (kd T (q : Int) : Int))
        have HSET : Hid (Rw (wr.setCell ⟨w.heap.size + 1, k, none⟩ (.int .u8 (kd T (q : Int) : Int))) (w.heap.size + 1) 41 (kPart T l (k + 1))) := by rw [kPart_set T l k _ HC.out] at hset; exact hset
        clear hset
        rw [hkd] at HSET
        obtain ⟨v0, hv0⟩ : ∃ v0, (kPart T l k)[k]? = some v0 := ⟨_, List.getElem?_eq_getElem (by simp [kPart]; omega)⟩
        have cv := hR.cell hv0
        have hne : ¬ (q : Int) < 0 := by omega
        have hned : decide ((q : Int) < 0) = false := decide_eq_false hne
        have hge : ¬ (T.length : Int) ≤ (q : Int) := by omega
        have hged : decide ((T.length : Int) ≤ (q : Int)) = false := decide_eq_false hge
        clear hn' hv0 hkd hT' hl' hd
        go_wp2
        refine ⟨⟨k + 1, by omega, by go_num, fun j c hjk hj => ?_, HSET.out, hA.set (by simp) _, hB.setCell (by simp) _⟩, by simp [intOf]; omega⟩
        rcases Nat.lt_or_ge j k with h | h
        · exact HALL.out j c h hj
        · obtain rfl : j = k := by omega
          rw [HC.out] at hj
          cases hj
          exact decide_eq_true ⟨by omega, by omega⟩
      · have HNO : Hid (kq T l = none) := by
          show kq T l = none
          rw [kq_eq, if_neg]
          intro h
          have := List.all_eq_true.1 h c (List.mem_of_getElem? HC.out)
          exact hin (of_decide_eq_true this)
        by_cases hneg : c < 0
        · have hned : decide (c < 0) = true := decide_eq_true hneg
          go_wp2
          go_ret2
          exact ⟨hB, .inl ⟨HNO.out, rfl⟩⟩
        · have hned : decide (c < 0) = false := decide_eq_false hneg
          have hge : (T.length : Int) ≤ c := by omega
          have hged : decide ((T.length : Int) ≤ c) = true := decide_eq_true hge
          go_wp2
          go_ret2
          exact ⟨hB, .inl ⟨HNO.out, rfl⟩⟩
    · obtain rfl : k = l.length := by omega
      have HYES : Hid (kq T l = some (l.map (kd T))) := by
        show kq T l = some (l.map (kd T))
        rw [kq_eq, if_pos]
        rw [List.all_eq_true]
        intro c hc
        obtain ⟨j, hj, rfl⟩ := List.getElem_of_mem hc
        exact HALL.out j _ hj (List.getElem?_eq_getElem hj)
      rw [kPart_full] at hR
      go_wp2
      go_ret2
      refine ⟨hB, .inr ⟨_, w.heap.size + 1, HYES.out, by simp, rfl, fun _ => ⟨w.heap.size + 1, 0, rfl, hR.lt, fun i c hi => ?_⟩⟩⟩
      rw [Nat.zero_add]
      refine hR.cell ?_
      rw [List.getElem?_map] at hi ⊢
      cases hli : l[i]? with
      | none => rw [hli] at hi; cases hi
      | some y => rw [hli] at hi; cases hi; rfl
end Go.Proofs.YtahdnfogdnondaaGreatDoor
