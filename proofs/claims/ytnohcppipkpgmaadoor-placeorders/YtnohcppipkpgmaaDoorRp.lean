import Derived.Test.YtnohcppipkpgmaaDoorRo
namespace Go.Proofs.YtnohcppipkpgmaaDoor
open Go.RowKit Go.Shelf
set_option linter.unusedVariables false
set_option linter.unusedSimpArgs false

/-- Is a way of going within a depth? -/
def wi1 (d : Nat) (g : Int) : Bool := !(decide (d ≤ 1) && decide (g = 1)) && !(decide (d ≤ 2) && decide (g = 2)) && !decide (g = 3)
def wiB (d : Nat) (l : List Int) : Bool := l.all (wi1 d)
theorem wiB_cons (d : Nat) (l : List Int) (i : Nat) (g : Int) (h : l[i]? = some g) : wiB d (l.drop i) = (wi1 d g && wiB d (l.drop (i + 1))) := by
  obtain ⟨h1, rfl⟩ := List.getElem?_eq_some_iff.1 h
  rw [List.drop_eq_getElem_cons h1]
  rfl
set_option maxRecDepth 100000 in
theorem isDepth_any (d : Nat) (w : World) : Calls Tryd.prog 43 #[.int .u8 (d : Int)] w fun e w' => e = .returned (.bool (decide (1 ≤ d ∧ d ≤ 3))) ∧ w' = w := by
  by_cases h1 : d = 1
  · subst h1
    go_enter Tryd.func43, Tryd.ntmps43
    go_wp2_with fail
    go_ret
    exact ⟨rfl, rfl⟩
  by_cases h2 : d = 2
  · subst h2
    go_enter Tryd.func43, Tryd.ntmps43
    go_wp2_with fail
    go_ret
    exact ⟨rfl, rfl⟩
  by_cases h3 : d = 3
  · subst h3
    go_enter Tryd.func43, Tryd.ntmps43
    go_wp2_with fail
    go_ret
    exact ⟨rfl, rfl⟩
  have k1 : ((d : Int) == 1) = false := by simp; omega
  have k2 : ((d : Int) == 2) = false := by simp; omega
  have k3 : ¬ (d : Int) = 3 := by omega
  have k6 : ((d : Int) == 3) = false := by simp; omega
  have k4 : ¬ (d : Int) = 1 := by omega
  have k5 : ¬ (d : Int) = 2 := by omega
  rw [decide_eq_false (show ¬ (1 ≤ d ∧ d ≤ 3) by omega)]
  clear h1 h2 h3
  go_enter Tryd.func43, Tryd.ntmps43
  go_wp2_with fail
  go_ret
  exact ⟨rfl, rfl⟩
set_option maxRecDepth 100000 in
set_option maxHeartbeats 4000000 in
/-- isWithin. -/
theorem isWithin_any {w : World} {a : Option Addr} {n cap : Nat} {L : List Int} (h : IntR w a n cap L) (hn : n ≤ 100) (d : Nat) (hd : d = 1 ∨ d = 2 ∨ d = 3) (b : Bool) (hb : b = wiB d L) :
    Calls Tryd.prog 44 #[.slice a n cap, .int .u8 (d : Int)] w fun e w' => e = .returned (.bool b) ∧ w' = w := by
  have HH := hidD h
  have hln : n = L.length := h.len
  have HL := hidD hln
  have HB : Hid (b = wiB d (L.drop 0)) := hb
  clear h hb hln
  go_enter Tryd.func44, Tryd.ntmps44
  go_wp2_with fail
  go_loopw [9] (fun v V => ∃ i : Nat, i ≤ n ∧ v = .int .i64 i ∧ b = wiB d (L.drop i) ∧ V = w) (fun v _ => n - (intOf v).toNat)
  case atStart => exact ⟨0, Nat.zero_le _, rfl, HB.out, rfl⟩
  case round =>
    obtain ⟨i, hi, rfl, hE, rfl⟩ := hrel
    have HE := hidD hE
    clear hE HB
    by_cases hlt : i < n
    · obtain ⟨x, hx⟩ : ∃ x, L[i]? = some x := ⟨_, List.getElem?_eq_getElem (by have := HL.out; omega)⟩
      obtain ⟨g, off, ea, hg, hc, -⟩ := HH.out.nth hx
      have st := wiB_cons d L i x hx
      rw [← HE.out] at st
      have ST := hidD st
      subst ea
      have j0 : (0 : Int) ≤ (i : Int) := by omega
      have j1 : (i : Int) < (n : Int) := by omega
      have j2 : (i : Int) ≤ 100 := by omega
      clear hx st
      cases hw : wi1 d x with
      | false =>
        have hbf : b = false := by rw [ST.out, hw]; rfl
        subst hbf
        have hcase : (d ≤ 1 ∧ x = 1) ∨ (d ≤ 2 ∧ x = 2) ∨ x = 3 := by
          unfold wi1 at hw
          by_cases e1 : d ≤ 1 ∧ x = 1
          · exact .inl e1
          by_cases e2 : d ≤ 2 ∧ x = 2
          · exact .inr (.inl e2)
          by_cases e3 : x = 3
          · exact .inr (.inr e3)
          exfalso
          rcases hd with rfl | rfl | rfl <;> simp_all
        clear ST HE hw
        rcases hd with rfl | rfl | rfl
        · rcases hcase with ⟨-, rfl⟩ | ⟨-, rfl⟩ | rfl
          all_goals (go_wp2_with fail; go_ret; exact ⟨rfl, rfl⟩)
        · rcases hcase with ⟨h0, rfl⟩ | ⟨-, rfl⟩ | rfl
          · omega
          all_goals (go_wp2_with fail; go_ret; exact ⟨rfl, rfl⟩)
        · rcases hcase with ⟨h0, rfl⟩ | ⟨h0, rfl⟩ | rfl
          · omega
          · omega
          · go_wp2_with fail
            go_ret
            exact ⟨rfl, rfl⟩
      | true =>
        have hbt : b = wiB d (L.drop (i + 1)) := by rw [ST.out, hw]; rfl
        have HBT := hidD hbt
        have e3 : ¬ x = 3 := fun e => by subst e; rcases hd with rfl | rfl | rfl <;> simp [wi1] at hw
        have e2 : d ≤ 2 → ¬ x = 2 := fun h e => by subst e; rcases hd with rfl | rfl | rfl <;> simp [wi1] at hw <;> omega
        have e1 : d ≤ 1 → ¬ x = 1 := fun h e => by subst e; rcases hd with rfl | rfl | rfl <;> simp [wi1] at hw <;> omega
        clear ST HE hw hbt
        rcases hd with rfl | rfl | rfl
        · have f2 := e2 (by omega)
          have f1 := e1 (by omega)
          clear e1 e2
          go_wp2_with fail
          refine ⟨⟨i + 1, hlt, rfl, HBT.out, trivial⟩, ?_⟩
          show n - ((i : Int) + 1).toNat < n - (i : Int).toNat
          omega
        · have f2 := e2 (by omega)
          clear e1 e2
          go_wp2_with fail
          refine ⟨⟨i + 1, hlt, rfl, HBT.out, trivial⟩, ?_⟩
          show n - ((i : Int) + 1).toNat < n - (i : Int).toNat
          omega
        · clear e1 e2
          go_wp2_with fail
          refine ⟨⟨i + 1, hlt, rfl, HBT.out, trivial⟩, ?_⟩
          show n - ((i : Int) + 1).toNat < n - (i : Int).toNat
          omega
    · obtain rfl : i = n := by omega
      have lt : ¬ (i : Int) < (i : Int) := by omega
      have hbt : b = true := by rw [HE.out, List.drop_eq_nil_of_le (by have := HL.out; omega)]; rfl
      subst hbt
      clear HE
      go_wp2_with fail
      go_ret
      exact ⟨rfl, rfl⟩
abbrev twoO (x y : Pt) : Obj := .cells #[.int .i64 x.l, .slice x.a x.n x.cap, .int .i64 y.l, .slice y.a y.n y.cap] 26 (0, 0)
theorem ps_two {W : World} {x y : Pt} {p q : List Int} (h : PAt W x p) (h' : PAt W y q) : PsAt (((W.alloc x.o).alloc y.o).alloc (twoO x y)) (W.heap.size + 2) [(x, p), (y, q)] where
  lt := by simp
  cells := fun i x' p' hi => by
    have hA : At (((W.alloc x.o).alloc y.o).alloc (twoO x y)) (W.heap.size + 2) (twoO x y) := by
      have := At.new ((W.alloc x.o).alloc y.o) (twoO x y)
      simpa only [World.size_alloc] using this
    have hb : Below W.heap.size W (((W.alloc x.o).alloc y.o).alloc (twoO x y)) := bel3
    generalize ((W.alloc x.o).alloc y.o).alloc (twoO x y) = V at hA hb ⊢
    unfold At at hA
    rcases i with - | - | i
    · simp at hi
      obtain ⟨rfl, rfl⟩ := hi
      exact ⟨by simp [World.cell?, hA], by simp [World.cell?, hA], h.bel hb⟩
    · simp at hi
      obtain ⟨rfl, rfl⟩ := hi
      exact ⟨by simp [World.cell?, hA], by simp [World.cell?, hA], h'.bel hb⟩
    · simp at hi
/-- follow of two places. -/
theorem follow_two {w W : World} (hW : Below w.heap.size w W) {a la : Option Addr} {n cap ln lcap : Nat} {ok : Bool} {fc : Nat → List Ch} {cl : List Ch} (hC : Cx w a la n cap ln lcap ok fc cl) {x y : Pt} {p q : List Int} {g : Nat} (hX : PsAt W g [(x, p), (y, q)]) :
    Calls Tryd.prog 36 #[.slice a n cap, .slice la ln lcap, .slice (some ⟨g, 0, none⟩) 2 2] W fun e w' => ((∃ g2 cap2 z c gs, e = .returned (.tuple #[.slice (some ⟨g2, 0, none⟩) 2 cap2, .int .i64 0]) ∧ (wyX ok fc cl x.l p).isSome = true ∧ wyX ok fc cl y.l q = some (c, gs) ∧ g2 < w'.heap.size ∧ w'.cell? ⟨g2, 11, none⟩ = some (.slice z.ga z.gn z.gcap) ∧ WayIs w W w' z c gs) ∨ e = .returned (.tuple #[.slice none 0 0, .int .i64 2]) ∧ (wyX ok fc cl x.l p = none ∨ wyX ok fc cl y.l q = none)) ∧ Below W.heap.size W w' := by
  refine (follow_cx hW hC hX (by simp) (by simp)).mono fun e w' k => ⟨?_, k.2⟩
  rcases k.1 with ⟨v, ys, h2, h3, hok⟩ | ⟨h2, x', p', h3, h4⟩
  · left
    obtain ⟨y1, c1, gs1, a1, a2, a3⟩ := h3.way 0 x p rfl
    obtain ⟨y2, c2, gs2, b1, b2, b3⟩ := h3.way 1 y q rfl
    have hl : ys.length = 2 := h3.len
    have hrow := h3.row
    rw [hl] at hrow
    rcases hrow.2 with ⟨e0, h0⟩ | ⟨gg, cap2, cur, rfl, -⟩
    · omega
    · have hcell := own_cell hrow (j := 1 * 6 + 5) (u := .slice y2.ga y2.gn y2.gcap) (by rw [wCells_at ys 1 y2 b1 5 (by omega)]; rfl)
      refine ⟨gg, cap2, y2, c2, gs2, h2, ?_, ?_, hcell.2, hcell.1, b3⟩
      · unfold wyX; rw [if_pos hok, a2]; rfl
      · unfold wyX; rw [if_pos hok]; exact b2
  · right
    refine ⟨h2, ?_⟩
    simp at h3
    rcases h3 with ⟨rfl, rfl⟩ | ⟨rfl, rfl⟩
    · exact .inl h4
    · exact .inr h4
/-- What Within tells. -/
def WithPost (R1 R2 : Option (Ch × List Int)) (x y : Pt) (p q : List Int) (d : Nat) (e : Ending) : Prop :=
  if R1.isSome = true ∧ R2.isSome = true ∧ 1 ≤ d ∧ d ≤ 3 then ∃ b, e = .returned (.tuple #[.bool b, .int .i64 0]) ∧ (b = true ↔ (x.l = y.l ∧ p <+: q) ∧ ∀ z, R2 = some z → wiB d (z.2.drop p.length) = true)
  else e = .returned (.tuple #[.bool false, .int .i64 2])
/-- What is left of a row behind its beginning. -/
theorem IntR.rest {w : World} {a : Option Addr} {n cap : Nat} {L : List Int} (h : IntR w a n cap L) (k : Nat) (hk : k ≤ n) (a' : Option Addr) (ha : cap ≠ k → ∀ g off, a = some ⟨g, off, none⟩ → a' = some ⟨g, off + k, none⟩) (hz : a' = none → a = none) : IntR w a' (n - k) (cap - k) (L.drop k) where
  len := by rw [List.length_drop, ← h.len]
  le := by have := h.le; omega
  big := by have := h.big; omega
  cells := fun hne => by
    have hl : k < L.length := by
      rcases Nat.lt_or_ge k L.length with h1 | h1
      · exact h1
      · exact absurd (List.drop_eq_nil_of_le h1) hne
    obtain ⟨g, off, h1, h2, h3⟩ := h.cells (fun e => by subst e; simp at hl)
    refine ⟨g, off + k, ha (by have := h.le; have := h.len; omega) g off h1, h2, fun i x hx => ?_⟩
    rw [List.getElem?_drop] at hx
    have := h3 (k + i) x hx
    rw [← Nat.add_assoc] at this
    exact this
  rng := fun x hx => h.rng x (List.mem_of_mem_drop hx)
  nil := fun e => by have := h.nil (hz e); omega
end Go.Proofs.YtnohcppipkpgmaaDoor
