import Derived.Test.YtnohcppipkpgmaaDoorRl
namespace Go.Proofs.YtnohcppipkpgmaaDoor
open Go.RowKit Go.Shelf
set_option linter.unusedVariables false
set_option linter.unusedSimpArgs false

/-- Structs and locals: whether they may be, and as chains. -/
structure Cx (w : World) (a la : Option Addr) (n cap ln lcap : Nat) (ok : Bool) (fc : Nat → List Ch) (cl : List Ch) : Prop where
  all : ∀ W, Below w.heap.size w W → Calls Tryd.prog 56 #[.slice a n cap, .slice la ln lcap] W fun e w' => e = .returned (.bool ok) ∧ Below W.heap.size W w'
  sf : ok = true → SF w a n cap fc
  lf : ok = true → LF w la ln lcap n cl
/-- What a place is among them. -/
def wyX (ok : Bool) (fc : Nat → List Ch) (cl : List Ch) (l : Int) (p : List Int) : Option (Ch × List Int) := if ok = true then wayP fc cl l p else none
theorem follow_cx {w W : World} (hW : Below w.heap.size w W) {a la : Option Addr} {n cap ln lcap : Nat} {ok : Bool} {fc : Nat → List Ch} {cl : List Ch} (hC : Cx w a la n cap ln lcap ok fc cl) {g : Nat} {xs : List (Pt × List Int)} (hX : PsAt W g xs) (hk : xs.length ≤ 10) (hk0 : 0 < xs.length) :
    Calls Tryd.prog 36 #[.slice a n cap, .slice la ln lcap, .slice (some ⟨g, 0, none⟩) xs.length xs.length] W fun e w' => ((∃ v ys, e = .returned (.tuple #[v, .int .i64 0]) ∧ FoIs w W w' v xs fc cl ys ∧ ok = true) ∨ e = .returned (.tuple #[.slice none 0 0, .int .i64 2]) ∧ ∃ x p, (x, p) ∈ xs ∧ wyX ok fc cl x.l p = none) ∧ Below W.heap.size W w' := by
  cases hok : ok with
  | true =>
    have h1 := hC.all W hW
    rw [hok] at h1
    refine (follow_yes hW h1 (hC.sf hok) (hC.lf hok) hX hk).mono fun e w' k => ⟨?_, k.2⟩
    rcases k.1 with ⟨v, ys, h2, h3⟩ | ⟨h2, x, p, h3, h4⟩
    · exact .inl ⟨v, ys, h2, h3, rfl⟩
    · exact .inr ⟨h2, x, p, h3, h4⟩
  | false =>
    have h1 := hC.all W hW
    rw [hok] at h1
    refine (follow_no h1).mono fun e w' k => ⟨.inr ⟨k.1, ?_⟩, k.2⟩
    obtain ⟨⟨x, p⟩, hx⟩ : ∃ x, x ∈ xs := List.exists_mem_of_length_pos hk0
    exact ⟨x, p, hx, rfl⟩
theorem ps_one {W : World} {x : Pt} {p : List Int} (h : PAt W x p) : PsAt ((W.alloc x.o).alloc x.o) (W.heap.size + 1) [(x, p)] where
  lt := by simp
  cells := fun i x' p' hi => by
    have hi0 : i = 0 := by
      have := (List.getElem?_eq_some_iff.1 hi).1
      simp at this
      omega
    subst hi0
    simp at hi
    obtain ⟨rfl, rfl⟩ := hi
    have hA := (at_snd W x.o x.o).pl
    exact ⟨hA.1, hA.2, h.bel (belA (belA (Below.refl _ _)))⟩
/-- follow of one place: its way, or that it may not be. -/
theorem follow_one {w W : World} (hW : Below w.heap.size w W) {a la : Option Addr} {n cap ln lcap : Nat} {ok : Bool} {fc : Nat → List Ch} {cl : List Ch} (hC : Cx w a la n cap ln lcap ok fc cl) {x : Pt} {p : List Int} {g : Nat} (hX : PsAt W g [(x, p)]) :
    Calls Tryd.prog 36 #[.slice a n cap, .slice la ln lcap, .slice (some ⟨g, 0, none⟩) 1 1] W fun e w' => (match wyX ok fc cl x.l p with
      | some z => ∃ g2 cap2 y, e = .returned (.tuple #[.slice (some ⟨g2, 0, none⟩) 1 cap2, .int .i64 0]) ∧ C5 w' g2 0 y.f ∧ w'.cell? ⟨g2, 5, none⟩ = some (.slice y.ga y.gn y.gcap) ∧ WayIs w W w' y z.1 z.2
      | none => e = .returned (.tuple #[.slice none 0 0, .int .i64 2])) ∧ Below W.heap.size W w' := by
  refine (follow_cx hW hC hX (by simp) (by simp)).mono fun e w' k => ⟨?_, k.2⟩
  rcases k.1 with ⟨v, ys, h2, h3, hok⟩ | ⟨h2, x', p', h3, h4⟩
  · obtain ⟨y, c, gs, g1, g2, g3⟩ := h3.way 0 x p rfl
    have e1 : wyX ok fc cl x.l p = some (c, gs) := by unfold wyX; rw [if_pos hok]; exact g2
    rw [e1]
    have hl : ys.length = 1 := h3.len
    have hrow := h3.row
    rw [hl] at hrow
    rcases hrow.2 with ⟨e0, h0⟩ | ⟨gg, cap2, cur, rfl, -⟩
    · omega
    · have hcell : ∀ k u, (c6 y)[k]? = some u → w'.cell? ⟨gg, k, none⟩ = some u ∧ gg < w'.heap.size := fun k u hu => by
        refine own_cell hrow ?_
        have := wCells_at ys 0 y g1 k (by have := (List.getElem?_eq_some_iff.1 hu).1; simp [c6] at this; omega)
        rw [Nat.zero_mul, Nat.zero_add] at this
        rw [this, hu]
      exact ⟨gg, cap2, y, h2, ⟨(hcell 0 _ rfl).2, (hcell 0 _ rfl).1, (hcell 1 _ rfl).1, (hcell 2 _ rfl).1, (hcell 3 _ rfl).1, (hcell 4 _ rfl).1⟩, (hcell 5 _ rfl).1, g3⟩
  · simp at h3
    obtain ⟨rfl, rfl⟩ := h3
    rw [h4]
    exact h2
set_option maxRecDepth 100000 in
set_option maxHeartbeats 2000000 in
/-- May. -/
theorem May_any {w W : World} (hW : Below w.heap.size w W) {a la : Option Addr} {n cap ln lcap : Nat} {ok : Bool} {fc : Nat → List Ch} {cl : List Ch} (hC : Cx w a la n cap ln lcap ok fc cl) {x : Pt} {p : List Int} (hP : PAt W x p) (b : Bool) (hb : b = (wyX ok fc cl x.l p).isSome) :
    Calls Tryd.prog 16 #[.slice a n cap, .slice la ln lcap, x.v] W fun e w' => e = .returned (.bool b) ∧ Below W.heap.size W w' := by
  have C : Hid (Calls Tryd.prog 36 #[.slice a n cap, .slice la ln lcap, .slice (some ⟨W.heap.size + 1, 0, none⟩) 1 1] ((W.alloc x.o).alloc x.o) fun e w' => (∃ v er, e = .returned (.tuple #[v, .int .i64 er]) ∧ b = decide (er = 0)) ∧ Below W.heap.size W w') := by
    refine (follow_one (below_aft hW bel2) hC (ps_one hP)).mono fun e w' k => ⟨?_, below2 k.2⟩
    have k1 := k.1
    cases hz : wyX ok fc cl x.l p with
    | some z =>
      rw [hz] at k1 hb
      obtain ⟨g2, cap2, y, h1, -⟩ := k1
      exact ⟨_, 0, h1, hb⟩
    | none =>
      rw [hz] at k1 hb
      exact ⟨_, 2, k1, hb⟩
  obtain ⟨l, pa, m, pcap⟩ := x
  show Calls Tryd.prog 16 #[.slice a n cap, .slice la ln lcap, plV l pa m pcap] W _
  clear hC hP hb
  go_enter Tryd.func16, Tryd.ntmps16
  go_wp2_with (go_at_call 36; refine C.out.mono ?_; rintro e w1 ⟨⟨v, er, rfl, hbb⟩, hb1⟩; have HE := hidD hbb; clear hbb)
  go_ret
  exact ⟨ret_bool HE.out.symm, hb1⟩
end Go.Proofs.YtnohcppipkpgmaaDoor
