import Derived.Test.YtahdnfogdnondaaGreatDoorZg
namespace Go.Proofs.YtahdnfogdnondaaGreatDoor
open Go.RowKit
set_option linter.unusedVariables false
set_option linter.unusedSimpArgs false

/-- What a node says of itself is Go's. -/
structure SmX (x : Nx) : Prop where
  k : x.k ≤ 255
  p0 : -9223372036854775808 ≤ x.p
  p1 : x.p ≤ 9223372036854775807
  n0 : -9223372036854775808 ≤ x.n
  n1 : x.n ≤ 9223372036854775807
  s : x.s.length ≤ maxLen
theorem SmN.x {d : Nd} (h : SmN d) : SmX d.x := ⟨h.k, h.p0, h.p1, h.n0, h.n1, h.s⟩
theorem xs_flat (f : Fo) (P : Nx → Prop) : ∀ o o', (∀ d ∈ f.flat o, P d.x) → ∀ d ∈ f.flat o', P d.x := by
  induction f with
  | nil => intro o o' _ d h; simp [Fo.flat] at h
  | cons x c r ihc ihr =>
    intro o o' ha d h
    simp only [Fo.flat, List.mem_cons, List.mem_append] at h ha
    rcases h with rfl | h | h
    · exact ha ⟨x, c.starts (o + 1)⟩ (.inl rfl)
    · exact ihc _ _ (fun d hd => ha d (.inr (.inl hd))) d h
    · exact ihr _ _ (fun d hd => ha d (.inr (.inr hd))) d h
theorem sm_flat {f : Fo} (hx : ∀ d ∈ f.flat 0, SmX d.x) (hl : f.size ≤ 20000) : Sm (f.flat 0) := by
  refine ⟨by rw [Fo.len_flat]; exact hl, fun d hd => ?_⟩
  have h := hx d hd
  obtain ⟨k1, k2⟩ := flat_kids f 0 d hd
  exact ⟨h.k, h.p0, h.p1, h.n0, h.n1, h.s, by omega, fun c hc => by have := k1 c hc; omega⟩
theorem fo_xs {Fs : List (Nx × Fo)} (P : Nx → Prop) (h : ∀ f ∈ Fs, ∀ d ∈ tr f, P d.x) : ∀ o, ∀ d ∈ (fo Fs).flat o, P d.x := by
  induction Fs with
  | nil => intro o d hd; simp [fo, Fo.flat] at hd
  | cons f Fs ih =>
    intro o d hd
    obtain ⟨x, c⟩ := f
    have h0 := h (x, c) (by simp)
    have ih' := ih (fun f hf => h f (by simp [hf]))
    simp only [fo, Fo.flat, List.mem_cons, List.mem_append] at hd
    rcases hd with rfl | hd | hd
    · exact h0 ⟨x, c.starts (0 + 1)⟩ (by simp only [tr, Fo.flat, List.mem_cons]; exact .inl trivial)
    · refine xs_flat c P 1 _ (fun d hd => h0 d ?_) d hd
      simp only [tr, Fo.flat, List.mem_cons, List.mem_append]
      exact .inr (.inl hd)
    · exact ih' _ d hd
theorem may_forests : ∀ (Ts : List (List Nd)), (∀ T ∈ Ts, Mayb okP T) → ∃ Fs : List (Nx × Fo), Ts = Fs.map tr ∧ ∀ f ∈ Fs, (Fo.cons f.1 f.2 .nil).all okP = true ∧ (Fo.cons f.1 f.2 .nil).deep ≤ 48
  | [], _ => ⟨[], rfl, fun f h => by simp at h⟩
  | T :: Ts, h => by
    obtain ⟨Fs, h1, h2⟩ := may_forests Ts (fun T hT => h T (by simp [hT]))
    obtain ⟨x, c, k1, k2, k3, k4⟩ := h T (by simp)
    refine ⟨(x, c) :: Fs, by simp only [List.map_cons, h1]; rw [k1], fun f hf => ?_⟩
    simp only [List.mem_cons] at hf
    rcases hf with rfl | hf
    · exact ⟨k2, k3⟩
    · exact h2 f hf
/-- How many nodes trees have together. -/
def tot : List (List Nd) → Nat
  | [] => 0
  | T :: Ts => T.length + tot Ts
theorem tot_fo (Fs : List (Nx × Fo)) : tot (Fs.map tr) = (fo Fs).size := by
  induction Fs with
  | nil => rfl
  | cons f Fs ih => obtain ⟨x, c⟩ := f; simp only [List.map_cons, tot, fo, Fo.size, ih, tr_len]
theorem tot_take {Ts : List (List Nd)} {k : Nat} {T : List Nd} (h : Ts[k]? = some T) : tot (Ts.take (k + 1)) = tot (Ts.take k) + T.length := by
  induction Ts generalizing k with
  | nil => simp at h
  | cons U Ts ih =>
    cases k with
    | zero => simp at h; subst h; simp [tot]
    | succ k => simp only [List.take_succ_cons, tot]; rw [ih (by simpa using h)]; omega
theorem tot_le {Ts : List (List Nd)} (h : ∀ T ∈ Ts, T.length ≤ 20000) : ∀ k, tot (Ts.take k) ≤ k * 20000 := by
  induction Ts with
  | nil => intro k; simp [tot]
  | cons U Ts ih =>
    intro k
    cases k with
    | zero => simp [tot]
    | succ k =>
      simp only [List.take_succ_cons, tot]
      have := ih (fun T hT => h T (by simp [hT])) k
      have := h U (by simp)
      omega
/-- What Join answers. -/
def JoinPost (w : World) (nx : Nx) (Ts : List (List Nd)) (e : Ending) (w' : World) : Prop :=
  Below w.heap.size w w' ∧
  (((¬ ∀ T ∈ Ts, Mayb okP T) ∧ e = .returned (.tuple #[trV none 0 0, .int .i64 2])) ∨
   ∃ Fs : List (Nx × Fo), Ts = Fs.map tr ∧ (∀ f ∈ Fs, (Fo.cons f.1 f.2 .nil).all okP = true ∧ (Fo.cons f.1 f.2 .nil).deep ≤ 48) ∧
     ((16384 < 1 + (fo Fs).size ∧ e = .returned (.tuple #[trV none 0 0, .int .i64 3])) ∨
      (1 + (fo Fs).size ≤ 16384 ∧
        ((ckE okP (.cons nx (fo Fs) .nil) ≠ 0 ∧ e = .returned (.tuple #[trV none 0 0, .int .i64 (ckE okP (.cons nx (fo Fs) .nil))])) ∨
         (ckE okP (.cons nx (fo Fs) .nil) = 0 ∧ ∃ g cur, e = .returned (.tuple #[trV (some ⟨g, 0, none⟩) (1 + (fo Fs).size) (1 + (fo Fs).size), .int .i64 0]) ∧ OC w' w.heap.size w'.heap.size g (1 + (fo Fs).size) ((Fo.cons nx (fo Fs) .nil).flat 0) (1 + (fo Fs).size) cur)))))
end Go.Proofs.YtahdnfogdnondaaGreatDoor
