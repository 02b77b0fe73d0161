import Derived.Test.YtahdnfogdnondaaGreatDoorZk
namespace Go.Proofs.YtahdnfogdnondaaGreatDoor
open Go.RowKit
set_option linter.unusedVariables false
set_option linter.unusedSimpArgs false

theorem tr_inj {f f' : Nx × Fo} (h : tr f = tr f') : f = f' := by
  obtain ⟨x, c⟩ := f
  obtain ⟨y, d⟩ := f'
  have hw := whole_inj h
  have e1 : x = y := by injection hw
  have e2 : c = d := by injection hw
  rw [e1, e2]
theorem map_tr_inj : ∀ {Fs Gs : List (Nx × Fo)}, Fs.map tr = Gs.map tr → Fs = Gs
  | [], [], _ => rfl
  | [], _ :: _, h => by simp at h
  | _ :: _, [], h => by simp at h
  | f :: Fs, g :: Gs, h => by
    simp only [List.map_cons, List.cons.injEq] at h
    rw [tr_inj h.1, map_tr_inj h.2]
/-- A tree that may be: its root, what is below it. -/
structure Tw (T : List Nd) (n : Nat) (x : Nx) (c : Fo) : Prop where
  e : T = (Fo.cons x c .nil).flat 0
  ln : T.length = n
  l : n = 1 + c.size
  le : n ≤ 16384
  ok : (Fo.cons x c .nil).all okP = true
  dp : (Fo.cons x c .nil).deep ≤ 48
  sm : Sm T
theorem Tw.may {T : List Nd} {n : Nat} {x : Nx} {c : Fo} (h : Tw T n x c) : Mayb okP T := ⟨x, c, h.e, h.ok, h.dp, by rw [h.ln]; exact h.le⟩
theorem Tw.ne {T : List Nd} {n : Nat} {x : Nx} {c : Fo} (h : Tw T n x c) : T ≠ [] := mayb_ne h.may
/-- A part of it is one, too. -/
theorem Tw.part {T : List Nd} {n : Nat} {x : Nx} {c : Fo} (h : Tw T n x c) {k : Nat} (hk : k < n) : ∃ y e, (Fo.cons x c .nil).sub k = some (y, e) ∧ Tw ((Fo.cons y e .nil).flat 0) (1 + e.size) y e ∧ (Fo.cons y e .nil).deep ≤ (Fo.cons x c .nil).deep ∧ k + 1 + e.size ≤ n := by
  obtain ⟨y, e, d, hP⟩ := part_of h.e h.ok (n := k) (by rw [h.ln]; exact hk)
  have hlen := hP.len
  rw [h.ln] at hlen
  have hle := h.le
  have hdp := h.dp
  have hd := hP.deep
  refine ⟨y, e, hP.sub, ⟨rfl, by rw [Fo.len_flat]; simp [Fo.size], rfl, by omega, hP.ok, by omega, sm_flat ?_ (by simp only [Fo.size]; omega)⟩, hP.deep, hlen⟩
  refine xs_flat _ SmX (0 + k) 0 (fun d hd => ?_)
  rw [← hP.seg] at hd
  exact (h.sm.d d (List.mem_of_mem_drop (List.mem_of_mem_take hd))).x
theorem Tw.sub {T : List Nd} {n : Nat} {x : Nx} {c : Fo} (h : Tw T n x c) {k : Nat} (hk : k < n) {y : Nx} {e : Fo} (hs : (Fo.cons x c .nil).sub k = some (y, e)) (a : Option Addr) (cap : Nat) (w : World) (hT : TAt w a T) (hcap : n ≤ cap) :
    Calls Tryz.prog 25 #[trV a n cap, .int .i64 k] w fun e' w' => ∃ g cur, e' = .returned (.tuple #[trV (some ⟨g, 0, none⟩) (1 + e.size) (1 + e.size), .int .i64 0]) ∧ OC w' w.heap.size w'.heap.size g (1 + e.size) ((Fo.cons y e .nil).flat 0) (1 + e.size) cur ∧ Below w.heap.size w w' := by
  obtain ⟨y', e', d, hP⟩ := part_of h.e h.ok (n := k) (by rw [h.ln]; exact hk)
  have := hP.sub
  rw [hs] at this
  cases this
  have h2 := sub_yes x c T h.e h.may h.ok k y e d hP a cap w hT h.sm (by rw [h.ln]; exact hcap)
  rw [h.ln] at h2
  exact h2
theorem Tw.mayC {T : List Nd} {n : Nat} {x : Nx} {c : Fo} (h : Tw T n x c) (a : Option Addr) (cap : Nat) (w : World) (hT : TAt w a T) :
    Calls Tryz.prog 24 #[trV a n cap] w fun e w' => e = .returned (.bool true) ∧ Below w.heap.size w w' := by
  have := may_yes (cap := cap) hT h.sm h.may
  rw [h.ln] at this
  exact this
theorem Tw.ck {T : List Nd} {n : Nat} {x : Nx} {c : Fo} (h : Tw T n x c) : ckE okP (.cons x c .nil) = 0 := by
  have := h.dp
  unfold ckE
  rw [if_pos h.ok, if_neg (by omega)]
/-- The children of the root. -/
theorem Tw.child {T : List Nd} {n : Nat} {x : Nx} {c : Fo} (h : Tw T n x c) {i : Nat} {f : Nx × Fo} (hf : (roots c)[i]? = some f) : ∃ k, (c.starts 1)[i]? = some ((k : Nat) : Int) ∧ k < n ∧ (Fo.cons x c .nil).sub k = some f ∧ Tw (tr f) (1 + f.2.size) f.1 f.2 := by
  have hst := roots_starts c 1 i
  rw [hf] at hst
  have hsb := roots_sub c i f hf
  have e1 := fo_size hf
  have e2 := fo_mono (roots c) (i + 1)
  rw [fo_roots] at e2
  have hl := h.l
  have hk : 1 + (fo ((roots c).take i)).size < n := by omega
  have hsub : (Fo.cons x c .nil).sub (1 + (fo ((roots c).take i)).size) = some f := by
    rw [Nat.add_comm]
    simp only [Fo.sub]
    rw [if_pos (by omega)]
    exact hsb
  refine ⟨1 + (fo ((roots c).take i)).size, hst, hk, hsub, ?_⟩
  obtain ⟨y, e, h1, h2, -⟩ := h.part hk
  rw [hsub] at h1
  cases h1
  exact h2
/-- A list of trees of one's own. -/
def TL (W : World) (lo : Nat) (xs : List Value) (Fs : List (Nx × Fo)) : Prop := xs.length = Fs.length ∧ ∀ (j : Nat) (f : Nx × Fo), Fs[j]? = some f → ∃ g cur, xs[j]? = some (Value.slice (some ⟨g, 0, none⟩) (1 + f.2.size) (1 + f.2.size)) ∧ OC W lo W.heap.size g (1 + f.2.size) (tr f) (1 + f.2.size) cur
theorem TL.below {W W' : World} {lo : Nat} {xs : List Value} {Fs : List (Nx × Fo)} (h : TL W lo xs Fs) (hb : Below W.heap.size W W') : TL W' lo xs Fs :=
  ⟨h.1, fun j f hf => by
    obtain ⟨g, cur, h1, h2⟩ := h.2 j f hf
    exact ⟨g, cur, h1, (h2.keep (Keep.below hb (Nat.le_refl _))).grow hb.size⟩⟩
theorem TL.other {W W' : World} {lo : Nat} {xs : List Value} {Fs : List (Nx × Fo)} (h : TL W lo xs Fs) {row : Option Nat} (hg : W.grownBy W' row) (hr : ∀ b, row = some b → ∃ cur', W.heap[b]? = some (.cells cur' 24 (0, 0))) : TL W' lo xs Fs :=
  ⟨h.1, fun j f hf => by
    obtain ⟨g, cur, h1, h2⟩ := h.2 j f hf
    exact ⟨g, cur, h1, (h2.other hg hr).grow hg.size⟩⟩
theorem TL.snoc {W : World} {lo : Nat} {xs : List Value} {Fs : List (Nx × Fo)} (h : TL W lo xs Fs) {f : Nx × Fo} {g : Nat} {cur : Array Value} (hO : OC W lo W.heap.size g (1 + f.2.size) (tr f) (1 + f.2.size) cur) : TL W lo (xs ++ [.slice (some ⟨g, 0, none⟩) (1 + f.2.size) (1 + f.2.size)]) (Fs ++ [f]) := by
  refine ⟨by simp [h.1], fun j f' hf => ?_⟩
  rcases Nat.lt_or_ge j Fs.length with hj | hj
  · rw [List.getElem?_append_left hj] at hf
    obtain ⟨g', cur', h1, h2⟩ := h.2 j f' hf
    exact ⟨g', cur', by rw [List.getElem?_append_left (by rw [h.1]; exact hj)]; exact h1, h2⟩
  · rw [List.getElem?_append_right hj] at hf
    have hj0 : j - Fs.length = 0 := by
      have := (List.getElem?_eq_some_iff.1 hf).1
      simpa using this
    rw [hj0] at hf
    simp at hf
    subst hf
    exact ⟨g, cur, by rw [List.getElem?_append_right (by rw [h.1]; exact hj), h.1, hj0]; rfl, hO⟩
theorem own24 {W : World} {lo k : Nat} {v : Value} {xs : List Value} (h : W.ownsRow lo 24 1 v k xs) : ∀ b, v.ownBlock = some b → ∃ cur', W.heap[b]? = some (.cells cur' 24 (0, 0)) := by
  intro b e
  rcases h.2 with ⟨rfl, _⟩ | ⟨g, cap, cur, rfl, _, hg, _⟩
  · simp [Value.ownBlock] at e
  · simp [Value.ownBlock] at e
    subst e
    exact ⟨cur, hg⟩
theorem row_slice24 {w : World} {B : Nat} {v : Value} {n : Nat} {xs : List Value} (h : w.ownsRow B 24 1 v n xs) : ∃ a c, v = .slice a n c := by
  rcases h.2 with ⟨rfl, rfl⟩ | ⟨g, cap, cur, rfl, _⟩
  · exact ⟨_, _, rfl⟩
  · exact ⟨_, _, rfl⟩
/-- What may be handed to Join. -/
theorem TL.crow {W : World} {lo k : Nat} {a : Option Addr} {cap : Nat} {xs : List Value} {Fs : List (Nx × Fo)} (h : TL W lo xs Fs) (ho : W.ownsRow lo 24 1 (.slice a k cap) k xs) : CRow W a (Fs.map tr) := fun hn => by
  have hl := h.1
  have hk : xs.length = k := by simpa using ho.1
  rcases ho.2 with ⟨h', h0⟩ | ⟨g, cap', cur, h', _, hg, _, _, hs, ht⟩
  · exfalso
    apply hn
    have : Fs.length = 0 := by omega
    rw [List.length_eq_zero_iff.1 this]
    rfl
  · simp only [Value.slice.injEq] at h'
    obtain ⟨rfl, _, rfl⟩ := h'
    refine ⟨g, 0, rfl, (Array.getElem?_eq_some_iff.1 hg).1, fun i T hT => ?_⟩
    rw [List.getElem?_map] at hT
    cases hf : Fs[i]? with
    | none => rw [hf] at hT; cases hT
    | some f =>
      rw [hf] at hT
      cases hT
      obtain ⟨g', cur', h1, h2⟩ := h.2 i f hf
      refine ⟨some ⟨g', 0, none⟩, 1 + f.2.size, ?_, h2.tat (tr_len f)⟩
      have hc : W.cell? ⟨g, 0 + i, none⟩ = cur[0 + i]? := by simp [World.cell?, hg]
      rw [hc, Nat.zero_add, tr_len]
      rw [← ht, List.getElem?_take] at h1
      split at h1
      · simpa using h1
      · cases h1
end Go.Proofs.YtahdnfogdnondaaGreatDoor
