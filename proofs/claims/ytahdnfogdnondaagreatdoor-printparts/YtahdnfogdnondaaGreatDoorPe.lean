import Derived.Test.YtahdnfogdnondaaGreatDoorPd
namespace Go.Proofs.YtahdnfogdnondaaGreatDoor
set_option linter.unusedVariables false
set_option linter.unusedSimpArgs false

/-- Trees are told by their nodes. -/
theorem flat_inj (T : List Nd) (f : Fo) : ∀ (g : Fo) (o : Nat), (T.drop o).take f.size = f.flat o → (T.drop o).take g.size = g.flat o → o + f.size ≤ T.length → o + g.size ≤ T.length → f.size = g.size → f = g := by
  induction f with
  | nil =>
    intro g o h1 h2 _ _ hs
    cases g with
    | nil => rfl
    | cons x c r => simp [Fo.size] at hs; omega
  | cons x c r ihc ihr =>
    intro g o h1 h2 l1 l2 hs
    cases g with
    | nil => simp [Fo.size] at hs
    | cons x' c' r' =>
      simp only [Fo.size, Fo.flat] at h1 h2 l1 l2 hs
      obtain ⟨hx, hc, hr⟩ := seg_head (Fo.len_flat c _) (Fo.len_flat r _) h1
      obtain ⟨hx', hc', hr'⟩ := seg_head (Fo.len_flat c' _) (Fo.len_flat r' _) h2
      rw [hx] at hx'
      have e := Option.some.inj hx'
      have ex : x = x' := congrArg Nd.x e
      have es : c.starts (o + 1) = c'.starts (o + 1) := congrArg Nd.l e
      have w1 := wk_flat T c T.length 0 (o + 1) [] (by omega) (by omega) hc
      have w2 := wk_flat T c' T.length 0 (o + 1) [] (by omega) (by omega) hc'
      rw [es, w2] at w1
      simp only [wk] at w1
      have hsz : c.size = c'.size := by
        have := Sum.inr.inj w1
        omega
      have ec := ihc c' (o + 1) hc hc' (by omega) (by omega) hsz
      subst ec ex
      rw [ihr r' _ hr hr' (by omega) (by omega) (by omega)]
theorem whole_inj {x x' : Nx} {c c' : Fo} (h : (Fo.cons x c .nil).flat 0 = (Fo.cons x' c' .nil).flat 0) : Fo.cons x c .nil = Fo.cons x' c' .nil := by
  have hs : (Fo.cons x c .nil).size = (Fo.cons x' c' .nil).size := by rw [← Fo.len_flat _ 0, ← Fo.len_flat _ 0, h]
  refine flat_inj ((Fo.cons x c .nil).flat 0) _ _ 0 (whole_seg x c) ?_ (by rw [Fo.len_flat]; omega) (by rw [Fo.len_flat]; omega) hs
  rw [h]
  exact whole_seg x' c'
/-- What Check says of a tree. -/
def Ck (ok : Nx → List Nat → Bool) (T : List Nd) (e : Int) : Prop :=
  (T = [] ∧ e = 30) ∨ (16384 < T.length ∧ e = 3) ∨ (T ≠ [] ∧ T.length ≤ 16384 ∧
    ((¬ (∃ x c, T = (Fo.cons x c .nil).flat 0 ∧ (Fo.cons x c .nil).all ok = true) ∧ e = 30) ∨
     ∃ x c, T = (Fo.cons x c .nil).flat 0 ∧ (Fo.cons x c .nil).all ok = true ∧ e = if 48 < (Fo.cons x c .nil).deep then 4 else 0))
theorem Ck.may {ok : Nx → List Nat → Bool} {T : List Nd} {e : Int} (h : Ck ok T e) : e = 0 ↔ Mayb ok T := by
  constructor
  · intro he
    rcases h with ⟨_, h⟩ | ⟨_, h⟩ | ⟨_, hl, ⟨_, h⟩ | ⟨x, c, h1, h2, h3⟩⟩
    · omega
    · omega
    · omega
    · refine ⟨x, c, h1, h2, ?_, hl⟩
      rw [he] at h3
      split at h3
      · cases h3
      · omega
  · rintro ⟨x, c, h1, h2, h3, h4⟩
    rcases h with ⟨h, _⟩ | ⟨h, _⟩ | ⟨_, hl, ⟨h, _⟩ | ⟨x', c', k1, k2, k3⟩⟩
    · rw [h1] at h; simp [Fo.flat] at h
    · omega
    · exact absurd ⟨x, c, h1, h2⟩ h
    · have := whole_inj (h1.symm.trans k1)
      rw [k3, ← this, if_neg (by omega)]
/-- What Check says of a tree that is numbered as one meets its nodes. -/
def ckE (ok : Nx → List Nat → Bool) (f : Fo) : Int := if f.all ok = true then (if 48 < f.deep then 4 else 0) else 30
theorem Ck.whole {ok : Nx → List Nat → Bool} {x : Nx} {c : Fo} {e : Int} (h : Ck ok ((Fo.cons x c .nil).flat 0) e) (hl : 1 + c.size ≤ 16384) : e = ckE ok (.cons x c .nil) := by
  have hlen : ((Fo.cons x c .nil).flat 0).length = 1 + c.size := by rw [Fo.len_flat]; simp [Fo.size]
  unfold ckE
  rcases h with ⟨h, _⟩ | ⟨h, _⟩ | ⟨_, _, ⟨h, he⟩ | ⟨x', c', k1, k2, k3⟩⟩
  · simp [Fo.flat] at h
  · omega
  · rw [he, if_neg (fun hh => h ⟨x, c, rfl, hh⟩)]
  · have := whole_inj k1
    rw [this, if_pos k2]
    exact k3
theorem mayb_ne {ok : Nx → List Nat → Bool} {T : List Nd} (h : Mayb ok T) : T ≠ [] := by
  obtain ⟨x, c, h, -⟩ := h
  rw [h]
  simp [Fo.flat]
end Go.Proofs.YtahdnfogdnondaaGreatDoor
