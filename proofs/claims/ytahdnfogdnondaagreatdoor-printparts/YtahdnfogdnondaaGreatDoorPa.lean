namespace Go.Proofs.YtahdnfogdnondaaGreatDoor
set_option linter.unusedVariables false
set_option linter.unusedSimpArgs false

/-- What a node says of itself: its kind, its place, its number, its text. -/
structure Nx where
  k : Nat
  p : Int
  n : Int
  s : List UInt8
/-- A node: what it says, and its children. -/
structure Nd where
  x : Nx
  l : List Int
/-- Trees, one beside the other: the first one's root, what is below it, the others. -/
inductive Fo where
  | nil : Fo
  | cons (x : Nx) (c r : Fo) : Fo
namespace Fo
def size : Fo → Nat
  | nil => 0
  | cons _ c r => 1 + size c + size r
/-- The numbers of the roots, if the first one's is that. -/
def starts : Nat → Fo → List Int
  | _, nil => []
  | o, cons _ c r => (o : Int) :: starts (o + 1 + size c) r
/-- The nodes, as one meets them, if the first one's number is that. -/
def flat : Nat → Fo → List Nd
  | _, nil => []
  | o, cons x c r => ⟨x, starts (o + 1) c⟩ :: (flat (o + 1) c ++ flat (o + 1 + size c) r)
def kinds : Fo → List Nat
  | nil => []
  | cons x _ r => x.k :: kinds r
def deep : Fo → Nat
  | nil => 0
  | cons _ c r => max (1 + deep c) (deep r)
def all (ok : Nx → List Nat → Bool) : Fo → Bool
  | nil => true
  | cons x c r => ok x (kinds c) && all ok c && all ok r
/-- Of each node how many are above it. -/
def lv : Nat → Fo → List Nat
  | _, nil => []
  | d, cons _ c r => d :: (lv (d + 1) c ++ lv d r)
/-- Of each node its parent. -/
def ups : Int → Nat → Fo → List Int
  | _, _, nil => []
  | p, o, cons _ c r => p :: (ups (o : Int) (o + 1) c ++ ups p (o + 1 + size c) r)
def app : Fo → Fo → Fo
  | nil, g => g
  | cons x c r, g => cons x c (app r g)
/-- The node of that number, and what is below it. -/
def sub : Fo → Nat → Option (Nx × Fo)
  | nil, _ => none
  | cons x c r, 0 => some (x, c)
  | cons x c r, n + 1 => if n < size c then sub c n else sub r (n - size c)
theorem len_flat (f : Fo) : ∀ o, (flat o f).length = size f := by
  induction f with
  | nil => intro o; rfl
  | cons x c r ihc ihr => intro o; simp [flat, size, ihc, ihr]; omega
theorem len_lv (f : Fo) : ∀ d, (lv d f).length = size f := by
  induction f with
  | nil => intro o; rfl
  | cons x c r ihc ihr => intro o; simp [lv, size, ihc, ihr]; omega
theorem len_ups (f : Fo) : ∀ p o, (ups p o f).length = size f := by
  induction f with
  | nil => intro p o; rfl
  | cons x c r ihc ihr => intro p o; simp [ups, size, ihc, ihr]; omega
theorem len_starts (f : Fo) : ∀ o, (starts o f).length = (kinds f).length := by
  induction f with
  | nil => intro o; rfl
  | cons x c r ihc ihr => intro o; simp [starts, kinds, ihr]
theorem kinds_le (f : Fo) : (kinds f).length ≤ size f := by
  induction f with
  | nil => simp [kinds, size]
  | cons x c r ihc ihr => simp [kinds, size]; omega
theorem size_app (f g : Fo) : size (app f g) = size f + size g := by
  induction f with
  | nil => simp [app, size]
  | cons x c r ihc ihr => simp [app, size, ihr]; omega
theorem kinds_app (f g : Fo) : kinds (app f g) = kinds f ++ kinds g := by
  induction f with
  | nil => simp [app, kinds]
  | cons x c r ihc ihr => simp [app, kinds, ihr]
theorem starts_app (f g : Fo) : ∀ o, starts o (app f g) = starts o f ++ starts (o + size f) g := by
  induction f with
  | nil => intro o; simp [app, starts, size]
  | cons x c r ihc ihr => intro o; simp [app, starts, size, ihr]; congr 1; omega
theorem flat_app (f g : Fo) : ∀ o, flat o (app f g) = flat o f ++ flat (o + size f) g := by
  induction f with
  | nil => intro o; simp [app, flat, size]
  | cons x c r ihc ihr => intro o; simp only [app, flat, size, ihr, List.cons_append, List.append_assoc]; congr 4; omega
theorem deep_app (f g : Fo) : deep (app f g) = max (deep f) (deep g) := by
  induction f with
  | nil => simp [app, deep]
  | cons x c r ihc ihr => simp [app, deep, ihr]
theorem all_app (ok : Nx → List Nat → Bool) (f g : Fo) : all ok (app f g) = (all ok f && all ok g) := by
  induction f with
  | nil => simp [app, all]
  | cons x c r ihc ihr => simp [app, all, ihr, Bool.and_assoc]
/-- Numbers moved by so many. -/
def mv (k : Int) (d : Nd) : Nd := ⟨d.x, d.l.map (· + k)⟩
theorem starts_mv (f : Fo) : ∀ o k, starts (o + k) f = (starts o f).map (· + (k : Int)) := by
  induction f with
  | nil => intro o k; rfl
  | cons x c r ihc ihr =>
    intro o k
    have e : o + k + 1 + size c = o + 1 + size c + k := by omega
    simp [starts, e, ihr]
theorem flat_mv (f : Fo) : ∀ o k, flat (o + k) f = (flat o f).map (mv k) := by
  induction f with
  | nil => intro o k; rfl
  | cons x c r ihc ihr =>
    intro o k
    have e : o + k + 1 + size c = o + 1 + size c + k := by omega
    have e1 : o + k + 1 = o + 1 + k := by omega
    show (⟨x, starts (o + k + 1) c⟩ :: (flat (o + k + 1) c ++ flat (o + k + 1 + size c) r) : List Nd) = List.map (mv k) (⟨x, starts (o + 1) c⟩ :: (flat (o + 1) c ++ flat (o + 1 + size c) r))
    rw [e, e1, ihc (o + 1) k, ihr (o + 1 + size c) k, starts_mv c (o + 1) k, List.map_cons, List.map_append]
    rfl
/-- The kinds of the roots are told by their numbers. -/
theorem starts_bound (f : Fo) : ∀ o, ∀ c ∈ starts o f, (o : Int) ≤ c ∧ c < o + size f := by
  induction f with
  | nil => intro o c h; simp [starts] at h
  | cons x c r ihc ihr =>
    intro o y h
    simp only [starts, List.mem_cons] at h
    simp only [size]
    rcases h with rfl | h
    · omega
    · have := ihr _ y h; omega
end Fo
end Go.Proofs.YtahdnfogdnondaaGreatDoor
