import Derived.Test.YtpnamkpoapcgeaaDoorA
import Derived.Test.YtpnamkpoapcgeaaDoorB
import Derived.Test.YtpnamkpoapcgeaaDoorC
namespace Go.Proofs.YtpnamkpoapcgeaaDoor
set_option linter.unusedVariables false
set_option linter.unusedSimpArgs false

/-- How many bytes a text begins with that may be there, at most 32. -/
def rowLen (p : Nat → Bool) (l : List UInt8) : Nat := ((l.take 32).takeWhile (fun c => p c.toNat)).length
theorem takeWhile_len {α : Type} (p : α → Bool) : ∀ (l : List α) (n : Nat), n ≤ l.length → (∀ j (h : j < l.length), j < n → p l[j] = true) → (∀ h : n < l.length, p l[n] = false) → (l.takeWhile p).length = n
  | [], n, h, _, _ => by simp at h; simp [h]
  | a :: r, 0, _, _, h => by
    have := h (by simp)
    simp at this
    simp [List.takeWhile, this]
  | a :: r, n + 1, hn, hy, hz => by
    have h0 := hy 0 (by simp) (by omega)
    simp at h0
    have := takeWhile_len p r n (by simpa using hn) (fun j h hj => by have := hy (j + 1) (by simpa using h) (by omega); simpa using this) (fun h => by have := hz (by simpa using h); simpa using this)
    simp [List.takeWhile, h0, this]
theorem rowLen_eq {p : Nat → Bool} {l : List UInt8} {n : Nat} (h1 : n ≤ l.length) (h2 : n ≤ 32) (hy : ∀ j (h : j < l.length), j < n → p l[j].toNat = true) (hz : n = l.length ∨ n = 32 ∨ ∃ h : n < l.length, p l[n].toNat = false) : rowLen p l = n := by
  unfold rowLen
  apply takeWhile_len
  · simp; omega
  · intro j h hj
    rw [List.getElem_take]
    simp at h
    exact hy j (by omega) hj
  · intro h
    simp at h
    rw [List.getElem_take]
    rcases hz with hz | hz | ⟨h', hz⟩
    · omega
    · omega
    · exact hz
theorem rowLen_le (p : Nat → Bool) (l : List UInt8) : rowLen p l ≤ 32 ∧ rowLen p l ≤ l.length := by
  unfold rowLen
  have h := (List.takeWhile_sublist (fun c : UInt8 => p c.toNat) (l := l.take 32)).length_le
  rw [List.length_take] at h
  omega
/-- What is read of a text: the kind, the number, the text, and how far. -/
structure Rd where
  k : Nat
  n : Nat
  s : List UInt8
  far : Nat
/-- Is a text one of the words? -/
def isWl (l : List UInt8) : Bool := kw.any (l == ·)
theorem isW_str (l : List UInt8) : isW (str l) = isWl l := by unfold isW isWl; rw [str_list]
/-- Does a byte of a row stand at a place? -/
def rowAt (l : List UInt8) (n : Nat) : Bool := (l.drop n).head?.any (fun c => isR c.toNat)
theorem rowAt_lt {l : List UInt8} {n : Nat} (h : n < l.length) : rowAt l n = isR l[n].toNat := by
  unfold rowAt; rw [List.head?_drop, List.getElem?_eq_getElem h]; rfl
theorem rowAt_ge {l : List UInt8} {n : Nat} (h : l.length ≤ n) : rowAt l n = false := by
  unfold rowAt; rw [List.head?_drop, List.getElem?_eq_none h]; rfl
def rdRow (k : Nat) (p : Nat → Bool) (l : List UInt8) : Rd :=
  if rowAt l (rowLen p l) then ⟨0, 0, [], rowLen p l⟩ else ⟨if isWl (l.take (rowLen p l)) then 1 else k, 0, l.take (rowLen p l), rowLen p l⟩
def rdSign (l : List UInt8) : Rd := if (sg l).isEmpty then ⟨0, 0, [], if l.head? = some 124 then 1 else 0⟩ else ⟨6, 0, sg l, (sg l).length⟩
/-- The digits from a place on: the number, and how far; none: it goes on no further there. -/
def intGo : Nat → Nat → List UInt8 → Rd
  | v, n, [] => ⟨5, v, [], n⟩
  | v, n, c :: r => if isR c.toNat then (if 0 < n ∧ v = 0 then ⟨0, 0, [], n⟩ else match wdig v c.toNat with
    | none => ⟨0, 0, [], n⟩
    | some v' => intGo v' (n + 1) r) else ⟨5, v, [], n⟩
def rdLife (l : List UInt8) : Rd := match l with
  | [] => ⟨0, 0, [], 1⟩
  | c :: r => if isL c.toNat then (if (rdRow 2 isN l).k = 2 then ⟨4, 0, (rdRow 2 isN l).s, 1 + (rdRow 2 isN l).far⟩ else ⟨0, 0, [], 1 + (rdRow 2 isN l).far⟩) else ⟨0, 0, [], 1⟩
/-- The token that a text begins with. -/
def rd (l : List UInt8) : Rd := match l with
  | [] => ⟨0, 0, [], 0⟩
  | c :: r => if isL c.toNat then rdRow 2 isN l else if isG c.toNat then rdRow 3 isR l else if isD c.toNat then intGo 0 0 l else if c.toNat = 39 then rdLife r else rdSign l
end Go.Proofs.YtpnamkpoapcgeaaDoor
