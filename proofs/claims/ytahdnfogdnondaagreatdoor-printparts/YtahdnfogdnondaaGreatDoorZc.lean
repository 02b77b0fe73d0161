import Derived.Test.YtahdnfogdnondaaGreatDoorY
namespace Go.Proofs.YtahdnfogdnondaaGreatDoor
open Go.RowKit
set_option linter.unusedVariables false
set_option linter.unusedSimpArgs false

theorem below_drewN {B : Nat} {w W : World} (h : Below B w W) (n : Nat) : Below B w (W.drewN n) := h.trans ⟨rfl, rfl, rfl, Nat.le_refl _, fun _ _ => rfl⟩
theorem below_drew {B : Nat} {w W : World} (h : Below B w W) : Below B w W.drew := h.trans ⟨rfl, rfl, rfl, Nat.le_refl _, fun _ _ => rfl⟩
theorem toList_loop (b : ByteArray) : ∀ (k i : Nat) (r : List UInt8), b.size - i = k → ByteArray.toList.loop b i r = r.reverse ++ b.data.toList.drop i := by
  intro k
  induction k with
  | zero =>
    intro i r h
    rw [ByteArray.toList.loop]
    rw [if_neg (by omega), List.drop_of_length_le (by simp; omega), List.append_nil]
  | succ k ih =>
    intro i r h
    rw [ByteArray.toList.loop]
    rw [if_pos (by omega), ih (i + 1) _ (by omega)]
    have hi : i < b.data.toList.length := by simp; omega
    rw [List.drop_eq_getElem_cons hi]
    simp [ByteArray.get!]
    rw [getElem!_pos]
theorem toList_data (b : ByteArray) : b.toList = b.data.toList := by
  rw [ByteArray.toList, toList_loop b _ 0 [] rfl]; simp
theorem str_toList (s : List UInt8) : (str s).toList = s := by rw [toList_data]; rfl
theorem str_inj {s t : List UInt8} (h : str s = str t) : s = t := by rw [← str_toList s, h, str_toList]
/-- Are two nodes the same, wherever they stand? -/
def alB (c d : Nd) : Bool := (c.x.k == d.x.k) && (c.x.n == d.x.n) && decide (c.x.s = d.x.s) && decide (c.l = d.l)
/-- Are two rows of nodes the same, wherever they stand? -/
def sameB : List Nd → List Nd → Bool
  | [], [] => true
  | c :: T, d :: U => alB c d && sameB T U
  | _, _ => false
theorem sameB_iff : ∀ (T U : List Nd), sameB T U = true ↔ T.length = U.length ∧ ∀ (i : Nat) (c d : Nd), T[i]? = some c → U[i]? = some d → alB c d = true
  | [], [] => by simp [sameB]
  | [], d :: U => by simp [sameB]
  | c :: T, [] => by simp [sameB]
  | c :: T, d :: U => by
    simp only [sameB, Bool.and_eq_true, sameB_iff T U, List.length_cons]
    constructor
    · rintro ⟨h1, h2, h3⟩
      refine ⟨by omega, fun i x y hx hy => ?_⟩
      cases i with
      | zero => simp at hx hy; rw [← hx, ← hy]; exact h1
      | succ i => exact h3 i x y (by simpa using hx) (by simpa using hy)
    · rintro ⟨h1, h2⟩
      exact ⟨h2 0 c d rfl rfl, by omega, fun i x y hx hy => h2 (i + 1) x y (by simpa using hx) (by simpa using hy)⟩
theorem may_yes {T : List Nd} {a : Option Addr} {cap : Nat} {w : World} (hT : TAt w a T) (hS : Sm T) (h : Mayb okP T) :
    Calls Tryz.prog 24 #[trV a T.length cap] w fun e w' => e = .returned (.bool true) ∧ Below w.heap.size w w' :=
  (may_any T a cap w hT hS).mono fun e w' ⟨⟨b, h1, h2⟩, hb⟩ => ⟨by rw [h1, h2.2 h], hb⟩
theorem may_no {T : List Nd} {a : Option Addr} {cap : Nat} {w : World} (hT : TAt w a T) (hS : Sm T) (h : ¬ Mayb okP T) :
    Calls Tryz.prog 24 #[trV a T.length cap] w fun e w' => e = .returned (.bool false) ∧ Below w.heap.size w w' :=
  (may_any T a cap w hT hS).mono fun e w' ⟨⟨b, h1, h2⟩, hb⟩ => ⟨by
    cases b with
    | true => exact absurd (h2.1 rfl) h
    | false => exact h1, hb⟩
end Go.Proofs.YtahdnfogdnondaaGreatDoor
