import Derived.Test.YtahdnfogdnondaaGreatDoorTa
import Derived.Test.YtahdnfogdnondaaGreatDoorZc
import Derived.Test.YtahdnfogdnondaaGreatDoorZe
namespace Go.Proofs.YtahdnfogdnondaaGreatDoor
open Go.RowKit Go.Shelf
set_option linter.unusedVariables false
set_option linter.unusedSimpArgs false

set_option maxRecDepth 100000 in
set_option maxHeartbeats 4000000 in
/-- signLevel. -/
theorem signLevel_any (s : List UInt8) (w : World) : Calls Tryz.prog 66 #[.string (str s)] w fun e w' => e = .returned (.int .i64 (lvlS s : Int)) ∧ w' = w := by
  go_enter Tryz.func66, Tryz.ntmps66
  go_wp2
  all_goals go_ret
  all_goals refine ⟨?_, rfl⟩
  all_goals (simp only [str_toList] at *; unfold lvlS; simp_all)
set_option maxRecDepth 100000 in
set_option maxHeartbeats 4000000 in
/-- levelOf. -/
theorem levelOf_any (x : Nx) (a : Option Addr) (n cap : Nat) (w : World) : Calls Tryz.prog 46 #[ndV x a n cap] w fun e w' => e = .returned (.int .i64 (lvlN x : Int)) ∧ Below w.heap.size w w' := by
  have hB : ∀ o, Below w.heap.size w (w.alloc o) := fun o => belA (Below.refl _ _)
  obtain ⟨k, p, m, s⟩ := x
  have A1 := At.new w (Ndo ⟨k, p, m, s⟩ a n cap)
  obtain ⟨c0, c1, c2, c3, c4, cf⟩ := A1.nd
  clear A1
  replace c0 : (w.alloc (Ndo ⟨k, p, m, s⟩ a n cap)).cell? ⟨w.heap.size, 0, none⟩ = some (.int .u8 (k : Int)) := c0
  replace c3 : (w.alloc (Ndo ⟨k, p, m, s⟩ a n cap)).cell? ⟨w.heap.size, 3, none⟩ = some (.string (str s)) := c3
  clear c1 c2 c4 cf
  by_cases h32 : k = 32
  · subst h32
    go_enter Tryz.func46, Tryz.ntmps46
    go_wp2_with (go_at_call 66; refine (signLevel_any s _).mono ?_; rintro e w1 ⟨rfl, rfl⟩)
    go_ret
    exact ⟨rfl, hB _⟩
  have g32 : ¬ (k : Int) = 32 := by omega
  by_cases h30 : k = 30
  · subst h30
    go_enter Tryz.func46, Tryz.ntmps46
    go_wp2_with fail
    go_ret
    exact ⟨rfl, hB _⟩
  have g30 : ¬ (k : Int) = 30 := by omega
  by_cases h31 : k = 31
  · subst h31
    go_enter Tryz.func46, Tryz.ntmps46
    go_wp2_with fail
    go_ret
    exact ⟨rfl, hB _⟩
  have g31 : ¬ (k : Int) = 31 := by omega
  by_cases h28 : k = 28
  · subst h28
    go_enter Tryz.func46, Tryz.ntmps46
    go_wp2_with fail
    go_ret
    exact ⟨rfl, hB _⟩
  have g28 : ¬ (k : Int) = 28 := by omega
  by_cases h29 : k = 29
  · subst h29
    go_enter Tryz.func46, Tryz.ntmps46
    go_wp2_with fail
    go_ret
    exact ⟨rfl, hB _⟩
  have g29 : ¬ (k : Int) = 29 := by omega
  by_cases h27 : k = 27
  · subst h27
    go_enter Tryz.func46, Tryz.ntmps46
    go_wp2_with fail
    go_ret
    exact ⟨rfl, hB _⟩
  have g27 : ¬ (k : Int) = 27 := by omega
  go_enter Tryz.func46, Tryz.ntmps46
  go_wp2_with fail
  go_ret
  refine ⟨?_, hB _⟩
  unfold lvlN
  rw [if_neg h32, if_neg (by show ¬(k = 30 ∨ k = 31 ∨ k = 28 ∨ k = 29); omega), if_neg h27]
  rfl
theorem str_app (a b : List UInt8) : str a ++ str b = str (a ++ b) := by
  unfold str
  apply ByteArray.ext
  simp
theorem hidD {p : Prop} (h : p) : Hid p := h
/-- A node of the tree at a number. -/
theorem nd_at {w : World} {a : Option Addr} {T : List Nd} (h : TAt w a T) {o : Nat} {d : Nd} (hd : T[o]? = some d) : ∃ g off, a = some ⟨g, off, none⟩ ∧ NAt w g (off + o * 5) d := by
  obtain ⟨g, off, e, hr⟩ := h (by rintro rfl; simp at hd)
  exact ⟨g, off, e, hr o d hd⟩
set_option maxRecDepth 100000 in
set_option maxHeartbeats 4000000 in
/-- leveled. -/
theorem leveled_any (T : List Nd) (a : Option Addr) (cap o least : Nat) (d : Nd) (w : World) (hT : TAt w a T) (hn : T.length ≤ 20000) (hd : T[o]? = some d) (t : List UInt8) (ht : t.length ≤ 10000000) (hl : least ≤ 8)
    (hC : ∀ W, Below w.heap.size w W → Calls Tryz.prog 88 #[.slice a T.length cap, .int .i64 (o : Int)] W fun e w' => e = .returned (.string (str t)) ∧ Below W.heap.size W w') :
    Calls Tryz.prog 58 #[.slice a T.length cap, .int .i64 (o : Int), .int .i64 (least : Int)] w fun e w' => e = .returned (.string (str (brk (lvlN d.x, t) least))) ∧ Below w.heap.size w w' := by
  obtain ⟨g, off, rfl, hN⟩ := nd_at hT hd
  obtain ⟨hg, n0, n1, n2, n3, al, capl, n4, hrow⟩ := hN
  have ho : o < T.length := (List.getElem?_eq_some_iff.1 hd).1
  have o0 : (0 : Int) ≤ (o : Int) := by omega
  have o1 : (o : Int) < (T.length : Int) := by omega
  have HC := hidD hC
  clear hC
  obtain ⟨tb, htb⟩ : ∃ tb, tb = str t := ⟨_, rfl⟩
  by_cases hlt : lvlN d.x < least
  · have g1 : (lvlN d.x : Int) < (least : Int) := by omega
    have hres : str (brk (lvlN d.x, t) least) = (⟨#[40]⟩ : ByteArray) ++ tb ++ (⟨#[41]⟩ : ByteArray) := by
      unfold brk
      rw [if_pos hlt, ← str_app, ← str_app, htb]
      rfl
    rw [hres]
    rw [← htb] at HC
    obtain ⟨z, hz⟩ : ∃ z, tb.size = z := ⟨_, rfl⟩
    have z20 : z ≤ 10000000 := by rw [← hz, htb]; exact ht
    have k1 : ¬ 9223372036854775807 < 1 + z := by omega
    have k2 : ¬ 9223372036854775807 < 1 + z + 1 := by omega
    clear htb hres z20
    go_enter Tryz.func58, Tryz.ntmps58
    go_wp2_with (first
      | (go_at_call 46; refine (levelOf_any d.x al d.l.length capl _).mono ?_; rintro e w1 ⟨rfl, hb1⟩)
      | (go_at_call 88; refine (HC.out _ hb1).mono ?_; rintro e w2 ⟨rfl, hb2⟩))
    go_ret
    exact ⟨rfl, below_aft hb1 hb2⟩
  · have g1 : ¬ (lvlN d.x : Int) < (least : Int) := by omega
    go_enter Tryz.func58, Tryz.ntmps58
    go_wp2_with (first
      | (go_at_call 46; refine (levelOf_any d.x al d.l.length capl _).mono ?_; rintro e w1 ⟨rfl, hb1⟩)
      | (go_at_call 88; refine (HC.out _ hb1).mono ?_; rintro e w2 ⟨rfl, hb2⟩))
    go_ret
    refine ⟨?_, below_aft hb1 hb2⟩
    unfold brk
    rw [if_neg hlt]
    rfl
end Go.Proofs.YtahdnfogdnondaaGreatDoor
namespace Go.Proofs.YtahdnfogdnondaaGreatDoor
open Go.RowKit Go.Shelf
set_option linter.unusedVariables false
set_option linter.unusedSimpArgs false

/-- FormatInt tells the number. -/
def ItC (w0 : World) (n : Int) : Prop := ∀ W, Below w0.heap.size w0 W → Calls Tryz.prog 89 #[.int .i64 n, .int .i64 10] W fun e w' => e = .returned (.string (str (Lib.itoa n))) ∧ Below W.heap.size W w'
/-- A function of a source and a number tells this text. -/
def TxC (fn : Nat) (w0 : World) (T : List Nd) (a : Option Addr) (cap : Nat) (o : Nat) (t : List UInt8) : Prop := ∀ W, Below w0.heap.size w0 W → Calls Tryz.prog fn #[.slice a T.length cap, .int .i64 (o : Int)] W fun e w' => e = .returned (.string (str t)) ∧ Below W.heap.size W w'
/-- leveled tells this text. -/
def LvC (w0 : World) (T : List Nd) (a : Option Addr) (cap : Nat) (q : Int) (least : Nat) (t : List UInt8) : Prop := ∀ W, Below w0.heap.size w0 W → Calls Tryz.prog 58 #[.slice a T.length cap, .int .i64 q, .int .i64 (least : Int)] W fun e w' => e = .returned (.string (str t)) ∧ Below W.heap.size W w'
/-- A child: its level and text. -/
structure Kid (w0 : World) (T : List Nd) (a : Option Addr) (cap : Nat) (o : Nat) (t : Nat × List UInt8) : Prop where
  nd : ∃ d, T[o]? = some d ∧ lvlN d.x = t.1 ∧ kX d.x.k = true ∧ (d.x.k ≠ 35 → TxC 88 w0 T a cap o t.2) ∧ (d.x.k = 35 → TxC 76 w0 T a cap o t.2)
  le : t.2.length ≤ 10000000
theorem Kid.lv {w0 : World} {T : List Nd} {a : Option Addr} {cap o : Nat} {t : Nat × List UInt8} (h : Kid w0 T a cap o t) (hT : TAt w0 a T) (hn : T.length ≤ 20000) {d : Nd} (hd : T[o]? = some d) (hk : d.x.k ≠ 35) {least : Nat} (hl : least ≤ 8) : LvC w0 T a cap (o : Int) least (brk t least) := fun W hW => by
  obtain ⟨d', h1, h2, -, h3, -⟩ := h.nd
  rw [hd] at h1
  cases h1
  obtain ⟨t1, t2⟩ := t
  replace h2 : lvlN d.x = t1 := h2
  subst h2
  exact leveled_any T a cap o least d W (hT.below hW) hn hd t2 h.le hl (fun W' hW' => h3 hk W' (below_aft hW hW'))
set_option maxRecDepth 100000 in
set_option maxHeartbeats 4000000 in
/-- whole. -/
theorem whole_any {w0 : World} {T : List Nd} {a : Option Addr} {cap : Nat} {o : Nat} {t : List UInt8} (h : LvC w0 T a cap (o : Int) 1 t) : TxC 35 w0 T a cap o t := fun w hw => by
  have H := hidD h
  have HW := hidD hw
  clear h hw
  go_enter Tryz.func35, Tryz.ntmps35
  go_wp2_with (go_at_call 58; refine ((H.out _ HW.out)).mono ?_; rintro e w1 ⟨rfl, hb1⟩)
  go_ret
  exact ⟨rfl, hb1⟩
/-- What bare is handed. -/
structure BIn (w0 w : World) (T : List Nd) (a : Option Addr) (cap o : Nat) (d : Nd) : Prop where
  t : TAt w0 a T
  b : Below w0.heap.size w0 w
  n : T.length ≤ 20000
  d : T[o]? = some d
set_option maxRecDepth 100000 in
set_option maxHeartbeats 4000000 in
/-- bare of a variable. -/
theorem bare_26 {w0 w : World} {T : List Nd} {a : Option Addr} {cap o : Nat} {d : Nd} (hB : BIn w0 w T a cap o d) (cs : List (Nat × List UInt8)) (hk : d.x.k = 26) :
    Calls Tryz.prog 88 #[.slice a T.length cap, .int .i64 (o : Int)] w fun e w' => e = .returned (.string (str (bareN d.x cs))) ∧ Below w.heap.size w w' := by
  obtain ⟨g, off, rfl, hN⟩ := nd_at (hB.t.below hB.b) hB.d
  have ho : o < T.length := (List.getElem?_eq_some_iff.1 hB.d).1
  obtain ⟨⟨k, p, m, s⟩, l⟩ := d
  replace hk : k = 26 := hk
  subst hk
  obtain ⟨hg, n0, n1, n2, n3, al, capl, n4, hrow⟩ := hN
  have o0 : (0 : Int) ≤ (o : Int) := by omega
  have o1 : (o : Int) < (T.length : Int) := by omega
  go_enter Tryz.func88, Tryz.ntmps88
  go_wp2_with fail
  go_ret
  exact ⟨rfl, belA (Below.refl _ _)⟩
end Go.Proofs.YtahdnfogdnondaaGreatDoor
