import Derived.Test.YtkidcmglidnaoaaMG
namespace Go.Proofs.Ytkidcmglidnaoaa
open Go.RowKit Go.Shelf
set_option linter.unusedVariables false
set_option linter.unusedSimpArgs false
theorem OutK.trans {lo hi : Nat} {w W V : World} (h : OutK lo hi w W) (k : OutK lo hi W V) : OutK lo hi w V := ⟨k.os.trans h.os, k.tape.trans h.tape, k.output.trans h.output, Nat.le_trans h.size k.size, fun b hb hl => (k.same b (Nat.lt_of_lt_of_le hb h.size) hl).trans (h.same b hb hl)⟩
theorem OutK.below {lo hi : Nat} {w W : World} (h : Below w.heap.size w W) : OutK lo hi w W := ⟨h.os, h.tape, h.output, h.size, fun b hb _ => h.block b hb⟩
/-- A tree that stands apart from these blocks. -/
def TApt (lo hi : Nat) (w : World) (a : Option Addr) (T : List Nd) : Prop := ∀ W, OutK lo hi w W → TAt W a T
theorem TApt.on {lo hi : Nat} {w W : World} {a : Option Addr} {T : List Nd} (h : TApt lo hi w a T) (k : OutK lo hi w W) : TApt lo hi W a T := fun V hV => h V (k.trans hV)
theorem OutK.at_ {lo hi : Nat} {w W : World} {b : Nat} {o : Obj} (h : OutK lo hi w W) (ha : At w b o) (hb : b < lo ∨ hi ≤ b) : At W b o := (h.same b ha.lt hb).trans ha
theorem OutK.low {lo hi : Nat} {w W : World} (h : OutK lo hi w W) {B : Nat} (hB : B ≤ w.heap.size) (hl : B ≤ lo) : Below B w W := ⟨h.os, h.tape, h.output, h.size, fun b hb => h.same b (by omega) (.inl (by omega))⟩
/-- What stood before these blocks stands apart from them. -/
theorem tapt_low {lo hi : Nat} {w0 w : World} {a : Option Addr} {T : List Nd} (hT : TAt w0 a T) (hb : Below w0.heap.size w0 w) (hl : w0.heap.size ≤ lo) : TApt lo hi w a T := fun W hW => hT.below (hb.trans (hW.low hb.size hl))
/-- A tree made behind these blocks stands apart from them. -/
theorem tapt_oc {lo hi lo2 hi2 g n : Nat} {w : World} {T : List Nd} {cur : Array Value} (h : OC w lo2 hi2 g n T n cur) (hn : T.length = n) (h1 : hi ≤ lo2) (h2 : hi2 ≤ w.heap.size) : TApt lo hi w (some ⟨g, 0, none⟩) T := fun W hW => by
  refine OC.tat (h.range (W' := W) fun b hb1 hb2 => ?_) hn
  exact hW.same b (by omega) (.inr (by omega))
/-- What is told of two trees of the same nodes. -/
theorem req_true (T : List Nd) (a b : Option Addr) (ca cb : Nat) (w : World) (hT : TAt w a T) (hU : TAt w b T) (hS : Sm T) :
    Calls Try.prog 19 #[trV a T.length ca, trV b T.length cb, .bool true] w fun e w' => e = .returned (.bool true) ∧ Below w.heap.size w w' :=
  req_bool T T a b ca cb true w hT hU hS hS true ⟨fun _ => (reqP_eq T T).2 rfl, fun _ => rfl⟩
set_option maxRecDepth 100000 in
set_option maxHeartbeats 4000000 in
theorem held_gen (T : List Nd) (hS : Sm T) (lo hi : Nat) (a b c : Option Addr) (ca cb cc : Nat) (w : World) (hT : TAt w a T) (h2 : TApt lo hi w b T) (h3 : TApt lo hi w c T) (hhi : hi ≤ w.heap.size)
    (HSP : Hid (∀ W, Below w.heap.size w W → Calls Try.prog 46 #[trV a T.length ca] W fun e w' => e = .returned (.tuple #[]) ∧ OutK lo hi W w')) :
    Calls Try.prog 20 #[trV a T.length ca, trV b T.length cb, trV c T.length cc] w fun e w' => e = .returned (.bool true) ∧ OutK lo hi w w' := by
  obtain ⟨W3, hW3⟩ : ∃ W3, W3 = ((w.alloc (Tro a T.length ca)).alloc (Tro b T.length cb)).alloc (Tro c T.length cc) := ⟨_, rfl⟩
  have B3 : Below w.heap.size w W3 := by rw [hW3]; exact belA (belA (belA (Below.refl _ _)))
  have A1 : At W3 w.heap.size (Tro a T.length ca) := by rw [hW3]; exact At.alloc (at_fst _ _ _) _
  have A2 : At W3 (w.heap.size + 1) (Tro b T.length cb) := by rw [hW3]; exact At.alloc (at_snd _ _ _) _
  have A3 : At W3 (w.heap.size + 2) (Tro c T.length cc) := by
    rw [hW3]
    have := At.new ((w.alloc (Tro a T.length ca)).alloc (Tro b T.length cb)) (Tro c T.length cc)
    simpa only [World.size_alloc] using this
  obtain ⟨c0, f0⟩ := A1.one
  obtain ⟨d0, g0⟩ := A2.one
  obtain ⟨e0, k0⟩ := A3.one
  have HW3 : Hid (((w.alloc (.cells #[.slice a T.length ca] 24)).alloc (.cells #[.slice b T.length cb] 24)).alloc (.cells #[.slice c T.length cc] 24) = W3) := hidE hW3.symm
  have HA := hidE (And.intro A1 (And.intro A2 A3))
  have HE1 : Hid (∀ W, Below w.heap.size w W → Calls Try.prog 19 #[trV a T.length ca, trV c T.length cc, .bool true] W fun e w' => e = .returned (.bool true) ∧ Below W.heap.size W w') := hidE fun W hW => req_true T a c ca cc W (hT.below hW) (h3 W (OutK.below hW)) hS
  have HE2 : Hid (∀ W, OutK lo hi w W → Calls Try.prog 19 #[trV b T.length cb, trV c T.length cc, .bool true] W fun e w' => e = .returned (.bool true) ∧ Below W.heap.size W w') := hidE fun W hW => req_true T b c cb cc W (h2 W hW) (h3 W hW) hS
  clear hW3 A1 A2 A3 hT h2 h3 hS
  have st1 : Stg' 1 := .mk 1
  go_enter Try.func20, Try.ntmps20
  (first | go_wp2_with fail | skip)
  try rw [HW3.out]
  go_wp2_with (first
    | (have _s := st1; clear st1 _s; go_at_call 19; refine (HE1.out _ B3).mono ?_; rintro e w1 ⟨rfl, hb1⟩; have st2 : Stg' 2 := .mk 2; obtain ⟨c1, f1⟩ := (At.below HA.out.1 hb1).one)
    | (go_at_call 46; refine (HSP.out _ (below_aft B3 hb1)).mono ?_; rintro e w2 ⟨rfl, hk2⟩; obtain ⟨d2, g2⟩ := (hk2.at_ (At.below HA.out.2.1 hb1) (by omega)).one; obtain ⟨e2, k2⟩ := (hk2.at_ (At.below HA.out.2.2 hb1) (by omega)).one)
    | (have _s := st2; clear st2 _s; go_at_call 19; refine (HE2.out _ ((OutK.below (below_aft B3 hb1)).trans hk2)).mono ?_; rintro e w3 ⟨rfl, hb3⟩))
  go_ret
  exact ⟨rfl, ((OutK.below (below_aft B3 hb1)).trans hk2).trans (OutK.below hb3)⟩
/-- A tree that was made, another one of the same nodes and the reference's: each is held to the last, the first one written over between. -/
theorem held_yes (T : List Nd) (hS : Sm T) (lo hi g : Nat) (cur : Array Value) (b c : Option Addr) (ca cb cc : Nat) (w : World) (hO : OC w lo hi g T.length T T.length cur) (h2 : TApt lo hi w b T) (h3 : TApt lo hi w c T) (hhi : hi ≤ w.heap.size) :
    Calls Try.prog 20 #[trV (some ⟨g, 0, none⟩) T.length ca, trV b T.length cb, trV c T.length cc] w fun e w' => e = .returned (.bool true) ∧ OutK lo hi w w' := by
  refine held_gen T hS lo hi _ b c ca cb cc w (hO.tat rfl) h2 h3 hhi (hidE fun W hW => ?_)
  have hsz := hW.size
  exact spoil_any T lo hi g ca W (hO.spi.keep ⟨hW.size, fun b hb => hW.block b (by omega)⟩) (by omega) hS.n (fun d hd => (hS.d d hd).l)
theorem sm_nil : Sm [] := ⟨Nat.zero_le _, fun d h => by simp at h⟩
theorem tat_nil (w : World) (a : Option Addr) : TAt w a [] := fun h => absurd rfl h
set_option maxRecDepth 100000 in
set_option maxHeartbeats 4000000 in
theorem spoil_nil (a : Option Addr) (cap lo hi : Nat) (w : World) :
    Calls Try.prog 46 #[trV a 0 cap] w fun e w' => e = .returned (.tuple #[]) ∧ OutK lo hi w w' := by
  have A1 := At.new w (Tro a 0 cap)
  obtain ⟨c0, f0⟩ := A1.one
  have hO : OutK lo hi w (w.alloc (Tro a 0 cap)) := (OutK.refl lo hi w).alloc _
  go_enter Try.func46, Try.ntmps46
  go_wp2_with fail
  go_loopw [2] (fun v W => v = .int .i64 0 ∧ W = w.alloc (Tro a 0 cap)) (fun v _ => 0)
  case atStart => exact ⟨rfl, rfl⟩
  case round =>
    obtain ⟨rfl, hW⟩ := hrel
    subst hW
    go_wp2_with fail
    go_end0
    exact ⟨rfl, hO⟩
theorem held_nil (a b c : Option Addr) (ca cb cc lo hi : Nat) (w : World) (hhi : hi ≤ w.heap.size) :
    Calls Try.prog 20 #[trV a 0 ca, trV b 0 cb, trV c 0 cc] w fun e w' => e = .returned (.bool true) ∧ OutK lo hi w w' :=
  held_gen [] sm_nil lo hi a b c ca cb cc w (tat_nil _ _) (fun _ _ => tat_nil _ _) (fun _ _ => tat_nil _ _) hhi (hidE fun W _ => spoil_nil a ca lo hi W)
end Go.Proofs.Ytkidcmglidnaoaa
