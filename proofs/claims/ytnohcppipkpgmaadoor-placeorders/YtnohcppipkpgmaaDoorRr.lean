import Derived.Test.YtnohcppipkpgmaaDoorRq
namespace Go.Proofs.YtnohcppipkpgmaaDoor
open Go.RowKit Go.Shelf
set_option linter.unusedVariables false
set_option linter.unusedSimpArgs false

theorem chainsP_ex {n : Nat} : ∀ (fs : List Ty), (∀ t ∈ fs, PlainT n t) → ∃ cs : List Ch, fs = cs.map Ch.ty ∧ ∀ c ∈ cs, c.ok n ∧ c.depth ≤ 48
  | [], _ => ⟨[], rfl, fun c h => by simp at h⟩
  | t :: fs, h => by
    obtain ⟨cs, rfl, h2⟩ := chainsP_ex fs (fun u hu => h u (List.mem_cons_of_mem _ hu))
    obtain ⟨c, rfl, h3, h4, -⟩ := h t (List.mem_cons_self ..)
    refine ⟨c :: cs, rfl, fun d hd => ?_⟩
    rcases List.mem_cons.1 hd with rfl | hd
    · exact ⟨h3, h4⟩
    · exact h2 d hd
theorem chainsM_ex {n : Nat} : ∀ (fs : List Ty), (∀ t ∈ fs, mayB n 48 t = true) → ∃ cs : List Ch, fs = cs.map Ch.ty ∧ ∀ c ∈ cs, c.ok n ∧ c.depth ≤ 48
  | [], _ => ⟨[], rfl, fun c h => by simp at h⟩
  | t :: fs, h => by
    obtain ⟨cs, rfl, h2⟩ := chainsM_ex fs (fun u hu => h u (List.mem_cons_of_mem _ hu))
    obtain ⟨c, rfl, h3, h4⟩ := mayB_ch (h t (List.mem_cons_self ..))
    refine ⟨c :: cs, rfl, fun d hd => ?_⟩
    rcases List.mem_cons.1 hd with rfl | hd
    · exact ⟨h3, h4⟩
    · exact h2 d hd
theorem SC.bel {w W : World} {a : Option Addr} {n cap : Nat} {so : Bool} (h : SC w a n cap so) (hW : Below w.heap.size w W) : SC W a n cap so := ⟨fun W' hW' => h.call W' (below_aft hW hW'), h.le⟩
/-- May structs and locals be? -/
def mayL (n : Nat) (so : Bool) (ts : List Ty) : Bool := so && ts.all (mayB n 48)
theorem mayL_iff {n : Nat} {so : Bool} {ts : List Ty} : mayL n so ts = true ↔ so = true ∧ ∀ t ∈ ts, mayB n 48 t = true := by
  unfold mayL
  rw [Bool.and_eq_true, List.all_eq_true]
/-- Structs and locals, whatever they are. -/
theorem cx_of {w : World} {a la : Option Addr} {n cap ln lcap : Nat} {ss : List (List Ty)} {ts : List Ty} (h : StAt w a n cap ss) (hl : LcAt w la ln lcap ts) {b1 b2 b3 : Nat → Bool} (hb : Flt ss b1 b2 b3) :
    ∃ fc cl, Cx w a la n cap ln lcap (mayL n (decide ((stRes n b1 b2 b3).2 = 0)) ts) fc cl ∧ (mayL n (decide ((stRes n b1 b2 b3).2 = 0)) ts = true → ts = cl.map Ch.ty ∧ (∀ c ∈ cl, c.depth ≤ 48) ∧ (∀ j, j < n → fld ss j = (fc j).map Ch.ty ∧ ∀ c ∈ fc j, c.depth ≤ 48)) := by
  have hS := sc_of h hb
  obtain ⟨ok, hok⟩ : ∃ ok, ok = mayL n (decide ((stRes n b1 b2 b3).2 = 0)) ts := ⟨_, rfl⟩
  rw [← hok]
  have hall : ∀ W, Below w.heap.size w W → Calls Tryd.prog 56 #[.slice a n cap, .slice la ln lcap] W fun e w' => e = .returned (.bool ok) ∧ Below W.heap.size W w' := fun W hW => all_any (hS.bel hW) (hl.bel hW) ok (by rw [hok]; exact mayL_iff)
  cases hk : ok with
  | false =>
    refine ⟨fun _ => [], [], ⟨fun W hW => by have := hall W hW; rw [hk] at this; exact this, (fun e => by cases e), (fun e => by cases e)⟩, (fun e => by cases e)⟩
  | true =>
    rw [hk] at hok
    obtain ⟨h1, h2⟩ := mayL_iff.1 hok.symm
    rw [decide_eq_true_iff] at h1
    obtain ⟨g1, g2, g3, g4, -⟩ := stRes_ok h1
    have hlen := h.len
    have hF : Fine ss := hb.fine (fun j hj => g2 j (by omega))
    have hfc : ∀ j, ∃ cs : List Ch, j < n → fld ss j = cs.map Ch.ty ∧ cs.length ≤ 8 ∧ ∀ c ∈ cs, c.ok n ∧ c.depth ≤ 48 := fun j => by
      by_cases hj : j < n
      · obtain ⟨fs, hfs⟩ : ∃ fs, ss[j]? = some fs := ⟨_, List.getElem?_eq_getElem (by omega)⟩
        obtain ⟨k1, k2, k3⟩ := hF j fs hfs
        rw [← hlen] at k3
        obtain ⟨cs, e1, e2⟩ := chainsP_ex fs k3
        refine ⟨cs, fun _ => ⟨by rw [fld_of hfs]; exact e1, ?_, e2⟩⟩
        rw [e1, List.length_map] at k2
        exact k2
      · exact ⟨[], fun h => absurd h hj⟩
    obtain ⟨fc, hfc⟩ : ∃ fc : Nat → List Ch, ∀ j, j < n → fld ss j = (fc j).map Ch.ty ∧ (fc j).length ≤ 8 ∧ ∀ c ∈ fc j, c.ok n ∧ c.depth ≤ 48 := ⟨fun j => Classical.choose (hfc j), fun j => Classical.choose_spec (hfc j)⟩
    obtain ⟨cl, e1, e2⟩ := chainsM_ex ts h2
    refine ⟨fc, cl, ⟨fun W hW => by have := hall W hW; rw [hk] at this; exact this, fun _ => ⟨fun j hj => ?_, fun j hj c hc => ((hfc j hj).2.2 c hc).1, by omega, fun j hj => (hfc j hj).2.1⟩, fun _ => ⟨by rw [← e1]; exact hl, fun c hc => (e2 c hc).1⟩⟩, fun _ => ⟨e1, fun c hc => (e2 c hc).2, fun j hj => ⟨(hfc j hj).1, fun c hc => ((hfc j hj).2.2 c hc).2⟩⟩⟩
    obtain ⟨fs, hfs⟩ : ∃ fs, ss[j]? = some fs := ⟨_, List.getElem?_eq_getElem (by omega)⟩
    obtain ⟨g, off, fa, fcap, e3, e4, e5, e6⟩ := h.one hfs
    have e7 := (hfc j hj).1
    rw [fld_of hfs] at e7
    refine ⟨g, off, fa, fcap, e3, e4, ?_, by rw [← e7]; exact e6⟩
    rw [e7, List.length_map] at e5
    exact e5
theorem wayC_deep {n : Nat} {fc : Nat → List Ch} {w : World} {a : Option Addr} {cap : Nat} (h : SF w a n cap fc) (hf : ∀ j, j < n → ∀ c ∈ fc j, c.depth ≤ 48) : ∀ (p : List Int) (c d : Ch) (gs : List Int), c.ok n → c.depth ≤ 48 → wayC fc c p = some (d, gs) → d.depth ≤ 48
  | [], c, d, gs, _, hc, hw => by
    cases hw
    exact hc
  | s :: p, c, d, gs, ho, hc, hw => by
    rw [wayC, Option.bind_eq_some_iff] at hw
    obtain ⟨⟨c1, g1⟩, h1, h2⟩ := hw
    rw [Option.map_eq_some_iff] at h2
    obtain ⟨⟨d', gs'⟩, h3, h4⟩ := h2
    cases h4
    refine wayC_deep h hf p c1 _ _ (stepC_ok h ho h1).1 ?_ h3
    cases c with
    | leaf k sn =>
      rw [stepC_leaf] at h1
      split at h1
      · rename_i hk
        rw [Option.map_eq_some_iff] at h1
        obtain ⟨x, hx, e⟩ := h1
        cases e
        have hk5 : (k = 1 ∨ k = 2) ∧ sn = 0 ∨ k = 5 ∧ 0 ≤ sn ∧ sn < n := ho
        exact hf sn.toNat (by omega) _ (List.mem_of_getElem? hx)
      · cases h1
    | box c =>
      rw [stepC_box] at h1
      split at h1
      · cases h1
        simp [Ch.depth] at hc
        omega
      · cases h1
    | ref m r c =>
      rw [stepC_ref] at h1
      split at h1
      · cases h1
        simp [Ch.depth] at hc
        omega
      · cases h1
end Go.Proofs.YtnohcppipkpgmaaDoor
