import Derived.Test.YtkidcmglidnaoaaZr
import Derived.OrdersIn
import Derived.Deep.Quiet
import Derived.TacticsIn
import Derived.BigQuiet
namespace Go.Proofs.Ytkidcmglidnaoaa
open Go.RowKit Go.Shelf
set_option linter.unusedVariables false
set_option linter.unusedSimpArgs false

/-- An operation that yields a value, or fails, and calls nobody. -/
def plainO : Op → Bool
  | .move _ => true
  | .assign _ => true
  | .load _ _ => true
  | .binOp _ _ _ _ _ => true
  | .unOp _ _ _ => true
  | .indexAddr _ _ _ => true
  | .fieldAddr _ _ _ => true
  | .pick _ _ _ => true
  | .call c => match c.callee with | .builtin .len => true | _ => false
  | _ => false
theorem plain_value {o : Oper} (h : plainO o.op = true) (P : Program) (w : World) (ρ : Operand → Value) : (∃ v w', (execOp ρ o).run P w = .ok (.value v) w') ∨ ∃ x w', (execOp ρ o).run P w = .halt x w' := by
  have key : ∀ (s : Sem Value), (∃ v w', (do pure (Next.value (← s)) : Sem Next).run P w = .ok (.value v) w') ∨ ∃ x w', (do pure (Next.value (← s)) : Sem Next).run P w = .halt x w' := by
    intro s
    cases hs : s.run P w with
    | ok v w' => left; exact ⟨v, w', by simp [go_sem, hs]⟩
    | halt x w' => right; exact ⟨x, w', by simp [go_sem, hs]⟩
  cases ho : o.op <;> rw [ho] at h <;> simp only [plainO, Bool.false_eq_true] at h <;> unfold execOp <;> simp only [ho]
  case move x => exact .inl ⟨_, _, rfl⟩
  case assign x => exact .inl ⟨_, _, rfl⟩
  case pick c a b =>
    generalize asBool (ρ c) = s
    cases hs : s.run P w with
    | ok v w' => left; exact ⟨if v = true then ρ a else ρ b, w', by simp [go_sem, hs]⟩
    | halt x w' => right; exact ⟨x, w', by simp [go_sem, hs]⟩
  case call c =>
    cases hc : c.callee with
    | builtin b =>
      rw [hc] at h
      cases b <;> simp only [Bool.false_eq_true] at h
      have e : ((do let d ← resolve ρ c o.type; invoke d.target d.args : Sem Next).run P w) = (builtin .len c.argTypes o.type (c.args.map fun | .const _ => true | _ => false) (c.args.map ρ)).run P w := by
        simp [resolve, hc, invoke, go_sem]
      rw [e]
      unfold builtin
      exact key _
    | invoke r n => rw [hc] at h; cases h
    | value f => rw [hc] at h; cases h
  all_goals exact key _
theorem plain_about {o : Oper} (h : plainO o.op = true) (P : Program) (w : World) (ρ : Operand → Value) : o.about P w ρ = none := by
  unfold Oper.about
  cases ho : o.op <;> rw [ho] at h <;> first | rfl | skip
  rename_i c
  simp only [plainO] at h
  cases hc : c.callee with
  | builtin b => simp [resolve, hc, go_sem]
  | invoke r n => rw [hc] at h; cases h
  | value f => rw [hc] at h; cases h
theorem plain_sem {o : Oper} (h : plainO o.op = true) (F : Fence) (ρ : Operand → Value) : o.semAt F.round ρ = execOp ρ o := Oper.semAt_eq _ _ _ (fun c e => by rw [e] at h; cases h)
section
variable {F : Fence} {n : Nat} {P : Program} {ops : Array Oper} {md : Region.Mode} {C : World → Prop}
theorem plain_wpIn {o : Oper} (hp : plainO o.op = true) {a : Act} {K : Act → Prop} {K' : Act → World → Prop} {Q' : Exit → Act → World → Prop} {w : World} (hw : C w) (h : ∀ a w', C w' → K a → K' a w') (hh : o.quiet P a C K) : o.wpIn F n P a w K' Q' := by
  refine ⟨fun f hf => (by rw [plain_about hp] at hf; cases hf), ?_⟩
  rw [plain_sem hp]
  obtain ⟨v, h1, h2⟩ := hh
  have h3 := h1 w hw
  unfold Oper.quietAt at h3
  rcases plain_value hp P w a.eval with ⟨u, w', e⟩ | ⟨x, w', e⟩
  · rw [e] at h3 ⊢
    obtain ⟨rfl, rfl⟩ := h3
    exact h _ _ hw h2
  · rw [e] at h3
    exact h3.elim
/-- A region whose operations are plain and only read, inside a fence, in a round too: one walk of the text's order serves every order. -/
theorem wpIn_region_plain {id : Nat} {Q : Exit → Act → World → Prop} {a : Act} {w : World} (hm : P.follows .mixedOrders = true) (hB : Region.lexB .any ops = true) (hp : ops.all (fun o : Oper => plainO o.op) = true) (hC : C { w with drawn := w.drawn + 1 })
    (h : wpQuiet P ops C (fun a' => ∀ w', C w' → Q .normal a' w') ops.toList a) : (Code.region id ops true).wpIn F n P Q a w := by
  have hpl : ∀ (i : Nat) (o : Oper), ops[i]? = some o → plainO o.op = true := fun i o ho => by
    have hi := (Array.getElem?_eq_some_iff.1 ho).1
    have := Array.all_eq_true.1 hp i hi
    rw [(Array.getElem?_eq_some_iff.1 ho).2] at this
    exact this
  have turn : ∀ (fuel : Nat) (listed : Array Bool) (a : Act) (w : World), C w → wpAnyQ P .any ops C (fun a' => ∀ w', C w' → Q .normal a' w') fuel listed a → wpAnyIn F n P .any ops Q fuel listed a w := by
    intro fuel
    induction fuel with
    | zero => intro listed a w hw h; exact ⟨h.1, h.2 w hw⟩
    | succ fuel ih =>
      intro listed a w hw h
      refine ⟨fun h0 => h.1 h0 w hw, fun i hi => ?_⟩
      have hq := h.2 i hi
      unfold qOp at hq
      unfold wpOpIn
      cases ho : ops[i]? with
      | none => simp only [ho] at hq; exact ih _ _ _ hw hq
      | some o =>
        simp only [ho] at hq
        show if Region.wanted o (yielded ops a.tmps) = true then _ else _
        split at hq
        · rename_i hwt
          rw [if_pos hwt]
          exact plain_wpIn (hpl i o ho) hw (fun a' w' hw' hk => ih _ a' w' hw' hk) hq
        · rename_i hwt
          rw [if_neg hwt]
          exact ⟨fun f hf => (by rw [plain_about (hpl i o ho)] at hf; cases hf), ih _ _ _ hw hq⟩
  simp only [Region.lexB, Bool.and_eq_true] at hB
  refine wpIn_region_any hm (turn _ _ _ _ hC ?_)
  have := wpAnyQ_lex (C := C) (md := .any) hB.1 ops.toList 0 (Array.replicate ops.size false) a (by simp) (by simpa using hB.2) h
  simpa using this
/-- The same for a region that is written out, at the class of the world after some draws. -/
theorem wpIn_region_plain_lit {id : Nat} {Q : Exit → Act → World → Prop} {a : Act} {w : World} {l : List Oper} (hm : P.follows .mixedOrders = true) (hB : Region.lexB .any l.toArray = true) (hp : l.toArray.all (fun o : Oper => plainO o.op) = true)
    (h : wpQuiet P l.toArray (fun w' => ∃ n, w' = w.drewN n) (fun a' => ∀ w', (∃ n, w' = w.drewN n) → Q .normal a' w') l a) : (Code.region id l.toArray true).wpIn F n P Q a w :=
  wpIn_region_plain (C := fun w' => ∃ n, w' = w.drewN n) hm hB hp ⟨1, rfl⟩ (by simpa using h)
end
end Go.Proofs.Ytkidcmglidnaoaa
