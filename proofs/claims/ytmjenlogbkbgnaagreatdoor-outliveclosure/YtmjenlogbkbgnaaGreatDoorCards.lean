/-
  DERIVED. GIVEN WITH THE SEED: THE CARDS: each row of YtmjenlogbkbgnaaGreatDoorRows.lean that lists a variable, with what it lists TIED to the program's text (the seventh form; the later family's looks); each row that meets fmt, with fmt's text TOLD by the authors' own Lean function (tested against real Go, not proved from fmt's source: count such statements apart). THE CARD IS WHAT COUNTS. Prove the row's statement (the work); the ties are given (YtmjenlogbkbgnaaGreatDoorTie.lean); close each card by the builder's one call (the guide's Derived/Test/ToyasCard.lean, 'card_holds'). Laid BY PROGRAM, IN A SANDBOX (cutbox-door.mjs). By AI agents, Wed Nov 11 2026. No macro, syntax, notation, axiom, sorry.
-/
import Derived.Test.YtmjenlogbkbgnaaGreatDoorRows
import GoSem.ClaimSeven
namespace Go.Proofs.YtmjenlogbkbgnaaGreatDoor
namespace Rows

/-- THE TIED CARD OF 'loanwordlaw15.OutliveAll'. -/
def outliveAllCard : Claim7 := { stood := { row := outliveAllRow, standIns := [], harness := (true, "3dc6808ff6b97fe453a5c0d9a0bd788b5b06c2fd7bbdfefd7312fcab223e1f67"), looks := false }, kinds := [], alts := [], laidByText := true, laidKinds := [.data], laidTests := true, laidLooks := .later }
def OutliveAllCardSaid : Prop := Claim7.holds Tryz.pinned (.plain (OpenSpec.ofChange outliveAllSpec)) outliveAllCard

/-- THE TIED CARD OF 'loanwordlaw15.OutliveRows'. -/
def outliveRowsCard : Claim7 := { stood := { row := outliveRowsRow, standIns := [], harness := (true, "3dc6808ff6b97fe453a5c0d9a0bd788b5b06c2fd7bbdfefd7312fcab223e1f67"), looks := false }, kinds := [], alts := [], laidByText := true, laidKinds := [.data], laidTests := true, laidLooks := .later }
def OutliveRowsCardSaid : Prop := Claim7.holds Tryz.pinned (.plain (OpenSpec.ofChange outliveRowsSpec)) outliveRowsCard

/-- THE TIED CARD OF 'loanwordlaw15.OutliveFlows'. -/
def outliveFlowsCard : Claim7 := { stood := { row := outliveFlowsRow, standIns := [], harness := (true, "3dc6808ff6b97fe453a5c0d9a0bd788b5b06c2fd7bbdfefd7312fcab223e1f67"), looks := false }, kinds := [], alts := [], laidByText := true, laidKinds := [.data], laidTests := true, laidLooks := .later }
def OutliveFlowsCardSaid : Prop := Claim7.holds Tryz.pinned (.plain (OpenSpec.ofChange outliveFlowsSpec)) outliveFlowsCard

/-- THE TIED CARD OF 'loanwordlaw15.OutliveClosure'. -/
def outliveClosureCard : Claim7 := { stood := { row := outliveClosureRow, standIns := [], harness := (true, "3dc6808ff6b97fe453a5c0d9a0bd788b5b06c2fd7bbdfefd7312fcab223e1f67"), looks := false }, kinds := [], alts := [], laidByText := true, laidKinds := [.data], laidTests := true, laidLooks := .later }
def OutliveClosureCardSaid : Prop := Claim7.holds Tryz.pinned (.plain (OpenSpec.ofChange outliveClosureSpec)) outliveClosureCard

/-- THE SECOND FORM's CARD OF 'loanwordlaw15.OutliveAll'. -/
def outliveAllUptoCard : Claim7 := { stood := { row := outliveAllUptoRow, standIns := [], harness := (true, "3dc6808ff6b97fe453a5c0d9a0bd788b5b06c2fd7bbdfefd7312fcab223e1f67"), looks := false }, kinds := [], alts := [], laidByText := true, laidKinds := [.data], laidTests := true, laidLooks := .later }
def OutliveAllUptoCardSaid : Prop := Claim7.holds Tryz.pinned (.plain (OpenSpec.upto outliveAllSpec)) outliveAllUptoCard

/-- THE SECOND FORM's CARD OF 'loanwordlaw15.OutliveRows'. -/
def outliveRowsUptoCard : Claim7 := { stood := { row := outliveRowsUptoRow, standIns := [], harness := (true, "3dc6808ff6b97fe453a5c0d9a0bd788b5b06c2fd7bbdfefd7312fcab223e1f67"), looks := false }, kinds := [], alts := [], laidByText := true, laidKinds := [.data], laidTests := true, laidLooks := .later }
def OutliveRowsUptoCardSaid : Prop := Claim7.holds Tryz.pinned (.plain (OpenSpec.upto outliveRowsSpec)) outliveRowsUptoCard

/-- THE SECOND FORM's CARD OF 'loanwordlaw15.OutliveFlows'. -/
def outliveFlowsUptoCard : Claim7 := { stood := { row := outliveFlowsUptoRow, standIns := [], harness := (true, "3dc6808ff6b97fe453a5c0d9a0bd788b5b06c2fd7bbdfefd7312fcab223e1f67"), looks := false }, kinds := [], alts := [], laidByText := true, laidKinds := [.data], laidTests := true, laidLooks := .later }
def OutliveFlowsUptoCardSaid : Prop := Claim7.holds Tryz.pinned (.plain (OpenSpec.upto outliveFlowsSpec)) outliveFlowsUptoCard

/-- THE SECOND FORM's CARD OF 'loanwordlaw15.OutliveClosure'. -/
def outliveClosureUptoCard : Claim7 := { stood := { row := outliveClosureUptoRow, standIns := [], harness := (true, "3dc6808ff6b97fe453a5c0d9a0bd788b5b06c2fd7bbdfefd7312fcab223e1f67"), looks := false }, kinds := [], alts := [], laidByText := true, laidKinds := [.data], laidTests := true, laidLooks := .later }
def OutliveClosureUptoCardSaid : Prop := Claim7.holds Tryz.pinned (.plain (OpenSpec.upto outliveClosureSpec)) outliveClosureUptoCard
end Rows
end Go.Proofs.YtmjenlogbkbgnaaGreatDoor
