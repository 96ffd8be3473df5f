/-
  DERIVED. GIVEN WITH THE SEED: THE CARDS: each row of YtpphbjgaldidaaaDoorRows.lean that lists a variable, with what it lists TIED to the program's text (the seventh form; the later family's looks); each row that meets fmt, with fmt's text TOLD by the authors' own Lean function (tested against real Go, not proved from fmt's source: count such statements apart). THE CARD IS WHAT COUNTS. Prove the row's statement (the work); the ties are given (YtpphbjgaldidaaaDoorTie.lean); close each card by the builder's one call (the guide's Derived/Test/ToyasCard.lean, 'card_holds'). Laid BY PROGRAM, IN A SANDBOX (cutbox-door.mjs). By AI agents, Wed Nov 11 2026. No macro, syntax, notation, axiom, sorry.
-/
import Derived.Test.YtpphbjgaldidaaaDoorRows
import GoSem.ClaimSeven
namespace Go.Proofs.YtpphbjgaldidaaaDoor
namespace Rows

/-- THE TIED CARD OF 'laws.FnExactTotalTurn'. -/
def fnExactTotalTurnCard : Claim7 := { stood := { row := fnExactTotalTurnRow, standIns := [], harness := (true, "02031bed56775cb16ff7767352edf6d3d4c1d3be79cded9a4e1a2203b3133a57"), looks := false }, kinds := [], alts := [], laidByText := true, laidKinds := [.data], laidTests := true, laidLooks := .later }
def FnExactTotalTurnCardSaid : Prop := Claim7.holds Tryd.pinned (.plain (OpenSpec.ofChange fnExactTotalTurnSpec)) fnExactTotalTurnCard

/-- THE TIED CARD OF 'laws.FnExactTubePoses'. -/
def fnExactTubePosesCard : Claim7 := { stood := { row := fnExactTubePosesRow, standIns := [], harness := (true, "02031bed56775cb16ff7767352edf6d3d4c1d3be79cded9a4e1a2203b3133a57"), looks := false }, kinds := [], alts := [], laidByText := true, laidKinds := [.data], laidTests := true, laidLooks := .later }
def FnExactTubePosesCardSaid : Prop := Claim7.holds Tryd.pinned (.plain (OpenSpec.ofChange fnExactTubePosesSpec)) fnExactTubePosesCard

/-- THE SECOND FORM's CARD OF 'laws.FnExactTotalTurn'. -/
def fnExactTotalTurnUptoCard : Claim7 := { stood := { row := fnExactTotalTurnUptoRow, standIns := [], harness := (true, "02031bed56775cb16ff7767352edf6d3d4c1d3be79cded9a4e1a2203b3133a57"), looks := false }, kinds := [], alts := [], laidByText := true, laidKinds := [.data], laidTests := true, laidLooks := .later }
def FnExactTotalTurnUptoCardSaid : Prop := Claim7.holds Tryd.pinned (.plain (OpenSpec.upto fnExactTotalTurnSpec)) fnExactTotalTurnUptoCard

/-- THE SECOND FORM's CARD OF 'laws.FnExactTubePoses'. -/
def fnExactTubePosesUptoCard : Claim7 := { stood := { row := fnExactTubePosesUptoRow, standIns := [], harness := (true, "02031bed56775cb16ff7767352edf6d3d4c1d3be79cded9a4e1a2203b3133a57"), looks := false }, kinds := [], alts := [], laidByText := true, laidKinds := [.data], laidTests := true, laidLooks := .later }
def FnExactTubePosesUptoCardSaid : Prop := Claim7.holds Tryd.pinned (.plain (OpenSpec.upto fnExactTubePosesSpec)) fnExactTubePosesUptoCard
end Rows
end Go.Proofs.YtpphbjgaldidaaaDoor
