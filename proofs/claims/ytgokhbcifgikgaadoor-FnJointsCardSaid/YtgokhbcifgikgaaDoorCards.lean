/-
  DERIVED. GIVEN WITH THE SEED: THE CARDS: each row of YtgokhbcifgikgaaDoorRows.lean that lists a variable, with what it lists TIED to the program's text (the seventh form; the later family's looks); each row that meets fmt, with fmt's text TOLD by the authors' own Lean function (tested against real Go, not proved from fmt's source: count such statements apart). THE CARD IS WHAT COUNTS. Prove the row's statement (the work); the ties are given (YtgokhbcifgikgaaDoorTie.lean); close each card by the builder's one call (the guide's Derived/Test/ToyasCard.lean, 'card_holds'). Laid BY PROGRAM, IN A SANDBOX (cutbox-door.mjs). By AI agents, Wed Nov 11 2026. No macro, syntax, notation, axiom, sorry.
-/
import Derived.Test.YtgokhbcifgikgaaDoorRows
import GoSem.ClaimSeven
namespace Go.Proofs.YtgokhbcifgikgaaDoor
namespace Rows

/-- THE TIED CARD OF 'laws.FnExactTurnOf'. -/
def fnExactTurnOfCard : Claim7 := { stood := { row := fnExactTurnOfRow, standIns := [], harness := (true, "05824cd9d4fa5af25721bffe8d19161082acabf15a74b4d9a72593a2a8d28f43"), looks := false }, kinds := [], alts := [], laidByText := true, laidKinds := [.data], laidTests := true, laidLooks := .later }
def FnExactTurnOfCardSaid : Prop := Claim7.holds Tryd.pinned (.plain (OpenSpec.ofChange fnExactTurnOfSpec)) fnExactTurnOfCard

/-- THE TIED CARD OF 'laws.FnExactJointsOf'. -/
def fnExactJointsOfCard : Claim7 := { stood := { row := fnExactJointsOfRow, standIns := [], harness := (true, "05824cd9d4fa5af25721bffe8d19161082acabf15a74b4d9a72593a2a8d28f43"), looks := false }, kinds := [], alts := [], laidByText := true, laidKinds := [.data], laidTests := true, laidLooks := .later }
def FnExactJointsOfCardSaid : Prop := Claim7.holds Tryd.pinned (.plain (OpenSpec.ofChange fnExactJointsOfSpec)) fnExactJointsOfCard

/-- THE TIED CARD OF 'laws.FnExactMeetingJoints'. -/
def fnExactMeetingJointsCard : Claim7 := { stood := { row := fnExactMeetingJointsRow, standIns := [], harness := (true, "05824cd9d4fa5af25721bffe8d19161082acabf15a74b4d9a72593a2a8d28f43"), looks := false }, kinds := [], alts := [], laidByText := true, laidKinds := [.data], laidTests := true, laidLooks := .later }
def FnExactMeetingJointsCardSaid : Prop := Claim7.holds Tryd.pinned (.plain (OpenSpec.ofChange fnExactMeetingJointsSpec)) fnExactMeetingJointsCard

/-- THE TIED CARD OF 'laws.FnExactNextKeys'. -/
def fnExactNextKeysCard : Claim7 := { stood := { row := fnExactNextKeysRow, standIns := [], harness := (true, "05824cd9d4fa5af25721bffe8d19161082acabf15a74b4d9a72593a2a8d28f43"), looks := false }, kinds := [], alts := [], laidByText := true, laidKinds := [.data], laidTests := true, laidLooks := .later }
def FnExactNextKeysCardSaid : Prop := Claim7.holds Tryd.pinned (.plain (OpenSpec.ofChange fnExactNextKeysSpec)) fnExactNextKeysCard

/-- THE TIED CARD OF 'laws.FnJoints'. -/
def fnJointsCard : Claim7 := { stood := { row := fnJointsRow, standIns := [], harness := (true, "05824cd9d4fa5af25721bffe8d19161082acabf15a74b4d9a72593a2a8d28f43"), looks := false }, kinds := [], alts := [], laidByText := true, laidKinds := [.data], laidTests := true, laidLooks := .later }
def FnJointsCardSaid : Prop := Claim7.holds Tryd.pinned (.plain (OpenSpec.ofChange fnJointsSpec)) fnJointsCard

/-- THE TIED CARD OF 'laws.FnExactTotalTurn'. -/
def fnExactTotalTurnCard : Claim7 := { stood := { row := fnExactTotalTurnRow, standIns := [], harness := (true, "05824cd9d4fa5af25721bffe8d19161082acabf15a74b4d9a72593a2a8d28f43"), looks := false }, kinds := [], alts := [], laidByText := true, laidKinds := [.data], laidTests := true, laidLooks := .later }
def FnExactTotalTurnCardSaid : Prop := Claim7.holds Tryd.pinned (.plain (OpenSpec.ofChange fnExactTotalTurnSpec)) fnExactTotalTurnCard

/-- THE TIED CARD OF 'laws.FnExactTubePoses'. -/
def fnExactTubePosesCard : Claim7 := { stood := { row := fnExactTubePosesRow, standIns := [], harness := (true, "05824cd9d4fa5af25721bffe8d19161082acabf15a74b4d9a72593a2a8d28f43"), looks := false }, kinds := [], alts := [], laidByText := true, laidKinds := [.data], laidTests := true, laidLooks := .later }
def FnExactTubePosesCardSaid : Prop := Claim7.holds Tryd.pinned (.plain (OpenSpec.ofChange fnExactTubePosesSpec)) fnExactTubePosesCard

/-- THE TIED CARD OF 'laws.FnExactOffsetsBehind'. -/
def fnExactOffsetsBehindCard : Claim7 := { stood := { row := fnExactOffsetsBehindRow, standIns := [], harness := (true, "05824cd9d4fa5af25721bffe8d19161082acabf15a74b4d9a72593a2a8d28f43"), looks := false }, kinds := [], alts := [], laidByText := true, laidKinds := [.data], laidTests := true, laidLooks := .later }
def FnExactOffsetsBehindCardSaid : Prop := Claim7.holds Tryd.pinned (.plain (OpenSpec.ofChange fnExactOffsetsBehindSpec)) fnExactOffsetsBehindCard

/-- THE TIED CARD OF 'laws.FnExactSquaresOf'. -/
def fnExactSquaresOfCard : Claim7 := { stood := { row := fnExactSquaresOfRow, standIns := [], harness := (true, "05824cd9d4fa5af25721bffe8d19161082acabf15a74b4d9a72593a2a8d28f43"), looks := false }, kinds := [], alts := [], laidByText := true, laidKinds := [.data], laidTests := true, laidLooks := .later }
def FnExactSquaresOfCardSaid : Prop := Claim7.holds Tryd.pinned (.plain (OpenSpec.ofChange fnExactSquaresOfSpec)) fnExactSquaresOfCard

/-- THE SECOND FORM's CARD OF 'laws.FnExactTurnOf'. -/
def fnExactTurnOfUptoCard : Claim7 := { stood := { row := fnExactTurnOfUptoRow, standIns := [], harness := (true, "05824cd9d4fa5af25721bffe8d19161082acabf15a74b4d9a72593a2a8d28f43"), looks := false }, kinds := [], alts := [], laidByText := true, laidKinds := [.data], laidTests := true, laidLooks := .later }
def FnExactTurnOfUptoCardSaid : Prop := Claim7.holds Tryd.pinned (.plain (OpenSpec.upto fnExactTurnOfSpec)) fnExactTurnOfUptoCard

/-- THE SECOND FORM's CARD OF 'laws.FnExactJointsOf'. -/
def fnExactJointsOfUptoCard : Claim7 := { stood := { row := fnExactJointsOfUptoRow, standIns := [], harness := (true, "05824cd9d4fa5af25721bffe8d19161082acabf15a74b4d9a72593a2a8d28f43"), looks := false }, kinds := [], alts := [], laidByText := true, laidKinds := [.data], laidTests := true, laidLooks := .later }
def FnExactJointsOfUptoCardSaid : Prop := Claim7.holds Tryd.pinned (.plain (OpenSpec.upto fnExactJointsOfSpec)) fnExactJointsOfUptoCard

/-- THE SECOND FORM's CARD OF 'laws.FnExactMeetingJoints'. -/
def fnExactMeetingJointsUptoCard : Claim7 := { stood := { row := fnExactMeetingJointsUptoRow, standIns := [], harness := (true, "05824cd9d4fa5af25721bffe8d19161082acabf15a74b4d9a72593a2a8d28f43"), looks := false }, kinds := [], alts := [], laidByText := true, laidKinds := [.data], laidTests := true, laidLooks := .later }
def FnExactMeetingJointsUptoCardSaid : Prop := Claim7.holds Tryd.pinned (.plain (OpenSpec.upto fnExactMeetingJointsSpec)) fnExactMeetingJointsUptoCard

/-- THE SECOND FORM's CARD OF 'laws.FnExactNextKeys'. -/
def fnExactNextKeysUptoCard : Claim7 := { stood := { row := fnExactNextKeysUptoRow, standIns := [], harness := (true, "05824cd9d4fa5af25721bffe8d19161082acabf15a74b4d9a72593a2a8d28f43"), looks := false }, kinds := [], alts := [], laidByText := true, laidKinds := [.data], laidTests := true, laidLooks := .later }
def FnExactNextKeysUptoCardSaid : Prop := Claim7.holds Tryd.pinned (.plain (OpenSpec.upto fnExactNextKeysSpec)) fnExactNextKeysUptoCard

/-- THE SECOND FORM's CARD OF 'laws.FnJoints'. -/
def fnJointsUptoCard : Claim7 := { stood := { row := fnJointsUptoRow, standIns := [], harness := (true, "05824cd9d4fa5af25721bffe8d19161082acabf15a74b4d9a72593a2a8d28f43"), looks := false }, kinds := [], alts := [], laidByText := true, laidKinds := [.data], laidTests := true, laidLooks := .later }
def FnJointsUptoCardSaid : Prop := Claim7.holds Tryd.pinned (.plain (OpenSpec.upto fnJointsSpec)) fnJointsUptoCard

/-- THE SECOND FORM's CARD OF 'laws.FnExactTotalTurn'. -/
def fnExactTotalTurnUptoCard : Claim7 := { stood := { row := fnExactTotalTurnUptoRow, standIns := [], harness := (true, "05824cd9d4fa5af25721bffe8d19161082acabf15a74b4d9a72593a2a8d28f43"), looks := false }, kinds := [], alts := [], laidByText := true, laidKinds := [.data], laidTests := true, laidLooks := .later }
def FnExactTotalTurnUptoCardSaid : Prop := Claim7.holds Tryd.pinned (.plain (OpenSpec.upto fnExactTotalTurnSpec)) fnExactTotalTurnUptoCard

/-- THE SECOND FORM's CARD OF 'laws.FnExactTubePoses'. -/
def fnExactTubePosesUptoCard : Claim7 := { stood := { row := fnExactTubePosesUptoRow, standIns := [], harness := (true, "05824cd9d4fa5af25721bffe8d19161082acabf15a74b4d9a72593a2a8d28f43"), looks := false }, kinds := [], alts := [], laidByText := true, laidKinds := [.data], laidTests := true, laidLooks := .later }
def FnExactTubePosesUptoCardSaid : Prop := Claim7.holds Tryd.pinned (.plain (OpenSpec.upto fnExactTubePosesSpec)) fnExactTubePosesUptoCard

/-- THE SECOND FORM's CARD OF 'laws.FnExactOffsetsBehind'. -/
def fnExactOffsetsBehindUptoCard : Claim7 := { stood := { row := fnExactOffsetsBehindUptoRow, standIns := [], harness := (true, "05824cd9d4fa5af25721bffe8d19161082acabf15a74b4d9a72593a2a8d28f43"), looks := false }, kinds := [], alts := [], laidByText := true, laidKinds := [.data], laidTests := true, laidLooks := .later }
def FnExactOffsetsBehindUptoCardSaid : Prop := Claim7.holds Tryd.pinned (.plain (OpenSpec.upto fnExactOffsetsBehindSpec)) fnExactOffsetsBehindUptoCard

/-- THE SECOND FORM's CARD OF 'laws.FnExactSquaresOf'. -/
def fnExactSquaresOfUptoCard : Claim7 := { stood := { row := fnExactSquaresOfUptoRow, standIns := [], harness := (true, "05824cd9d4fa5af25721bffe8d19161082acabf15a74b4d9a72593a2a8d28f43"), looks := false }, kinds := [], alts := [], laidByText := true, laidKinds := [.data], laidTests := true, laidLooks := .later }
def FnExactSquaresOfUptoCardSaid : Prop := Claim7.holds Tryd.pinned (.plain (OpenSpec.upto fnExactSquaresOfSpec)) fnExactSquaresOfUptoCard
end Rows
end Go.Proofs.YtgokhbcifgikgaaDoor
