/-
  DERIVED. GIVEN WITH THE SEED: THE CARDS: each row of YtcmocilojloolaaDoorRows.lean that lists a variable, with what it lists TIED to the program's text (the seventh form; the later family's looks); each row that meets fmt, with fmt's text TOLD by the authors' own Lean function (tested against real Go, not proved from fmt's source: count such statements apart). THE CARD IS WHAT COUNTS. Prove the row's statement (the work); the ties are given (YtcmocilojloolaaDoorTie.lean); close each card by the builder's one call (the guide's Derived/Test/ToyasCard.lean, 'card_holds'). Laid BY PROGRAM, IN A SANDBOX (cutbox-door.mjs). By AI agents, Wed Nov 11 2026. No macro, syntax, notation, axiom, sorry.
-/
import Derived.Test.YtcmocilojloolaaDoorRows
import GoSem.ClaimSeven
namespace Go.Proofs.YtcmocilojloolaaDoor
namespace Rows

/-- THE TIED CARD OF 'laws.FnNormalEquations'. -/
def fnNormalEquationsCard : Claim7 := { stood := { row := fnNormalEquationsRow, standIns := [], harness := (true, "1854dbae98dc7f8a40fbb3eebca83edd1ff02b6d0c99b1529d0684fa19e6136b"), looks := false }, kinds := [], alts := [], laidByText := true, laidKinds := [.sentinel, .sentinel], laidTests := true, laidLooks := .later }
def FnNormalEquationsCardSaid : Prop := Claim7.holds Tryd.pinned (.plain (OpenSpec.ofChange fnNormalEquationsSpec)) fnNormalEquationsCard

/-- THE TIED CARD OF 'laws.FnLoops'. -/
def fnLoopsCard : Claim7 := { stood := { row := fnLoopsRow, standIns := [], harness := (true, "1854dbae98dc7f8a40fbb3eebca83edd1ff02b6d0c99b1529d0684fa19e6136b"), looks := false }, kinds := [], alts := [], laidByText := true, laidKinds := [.sentinel, .sentinel], laidTests := true, laidLooks := .later }
def FnLoopsCardSaid : Prop := Claim7.holds Tryd.pinned (.plain (OpenSpec.ofChange fnLoopsSpec)) fnLoopsCard

/-- THE TIED CARD OF 'laws.FnExactAdjustSurvey'. -/
def fnExactAdjustSurveyCard : Claim7 := { stood := { row := fnExactAdjustSurveyRow, standIns := [], harness := (true, "1854dbae98dc7f8a40fbb3eebca83edd1ff02b6d0c99b1529d0684fa19e6136b"), looks := false }, kinds := [], alts := [], laidByText := true, laidKinds := [.sentinel, .sentinel], laidTests := true, laidLooks := .later }
def FnExactAdjustSurveyCardSaid : Prop := Claim7.holds Tryd.pinned (.plain (OpenSpec.ofChange fnExactAdjustSurveySpec)) fnExactAdjustSurveyCard

/-- THE TIED CARD OF 'laws.FnExactResidualsOf'. -/
def fnExactResidualsOfCard : Claim7 := { stood := { row := fnExactResidualsOfRow, standIns := [], harness := (true, "1854dbae98dc7f8a40fbb3eebca83edd1ff02b6d0c99b1529d0684fa19e6136b"), looks := false }, kinds := [], alts := [], laidByText := true, laidKinds := [.sentinel, .sentinel], laidTests := true, laidLooks := .later }
def FnExactResidualsOfCardSaid : Prop := Claim7.holds Tryd.pinned (.plain (OpenSpec.ofChange fnExactResidualsOfSpec)) fnExactResidualsOfCard

/-- THE TIED CARD OF 'laws.FnExactSquareSumOf'. -/
def fnExactSquareSumOfCard : Claim7 := { stood := { row := fnExactSquareSumOfRow, standIns := [], harness := (true, "1854dbae98dc7f8a40fbb3eebca83edd1ff02b6d0c99b1529d0684fa19e6136b"), looks := false }, kinds := [], alts := [], laidByText := true, laidKinds := [.sentinel, .sentinel], laidTests := true, laidLooks := .later }
def FnExactSquareSumOfCardSaid : Prop := Claim7.holds Tryd.pinned (.plain (OpenSpec.ofChange fnExactSquareSumOfSpec)) fnExactSquareSumOfCard

/-- THE TIED CARD OF 'laws.FnExactRiseBetween'. -/
def fnExactRiseBetweenCard : Claim7 := { stood := { row := fnExactRiseBetweenRow, standIns := [], harness := (true, "1854dbae98dc7f8a40fbb3eebca83edd1ff02b6d0c99b1529d0684fa19e6136b"), looks := false }, kinds := [], alts := [], laidByText := true, laidKinds := [.sentinel, .sentinel], laidTests := true, laidLooks := .later }
def FnExactRiseBetweenCardSaid : Prop := Claim7.holds Tryd.pinned (.plain (OpenSpec.ofChange fnExactRiseBetweenSpec)) fnExactRiseBetweenCard

/-- THE TIED CARD OF 'laws.FnExactCofactorOf'. -/
def fnExactCofactorOfCard : Claim7 := { stood := { row := fnExactCofactorOfRow, standIns := [], harness := (true, "1854dbae98dc7f8a40fbb3eebca83edd1ff02b6d0c99b1529d0684fa19e6136b"), looks := false }, kinds := [], alts := [], laidByText := true, laidKinds := [.sentinel, .sentinel], laidTests := true, laidLooks := .later }
def FnExactCofactorOfCardSaid : Prop := Claim7.holds Tryd.pinned (.plain (OpenSpec.ofChange fnExactCofactorOfSpec)) fnExactCofactorOfCard

/-- THE TIED CARD OF 'laws.FnExactRedundanciesOf'. -/
def fnExactRedundanciesOfCard : Claim7 := { stood := { row := fnExactRedundanciesOfRow, standIns := [], harness := (true, "1854dbae98dc7f8a40fbb3eebca83edd1ff02b6d0c99b1529d0684fa19e6136b"), looks := false }, kinds := [], alts := [], laidByText := true, laidKinds := [.sentinel, .sentinel], laidTests := true, laidLooks := .later }
def FnExactRedundanciesOfCardSaid : Prop := Claim7.holds Tryd.pinned (.plain (OpenSpec.ofChange fnExactRedundanciesOfSpec)) fnExactRedundanciesOfCard

/-- THE TIED CARD OF 'laws.FnExactSuspectOf'. -/
def fnExactSuspectOfCard : Claim7 := { stood := { row := fnExactSuspectOfRow, standIns := [], harness := (true, "1854dbae98dc7f8a40fbb3eebca83edd1ff02b6d0c99b1529d0684fa19e6136b"), looks := false }, kinds := [], alts := [], laidByText := true, laidKinds := [.sentinel, .sentinel], laidTests := true, laidLooks := .later }
def FnExactSuspectOfCardSaid : Prop := Claim7.holds Tryd.pinned (.plain (OpenSpec.ofChange fnExactSuspectOfSpec)) fnExactSuspectOfCard

/-- THE TIED CARD OF 'laws.FnExactBlunderIn'. -/
def fnExactBlunderInCard : Claim7 := { stood := { row := fnExactBlunderInRow, standIns := [], harness := (true, "1854dbae98dc7f8a40fbb3eebca83edd1ff02b6d0c99b1529d0684fa19e6136b"), looks := false }, kinds := [], alts := [], laidByText := true, laidKinds := [.sentinel, .sentinel], laidTests := true, laidLooks := .later }
def FnExactBlunderInCardSaid : Prop := Claim7.holds Tryd.pinned (.plain (OpenSpec.ofChange fnExactBlunderInSpec)) fnExactBlunderInCard

/-- THE SECOND FORM's CARD OF 'laws.FnNormalEquations'. -/
def fnNormalEquationsUptoCard : Claim7 := { stood := { row := fnNormalEquationsUptoRow, standIns := [], harness := (true, "1854dbae98dc7f8a40fbb3eebca83edd1ff02b6d0c99b1529d0684fa19e6136b"), looks := false }, kinds := [], alts := [], laidByText := true, laidKinds := [.sentinel, .sentinel], laidTests := true, laidLooks := .later }
def FnNormalEquationsUptoCardSaid : Prop := Claim7.holds Tryd.pinned (.plain (OpenSpec.upto fnNormalEquationsSpec)) fnNormalEquationsUptoCard

/-- THE SECOND FORM's CARD OF 'laws.FnLoops'. -/
def fnLoopsUptoCard : Claim7 := { stood := { row := fnLoopsUptoRow, standIns := [], harness := (true, "1854dbae98dc7f8a40fbb3eebca83edd1ff02b6d0c99b1529d0684fa19e6136b"), looks := false }, kinds := [], alts := [], laidByText := true, laidKinds := [.sentinel, .sentinel], laidTests := true, laidLooks := .later }
def FnLoopsUptoCardSaid : Prop := Claim7.holds Tryd.pinned (.plain (OpenSpec.upto fnLoopsSpec)) fnLoopsUptoCard

/-- THE SECOND FORM's CARD OF 'laws.FnExactAdjustSurvey'. -/
def fnExactAdjustSurveyUptoCard : Claim7 := { stood := { row := fnExactAdjustSurveyUptoRow, standIns := [], harness := (true, "1854dbae98dc7f8a40fbb3eebca83edd1ff02b6d0c99b1529d0684fa19e6136b"), looks := false }, kinds := [], alts := [], laidByText := true, laidKinds := [.sentinel, .sentinel], laidTests := true, laidLooks := .later }
def FnExactAdjustSurveyUptoCardSaid : Prop := Claim7.holds Tryd.pinned (.plain (OpenSpec.upto fnExactAdjustSurveySpec)) fnExactAdjustSurveyUptoCard

/-- THE SECOND FORM's CARD OF 'laws.FnExactResidualsOf'. -/
def fnExactResidualsOfUptoCard : Claim7 := { stood := { row := fnExactResidualsOfUptoRow, standIns := [], harness := (true, "1854dbae98dc7f8a40fbb3eebca83edd1ff02b6d0c99b1529d0684fa19e6136b"), looks := false }, kinds := [], alts := [], laidByText := true, laidKinds := [.sentinel, .sentinel], laidTests := true, laidLooks := .later }
def FnExactResidualsOfUptoCardSaid : Prop := Claim7.holds Tryd.pinned (.plain (OpenSpec.upto fnExactResidualsOfSpec)) fnExactResidualsOfUptoCard

/-- THE SECOND FORM's CARD OF 'laws.FnExactSquareSumOf'. -/
def fnExactSquareSumOfUptoCard : Claim7 := { stood := { row := fnExactSquareSumOfUptoRow, standIns := [], harness := (true, "1854dbae98dc7f8a40fbb3eebca83edd1ff02b6d0c99b1529d0684fa19e6136b"), looks := false }, kinds := [], alts := [], laidByText := true, laidKinds := [.sentinel, .sentinel], laidTests := true, laidLooks := .later }
def FnExactSquareSumOfUptoCardSaid : Prop := Claim7.holds Tryd.pinned (.plain (OpenSpec.upto fnExactSquareSumOfSpec)) fnExactSquareSumOfUptoCard

/-- THE SECOND FORM's CARD OF 'laws.FnExactRiseBetween'. -/
def fnExactRiseBetweenUptoCard : Claim7 := { stood := { row := fnExactRiseBetweenUptoRow, standIns := [], harness := (true, "1854dbae98dc7f8a40fbb3eebca83edd1ff02b6d0c99b1529d0684fa19e6136b"), looks := false }, kinds := [], alts := [], laidByText := true, laidKinds := [.sentinel, .sentinel], laidTests := true, laidLooks := .later }
def FnExactRiseBetweenUptoCardSaid : Prop := Claim7.holds Tryd.pinned (.plain (OpenSpec.upto fnExactRiseBetweenSpec)) fnExactRiseBetweenUptoCard

/-- THE SECOND FORM's CARD OF 'laws.FnExactCofactorOf'. -/
def fnExactCofactorOfUptoCard : Claim7 := { stood := { row := fnExactCofactorOfUptoRow, standIns := [], harness := (true, "1854dbae98dc7f8a40fbb3eebca83edd1ff02b6d0c99b1529d0684fa19e6136b"), looks := false }, kinds := [], alts := [], laidByText := true, laidKinds := [.sentinel, .sentinel], laidTests := true, laidLooks := .later }
def FnExactCofactorOfUptoCardSaid : Prop := Claim7.holds Tryd.pinned (.plain (OpenSpec.upto fnExactCofactorOfSpec)) fnExactCofactorOfUptoCard

/-- THE SECOND FORM's CARD OF 'laws.FnExactRedundanciesOf'. -/
def fnExactRedundanciesOfUptoCard : Claim7 := { stood := { row := fnExactRedundanciesOfUptoRow, standIns := [], harness := (true, "1854dbae98dc7f8a40fbb3eebca83edd1ff02b6d0c99b1529d0684fa19e6136b"), looks := false }, kinds := [], alts := [], laidByText := true, laidKinds := [.sentinel, .sentinel], laidTests := true, laidLooks := .later }
def FnExactRedundanciesOfUptoCardSaid : Prop := Claim7.holds Tryd.pinned (.plain (OpenSpec.upto fnExactRedundanciesOfSpec)) fnExactRedundanciesOfUptoCard

/-- THE SECOND FORM's CARD OF 'laws.FnExactSuspectOf'. -/
def fnExactSuspectOfUptoCard : Claim7 := { stood := { row := fnExactSuspectOfUptoRow, standIns := [], harness := (true, "1854dbae98dc7f8a40fbb3eebca83edd1ff02b6d0c99b1529d0684fa19e6136b"), looks := false }, kinds := [], alts := [], laidByText := true, laidKinds := [.sentinel, .sentinel], laidTests := true, laidLooks := .later }
def FnExactSuspectOfUptoCardSaid : Prop := Claim7.holds Tryd.pinned (.plain (OpenSpec.upto fnExactSuspectOfSpec)) fnExactSuspectOfUptoCard

/-- THE SECOND FORM's CARD OF 'laws.FnExactBlunderIn'. -/
def fnExactBlunderInUptoCard : Claim7 := { stood := { row := fnExactBlunderInUptoRow, standIns := [], harness := (true, "1854dbae98dc7f8a40fbb3eebca83edd1ff02b6d0c99b1529d0684fa19e6136b"), looks := false }, kinds := [], alts := [], laidByText := true, laidKinds := [.sentinel, .sentinel], laidTests := true, laidLooks := .later }
def FnExactBlunderInUptoCardSaid : Prop := Claim7.holds Tryd.pinned (.plain (OpenSpec.upto fnExactBlunderInSpec)) fnExactBlunderInUptoCard
end Rows
end Go.Proofs.YtcmocilojloolaaDoor
