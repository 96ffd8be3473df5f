/-
  DERIVED. GIVEN WITH THE SEED: THE CARDS: each row of YthfmmlpbflfpaaaDoorRows.lean that lists a variable, with what it lists TIED to the program's text (the seventh form; the later family's looks); each row that meets fmt, with fmt's text TOLD by the authors' own Lean function (tested against real Go, not proved from fmt's source: count such statements apart). THE CARD IS WHAT COUNTS. Prove the row's statement (the work); the ties are given (YthfmmlpbflfpaaaDoorTie.lean); close each card by the builder's one call (the guide's Derived/Test/ToyasCard.lean, 'card_holds'). Laid BY PROGRAM, IN A SANDBOX (cutbox-door.mjs). By AI agents, Wed Nov 11 2026. No macro, syntax, notation, axiom, sorry.
-/
import Derived.Test.YthfmmlpbflfpaaaDoorRows
import GoSem.ClaimSeven
namespace Go.Proofs.YthfmmlpbflfpaaaDoor
namespace Rows

/-- THE TIED CARD OF 'laws.FnExactIsConnected'. -/
def fnExactIsConnectedCard : Claim7 := { stood := { row := fnExactIsConnectedRow, standIns := [], harness := (true, "a99540dbbf2b9051986e9adfe9b77bdd3ece91bcfcc8eed45376eab63667961c"), looks := true }, kinds := [], alts := [], laidByText := true, laidKinds := [.sentinel, .sentinel], laidTests := true, laidLooks := .later }
def FnExactIsConnectedCardSaid : Prop := Claim7.holds Tryd.pinned (.plain (OpenSpec.ofChange fnExactIsConnectedSpec)) fnExactIsConnectedCard

/-- THE TIED CARD OF 'laws.FnExactTreeSights'. -/
def fnExactTreeSightsCard : Claim7 := { stood := { row := fnExactTreeSightsRow, standIns := [], harness := (true, "a99540dbbf2b9051986e9adfe9b77bdd3ece91bcfcc8eed45376eab63667961c"), looks := true }, kinds := [], alts := [], laidByText := true, laidKinds := [.sentinel, .sentinel], laidTests := true, laidLooks := .later }
def FnExactTreeSightsCardSaid : Prop := Claim7.holds Tryd.pinned (.plain (OpenSpec.ofChange fnExactTreeSightsSpec)) fnExactTreeSightsCard

/-- THE TIED CARD OF 'laws.FnExactTreeHeights'. -/
def fnExactTreeHeightsCard : Claim7 := { stood := { row := fnExactTreeHeightsRow, standIns := [], harness := (true, "a99540dbbf2b9051986e9adfe9b77bdd3ece91bcfcc8eed45376eab63667961c"), looks := true }, kinds := [], alts := [], laidByText := true, laidKinds := [.sentinel, .sentinel], laidTests := true, laidLooks := .later }
def FnExactTreeHeightsCardSaid : Prop := Claim7.holds Tryd.pinned (.plain (OpenSpec.ofChange fnExactTreeHeightsSpec)) fnExactTreeHeightsCard

/-- THE TIED CARD OF 'laws.FnExactLoopErrors'. -/
def fnExactLoopErrorsCard : Claim7 := { stood := { row := fnExactLoopErrorsRow, standIns := [], harness := (true, "a99540dbbf2b9051986e9adfe9b77bdd3ece91bcfcc8eed45376eab63667961c"), looks := true }, kinds := [], alts := [], laidByText := true, laidKinds := [.sentinel, .sentinel], laidTests := true, laidLooks := .later }
def FnExactLoopErrorsCardSaid : Prop := Claim7.holds Tryd.pinned (.plain (OpenSpec.ofChange fnExactLoopErrorsSpec)) fnExactLoopErrorsCard

/-- THE TIED CARD OF 'laws.FnExactUncheckedSights'. -/
def fnExactUncheckedSightsCard : Claim7 := { stood := { row := fnExactUncheckedSightsRow, standIns := [], harness := (true, "a99540dbbf2b9051986e9adfe9b77bdd3ece91bcfcc8eed45376eab63667961c"), looks := true }, kinds := [], alts := [], laidByText := true, laidKinds := [.sentinel, .sentinel], laidTests := true, laidLooks := .later }
def FnExactUncheckedSightsCardSaid : Prop := Claim7.holds Tryd.pinned (.plain (OpenSpec.ofChange fnExactUncheckedSightsSpec)) fnExactUncheckedSightsCard

/-- THE TIED CARD OF 'laws.FnLoops'. -/
def fnLoopsCard : Claim7 := { stood := { row := fnLoopsRow, standIns := [], harness := (true, "a99540dbbf2b9051986e9adfe9b77bdd3ece91bcfcc8eed45376eab63667961c"), looks := true }, kinds := [], alts := [], laidByText := true, laidKinds := [.sentinel, .sentinel], laidTests := true, laidLooks := .later }
def FnLoopsCardSaid : Prop := Claim7.holds Tryd.pinned (.plain (OpenSpec.ofChange fnLoopsSpec)) fnLoopsCard

/-- THE SECOND FORM's CARD OF 'laws.FnExactIsConnected'. -/
def fnExactIsConnectedUptoCard : Claim7 := { stood := { row := fnExactIsConnectedUptoRow, standIns := [], harness := (true, "a99540dbbf2b9051986e9adfe9b77bdd3ece91bcfcc8eed45376eab63667961c"), looks := true }, kinds := [], alts := [], laidByText := true, laidKinds := [.sentinel, .sentinel], laidTests := true, laidLooks := .later }
def FnExactIsConnectedUptoCardSaid : Prop := Claim7.holds Tryd.pinned (.plain (OpenSpec.upto fnExactIsConnectedSpec)) fnExactIsConnectedUptoCard

/-- THE SECOND FORM's CARD OF 'laws.FnExactTreeSights'. -/
def fnExactTreeSightsUptoCard : Claim7 := { stood := { row := fnExactTreeSightsUptoRow, standIns := [], harness := (true, "a99540dbbf2b9051986e9adfe9b77bdd3ece91bcfcc8eed45376eab63667961c"), looks := true }, kinds := [], alts := [], laidByText := true, laidKinds := [.sentinel, .sentinel], laidTests := true, laidLooks := .later }
def FnExactTreeSightsUptoCardSaid : Prop := Claim7.holds Tryd.pinned (.plain (OpenSpec.upto fnExactTreeSightsSpec)) fnExactTreeSightsUptoCard

/-- THE SECOND FORM's CARD OF 'laws.FnExactTreeHeights'. -/
def fnExactTreeHeightsUptoCard : Claim7 := { stood := { row := fnExactTreeHeightsUptoRow, standIns := [], harness := (true, "a99540dbbf2b9051986e9adfe9b77bdd3ece91bcfcc8eed45376eab63667961c"), looks := true }, kinds := [], alts := [], laidByText := true, laidKinds := [.sentinel, .sentinel], laidTests := true, laidLooks := .later }
def FnExactTreeHeightsUptoCardSaid : Prop := Claim7.holds Tryd.pinned (.plain (OpenSpec.upto fnExactTreeHeightsSpec)) fnExactTreeHeightsUptoCard

/-- THE SECOND FORM's CARD OF 'laws.FnExactLoopErrors'. -/
def fnExactLoopErrorsUptoCard : Claim7 := { stood := { row := fnExactLoopErrorsUptoRow, standIns := [], harness := (true, "a99540dbbf2b9051986e9adfe9b77bdd3ece91bcfcc8eed45376eab63667961c"), looks := true }, kinds := [], alts := [], laidByText := true, laidKinds := [.sentinel, .sentinel], laidTests := true, laidLooks := .later }
def FnExactLoopErrorsUptoCardSaid : Prop := Claim7.holds Tryd.pinned (.plain (OpenSpec.upto fnExactLoopErrorsSpec)) fnExactLoopErrorsUptoCard

/-- THE SECOND FORM's CARD OF 'laws.FnExactUncheckedSights'. -/
def fnExactUncheckedSightsUptoCard : Claim7 := { stood := { row := fnExactUncheckedSightsUptoRow, standIns := [], harness := (true, "a99540dbbf2b9051986e9adfe9b77bdd3ece91bcfcc8eed45376eab63667961c"), looks := true }, kinds := [], alts := [], laidByText := true, laidKinds := [.sentinel, .sentinel], laidTests := true, laidLooks := .later }
def FnExactUncheckedSightsUptoCardSaid : Prop := Claim7.holds Tryd.pinned (.plain (OpenSpec.upto fnExactUncheckedSightsSpec)) fnExactUncheckedSightsUptoCard

/-- THE SECOND FORM's CARD OF 'laws.FnLoops'. -/
def fnLoopsUptoCard : Claim7 := { stood := { row := fnLoopsUptoRow, standIns := [], harness := (true, "a99540dbbf2b9051986e9adfe9b77bdd3ece91bcfcc8eed45376eab63667961c"), looks := true }, kinds := [], alts := [], laidByText := true, laidKinds := [.sentinel, .sentinel], laidTests := true, laidLooks := .later }
def FnLoopsUptoCardSaid : Prop := Claim7.holds Tryd.pinned (.plain (OpenSpec.upto fnLoopsSpec)) fnLoopsUptoCard
end Rows
end Go.Proofs.YthfmmlpbflfpaaaDoor
