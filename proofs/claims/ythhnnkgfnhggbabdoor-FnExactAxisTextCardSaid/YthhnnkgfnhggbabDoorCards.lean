/-
  DERIVED. GIVEN WITH THE SEED: THE CARDS: each row of YthhnnkgfnhggbabDoorRows.lean that lists a variable, with what it lists TIED to the program's text (the seventh form; the later family's looks); each row that meets fmt, with fmt's text TOLD by the authors' own Lean function (tested against real Go, not proved from fmt's source: count such statements apart). THE CARD IS WHAT COUNTS. Prove the row's statement (the work); the ties are given (YthhnnkgfnhggbabDoorTie.lean); close each card by the builder's one call (the guide's Derived/Test/ToyasCard.lean, 'card_holds'). Laid BY PROGRAM, IN A SANDBOX (cutbox-door.mjs). By AI agents, Wed Nov 11 2026. No macro, syntax, notation, axiom, sorry.
-/
import Derived.Test.YthhnnkgfnhggbabDoorRows
import GoSem.ClaimSeven
namespace Go.Proofs.YthhnnkgfnhggbabDoor
namespace Rows

/-- THE TIED CARD OF 'laws.FnExactOffsetsBehind'. -/
def fnExactOffsetsBehindCard : Claim7 := { stood := { row := fnExactOffsetsBehindRow, standIns := [], harness := (true, "97d1d25bdf108ab868d70c36643c2c5362315f84c4abcae3908d1d5d39efea5e"), looks := true }, kinds := [], alts := [], laidByText := true, laidKinds := [.data], laidTests := true, laidLooks := .later }
def FnExactOffsetsBehindCardSaid : Prop := Claim7.holds Tryd.pinned (.plain (OpenSpec.ofChange fnExactOffsetsBehindSpec)) fnExactOffsetsBehindCard

/-- THE TIED CARD OF 'laws.FnExactSquaresOf'. -/
def fnExactSquaresOfCard : Claim7 := { stood := { row := fnExactSquaresOfRow, standIns := [], harness := (true, "97d1d25bdf108ab868d70c36643c2c5362315f84c4abcae3908d1d5d39efea5e"), looks := true }, kinds := [], alts := [], laidByText := true, laidKinds := [.data], laidTests := true, laidLooks := .later }
def FnExactSquaresOfCardSaid : Prop := Claim7.holds Tryd.pinned (.plain (OpenSpec.ofChange fnExactSquaresOfSpec)) fnExactSquaresOfCard

/-- THE TIED CARD OF 'laws.FnOffsets'. -/
def fnOffsetsCard : Claim7 := { stood := { row := fnOffsetsRow, standIns := [], harness := (true, "97d1d25bdf108ab868d70c36643c2c5362315f84c4abcae3908d1d5d39efea5e"), looks := true }, kinds := [], alts := [], laidByText := true, laidKinds := [.data], laidTests := true, laidLooks := .later }
def FnOffsetsCardSaid : Prop := Claim7.holds Tryd.pinned (.plain (OpenSpec.ofChange fnOffsetsSpec)) fnOffsetsCard

/-- THE TIED CARD OF 'laws.FnExactReadLoss'. -/
def fnExactReadLossCard : Claim7 := { stood := { row := fnExactReadLossRow, standIns := [], harness := (true, "97d1d25bdf108ab868d70c36643c2c5362315f84c4abcae3908d1d5d39efea5e"), looks := true }, kinds := [], alts := [], laidByText := true, laidKinds := [.data, .data, .data, .sentinel, .sentinel], laidTests := true, laidLooks := .later }
def FnExactReadLossCardSaid : Prop := Claim7.holds Tryd.pinned (.plain (OpenSpec.ofChange fnExactReadLossSpec)) fnExactReadLossCard

/-- THE TIED CARD OF 'laws.FnExactTubeText'. -/
def fnExactTubeTextCard : Claim7 := { stood := { row := fnExactTubeTextRow, standIns := [], harness := (true, "97d1d25bdf108ab868d70c36643c2c5362315f84c4abcae3908d1d5d39efea5e"), looks := true }, kinds := [], alts := [], laidByText := true, laidKinds := [.data, .data, .data], laidTests := true, laidLooks := .later }
def FnExactTubeTextCardSaid : Prop := Claim7.holds Tryd.pinned (.plain (OpenSpec.ofChange fnExactTubeTextSpec)) fnExactTubeTextCard

/-- THE TIED CARD OF 'laws.FnExactAxisText'. -/
def fnExactAxisTextCard : Claim7 := { stood := { row := fnExactAxisTextRow, standIns := [], harness := (true, "97d1d25bdf108ab868d70c36643c2c5362315f84c4abcae3908d1d5d39efea5e"), looks := true }, kinds := [], alts := [], laidByText := true, laidKinds := [.data, .data, .data], laidTests := true, laidLooks := .later }
def FnExactAxisTextCardSaid : Prop := Claim7.holds Tryd.pinned (.plain (OpenSpec.ofChange fnExactAxisTextSpec)) fnExactAxisTextCard

/-- THE TIED CARD OF 'laws.FnExactMachineText'. -/
def fnExactMachineTextCard : Claim7 := { stood := { row := fnExactMachineTextRow, standIns := [], harness := (true, "97d1d25bdf108ab868d70c36643c2c5362315f84c4abcae3908d1d5d39efea5e"), looks := true }, kinds := [], alts := [], laidByText := true, laidKinds := [.data, .data, .data], laidTests := true, laidLooks := .later }
def FnExactMachineTextCardSaid : Prop := Claim7.holds Tryd.pinned (.plain (OpenSpec.ofChange fnExactMachineTextSpec)) fnExactMachineTextCard

/-- THE SECOND FORM's CARD OF 'laws.FnExactOffsetsBehind'. -/
def fnExactOffsetsBehindUptoCard : Claim7 := { stood := { row := fnExactOffsetsBehindUptoRow, standIns := [], harness := (true, "97d1d25bdf108ab868d70c36643c2c5362315f84c4abcae3908d1d5d39efea5e"), looks := true }, kinds := [], alts := [], laidByText := true, laidKinds := [.data], laidTests := true, laidLooks := .later }
def FnExactOffsetsBehindUptoCardSaid : Prop := Claim7.holds Tryd.pinned (.plain (OpenSpec.upto fnExactOffsetsBehindSpec)) fnExactOffsetsBehindUptoCard

/-- THE SECOND FORM's CARD OF 'laws.FnExactSquaresOf'. -/
def fnExactSquaresOfUptoCard : Claim7 := { stood := { row := fnExactSquaresOfUptoRow, standIns := [], harness := (true, "97d1d25bdf108ab868d70c36643c2c5362315f84c4abcae3908d1d5d39efea5e"), looks := true }, kinds := [], alts := [], laidByText := true, laidKinds := [.data], laidTests := true, laidLooks := .later }
def FnExactSquaresOfUptoCardSaid : Prop := Claim7.holds Tryd.pinned (.plain (OpenSpec.upto fnExactSquaresOfSpec)) fnExactSquaresOfUptoCard

/-- THE SECOND FORM's CARD OF 'laws.FnOffsets'. -/
def fnOffsetsUptoCard : Claim7 := { stood := { row := fnOffsetsUptoRow, standIns := [], harness := (true, "97d1d25bdf108ab868d70c36643c2c5362315f84c4abcae3908d1d5d39efea5e"), looks := true }, kinds := [], alts := [], laidByText := true, laidKinds := [.data], laidTests := true, laidLooks := .later }
def FnOffsetsUptoCardSaid : Prop := Claim7.holds Tryd.pinned (.plain (OpenSpec.upto fnOffsetsSpec)) fnOffsetsUptoCard

/-- THE SECOND FORM's CARD OF 'laws.FnExactReadLoss'. -/
def fnExactReadLossUptoCard : Claim7 := { stood := { row := fnExactReadLossUptoRow, standIns := [], harness := (true, "97d1d25bdf108ab868d70c36643c2c5362315f84c4abcae3908d1d5d39efea5e"), looks := true }, kinds := [], alts := [], laidByText := true, laidKinds := [.data, .data, .data, .sentinel, .sentinel], laidTests := true, laidLooks := .later }
def FnExactReadLossUptoCardSaid : Prop := Claim7.holds Tryd.pinned (.plain (OpenSpec.upto fnExactReadLossSpec)) fnExactReadLossUptoCard

/-- THE SECOND FORM's CARD OF 'laws.FnExactTubeText'. -/
def fnExactTubeTextUptoCard : Claim7 := { stood := { row := fnExactTubeTextUptoRow, standIns := [], harness := (true, "97d1d25bdf108ab868d70c36643c2c5362315f84c4abcae3908d1d5d39efea5e"), looks := true }, kinds := [], alts := [], laidByText := true, laidKinds := [.data, .data, .data], laidTests := true, laidLooks := .later }
def FnExactTubeTextUptoCardSaid : Prop := Claim7.holds Tryd.pinned (.plain (OpenSpec.upto fnExactTubeTextSpec)) fnExactTubeTextUptoCard

/-- THE SECOND FORM's CARD OF 'laws.FnExactAxisText'. -/
def fnExactAxisTextUptoCard : Claim7 := { stood := { row := fnExactAxisTextUptoRow, standIns := [], harness := (true, "97d1d25bdf108ab868d70c36643c2c5362315f84c4abcae3908d1d5d39efea5e"), looks := true }, kinds := [], alts := [], laidByText := true, laidKinds := [.data, .data, .data], laidTests := true, laidLooks := .later }
def FnExactAxisTextUptoCardSaid : Prop := Claim7.holds Tryd.pinned (.plain (OpenSpec.upto fnExactAxisTextSpec)) fnExactAxisTextUptoCard

/-- THE SECOND FORM's CARD OF 'laws.FnExactMachineText'. -/
def fnExactMachineTextUptoCard : Claim7 := { stood := { row := fnExactMachineTextUptoRow, standIns := [], harness := (true, "97d1d25bdf108ab868d70c36643c2c5362315f84c4abcae3908d1d5d39efea5e"), looks := true }, kinds := [], alts := [], laidByText := true, laidKinds := [.data, .data, .data], laidTests := true, laidLooks := .later }
def FnExactMachineTextUptoCardSaid : Prop := Claim7.holds Tryd.pinned (.plain (OpenSpec.upto fnExactMachineTextSpec)) fnExactMachineTextUptoCard
end Rows
end Go.Proofs.YthhnnkgfnhggbabDoor
