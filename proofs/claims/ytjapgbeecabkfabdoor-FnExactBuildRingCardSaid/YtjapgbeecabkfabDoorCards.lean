/-
  DERIVED. GIVEN WITH THE SEED: THE CARDS: each row of YtjapgbeecabkfabDoorRows.lean that lists a variable, with what it lists TIED to the program's text (the seventh form; the later family's looks); each row that meets fmt, with fmt's text TOLD by the authors' own Lean function (tested against real Go, not proved from fmt's source: count such statements apart). THE CARD IS WHAT COUNTS. Prove the row's statement (the work); the ties are given (YtjapgbeecabkfabDoorTie.lean); close each card by the builder's one call (the guide's Derived/Test/ToyasCard.lean, 'card_holds'). Laid BY PROGRAM, IN A SANDBOX (cutbox-door.mjs). By AI agents, Wed Nov 11 2026. No macro, syntax, notation, axiom, sorry.
-/
import Derived.Test.YtjapgbeecabkfabDoorRows
import GoSem.ClaimSeven
namespace Go.Proofs.YtjapgbeecabkfabDoor
namespace Rows

/-- THE TIED CARD OF 'laws.FnExactBuildRing'. -/
def fnExactBuildRingCard : Claim7 := { stood := { row := fnExactBuildRingRow, standIns := [], harness := (true, "36db3908137419f656a3b68a02db94f02835c17fd9f06c00a46e0d8a3230ea13"), looks := true }, kinds := [], alts := [], laidByText := true, laidKinds := [.data], laidTests := true, laidLooks := .later }
def FnExactBuildRingCardSaid : Prop := Claim7.holds Tryd.pinned (.plain (OpenSpec.ofChange fnExactBuildRingSpec)) fnExactBuildRingCard

/-- THE TIED CARD OF 'laws.FnExactFittingKeys'. -/
def fnExactFittingKeysCard : Claim7 := { stood := { row := fnExactFittingKeysRow, standIns := [], harness := (true, "36db3908137419f656a3b68a02db94f02835c17fd9f06c00a46e0d8a3230ea13"), looks := true }, kinds := [], alts := [], laidByText := true, laidKinds := [.data], laidTests := true, laidLooks := .later }
def FnExactFittingKeysCardSaid : Prop := Claim7.holds Tryd.pinned (.plain (OpenSpec.ofChange fnExactFittingKeysSpec)) fnExactFittingKeysCard

/-- THE TIED CARD OF 'laws.FnExactOutlookOf'. -/
def fnExactOutlookOfCard : Claim7 := { stood := { row := fnExactOutlookOfRow, standIns := [], harness := (true, "36db3908137419f656a3b68a02db94f02835c17fd9f06c00a46e0d8a3230ea13"), looks := true }, kinds := [], alts := [], laidByText := true, laidKinds := [.data], laidTests := true, laidLooks := .later }
def FnExactOutlookOfCardSaid : Prop := Claim7.holds Tryd.pinned (.plain (OpenSpec.ofChange fnExactOutlookOfSpec)) fnExactOutlookOfCard

/-- THE TIED CARD OF 'laws.FnExactBestKey'. -/
def fnExactBestKeyCard : Claim7 := { stood := { row := fnExactBestKeyRow, standIns := [], harness := (true, "36db3908137419f656a3b68a02db94f02835c17fd9f06c00a46e0d8a3230ea13"), looks := true }, kinds := [], alts := [], laidByText := true, laidKinds := [.data], laidTests := true, laidLooks := .later }
def FnExactBestKeyCardSaid : Prop := Claim7.holds Tryd.pinned (.plain (OpenSpec.ofChange fnExactBestKeySpec)) fnExactBestKeyCard

/-- THE TIED CARD OF 'laws.FnExactDoCycles'. -/
def fnExactDoCyclesCard : Claim7 := { stood := { row := fnExactDoCyclesRow, standIns := [], harness := (true, "36db3908137419f656a3b68a02db94f02835c17fd9f06c00a46e0d8a3230ea13"), looks := true }, kinds := [], alts := [], laidByText := true, laidKinds := [.data], laidTests := true, laidLooks := .later }
def FnExactDoCyclesCardSaid : Prop := Claim7.holds Tryd.pinned (.plain (OpenSpec.ofChange fnExactDoCyclesSpec)) fnExactDoCyclesCard

/-- THE TIED CARD OF 'laws.FnExactTubeOf'. -/
def fnExactTubeOfCard : Claim7 := { stood := { row := fnExactTubeOfRow, standIns := [], harness := (true, "36db3908137419f656a3b68a02db94f02835c17fd9f06c00a46e0d8a3230ea13"), looks := true }, kinds := [], alts := [], laidByText := true, laidKinds := [.data], laidTests := true, laidLooks := .later }
def FnExactTubeOfCardSaid : Prop := Claim7.holds Tryd.pinned (.plain (OpenSpec.ofChange fnExactTubeOfSpec)) fnExactTubeOfCard

/-- THE TIED CARD OF 'laws.FnKeys'. -/
def fnKeysCard : Claim7 := { stood := { row := fnKeysRow, standIns := [], harness := (true, "36db3908137419f656a3b68a02db94f02835c17fd9f06c00a46e0d8a3230ea13"), looks := true }, kinds := [], alts := [], laidByText := true, laidKinds := [.data], laidTests := true, laidLooks := .later }
def FnKeysCardSaid : Prop := Claim7.holds Tryd.pinned (.plain (OpenSpec.ofChange fnKeysSpec)) fnKeysCard

/-- THE TIED CARD OF 'laws.FnExactMachineText'. -/
def fnExactMachineTextCard : Claim7 := { stood := { row := fnExactMachineTextRow, standIns := [], harness := (true, "36db3908137419f656a3b68a02db94f02835c17fd9f06c00a46e0d8a3230ea13"), looks := true }, kinds := [], alts := [], laidByText := true, laidKinds := [.data, .data, .data], laidTests := true, laidLooks := .later }
def FnExactMachineTextCardSaid : Prop := Claim7.holds Tryd.pinned (.plain (OpenSpec.ofChange fnExactMachineTextSpec)) fnExactMachineTextCard

/-- THE TIED CARD OF 'laws.FnExactReadMachine'. -/
def fnExactReadMachineCard : Claim7 := { stood := { row := fnExactReadMachineRow, standIns := [], harness := (true, "36db3908137419f656a3b68a02db94f02835c17fd9f06c00a46e0d8a3230ea13"), looks := true }, kinds := [], alts := [], laidByText := true, laidKinds := [.data, .data, .data, .data, .sentinel, .sentinel, .pinned], laidTests := true, laidLooks := .later }
def FnExactReadMachineCardSaid : Prop := Claim7.holds Tryd.pinned (.plain (OpenSpec.ofChange fnExactReadMachineSpec)) fnExactReadMachineCard

/-- THE SECOND FORM's CARD OF 'laws.FnExactBuildRing'. -/
def fnExactBuildRingUptoCard : Claim7 := { stood := { row := fnExactBuildRingUptoRow, standIns := [], harness := (true, "36db3908137419f656a3b68a02db94f02835c17fd9f06c00a46e0d8a3230ea13"), looks := true }, kinds := [], alts := [], laidByText := true, laidKinds := [.data], laidTests := true, laidLooks := .later }
def FnExactBuildRingUptoCardSaid : Prop := Claim7.holds Tryd.pinned (.plain (OpenSpec.upto fnExactBuildRingSpec)) fnExactBuildRingUptoCard

/-- THE SECOND FORM's CARD OF 'laws.FnExactFittingKeys'. -/
def fnExactFittingKeysUptoCard : Claim7 := { stood := { row := fnExactFittingKeysUptoRow, standIns := [], harness := (true, "36db3908137419f656a3b68a02db94f02835c17fd9f06c00a46e0d8a3230ea13"), looks := true }, kinds := [], alts := [], laidByText := true, laidKinds := [.data], laidTests := true, laidLooks := .later }
def FnExactFittingKeysUptoCardSaid : Prop := Claim7.holds Tryd.pinned (.plain (OpenSpec.upto fnExactFittingKeysSpec)) fnExactFittingKeysUptoCard

/-- THE SECOND FORM's CARD OF 'laws.FnExactOutlookOf'. -/
def fnExactOutlookOfUptoCard : Claim7 := { stood := { row := fnExactOutlookOfUptoRow, standIns := [], harness := (true, "36db3908137419f656a3b68a02db94f02835c17fd9f06c00a46e0d8a3230ea13"), looks := true }, kinds := [], alts := [], laidByText := true, laidKinds := [.data], laidTests := true, laidLooks := .later }
def FnExactOutlookOfUptoCardSaid : Prop := Claim7.holds Tryd.pinned (.plain (OpenSpec.upto fnExactOutlookOfSpec)) fnExactOutlookOfUptoCard

/-- THE SECOND FORM's CARD OF 'laws.FnExactBestKey'. -/
def fnExactBestKeyUptoCard : Claim7 := { stood := { row := fnExactBestKeyUptoRow, standIns := [], harness := (true, "36db3908137419f656a3b68a02db94f02835c17fd9f06c00a46e0d8a3230ea13"), looks := true }, kinds := [], alts := [], laidByText := true, laidKinds := [.data], laidTests := true, laidLooks := .later }
def FnExactBestKeyUptoCardSaid : Prop := Claim7.holds Tryd.pinned (.plain (OpenSpec.upto fnExactBestKeySpec)) fnExactBestKeyUptoCard

/-- THE SECOND FORM's CARD OF 'laws.FnExactDoCycles'. -/
def fnExactDoCyclesUptoCard : Claim7 := { stood := { row := fnExactDoCyclesUptoRow, standIns := [], harness := (true, "36db3908137419f656a3b68a02db94f02835c17fd9f06c00a46e0d8a3230ea13"), looks := true }, kinds := [], alts := [], laidByText := true, laidKinds := [.data], laidTests := true, laidLooks := .later }
def FnExactDoCyclesUptoCardSaid : Prop := Claim7.holds Tryd.pinned (.plain (OpenSpec.upto fnExactDoCyclesSpec)) fnExactDoCyclesUptoCard

/-- THE SECOND FORM's CARD OF 'laws.FnExactTubeOf'. -/
def fnExactTubeOfUptoCard : Claim7 := { stood := { row := fnExactTubeOfUptoRow, standIns := [], harness := (true, "36db3908137419f656a3b68a02db94f02835c17fd9f06c00a46e0d8a3230ea13"), looks := true }, kinds := [], alts := [], laidByText := true, laidKinds := [.data], laidTests := true, laidLooks := .later }
def FnExactTubeOfUptoCardSaid : Prop := Claim7.holds Tryd.pinned (.plain (OpenSpec.upto fnExactTubeOfSpec)) fnExactTubeOfUptoCard

/-- THE SECOND FORM's CARD OF 'laws.FnKeys'. -/
def fnKeysUptoCard : Claim7 := { stood := { row := fnKeysUptoRow, standIns := [], harness := (true, "36db3908137419f656a3b68a02db94f02835c17fd9f06c00a46e0d8a3230ea13"), looks := true }, kinds := [], alts := [], laidByText := true, laidKinds := [.data], laidTests := true, laidLooks := .later }
def FnKeysUptoCardSaid : Prop := Claim7.holds Tryd.pinned (.plain (OpenSpec.upto fnKeysSpec)) fnKeysUptoCard

/-- THE SECOND FORM's CARD OF 'laws.FnExactMachineText'. -/
def fnExactMachineTextUptoCard : Claim7 := { stood := { row := fnExactMachineTextUptoRow, standIns := [], harness := (true, "36db3908137419f656a3b68a02db94f02835c17fd9f06c00a46e0d8a3230ea13"), looks := true }, kinds := [], alts := [], laidByText := true, laidKinds := [.data, .data, .data], laidTests := true, laidLooks := .later }
def FnExactMachineTextUptoCardSaid : Prop := Claim7.holds Tryd.pinned (.plain (OpenSpec.upto fnExactMachineTextSpec)) fnExactMachineTextUptoCard

/-- THE SECOND FORM's CARD OF 'laws.FnExactReadMachine'. -/
def fnExactReadMachineUptoCard : Claim7 := { stood := { row := fnExactReadMachineUptoRow, standIns := [], harness := (true, "36db3908137419f656a3b68a02db94f02835c17fd9f06c00a46e0d8a3230ea13"), looks := true }, kinds := [], alts := [], laidByText := true, laidKinds := [.data, .data, .data, .data, .sentinel, .sentinel, .pinned], laidTests := true, laidLooks := .later }
def FnExactReadMachineUptoCardSaid : Prop := Claim7.holds Tryd.pinned (.plain (OpenSpec.upto fnExactReadMachineSpec)) fnExactReadMachineUptoCard
end Rows
end Go.Proofs.YtjapgbeecabkfabDoor
