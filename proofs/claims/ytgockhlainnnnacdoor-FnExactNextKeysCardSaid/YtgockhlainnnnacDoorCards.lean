/-
  DERIVED. GIVEN WITH THE SEED: THE CARDS: each row of YtgockhlainnnnacDoorRows.lean that lists a variable, with what it lists TIED to the program's text (the seventh form; the later family's looks); each row that meets fmt, with fmt's text TOLD by the authors' own Lean function (tested against real Go, not proved from fmt's source: count such statements apart). THE CARD IS WHAT COUNTS. Prove the row's statement (the work); the ties are given (YtgockhlainnnnacDoorTie.lean); close each card by the builder's one call (the guide's Derived/Test/ToyasCard.lean, 'card_holds'). Laid BY PROGRAM, IN A SANDBOX (cutbox-door.mjs). By AI agents, Wed Nov 11 2026. No macro, syntax, notation, axiom, sorry.
-/
import Derived.Test.YtgockhlainnnnacDoorRows
import GoSem.ClaimSeven
namespace Go.Proofs.YtgockhlainnnnacDoor
namespace Rows

/-- THE TIED CARD OF 'laws.FnExactReadHead'. -/
def fnExactReadHeadCard : Claim7 := { stood := { row := fnExactReadHeadRow, standIns := [], harness := (true, "9bed702dc8eb0580d89a8eab2a70f728e5e596fcdadaf108b369560ede67b4c4"), looks := true }, kinds := [], alts := [], laidByText := true, laidKinds := [.data, .data, .data, .data, .sentinel, .sentinel, .pinned], laidTests := true, laidLooks := .later }
def FnExactReadHeadCardSaid : Prop := Claim7.holds Tryd.pinned (.plain (OpenSpec.ofChange fnExactReadHeadSpec)) fnExactReadHeadCard

/-- THE TIED CARD OF 'laws.FnExactJointsOf'. -/
def fnExactJointsOfCard : Claim7 := { stood := { row := fnExactJointsOfRow, standIns := [], harness := (true, "9bed702dc8eb0580d89a8eab2a70f728e5e596fcdadaf108b369560ede67b4c4"), looks := true }, kinds := [], alts := [], laidByText := true, laidKinds := [.data], laidTests := true, laidLooks := .later }
def FnExactJointsOfCardSaid : Prop := Claim7.holds Tryd.pinned (.plain (OpenSpec.ofChange fnExactJointsOfSpec)) fnExactJointsOfCard

/-- THE TIED CARD OF 'laws.FnExactMeetingJoints'. -/
def fnExactMeetingJointsCard : Claim7 := { stood := { row := fnExactMeetingJointsRow, standIns := [], harness := (true, "9bed702dc8eb0580d89a8eab2a70f728e5e596fcdadaf108b369560ede67b4c4"), looks := true }, kinds := [], alts := [], laidByText := true, laidKinds := [.data], laidTests := true, laidLooks := .later }
def FnExactMeetingJointsCardSaid : Prop := Claim7.holds Tryd.pinned (.plain (OpenSpec.ofChange fnExactMeetingJointsSpec)) fnExactMeetingJointsCard

/-- THE TIED CARD OF 'laws.FnExactNextKeys'. -/
def fnExactNextKeysCard : Claim7 := { stood := { row := fnExactNextKeysRow, standIns := [], harness := (true, "9bed702dc8eb0580d89a8eab2a70f728e5e596fcdadaf108b369560ede67b4c4"), looks := true }, kinds := [], alts := [], laidByText := true, laidKinds := [.data], laidTests := true, laidLooks := .later }
def FnExactNextKeysCardSaid : Prop := Claim7.holds Tryd.pinned (.plain (OpenSpec.ofChange fnExactNextKeysSpec)) fnExactNextKeysCard

/-- THE TIED CARD OF 'laws.FnJoints'. -/
def fnJointsCard : Claim7 := { stood := { row := fnJointsRow, standIns := [], harness := (true, "9bed702dc8eb0580d89a8eab2a70f728e5e596fcdadaf108b369560ede67b4c4"), looks := true }, kinds := [], alts := [], laidByText := true, laidKinds := [.data], laidTests := true, laidLooks := .later }
def FnJointsCardSaid : Prop := Claim7.holds Tryd.pinned (.plain (OpenSpec.ofChange fnJointsSpec)) fnJointsCard

/-- THE SECOND FORM's CARD OF 'laws.FnExactReadHead'. -/
def fnExactReadHeadUptoCard : Claim7 := { stood := { row := fnExactReadHeadUptoRow, standIns := [], harness := (true, "9bed702dc8eb0580d89a8eab2a70f728e5e596fcdadaf108b369560ede67b4c4"), looks := true }, kinds := [], alts := [], laidByText := true, laidKinds := [.data, .data, .data, .data, .sentinel, .sentinel, .pinned], laidTests := true, laidLooks := .later }
def FnExactReadHeadUptoCardSaid : Prop := Claim7.holds Tryd.pinned (.plain (OpenSpec.upto fnExactReadHeadSpec)) fnExactReadHeadUptoCard

/-- THE SECOND FORM's CARD OF 'laws.FnExactJointsOf'. -/
def fnExactJointsOfUptoCard : Claim7 := { stood := { row := fnExactJointsOfUptoRow, standIns := [], harness := (true, "9bed702dc8eb0580d89a8eab2a70f728e5e596fcdadaf108b369560ede67b4c4"), looks := true }, kinds := [], alts := [], laidByText := true, laidKinds := [.data], laidTests := true, laidLooks := .later }
def FnExactJointsOfUptoCardSaid : Prop := Claim7.holds Tryd.pinned (.plain (OpenSpec.upto fnExactJointsOfSpec)) fnExactJointsOfUptoCard

/-- THE SECOND FORM's CARD OF 'laws.FnExactMeetingJoints'. -/
def fnExactMeetingJointsUptoCard : Claim7 := { stood := { row := fnExactMeetingJointsUptoRow, standIns := [], harness := (true, "9bed702dc8eb0580d89a8eab2a70f728e5e596fcdadaf108b369560ede67b4c4"), looks := true }, kinds := [], alts := [], laidByText := true, laidKinds := [.data], laidTests := true, laidLooks := .later }
def FnExactMeetingJointsUptoCardSaid : Prop := Claim7.holds Tryd.pinned (.plain (OpenSpec.upto fnExactMeetingJointsSpec)) fnExactMeetingJointsUptoCard

/-- THE SECOND FORM's CARD OF 'laws.FnExactNextKeys'. -/
def fnExactNextKeysUptoCard : Claim7 := { stood := { row := fnExactNextKeysUptoRow, standIns := [], harness := (true, "9bed702dc8eb0580d89a8eab2a70f728e5e596fcdadaf108b369560ede67b4c4"), looks := true }, kinds := [], alts := [], laidByText := true, laidKinds := [.data], laidTests := true, laidLooks := .later }
def FnExactNextKeysUptoCardSaid : Prop := Claim7.holds Tryd.pinned (.plain (OpenSpec.upto fnExactNextKeysSpec)) fnExactNextKeysUptoCard

/-- THE SECOND FORM's CARD OF 'laws.FnJoints'. -/
def fnJointsUptoCard : Claim7 := { stood := { row := fnJointsUptoRow, standIns := [], harness := (true, "9bed702dc8eb0580d89a8eab2a70f728e5e596fcdadaf108b369560ede67b4c4"), looks := true }, kinds := [], alts := [], laidByText := true, laidKinds := [.data], laidTests := true, laidLooks := .later }
def FnJointsUptoCardSaid : Prop := Claim7.holds Tryd.pinned (.plain (OpenSpec.upto fnJointsSpec)) fnJointsUptoCard
end Rows
end Go.Proofs.YtgockhlainnnnacDoor
