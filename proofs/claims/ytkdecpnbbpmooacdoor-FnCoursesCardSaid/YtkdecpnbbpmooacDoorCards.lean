/-
  DERIVED. GIVEN WITH THE SEED: THE CARDS: each row of YtkdecpnbbpmooacDoorRows.lean that lists a variable, with what it lists TIED to the program's text (the seventh form; the later family's looks); each row that meets fmt, with fmt's text TOLD by the authors' own Lean function (tested against real Go, not proved from fmt's source: count such statements apart). THE CARD IS WHAT COUNTS. Prove the row's statement (the work); the ties are given (YtkdecpnbbpmooacDoorTie.lean); close each card by the builder's one call (the guide's Derived/Test/ToyasCard.lean, 'card_holds'). Laid BY PROGRAM, IN A SANDBOX (cutbox-door.mjs). By AI agents, Wed Nov 11 2026. No macro, syntax, notation, axiom, sorry.
-/
import Derived.Test.YtkdecpnbbpmooacDoorRows
import GoSem.ClaimSeven
namespace Go.Proofs.YtkdecpnbbpmooacDoor
namespace Rows

/-- THE TIED CARD OF 'laws.FnCourses'. -/
def fnCoursesCard : Claim7 := { stood := { row := fnCoursesRow, standIns := [], harness := (true, "a18b892a7f131e49526aaaba61c03b012eab298a7a690678cf144700166ed5ed"), looks := true }, kinds := [], alts := [], laidByText := true, laidKinds := [.data, .data, .data, .data, .sentinel, .sentinel, .pinned], laidTests := true, laidLooks := .later }
def FnCoursesCardSaid : Prop := Claim7.holds Tryd.pinned (.plain (OpenSpec.ofChange fnCoursesSpec)) fnCoursesCard

/-- THE TIED CARD OF 'laws.FnExactCourseText'. -/
def fnExactCourseTextCard : Claim7 := { stood := { row := fnExactCourseTextRow, standIns := [], harness := (true, "a18b892a7f131e49526aaaba61c03b012eab298a7a690678cf144700166ed5ed"), looks := true }, kinds := [], alts := [], laidByText := true, laidKinds := [.data, .data, .data], laidTests := true, laidLooks := .later }
def FnExactCourseTextCardSaid : Prop := Claim7.holds Tryd.pinned (.plain (OpenSpec.ofChange fnExactCourseTextSpec)) fnExactCourseTextCard

/-- THE TIED CARD OF 'laws.FnExactReadCourse'. -/
def fnExactReadCourseCard : Claim7 := { stood := { row := fnExactReadCourseRow, standIns := [], harness := (true, "a18b892a7f131e49526aaaba61c03b012eab298a7a690678cf144700166ed5ed"), looks := true }, kinds := [], alts := [], laidByText := true, laidKinds := [.data, .data, .data, .data, .sentinel, .sentinel, .pinned], laidTests := true, laidLooks := .later }
def FnExactReadCourseCardSaid : Prop := Claim7.holds Tryd.pinned (.plain (OpenSpec.ofChange fnExactReadCourseSpec)) fnExactReadCourseCard

/-- THE TIED CARD OF 'laws.FnKeys'. -/
def fnKeysCard : Claim7 := { stood := { row := fnKeysRow, standIns := [], harness := (true, "a18b892a7f131e49526aaaba61c03b012eab298a7a690678cf144700166ed5ed"), looks := true }, kinds := [], alts := [], laidByText := true, laidKinds := [.data], laidTests := true, laidLooks := .later }
def FnKeysCardSaid : Prop := Claim7.holds Tryd.pinned (.plain (OpenSpec.ofChange fnKeysSpec)) fnKeysCard

/-- THE SECOND FORM's CARD OF 'laws.FnCourses'. -/
def fnCoursesUptoCard : Claim7 := { stood := { row := fnCoursesUptoRow, standIns := [], harness := (true, "a18b892a7f131e49526aaaba61c03b012eab298a7a690678cf144700166ed5ed"), looks := true }, kinds := [], alts := [], laidByText := true, laidKinds := [.data, .data, .data, .data, .sentinel, .sentinel, .pinned], laidTests := true, laidLooks := .later }
def FnCoursesUptoCardSaid : Prop := Claim7.holds Tryd.pinned (.plain (OpenSpec.upto fnCoursesSpec)) fnCoursesUptoCard

/-- THE SECOND FORM's CARD OF 'laws.FnExactCourseText'. -/
def fnExactCourseTextUptoCard : Claim7 := { stood := { row := fnExactCourseTextUptoRow, standIns := [], harness := (true, "a18b892a7f131e49526aaaba61c03b012eab298a7a690678cf144700166ed5ed"), looks := true }, kinds := [], alts := [], laidByText := true, laidKinds := [.data, .data, .data], laidTests := true, laidLooks := .later }
def FnExactCourseTextUptoCardSaid : Prop := Claim7.holds Tryd.pinned (.plain (OpenSpec.upto fnExactCourseTextSpec)) fnExactCourseTextUptoCard

/-- THE SECOND FORM's CARD OF 'laws.FnExactReadCourse'. -/
def fnExactReadCourseUptoCard : Claim7 := { stood := { row := fnExactReadCourseUptoRow, standIns := [], harness := (true, "a18b892a7f131e49526aaaba61c03b012eab298a7a690678cf144700166ed5ed"), looks := true }, kinds := [], alts := [], laidByText := true, laidKinds := [.data, .data, .data, .data, .sentinel, .sentinel, .pinned], laidTests := true, laidLooks := .later }
def FnExactReadCourseUptoCardSaid : Prop := Claim7.holds Tryd.pinned (.plain (OpenSpec.upto fnExactReadCourseSpec)) fnExactReadCourseUptoCard

/-- THE SECOND FORM's CARD OF 'laws.FnKeys'. -/
def fnKeysUptoCard : Claim7 := { stood := { row := fnKeysUptoRow, standIns := [], harness := (true, "a18b892a7f131e49526aaaba61c03b012eab298a7a690678cf144700166ed5ed"), looks := true }, kinds := [], alts := [], laidByText := true, laidKinds := [.data], laidTests := true, laidLooks := .later }
def FnKeysUptoCardSaid : Prop := Claim7.holds Tryd.pinned (.plain (OpenSpec.upto fnKeysSpec)) fnKeysUptoCard
end Rows
end Go.Proofs.YtkdecpnbbpmooacDoor
