/-
  DERIVED. GIVEN WITH THE SEED: THE CARDS: each row of YthccpacmklhejaaGreatDoorRows.lean that lists a variable, with what it lists TIED to the program's text (the seventh form; the later family's looks); each row that meets fmt, with fmt's text TOLD by the authors' own Lean function (tested against real Go, not proved from fmt's source: count such statements apart). THE CARD IS WHAT COUNTS. Prove the row's statement (the work); the ties are given (YthccpacmklhejaaGreatDoorTie.lean); close each card by the builder's one call (the guide's Derived/Test/ToyasCard.lean, 'card_holds'). Laid BY PROGRAM, IN A SANDBOX (cutbox-door.mjs). By AI agents, Wed Nov 11 2026. No macro, syntax, notation, axiom, sorry.
-/
import Derived.Test.YthccpacmklhejaaGreatDoorRows
import GoSem.ClaimSeven
namespace Go.Proofs.YthccpacmklhejaaGreatDoor
namespace Rows

/-- THE TIED CARD OF 'canallaw.Codes'. -/
def codesCard : Claim7 := { stood := { row := codesRow, standIns := [], harness := (true, "2cef7983828046f2055cf8ae45df14e2633538dca8ce71205aa885669bc0e662"), looks := false }, kinds := [], alts := [], laidByText := true, laidKinds := [.data, .data, .data], laidTests := true, laidLooks := .later }
def CodesCardSaid : Prop := Claim7.holds Tryz.pinned (.plain (OpenSpec.ofChange codesSpec)) codesCard

/-- THE TIED CARD OF 'canallaw.Folds'. -/
def foldsCard : Claim7 := { stood := { row := foldsRow, standIns := [], harness := (true, "2cef7983828046f2055cf8ae45df14e2633538dca8ce71205aa885669bc0e662"), looks := false }, kinds := [], alts := [], laidByText := true, laidKinds := [.data, .data, .data], laidTests := true, laidLooks := .later }
def FoldsCardSaid : Prop := Claim7.holds Tryz.pinned (.plain (OpenSpec.ofChange foldsSpec)) foldsCard

/-- THE TIED CARD OF 'canallaw.Jobs'. -/
def jobsCard : Claim7 := { stood := { row := jobsRow, standIns := [], harness := (true, "2cef7983828046f2055cf8ae45df14e2633538dca8ce71205aa885669bc0e662"), looks := false }, kinds := [], alts := [], laidByText := true, laidKinds := [.data, .data, .data], laidTests := true, laidLooks := .later }
def JobsCardSaid : Prop := Claim7.holds Tryz.pinned (.plain (OpenSpec.ofChange jobsSpec)) jobsCard

/-- THE SECOND FORM's CARD OF 'canallaw.Codes'. -/
def codesUptoCard : Claim7 := { stood := { row := codesUptoRow, standIns := [], harness := (true, "2cef7983828046f2055cf8ae45df14e2633538dca8ce71205aa885669bc0e662"), looks := false }, kinds := [], alts := [], laidByText := true, laidKinds := [.data, .data, .data], laidTests := true, laidLooks := .later }
def CodesUptoCardSaid : Prop := Claim7.holds Tryz.pinned (.plain (OpenSpec.upto codesSpec)) codesUptoCard

/-- THE SECOND FORM's CARD OF 'canallaw.Folds'. -/
def foldsUptoCard : Claim7 := { stood := { row := foldsUptoRow, standIns := [], harness := (true, "2cef7983828046f2055cf8ae45df14e2633538dca8ce71205aa885669bc0e662"), looks := false }, kinds := [], alts := [], laidByText := true, laidKinds := [.data, .data, .data], laidTests := true, laidLooks := .later }
def FoldsUptoCardSaid : Prop := Claim7.holds Tryz.pinned (.plain (OpenSpec.upto foldsSpec)) foldsUptoCard

/-- THE SECOND FORM's CARD OF 'canallaw.Jobs'. -/
def jobsUptoCard : Claim7 := { stood := { row := jobsUptoRow, standIns := [], harness := (true, "2cef7983828046f2055cf8ae45df14e2633538dca8ce71205aa885669bc0e662"), looks := false }, kinds := [], alts := [], laidByText := true, laidKinds := [.data, .data, .data], laidTests := true, laidLooks := .later }
def JobsUptoCardSaid : Prop := Claim7.holds Tryz.pinned (.plain (OpenSpec.upto jobsSpec)) jobsUptoCard
end Rows
end Go.Proofs.YthccpacmklhejaaGreatDoor
