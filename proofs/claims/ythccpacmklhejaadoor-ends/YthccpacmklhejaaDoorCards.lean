/-
  DERIVED. GIVEN WITH THE SEED: THE CARDS: each row of YthccpacmklhejaaDoorRows.lean that lists a variable, with what it lists TIED to the program's text (the seventh form; the later family's looks); each row that meets fmt, with fmt's text TOLD by the authors' own Lean function (tested against real Go, not proved from fmt's source: count such statements apart). THE CARD IS WHAT COUNTS. Prove the row's statement (the work); the ties are given (YthccpacmklhejaaDoorTie.lean); close each card by the builder's one call (the guide's Derived/Test/ToyasCard.lean, 'card_holds'). Laid BY PROGRAM, IN A SANDBOX (cutbox-door.mjs). By AI agents, Wed Nov 11 2026. No macro, syntax, notation, axiom, sorry.
-/
import Derived.Test.YthccpacmklhejaaDoorRows
import GoSem.ClaimSeven
namespace Go.Proofs.YthccpacmklhejaaDoor
namespace Rows

/-- THE TIED CARD OF 'canalkeep.Twice'. -/
def twiceCard : Claim7 := { stood := { row := twiceRow, standIns := [], harness := (true, "f34398509b9ce6034e962a2b85eb738d66a9b5331a3d065a46192105d1bd0bc5"), looks := false }, kinds := [], alts := [], laidByText := true, laidKinds := [.data, .data, .data], laidTests := true, laidLooks := .later }
def TwiceCardSaid : Prop := Claim7.holds Tryd.pinned (.plain (OpenSpec.ofChange twiceSpec)) twiceCard

/-- THE TIED CARD OF 'canalkeep.Apart'. -/
def apartCard : Claim7 := { stood := { row := apartRow, standIns := [], harness := (true, "f34398509b9ce6034e962a2b85eb738d66a9b5331a3d065a46192105d1bd0bc5"), looks := false }, kinds := [], alts := [], laidByText := true, laidKinds := [.data, .data, .data], laidTests := true, laidLooks := .later }
def ApartCardSaid : Prop := Claim7.holds Tryd.pinned (.plain (OpenSpec.ofChange apartSpec)) apartCard

/-- THE TIED CARD OF 'canalkeep.Sums'. -/
def sumsCard : Claim7 := { stood := { row := sumsRow, standIns := [], harness := (true, "f34398509b9ce6034e962a2b85eb738d66a9b5331a3d065a46192105d1bd0bc5"), looks := false }, kinds := [], alts := [], laidByText := true, laidKinds := [.data, .data, .data], laidTests := true, laidLooks := .later }
def SumsCardSaid : Prop := Claim7.holds Tryd.pinned (.plain (OpenSpec.ofChange sumsSpec)) sumsCard

/-- THE TIED CARD OF 'canalkeep.Waits'. -/
def waitsCard : Claim7 := { stood := { row := waitsRow, standIns := [], harness := (true, "f34398509b9ce6034e962a2b85eb738d66a9b5331a3d065a46192105d1bd0bc5"), looks := false }, kinds := [], alts := [], laidByText := true, laidKinds := [.data, .data, .data], laidTests := true, laidLooks := .later }
def WaitsCardSaid : Prop := Claim7.holds Tryd.pinned (.plain (OpenSpec.ofChange waitsSpec)) waitsCard

/-- THE TIED CARD OF 'canalkeep.Exactly'. -/
def exactlyCard : Claim7 := { stood := { row := exactlyRow, standIns := [], harness := (true, "f34398509b9ce6034e962a2b85eb738d66a9b5331a3d065a46192105d1bd0bc5"), looks := false }, kinds := [], alts := [], laidByText := true, laidKinds := [.data, .data, .data], laidTests := true, laidLooks := .later }
def ExactlyCardSaid : Prop := Claim7.holds Tryd.pinned (.plain (OpenSpec.ofChange exactlySpec)) exactlyCard

/-- THE TIED CARD OF 'canalkeep.Ends'. -/
def endsCard : Claim7 := { stood := { row := endsRow, standIns := [], harness := (true, "f34398509b9ce6034e962a2b85eb738d66a9b5331a3d065a46192105d1bd0bc5"), looks := false }, kinds := [], alts := [], laidByText := true, laidKinds := [.data, .data, .data], laidTests := true, laidLooks := .later }
def EndsCardSaid : Prop := Claim7.holds Tryd.pinned (.plain (OpenSpec.ofChange endsSpec)) endsCard

/-- THE SECOND FORM's CARD OF 'canalkeep.Twice'. -/
def twiceUptoCard : Claim7 := { stood := { row := twiceUptoRow, standIns := [], harness := (true, "f34398509b9ce6034e962a2b85eb738d66a9b5331a3d065a46192105d1bd0bc5"), looks := false }, kinds := [], alts := [], laidByText := true, laidKinds := [.data, .data, .data], laidTests := true, laidLooks := .later }
def TwiceUptoCardSaid : Prop := Claim7.holds Tryd.pinned (.plain (OpenSpec.upto twiceSpec)) twiceUptoCard

/-- THE SECOND FORM's CARD OF 'canalkeep.Apart'. -/
def apartUptoCard : Claim7 := { stood := { row := apartUptoRow, standIns := [], harness := (true, "f34398509b9ce6034e962a2b85eb738d66a9b5331a3d065a46192105d1bd0bc5"), looks := false }, kinds := [], alts := [], laidByText := true, laidKinds := [.data, .data, .data], laidTests := true, laidLooks := .later }
def ApartUptoCardSaid : Prop := Claim7.holds Tryd.pinned (.plain (OpenSpec.upto apartSpec)) apartUptoCard

/-- THE SECOND FORM's CARD OF 'canalkeep.Sums'. -/
def sumsUptoCard : Claim7 := { stood := { row := sumsUptoRow, standIns := [], harness := (true, "f34398509b9ce6034e962a2b85eb738d66a9b5331a3d065a46192105d1bd0bc5"), looks := false }, kinds := [], alts := [], laidByText := true, laidKinds := [.data, .data, .data], laidTests := true, laidLooks := .later }
def SumsUptoCardSaid : Prop := Claim7.holds Tryd.pinned (.plain (OpenSpec.upto sumsSpec)) sumsUptoCard

/-- THE SECOND FORM's CARD OF 'canalkeep.Waits'. -/
def waitsUptoCard : Claim7 := { stood := { row := waitsUptoRow, standIns := [], harness := (true, "f34398509b9ce6034e962a2b85eb738d66a9b5331a3d065a46192105d1bd0bc5"), looks := false }, kinds := [], alts := [], laidByText := true, laidKinds := [.data, .data, .data], laidTests := true, laidLooks := .later }
def WaitsUptoCardSaid : Prop := Claim7.holds Tryd.pinned (.plain (OpenSpec.upto waitsSpec)) waitsUptoCard

/-- THE SECOND FORM's CARD OF 'canalkeep.Exactly'. -/
def exactlyUptoCard : Claim7 := { stood := { row := exactlyUptoRow, standIns := [], harness := (true, "f34398509b9ce6034e962a2b85eb738d66a9b5331a3d065a46192105d1bd0bc5"), looks := false }, kinds := [], alts := [], laidByText := true, laidKinds := [.data, .data, .data], laidTests := true, laidLooks := .later }
def ExactlyUptoCardSaid : Prop := Claim7.holds Tryd.pinned (.plain (OpenSpec.upto exactlySpec)) exactlyUptoCard

/-- THE SECOND FORM's CARD OF 'canalkeep.Ends'. -/
def endsUptoCard : Claim7 := { stood := { row := endsUptoRow, standIns := [], harness := (true, "f34398509b9ce6034e962a2b85eb738d66a9b5331a3d065a46192105d1bd0bc5"), looks := false }, kinds := [], alts := [], laidByText := true, laidKinds := [.data, .data, .data], laidTests := true, laidLooks := .later }
def EndsUptoCardSaid : Prop := Claim7.holds Tryd.pinned (.plain (OpenSpec.upto endsSpec)) endsUptoCard
end Rows
end Go.Proofs.YthccpacmklhejaaDoor
