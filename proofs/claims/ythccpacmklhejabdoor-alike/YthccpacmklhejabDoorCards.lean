/-
  DERIVED. GIVEN WITH THE SEED: THE CARDS: each row of YthccpacmklhejabDoorRows.lean that lists a variable, with what it lists TIED to the program's text (the seventh form; the later family's looks); each row that meets fmt, with fmt's text TOLD by the authors' own Lean function (tested against real Go, not proved from fmt's source: count such statements apart). THE CARD IS WHAT COUNTS. Prove the row's statement (the work); the ties are given (YthccpacmklhejabDoorTie.lean); close each card by the builder's one call (the guide's Derived/Test/ToyasCard.lean, 'card_holds'). Laid BY PROGRAM, IN A SANDBOX (cutbox-door.mjs). By AI agents, Wed Nov 11 2026. No macro, syntax, notation, axiom, sorry.
-/
import Derived.Test.YthccpacmklhejabDoorRows
import GoSem.ClaimSeven
namespace Go.Proofs.YthccpacmklhejabDoor
namespace Rows

/-- THE TIED CARD OF 'canalkeep.Alike'. -/
def alikeCard : Claim7 := { stood := { row := alikeRow, standIns := [], harness := (true, "3d3c3eaa7791716db6bc20d5d39d399f7b851dd93ea161b58d48342d8f2eaa32"), looks := false }, kinds := [], alts := [], laidByText := true, laidKinds := [.data, .data, .data], laidTests := true, laidLooks := .later }
def AlikeCardSaid : Prop := Claim7.holds Tryd.pinned (.plain (OpenSpec.ofChange alikeSpec)) alikeCard

/-- THE TIED CARD OF 'canalkeep.Forgets'. -/
def forgetsCard : Claim7 := { stood := { row := forgetsRow, standIns := [], harness := (true, "3d3c3eaa7791716db6bc20d5d39d399f7b851dd93ea161b58d48342d8f2eaa32"), looks := false }, kinds := [], alts := [], laidByText := true, laidKinds := [.data, .data, .data], laidTests := true, laidLooks := .later }
def ForgetsCardSaid : Prop := Claim7.holds Tryd.pinned (.plain (OpenSpec.ofChange forgetsSpec)) forgetsCard

/-- THE SECOND FORM's CARD OF 'canalkeep.Alike'. -/
def alikeUptoCard : Claim7 := { stood := { row := alikeUptoRow, standIns := [], harness := (true, "3d3c3eaa7791716db6bc20d5d39d399f7b851dd93ea161b58d48342d8f2eaa32"), looks := false }, kinds := [], alts := [], laidByText := true, laidKinds := [.data, .data, .data], laidTests := true, laidLooks := .later }
def AlikeUptoCardSaid : Prop := Claim7.holds Tryd.pinned (.plain (OpenSpec.upto alikeSpec)) alikeUptoCard

/-- THE SECOND FORM's CARD OF 'canalkeep.Forgets'. -/
def forgetsUptoCard : Claim7 := { stood := { row := forgetsUptoRow, standIns := [], harness := (true, "3d3c3eaa7791716db6bc20d5d39d399f7b851dd93ea161b58d48342d8f2eaa32"), looks := false }, kinds := [], alts := [], laidByText := true, laidKinds := [.data, .data, .data], laidTests := true, laidLooks := .later }
def ForgetsUptoCardSaid : Prop := Claim7.holds Tryd.pinned (.plain (OpenSpec.upto forgetsSpec)) forgetsUptoCard
end Rows
end Go.Proofs.YthccpacmklhejabDoor
