/-
  canalref.Encode, canalref.number, canalref.begins, canalref.Decode.
-/
import Derived.Test.YthccpacmklhejaaDoorRefEnc2
import Derived.Deep.QuietTactic
import Derived.BigQuiet
namespace Go.Proofs.YthccpacmklhejaaDoor
open Go.RowKit

end Go.Proofs.YthccpacmklhejaaDoor
