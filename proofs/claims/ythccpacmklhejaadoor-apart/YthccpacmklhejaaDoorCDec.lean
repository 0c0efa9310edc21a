/-
  canal.Decode.
-/
import Derived.Test.YthccpacmklhejaaDoorDec
namespace Go.Proofs.YthccpacmklhejaaDoor
open Go.RowKit

end Go.Proofs.YthccpacmklhejaaDoor
