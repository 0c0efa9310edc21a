/-
  canal.Decode.
-/
import Derived.Test.YtpjabbkmhkbmmaaDoorDec
namespace Go.Proofs.YtpjabbkmhkbmmaaDoor
open Go.RowKit

end Go.Proofs.YtpjabbkmhkbmmaaDoor
