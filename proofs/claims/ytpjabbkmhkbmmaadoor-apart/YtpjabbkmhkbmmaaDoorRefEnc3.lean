/-
  canalref.Encode, canalref.number, canalref.begins, canalref.Decode.
-/
import Derived.Test.YtpjabbkmhkbmmaaDoorRefEnc2
import Derived.Deep.QuietTactic
import Derived.BigQuiet
namespace Go.Proofs.YtpjabbkmhkbmmaaDoor
open Go.RowKit

end Go.Proofs.YtpjabbkmhkbmmaaDoor
