/-
  canalref.begins, canalref.Decode.
-/
import Derived.Test.YthccpacmklhejaaDoorRefEnc3
namespace Go.Proofs.YthccpacmklhejaaDoor
open Go.RowKit

theorem gb_extract (s : ByteArray) (n i : Nat) : gb (s.extract n s.size) i = gb s (n + i) := by
  unfold gb
  rw [extract_list, List.take_of_length_le (by rw [List.length_drop, size_list]; omega), List.getD_eq_getElem?_getD, List.getD_eq_getElem?_getD, List.getElem?_drop]

end Go.Proofs.YthccpacmklhejaaDoor
