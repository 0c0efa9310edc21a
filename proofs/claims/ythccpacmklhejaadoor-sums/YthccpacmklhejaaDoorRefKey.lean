/-
  canalref.tail, canalref.point, canalref.isKey.
-/
import Derived.Test.YthccpacmklhejaaDoorBase
namespace Go.Proofs.YthccpacmklhejaaDoor
open Go.RowKit

/-- The six bits of a byte that goes on; -1: it does not. -/
def tl (s : ByteArray) (i : Nat) : Int := if i < s.size ∧ 128 ≤ gb s i ∧ gb s i ≤ 191 then (gb s i : Int) - 128 else -1

/-- What point reckons. -/
def ptF (c a b d : Int) : Int × Int :=
  if c < 128 then (c, 1)
  else if 194 ≤ c ∧ c ≤ 223 ∧ 0 ≤ a then ((c - 192) * 64 + a, 2)
  else if 224 ≤ c ∧ c ≤ 239 ∧ 0 ≤ a ∧ 0 ≤ b then
    (if 2048 ≤ (c - 224) * 4096 + a * 64 + b ∧ ((c - 224) * 4096 + a * 64 + b < 55296 ∨ 57343 < (c - 224) * 4096 + a * 64 + b) then ((c - 224) * 4096 + a * 64 + b, 3) else (0, 0))
  else if 240 ≤ c ∧ c ≤ 244 ∧ 0 ≤ a ∧ 0 ≤ b ∧ 0 ≤ d then
    (if 65536 ≤ (c - 240) * 262144 + a * 4096 + b * 64 + d ∧ (c - 240) * 262144 + a * 4096 + b * 64 + d ≤ 1114111 then ((c - 240) * 262144 + a * 4096 + b * 64 + d, 4) else (0, 0))
  else (0, 0)

end Go.Proofs.YthccpacmklhejaaDoor
