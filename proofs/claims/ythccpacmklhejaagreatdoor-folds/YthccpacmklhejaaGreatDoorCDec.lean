/-
  canal.Decode.
-/
import Derived.Test.YthccpacmklhejaaGreatDoorDec
namespace Go.Proofs.YthccpacmklhejaaGreatDoor
open Go.RowKit

set_option maxHeartbeats 400000 in
theorem cdecode_long (s : ByteArray) (w : World) (h : 400 < s.size) :
    Calls Tryz.prog 38 #[.string s] w fun en w' => en = .returned (.tuple #[.slice none 0 0, .int .i64 0, .int .i64 1]) ∧ Below w.heap.size w w' := by
  go_enter Tryz.func38, Tryz.ntmps38
  go_wp2_with (go_at_call 56; refine (decode_long s _ h).mono ?_; rintro e w1 ⟨rfl, hb⟩)
  go_ret3
  exact ⟨rfl, hb⟩

set_option maxHeartbeats 400000 in
theorem cdecode_short (s : ByteArray) (w : World) (h : s.size ≤ 400) :
    Calls Tryz.prog 38 #[.string s] w fun en w' => ∃ (v : Value) (es : List Ev) (n r : Nat), en = .returned (.tuple #[v, .int .i64 (n : Int), .int .i64 (r : Int)]) ∧ Hid (Parsed s es n ∧ r = errOf s n) ∧
      w'.ownsRow w.heap.size 41 4 v es.length (evCells es) ∧ Below w.heap.size w w' := by
  go_enter Tryz.func38, Tryz.ntmps38
  go_wp2_with (go_at_call 56; refine (decode_short s _ h).mono ?_; rintro e w1 ⟨v, es, n, r, rfl, hP, hown, hb⟩)
  go_ret3
  exact ⟨v, es, n, r, rfl, hP, hown, hb⟩

end Go.Proofs.YthccpacmklhejaaGreatDoor
