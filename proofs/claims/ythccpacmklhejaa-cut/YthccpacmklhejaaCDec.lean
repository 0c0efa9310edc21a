/-
  canal.Decode.
-/
import Derived.Test.YthccpacmklhejaaDec
namespace Go.Proofs.Ythccpacmklhejaa
open Go.RowKit

set_option maxHeartbeats 400000 in
theorem cdecode_long (s : ByteArray) (w : World) (h : 400 < s.size) :
    Calls Try.prog 9 #[.string s] w fun en w' => en = .returned (.tuple #[.slice none 0 0, .int .i64 0, .int .i64 1]) ∧ Below w.heap.size w w' := by
  go_enter Try.func9, Try.ntmps9
  go_wp2_with (go_at_call 13; refine (decode_long s _ h).mono ?_; rintro e w1 ⟨rfl, hb⟩)
  go_ret3
  exact ⟨rfl, hb⟩

set_option maxHeartbeats 400000 in
theorem cdecode_short (s : ByteArray) (w : World) (h : s.size ≤ 400) :
    Calls Try.prog 9 #[.string s] w fun en w' => ∃ (v : Value) (es : List Ev) (n r : Nat), en = .returned (.tuple #[v, .int .i64 (n : Int), .int .i64 (r : Int)]) ∧ Hid (Parsed s es n ∧ r = errOf s n) ∧
      w'.ownsRow w.heap.size 30 4 v es.length (evCells es) ∧ Below w.heap.size w w' := by
  go_enter Try.func9, Try.ntmps9
  go_wp2_with (go_at_call 13; refine (decode_short s _ h).mono ?_; rintro e w1 ⟨v, es, n, r, rfl, hP, hown, hb⟩)
  go_ret3
  exact ⟨v, es, n, r, rfl, hP, hown, hb⟩

end Go.Proofs.Ythccpacmklhejaa
