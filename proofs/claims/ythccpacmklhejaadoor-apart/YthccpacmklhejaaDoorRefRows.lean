/-
  canalref.groupOf, place, rows.
-/
import Derived.Test.YthccpacmklhejaaDoorRefFold
namespace Go.Proofs.YthccpacmklhejaaDoor
open Go.RowKit

/-- A group's row. -/
structure RowV where
  pt : Nat
  tx : ByteArray
  live : Nat
  sum : Int
  ev : Nat

def rowCells1 (r : RowV) : List Value := [.int .i64 (r.pt : Int), .string r.tx, .int .i64 (r.live : Int), .int .i64 r.sum, .int .i64 (r.ev : Int)]
def rowCells (rs : List RowV) : List Value := rs.flatMap rowCells1

theorem rowCells_length (rs : List RowV) : (rowCells rs).length = rs.length * 5 := by
  induction rs with
  | nil => rfl
  | cons r rs ih => simp [rowCells, rowCells1] at ih ⊢; omega

theorem rowCells_append (rs ts : List RowV) : rowCells (rs ++ ts) = rowCells rs ++ rowCells ts := by simp [rowCells]

theorem rowCells_at : ∀ (rs : List RowV) (k : Nat) (h : k < rs.length) (j : Nat), j < 5 → (rowCells rs)[k * 5 + j]? = (rowCells1 rs[k])[j]?
  | r :: rs, 0, _, j, hj => by
    simp only [rowCells, List.flatMap_cons, Nat.zero_mul, Nat.zero_add, List.getElem_cons_zero]
    rw [List.getElem?_append_left (by simp [rowCells1]; omega)]
  | r :: rs, k + 1, h, j, hj => by
    have ih := rowCells_at rs k (by simpa using h) j hj
    simp only [rowCells, List.flatMap_cons, List.getElem_cons_succ] at ih ⊢
    rw [List.getElem?_append_right (by simp [rowCells1]; omega), ← ih]
    congr 1
    simp [rowCells1]
    omega

/-- The place of a group's row. -/
def placeS (rs : List RowV) (p : Nat) : Nat := rs.findIdx (fun r => decide (r.pt = p))

/-- The group of a key. -/
def grp (key : ByteArray) : Nat × ByteArray := ((ptS key 0).1, key.extract 0 (ptS key 0).2)

theorem ptS_le (s : ByteArray) (h : 0 < s.size) : (ptS s 0).2 ≤ s.size := by
  by_cases h0 : (ptS s 0).2 = 0
  · omega
  · have := ((ok_step s 0 0 h).2 h0).2
    omega

end Go.Proofs.YthccpacmklhejaaDoor
