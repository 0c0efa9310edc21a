/-
  (*canallaw.World).kept: the lists that came out hold their marks.
-/
import Derived.Test.YthccpacmklhejaaDoorApp
namespace Go.Proofs.YthccpacmklhejaaDoor
open Go.RowKit

/-- A list that was kept: where it lies, how long it is, its mark. -/
structure Ent where
  a : Option Addr
  n : Nat
  c : Nat
  m : Ev

def Ent.v (x : Ent) : Value := .slice x.a x.n x.c

/-- It holds its mark all over. -/
def Holds (W : World) (B : Nat) (x : Ent) : Prop :=
  x.n = 0 ∨ ∃ g cur, x.a = some ⟨g, 0, none⟩ ∧ B ≤ g ∧ W.heap[g]? = some (.cells cur 35 (0, 0)) ∧ cur.toList.take (x.n * 4) = evCells (List.replicate x.n x.m)

theorem box_cell {W : World} {wb : Nat} {cs : Array Value} {t : TypeId} (h : W.heap[wb]? = some (.cells cs t (0, 0))) (j : Nat) : W.cell? ⟨wb, j, none⟩ = cs[j]? := cell_of_row W wb j cs t (0, 0) h

theorem mark_cells (m : Ev) (n k : Nat) (h : k < n) : (evCells (List.replicate n m))[k * 4]? = some (.int .u8 (m.op : Int)) ∧ (evCells (List.replicate n m))[k * 4 + 1]? = some (.string m.key) ∧ (evCells (List.replicate n m))[k * 4 + 2]? = some (.int .u16 (m.seq : Int)) ∧ (evCells (List.replicate n m))[k * 4 + 3]? = some (.int .i16 m.val) := by
  have := evCells_at (List.replicate n m) k (by simpa using h)
  simpa using this

theorem holds_cell {W : World} {g n k : Nat} {m : Ev} {cur : Array Value} (hg : W.heap[g]? = some (.cells cur 35 (0, 0))) (ht : cur.toList.take (n * 4) = evCells (List.replicate n m)) (h : k < n) :
    W.cell? ⟨g, k * 4, none⟩ = some (.int .u8 (m.op : Int)) ∧ W.cell? ⟨g, k * 4 + 1, none⟩ = some (.string m.key) ∧ W.cell? ⟨g, k * 4 + 2, none⟩ = some (.int .u16 (m.seq : Int)) ∧ W.cell? ⟨g, k * 4 + 3, none⟩ = some (.int .i16 m.val) := by
  have hc := mark_cells m n k h
  have hq : ∀ j, j < n * 4 → W.cell? ⟨g, j, none⟩ = (evCells (List.replicate n m))[j]? := by
    intro j hj
    rw [box_cell hg, ← ht, List.getElem?_take, if_pos hj]
    simp
  exact ⟨(hq _ (by omega)).trans hc.1, (hq _ (by omega)).trans hc.2.1, (hq _ (by omega)).trans hc.2.2.1, (hq _ (by omega)).trans hc.2.2.2⟩

theorem drewN_twice (w : World) (a b : Nat) : ∃ n, (w.drewN a).drewN b = w.drewN n := ⟨a + b, by simp [World.drewN, Nat.add_assoc]⟩

end Go.Proofs.YthccpacmklhejaaDoor
