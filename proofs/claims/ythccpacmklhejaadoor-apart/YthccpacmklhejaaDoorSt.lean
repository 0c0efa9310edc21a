/-
  What (*canallaw.World).keepEvents keeps up from step to step.
-/
import Derived.Test.YthccpacmklhejaaDoorKept
namespace Go.Proofs.YthccpacmklhejaaDoor
open Go.RowKit

/-- The block of a row that is owned. -/
theorem own_heap {W : World} {B n : Nat} {e : TypeId} {s : Nat} {v : Value} {xs : List Value} (h : W.ownsRow B e s v n xs) {g : Nat} (hg : v.ownBlock = some g) : ∃ cur, W.heap[g]? = some (.cells cur e (0, 0)) ∧ B ≤ g ∧ cur.toList.take (n * s) = xs ∧ v = .slice (some ⟨g, 0, none⟩) n (match v with | .slice _ _ c => c | _ => 0) := by
  rcases h.2 with ⟨rfl, _⟩ | ⟨g', cap, cur, rfl, hb, hh, _, _, _, ht⟩
  · simp [Value.ownBlock] at hg
  · simp [Value.ownBlock] at hg
    subst hg
    exact ⟨cur, hh, hb, ht, rfl⟩

theorem heap_lt {W : World} {g : Nat} {o : Obj} (h : W.heap[g]? = some o) : g < W.heap.size := (Array.getElem?_eq_some_iff.1 h).1

/-- Rows of two types lie apart. -/
theorem own_apart {W : World} {B B' n n' : Nat} {e e' : TypeId} {s s' : Nat} {v v' : Value} {xs xs' : List Value} (h : W.ownsRow B e s v n xs) (h' : W.ownsRow B' e' s' v' n' xs') (hne : e ≠ e') : ∀ g, v.ownBlock = some g → v'.ownBlock ≠ some g := by
  intro g hg hg'
  obtain ⟨cur, h1, _⟩ := own_heap h hg
  obtain ⟨cur', h2, _⟩ := own_heap h' hg'
  rw [h1] at h2
  simp at h2
  exact hne h2.2

theorem own_kept {W W' : World} {row : Option Nat} {B n : Nat} {e : TypeId} {s : Nat} {v : Value} {xs : List Value} (h : W.ownsRow B e s v n xs) (hg : W.grownBy W' row) (hne : ∀ g, v.ownBlock = some g → row ≠ some g) : W'.ownsRow B e s v n xs := by
  refine h.kept hg ?_
  cases hv : v.ownBlock with
  | none => left; rfl
  | some g => right; exact fun h => hne g hv h.symm

theorem holds_kept {W W' : World} {row : Option Nat} {B : Nat} {x : Ent} (h : Holds W B x) (hg : W.grownBy W' row) (hne : ∀ g, x.a = some ⟨g, 0, none⟩ → x.n ≠ 0 → row ≠ some g) : Holds W' B x := by
  rcases h with h0 | ⟨g, cur, ha, hb, hh, ht⟩
  · exact .inl h0
  · by_cases h0 : x.n = 0
    · exact .inl h0
    · exact .inr ⟨g, cur, ha, hb, by rw [hg.block g (heap_lt hh) (fun h => hne g ha h0 h.symm)]; exact hh, ht⟩

theorem evCells_length (es : List Ev) : (evCells es).length = es.length * 4 := by
  induction es with
  | nil => rfl
  | cons e es ih => simp [evCells, evCells1] at ih ⊢; omega

theorem grown_set (W : World) (wb j : Nat) (u : Value) : W.grownBy (W.setCell ⟨wb, j, none⟩ u) (some wb) :=
  ⟨rfl, rfl, rfl, by simp [World.setCell], fun k _ hne => Below.heap_setCell W ⟨wb, j, none⟩ u k (fun h => hne (by rw [h]))⟩

theorem grown_two {w w' : World} {row r : Option Nat} (h : w.grownBy w' r) (hr : r = none ∨ r = row) : w.grownBy w' row := by
  rcases hr with rfl | rfl
  · exact ⟨h.os, h.tape, h.output, h.size, fun k hk _ => h.block k hk (by simp)⟩
  · exact h

/-- Behind a store into the box. -/
theorem box_set {W : World} {wb j : Nat} {cs : Array Value} {t : TypeId} (h : W.heap[wb]? = some (.cells cs t (0, 0))) (u : Value) : (W.setCell ⟨wb, j, none⟩ u).heap[wb]? = some (.cells (cs.setIfInBounds j u) t (0, 0)) := by
  simp only [World.setCell, Array.getElem?_modify, if_true, h]
  simp

theorem own_ge {W : World} {B n : Nat} {e : TypeId} {s : Nat} {v : Value} {xs : List Value} (h : W.ownsRow B e s v n xs) : ∀ g, v.ownBlock = some g → B ≤ g ∧ g < W.heap.size := fun g hg => h.lt g hg

/-- From a world to a later one in which two blocks alone may have turned: row, and the box. -/
theorem own_kept2 {W w2 : World} {row : Option Nat} {wb j n : Nat} {u : Value} {e : TypeId} {s : Nat} {v : Value} {xs : List Value} (h : W.ownsRow (wb + 1) e s v n xs) (hg : W.grownBy w2 row) (hne : ∀ g, v.ownBlock = some g → row ≠ some g) :
    (w2.setCell ⟨wb, j, none⟩ u).ownsRow (wb + 1) e s v n xs := by
  refine own_kept (own_kept h hg hne) (grown_set w2 wb j u) fun g hv e => ?_
  have := (own_ge h g hv).1
  simp at e
  omega

theorem holds_kept2 {W w2 : World} {row : Option Nat} {wb j : Nat} {u : Value} {x : Ent} (h : Holds W (wb + 1) x) (hg : W.grownBy w2 row) (hne : ∀ g, x.a = some ⟨g, 0, none⟩ → x.n ≠ 0 → row ≠ some g) : Holds (w2.setCell ⟨wb, j, none⟩ u) (wb + 1) x := by
  refine holds_kept (holds_kept h hg hne) (grown_set w2 wb j u) fun g ha h0 e => ?_
  rcases h with h' | ⟨g', cur, ha', hb, _⟩
  · exact h0 h'
  · rw [ha] at ha'
    simp at ha' e
    omega

theorem heap_kept2 {W w2 : World} {row : Option Nat} {wb j b : Nat} {u : Value} {o : Obj} (h : W.heap[b]? = some o) (hg : W.grownBy w2 row) (hne : row ≠ some b) (hb : b ≠ wb) : (w2.setCell ⟨wb, j, none⟩ u).heap[b]? = some o := by
  rw [Below.heap_setCell w2 ⟨wb, j, none⟩ u b hb, hg.block b (heap_lt h) (fun e => hne e.symm)]
  exact h

theorem holds_own {W : World} {B n c : Nat} {a : Option Addr} {m : Ev} (h : W.ownsRow B 35 4 (.slice a n c) n (evCells (List.replicate n m))) : Holds W B ⟨a, n, c, m⟩ := by
  rcases h.2 with ⟨_, h0⟩ | ⟨g, cap, cur, hv, hb, hh, _, _, _, ht⟩
  · exact .inl h0
  · simp at hv
    exact .inr ⟨g, cur, hv.1, hb, hh, ht⟩

theorem ownBlock_some (a : Option Addr) (n c g : Nat) (h : (Value.slice a n c).ownBlock ≠ some g) : a ≠ some ⟨g, 0, none⟩ := by
  intro e
  subst e
  exact h rfl

end Go.Proofs.YthccpacmklhejaaDoor
