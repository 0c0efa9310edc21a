/-
  (*canallaw.World).mark and keepEvents.
-/
import Derived.Test.YthccpacmklhejaaDoorSt
namespace Go.Proofs.YthccpacmklhejaaDoor
open Go.RowKit

theorem grown_trans {a b c : World} {r : Option Nat} (h : a.grownBy b r) (k : b.grownBy c r) : a.grownBy c r :=
  ⟨k.os.trans h.os, k.tape.trans h.tape, k.output.trans h.output, Nat.le_trans h.size k.size, fun i hi hne => (k.block i (Nat.lt_of_lt_of_le hi h.size) hne).trans (h.block i hi hne)⟩

/-- The four cells of one event, laid over. -/
theorem fill_list (m : Ev) : ∀ (es : List Ev) (k : Nat), k < es.length →
    ((((evCells (List.replicate k m ++ es.drop k)).set (k * 4) (.int .u8 (m.op : Int))).set (k * 4 + 1) (.string m.key)).set (k * 4 + 2) (.int .u16 (m.seq : Int))).set (k * 4 + 3) (.int .i16 m.val) = evCells (List.replicate (k + 1) m ++ es.drop (k + 1)) := by
  intro es k hk
  have hd : es.drop k = es[k] :: es.drop (k + 1) := List.drop_eq_getElem_cons hk
  have hr : List.replicate (k + 1) m = List.replicate k m ++ [m] := by rw [List.replicate_succ']
  rw [hd, hr, List.append_assoc, evCells_append, evCells_append (List.replicate k m)]
  have hlen : (evCells (List.replicate k m)).length = k * 4 := by rw [evCells_length]; simp
  have hc : ∀ (e : Ev) (r : List Ev), evCells (e :: r) = evCells1 e ++ evCells r := fun e r => by simp [evCells]
  rw [hc, List.singleton_append, hc]
  rw [List.set_append_right _ _ (by omega), List.set_append_right _ _ (by omega), List.set_append_right _ _ (by omega), List.set_append_right _ _ (by omega), hlen]
  rw [show k * 4 - k * 4 = 0 from by omega, show k * 4 + 1 - k * 4 = 1 from by omega, show k * 4 + 2 - k * 4 = 2 from by omega, show k * 4 + 3 - k * 4 = 3 from by omega]
  rfl

theorem Tryd.infoSl : (Tryd.prog.info? 71).map (fun i => (i.zero, i.size, i.bytes)) = some (some (.slice none 0 0), 1, 24) := by kernel_rfl

theorem own_ne {W : World} {wb n : Nat} {e : TypeId} {s : Nat} {v : Value} {xs : List Value} (h : W.ownsRow (wb + 1) e s v n xs) : v.ownBlock ≠ some wb := fun e => by have := (own_ge h wb e).1; omega

theorem grown_either {W1 w2 : World} {v v' : Value} (hfr : (W1.grownBy w2 none ∧ v'.ownBlock = some W1.heap.size) ∨ (W1.grownBy w2 v.ownBlock ∧ v'.ownBlock = v.ownBlock ∧ v.ownBlock ≠ none)) : W1.grownBy w2 v.ownBlock :=
  hfr.elim (fun x => grown_two x.1 (.inl rfl)) (fun x => x.1)

theorem own_shape {W : World} {B n : Nat} {e : TypeId} {s : Nat} {v : Value} {xs : List Value} (h : W.ownsRow B e s v n xs) : ∃ a c, v = .slice a n c := by
  rcases h.2 with ⟨rfl, h0⟩ | ⟨g, cap, cur, rfl, _⟩
  · exact ⟨none, 0, by rw [h0]⟩
  · exact ⟨_, _, rfl⟩

theorem ite_of {c p q : Prop} [Decidable c] (hc : c) (h : p) : if c then p else q := by rw [if_pos hc]; exact h

theorem cell_one_new (w : World) (a : Value) (t : TypeId) : ∀ j u, [a][j]? = some u → (w.alloc (.cells #[a] t)).cell? ((⟨w.heap.size, 0, none⟩ : Addr).add j) = some u := by
  intro j u hu
  cases j with
  | zero =>
    simp at hu
    subst hu
    exact box_cell (heap_alloc_new w _) 0
  | succ j => simp at hu

end Go.Proofs.YthccpacmklhejaaDoor
