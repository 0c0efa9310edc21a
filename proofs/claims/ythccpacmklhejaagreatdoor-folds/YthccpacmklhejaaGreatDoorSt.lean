/-
  What (*canallaw.World).keepEvents keeps up from step to step.
-/
import Derived.Test.YthccpacmklhejaaGreatDoorKept
namespace Go.Proofs.YthccpacmklhejaaGreatDoor
open Go.RowKit

structure St (W : World) (wb : Nat) (E : List Ent) (M : List Ev) (cnt : Nat) (ve vm l : Value) (n : Nat) (m : Ev) (mb : Nat) : Prop where
  box : W.heap[wb]? = some (.cells #[.slice none 0 0, .slice none 0 0, .slice none 0 0, ve, .slice none 0 0, vm, .int .i64 (cnt : Int)] 37 (0, 0))
  evs : W.ownsRow (wb + 1) 35 1 ve E.length (E.map Ent.v)
  mks : W.ownsRow (wb + 1) 41 4 vm M.length (evCells M)
  all : ∀ x ∈ E, Holds W (wb + 1) x ∧ x.n ≤ 1000 ∧ (x.n = 0 ∨ ∀ g, vm.ownBlock = some g → x.a ≠ some ⟨g, 0, none⟩)
  lrow : W.ownsRow (wb + 1) 41 4 l n (evCells (List.replicate n m))
  lent : ∀ x ∈ E, x.n = 0 ∨ (∀ g, l.ownBlock = some g → x.a ≠ some ⟨g, 0, none⟩) ∨ (x.m = m ∧ x.n ≤ n)
  lvm : ∀ g, vm.ownBlock = some g → l.ownBlock ≠ some g
  mbox : W.heap[mb]? = some (.cells #[.int .u8 (m.op : Int), .string m.key, .int .u16 (m.seq : Int), .int .i16 m.val] 41 (0, 0))
  mblt : wb + 1 ≤ mb
  mbvm : vm.ownBlock ≠ some mb
  mbl : l.ownBlock ≠ some mb

/-- The block of a row that is owned. -/
theorem own_heap {W : World} {B n : Nat} {e : TypeId} {s : Nat} {v : Value} {xs : List Value} (h : W.ownsRow B e s v n xs) {g : Nat} (hg : v.ownBlock = some g) : ∃ cur, W.heap[g]? = some (.cells cur e (0, 0)) ∧ B ≤ g ∧ cur.toList.take (n * s) = xs ∧ v = .slice (some ⟨g, 0, none⟩) n (match v with | .slice _ _ c => c | _ => 0) := by
  rcases h.2 with ⟨rfl, _⟩ | ⟨g', cap, cur, rfl, hb, hh, _, _, _, ht⟩
  · simp [Value.ownBlock] at hg
  · simp [Value.ownBlock] at hg
    subst hg
    exact ⟨cur, hh, hb, ht, rfl⟩

theorem heap_lt {W : World} {g : Nat} {o : Obj} (h : W.heap[g]? = some o) : g < W.heap.size := (Array.getElem?_eq_some_iff.1 h).1

/-- Rows of two types lie apart. -/
theorem own_apart {W : World} {B B' n n' : Nat} {e e' : TypeId} {s s' : Nat} {v v' : Value} {xs xs' : List Value} (h : W.ownsRow B e s v n xs) (h' : W.ownsRow B' e' s' v' n' xs') (hne : e ≠ e') : ∀ g, v.ownBlock = some g → v'.ownBlock ≠ some g := by
  intro g hg hg'
  obtain ⟨cur, h1, _⟩ := own_heap h hg
  obtain ⟨cur', h2, _⟩ := own_heap h' hg'
  rw [h1] at h2
  simp at h2
  exact hne h2.2

theorem own_kept {W W' : World} {row : Option Nat} {B n : Nat} {e : TypeId} {s : Nat} {v : Value} {xs : List Value} (h : W.ownsRow B e s v n xs) (hg : W.grownBy W' row) (hne : ∀ g, v.ownBlock = some g → row ≠ some g) : W'.ownsRow B e s v n xs := by
  refine h.kept hg ?_
  cases hv : v.ownBlock with
  | none => left; rfl
  | some g => right; exact fun h => hne g hv h.symm

theorem holds_kept {W W' : World} {row : Option Nat} {B : Nat} {x : Ent} (h : Holds W B x) (hg : W.grownBy W' row) (hne : ∀ g, x.a = some ⟨g, 0, none⟩ → x.n ≠ 0 → row ≠ some g) : Holds W' B x := by
  rcases h with h0 | ⟨g, cur, ha, hb, hh, ht⟩
  · exact .inl h0
  · by_cases h0 : x.n = 0
    · exact .inl h0
    · exact .inr ⟨g, cur, ha, hb, by rw [hg.block g (heap_lt hh) (fun h => hne g ha h0 h.symm)]; exact hh, ht⟩

theorem evCells_length (es : List Ev) : (evCells es).length = es.length * 4 := by
  induction es with
  | nil => rfl
  | cons e es ih => simp [evCells, evCells1] at ih ⊢; omega

/-- A step that turns nothing of all this. -/
theorem St.keep {W W' : World} {row : Option Nat} {wb : Nat} {E : List Ent} {M : List Ev} {cnt : Nat} {ve vm l : Value} {n : Nat} {m : Ev} {mb : Nat} (h : St W wb E M cnt ve vm l n m mb) (hg : W.grownBy W' row)
    (hrow : ∀ g, row = some g → g ≠ wb ∧ ve.ownBlock ≠ some g ∧ vm.ownBlock ≠ some g ∧ l.ownBlock ≠ some g ∧ g ≠ mb ∧ ∀ x ∈ E, x.n ≠ 0 → x.a ≠ some ⟨g, 0, none⟩) : St W' wb E M cnt ve vm l n m mb := by
  refine ⟨?_, ?_, ?_, ?_, ?_, h.lent, h.lvm, ?_, h.mblt, h.mbvm, h.mbl⟩
  · rw [hg.block wb (heap_lt h.box) (fun e => (hrow wb e.symm).1 rfl)]; exact h.box
  · exact own_kept h.evs hg fun g hv e => (hrow g e).2.1 hv
  · exact own_kept h.mks hg fun g hv e => (hrow g e).2.2.1 hv
  · intro x hx
    obtain ⟨h1, h2, h3⟩ := h.all x hx
    exact ⟨holds_kept h1 hg fun g ha h0 e => (hrow g e).2.2.2.2.2 x hx h0 ha, h2, h3⟩
  · exact own_kept h.lrow hg fun g hv e => (hrow g e).2.2.2.1 hv
  · rw [hg.block mb (heap_lt h.mbox) (fun e => (hrow mb e.symm).2.2.2.2.1 rfl)]; exact h.mbox

theorem St.alloc {W : World} {wb : Nat} {E : List Ent} {M : List Ev} {cnt : Nat} {ve vm l : Value} {n : Nat} {m : Ev} {mb : Nat} (h : St W wb E M cnt ve vm l n m mb) (o : Obj) : St (W.alloc o) wb E M cnt ve vm l n m mb :=
  h.keep (World.grownBy_alloc W o none) (fun g hg => by cases hg)

theorem St.drew {W : World} {wb : Nat} {E : List Ent} {M : List Ev} {cnt : Nat} {ve vm l : Value} {n : Nat} {m : Ev} {mb : Nat} (h : St W wb E M cnt ve vm l n m mb) : St W.drew wb E M cnt ve vm l n m mb :=
  h.keep (row := none) ⟨rfl, rfl, rfl, Nat.le_refl _, fun _ _ _ => rfl⟩ (fun g hg => by cases hg)

theorem grown_set (W : World) (wb j : Nat) (u : Value) : W.grownBy (W.setCell ⟨wb, j, none⟩ u) (some wb) :=
  ⟨rfl, rfl, rfl, by simp [World.setCell], fun k _ hne => Below.heap_setCell W ⟨wb, j, none⟩ u k (fun h => hne (by rw [h]))⟩

theorem grown_two {w w' : World} {row r : Option Nat} (h : w.grownBy w' r) (hr : r = none ∨ r = row) : w.grownBy w' row := by
  rcases hr with rfl | rfl
  · exact ⟨h.os, h.tape, h.output, h.size, fun k hk _ => h.block k hk (by simp)⟩
  · exact h

/-- Behind a store into the box. -/
theorem box_set {W : World} {wb j : Nat} {cs : Array Value} {t : TypeId} (h : W.heap[wb]? = some (.cells cs t (0, 0))) (u : Value) : (W.setCell ⟨wb, j, none⟩ u).heap[wb]? = some (.cells (cs.setIfInBounds j u) t (0, 0)) := by
  simp only [World.setCell, Array.getElem?_modify, if_true, h]
  simp

theorem own_ge {W : World} {B n : Nat} {e : TypeId} {s : Nat} {v : Value} {xs : List Value} (h : W.ownsRow B e s v n xs) : ∀ g, v.ownBlock = some g → B ≤ g ∧ g < W.heap.size := fun g hg => h.lt g hg

/-- From a world to a later one in which two blocks alone may have turned: row, and the box. -/
theorem own_kept2 {W w2 : World} {row : Option Nat} {wb j n : Nat} {u : Value} {e : TypeId} {s : Nat} {v : Value} {xs : List Value} (h : W.ownsRow (wb + 1) e s v n xs) (hg : W.grownBy w2 row) (hne : ∀ g, v.ownBlock = some g → row ≠ some g) :
    (w2.setCell ⟨wb, j, none⟩ u).ownsRow (wb + 1) e s v n xs := by
  refine own_kept (own_kept h hg hne) (grown_set w2 wb j u) fun g hv e => ?_
  have := (own_ge h g hv).1
  simp at e
  omega

theorem holds_kept2 {W w2 : World} {row : Option Nat} {wb j : Nat} {u : Value} {x : Ent} (h : Holds W (wb + 1) x) (hg : W.grownBy w2 row) (hne : ∀ g, x.a = some ⟨g, 0, none⟩ → x.n ≠ 0 → row ≠ some g) : Holds (w2.setCell ⟨wb, j, none⟩ u) (wb + 1) x := by
  refine holds_kept (holds_kept h hg hne) (grown_set w2 wb j u) fun g ha h0 e => ?_
  rcases h with h' | ⟨g', cur, ha', hb, _⟩
  · exact h0 h'
  · rw [ha] at ha'
    simp at ha' e
    omega

theorem heap_kept2 {W w2 : World} {row : Option Nat} {wb j b : Nat} {u : Value} {o : Obj} (h : W.heap[b]? = some o) (hg : W.grownBy w2 row) (hne : row ≠ some b) (hb : b ≠ wb) : (w2.setCell ⟨wb, j, none⟩ u).heap[b]? = some o := by
  rw [Below.heap_setCell w2 ⟨wb, j, none⟩ u b hb, hg.block b (heap_lt h) (fun e => hne e.symm)]
  exact h

theorem holds_own {W : World} {B n c : Nat} {a : Option Addr} {m : Ev} (h : W.ownsRow B 41 4 (.slice a n c) n (evCells (List.replicate n m))) : Holds W B ⟨a, n, c, m⟩ := by
  rcases h.2 with ⟨_, h0⟩ | ⟨g, cap, cur, hv, hb, hh, _, _, _, ht⟩
  · exact .inl h0
  · simp at hv
    exact .inr ⟨g, cur, hv.1, hb, hh, ht⟩

theorem ownBlock_some (a : Option Addr) (n c g : Nat) (h : (Value.slice a n c).ownBlock ≠ some g) : a ≠ some ⟨g, 0, none⟩ := by
  intro e
  subst e
  exact h rfl

/-- w.events = append(w.events, l). -/
theorem St.stepA {W1 w2 : World} {wb : Nat} {E : List Ent} {M : List Ev} {cnt : Nat} {ve vm : Value} {la : Option Addr} {n lc : Nat} {m : Ev} {mb : Nat} {ve' : Value}
    (h : St W1 wb E M cnt ve vm (.slice la n lc) n m mb) (hn : n ≤ 1000) (hown : w2.ownsRow (wb + 1) 35 1 ve' (E.length + 1) (E.map Ent.v ++ [.slice la n lc]))
    (hfr : (W1.grownBy w2 none ∧ ve'.ownBlock = some W1.heap.size) ∨ (W1.grownBy w2 ve.ownBlock ∧ ve'.ownBlock = ve.ownBlock ∧ ve.ownBlock ≠ none)) :
    St (w2.setCell ⟨wb, 3, none⟩ ve') wb (E ++ [⟨la, n, lc, m⟩]) M cnt ve' vm (.slice la n lc) n m mb := by
  have hg : W1.grownBy w2 ve.ownBlock := hfr.elim (fun x => grown_two x.1 (.inl rfl)) (fun x => x.1)
  have hvw : ve.ownBlock ≠ some wb := fun e => by have := (own_ge h.evs wb e).1; omega
  have hrow := own_kept2 (j := 3) (u := ve') h.lrow hg (fun g hv e => own_apart h.evs h.lrow (by decide) g e hv)
  have hnm : ∀ g cur, ve.ownBlock = some g → W1.heap[g]? ≠ some (.cells cur 41 (0, 0)) := by
    intro g cur hv hh
    obtain ⟨c2, h2, _⟩ := own_heap h.evs hv
    rw [h2] at hh
    simp at hh
  have hwb : w2.heap[wb]? = some (.cells #[.slice none 0 0, .slice none 0 0, .slice none 0 0, ve, .slice none 0 0, vm, .int .i64 (cnt : Int)] 37 (0, 0)) := by
    rw [hg.block wb (heap_lt h.box) (fun e => hvw e.symm)]; exact h.box
  refine ⟨?_, ?_, ?_, ?_, hrow, ?_, h.lvm, ?_, h.mblt, h.mbvm, h.mbl⟩
  · exact box_set hwb ve'
  · have := own_kept hown (grown_set w2 wb 3 ve') (fun g hv e => by have := (own_ge hown g hv).1; simp at e; omega)
    simpa [Ent.v] using this
  · exact own_kept2 h.mks hg (fun g hv e => own_apart h.evs h.mks (by decide) g e hv)
  · intro x hx
    rcases List.mem_append.1 hx with hx | hx
    · obtain ⟨h1, h2, h3⟩ := h.all x hx
      refine ⟨holds_kept2 h1 hg (fun g ha h0 e => ?_), h2, h3⟩
      rcases h1 with h' | ⟨g', cur, ha', _, hh, _⟩
      · exact h0 h'
      · rw [ha] at ha'
        simp at ha'
        subst ha'
        exact hnm g cur e hh
    · simp at hx
      subst hx
      exact ⟨holds_own hrow, hn, .inr fun g hv => ownBlock_some la n lc g (h.lvm g hv)⟩
  · intro x hx
    rcases List.mem_append.1 hx with hx | hx
    · exact h.lent x hx
    · simp at hx
      subst hx
      exact .inr (.inr ⟨rfl, Nat.le_refl _⟩)
  · exact heap_kept2 h.mbox hg (fun e => hnm mb _ e h.mbox) (by have := h.mblt; omega)

/-- w.m2 = append(w.m2, m). -/
theorem St.stepB {W1 w2 : World} {wb : Nat} {E : List Ent} {M : List Ev} {cnt : Nat} {ve vm l : Value} {n : Nat} {m : Ev} {mb : Nat} {vm' : Value}
    (h : St W1 wb E M cnt ve vm l n m mb) (hown : w2.ownsRow (wb + 1) 41 4 vm' (M.length + 1) (evCells M ++ evCells1 m))
    (hfr : (W1.grownBy w2 none ∧ vm'.ownBlock = some W1.heap.size) ∨ (W1.grownBy w2 vm.ownBlock ∧ vm'.ownBlock = vm.ownBlock ∧ vm.ownBlock ≠ none)) :
    St (w2.setCell ⟨wb, 5, none⟩ vm') wb E (M ++ [m]) cnt ve vm' l n m mb := by
  have hg : W1.grownBy w2 vm.ownBlock := hfr.elim (fun x => grown_two x.1 (.inl rfl)) (fun x => x.1)
  have hvw : vm.ownBlock ≠ some wb := fun e => by have := (own_ge h.mks wb e).1; omega
  have hwb : w2.heap[wb]? = some (.cells #[.slice none 0 0, .slice none 0 0, .slice none 0 0, ve, .slice none 0 0, vm, .int .i64 (cnt : Int)] 37 (0, 0)) := by
    rw [hg.block wb (heap_lt h.box) (fun e => hvw e.symm)]; exact h.box
  have hnew : ∀ g, vm'.ownBlock = some g → vm.ownBlock = some g ∨ g = W1.heap.size := by
    intro g hv
    rcases hfr with ⟨_, e⟩ | ⟨_, e, _⟩
    · right; rw [e] at hv; simp at hv; exact hv.symm
    · left; rw [← e]; exact hv
  refine ⟨?_, ?_, ?_, ?_, ?_, h.lent, ?_, ?_, h.mblt, ?_, h.mbl⟩
  · exact box_set hwb vm'
  · exact own_kept2 h.evs hg (fun g hv e => own_apart h.mks h.evs (by decide) g e hv)
  · have := own_kept hown (grown_set w2 wb 5 vm') (fun g hv e => by have := (own_ge hown g hv).1; simp at e; omega)
    simpa [evCells_append, evCells_one] using this
  · intro x hx
    obtain ⟨h1, h2, h3⟩ := h.all x hx
    refine ⟨holds_kept2 h1 hg (fun g ha h0 e => ?_), h2, ?_⟩
    · rcases h3 with h' | h'
      · exact h0 h'
      · exact h' g e ha
    · rcases h3 with h' | h'
      · exact .inl h'
      · rcases h1 with h0 | ⟨g', cur, ha', _, hh, _⟩
        · exact .inl h0
        · right
          intro g hv ha
          rcases hnew g hv with e | e
          · exact h' g e ha
          · rw [ha] at ha'
            simp at ha'
            have := heap_lt hh
            omega
  · exact own_kept2 h.lrow hg (fun g hv e => h.lvm g e hv)
  · intro g hv hl
    rcases hnew g hv with e | e
    · exact h.lvm g e hl
    · have := (own_ge h.lrow g hl).2
      omega
  · exact heap_kept2 h.mbox hg h.mbvm (by have := h.mblt; omega)
  · intro e
    rcases hnew mb e with e' | e'
    · exact h.mbvm e'
    · have := heap_lt h.mbox
      omega

/-- g := append(l, m). -/
theorem St.stepC {W1 w2 : World} {wb : Nat} {E : List Ent} {M : List Ev} {cnt : Nat} {ve vm l : Value} {n : Nat} {m : Ev} {mb : Nat} {l' : Value}
    (h : St W1 wb E M cnt ve vm l n m mb) (hown : w2.ownsRow (wb + 1) 41 4 l' (n + 1) (evCells (List.replicate (n + 1) m)))
    (hfr : (W1.grownBy w2 none ∧ l'.ownBlock = some W1.heap.size) ∨ (W1.grownBy w2 l.ownBlock ∧ l'.ownBlock = l.ownBlock ∧ l.ownBlock ≠ none)) :
    St w2 wb E M cnt ve vm l' (n + 1) m mb := by
  have hg : W1.grownBy w2 l.ownBlock := hfr.elim (fun x => grown_two x.1 (.inl rfl)) (fun x => x.1)
  have hlw : l.ownBlock ≠ some wb := fun e => by have := (own_ge h.lrow wb e).1; omega
  refine ⟨?_, ?_, ?_, ?_, hown, ?_, ?_, ?_, h.mblt, h.mbvm, ?_⟩
  · rw [hg.block wb (heap_lt h.box) (fun e => hlw e.symm)]; exact h.box
  · exact own_kept h.evs hg (fun g hv e => own_apart h.lrow h.evs (by decide) g e hv)
  · exact own_kept h.mks hg (fun g hv e => h.lvm g hv e)
  · intro x hx
    obtain ⟨h1, h2, h3⟩ := h.all x hx
    refine ⟨?_, h2, h3⟩
    by_cases h0 : x.n = 0
    · exact .inl h0
    rcases hfr with ⟨hgn, _⟩ | ⟨_, hsame, _⟩
    · exact holds_kept h1 hgn (fun g _ _ e => by cases e)
    · rcases h.lent x hx with h' | h' | ⟨hm, hle⟩
      · exact absurd h' h0
      · exact holds_kept h1 hg (fun g ha _ e => h' g e ha)
      · rcases h1 with h' | ⟨g, cur, ha, hb, hh, ht⟩
        · exact absurd h' h0
        · by_cases hgl : l.ownBlock = some g
          · have hl' : l'.ownBlock = some g := by rw [hsame]; exact hgl
            obtain ⟨cur', hh', hb', ht', _⟩ := own_heap hown hl'
            refine .inr ⟨g, cur', ha, hb', hh', ?_⟩
            have e1 : cur'.toList.take (x.n * 4) = (cur'.toList.take ((n + 1) * 4)).take (x.n * 4) := by rw [List.take_take]; congr 1; omega
            rw [e1, ht', hm]
            have e2 : List.replicate (n + 1) m = List.replicate x.n m ++ List.replicate (n + 1 - x.n) m := by rw [List.replicate_append_replicate]; congr 1; omega
            rw [e2, evCells_append, List.take_append_of_le_length (by rw [evCells_length]; simp), List.take_of_length_le (by rw [evCells_length]; simp)]
          · exact holds_kept (.inr ⟨g, cur, ha, hb, hh, ht⟩) hg (fun g' ha' _ e => by rw [ha] at ha'; simp at ha'; subst ha'; exact hgl e)
  · intro x hx
    rcases h.lent x hx with h' | h' | ⟨hm, hle⟩
    · exact .inl h'
    · rcases hfr with ⟨_, hnew⟩ | ⟨_, hsame, _⟩
      · rcases (h.all x hx).1 with h0 | ⟨g', cur, ha', _, hh, _⟩
        · exact .inl h0
        · right; left
          intro g hv ha
          rw [hnew] at hv
          rw [ha] at ha'
          simp at hv ha'
          have := heap_lt hh
          omega
      · right; left
        intro g hv
        rw [hsame] at hv
        exact h' g hv
    · exact .inr (.inr ⟨hm, by omega⟩)
  · intro g hv hl
    rcases hfr with ⟨_, hnew⟩ | ⟨_, hsame, _⟩
    · rw [hnew] at hl
      simp at hl
      have := (own_ge h.mks g hv).2
      omega
    · rw [hsame] at hl
      exact h.lvm g hv hl
  · rw [hg.block mb (heap_lt h.mbox) (fun e => h.mbl e.symm)]; exact h.mbox
  · intro e
    rcases hfr with ⟨_, hnew⟩ | ⟨_, hsame, _⟩
    · rw [hnew] at e
      simp at e
      have := heap_lt h.mbox
      omega
    · rw [hsame] at e
      exact h.mbl e
end Go.Proofs.YthccpacmklhejaaGreatDoor
