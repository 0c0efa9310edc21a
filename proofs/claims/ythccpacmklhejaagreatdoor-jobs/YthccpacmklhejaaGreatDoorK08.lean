/-
  Several texts in one.
-/
import Derived.Test.YthccpacmklhejaaGreatDoorK07
namespace Go.Proofs.YthccpacmklhejaaGreatDoor
open Go.RowKit

structure St (W : World) (wb : Nat) (E : List Ent) (M : List Ev) (cnt : Nat) (ve vm l : Value) (n : Nat) (m : Ev) (mb : Nat) : Prop where
  box : W.heap[wb]? = some (.cells #[.slice none 0 0, .slice none 0 0, .slice none 0 0, ve, .slice none 0 0, vm, .int .i64 (cnt : Int)] 37 (0, 0))
  evs : W.ownsRow (wb + 1) 35 1 ve E.length (E.map Ent.v)
  mks : W.ownsRow (wb + 1) 41 4 vm M.length (evCells M)
  all : ∀ x ∈ E, Holds W (wb + 1) x ∧ x.n ≤ 1000 ∧ (x.n = 0 ∨ ∀ g, vm.ownBlock = some g → x.a ≠ some ⟨g, 0, none⟩)
  lrow : W.ownsRow (wb + 1) 41 4 l n (evCells (List.replicate n m))
  lent : ∀ x ∈ E, x.n = 0 ∨ (∀ g, l.ownBlock = some g → x.a ≠ some ⟨g, 0, none⟩) ∨ (x.m = m ∧ x.n ≤ n)
  lvm : ∀ g, vm.ownBlock = some g → l.ownBlock ≠ some g
  mbox : W.heap[mb]? = some (.cells #[.int .u8 (m.op : Int), .string m.key, .int .u16 (m.seq : Int), .int .i16 m.val] 41 (0, 0))
  mblt : wb + 1 ≤ mb
  mbvm : vm.ownBlock ≠ some mb
  mbl : l.ownBlock ≠ some mb

/-- The block of a row that is owned. -/
theorem own_heap {W : World} {B n : Nat} {e : TypeId} {s : Nat} {v : Value} {xs : List Value} (h : W.ownsRow B e s v n xs) {g : Nat} (hg : v.ownBlock = some g) : ∃ cur, W.heap[g]? = some (.cells cur e (0, 0)) ∧ B ≤ g ∧ cur.toList.take (n * s) = xs ∧ v = .slice (some ⟨g, 0, none⟩) n (match v with | .slice _ _ c => c | _ => 0) := by
  rcases h.2 with ⟨rfl, _⟩ | ⟨g', cap, cur, rfl, hb, hh, _, _, _, ht⟩
  · simp [Value.ownBlock] at hg
  · simp [Value.ownBlock] at hg
    subst hg
    exact ⟨cur, hh, hb, ht, rfl⟩

theorem heap_lt {W : World} {g : Nat} {o : Obj} (h : W.heap[g]? = some o) : g < W.heap.size := (Array.getElem?_eq_some_iff.1 h).1

/-- Rows of two types lie apart. -/
theorem own_apart {W : World} {B B' n n' : Nat} {e e' : TypeId} {s s' : Nat} {v v' : Value} {xs xs' : List Value} (h : W.ownsRow B e s v n xs) (h' : W.ownsRow B' e' s' v' n' xs') (hne : e ≠ e') : ∀ g, v.ownBlock = some g → v'.ownBlock ≠ some g := by
  intro g hg hg'
  obtain ⟨cur, h1, _⟩ := own_heap h hg
  obtain ⟨cur', h2, _⟩ := own_heap h' hg'
  rw [h1] at h2
  simp at h2
  exact hne h2.2

theorem own_kept {W W' : World} {row : Option Nat} {B n : Nat} {e : TypeId} {s : Nat} {v : Value} {xs : List Value} (h : W.ownsRow B e s v n xs) (hg : W.grownBy W' row) (hne : ∀ g, v.ownBlock = some g → row ≠ some g) : W'.ownsRow B e s v n xs := by
  refine h.kept hg ?_
  cases hv : v.ownBlock with
  | none => left; rfl
  | some g => right; exact fun h => hne g hv h.symm

theorem holds_kept {W W' : World} {row : Option Nat} {B : Nat} {x : Ent} (h : Holds W B x) (hg : W.grownBy W' row) (hne : ∀ g, x.a = some ⟨g, 0, none⟩ → x.n ≠ 0 → row ≠ some g) : Holds W' B x := by
  rcases h with h0 | ⟨g, cur, ha, hb, hh, ht⟩
  · exact .inl h0
  · by_cases h0 : x.n = 0
    · exact .inl h0
    · exact .inr ⟨g, cur, ha, hb, by rw [hg.block g (heap_lt hh) (fun h => hne g ha h0 h.symm)]; exact hh, ht⟩

theorem evCells_length (es : List Ev) : (evCells es).length = es.length * 4 := by
  induction es with
  | nil => rfl
  | cons e es ih => simp [evCells, evCells1] at ih ⊢; omega

/-- A step that turns nothing of all this. -/
theorem St.keep {W W' : World} {row : Option Nat} {wb : Nat} {E : List Ent} {M : List Ev} {cnt : Nat} {ve vm l : Value} {n : Nat} {m : Ev} {mb : Nat} (h : St W wb E M cnt ve vm l n m mb) (hg : W.grownBy W' row)
    (hrow : ∀ g, row = some g → g ≠ wb ∧ ve.ownBlock ≠ some g ∧ vm.ownBlock ≠ some g ∧ l.ownBlock ≠ some g ∧ g ≠ mb ∧ ∀ x ∈ E, x.n ≠ 0 → x.a ≠ some ⟨g, 0, none⟩) : St W' wb E M cnt ve vm l n m mb := by
  refine ⟨?_, ?_, ?_, ?_, ?_, h.lent, h.lvm, ?_, h.mblt, h.mbvm, h.mbl⟩
  · rw [hg.block wb (heap_lt h.box) (fun e => (hrow wb e.symm).1 rfl)]; exact h.box
  · exact own_kept h.evs hg fun g hv e => (hrow g e).2.1 hv
  · exact own_kept h.mks hg fun g hv e => (hrow g e).2.2.1 hv
  · intro x hx
    obtain ⟨h1, h2, h3⟩ := h.all x hx
    exact ⟨holds_kept h1 hg fun g ha h0 e => (hrow g e).2.2.2.2.2 x hx h0 ha, h2, h3⟩
  · exact own_kept h.lrow hg fun g hv e => (hrow g e).2.2.2.1 hv
  · rw [hg.block mb (heap_lt h.mbox) (fun e => (hrow mb e.symm).2.2.2.2.1 rfl)]; exact h.mbox

theorem St.alloc {W : World} {wb : Nat} {E : List Ent} {M : List Ev} {cnt : Nat} {ve vm l : Value} {n : Nat} {m : Ev} {mb : Nat} (h : St W wb E M cnt ve vm l n m mb) (o : Obj) : St (W.alloc o) wb E M cnt ve vm l n m mb :=
  h.keep (World.grownBy_alloc W o none) (fun g hg => by cases hg)

theorem St.drew {W : World} {wb : Nat} {E : List Ent} {M : List Ev} {cnt : Nat} {ve vm l : Value} {n : Nat} {m : Ev} {mb : Nat} (h : St W wb E M cnt ve vm l n m mb) : St W.drew wb E M cnt ve vm l n m mb :=
  h.keep (row := none) ⟨rfl, rfl, rfl, Nat.le_refl _, fun _ _ _ => rfl⟩ (fun g hg => by cases hg)

theorem grown_set (W : World) (wb j : Nat) (u : Value) : W.grownBy (W.setCell ⟨wb, j, none⟩ u) (some wb) :=
  ⟨rfl, rfl, rfl, by simp [World.setCell], fun k _ hne => Below.heap_setCell W ⟨wb, j, none⟩ u k (fun h => hne (by rw [h]))⟩

theorem grown_two {w w' : World} {row r : Option Nat} (h : w.grownBy w' r) (hr : r = none ∨ r = row) : w.grownBy w' row := by
  rcases hr with rfl | rfl
  · exact ⟨h.os, h.tape, h.output, h.size, fun k hk _ => h.block k hk (by simp)⟩
  · exact h

/-- Behind a store into the box. -/
theorem box_set {W : World} {wb j : Nat} {cs : Array Value} {t : TypeId} (h : W.heap[wb]? = some (.cells cs t (0, 0))) (u : Value) : (W.setCell ⟨wb, j, none⟩ u).heap[wb]? = some (.cells (cs.setIfInBounds j u) t (0, 0)) := by
  simp only [World.setCell, Array.getElem?_modify, if_true, h]
  simp

theorem own_ge {W : World} {B n : Nat} {e : TypeId} {s : Nat} {v : Value} {xs : List Value} (h : W.ownsRow B e s v n xs) : ∀ g, v.ownBlock = some g → B ≤ g ∧ g < W.heap.size := fun g hg => h.lt g hg

/-- From a world to a later one in which two blocks alone may have turned: row, and the box. -/
theorem own_kept2 {W w2 : World} {row : Option Nat} {wb j n : Nat} {u : Value} {e : TypeId} {s : Nat} {v : Value} {xs : List Value} (h : W.ownsRow (wb + 1) e s v n xs) (hg : W.grownBy w2 row) (hne : ∀ g, v.ownBlock = some g → row ≠ some g) :
    (w2.setCell ⟨wb, j, none⟩ u).ownsRow (wb + 1) e s v n xs := by
  refine own_kept (own_kept h hg hne) (grown_set w2 wb j u) fun g hv e => ?_
  have := (own_ge h g hv).1
  simp at e
  omega

theorem holds_kept2 {W w2 : World} {row : Option Nat} {wb j : Nat} {u : Value} {x : Ent} (h : Holds W (wb + 1) x) (hg : W.grownBy w2 row) (hne : ∀ g, x.a = some ⟨g, 0, none⟩ → x.n ≠ 0 → row ≠ some g) : Holds (w2.setCell ⟨wb, j, none⟩ u) (wb + 1) x := by
  refine holds_kept (holds_kept h hg hne) (grown_set w2 wb j u) fun g ha h0 e => ?_
  rcases h with h' | ⟨g', cur, ha', hb, _⟩
  · exact h0 h'
  · rw [ha] at ha'
    simp at ha' e
    omega

theorem heap_kept2 {W w2 : World} {row : Option Nat} {wb j b : Nat} {u : Value} {o : Obj} (h : W.heap[b]? = some o) (hg : W.grownBy w2 row) (hne : row ≠ some b) (hb : b ≠ wb) : (w2.setCell ⟨wb, j, none⟩ u).heap[b]? = some o := by
  rw [Below.heap_setCell w2 ⟨wb, j, none⟩ u b hb, hg.block b (heap_lt h) (fun e => hne e.symm)]
  exact h

theorem holds_own {W : World} {B n c : Nat} {a : Option Addr} {m : Ev} (h : W.ownsRow B 41 4 (.slice a n c) n (evCells (List.replicate n m))) : Holds W B ⟨a, n, c, m⟩ := by
  rcases h.2 with ⟨_, h0⟩ | ⟨g, cap, cur, hv, hb, hh, _, _, _, ht⟩
  · exact .inl h0
  · simp at hv
    exact .inr ⟨g, cur, hv.1, hb, hh, ht⟩

theorem ownBlock_some (a : Option Addr) (n c g : Nat) (h : (Value.slice a n c).ownBlock ≠ some g) : a ≠ some ⟨g, 0, none⟩ := by
  intro e
  subst e
  exact h rfl

/-- w.events = append(w.events, l). -/
theorem St.stepA {W1 w2 : World} {wb : Nat} {E : List Ent} {M : List Ev} {cnt : Nat} {ve vm : Value} {la : Option Addr} {n lc : Nat} {m : Ev} {mb : Nat} {ve' : Value}
    (h : St W1 wb E M cnt ve vm (.slice la n lc) n m mb) (hn : n ≤ 1000) (hown : w2.ownsRow (wb + 1) 35 1 ve' (E.length + 1) (E.map Ent.v ++ [.slice la n lc]))
    (hfr : (W1.grownBy w2 none ∧ ve'.ownBlock = some W1.heap.size) ∨ (W1.grownBy w2 ve.ownBlock ∧ ve'.ownBlock = ve.ownBlock ∧ ve.ownBlock ≠ none)) :
    St (w2.setCell ⟨wb, 3, none⟩ ve') wb (E ++ [⟨la, n, lc, m⟩]) M cnt ve' vm (.slice la n lc) n m mb := by
  have hg : W1.grownBy w2 ve.ownBlock := hfr.elim (fun x => grown_two x.1 (.inl rfl)) (fun x => x.1)
  have hvw : ve.ownBlock ≠ some wb := fun e => by have := (own_ge h.evs wb e).1; omega
  have hrow := own_kept2 (j := 3) (u := ve') h.lrow hg (fun g hv e => own_apart h.evs h.lrow (by decide) g e hv)
  have hnm : ∀ g cur, ve.ownBlock = some g → W1.heap[g]? ≠ some (.cells cur 41 (0, 0)) := by
    intro g cur hv hh
    obtain ⟨c2, h2, _⟩ := own_heap h.evs hv
    rw [h2] at hh
    simp at hh
  have hwb : w2.heap[wb]? = some (.cells #[.slice none 0 0, .slice none 0 0, .slice none 0 0, ve, .slice none 0 0, vm, .int .i64 (cnt : Int)] 37 (0, 0)) := by
    rw [hg.block wb (heap_lt h.box) (fun e => hvw e.symm)]; exact h.box
  refine ⟨?_, ?_, ?_, ?_, hrow, ?_, h.lvm, ?_, h.mblt, h.mbvm, h.mbl⟩
  · exact box_set hwb ve'
  · have := own_kept hown (grown_set w2 wb 3 ve') (fun g hv e => by have := (own_ge hown g hv).1; simp at e; omega)
    simpa [Ent.v] using this
  · exact own_kept2 h.mks hg (fun g hv e => own_apart h.evs h.mks (by decide) g e hv)
  · intro x hx
    rcases List.mem_append.1 hx with hx | hx
    · obtain ⟨h1, h2, h3⟩ := h.all x hx
      refine ⟨holds_kept2 h1 hg (fun g ha h0 e => ?_), h2, h3⟩
      rcases h1 with h' | ⟨g', cur, ha', _, hh, _⟩
      · exact h0 h'
      · rw [ha] at ha'
        simp at ha'
        subst ha'
        exact hnm g cur e hh
    · simp at hx
      subst hx
      exact ⟨holds_own hrow, hn, .inr fun g hv => ownBlock_some la n lc g (h.lvm g hv)⟩
  · intro x hx
    rcases List.mem_append.1 hx with hx | hx
    · exact h.lent x hx
    · simp at hx
      subst hx
      exact .inr (.inr ⟨rfl, Nat.le_refl _⟩)
  · exact heap_kept2 h.mbox hg (fun e => hnm mb _ e h.mbox) (by have := h.mblt; omega)

/-- w.m2 = append(w.m2, m). -/
theorem St.stepB {W1 w2 : World} {wb : Nat} {E : List Ent} {M : List Ev} {cnt : Nat} {ve vm l : Value} {n : Nat} {m : Ev} {mb : Nat} {vm' : Value}
    (h : St W1 wb E M cnt ve vm l n m mb) (hown : w2.ownsRow (wb + 1) 41 4 vm' (M.length + 1) (evCells M ++ evCells1 m))
    (hfr : (W1.grownBy w2 none ∧ vm'.ownBlock = some W1.heap.size) ∨ (W1.grownBy w2 vm.ownBlock ∧ vm'.ownBlock = vm.ownBlock ∧ vm.ownBlock ≠ none)) :
    St (w2.setCell ⟨wb, 5, none⟩ vm') wb E (M ++ [m]) cnt ve vm' l n m mb := by
  have hg : W1.grownBy w2 vm.ownBlock := hfr.elim (fun x => grown_two x.1 (.inl rfl)) (fun x => x.1)
  have hvw : vm.ownBlock ≠ some wb := fun e => by have := (own_ge h.mks wb e).1; omega
  have hwb : w2.heap[wb]? = some (.cells #[.slice none 0 0, .slice none 0 0, .slice none 0 0, ve, .slice none 0 0, vm, .int .i64 (cnt : Int)] 37 (0, 0)) := by
    rw [hg.block wb (heap_lt h.box) (fun e => hvw e.symm)]; exact h.box
  have hnew : ∀ g, vm'.ownBlock = some g → vm.ownBlock = some g ∨ g = W1.heap.size := by
    intro g hv
    rcases hfr with ⟨_, e⟩ | ⟨_, e, _⟩
    · right; rw [e] at hv; simp at hv; exact hv.symm
    · left; rw [← e]; exact hv
  refine ⟨?_, ?_, ?_, ?_, ?_, h.lent, ?_, ?_, h.mblt, ?_, h.mbl⟩
  · exact box_set hwb vm'
  · exact own_kept2 h.evs hg (fun g hv e => own_apart h.mks h.evs (by decide) g e hv)
  · have := own_kept hown (grown_set w2 wb 5 vm') (fun g hv e => by have := (own_ge hown g hv).1; simp at e; omega)
    simpa [evCells_append, evCells_one] using this
  · intro x hx
    obtain ⟨h1, h2, h3⟩ := h.all x hx
    refine ⟨holds_kept2 h1 hg (fun g ha h0 e => ?_), h2, ?_⟩
    · rcases h3 with h' | h'
      · exact h0 h'
      · exact h' g e ha
    · rcases h3 with h' | h'
      · exact .inl h'
      · rcases h1 with h0 | ⟨g', cur, ha', _, hh, _⟩
        · exact .inl h0
        · right
          intro g hv ha
          rcases hnew g hv with e | e
          · exact h' g e ha
          · rw [ha] at ha'
            simp at ha'
            have := heap_lt hh
            omega
  · exact own_kept2 h.lrow hg (fun g hv e => h.lvm g e hv)
  · intro g hv hl
    rcases hnew g hv with e | e
    · exact h.lvm g e hl
    · have := (own_ge h.lrow g hl).2
      omega
  · exact heap_kept2 h.mbox hg h.mbvm (by have := h.mblt; omega)
  · intro e
    rcases hnew mb e with e' | e'
    · exact h.mbvm e'
    · have := heap_lt h.mbox
      omega

/-- g := append(l, m). -/
theorem St.stepC {W1 w2 : World} {wb : Nat} {E : List Ent} {M : List Ev} {cnt : Nat} {ve vm l : Value} {n : Nat} {m : Ev} {mb : Nat} {l' : Value}
    (h : St W1 wb E M cnt ve vm l n m mb) (hown : w2.ownsRow (wb + 1) 41 4 l' (n + 1) (evCells (List.replicate (n + 1) m)))
    (hfr : (W1.grownBy w2 none ∧ l'.ownBlock = some W1.heap.size) ∨ (W1.grownBy w2 l.ownBlock ∧ l'.ownBlock = l.ownBlock ∧ l.ownBlock ≠ none)) :
    St w2 wb E M cnt ve vm l' (n + 1) m mb := by
  have hg : W1.grownBy w2 l.ownBlock := hfr.elim (fun x => grown_two x.1 (.inl rfl)) (fun x => x.1)
  have hlw : l.ownBlock ≠ some wb := fun e => by have := (own_ge h.lrow wb e).1; omega
  refine ⟨?_, ?_, ?_, ?_, hown, ?_, ?_, ?_, h.mblt, h.mbvm, ?_⟩
  · rw [hg.block wb (heap_lt h.box) (fun e => hlw e.symm)]; exact h.box
  · exact own_kept h.evs hg (fun g hv e => own_apart h.lrow h.evs (by decide) g e hv)
  · exact own_kept h.mks hg (fun g hv e => h.lvm g hv e)
  · intro x hx
    obtain ⟨h1, h2, h3⟩ := h.all x hx
    refine ⟨?_, h2, h3⟩
    by_cases h0 : x.n = 0
    · exact .inl h0
    rcases hfr with ⟨hgn, _⟩ | ⟨_, hsame, _⟩
    · exact holds_kept h1 hgn (fun g _ _ e => by cases e)
    · rcases h.lent x hx with h' | h' | ⟨hm, hle⟩
      · exact absurd h' h0
      · exact holds_kept h1 hg (fun g ha _ e => h' g e ha)
      · rcases h1 with h' | ⟨g, cur, ha, hb, hh, ht⟩
        · exact absurd h' h0
        · by_cases hgl : l.ownBlock = some g
          · have hl' : l'.ownBlock = some g := by rw [hsame]; exact hgl
            obtain ⟨cur', hh', hb', ht', _⟩ := own_heap hown hl'
            refine .inr ⟨g, cur', ha, hb', hh', ?_⟩
            have e1 : cur'.toList.take (x.n * 4) = (cur'.toList.take ((n + 1) * 4)).take (x.n * 4) := by rw [List.take_take]; congr 1; omega
            rw [e1, ht', hm]
            have e2 : List.replicate (n + 1) m = List.replicate x.n m ++ List.replicate (n + 1 - x.n) m := by rw [List.replicate_append_replicate]; congr 1; omega
            rw [e2, evCells_append, List.take_append_of_le_length (by rw [evCells_length]; simp), List.take_of_length_le (by rw [evCells_length]; simp)]
          · exact holds_kept (.inr ⟨g, cur, ha, hb, hh, ht⟩) hg (fun g' ha' _ e => by rw [ha] at ha'; simp at ha'; subst ha'; exact hgl e)
  · intro x hx
    rcases h.lent x hx with h' | h' | ⟨hm, hle⟩
    · exact .inl h'
    · rcases hfr with ⟨_, hnew⟩ | ⟨_, hsame, _⟩
      · rcases (h.all x hx).1 with h0 | ⟨g', cur, ha', _, hh, _⟩
        · exact .inl h0
        · right; left
          intro g hv ha
          rw [hnew] at hv
          rw [ha] at ha'
          simp at hv ha'
          have := heap_lt hh
          omega
      · right; left
        intro g hv
        rw [hsame] at hv
        exact h' g hv
    · exact .inr (.inr ⟨hm, by omega⟩)
  · intro g hv hl
    rcases hfr with ⟨_, hnew⟩ | ⟨_, hsame, _⟩
    · rw [hnew] at hl
      simp at hl
      have := (own_ge h.mks g hv).2
      omega
    · rw [hsame] at hl
      exact h.lvm g hv hl
  · rw [hg.block mb (heap_lt h.mbox) (fun e => h.mbl e.symm)]; exact h.mbox
  · intro e
    rcases hfr with ⟨_, hnew⟩ | ⟨_, hsame, _⟩
    · rw [hnew] at e
      simp at e
      have := heap_lt h.mbox
      omega
    · rw [hsame] at e
      exact h.mbl e
end Go.Proofs.YthccpacmklhejaaGreatDoor

namespace Go.Proofs.YthccpacmklhejaaGreatDoor
open Go.RowKit

set_option maxHeartbeats 400000 in
theorem mark_any (W : World) (wb cnt : Nat) (h6 : W.cell? ⟨wb, 6, none⟩ = some (.int .i64 (cnt : Int))) (hf : W.frozen? ⟨wb, 6, none⟩ = false) (hc : cnt ≤ 2000000000001) :
    Calls Tryz.prog 65 #[.pointer (some ⟨wb, 0, none⟩)] W fun e w' => e = .returned (.int .i64 (-((cnt : Int) + 1))) ∧ w' = W.setCell ⟨wb, 6, none⟩ (.int .i64 ((cnt : Int) + 1)) := by
  go_enter Tryz.func65, Tryz.ntmps65
  go_wp2
  go_ret
  exact ⟨rfl, rfl⟩

/-- An Inv with the count turned. -/
theorem Inv.count {W : World} {wb : Nat} {ents : List Ent} {cnt : Nat} {ve vm : Value} (h : Inv W wb ents cnt ve vm) (c' : Nat) : Inv (W.setCell ⟨wb, 6, none⟩ (.int .i64 (c' : Int))) wb ents c' ve vm := by
  have hg := grown_set W wb 6 (.int .i64 (c' : Int))
  refine ⟨box_set h.box _, ?_, ?_, ?_⟩
  · exact own_kept h.evs hg (fun g hv e => by have := (own_ge h.evs g hv).1; simp at e; omega)
  · exact own_kept h.mks hg (fun g hv e => by have := (own_ge h.mks g hv).1; simp at e; omega)
  · intro x hx
    obtain ⟨h1, h2, h3⟩ := h.all x hx
    refine ⟨holds_kept h1 hg (fun g ha h0 e => ?_), h2, h3⟩
    rcases h1 with h' | ⟨g', cur, ha', hb, _⟩
    · exact h0 h'
    · rw [ha] at ha'
      simp at ha' e
      omega

theorem Inv.keep {W W' : World} {row : Option Nat} {wb : Nat} {ents : List Ent} {cnt : Nat} {ve vm : Value} (h : Inv W wb ents cnt ve vm) (hg : W.grownBy W' row)
    (hrow : ∀ g, row = some g → g ≠ wb ∧ ve.ownBlock ≠ some g ∧ vm.ownBlock ≠ some g ∧ ∀ x ∈ ents, x.n ≠ 0 → x.a ≠ some ⟨g, 0, none⟩) : Inv W' wb ents cnt ve vm := by
  refine ⟨?_, ?_, ?_, ?_⟩
  · rw [hg.block wb (heap_lt h.box) (fun e => (hrow wb e.symm).1 rfl)]; exact h.box
  · exact own_kept h.evs hg fun g hv e => (hrow g e).2.1 hv
  · exact own_kept h.mks hg fun g hv e => (hrow g e).2.2.1 hv
  · intro x hx
    obtain ⟨h1, h2, h3⟩ := h.all x hx
    exact ⟨holds_kept h1 hg fun g ha h0 e => (hrow g e).2.2.2 x hx h0 ha, h2, h3⟩
theorem Inv.alloc {W : World} {wb : Nat} {ents : List Ent} {cnt : Nat} {ve vm : Value} (h : Inv W wb ents cnt ve vm) (o : Obj) : Inv (W.alloc o) wb ents cnt ve vm :=
  h.keep (World.grownBy_alloc W o none) (fun g hg => by cases hg)
theorem grown_trans {a b c : World} {r : Option Nat} (h : a.grownBy b r) (k : b.grownBy c r) : a.grownBy c r :=
  ⟨k.os.trans h.os, k.tape.trans h.tape, k.output.trans h.output, Nat.le_trans h.size k.size, fun i hi hne => (k.block i (Nat.lt_of_lt_of_le hi h.size) hne).trans (h.block i hi hne)⟩

/-- The four cells of one event, laid over. -/
theorem fill_list (m : Ev) : ∀ (es : List Ev) (k : Nat), k < es.length →
    ((((evCells (List.replicate k m ++ es.drop k)).set (k * 4) (.int .u8 (m.op : Int))).set (k * 4 + 1) (.string m.key)).set (k * 4 + 2) (.int .u16 (m.seq : Int))).set (k * 4 + 3) (.int .i16 m.val) = evCells (List.replicate (k + 1) m ++ es.drop (k + 1)) := by
  intro es k hk
  have hd : es.drop k = es[k] :: es.drop (k + 1) := List.drop_eq_getElem_cons hk
  have hr : List.replicate (k + 1) m = List.replicate k m ++ [m] := by rw [List.replicate_succ']
  rw [hd, hr, List.append_assoc, evCells_append, evCells_append (List.replicate k m)]
  have hlen : (evCells (List.replicate k m)).length = k * 4 := by rw [evCells_length]; simp
  have hc : ∀ (e : Ev) (r : List Ev), evCells (e :: r) = evCells1 e ++ evCells r := fun e r => by simp [evCells]
  rw [hc, List.singleton_append, hc]
  rw [List.set_append_right _ _ (by omega), List.set_append_right _ _ (by omega), List.set_append_right _ _ (by omega), List.set_append_right _ _ (by omega), hlen]
  rw [show k * 4 - k * 4 = 0 from by omega, show k * 4 + 1 - k * 4 = 1 from by omega, show k * 4 + 2 - k * 4 = 2 from by omega, show k * 4 + 3 - k * 4 = 3 from by omega]
  rfl

theorem Tryz.infoSl : (Tryz.prog.info? 35).map (fun i => (i.zero, i.size, i.bytes)) = some (some (.slice none 0 0), 1, 24) := by kernel_rfl

theorem St.boxA {W1 w2 : World} {wb : Nat} {E : List Ent} {M : List Ev} {cnt : Nat} {ve vm l : Value} {n : Nat} {m : Ev} {mb : Nat} {row : Option Nat} (h : St W1 wb E M cnt ve vm l n m mb) (hg : W1.grownBy w2 row) (hr : row ≠ some wb) :
    w2.heap[wb]? = some (.cells #[.slice none 0 0, .slice none 0 0, .slice none 0 0, ve, .slice none 0 0, vm, .int .i64 (cnt : Int)] 37 (0, 0)) := by
  rw [hg.block wb (heap_lt h.box) (fun e => hr e.symm)]; exact h.box

theorem own_ne {W : World} {wb n : Nat} {e : TypeId} {s : Nat} {v : Value} {xs : List Value} (h : W.ownsRow (wb + 1) e s v n xs) : v.ownBlock ≠ some wb := fun e => by have := (own_ge h wb e).1; omega

theorem grown_either {W1 w2 : World} {v v' : Value} (hfr : (W1.grownBy w2 none ∧ v'.ownBlock = some W1.heap.size) ∨ (W1.grownBy w2 v.ownBlock ∧ v'.ownBlock = v.ownBlock ∧ v.ownBlock ≠ none)) : W1.grownBy w2 v.ownBlock :=
  hfr.elim (fun x => grown_two x.1 (.inl rfl)) (fun x => x.1)

theorem own_shape {W : World} {B n : Nat} {e : TypeId} {s : Nat} {v : Value} {xs : List Value} (h : W.ownsRow B e s v n xs) : ∃ a c, v = .slice a n c := by
  rcases h.2 with ⟨rfl, h0⟩ | ⟨g, cap, cur, rfl, _⟩
  · exact ⟨none, 0, by rw [h0]⟩
  · exact ⟨_, _, rfl⟩

theorem ite_of {c p q : Prop} [Decidable c] (hc : c) (h : p) : if c then p else q := by rw [if_pos hc]; exact h

theorem cell_one_new (w : World) (a : Value) (t : TypeId) : ∀ j u, [a][j]? = some u → (w.alloc (.cells #[a] t)).cell? ((⟨w.heap.size, 0, none⟩ : Addr).add j) = some u := by
  intro j u hu
  cases j with
  | zero =>
    simp at hu
    subst hu
    exact box_cell (heap_alloc_new w _) 0
  | succ j => simp at hu

/-- Behind w.events = append(w.events, l): what the walk asks, and what is kept up. -/
theorem St.walkA {W wr w2 : World} {wb : Nat} {E : List Ent} {M : List Ev} {cnt : Nat} {ve vm : Value} {la : Option Addr} {n lc : Nat} {m : Ev} {mb : Nat} {ve' : Value} {o : Obj}
    (h : St wr wb E M cnt ve vm (.slice la n lc) n m mb) (hbr : Below wb W wr) (hn : n ≤ 1000) (hown : w2.ownsRow (wb + 1) 35 1 ve' (E.length + 1) (E.map Ent.v ++ [.slice la n lc]))
    (hfr : ((wr.alloc o).grownBy w2 none ∧ ve'.ownBlock = some (wr.alloc o).heap.size) ∨ ((wr.alloc o).grownBy w2 ve.ownBlock ∧ ve'.ownBlock = ve.ownBlock ∧ ve.ownBlock ≠ none)) :
    w2.cell? ⟨wb, 3, none⟩ = some ve ∧ w2.frozen? ⟨wb, 3, none⟩ = false ∧ St (w2.setCell ⟨wb, 3, none⟩ ve') wb (E ++ [⟨la, n, lc, m⟩]) M cnt ve' vm (.slice la n lc) n m mb ∧ Below wb W (w2.setCell ⟨wb, 3, none⟩ ve') := by
  have h1 := h.alloc o
  have hg := grown_either hfr
  have hb := h1.boxA hg (own_ne h1.evs)
  refine ⟨box_cell hb 3, by simp [World.frozen?, hb], h1.stepA hn hown hfr, ?_⟩
  have hz : wb ≤ wr.heap.size := Nat.le_of_lt (heap_lt h.box)
  exact ((hbr.alloc hz o).grown hg (by simp; omega) fun k hk => by have := (own_ge h1.evs k hk).1; omega).setCell (p := ⟨wb, 3, none⟩) (Nat.le_refl _) _

theorem St.walkB {W wr w2 : World} {wb : Nat} {E : List Ent} {M : List Ev} {cnt : Nat} {ve vm l : Value} {n : Nat} {m : Ev} {mb : Nat} {vm' : Value} {o : Obj}
    (h : St wr wb E M cnt ve vm l n m mb) (hbr : Below wb W wr) (hown : w2.ownsRow (wb + 1) 41 4 vm' (M.length + 1) (evCells M ++ evCells1 m))
    (hfr : ((wr.alloc o).grownBy w2 none ∧ vm'.ownBlock = some (wr.alloc o).heap.size) ∨ ((wr.alloc o).grownBy w2 vm.ownBlock ∧ vm'.ownBlock = vm.ownBlock ∧ vm.ownBlock ≠ none)) :
    w2.cell? ⟨wb, 5, none⟩ = some vm ∧ w2.frozen? ⟨wb, 5, none⟩ = false ∧ St (w2.setCell ⟨wb, 5, none⟩ vm') wb E (M ++ [m]) cnt ve vm' l n m mb ∧ Below wb W (w2.setCell ⟨wb, 5, none⟩ vm') ∧ w2.heap[mb]? = some (.cells #[.int .u8 (m.op : Int), .string m.key, .int .u16 (m.seq : Int), .int .i16 m.val] 41 (0, 0)) := by
  have h1 := h.alloc o
  have hg := grown_either hfr
  have hb := h1.boxA hg (own_ne h1.mks)
  refine ⟨box_cell hb 5, by simp [World.frozen?, hb], h1.stepB hown hfr, ?_, by rw [hg.block mb (heap_lt h1.mbox) (fun e => h1.mbvm e.symm)]; exact h1.mbox⟩
  have hz : wb ≤ wr.heap.size := Nat.le_of_lt (heap_lt h.box)
  exact ((hbr.alloc hz o).grown hg (by simp; omega) fun k hk => by have := (own_ge h1.mks k hk).1; omega).setCell (p := ⟨wb, 5, none⟩) (Nat.le_refl _) _

theorem St.walkC {W wr w2 : World} {wb : Nat} {E : List Ent} {M : List Ev} {cnt : Nat} {ve vm l : Value} {n : Nat} {m : Ev} {mb : Nat} {l' : Value} {o : Obj}
    (h : St wr wb E M cnt ve vm l n m mb) (hbr : Below wb W wr) (hown : w2.ownsRow (wb + 1) 41 4 l' (n + 1) (evCells (List.replicate n m) ++ evCells1 m))
    (hfr : ((wr.alloc o).grownBy w2 none ∧ l'.ownBlock = some (wr.alloc o).heap.size) ∨ ((wr.alloc o).grownBy w2 l.ownBlock ∧ l'.ownBlock = l.ownBlock ∧ l.ownBlock ≠ none)) :
    St w2 wb E M cnt ve vm l' (n + 1) m mb ∧ Below wb W w2 := by
  have h1 := h.alloc o
  have hg := grown_either hfr
  have hown' : w2.ownsRow (wb + 1) 41 4 l' (n + 1) (evCells (List.replicate (n + 1) m)) := by
    rw [List.replicate_succ', evCells_append, evCells_one]; exact hown
  refine ⟨h1.stepC hown' hfr, ?_⟩
  have hz : wb ≤ wr.heap.size := Nat.le_of_lt (heap_lt h.box)
  exact (hbr.alloc hz o).grown hg (by simp; omega) fun k hk => by have := (own_ge h1.lrow k hk).1; omega

set_option maxRecDepth 100000 in
set_option maxHeartbeats 1000000 in
theorem keepEvents_any (W : World) (wb : Nat) (ents : List Ent) (cnt : Nat) (ve vm : Value) (la : Option Addr) (n lc : Nat) (es : List Ev) (hI : Inv W wb ents cnt ve vm) (hes : es.length = n)
    (hl : W.ownsRow (wb + 1) 41 4 (.slice la n lc) n (evCells es)) (hn : n ≤ 900) (hcnt : cnt ≤ 2000000000000) (hlen : ents.length ≤ 6400000000000)
    (hfr : ∀ g, (Value.slice la n lc).ownBlock = some g → (∀ x ∈ ents, x.n = 0 ∨ x.a ≠ some ⟨g, 0, none⟩) ∧ vm.ownBlock ≠ some g) :
    Calls Tryz.prog 39 #[.pointer (some ⟨wb, 0, none⟩), .slice la n lc] W fun e w' => e = .returned (.tuple #[]) ∧ ∃ ents' ve' vm', Inv w' wb ents' (cnt + 1) ve' vm' ∧ ents'.length = ents.length + 4 ∧ Below wb W w' := by
  have b6 : W.cell? ⟨wb, 6, none⟩ = some (.int .i64 (cnt : Int)) := box_cell hI.box 6
  have f6 : W.frozen? ⟨wb, 6, none⟩ = false := by simp [World.frozen?, hI.box]
  have hM : Hid (Calls Tryz.prog 65 #[.pointer (some ⟨wb, 0, none⟩)] W fun e w' => e = .returned (.int .i64 (-((cnt : Int) + 1))) ∧ Inv w' wb ents (cnt + 1) ve vm ∧ w'.ownsRow (wb + 1) 41 4 (.slice la n lc) n (evCells es) ∧ Below wb W w') := by
    refine (mark_any W wb cnt b6 f6 (by omega)).mono ?_
    rintro e w1 ⟨rfl, rfl⟩
    have hI2 := hI.count (cnt + 1)
    have e1 : (((cnt + 1 : Nat)) : Int) = (cnt : Int) + 1 := by omega
    rw [e1] at hI2
    refine ⟨rfl, hI2, own_kept hl (grown_set W wb 6 _) (fun g hv e => by have := (own_ge hl g hv).1; simp at e; omega), (Below.refl wb W).setCell (p := ⟨wb, 6, none⟩) (Nat.le_refl _) _⟩
  clear hI hl b6 f6
  go_enter Tryz.func39, Tryz.ntmps39
  go_wp2_with fail
  refine hM.out.mono ?_
  rintro e w1 ⟨rfl, hI, hl, hb1⟩
  have HI := show Hid (Inv w1 wb ents (cnt + 1) ve vm) from hI
  clear hM
  obtain ⟨sq, hsq⟩ : ∃ sq : Nat, IntKind.u16.wrap (-((cnt : Int) + 1)) = (sq : Int) := ⟨((-((cnt : Int) + 1)) % 65536).toNat, by rw [IntKind.wrap_u16]; omega⟩
  obtain ⟨vl, hvl⟩ : ∃ vl : Int, IntKind.i16.wrap (wrap64 (-((cnt : Int) + 1).tdiv 65536)) = vl := ⟨_, rfl⟩
  have hmb : (w1.alloc (.cells #[.int .u8 7, .string ⟨#[109, 97, 114, 107]⟩, .int .u16 (sq : Int), .int .i16 vl] 41)).heap[w1.heap.size]? = some (.cells #[.int .u8 7, .string ⟨#[109, 97, 114, 107]⟩, .int .u16 (sq : Int), .int .i16 vl] 41 (0, 0)) := heap_alloc_new w1 _
  have hI2 := hI.alloc (.cells #[.int .u8 7, .string ⟨#[109, 97, 114, 107]⟩, .int .u16 (sq : Int), .int .i16 vl] 41)
  have hl2 := hl.alloc (.cells #[.int .u8 7, .string ⟨#[109, 97, 114, 107]⟩, .int .u16 (sq : Int), .int .i16 vl] 41)
  have hmlt : wb + 1 ≤ w1.heap.size := heap_lt hI.box
  have hb2 : Below wb W (w1.alloc (.cells #[.int .u8 7, .string ⟨#[109, 97, 114, 107]⟩, .int .u16 (sq : Int), .int .i16 vl] 41)) := hb1.alloc (by omega) _
  have hlm : (Value.slice la n lc).ownBlock ≠ some w1.heap.size := fun e => by have := (own_ge hl _ e).2; omega
  have hvmm : vm.ownBlock ≠ some w1.heap.size := fun e => by have := (own_ge hI.mks _ e).2; omega
  clear hI hl HI hb1
  go_wp2
  clear hsq hvl
  generalize (w1.alloc (.cells #[.int .u8 7, .string ⟨#[109, 97, 114, 107]⟩, .int .u16 (sq : Int), .int .i16 vl] 41)) = w2 at hmb hI2 hl2 hb2
  generalize w1.heap.size = mb at hmb hmlt hlm hvmm
  go_loopw [6] (fun i wr => ∃ k : Nat, k ≤ n ∧ i = .int .i64 (k : Int) ∧ Inv wr wb ents (cnt + 1) ve vm ∧ wr.ownsRow (wb + 1) 41 4 (.slice la n lc) n (evCells (List.replicate k ⟨7, ⟨#[109, 97, 114, 107]⟩, sq, vl⟩ ++ es.drop k)) ∧
      wr.heap[mb]? = some (.cells #[.int .u8 7, .string ⟨#[109, 97, 114, 107]⟩, .int .u16 (sq : Int), .int .i16 vl] 41 (0, 0)) ∧ Below wb W wr) (fun i _ => n - (intOf i).toNat)
  case atStart => exact ⟨0, Nat.zero_le _, rfl, hI2, by simpa using hl2, hmb, hb2⟩
  case round =>
    obtain ⟨k, hk, rfl, hIr, hlr, hmr, hbr⟩ := hrel
    clear hI2 hl2 hmb hb2
    by_cases hkn : k < n
    · rcases own_addr hlr with ⟨_, h0⟩ | ⟨g, rfl⟩
      · omega
      have hc0 : wr.cell? ⟨mb, 0, none⟩ = some (.int .u8 7) := box_cell hmr 0
      have hc1 : wr.cell? ⟨mb, 1, none⟩ = some (.string ⟨#[109, 97, 114, 107]⟩) := box_cell hmr 1
      have hc2 : wr.cell? ⟨mb, 2, none⟩ = some (.int .u16 (sq : Int)) := box_cell hmr 2
      have hc3 : wr.cell? ⟨mb, 3, none⟩ = some (.int .i16 vl) := box_cell hmr 3
      have hat := evCells_at (List.replicate k ⟨7, ⟨#[109, 97, 114, 107]⟩, sq, vl⟩ ++ es.drop k) k (by simp; omega)
      have r1 := (hlr.stored (k * 4) (.int .u8 7))
      have r2 := (r1.1.stored (k * 4 + 1) (.string ⟨#[109, 97, 114, 107]⟩))
      have r3 := (r2.1.stored (k * 4 + 2) (.int .u16 (sq : Int)))
      have r4 := (r3.1.stored (k * 4 + 3) (.int .i16 vl))
      have q0 := (hlr.cellAt (k * 4) (by omega)).trans hat.1
      have q1 := (r1.1.cellAt (k * 4 + 1) (by omega)).trans ((List.getElem?_set_ne (by omega)).trans hat.2.1)
      have q2 := (r2.1.cellAt (k * 4 + 2) (by omega)).trans ((List.getElem?_set_ne (by omega)).trans ((List.getElem?_set_ne (by omega)).trans hat.2.2.1))
      have q3 := (r3.1.cellAt (k * 4 + 3) (by omega)).trans ((List.getElem?_set_ne (by omega)).trans ((List.getElem?_set_ne (by omega)).trans ((List.getElem?_set_ne (by omega)).trans hat.2.2.2)))
      have f0 := hlr.frozenAt (k * 4)
      have f1 := r1.1.frozenAt (k * 4 + 1)
      have f2 := r2.1.frozenAt (k * 4 + 2)
      have f3 := r3.1.frozenAt (k * 4 + 3)
      have hrow := r4.1
      have e4 : ((((evCells (List.replicate k ⟨7, ⟨#[109, 97, 114, 107]⟩, sq, vl⟩ ++ es.drop k)).set (k * 4) (.int .u8 7)).set (k * 4 + 1) (.string ⟨#[109, 97, 114, 107]⟩)).set (k * 4 + 2) (.int .u16 (sq : Int))).set (k * 4 + 3) (.int .i16 vl) = evCells (List.replicate (k + 1) ⟨7, ⟨#[109, 97, 114, 107]⟩, sq, vl⟩ ++ es.drop (k + 1)) := fill_list ⟨7, ⟨#[109, 97, 114, 107]⟩, sq, vl⟩ es k (by omega)
      rw [e4] at hrow
      have hgrow := grown_trans (grown_trans (grown_trans r1.2 r2.2) r3.2) r4.2
      have hI' := hIr.keep hgrow (by
        intro g' hg'
        simp at hg'
        subst hg'
        have hge := (own_ge hlr g rfl).1
        refine ⟨by omega, own_apart hlr hIr.evs (by decide) g rfl, (hfr g rfl).2, fun x hx h0 => ?_⟩
        rcases (hfr g rfl).1 x hx with h | h
        · exact absurd h h0
        · exact h)
      have hge := (own_ge hlr g rfl).1
      have hmb' := hgrow.block mb (heap_lt hmr) (fun e => hlm (by simp at e; rw [e]; rfl))
      rw [hmr] at hmb'
      have hb' := (((hbr.setCell (p := ⟨g, k * 4, none⟩) (by simp; omega) (.int .u8 7)).setCell (p := ⟨g, k * 4 + 1, none⟩) (by simp; omega) (.string ⟨#[109, 97, 114, 107]⟩)).setCell (p := ⟨g, k * 4 + 2, none⟩) (by simp; omega) (.int .u16 (sq : Int))).setCell (p := ⟨g, k * 4 + 3, none⟩) (by simp; omega) (.int .i16 vl)
      have hki : (k : Int) < (n : Int) := by omega
      have hk0 : (0 : Int) ≤ (k : Int) := by omega
      have HN := show Hid (_ ∧ _ ∧ _ ∧ _) from ⟨hI', hrow, hmb', hb'⟩
      clear hIr hlr r1 r2 r3 r4 hat e4 hrow hgrow hI' hmb' hb' hmr hbr
      go_wp2
      go_roundw
      case rel => exact ⟨k + 1, by omega, by go_num, HN.out.1, HN.out.2.1, HN.out.2.2.1, HN.out.2.2.2⟩
      case measure => simp [intOf]; omega
    · have hkk : k = n := by omega
      subst hkk
      have hS : St wr wb ents (ents.map Ent.m) (cnt + 1) ve vm (.slice la k lc) k ⟨7, ⟨#[109, 97, 114, 107]⟩, sq, vl⟩ mb := by
        refine ⟨hIr.box, hIr.evs, by simpa using hIr.mks, hIr.all, ?_, ?_, fun g hv hl => (hfr g hl).2 hv, hmr, hmlt, hvmm, hlm⟩
        · rw [List.drop_of_length_le (by omega), List.append_nil] at hlr
          exact hlr
        · intro x hx
          by_cases h0 : x.n = 0
          · exact .inl h0
          · right; left
            intro g hv
            rcases (hfr g hv).1 x hx with h | h
            · exact absurd h h0
            · exact h
      clear hIr hlr hmr hfr hlm hvmm hmlt
      have HS := show Hid (St wr wb ents (ents.map Ent.m) (cnt + 1) ve vm (.slice la k lc) k ⟨7, ⟨#[109, 97, 114, 107]⟩, sq, vl⟩ mb ∧ Below wb W wr) from ⟨hS, hbr⟩
      clear hS hbr
      go_wp2
      go_loopw [1, 7] (fun l i wr => ∃ (j : Nat) (E : List Ent) (la' : Option Addr) (lc' : Nat) (ve' vm' : Value), j ≤ 4 ∧ i = .int .i64 (j : Int) ∧ l = .slice la' (k + j) lc' ∧ E.length = ents.length + j ∧
          St wr wb E (E.map Ent.m) (cnt + 1) ve' vm' (.slice la' (k + j) lc') (k + j) ⟨7, ⟨#[109, 97, 114, 107]⟩, sq, vl⟩ mb ∧ Below wb W wr) (fun _ i _ => 4 - (intOf i).toNat)
      case atStart => exact ⟨0, ents, la, lc, ve, vm, Nat.zero_le _, rfl, rfl, rfl, HS.out.1, HS.out.2⟩
      case round =>
        obtain ⟨j, E, la', lc', ve', vm', hj, rfl, rfl, hEl, hS, hbr⟩ := hrel
        clear HS
        by_cases hj4 : j < 4
        · have hji : (j : Int) < 4 := by omega
          have b3 : wr.cell? ⟨wb, 3, none⟩ = some ve' := box_cell hS.box 3
          have HS := show Hid (St wr wb E (E.map Ent.m) (cnt + 1) ve' vm' (.slice la' (k + j) lc') (k + j) ⟨7, ⟨#[109, 97, 114, 107]⟩, sq, vl⟩ mb ∧ Below wb W wr) from ⟨hS, hbr⟩
          clear hS hbr
          obtain ⟨i0, hi, hz0, hz1, hz2⟩ := info_parts Tryz.infoSl
          obtain ⟨i1, hi1, hy0, hy1, hy2⟩ := info_parts Tryz.infoEv
          go_wp2_with (first
            | (at_builtin; refine wpList_append_two _ rfl (.tmp 35) (.tmp 37) 33 rfl (wb + 1) 35 i0 (.slice none 0 0) 1 24 Tryz.underlying33 hi hz0 hz1 hz2 rfl (by decide) _ E.length (E.map Ent.v) rfl (HS.out.1.evs.alloc _) ⟨wr.heap.size, 0, none⟩ 1 1 [.slice la' (k + j) lc'] rfl rfl (cell_one_new wr _ _) (by intro u hu; simp at hu; subst hu; rfl) (by unfold maxLen; omega) (by omega) (by have := heap_lt HS.out.1.box; simp; omega) (by decide) ?_; intro v2 w2 hown2 hfr2; obtain ⟨a2, c2, rfl⟩ := own_shape hown2; have HA := show Hid _ from HS.out.1.walkA HS.out.2 (by omega) hown2 hfr2; clear hown2 hfr2 HS b3; have c3 := HA.out.1; have z3 := HA.out.2.1))
          have HB := show Hid (_ ∧ _) from HA.out.2.2
          rw [hEl] at HB
          clear HA c3 z3
          generalize w2.setCell ⟨wb, 3, none⟩ (.slice a2 (ents.length + j + 1) c2) = w3 at HB ⊢
          have HD := show Hid (_ ∧ _) from And.intro HB.out.1.drew HB.out.2.drew
          clear HB
          obtain ⟨am, cm, hvm⟩ := own_shape HD.out.1.mks
          have hml : (List.map Ent.m E).length = ents.length + j := by simp [hEl]
          rw [hml] at hvm
          subst hvm
          refine wp_region_held_drew (S := (fun w' : World => w'.heap[mb]? = some (.cells #[.int .u8 7, .string ⟨#[109, 97, 114, 107]⟩, .int .u16 (sq : Int), .int .i16 vl] 41 (0, 0)))) (by kernel_rfl) HD.out.1.mbox (fun hH => ?_)
          generalize w3.drew = w4 at HD hH ⊢
          have b5 : w4.cell? ⟨wb, 5, none⟩ = some (.slice am (ents.length + j) cm) := box_cell HD.out.1.box 5
          have b5a : (w4.alloc (.cells #[.int .u8 7, .string ⟨#[109, 97, 114, 107]⟩, .int .u16 (sq : Int), .int .i16 vl] 41)).cell? ⟨wb, 5, none⟩ = some (.slice am (ents.length + j) cm) := box_cell (HD.out.1.alloc _).box 5
          have hH2 : (w4.alloc (.cells #[.int .u8 7, .string ⟨#[109, 97, 114, 107]⟩, .int .u16 (sq : Int), .int .i16 vl] 41)).heap[mb]? = _ := (HD.out.1.alloc _).mbox
          refine wpAnyH_take (i := 0) (v := (.pointer (some ⟨wb, 0, none⟩))) rfl (by kernel_rfl) (by kernel_rfl) (by kernel_rfl) (fun _ _ _ h => h) (Or.inl ⟨by rfl, by intro w hSw; go_simp⟩) hH ?_
          refine wpAnyH_take (i := 1) (v := (.pointer (some ⟨wb, 0, none⟩))) rfl (by kernel_rfl) (by kernel_rfl) (by kernel_rfl) (fun _ _ _ h => h) (Or.inl ⟨by rfl, by intro w hSw; go_simp⟩) hH ?_
          refine wpAnyH_take (i := 2) (v := (.pointer (some ⟨wb, 0, none⟩))) rfl (by kernel_rfl) (by kernel_rfl) (by kernel_rfl) (fun _ _ _ h => h) (Or.inl ⟨by rfl, by intro w hSw; go_simp⟩) hH ?_
          refine wpAnyH_take (i := 3) (v := (.pointer (some ⟨wb, 5, none⟩))) rfl (by kernel_rfl) (by kernel_rfl) (by kernel_rfl) (fun _ _ _ h => h) (Or.inl ⟨by rfl, by intro w hSw; go_simp⟩) hH ?_
          refine wpAnyH_take (i := 5) (v := (.agg #[.int .u8 7, .string ⟨#[109, 97, 114, 107]⟩, .int .u16 (sq : Int), .int .i16 vl])) rfl (by kernel_rfl) (by kernel_rfl) (by kernel_rfl) (fun _ _ _ h => h) (Or.inl ⟨by rfl, by intro w hSw; have s0 : w.cell? ⟨mb, 0, none⟩ = some (.int .u8 7) := box_cell hSw 0; have s1 : w.cell? ⟨mb, 1, none⟩ = some (.string ⟨#[109, 97, 114, 107]⟩) := box_cell hSw 1; have s2 : w.cell? ⟨mb, 2, none⟩ = some (.int .u16 (sq : Int)) := box_cell hSw 2; have s3 : w.cell? ⟨mb, 3, none⟩ = some (.int .i16 vl) := box_cell hSw 3; go_simp⟩) hH ?_
          refine wpAnyH_ready (rs := [4, 6]) (by kernel_rfl) (by simp) ?_
          refine AllReadyH.cons rfl (fun K hK => ?_) (AllReadyH.cons rfl (fun K hK => ?_) AllReadyH.nil)
          · go_simp
            refine hK.out _ _ hH (fun hH => ?_)
            clear hK K
            refine wpAnyH_ready (rs := [6]) (by kernel_rfl) (by simp) ?_
            refine AllReadyH.cons rfl (fun K hK => ?_) AllReadyH.nil
            go_simp
            refine hK.out _ _ hH2 (fun hH => ?_)
            clear hK K
            refine wpAnyH_ready (rs := [7]) (by kernel_rfl) (by simp) ?_
            refine AllReadyH.cons rfl (fun K hK => ?_) AllReadyH.nil
            refine ite_of rfl ?_
            refine wp_append_two _ (.tmp 45) (.tmp 47) 35 rfl (wb + 1) 41 i1 (.agg #[.int .u8 0, .string ⟨#[]⟩, .int .u16 0, .int .i16 0]) 4 32 Tryz.underlying35 hi1 hy0 hy1 hy2 rfl (by decide) (.slice am (ents.length + j) cm) (E.map Ent.m).length (evCells (E.map Ent.m)) rfl (HD.out.1.mks.alloc _) ⟨w4.heap.size, 0, none⟩ 1 1 (evCells1 ⟨7, ⟨#[109, 97, 114, 107]⟩, sq, vl⟩) rfl rfl (by have := cell_four_new w4 (.int .u8 7) (.string ⟨#[109, 97, 114, 107]⟩) (.int .u16 (sq : Int)) (.int .i16 vl) 41; simpa [evCells1] using this) (ev_oneCell _) (by unfold maxLen; omega) (by omega) (by have := heap_lt HD.out.1.box; simp; omega) (by decide) ?_
            intro v3 w5 hown3 hfr3
            obtain ⟨a3, c3, rfl⟩ := own_shape hown3
            have HE := show Hid _ from HD.out.1.walkB HD.out.2 hown3 hfr3
            rw [hml] at HE ⊢
            clear hown3 hfr3 HD
            refine hK.out _ _ HE.out.2.2.2.2 (fun hH => ?_)
            clear hK K b5 b5a hH2
            have c5 := HE.out.1
            have z5 := HE.out.2.1
            refine wpAnyH_take (i := 8) (v := (.pointer (some ⟨wb, 0, none⟩))) rfl (by kernel_rfl) (by kernel_rfl) (by kernel_rfl) (fun _ _ _ h => h) (Or.inl ⟨by rfl, by intro w hSw; go_simp⟩) hH ?_
            refine wpAnyH_take (i := 9) (v := (.pointer (some ⟨wb, 5, none⟩))) rfl (by kernel_rfl) (by kernel_rfl) (by kernel_rfl) (fun _ _ _ h => h) (Or.inl ⟨by rfl, by intro w hSw; go_simp⟩) hH ?_
            refine wpAnyH_ready (rs := [10]) (by kernel_rfl) (by simp) ?_
            refine AllReadyH.cons rfl (fun K hK => ?_) AllReadyH.nil
            go_simp
            refine hK.out _ _ HE.out.2.2.1.mbox (fun hH => ?_)
            clear hK K c5 z5
            refine wpAnyH_done (by kernel_rfl) ?_ _
            have HF := show Hid (_ ∧ _) from ⟨HE.out.2.2.1, HE.out.2.2.2.1⟩
            clear HE hH
            generalize w5.setCell ⟨wb, 5, none⟩ (.slice a3 (ents.length + j + 1) c3) = w6 at HF ⊢
            have hc0 : w6.cell? ⟨mb, 0, none⟩ = some (.int .u8 7) := box_cell HF.out.1.mbox 0
            have hc1 : w6.cell? ⟨mb, 1, none⟩ = some (.string ⟨#[109, 97, 114, 107]⟩) := box_cell HF.out.1.mbox 1
            have hc2 : w6.cell? ⟨mb, 2, none⟩ = some (.int .u16 (sq : Int)) := box_cell HF.out.1.mbox 2
            have hc3 : w6.cell? ⟨mb, 3, none⟩ = some (.int .i16 vl) := box_cell HF.out.1.mbox 3
            go_wp2_with (first
              | (at_builtin; refine wpList_append_two _ rfl (.tmp 51) (.tmp 53) 35 rfl (wb + 1) 41 i1 (.agg #[.int .u8 0, .string ⟨#[]⟩, .int .u16 0, .int .i16 0]) 4 32 Tryz.underlying35 hi1 hy0 hy1 hy2 rfl (by decide) (.slice la' (k + j) lc') (k + j) (evCells (List.replicate (k + j) ⟨7, ⟨#[109, 97, 114, 107]⟩, sq, vl⟩)) rfl (HF.out.1.lrow.alloc _) ⟨w6.heap.size, 0, none⟩ 1 1 (evCells1 ⟨7, ⟨#[109, 97, 114, 107]⟩, sq, vl⟩) rfl rfl (by have := cell_four_new w6 (.int .u8 7) (.string ⟨#[109, 97, 114, 107]⟩) (.int .u16 (sq : Int)) (.int .i16 vl) 41; simpa [evCells1] using this) (ev_oneCell _) (by unfold maxLen; omega) (by omega) (by have := heap_lt HF.out.1.box; simp; omega) (by decide) ?_; intro v4 w7 hown4 hfr4; obtain ⟨a4, c4, rfl⟩ := own_shape hown4; have HG := show Hid (_ ∧ _) from HF.out.1.walkC HF.out.2 hown4 hfr4; clear hown4 hfr4 HF hc0 hc1 hc2 hc3))
            go_roundw
            case rel => exact ⟨j + 1, E ++ [⟨la', k + j, lc', ⟨7, ⟨#[109, 97, 114, 107]⟩, sq, vl⟩⟩], a4, c4, _, _, by omega, by go_num, by rfl, by simp [hEl]; omega, by have h := HG.out.1; simp only [List.map_append, List.map_cons, List.map_nil]; exact h, HG.out.2⟩
            case measure => simp [intOf]; omega
          · go_simp
            refine hK.out _ _ hH2 (fun hH => ?_)
            clear hK K
            refine wpAnyH_ready (rs := [4]) (by kernel_rfl) (by simp) ?_
            refine AllReadyH.cons rfl (fun K hK => ?_) AllReadyH.nil
            go_simp
            refine hK.out _ _ hH2 (fun hH => ?_)
            clear hK K
            refine wpAnyH_ready (rs := [7]) (by kernel_rfl) (by simp) ?_
            refine AllReadyH.cons rfl (fun K hK => ?_) AllReadyH.nil
            refine ite_of rfl ?_
            refine wp_append_two _ (.tmp 45) (.tmp 47) 35 rfl (wb + 1) 41 i1 (.agg #[.int .u8 0, .string ⟨#[]⟩, .int .u16 0, .int .i16 0]) 4 32 Tryz.underlying35 hi1 hy0 hy1 hy2 rfl (by decide) (.slice am (ents.length + j) cm) (E.map Ent.m).length (evCells (E.map Ent.m)) rfl (HD.out.1.mks.alloc _) ⟨w4.heap.size, 0, none⟩ 1 1 (evCells1 ⟨7, ⟨#[109, 97, 114, 107]⟩, sq, vl⟩) rfl rfl (by have := cell_four_new w4 (.int .u8 7) (.string ⟨#[109, 97, 114, 107]⟩) (.int .u16 (sq : Int)) (.int .i16 vl) 41; simpa [evCells1] using this) (ev_oneCell _) (by unfold maxLen; omega) (by omega) (by have := heap_lt HD.out.1.box; simp; omega) (by decide) ?_
            intro v3 w5 hown3 hfr3
            obtain ⟨a3, c3, rfl⟩ := own_shape hown3
            have HE := show Hid _ from HD.out.1.walkB HD.out.2 hown3 hfr3
            rw [hml] at HE ⊢
            clear hown3 hfr3 HD
            refine hK.out _ _ HE.out.2.2.2.2 (fun hH => ?_)
            clear hK K b5 b5a hH2
            have c5 := HE.out.1
            have z5 := HE.out.2.1
            refine wpAnyH_take (i := 8) (v := (.pointer (some ⟨wb, 0, none⟩))) rfl (by kernel_rfl) (by kernel_rfl) (by kernel_rfl) (fun _ _ _ h => h) (Or.inl ⟨by rfl, by intro w hSw; go_simp⟩) hH ?_
            refine wpAnyH_take (i := 9) (v := (.pointer (some ⟨wb, 5, none⟩))) rfl (by kernel_rfl) (by kernel_rfl) (by kernel_rfl) (fun _ _ _ h => h) (Or.inl ⟨by rfl, by intro w hSw; go_simp⟩) hH ?_
            refine wpAnyH_ready (rs := [10]) (by kernel_rfl) (by simp) ?_
            refine AllReadyH.cons rfl (fun K hK => ?_) AllReadyH.nil
            go_simp
            refine hK.out _ _ HE.out.2.2.1.mbox (fun hH => ?_)
            clear hK K c5 z5
            refine wpAnyH_done (by kernel_rfl) ?_ _
            have HF := show Hid (_ ∧ _) from ⟨HE.out.2.2.1, HE.out.2.2.2.1⟩
            clear HE hH
            generalize w5.setCell ⟨wb, 5, none⟩ (.slice a3 (ents.length + j + 1) c3) = w6 at HF ⊢
            have hc0 : w6.cell? ⟨mb, 0, none⟩ = some (.int .u8 7) := box_cell HF.out.1.mbox 0
            have hc1 : w6.cell? ⟨mb, 1, none⟩ = some (.string ⟨#[109, 97, 114, 107]⟩) := box_cell HF.out.1.mbox 1
            have hc2 : w6.cell? ⟨mb, 2, none⟩ = some (.int .u16 (sq : Int)) := box_cell HF.out.1.mbox 2
            have hc3 : w6.cell? ⟨mb, 3, none⟩ = some (.int .i16 vl) := box_cell HF.out.1.mbox 3
            go_wp2_with (first
              | (at_builtin; refine wpList_append_two _ rfl (.tmp 51) (.tmp 53) 35 rfl (wb + 1) 41 i1 (.agg #[.int .u8 0, .string ⟨#[]⟩, .int .u16 0, .int .i16 0]) 4 32 Tryz.underlying35 hi1 hy0 hy1 hy2 rfl (by decide) (.slice la' (k + j) lc') (k + j) (evCells (List.replicate (k + j) ⟨7, ⟨#[109, 97, 114, 107]⟩, sq, vl⟩)) rfl (HF.out.1.lrow.alloc _) ⟨w6.heap.size, 0, none⟩ 1 1 (evCells1 ⟨7, ⟨#[109, 97, 114, 107]⟩, sq, vl⟩) rfl rfl (by have := cell_four_new w6 (.int .u8 7) (.string ⟨#[109, 97, 114, 107]⟩) (.int .u16 (sq : Int)) (.int .i16 vl) 41; simpa [evCells1] using this) (ev_oneCell _) (by unfold maxLen; omega) (by omega) (by have := heap_lt HF.out.1.box; simp; omega) (by decide) ?_; intro v4 w7 hown4 hfr4; obtain ⟨a4, c4, rfl⟩ := own_shape hown4; have HG := show Hid (_ ∧ _) from HF.out.1.walkC HF.out.2 hown4 hfr4; clear hown4 hfr4 HF hc0 hc1 hc2 hc3))
            go_roundw
            case rel => exact ⟨j + 1, E ++ [⟨la', k + j, lc', ⟨7, ⟨#[109, 97, 114, 107]⟩, sq, vl⟩⟩], a4, c4, _, _, by omega, by go_num, by rfl, by simp [hEl]; omega, by have h := HG.out.1; simp only [List.map_append, List.map_cons, List.map_nil]; exact h, HG.out.2⟩
            case measure => simp [intOf]; omega
        · have hjj : j = 4 := by omega
          subst hjj
          go_wp2
          go_end0
          exact ⟨rfl, E, ve', vm', ⟨hS.box, hS.evs, by simpa using hS.mks, hS.all⟩, hEl, hbr⟩
end Go.Proofs.YthccpacmklhejaaGreatDoor
