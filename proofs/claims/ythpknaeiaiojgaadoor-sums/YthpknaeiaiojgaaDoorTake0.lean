/-
  What a call leaves alone: blocks of other types than two. What the keys' list is.
-/
import Derived.Test.YthpknaeiaiojgaaDoorCode1
import Derived.Test.YthpknaeiaiojgaaDoorKeep
namespace Go.Proofs.YthpknaeiaiojgaaDoor
open Go.RowKit

/-- Blocks below B, and all blocks of other types than two, are as they were. -/
structure Frm (B t1 t2 : Nat) (w w' : World) : Prop where
  below : Below B w w'
  keep : ∀ (j : Nat) (cs : Array Value) (t : TypeId) (fz : Nat × Nat), w.heap[j]? = some (.cells cs t fz) → t ≠ t1 → t ≠ t2 → w'.heap[j]? = some (.cells cs t fz)

theorem Frm.refl (B t1 t2 : Nat) (w : World) : Frm B t1 t2 w w := ⟨Below.refl _ _, fun _ _ _ _ h _ _ => h⟩
theorem Frm.trans {B t1 t2 : Nat} {w w1 w2 : World} (h : Frm B t1 t2 w w1) (h' : Frm B t1 t2 w1 w2) : Frm B t1 t2 w w2 :=
  ⟨h.below.trans h'.below, fun j cs t fz hj h1 h2 => h'.keep j cs t fz (h.keep j cs t fz hj h1 h2) h1 h2⟩
theorem Frm.drew {B t1 t2 : Nat} {w w1 : World} (h : Frm B t1 t2 w w1) : Frm B t1 t2 w w1.drew := ⟨h.below.drew, h.keep⟩
theorem Frm.drewN {B t1 t2 : Nat} {w w1 : World} (h : Frm B t1 t2 w w1) (n : Nat) : Frm B t1 t2 w (w1.drewN n) := ⟨below_drewN h.below n, h.keep⟩
theorem Frm.old {B t1 t2 : Nat} {w w1 w2 : World} (h : Frm B t1 t2 w w1) (hB : B ≤ w.heap.size) (hb : Below w1.heap.size w1 w2) : Frm B t1 t2 w w2 :=
  ⟨h.below.trans (hb.mono (Nat.le_trans hB h.below.size)), fun j cs t fz hj h1 h2 => by
    have := h.keep j cs t fz hj h1 h2
    rw [hb.block j (heap_lt this)]
    exact this⟩
theorem Frm.alloc {B t1 t2 : Nat} {w w1 : World} (h : Frm B t1 t2 w w1) (hB : B ≤ w.heap.size) (o : Obj) : Frm B t1 t2 w (w1.alloc o) :=
  h.old hB ((Below.refl _ _).alloc (Nat.le_refl _) _)
theorem Frm.set {B t1 t2 : Nat} {w w1 : World} (h : Frm B t1 t2 w w1) {g o : Nat} (hB : B ≤ g) {cs : Array Value} {t : TypeId} {fz : Nat × Nat} (hg : w1.heap[g]? = some (.cells cs t fz)) (ht : t = t1 ∨ t = t2) (u : Value) : Frm B t1 t2 w (w1.setCell ⟨g, o, none⟩ u) :=
  ⟨h.below.setCell (p := ⟨g, o, none⟩) hB u, fun j cs' t' fz' hj h1 h2 => by
    have := h.keep j cs' t' fz' hj h1 h2
    rw [Below.heap_setCell _ _ _ _ (by
      intro e
      simp only at e
      subst e
      rw [hg] at this
      simp at this
      rcases ht with ht | ht
      · exact h1 (this.2.1 ▸ ht)
      · exact h2 (this.2.1 ▸ ht))]
    exact this⟩
theorem Frm.setNew {B t1 t2 : Nat} {w w1 : World} (h : Frm B t1 t2 w w1) {g o : Nat} (hB : B ≤ w.heap.size) (hg : w.heap.size ≤ g) (u : Value) : Frm B t1 t2 w (w1.setCell ⟨g, o, none⟩ u) :=
  ⟨h.below.setCell (p := ⟨g, o, none⟩) (Nat.le_trans hB hg) u, fun j cs' t' fz' hj h1 h2 => by
    have hl := heap_lt hj
    rw [Below.heap_setCell _ _ _ _ (by simp only; omega)]
    exact h.keep j cs' t' fz' hj h1 h2⟩
theorem Frm.grown {B t1 t2 : Nat} {w w1 w2 : World} (h : Frm B t1 t2 w w1) (hB : B ≤ w.heap.size) {row : Option Nat} (hg : w1.grownBy w2 row) (hr : ∀ g, row = some g → B ≤ g ∧ ∃ cs t fz, w1.heap[g]? = some (.cells cs t fz) ∧ (t = t1 ∨ t = t2)) : Frm B t1 t2 w w2 :=
  ⟨h.below.grown hg (Nat.le_trans hB h.below.size) fun k hk => (hr k hk).1, fun j cs t fz hj h1 h2 => by
    have hk := h.keep j cs t fz hj h1 h2
    rw [hg.block j (heap_lt hk) (by
      intro e
      obtain ⟨_, cs', t', fz', h', ht⟩ := hr j e.symm
      rw [hk] at h'
      simp at h'
      rcases ht with ht | ht
      · exact h1 (h'.2.1.trans ht)
      · exact h2 (h'.2.1.trans ht))]
    exact hk⟩

/-- The keys' list. -/
def KAt (B kb : Nat) (a : Option Addr) (c : Nat) (rs : List EV) (w : World) : Prop :=
  w.heap[kb]? = some (.cells #[.slice a rs.length c] 118 (0, 0)) ∧ w.ownsRow B 148 4 (.slice a rs.length c) rs.length (entCells rs)

theorem KAt.old {B kb : Nat} {a : Option Addr} {c : Nat} {rs : List EV} {w w1 : World} (h : KAt B kb a c rs w) (hb : Below w.heap.size w w1) : KAt B kb a c rs w1 :=
  ⟨by rw [hb.block kb (heap_lt h.1)]; exact h.1, own_below h.2 hb⟩
theorem KAt.alloc {B kb : Nat} {a : Option Addr} {c : Nat} {rs : List EV} {w : World} (h : KAt B kb a c rs w) (o : Obj) : KAt B kb a c rs (w.alloc o) := h.old ((Below.refl _ _).alloc (Nat.le_refl _) _)
theorem KAt.drew {B kb : Nat} {a : Option Addr} {c : Nat} {rs : List EV} {w : World} (h : KAt B kb a c rs w) : KAt B kb a c rs w.drew := h
theorem KAt.cell {B kb : Nat} {a : Option Addr} {c : Nat} {rs : List EV} {w : World} (h : KAt B kb a c rs w) : w.cell? ⟨kb, 0, none⟩ = some (.slice a rs.length c) := row_cell h.1 0

theorem KAt.setOther {B kb : Nat} {a : Option Addr} {c : Nat} {rs : List EV} {w : World} (h : KAt B kb a c rs w) {g' : Nat} (hk : kb ≠ g') (hne : ∀ g, a = some ⟨g, 0, none⟩ → g ≠ g') (o : Nat) (u : Value) : KAt B kb a c rs (w.setCell ⟨g', o, none⟩ u) := by
  refine ⟨by rw [Below.heap_setCell _ _ _ _ hk]; exact h.1, own_kept h.2 (grown_set w g' o u) fun g hg e => ?_⟩
  rcases own_addr h.2 with ⟨h0, _⟩ | ⟨g0, h0⟩
  · subst h0
    simp [Value.ownBlock] at hg
  · subst h0
    simp [Value.ownBlock] at hg e
    exact hne g0 rfl (hg.trans e.symm)

theorem entFill (rs : List EV) (n : Nat) (h : n < rs.length) (x : EV) : ((((entCells rs).set (n * 4) (.string x.name)).set (n * 4 + 1) (.int .u16 (x.seq : Int))).set (n * 4 + 2) (.int .i64 x.live)).set (n * 4 + 3) (.int .i16 x.value) = entCells (rs.set n x) := by
  have hs : rs = rs.take n ++ rs[n] :: rs.drop (n + 1) := by rw [← List.drop_eq_getElem_cons h, List.take_append_drop]
  have hset : rs.set n x = rs.take n ++ x :: rs.drop (n + 1) := by rw [List.set_eq_take_append_cons_drop, if_pos h]
  rw [hset]
  generalize rs[n] = r at hs
  generalize hT : rs.take n = T at hs
  generalize rs.drop (n + 1) = D at hs
  have hTl : T.length = n := by rw [← hT, List.length_take]; omega
  have hlen : (entCells T).length = n * 4 := by rw [entCells_length, hTl]
  subst hs
  have hc : ∀ r' : EV, entCells (r' :: D) = entCells1 r' ++ entCells D := fun r' => by simp [entCells]
  rw [entCells_append, entCells_append, hc, hc]
  rw [List.set_append_right _ _ (by omega), List.set_append_right _ _ (by omega), List.set_append_right _ _ (by omega), List.set_append_right _ _ (by omega), hlen]
  rw [show n * 4 - n * 4 = 0 from by omega, show n * 4 + 1 - n * 4 = 1 from by omega, show n * 4 + 2 - n * 4 = 2 from by omega, show n * 4 + 3 - n * 4 = 3 from by omega]
  rfl

/-- One entry, laid over: what the walk's four stores ask and leave. -/
theorem KAt.fill {B kb g c : Nat} {rs : List EV} {w : World} (h : KAt B kb (some ⟨g, 0, none⟩) c rs w) (n : Nat) (hn : n < rs.length) (x : EV) :
    (w.cell? ⟨g, n * 4, none⟩ = some (.string rs[n].name) ∧ (w.setCell ⟨g, n * 4, none⟩ (.string x.name)).cell? ⟨g, n * 4 + 1, none⟩ = some (.int .u16 (rs[n].seq : Int)) ∧
      ((w.setCell ⟨g, n * 4, none⟩ (.string x.name)).setCell ⟨g, n * 4 + 1, none⟩ (.int .u16 (x.seq : Int))).cell? ⟨g, n * 4 + 2, none⟩ = some (.int .i64 rs[n].live) ∧
      (((w.setCell ⟨g, n * 4, none⟩ (.string x.name)).setCell ⟨g, n * 4 + 1, none⟩ (.int .u16 (x.seq : Int))).setCell ⟨g, n * 4 + 2, none⟩ (.int .i64 x.live)).cell? ⟨g, n * 4 + 3, none⟩ = some (.int .i16 rs[n].value)) ∧
    (w.frozen? ⟨g, n * 4, none⟩ = false ∧ (w.setCell ⟨g, n * 4, none⟩ (.string x.name)).frozen? ⟨g, n * 4 + 1, none⟩ = false ∧
      ((w.setCell ⟨g, n * 4, none⟩ (.string x.name)).setCell ⟨g, n * 4 + 1, none⟩ (.int .u16 (x.seq : Int))).frozen? ⟨g, n * 4 + 2, none⟩ = false ∧
      (((w.setCell ⟨g, n * 4, none⟩ (.string x.name)).setCell ⟨g, n * 4 + 1, none⟩ (.int .u16 (x.seq : Int))).setCell ⟨g, n * 4 + 2, none⟩ (.int .i64 x.live)).frozen? ⟨g, n * 4 + 3, none⟩ = false) ∧
    KAt B kb (some ⟨g, 0, none⟩) c (rs.set n x) ((((w.setCell ⟨g, n * 4, none⟩ (.string x.name)).setCell ⟨g, n * 4 + 1, none⟩ (.int .u16 (x.seq : Int))).setCell ⟨g, n * 4 + 2, none⟩ (.int .i64 x.live)).setCell ⟨g, n * 4 + 3, none⟩ (.int .i16 x.value)) ∧
    w.grownBy ((((w.setCell ⟨g, n * 4, none⟩ (.string x.name)).setCell ⟨g, n * 4 + 1, none⟩ (.int .u16 (x.seq : Int))).setCell ⟨g, n * 4 + 2, none⟩ (.int .i64 x.live)).setCell ⟨g, n * 4 + 3, none⟩ (.int .i16 x.value)) (some g) := by
  obtain ⟨hb, ho⟩ := h
  have hat : ∀ j, j < 4 → (entCells rs)[n * 4 + j]? = (entCells1 rs[n])[j]? := fun j hj => entCells_at rs n hn j hj
  have r1 := ho.stored (n * 4) (.string x.name)
  have r2 := r1.1.stored (n * 4 + 1) (.int .u16 (x.seq : Int))
  have r3 := r2.1.stored (n * 4 + 2) (.int .i64 x.live)
  have r4 := r3.1.stored (n * 4 + 3) (.int .i16 x.value)
  have q0 := (ho.cellAt (n * 4) (by omega)).trans (hat 0 (by decide))
  have q1 := (r1.1.cellAt (n * 4 + 1) (by omega)).trans ((List.getElem?_set_ne (by omega)).trans (hat 1 (by decide)))
  have q2 := (r2.1.cellAt (n * 4 + 2) (by omega)).trans ((List.getElem?_set_ne (by omega)).trans ((List.getElem?_set_ne (by omega)).trans (hat 2 (by decide))))
  have q3 := (r3.1.cellAt (n * 4 + 3) (by omega)).trans ((List.getElem?_set_ne (by omega)).trans ((List.getElem?_set_ne (by omega)).trans ((List.getElem?_set_ne (by omega)).trans (hat 3 (by decide)))))
  have hgrow := grown_trans (grown_trans (grown_trans r1.2 r2.2) r3.2) r4.2
  refine ⟨⟨q0, q1, q2, q3⟩, ⟨ho.frozenAt _, r1.1.frozenAt _, r2.1.frozenAt _, r3.1.frozenAt _⟩, ⟨?_, ?_⟩, hgrow⟩
  · rw [List.length_set, hgrow.block kb (heap_lt hb) (by
      intro e
      obtain ⟨cur, hcur⟩ := own_obj ho
      simp only [Option.some.injEq] at e
      subst e
      rw [hb] at hcur
      simp at hcur)]
    exact hb
  · have := r4.1
    rw [entFill rs n hn x] at this
    rw [List.length_set]
    exact this

theorem Tryd.infoEnt : (Tryd.prog.info? 148).map (fun i => (i.zero, i.size, i.bytes)) = some (some (.agg #[.string ⟨#[]⟩, .int .u16 0, .int .i64 0, .int .i16 0]), 4, 40) := by kernel_rfl

theorem ent_oneCell (r : EV) : ∀ u ∈ entCells1 r, u.oneCell' = true := by
  intro u hu
  simp [entCells1] at hu
  rcases hu with rfl | rfl | rfl | rfl <;> rfl

theorem KAt.appended {B kb : Nat} {a a3 : Option Addr} {c c3 : Nat} {rs : List EV} {x : EV} {wa w5 : World} (hB : B ≤ kb) (h : KAt B kb a c rs wa) (hown : w5.ownsRow B 148 4 (.slice a3 (rs.length + 1) c3) (rs.length + 1) (entCells rs ++ entCells1 x)) (hg : wa.grownBy w5 (Value.slice a rs.length c).ownBlock) :
    w5.heap[kb]? = some (.cells #[.slice a rs.length c] 118 (0, 0)) ∧ KAt B kb a3 c3 (rs ++ [x]) (w5.setCell ⟨kb, 0, none⟩ (.slice a3 (rs.length + 1) c3)) ∧ Frm B 118 148 wa (w5.setCell ⟨kb, 0, none⟩ (.slice a3 (rs.length + 1) c3)) := by
  have hbk : w5.heap[kb]? = some (.cells #[.slice a rs.length c] 118 (0, 0)) := by
    rw [hg.block kb (heap_lt h.1) (by
      intro e
      obtain ⟨cur, hcur, _⟩ := own_heap h.2 e.symm
      rw [h.1] at hcur
      simp at hcur)]
    exact h.1
  have hrow : ∀ g, (Value.slice a rs.length c).ownBlock = some g → B ≤ g ∧ ∃ cs t fz, wa.heap[g]? = some (.cells cs t fz) ∧ (t = 118 ∨ t = 148) := fun g hg' => by
    obtain ⟨cur, hcur, _⟩ := own_heap h.2 hg'
    exact ⟨(own_ge h.2 g hg').1, cur, _, _, hcur, .inr rfl⟩
  have hBw : B ≤ wa.heap.size := Nat.le_trans hB (Nat.le_of_lt (heap_lt h.1))
  refine ⟨hbk, ⟨?_, ?_⟩, ((Frm.refl B 118 148 wa).grown hBw hg hrow).set hB hbk (.inl rfl) _⟩
  · have := row_set (j := 0) hbk (.slice a3 (rs.length + 1) c3)
    rw [List.length_append]
    exact this
  · rw [List.length_append, entCells_append]
    have e1 : entCells [x] = entCells1 x := by simp [entCells]
    rw [e1]
    refine own_kept hown (grown_set w5 kb 0 _) fun g hg' e => ?_
    obtain ⟨cur, hcur, _⟩ := own_heap hown hg'
    simp only [Option.some.injEq] at e
    subst e
    rw [hbk] at hcur
    simp at hcur

theorem results_row_tmp {P : Program} {fn : Func} {p u : Tmp} {ty : TypeId} (h : fn.results = #[.cell p ty, .tmp u]) (tmps : Array Value) (w : World) (g : Nat) (t : TypeId) (cs : Array Value) (fr : Nat × Nat) (d : TypeDesc)
    (hp : tmps.getD p undef = .pointer (some ⟨g, 0, none⟩)) (hg : w.heap[g]? = some (.cells cs t fr))
    (hu : P.underlying ty = some d) (hd : (match d with | .struct _ | .array _ _ => true | _ => false) = true) (hi : (P.info? ty).map (·.size) = some cs.size) :
    (results fn tmps).run P w = .ok (.tuple #[.agg cs, tmps.getD u undef]) w := by
  have hp' : tmps[p]?.getD undef = .pointer (some ⟨g, 0, none⟩) := by simpa using hp
  simp [results, h, hp', asAddr, run_loadVar_row w g t ty cs fr d hg hu hd hi]

end Go.Proofs.YthpknaeiaiojgaaDoor
