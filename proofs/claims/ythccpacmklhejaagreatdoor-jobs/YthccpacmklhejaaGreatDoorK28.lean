/-
  Several texts in one.
-/
import Derived.Test.YthccpacmklhejaaGreatDoorK27
import Derived.Test.YthccpacmklhejaaGreatDoorK15
import Derived.Test.YthccpacmklhejaaGreatDoorK18
namespace Go.Proofs.YthccpacmklhejaaGreatDoor
open Go.RowKit

def chgCells1 (c : ChgM) : List Value := [.int .i64 c.pt, .string c.tx, .int .i64 c.live, .int .i64 c.delta]
def chgCells (cs : List ChgM) : List Value := cs.flatMap chgCells1
def rowmCells1 (r : RowM) : List Value := [.int .i64 r.pt, .string r.tx, .int .i64 r.live, .int .i64 r.sum, .int .i64 (r.ev : Int)]
def rowmCells (rs : List RowM) : List Value := rs.flatMap rowmCells1

/-- A sorter, in block b. -/
def RSorter (f : Owners) (w : World) (B k i b : Nat) (s : SorterM) : Prop :=
  f b = some (k + 100 + i) ∧ ∃ vg vp, w.heap[b]? = some (.cells #[vg, vp, .int .i64 (s.marked : Int), .int .i64 (s.kept : Int), .bool s.passed] 94 (0, 0)) ∧
    w.ownsRow B 41 4 vg s.got.length (evCells s.got) ∧ IsOf f (k + 200 + i) vg ∧ qRow w B 3 1 vp s.pipe.length (s.pipe.map (Value.int .i64)) ∧ IsOf f (k + 300 + i) vp

/-- An adder, in block b; vs: its pipes. -/
def RAdder (f : Owners) (w : World) (B k i b : Nat) (a : AdderM) : Prop :=
  f b = some (k + 400 + i) ∧ ∃ vg vp vs vt, w.heap[b]? = some (.cells #[vg, vp, vt, .int .i64 (a.marked : Int), .int .i64 (a.kept : Int), .bool a.passed] 100 (0, 0)) ∧
    w.ownsRow B 149 4 vg a.got.length (chgCells a.got) ∧ IsOf f (k + 500 + i) vg ∧
    w.ownsRow B 98 1 vp a.pipes.length vs ∧ IsOf f (k + 600 + i) vp ∧
    (∀ m (h : m < a.pipes.length), ∃ v, vs[m]? = some v ∧ qRow w B 149 4 v a.pipes[m].length (chgCells a.pipes[m]) ∧ IsOf f (k + 1000 + 10 * i + m) v) ∧
    w.ownsRow B 4 1 vt a.stopped.length (a.stopped.map Value.bool) ∧ IsOf f (k + 700 + i) vt

theorem q_lt {w : World} {B n : Nat} {e : TypeId} {s : Nat} {v : Value} {xs : List Value} (h : qRow w B e s v n xs) : ∀ g, v.ownBlock = some g → g < w.heap.size := fun g hg => by
  obtain ⟨_, cur, hc⟩ := h.lt g hg
  exact heap_lt hc

theorem RSorter.frm {f f' : Owners} {S : Nat → Prop} {w w' : World} {B k i b : Nat} {s : SorterM} (h : RSorter f w B k i b s) (hf : FrmO f S w w') (hs : Same w.heap.size f f') (h1 : ¬ S (k + 100 + i)) (h2 : ¬ S (k + 200 + i)) (h3 : ¬ S (k + 300 + i)) : RSorter f' w' B k i b s := by
  obtain ⟨ho, vg, vp, hb, hg, og, hp, op⟩ := h
  exact ⟨(hs b (heap_lt hb)).trans ho, vg, vp, heap_frm hb hf ho h1, own_frm hg hf og h2, og.same hs fun g e => (own_ge hg g e).2, q_frm hp hf op h3, op.same hs (q_lt hp)⟩

theorem RAdder.frm {f f' : Owners} {S : Nat → Prop} {w w' : World} {B k i b : Nat} {a : AdderM} (h : RAdder f w B k i b a) (hf : FrmO f S w w') (hs : Same w.heap.size f f') (h1 : ¬ S (k + 400 + i)) (h2 : ¬ S (k + 500 + i)) (h3 : ¬ S (k + 600 + i)) (h4 : ¬ S (k + 700 + i)) (h5 : ∀ m, m < a.pipes.length → ¬ S (k + 1000 + 10 * i + m)) : RAdder f' w' B k i b a := by
  obtain ⟨ho, vg, vp, vs, vt, hb, hg, og, hp, op, hq, ht, ot⟩ := h
  refine ⟨(hs b (heap_lt hb)).trans ho, vg, vp, vs, vt, heap_frm hb hf ho h1, own_frm hg hf og h2, og.same hs fun g e => (own_ge hg g e).2, own_frm hp hf op h3, op.same hs fun g e => (own_ge hp g e).2, fun m hm => ?_, own_frm ht hf ot h4, ot.same hs fun g e => (own_ge ht g e).2⟩
  obtain ⟨v, hv, hqv, ov⟩ := hq m hm
  exact ⟨v, hv, q_frm hqv hf ov (h5 m hm), ov.same hs (q_lt hqv)⟩

/-- The job, in block jb; its sorters in blocks sb, its adders in blocks ab. -/
structure RJob (f : Owners) (w : World) (B k jb : Nat) (sb ab : List Nat) (j : JobM) : Prop where
  own : f jb = some (k + 1)
  lenS : sb.length = j.width ∧ j.sorters.length = j.width
  lenA : ab.length = j.width ∧ j.adders.length = j.width
  box : ∃ ve vs va vr, w.heap[jb]? = some (.cells #[.int .i64 (j.width : Int), .int .i64 (j.room : Int), ve, .int .i64 (j.sent : Int), vs, va, .int .i64 (j.number : Int), .bool j.under, .bool j.barriers, .int .i64 (j.off : Int), .bool j.complete, .int .i64 (j.base : Int), vr] 91 (0, 0)) ∧
    w.ownsRow B 41 4 ve j.events.length (evCells j.events) ∧ IsOf f (k + 4) ve ∧
    w.ownsRow B 92 1 vs sb.length (sb.map fun b => .pointer (some ⟨b, 0, none⟩)) ∧ IsOf f (k + 2) vs ∧
    w.ownsRow B 95 1 va ab.length (ab.map fun b => .pointer (some ⟨b, 0, none⟩)) ∧ IsOf f (k + 3) va ∧
    w.ownsRow B 137 5 vr j.rows.length (rowmCells j.rows) ∧ IsOf f (k + 5) vr
  sorters : ∀ i (h : i < sb.length) (h' : i < j.sorters.length), RSorter f w B k i sb[i] j.sorters[i]
  adders : ∀ i (h : i < ab.length) (h' : i < j.adders.length), RAdder f w B k i ab[i] j.adders[i]
  pipes : ∀ i (h : i < j.adders.length), j.adders[i].pipes.length = j.width ∧ j.adders[i].stopped.length = j.width

end Go.Proofs.YthccpacmklhejaaGreatDoor

namespace Go.Proofs.YthccpacmklhejaaGreatDoor
open Go.RowKit

set_option maxHeartbeats 400000 in
theorem roffset_any {f : Owners} {w : World} {B k jb : Nat} {sb ab : List Nat} {j : JobM} (h : RJob f w B k jb sb ab j) :
    Calls Tryz.prog 28 #[.pointer (some ⟨jb, 0, none⟩)] w fun en w' => en = .returned (.int .i64 (j.base : Int)) ∧ w' = w := by
  obtain ⟨ve, vs, va, vr, hb, _⟩ := h.box
  have c11 : w.cell? ⟨jb, 11, none⟩ = some (.int .i64 (j.base : Int)) := box_cell hb 11
  clear hb h
  go_enter Tryz.func28, Tryz.ntmps28
  go_wp2
  go_ret
  exact ⟨rfl, rfl⟩

/-- Have the first of them done with the barriers? -/
def accP (j : JobM) (i : Nat) : Bool := j.under && j.barriers && ((j.sorters.take i).all (·.passed) && (j.adders.take i).all (·.passed))

theorem accP_succ (j : JobM) (i : Nat) (h1 : i < j.sorters.length) (h2 : i < j.adders.length) : accP j (i + 1) = (accP j i && j.sorters[i].passed && j.adders[i].passed) := by
  unfold accP
  rw [List.take_succ_eq_append_getElem h1, List.take_succ_eq_append_getElem h2, List.all_append, List.all_append]
  simp only [List.all_cons, List.all_nil, Bool.and_true]
  cases j.under <;> cases j.barriers <;> cases (j.sorters.take i).all (·.passed) <;> cases (j.adders.take i).all (·.passed) <;> cases j.sorters[i].passed <;> cases j.adders[i].passed <;> rfl

theorem accP_full (j : JobM) (n : Nat) (h1 : j.sorters.length ≤ n) (h2 : j.adders.length ≤ n) : accP j n = j.passedAll := by
  unfold accP JobM.passedAll
  rw [List.take_of_length_le h1, List.take_of_length_le h2]
  cases j.under <;> cases j.barriers <;> simp

end Go.Proofs.YthccpacmklhejaaGreatDoor

namespace Go.Proofs.YthccpacmklhejaaGreatDoor
open Go.RowKit

/-- What a walk reads of a job: its cells, its sorters' and adders' blocks. -/
theorem RJob.reads {f : Owners} {w : World} {B k jb : Nat} {sb ab : List Nat} {j : JobM} (h : RJob f w B k jb sb ab j) : ∃ ve gs cs' ga ca vr, w.heap[jb]? = some (.cells #[.int .i64 (j.width : Int), .int .i64 (j.room : Int), ve, .int .i64 (j.sent : Int), .slice gs j.width cs', .slice ga j.width ca, .int .i64 (j.number : Int), .bool j.under, .bool j.barriers, .int .i64 (j.off : Int), .bool j.complete, .int .i64 (j.base : Int), vr] 91 (0, 0)) ∧
    (∀ i (hi : i < sb.length), ∃ g, gs = some ⟨g, 0, none⟩ ∧ w.cell? ⟨g, i, none⟩ = some (.pointer (some ⟨sb[i], 0, none⟩))) ∧
    (∀ i (hi : i < ab.length), ∃ g, ga = some ⟨g, 0, none⟩ ∧ w.cell? ⟨g, i, none⟩ = some (.pointer (some ⟨ab[i], 0, none⟩))) := by
  obtain ⟨ve, vs, va, vr, hb, he, _, hs, _, ha, _, hr, _⟩ := h.box
  obtain ⟨gs, cs', rfl⟩ := own_shape hs
  obtain ⟨ga, ca, rfl⟩ := own_shape ha
  rw [h.lenS.1] at hs
  rw [h.lenA.1] at ha
  refine ⟨ve, gs, cs', ga, ca, vr, by rw [h.lenS.1, h.lenA.1] at hb; exact hb, fun i hi => ?_, fun i hi => ?_⟩
  · rcases own_addr hs with ⟨_, h0⟩ | ⟨g, rfl⟩
    · rw [h.lenS.1] at hi; omega
    · refine ⟨g, rfl, (hs.cellAt i (by rw [h.lenS.1] at hi; omega)).trans ?_⟩
      rw [List.getElem?_map, List.getElem?_eq_getElem hi]
      rfl
  · rcases own_addr ha with ⟨_, h0⟩ | ⟨g, rfl⟩
    · rw [h.lenA.1] at hi; omega
    · refine ⟨g, rfl, (ha.cellAt i (by rw [h.lenA.1] at hi; omega)).trans ?_⟩
      rw [List.getElem?_map, List.getElem?_eq_getElem hi]
      rfl

set_option maxRecDepth 100000 in
set_option maxHeartbeats 1000000 in
theorem rpassed_any {f : Owners} {w : World} {B k jb : Nat} {sb ab : List Nat} {j : JobM} (h : RJob f w B k jb sb ab j) (hw : j.width ≤ 4) :
    Calls Tryz.prog 79 #[.pointer (some ⟨jb, 0, none⟩)] w fun en w' => en = .returned (.bool j.passedAll) ∧ w' = w := by
  obtain ⟨ve, gs, cs', ga, ca, vr, hb, hS, hA⟩ := h.reads
  have c0 : w.cell? ⟨jb, 0, none⟩ = some (.int .i64 (j.width : Int)) := box_cell hb 0
  have c4 : w.cell? ⟨jb, 4, none⟩ = some (.slice gs j.width cs') := box_cell hb 4
  have c5 : w.cell? ⟨jb, 5, none⟩ = some (.slice ga j.width ca) := box_cell hb 5
  have c7 : w.cell? ⟨jb, 7, none⟩ = some (.bool j.under) := box_cell hb 7
  have c8 : w.cell? ⟨jb, 8, none⟩ = some (.bool j.barriers) := box_cell hb 8
  clear hb
  have H := show Hid (_ ∧ _ ∧ _) from And.intro h (And.intro hS hA)
  clear hS hA h
  have ha0 : accP j 0 = (j.under && j.barriers) := by unfold accP; simp
  have hfin : accP j j.width = j.passedAll := accP_full j j.width (by rw [H.out.1.lenS.2]; exact Nat.le_refl _) (by rw [H.out.1.lenA.2]; exact Nat.le_refl _)
  have Hfin := show Hid _ from hfin
  clear hfin
  generalize j.passedAll = fin at Hfin ⊢
  have H0 := show Hid (accP j 0 = (j.under && j.barriers)) from ha0
  clear ha0
  generalize hu : j.under = u at c7 H0
  generalize hbr : j.barriers = br at c8 H0
  clear hu hbr
  go_enter Tryz.func79, Tryz.ntmps79
  have hgo : ∀ (Q : Prop), (u = true → br = true → Q) → (u = true → br = false → Q) → (u = false → Q) → Q := fun Q h1 h2 h3 => by
    cases u
    · exact h3 rfl
    · cases br
      · exact h2 rfl rfl
      · exact h1 rfl rfl
  refine hgo _ (fun e1 e2 => ?_) (fun e1 e2 => ?_) (fun e1 => ?_)
  all_goals
    (try subst e1)
    (try subst e2)
    clear hgo
    go_wp2
    go_loopw [3, 4] (fun al i wr => ∃ n : Nat, n ≤ j.width ∧ i = .int .i64 (n : Int) ∧ al = .bool (accP j n) ∧ wr = w) (fun _ i _ => j.width - (intOf i).toNat)
    case atStart => exact ⟨0, Nat.zero_le _, rfl, by rw [H0.out]; rfl, rfl⟩
    case round =>
      obtain ⟨n, hn, rfl, rfl, rfl⟩ := hrel
      by_cases hnl : n < j.width
      · have hs1 : n < j.sorters.length := by rw [H.out.1.lenS.2]; exact hnl
        have ha1 : n < j.adders.length := by rw [H.out.1.lenA.2]; exact hnl
        have hs2 : n < sb.length := by rw [H.out.1.lenS.1]; exact hnl
        have ha2 : n < ab.length := by rw [H.out.1.lenA.1]; exact hnl
        obtain ⟨g1, rfl, d1⟩ := H.out.2.1 n hs2
        obtain ⟨g2, rfl, d2⟩ := H.out.2.2 n ha2
        obtain ⟨_, _, _, hsb, _⟩ := H.out.1.sorters n hs2 hs1
        obtain ⟨_, _, _, _, _, hab, _⟩ := H.out.1.adders n ha2 ha1
        have d3 := box_cell hsb 4
        have d4 := box_cell hab 5
        have d3' : wr.cell? ⟨sb[n], 4, none⟩ = some (.bool (j.sorters[n].passed)) := d3
        have d4' : wr.cell? ⟨ab[n], 5, none⟩ = some (.bool (j.adders[n].passed)) := d4
        have hnx := accP_succ j n hs1 ha1
        have Hnx := show Hid _ from hnx
        clear hnx d3 d4 hsb hab
        generalize sb[n] = b1 at d1 d3'
        generalize ab[n] = b2 at d2 d4'
        generalize j.sorters[n].passed = p1 at d3' Hnx
        generalize j.adders[n].passed = p2 at d4' Hnx
        have hni : (n : Int) < (j.width : Int) := by omega
        have hn0 : (0 : Int) ≤ (n : Int) := by omega
        generalize accP j n = al at Hnx ⊢
        have hcase : ∀ (Q : Prop), (al = false → Q) → (al = true → p1 = false → Q) → (al = true → p1 = true → Q) → Q := fun Q h1 h2 h3 => by
          cases al
          · exact h1 rfl
          · cases p1
            · exact h2 rfl rfl
            · exact h3 rfl rfl
        refine hcase _ (fun e1 => ?_) (fun e1 e2 => ?_) (fun e1 e2 => ?_)
        all_goals
          (try subst e1)
          (try subst e2)
          clear hcase
          go_wp2
          go_roundw
          case rel => exact ⟨n + 1, by omega, by go_num, by rw [Hnx.out]; simp, by first | trivial | rfl⟩
          case measure => simp [intOf]; omega
      · have hnn : n = j.width := by omega
        subst hnn
        have hni : ¬ ((j.width : Int) < (j.width : Int)) := by omega
        rw [Hfin.out]
        go_wp2
        go_ret
        exact ⟨rfl, rfl⟩

end Go.Proofs.YthccpacmklhejaaGreatDoor

namespace Go.Proofs.YthccpacmklhejaaGreatDoor
open Go.RowKit

/-- The job's own block. -/
def jobCells (j : JobM) (ve vs va vr : Value) : Array Value := #[.int .i64 (j.width : Int), .int .i64 (j.room : Int), ve, .int .i64 (j.sent : Int), vs, va, .int .i64 (j.number : Int), .bool j.under, .bool j.barriers, .int .i64 (j.off : Int), .bool j.complete, .int .i64 (j.base : Int), vr]

section
variable {f f' : Owners} {w w' : World} {B k jb : Nat} {sb ab : List Nat} {j j' : JobM}

/-- Only the job's own block has changed, and it says j'. -/
theorem RJob.putBox (h : RJob f w B k jb sb ab j) (hf : FrmO f (fun c => c = k + 1) w w') (hs : Same w.heap.size f f') (hw : j'.width = j.width) (he : j'.events = j.events) (hss : j'.sorters = j.sorters) (haa : j'.adders = j.adders) (hr : j'.rows = j.rows)
    (hb : ∀ ve vs va vr, w.heap[jb]? = some (.cells (jobCells j ve vs va vr) 91 (0, 0)) → w'.heap[jb]? = some (.cells (jobCells j' ve vs va vr) 91 (0, 0))) : RJob f' w' B k jb sb ab j' := by
  obtain ⟨ve, vs, va, vr, hbx, he1, oe, hs1, os, ha1, oa, hr1, or'⟩ := h.box
  refine ⟨(hs jb (heap_lt hbx)).trans h.own, by rw [hw, hss]; exact h.lenS, by rw [hw, haa]; exact h.lenA, ⟨ve, vs, va, vr, hb ve vs va vr hbx, ?_, oe.same hs fun g e => (own_ge he1 g e).2, ?_, os.same hs fun g e => (own_ge hs1 g e).2, ?_, oa.same hs fun g e => (own_ge ha1 g e).2, ?_, or'.same hs fun g e => (own_ge hr1 g e).2⟩, fun i hi hi' => ?_, fun i hi hi' => ?_, fun i hi => ?_⟩
  · rw [he]; exact own_frm he1 hf oe (by omega)
  · exact own_frm hs1 hf os (by omega)
  · exact own_frm ha1 hf oa (by omega)
  · rw [hr]; exact own_frm hr1 hf or' (by omega)
  · have hi2 : i < j.sorters.length := by rw [← hss]; exact hi'
    have := (h.sorters i hi hi2).frm hf hs (by omega) (by omega) (by omega)
    simp only [hss]
    exact this
  · have hi2 : i < j.adders.length := by rw [← haa]; exact hi'
    have hpl := (h.pipes i hi2).1
    have := (h.adders i hi hi2).frm hf hs (by omega) (by omega) (by omega) (by omega) (fun m hm => by omega)
    simp only [haa]
    exact this
  · have hi2 : i < j.adders.length := by rw [← haa]; exact hi
    simp only [haa, hw]
    exact h.pipes i hi2

/-- Only a sorter has changed, and it is s'. -/
theorem RJob.putS (h : RJob f w B k jb sb ab j) (i : Nat) (hi : i < sb.length) (s' : SorterM) {S : Nat → Prop} (hS : ∀ c, S c → c = k + 100 + i ∨ c = k + 200 + i ∨ c = k + 300 + i) (hf : FrmO f S w w') (hs : Same w.heap.size f f') (hwid : j.width ≤ 9) (hn : RSorter f' w' B k i sb[i] s') :
    RJob f' w' B k jb sb ab { j with sorters := j.sorters.set i s' } := by
  obtain ⟨ve, vs, va, vr, hbx, he1, oe, hs1, os, ha1, oa, hr1, or'⟩ := h.box
  have hiw : i < j.width := by rw [← h.lenS.1]; exact hi
  have no : ∀ c, c ≠ k + 100 + i → c ≠ k + 200 + i → c ≠ k + 300 + i → ¬ S c := fun c h1 h2 h3 hc => by
    rcases hS c hc with e | e | e
    · exact h1 e
    · exact h2 e
    · exact h3 e
  refine ⟨(hs jb (heap_lt hbx)).trans h.own, by simpa using h.lenS, h.lenA, ⟨ve, vs, va, vr, heap_frm hbx hf h.own (no _ (by omega) (by omega) (by omega)), own_frm he1 hf oe (no _ (by omega) (by omega) (by omega)), oe.same hs fun g e => (own_ge he1 g e).2, own_frm hs1 hf os (no _ (by omega) (by omega) (by omega)), os.same hs fun g e => (own_ge hs1 g e).2, own_frm ha1 hf oa (no _ (by omega) (by omega) (by omega)), oa.same hs fun g e => (own_ge ha1 g e).2, own_frm hr1 hf or' (no _ (by omega) (by omega) (by omega)), or'.same hs fun g e => (own_ge hr1 g e).2⟩, fun m hm hm' => ?_, fun m hm hm' => ?_, h.pipes⟩
  · by_cases c : m = i
    · subst c
      simp only [List.getElem_set_self]
      exact hn
    · simp only [List.getElem_set_ne (fun x => c x.symm)]
      have hm2 : m < j.sorters.length := by simpa using hm'
      have hmw : m < j.width := by rw [← h.lenS.1]; exact hm
      exact (h.sorters m hm hm2).frm hf hs (no _ (by omega) (by omega) (by omega)) (no _ (by omega) (by omega) (by omega)) (no _ (by omega) (by omega) (by omega))
  · have hpl := (h.pipes m hm').1
    have hmw : m < j.width := by rw [← h.lenA.1]; exact hm
    exact (h.adders m hm hm').frm hf hs (no _ (by omega) (by omega) (by omega)) (no _ (by omega) (by omega) (by omega)) (no _ (by omega) (by omega) (by omega)) (no _ (by omega) (by omega) (by omega)) (fun q hq => no _ (by omega) (by omega) (by omega))

/-- Only an adder has changed, and it is a'. -/
theorem RJob.putA (h : RJob f w B k jb sb ab j) (i : Nat) (hi : i < ab.length) (a' : AdderM) {S : Nat → Prop} (hS : ∀ c, S c → c = k + 400 + i ∨ c = k + 500 + i ∨ c = k + 600 + i ∨ c = k + 700 + i ∨ (k + 1000 + 10 * i ≤ c ∧ c < k + 1010 + 10 * i)) (hf : FrmO f S w w') (hs : Same w.heap.size f f') (hwid : j.width ≤ 9) (hn : RAdder f' w' B k i ab[i] a') (hlen : a'.pipes.length = j.width ∧ a'.stopped.length = j.width) :
    RJob f' w' B k jb sb ab { j with adders := j.adders.set i a' } := by
  obtain ⟨ve, vs, va, vr, hbx, he1, oe, hs1, os, ha1, oa, hr1, or'⟩ := h.box
  have hiw : i < j.width := by rw [← h.lenA.1]; exact hi
  have no : ∀ c, c ≠ k + 400 + i → c ≠ k + 500 + i → c ≠ k + 600 + i → c ≠ k + 700 + i → ¬ (k + 1000 + 10 * i ≤ c ∧ c < k + 1010 + 10 * i) → ¬ S c := fun c h1 h2 h3 h4 h5 hc => by
    rcases hS c hc with e | e | e | e | e
    · exact h1 e
    · exact h2 e
    · exact h3 e
    · exact h4 e
    · exact h5 e
  refine ⟨(hs jb (heap_lt hbx)).trans h.own, h.lenS, by simpa using h.lenA, ⟨ve, vs, va, vr, heap_frm hbx hf h.own (no _ (by omega) (by omega) (by omega) (by omega) (by omega)), own_frm he1 hf oe (no _ (by omega) (by omega) (by omega) (by omega) (by omega)), oe.same hs fun g e => (own_ge he1 g e).2, own_frm hs1 hf os (no _ (by omega) (by omega) (by omega) (by omega) (by omega)), os.same hs fun g e => (own_ge hs1 g e).2, own_frm ha1 hf oa (no _ (by omega) (by omega) (by omega) (by omega) (by omega)), oa.same hs fun g e => (own_ge ha1 g e).2, own_frm hr1 hf or' (no _ (by omega) (by omega) (by omega) (by omega) (by omega)), or'.same hs fun g e => (own_ge hr1 g e).2⟩, fun m hm hm' => ?_, fun m hm hm' => ?_, fun m hm => ?_⟩
  · have hmw : m < j.width := by rw [← h.lenS.1]; exact hm
    exact (h.sorters m hm hm').frm hf hs (no _ (by omega) (by omega) (by omega) (by omega) (by omega)) (no _ (by omega) (by omega) (by omega) (by omega) (by omega)) (no _ (by omega) (by omega) (by omega) (by omega) (by omega))
  · have hmw : m < j.width := by rw [← h.lenA.1]; exact hm
    by_cases c : m = i
    · subst c
      simp only [List.getElem_set_self]
      exact hn
    · simp only [List.getElem_set_ne (fun x => c x.symm)]
      have hm2 : m < j.adders.length := by simpa using hm'
      have hpl := (h.pipes m hm2).1
      exact (h.adders m hm hm2).frm hf hs (no _ (by omega) (by omega) (by omega) (by omega) (by omega)) (no _ (by omega) (by omega) (by omega) (by omega) (by omega)) (no _ (by omega) (by omega) (by omega) (by omega) (by omega)) (no _ (by omega) (by omega) (by omega) (by omega) (by omega)) (fun q hq => no _ (by omega) (by omega) (by omega) (by omega) (by omega))
  · by_cases c : m = i
    · subst c
      simp only [List.getElem_set_self]
      exact hlen
    · simp only [List.getElem_set_ne (fun x => c x.symm)]
      exact h.pipes m (by simpa using hm)

/-- A sorter's flag. -/
theorem RJob.flagS (h : RJob f w B k jb sb ab j) (i : Nat) (hi : i < sb.length) (hi' : i < j.sorters.length) (b : Bool) (hwid : j.width ≤ 9) :
    RJob f (w.setCell ⟨sb[i], 4, none⟩ (.bool b)) B k jb sb ab { j with sorters := j.sorters.set i { j.sorters[i] with passed := b } } ∧ FrmO f (fun _ => True) w (w.setCell ⟨sb[i], 4, none⟩ (.bool b)) := by
  obtain ⟨ho, vg, vp, hb, hg, og, hp, op⟩ := h.sorters i hi hi'
  have hiw : i < j.width := by rw [← h.lenS.1]; exact hi
  have hf : FrmO f (fun c => c = k + 100 + i) w (w.setCell ⟨sb[i], 4, none⟩ (.bool b)) := FrmO.of_set (S := fun c => c = k + 100 + i) ho rfl _
  refine ⟨h.putS i hi _ (S := fun c => c = k + 100 + i) (fun c hc => .inl hc) hf (Same.refl _ _) hwid ⟨ho, vg, vp, ?_, own_frm hg hf og (by omega), og, q_frm hp hf op (by omega), op⟩, hf.mono fun _ _ => trivial⟩
  have := box_set (j := 4) hb (.bool b)
  exact this

/-- An adder's flag. -/
theorem RJob.flagA (h : RJob f w B k jb sb ab j) (i : Nat) (hi : i < ab.length) (hi' : i < j.adders.length) (b : Bool) (hwid : j.width ≤ 9) :
    RJob f (w.setCell ⟨ab[i], 5, none⟩ (.bool b)) B k jb sb ab { j with adders := j.adders.set i { j.adders[i] with passed := b } } ∧ FrmO f (fun _ => True) w (w.setCell ⟨ab[i], 5, none⟩ (.bool b)) := by
  obtain ⟨ho, vg, vp, vs, vt, hb, hg, og, hp, op, hq, ht, ot⟩ := h.adders i hi hi'
  have hiw : i < j.width := by rw [← h.lenA.1]; exact hi
  have hpl := (h.pipes i hi').1
  have hf : FrmO f (fun c => c = k + 400 + i) w (w.setCell ⟨ab[i], 5, none⟩ (.bool b)) := FrmO.of_set (S := fun c => c = k + 400 + i) ho rfl _
  refine ⟨h.putA i hi _ (S := fun c => c = k + 400 + i) (fun c hc => .inl hc) hf (Same.refl _ _) hwid ⟨ho, vg, vp, vs, vt, ?_, own_frm hg hf og (by omega), og, own_frm hp hf op (by omega), op, fun m hm => ?_, own_frm ht hf ot (by omega), ot⟩ (h.pipes i hi'), hf.mono fun _ _ => trivial⟩
  · have := box_set (j := 5) hb (.bool b)
    exact this
  · obtain ⟨v, hv, hqv, ov⟩ := hq m hm
    exact ⟨v, hv, q_frm hqv hf ov (by omega), ov⟩

end

end Go.Proofs.YthccpacmklhejaaGreatDoor

namespace Go.Proofs.YthccpacmklhejaaGreatDoor
open Go.RowKit

/-- The first of them, changed. -/
def firstN {α : Type} (g : α → α) (l : List α) (n : Nat) : List α := (l.take n).map g ++ l.drop n

theorem firstN_length {α : Type} (g : α → α) (l : List α) (n : Nat) : (firstN g l n).length = l.length := by
  unfold firstN
  simp
  omega

theorem firstN_at {α : Type} (g : α → α) (l : List α) (n : Nat) (h : n < l.length) (h' : n < (firstN g l n).length) : (firstN g l n)[n] = l[n] := by
  have hl : ((l.take n).map g).length = n := by simp; omega
  have : (firstN g l n)[n]? = l[n]? := by
    unfold firstN
    rw [List.getElem?_append_right (by omega), hl, Nat.sub_self, List.getElem?_drop, Nat.add_zero]
  rw [List.getElem?_eq_getElem h', List.getElem?_eq_getElem h] at this
  exact Option.some.inj this

theorem firstN_succ {α : Type} (g : α → α) (l : List α) (n : Nat) (h : n < l.length) : (firstN g l n).set n (g l[n]) = firstN g l (n + 1) := by
  have hl : ((l.take n).map g).length = n := by simp; omega
  unfold firstN
  rw [List.set_append_right _ _ (by omega), hl, Nat.sub_self, List.drop_eq_getElem_cons h, List.set_cons_zero, List.take_succ_eq_append_getElem h, List.map_append, List.append_assoc]
  rfl

theorem firstN_all {α : Type} (g : α → α) (l : List α) (n : Nat) (h : l.length ≤ n) : firstN g l n = l.map g := by
  unfold firstN
  rw [List.take_of_length_le h, List.drop_eq_nil_of_le h, List.append_nil]

def unS (s : SorterM) : SorterM := { s with passed := false }
def unA (a : AdderM) : AdderM := { a with passed := false }

/-- Trigger's job, some of its flags taken back. -/
def JobM.trig (j : JobM) (n : Nat) : JobM := { j with under := true, barriers := false, complete := false, sorters := firstN unS j.sorters n, adders := firstN unA j.adders n }

theorem job_reads {f : Owners} {w : World} {B k jb : Nat} {sb ab : List Nat} {j : JobM} (h : RJob f w B k jb sb ab j) : w.cell? ⟨jb, 0, none⟩ = some (.int .i64 (j.width : Int)) ∧ (∃ gs cs', w.cell? ⟨jb, 4, none⟩ = some (.slice gs j.width cs') ∧ ∀ i (hi : i < sb.length), ∃ g, gs = some ⟨g, 0, none⟩ ∧ w.cell? ⟨g, i, none⟩ = some (.pointer (some ⟨sb[i], 0, none⟩))) ∧
    (∃ ga ca, w.cell? ⟨jb, 5, none⟩ = some (.slice ga j.width ca) ∧ ∀ i (hi : i < ab.length), ∃ g, ga = some ⟨g, 0, none⟩ ∧ w.cell? ⟨g, i, none⟩ = some (.pointer (some ⟨ab[i], 0, none⟩))) := by
  obtain ⟨ve, gs, cs', ga, ca, vr, hb, hS, hA⟩ := h.reads
  exact ⟨box_cell hb 0, ⟨gs, cs', box_cell hb 4, hS⟩, ⟨ga, ca, box_cell hb 5, hA⟩⟩

set_option maxRecDepth 100000 in
set_option maxHeartbeats 1500000 in
theorem rtrigger_any {f : Owners} {w : World} {B k jb : Nat} {sb ab : List Nat} {j : JobM} (h : RJob f w B k jb sb ab j) (hw : j.width ≤ 4) (hn : j.number < 4611686018427387904) :
    Calls Tryz.prog 25 #[.pointer (some ⟨jb, 0, none⟩)] w fun en w' => en = .returned (.tuple #[.int .i64 (j.trigger.1 : Int), .int .i64 (j.trigger.2.1 : Int)]) ∧ RJob f w' B k jb sb ab j.trigger.2.2 ∧ FrmO f (fun _ => True) w w' := by
  obtain ⟨ve, vs, va, vr, hb, _⟩ := h.box
  have c7 : w.cell? ⟨jb, 7, none⟩ = some (.bool j.under) := box_cell hb 7
  unfold JobM.trigger
  by_cases hu : j.under = true
  · rw [if_pos hu]
    rw [hu] at c7
    have HR := show Hid _ from h
    clear h hb
    go_enter Tryz.func25, Tryz.ntmps25
    go_wp2
    go_ret2
    exact ⟨rfl, HR.out, FrmO.refl _ _ _⟩
  · rw [if_neg hu]
    have hu' : j.under = false := by simpa using hu
    rw [hu'] at c7
    have c8 : w.cell? ⟨jb, 8, none⟩ = some (.bool j.barriers) := box_cell hb 8
    have c10 : w.cell? ⟨jb, 10, none⟩ = some (.bool j.complete) := box_cell hb 10
    have z7 : w.frozen? ⟨jb, 7, none⟩ = false := row_frozen hb 7
    have z8 : w.frozen? ⟨jb, 8, none⟩ = false := row_frozen hb 8
    have z10 : w.frozen? ⟨jb, 10, none⟩ = false := row_frozen hb 10
    have hf1 : FrmO f (fun c => c = k + 1) w (((w.setCell ⟨jb, 7, none⟩ (.bool true)).setCell ⟨jb, 8, none⟩ (.bool false)).setCell ⟨jb, 10, none⟩ (.bool false)) :=
      ((FrmO.of_set (S := fun c => c = k + 1) h.own rfl _).trans (Same.refl _ _) (FrmO.of_set (S := fun c => c = k + 1) h.own rfl _)).trans (Same.refl _ _) (FrmO.of_set (S := fun c => c = k + 1) h.own rfl _)
    have hR1 : RJob f (((w.setCell ⟨jb, 7, none⟩ (.bool true)).setCell ⟨jb, 8, none⟩ (.bool false)).setCell ⟨jb, 10, none⟩ (.bool false)) B k jb sb ab (j.trig 0) := by
      refine h.putBox hf1 (Same.refl _ _) rfl rfl ?_ ?_ rfl fun ve vs va vr hbx => ?_
      · simp [JobM.trig, firstN]
      · simp [JobM.trig, firstN]
      · have := box_set (j := 10) (box_set (j := 8) (box_set (j := 7) hbx (.bool true)) (.bool false)) (.bool false)
        exact this
    have H1 := show Hid (_ ∧ _) from And.intro hR1 (hf1.mono (T := fun _ => True) fun _ _ => trivial)
    have hlS := h.lenS
    have hlA := h.lenA
    clear hR1 hf1 h hb
    go_enter Tryz.func25, Tryz.ntmps25
    go_wp2
    clear c7 c8 c10 z7 z8 z10
    go_loopw [4] (fun i wr => ∃ n : Nat, n ≤ j.width ∧ i = .int .i64 (n : Int) ∧ RJob f wr B k jb sb ab (j.trig n) ∧ FrmO f (fun _ => True) w wr) (fun i _ => j.width - (intOf i).toNat)
    case atStart => exact ⟨0, Nat.zero_le _, rfl, H1.out.1, H1.out.2⟩
    case round =>
      obtain ⟨n, hnn, rfl, hR, hF⟩ := hrel
      clear H1
      obtain ⟨c0, ⟨gs, cs', c4, hS⟩, ⟨ga, ca, c5, hA⟩⟩ := job_reads hR
      have c0' : wr.cell? ⟨jb, 0, none⟩ = some (.int .i64 (j.width : Int)) := c0
      have c4' : wr.cell? ⟨jb, 4, none⟩ = some (.slice gs j.width cs') := c4
      have c5' : wr.cell? ⟨jb, 5, none⟩ = some (.slice ga j.width ca) := c5
      clear c0 c4 c5
      by_cases hnl : n < j.width
      · have hni : (n : Int) < (j.width : Int) := by omega
        have hn0 : (0 : Int) ≤ (n : Int) := by omega
        have hs2 : n < sb.length := by omega
        have ha2 : n < ab.length := by omega
        obtain ⟨g1, rfl, d1⟩ := hS n hs2
        obtain ⟨g2, rfl, d2⟩ := hA n ha2
        have hs1 : n < (j.trig n).sorters.length := by show n < (firstN unS j.sorters n).length; rw [firstN_length]; omega
        have ha1 : n < (j.trig n).adders.length := by show n < (firstN unA j.adders n).length; rw [firstN_length]; omega
        obtain ⟨oS, _, _, hsb, _⟩ := hR.sorters n hs2 hs1
        have d3 : wr.cell? ⟨sb[n], 4, none⟩ = some (.bool ((j.trig n).sorters[n]).passed) := box_cell hsb 4
        have z3 : wr.frozen? ⟨sb[n], 4, none⟩ = false := row_frozen hsb 4
        obtain ⟨hR2, hF2⟩ := hR.flagS n hs2 hs1 false (by show j.width ≤ 9; omega)
        obtain ⟨_, _, ⟨ga', ca', c5, hA'⟩⟩ := job_reads hR2
        have c5w : (wr.setCell ⟨sb[n], 4, none⟩ (.bool false)).cell? ⟨jb, 5, none⟩ = some (.slice ga' j.width ca') := c5
        obtain ⟨g2, rfl, d2⟩ := hA' n ha2
        obtain ⟨oA, _, _, _, _, hab, _⟩ := hR2.adders n ha2 ha1
        have d4 : (wr.setCell ⟨sb[n], 4, none⟩ (.bool false)).cell? ⟨ab[n], 5, none⟩ = some (.bool ((j.trig n).adders[n]).passed) := box_cell hab 5
        have z4 : (wr.setCell ⟨sb[n], 4, none⟩ (.bool false)).frozen? ⟨ab[n], 5, none⟩ = false := row_frozen hab 5
        obtain ⟨hR3, hF3⟩ := hR2.flagA n ha2 ha1 false (by show j.width ≤ 9; omega)
        have hs1' : n < (firstN unS j.sorters n).length := hs1
        have ha1' : n < (firstN unA j.adders n).length := ha1
        have e1 : (firstN unS j.sorters n).set n (unS ((firstN unS j.sorters n)[n]'hs1')) = firstN unS j.sorters (n + 1) := by
          rw [firstN_at unS j.sorters n (by omega)]
          exact firstN_succ unS j.sorters n (by omega)
        have e2 : (firstN unA j.adders n).set n (unA ((firstN unA j.adders n)[n]'ha1')) = firstN unA j.adders (n + 1) := by
          rw [firstN_at unA j.adders n (by omega)]
          exact firstN_succ unA j.adders n (by omega)
        have hR4 : RJob f ((wr.setCell ⟨sb[n], 4, none⟩ (.bool false)).setCell ⟨ab[n], 5, none⟩ (.bool false)) B k jb sb ab (j.trig (n + 1)) := by
          have hR3' : RJob f ((wr.setCell ⟨sb[n], 4, none⟩ (.bool false)).setCell ⟨ab[n], 5, none⟩ (.bool false)) B k jb sb ab { j with under := true, barriers := false, complete := false, sorters := (firstN unS j.sorters n).set n (unS ((firstN unS j.sorters n)[n]'hs1')), adders := (firstN unA j.adders n).set n (unA ((firstN unA j.adders n)[n]'ha1')) } := hR3
          rw [e1, e2] at hR3'
          exact hR3'
        have HN := show Hid (_ ∧ _) from And.intro hR4 ((hF.trans (Same.refl _ _) hF2).trans (Same.refl _ _) hF3)
        clear hR hF hR2 hR3 hR4 hF2 hF3 hsb hab e1 e2 hS hA hA' c5 c5' oS oA
        generalize ((j.trig n).sorters[n]).passed = p1 at d3
        generalize ((j.trig n).adders[n]).passed = p2 at d4
        obtain ⟨b1, hb1⟩ : ∃ b1, sb[n] = b1 := ⟨_, rfl⟩
        obtain ⟨b2, hb2⟩ : ∃ b2, ab[n] = b2 := ⟨_, rfl⟩
        rw [hb1] at d1 d3 z3 c5w d2 d4 z4 HN
        rw [hb2] at d2 d4 z4 HN
        clear hb1 hb2
        go_wp2
        go_roundw
        case rel => exact ⟨n + 1, by omega, by go_num, HN.out.1, HN.out.2⟩
        case measure => simp [intOf]; omega
      · have hni : ¬ (n : Int) < (j.width : Int) := by omega
        have hne : n = j.width := by omega
        obtain ⟨ve, vs, va, vr, hbx, _⟩ := hR.box
        have c6 : wr.cell? ⟨jb, 6, none⟩ = some (.int .i64 (j.number : Int)) := box_cell hbx 6
        have z6 : wr.frozen? ⟨jb, 6, none⟩ = false := row_frozen hbx 6
        have hsl : firstN unS j.sorters n = j.sorters.map unS := firstN_all unS j.sorters n (by omega)
        have hal : firstN unA j.adders n = j.adders.map unA := firstN_all unA j.adders n (by omega)
        have hf2 : FrmO f (fun c => c = k + 1) wr (wr.setCell ⟨jb, 6, none⟩ (.int .i64 ((j.number : Int) + 1))) := FrmO.of_set (S := fun c => c = k + 1) hR.own rfl _
        have hR2 : RJob f (wr.setCell ⟨jb, 6, none⟩ (.int .i64 ((j.number : Int) + 1))) B k jb sb ab { j with under := true, barriers := false, complete := false, sorters := j.sorters.map (fun s => { s with passed := false }), adders := j.adders.map (fun a => { a with passed := false }), number := j.number + 1 } := by
          refine hR.putBox hf2 (Same.refl _ _) rfl rfl hsl.symm hal.symm rfl fun ve vs va vr hbx => ?_
          have := box_set (j := 6) hbx (.int .i64 ((j.number : Int) + 1))
          exact this
        have HN := show Hid (_ ∧ _) from And.intro hR2 (hF.trans (Same.refl _ _) (hf2.mono (T := fun _ => True) fun _ _ => trivial))
        clear hR hF hR2 hf2 hbx hS hA hsl hal c4' c5' hne
        have hnum : ((j.number + 1 : Nat) : Int) = (j.number : Int) + 1 := by omega
        go_wp2
        go_ret2
        exact ⟨rfl, HN.out.1, HN.out.2⟩

end Go.Proofs.YthccpacmklhejaaGreatDoor

namespace Go.Proofs.YthccpacmklhejaaGreatDoor
open Go.RowKit

theorem Tryz.infoIntQ : (Tryz.prog.info? 3).map (fun i => (i.zero, i.size, i.bytes)) = some (some (.int .i64 0), 1, 8) := by kernel_rfl

theorem own_one (w : World) (x : Int) : (w.alloc (.cells #[.int .i64 x] 3)).ownsRow w.heap.size 3 1 (.slice (some ⟨w.heap.size, 0, none⟩) 1 1) 1 [.int .i64 x] :=
  ⟨rfl, .inr ⟨w.heap.size, 1, _, rfl, Nat.le_refl _, heap_alloc_new w _, Nat.le_refl _, by decide, by simp, by simp⟩⟩

/-- What Queue gives. -/
def QGive (w : World) (l : List Int) (e : Nat) (en : Ending) (w' : World) : Prop := ∃ v, en = .returned (.tuple #[v, .int .i64 (e : Int)]) ∧ w'.ownsRow w.heap.size 3 1 v l.length (l.map (Value.int .i64)) ∧ Below w.heap.size w w'

section
variable {f : Owners} {w : World} {B k jb : Nat} {sb ab : List Nat} {j : JobM}

set_option maxRecDepth 100000 in
set_option maxHeartbeats 1000000 in
theorem rqueue_none (h : RJob f w B k jb sb ab j) (hw : j.width ≤ 4) (t : Int) (ht : t < 0 ∨ 2 * (j.width : Int) + 1 < t) :
    Calls Tryz.prog 50 #[.pointer (some ⟨jb, 0, none⟩), .int .i64 t] w fun en w' => QGive w [] 7 en w' := by
  have HP := show Hid _ from fun (_ : Unit) => rpassed_any h hw
  have c0 := (job_reads h).1
  clear h
  generalize j.passedAll = p at HP
  go_enter Tryz.func50, Tryz.ntmps50
  rcases ht with ht | ht
  · have h1 : t < 0 := ht
    go_wp2_with (go_at_call 79; refine (HP.out ()).mono ?_; rintro en w1 ⟨rfl, rfl⟩)
    go_ret2
    exact ⟨_, rfl, World.ownsRow_nil _ _ _ _, Below.refl _ _⟩
  · have h1 : ¬ t < 0 := by omega
    go_wp2_with (go_at_call 79; refine (HP.out ()).mono ?_; rintro en w1 ⟨rfl, rfl⟩)
    go_ret2
    exact ⟨_, rfl, World.ownsRow_nil _ _ _ _, Below.refl _ _⟩

set_option maxRecDepth 100000 in
set_option maxHeartbeats 1000000 in
theorem rqueue_keeper (h : RJob f w B k jb sb ab j) (hw : 1 ≤ j.width ∧ j.width ≤ 4) (t : Int) (ht : t = 2 * (j.width : Int) + 1) :
    Calls Tryz.prog 50 #[.pointer (some ⟨jb, 0, none⟩), .int .i64 t] w fun en w' => QGive w [if j.passedAll then 1 else 0] 0 en w' := by
  have HP := show Hid _ from fun (_ : Unit) => rpassed_any h hw.2
  have c0 := (job_reads h).1
  clear h
  have h1 : ¬ t < 0 := by omega
  have h2 : ¬ 2 * (j.width : Int) + 1 < t := by omega
  have h3 : (t == 0) = false := by rw [beq_eq_false_iff_ne]; omega
  have h4 : ¬ t ≤ (j.width : Int) := by omega
  have h5 : ¬ t ≤ 2 * (j.width : Int) := by omega
  clear ht
  cases hp : j.passedAll with
  | true =>
    rw [hp] at HP
    go_enter Tryz.func50, Tryz.ntmps50
    go_wp2_with (go_at_call 79; refine (HP.out ()).mono ?_; rintro en w1 ⟨rfl, rfl⟩)
    go_ret2
    exact ⟨_, rfl, own_one _ 1, (Below.refl _ _).alloc (Nat.le_refl _) _⟩
  | false =>
    rw [hp] at HP
    go_enter Tryz.func50, Tryz.ntmps50
    go_wp2_with (go_at_call 79; refine (HP.out ()).mono ?_; rintro en w1 ⟨rfl, rfl⟩)
    go_ret2
    exact ⟨_, rfl, own_one _ 0, (Below.refl _ _).alloc (Nat.le_refl _) _⟩

set_option maxRecDepth 100000 in
set_option maxHeartbeats 1000000 in
theorem rqueue_sorter (h : RJob f w B k jb sb ab j) (hw : 1 ≤ j.width ∧ j.width ≤ 4) (i : Nat) (hi : i < j.width) (hs : i < j.sorters.length) :
    Calls Tryz.prog 50 #[.pointer (some ⟨jb, 0, none⟩), .int .i64 ((i : Int) + 1)] w fun en w' => QGive w [((j.sorters[i]).pipe.length : Int)] 0 en w' := by
  have HP := show Hid _ from fun (_ : Unit) => rpassed_any h hw.2
  obtain ⟨c0, ⟨gs, cs', c4, hS⟩, _⟩ := job_reads h
  have hi2 : i < sb.length := by rw [h.lenS.1]; exact hi
  obtain ⟨g1, rfl, d1⟩ := hS i hi2
  obtain ⟨_, vg, vp, hsb, _, _, hq, _⟩ := h.sorters i hi2 hs
  obtain ⟨qa, qc, rfl⟩ := hq.shape
  have d2 : w.cell? ⟨sb[i], 1, none⟩ = some (.slice qa (j.sorters[i]).pipe.length qc) := box_cell hsb 1
  clear h hS hsb hq
  generalize (j.sorters[i]).pipe.length = n at d2 ⊢
  generalize sb[i] = b1 at d1 d2
  generalize j.passedAll = p at HP
  have h1 : ¬ ((i : Int) + 1 < 0) := by omega
  have h2 : ¬ 2 * (j.width : Int) + 1 < (i : Int) + 1 := by omega
  have h3 : (((i : Int) + 1) == 0) = false := by rw [beq_eq_false_iff_ne]; omega
  have h4 : (i : Int) + 1 ≤ (j.width : Int) := by omega
  have h6 : (i : Int) < (j.width : Int) := by omega
  have h7 : (0 : Int) ≤ (i : Int) := by omega
  go_enter Tryz.func50, Tryz.ntmps50
  go_wp2_with (go_at_call 79; refine (HP.out ()).mono ?_; rintro en w1 ⟨rfl, rfl⟩)
  go_ret2
  exact ⟨_, rfl, own_one _ _, (Below.refl _ _).alloc (Nat.le_refl _) _⟩

end

end Go.Proofs.YthccpacmklhejaaGreatDoor

namespace Go.Proofs.YthccpacmklhejaaGreatDoor
open Go.RowKit

section
variable {f : Owners} {w : World} {B k jb : Nat} {sb ab : List Nat} {j : JobM}

set_option maxRecDepth 100000 in
set_option maxHeartbeats 1500000 in
theorem rqueue_source (h : RJob f w B k jb sb ab j) (hw : 1 ≤ j.width ∧ j.width ≤ 4) (hs : j.sent ≤ j.events.length) (hE : j.events.length ≤ 400) :
    Calls Tryz.prog 50 #[.pointer (some ⟨jb, 0, none⟩), .int .i64 0] w fun en w' => QGive w [(j.events.length : Int) - (j.sent : Int)] 0 en w' := by
  have HP := show Hid _ from fun (_ : Unit) => rpassed_any h hw.2
  obtain ⟨ve, vs, va, vr, hb, he, _⟩ := h.box
  obtain ⟨ea, ec, rfl⟩ := own_shape he
  have c0 := (job_reads h).1
  have c2 : w.drew.cell? ⟨jb, 2, none⟩ = some (.slice ea j.events.length ec) := box_cell hb 2
  have c3 : w.drew.cell? ⟨jb, 3, none⟩ = some (.int .i64 (j.sent : Int)) := box_cell hb 3
  clear h hb he
  generalize j.passedAll = p at HP
  generalize j.events.length = N at *
  generalize j.sent = sn at *
  generalize j.width = W at *
  have h2 : ¬ 2 * (W : Int) + 1 < 0 := by omega
  go_enter Tryz.func50, Tryz.ntmps50
  go_wp2_with (go_at_call 79; refine (HP.out ()).mono ?_; rintro en w1 ⟨rfl, rfl⟩)
  have hS0 : w1.drew.cell? ⟨jb, 2, none⟩ = some (.slice ea N ec) ∧ w1.drew.cell? ⟨jb, 3, none⟩ = some (.int .i64 (sn : Int)) := ⟨c2, c3⟩
  have Hb := show Hid _ from (Below.refl w1.heap.size w1).drew
  have hsz : w1.drew.heap.size = w1.heap.size := rfl
  refine wp_region_held_drew (S := fun w' : World => w'.cell? ⟨jb, 2, none⟩ = some (.slice ea N ec) ∧ w'.cell? ⟨jb, 3, none⟩ = some (.int .i64 (sn : Int))) (by kernel_rfl) hS0 (fun hH => ?_)
  clear c0 c2 c3
  refine wpAnyH_take (i := 0) (v := (.pointer (some ⟨jb, 0, none⟩))) rfl (by kernel_rfl) (by kernel_rfl) (by kernel_rfl) (fun _ _ _ h => h) (Or.inl ⟨by rfl, by intro v hSw; clear hSw; go_simp⟩) hH ?_
  refine wpAnyH_take (i := 1) (v := (.pointer (some ⟨jb, 0, none⟩))) rfl (by kernel_rfl) (by kernel_rfl) (by kernel_rfl) (fun _ _ _ h => h) (Or.inl ⟨by rfl, by intro v hSw; clear hSw; go_simp⟩) hH ?_
  refine wpAnyH_take (i := 2) (v := (.pointer (some ⟨jb, 2, none⟩))) rfl (by kernel_rfl) (by kernel_rfl) (by kernel_rfl) (fun _ _ _ h => h) (Or.inl ⟨by rfl, by intro v hSw; clear hSw; go_simp⟩) hH ?_
  refine wpAnyH_take (i := 3) (v := (.slice ea N ec)) rfl (by kernel_rfl) (by kernel_rfl) (by kernel_rfl) (fun _ _ _ h => h) (Or.inl ⟨by rfl, by intro v hSw; have s0 := hSw.1; clear hSw; go_simp⟩) hH ?_
  refine wpAnyH_take (i := 4) (v := (.int .i64 (N : Int))) rfl (by kernel_rfl) (by kernel_rfl) (by kernel_rfl) (fun _ _ _ h => h) (Or.inl ⟨by rfl, by intro v hSw; clear hSw; go_simp⟩) hH ?_
  refine wpAnyH_take (i := 5) (v := (.pointer (some ⟨jb, 0, none⟩))) rfl (by kernel_rfl) (by kernel_rfl) (by kernel_rfl) (fun _ _ _ h => h) (Or.inl ⟨by rfl, by intro v hSw; clear hSw; go_simp⟩) hH ?_
  refine wpAnyH_take (i := 6) (v := (.pointer (some ⟨jb, 0, none⟩))) rfl (by kernel_rfl) (by kernel_rfl) (by kernel_rfl) (fun _ _ _ h => h) (Or.inl ⟨by rfl, by intro v hSw; clear hSw; go_simp⟩) hH ?_
  refine wpAnyH_take (i := 7) (v := (.pointer (some ⟨jb, 3, none⟩))) rfl (by kernel_rfl) (by kernel_rfl) (by kernel_rfl) (fun _ _ _ h => h) (Or.inl ⟨by rfl, by intro v hSw; clear hSw; go_simp⟩) hH ?_
  refine wpAnyH_take (i := 8) (v := (.int .i64 (sn : Int))) rfl (by kernel_rfl) (by kernel_rfl) (by kernel_rfl) (fun _ _ _ h => h) (Or.inl ⟨by rfl, by intro v hSw; have s0 := hSw.2; clear hSw; go_simp⟩) hH ?_
  refine wpAnyH_take (i := 9) (v := (.int .i64 ((N : Int) - (sn : Int)))) rfl (by kernel_rfl) (by kernel_rfl) (by kernel_rfl) (fun _ _ _ h => h) (Or.inl ⟨by rfl, by intro v hSw; clear hSw; go_simp; first | done | (rw [IntWalk.i64_in _ ⟨by omega, by omega⟩])⟩) hH ?_
  refine wpAnyH_ready (rs := [10]) (by kernel_rfl) (by simp) ?_
  refine AllReadyH.cons rfl (fun K hK => ?_) AllReadyH.nil
  clear hH
  go_simp
  have hbA := (Below.refl w1.drew.heap.size w1.drew).alloc (Nat.le_refl _) (.cells #[.int .i64 ((N : Int) - (sn : Int))] 3)
  have hjl : jb < w1.drew.heap.size := by
    apply Classical.byContradiction
    intro hn
    have hnone : w1.drew.heap[jb]? = none := Array.getElem?_eq_none (by omega)
    have := hS0.1
    simp [World.cell?, hnone] at this
  refine hK.out _ _ ⟨(hbA.cell (p := ⟨jb, 2, none⟩) hjl).trans hS0.1, (hbA.cell (p := ⟨jb, 3, none⟩) hjl).trans hS0.2⟩ (fun hH => ?_)
  clear hK K
  refine wpAnyH_take (i := 11) (v := (.slice (some ⟨w1.heap.size, 0, none⟩) 1 1)) rfl (by kernel_rfl) (by kernel_rfl) (by kernel_rfl) (fun _ _ _ h => h) (Or.inl ⟨by rfl, by intro v hSw; clear hSw; go_simp⟩) hH ?_
  refine wpAnyH_take (i := 12) (v := (.int .i64 0)) rfl (by kernel_rfl) (by kernel_rfl) (by kernel_rfl) (fun _ _ _ h => h) (Or.inl ⟨by rfl, by intro v hSw; clear hSw; go_simp⟩) hH ?_
  clear hH
  refine wpAnyH_done (by kernel_rfl) ?_ _
  go_wp2
  go_ret2
  exact ⟨_, rfl, own_one w1.drew _, Hb.out.alloc (Nat.le_refl _) _⟩

end

end Go.Proofs.YthccpacmklhejaaGreatDoor

namespace Go.Proofs.YthccpacmklhejaaGreatDoor
open Go.RowKit

theorem cell_lt {w : World} {b o : Nat} {v : Value} (h : w.cell? ⟨b, o, none⟩ = some v) : b < w.heap.size := by
  apply Classical.byContradiction
  intro hn
  have hnone : w.heap[b]? = none := Array.getElem?_eq_none (by omega)
  simp [World.cell?, hnone] at h

section
variable {f : Owners} {w : World} {B k jb : Nat} {sb ab : List Nat} {j : JobM}

set_option maxRecDepth 100000 in
set_option maxHeartbeats 2000000 in
theorem rqueue_adder (h : RJob f w B k jb sb ab j) (hw : 1 ≤ j.width ∧ j.width ≤ 4) (i : Nat) (hi : i < j.width) (ha : i < j.adders.length) :
    Calls Tryz.prog 50 #[.pointer (some ⟨jb, 0, none⟩), .int .i64 ((j.width : Int) + 1 + (i : Int))] w fun en w' => QGive w ((j.adders[i]).pipes.map fun p => (p.length : Int)) 0 en w' := by
  have HP := show Hid _ from fun (_ : Unit) => rpassed_any h hw.2
  obtain ⟨c0, _, ⟨ga, ca, c5, hA⟩⟩ := job_reads h
  have hi2 : i < ab.length := by rw [h.lenA.1]; exact hi
  obtain ⟨g2, rfl, d2⟩ := hA i hi2
  obtain ⟨_, vg, vp, vs, vt, hab, _, _, hpp, _, hq, _, _⟩ := h.adders i hi2 ha
  obtain ⟨pa, pc, rfl⟩ := own_shape hpp
  have hpl := (h.pipes i ha).1
  rcases own_addr hpp with ⟨_, h0⟩ | ⟨gp, rfl⟩
  · omega
  have d3 : w.cell? ⟨ab[i], 1, none⟩ = some (.slice (some ⟨gp, 0, none⟩) (j.adders[i]).pipes.length pc) := box_cell hab 1
  rw [hpl] at d3
  have hrow : ∀ m (hm : m < (j.adders[i]).pipes.length), ∃ qa qc, w.cell? ⟨gp, m, none⟩ = some (.slice qa ((j.adders[i]).pipes[m]).length qc) := fun m hm => by
    obtain ⟨v, hv, hqv, _⟩ := hq m hm
    obtain ⟨qa, qc, rfl⟩ := hqv.shape
    exact ⟨qa, qc, (hpp.cellAt m (by omega)).trans hv⟩
  obtain ⟨i0, hi0, hz0, hz1, hz2⟩ := info_parts Tryz.infoIntQ
  have l0 := cell_lt c0
  have l2 := cell_lt d2
  have l3 := cell_lt d3
  clear h hA hab hpp hq
  generalize ab[i] = b2 at d2 d3 l3
  generalize (j.adders[i]).pipes = ps at hpl hrow ⊢
  generalize j.passedAll = p at HP
  have Hrow := show Hid _ from hrow
  clear hrow
  generalize j.width = W at *
  have h1 : ¬ ((W : Int) + 1 + (i : Int) < 0) := by omega
  have h2 : ¬ 2 * (W : Int) + 1 < (W : Int) + 1 + (i : Int) := by omega
  have h3 : (((W : Int) + 1 + (i : Int)) == 0) = false := by rw [beq_eq_false_iff_ne]; omega
  have h4 : ¬ (W : Int) + 1 + (i : Int) ≤ (W : Int) := by omega
  have h5 : (W : Int) + 1 + (i : Int) ≤ 2 * (W : Int) := by omega
  have h6 : (i : Int) < (W : Int) := by omega
  have h7 : (0 : Int) ≤ (i : Int) := by omega
  go_enter Tryz.func50, Tryz.ntmps50
  go_wp2_with (go_at_call 79; refine (HP.out ()).mono ?_; rintro en w1 ⟨rfl, rfl⟩)
  go_loopw [7, 8] (fun l iv wr => ∃ n : Nat, n ≤ W ∧ iv = .int .i64 (n : Int) ∧ wr.ownsRow w1.heap.size 3 1 l n ((ps.take n).map fun p => Value.int .i64 (p.length : Int)) ∧ Below w1.heap.size w1 wr) (fun _ iv _ => W - (intOf iv).toNat)
  case atStart => exact ⟨0, Nat.zero_le _, rfl, World.ownsRow_nil _ _ _ _, Below.refl _ _⟩
  case round =>
    obtain ⟨n, hn, rfl, hown, hbn⟩ := hrel
    have c0' := (hbn.cell (p := ⟨jb, 0, none⟩) l0).trans c0
    by_cases hnl : n < W
    · have hni : (n : Int) < (W : Int) := by omega
      have hn0 : (0 : Int) ≤ (n : Int) := by omega
      obtain ⟨qa, qc, d4⟩ := Hrow.out n (by omega)
      have l4 := cell_lt d4
      obtain ⟨la, lc, rfl⟩ := own_shape hown
      have hnx : (ps.take (n + 1)).map (fun p => Value.int .i64 (p.length : Int)) = (ps.take n).map (fun p => Value.int .i64 (p.length : Int)) ++ [.int .i64 ((ps[n]'(by omega)).length : Int)] := by
        rw [List.take_succ_eq_append_getElem (by omega), List.map_append]
        rfl
      have Hnx := show Hid _ from hnx
      clear hnx
      generalize (ps[n]'(by omega)).length = ln at d4 Hnx
      generalize (ps.take n).map (fun p => Value.int .i64 (p.length : Int)) = xs at hown Hnx
      have HO := show Hid (_ ∧ _) from And.intro (show wr.drew.ownsRow w1.heap.size 3 1 (.slice la n lc) n xs from hown) hbn.drew
      clear hown hbn
      go_wp2
      clear c0'
      refine wp_region_held_drew (S := fun w' : World => Below w1.heap.size w1 w') (by kernel_rfl) HO.out.2 (fun hH => ?_)
      generalize wr.drew = wd at HO hH ⊢
      refine wpAnyH_take (i := 0) (v := (.slice la n lc)) rfl (by kernel_rfl) (by kernel_rfl) (by kernel_rfl) (fun _ _ _ h => h) (Or.inl ⟨by rfl, by intro v hSw; clear hSw; go_simp⟩) hH ?_
      refine wpAnyH_take (i := 1) (v := (.pointer (some ⟨jb, 0, none⟩))) rfl (by kernel_rfl) (by kernel_rfl) (by kernel_rfl) (fun _ _ _ h => h) (Or.inl ⟨by rfl, by intro v hSw; clear hSw; go_simp⟩) hH ?_
      refine wpAnyH_take (i := 2) (v := (.pointer (some ⟨jb, 0, none⟩))) rfl (by kernel_rfl) (by kernel_rfl) (by kernel_rfl) (fun _ _ _ h => h) (Or.inl ⟨by rfl, by intro v hSw; clear hSw; go_simp⟩) hH ?_
      refine wpAnyH_take (i := 3) (v := (.pointer (some ⟨jb, 5, none⟩))) rfl (by kernel_rfl) (by kernel_rfl) (by kernel_rfl) (fun _ _ _ h => h) (Or.inl ⟨by rfl, by intro v hSw; clear hSw; go_simp⟩) hH ?_
      refine wpAnyH_take (i := 4) (v := (.slice (some ⟨g2, 0, none⟩) W ca)) rfl (by kernel_rfl) (by kernel_rfl) (by kernel_rfl) (fun _ _ _ h => h) (Or.inl ⟨by rfl, by intro v hSw; have s0 := (hSw.cell (p := ⟨jb, 5, none⟩) l0).trans c5; clear hSw; go_simp⟩) hH ?_
      refine wpAnyH_take (i := 5) (v := (.int .i64 ((W : Int) + 1 + (i : Int)))) rfl (by kernel_rfl) (by kernel_rfl) (by kernel_rfl) (fun _ _ _ h => h) (Or.inl ⟨by rfl, by intro v hSw; clear hSw; go_simp⟩) hH ?_
      refine wpAnyH_take (i := 6) (v := (.pointer (some ⟨jb, 0, none⟩))) rfl (by kernel_rfl) (by kernel_rfl) (by kernel_rfl) (fun _ _ _ h => h) (Or.inl ⟨by rfl, by intro v hSw; clear hSw; go_simp⟩) hH ?_
      refine wpAnyH_take (i := 7) (v := (.pointer (some ⟨jb, 0, none⟩))) rfl (by kernel_rfl) (by kernel_rfl) (by kernel_rfl) (fun _ _ _ h => h) (Or.inl ⟨by rfl, by intro v hSw; clear hSw; go_simp⟩) hH ?_
      refine wpAnyH_take (i := 8) (v := (.pointer (some ⟨jb, 0, none⟩))) rfl (by kernel_rfl) (by kernel_rfl) (by kernel_rfl) (fun _ _ _ h => h) (Or.inl ⟨by rfl, by intro v hSw; clear hSw; go_simp⟩) hH ?_
      refine wpAnyH_take (i := 9) (v := (.int .i64 (W : Int))) rfl (by kernel_rfl) (by kernel_rfl) (by kernel_rfl) (fun _ _ _ h => h) (Or.inl ⟨by rfl, by intro v hSw; have s0 := (hSw.cell (p := ⟨jb, 0, none⟩) l0).trans c0; clear hSw; go_simp⟩) hH ?_
      refine wpAnyH_take (i := 10) (v := (.int .i64 ((i : Int) + 1))) rfl (by kernel_rfl) (by kernel_rfl) (by kernel_rfl) (fun _ _ _ h => h) (Or.inl ⟨by rfl, by intro v hSw; clear hSw; go_simp; first | done | (rw [IntWalk.i64_in _ ⟨by omega, by omega⟩]; first | done | (congr 2; omega)) | (congr 2; omega)⟩) hH ?_
      refine wpAnyH_take (i := 11) (v := (.int .i64 (i : Int))) rfl (by kernel_rfl) (by kernel_rfl) (by kernel_rfl) (fun _ _ _ h => h) (Or.inl ⟨by rfl, by intro v hSw; clear hSw; go_simp; first | done | (rw [IntWalk.i64_in _ ⟨by omega, by omega⟩]; first | done | (congr 2; omega)) | (congr 2; omega)⟩) hH ?_
      refine wpAnyH_take (i := 12) (v := (.pointer (some ⟨g2, i, none⟩))) rfl (by kernel_rfl) (by kernel_rfl) (by kernel_rfl) (fun _ _ _ h => h) (Or.inl ⟨by rfl, by intro v hSw; clear hSw; go_simp⟩) hH ?_
      refine wpAnyH_take (i := 13) (v := (.pointer (some ⟨b2, 0, none⟩))) rfl (by kernel_rfl) (by kernel_rfl) (by kernel_rfl) (fun _ _ _ h => h) (Or.inl ⟨by rfl, by intro v hSw; have s0 := (hSw.cell (p := ⟨g2, i, none⟩) l2).trans d2; clear hSw; go_simp⟩) hH ?_
      refine wpAnyH_take (i := 14) (v := (.pointer (some ⟨b2, 0, none⟩))) rfl (by kernel_rfl) (by kernel_rfl) (by kernel_rfl) (fun _ _ _ h => h) (Or.inl ⟨by rfl, by intro v hSw; clear hSw; go_simp⟩) hH ?_
      refine wpAnyH_take (i := 15) (v := (.pointer (some ⟨b2, 1, none⟩))) rfl (by kernel_rfl) (by kernel_rfl) (by kernel_rfl) (fun _ _ _ h => h) (Or.inl ⟨by rfl, by intro v hSw; clear hSw; go_simp⟩) hH ?_
      refine wpAnyH_take (i := 16) (v := (.slice (some ⟨gp, 0, none⟩) W pc)) rfl (by kernel_rfl) (by kernel_rfl) (by kernel_rfl) (fun _ _ _ h => h) (Or.inl ⟨by rfl, by intro v hSw; have s0 := (hSw.cell (p := ⟨b2, 1, none⟩) l3).trans d3; clear hSw; go_simp⟩) hH ?_
      refine wpAnyH_take (i := 17) (v := (.int .i64 (n : Int))) rfl (by kernel_rfl) (by kernel_rfl) (by kernel_rfl) (fun _ _ _ h => h) (Or.inl ⟨by rfl, by intro v hSw; clear hSw; go_simp⟩) hH ?_
      refine wpAnyH_take (i := 18) (v := (.pointer (some ⟨gp, n, none⟩))) rfl (by kernel_rfl) (by kernel_rfl) (by kernel_rfl) (fun _ _ _ h => h) (Or.inl ⟨by rfl, by intro v hSw; clear hSw; go_simp⟩) hH ?_
      refine wpAnyH_take (i := 19) (v := (.slice qa ln qc)) rfl (by kernel_rfl) (by kernel_rfl) (by kernel_rfl) (fun _ _ _ h => h) (Or.inl ⟨by rfl, by intro v hSw; have s0 := (hSw.cell (p := ⟨gp, n, none⟩) l4).trans d4; clear hSw; go_simp⟩) hH ?_
      refine wpAnyH_take (i := 20) (v := (.int .i64 (ln : Int))) rfl (by kernel_rfl) (by kernel_rfl) (by kernel_rfl) (fun _ _ _ h => h) (Or.inl ⟨by rfl, by intro v hSw; clear hSw; go_simp⟩) hH ?_
      refine wpAnyH_ready (rs := [21]) (by kernel_rfl) (by simp) ?_
      refine AllReadyH.cons rfl (fun K hK => ?_) AllReadyH.nil
      clear hH
      go_simp
      refine hK.out _ _ (HO.out.2.alloc HO.out.2.size _) (fun hH => ?_)
      clear hK K
      refine wpAnyH_ready (rs := [22]) (by kernel_rfl) (by simp) ?_
      refine AllReadyH.cons rfl (fun K hK => ?_) AllReadyH.nil
      refine ite_of rfl ?_
      refine wp_append_two _ (.tmp 74) (.tmp 95) 34 rfl w1.heap.size 3 i0 (.int .i64 0) 1 8 Tryz.underlying34 hi0 hz0 hz1 hz2 rfl (by decide) (.slice la n lc) n xs rfl (HO.out.1.alloc _) ⟨wd.heap.size, 0, none⟩ 1 1 [.int .i64 (ln : Int)] rfl rfl (cell_one_new wd _ _) (fun u hu => by simp at hu; subst hu; rfl) (by unfold maxLen; omega) (by omega) (by have := HO.out.2.size; simp; omega) (by decide) ?_
      intro v3 w5 hown3 hfr3
      have hgr := grown_either hfr3
      have hb5 : Below w1.heap.size w1 w5 := (HO.out.2.alloc HO.out.2.size (.cells #[.int .i64 (ln : Int)] 3)).grown hgr (by have := HO.out.2.size; simp; omega) (fun q hq => (own_ge HO.out.1 q hq).1)
      refine hK.out _ _ hb5 (fun hH => ?_)
      clear hK K hfr3 hgr
      refine wpAnyH_take (i := 23) (v := v3) rfl (by kernel_rfl) (by kernel_rfl) (by kernel_rfl) (fun _ _ _ h => h) (Or.inl ⟨by rfl, by intro v hSw; clear hSw; go_simp⟩) hH ?_
      clear hH
      refine wpAnyH_done (by kernel_rfl) ?_ _
      have HF := show Hid (_ ∧ _) from And.intro hown3 hb5
      clear hown3 hb5 HO
      go_wp2
      go_roundw
      case rel => exact ⟨n + 1, by omega, by go_num, by rw [Hnx.out]; exact HF.out.1, HF.out.2⟩
      case measure => simp [intOf]; omega
    · have hni : ¬ (n : Int) < (W : Int) := by omega
      have hnn : n = W := by omega
      obtain ⟨la, lc, rfl⟩ := own_shape hown
      have HF := show Hid (wr.ownsRow w1.heap.size 3 1 (.slice la n lc) ps.length (ps.map fun p => Value.int .i64 (p.length : Int)) ∧ Below w1.heap.size w1 wr) from ⟨by
        have h := hown
        rw [List.take_of_length_le (by omega)] at h
        rw [show ps.length = n from by omega]
        exact h, hbn⟩
      clear hown hbn hnn
      go_wp2
      go_ret2
      refine ⟨_, rfl, ?_, HF.out.2⟩
      rw [List.length_map, List.map_map]
      have := HF.out.1
      exact this

end

end Go.Proofs.YthccpacmklhejaaGreatDoor

namespace Go.Proofs.YthccpacmklhejaaGreatDoor
open Go.RowKit

theorem rqueue_any {f : Owners} {w : World} {B k jb : Nat} {sb ab : List Nat} {j : JobM} (h : RJob f w B k jb sb ab j) (hf : FlowOk j) (hw : 1 ≤ j.width ∧ j.width ≤ 4) (hE : j.events.length ≤ 400) (t : Int) :
    Calls Tryz.prog 50 #[.pointer (some ⟨jb, 0, none⟩), .int .i64 t] w fun en w' => QGive w (j.queue t).1 (j.queue t).2 en w' := by
  unfold JobM.queue
  by_cases h1 : t < 0 ∨ 2 * (j.width : Int) + 1 < t
  · rw [if_pos h1]
    exact rqueue_none h hw.2 t h1
  · rw [if_neg h1]
    by_cases h2 : t = 0
    · subst h2
      rw [if_pos rfl]
      exact rqueue_source h hw hf.sent hE
    · rw [if_neg h2]
      by_cases h3 : t ≤ (j.width : Int)
      · rw [if_pos h3]
        obtain ⟨i, rfl⟩ : ∃ i : Nat, t = (i : Int) + 1 := ⟨(t - 1).toNat, by omega⟩
        have hi : i < j.width := by omega
        have hs : i < j.sorters.length := by rw [hf.lenS]; exact hi
        rw [show ((i : Int) + 1 - 1).toNat = i from by omega, List.getD_eq_getElem?_getD, List.getElem?_eq_getElem hs, Option.getD_some]
        exact rqueue_sorter h hw i hi hs
      · rw [if_neg h3]
        by_cases h4 : t ≤ 2 * (j.width : Int)
        · rw [if_pos h4]
          obtain ⟨i, rfl⟩ : ∃ i : Nat, t = (j.width : Int) + 1 + (i : Int) := ⟨(t - (j.width : Int) - 1).toNat, by omega⟩
          have hi : i < j.width := by omega
          have ha : i < j.adders.length := by rw [hf.lenA]; exact hi
          rw [show ((j.width : Int) + 1 + (i : Int) - (j.width : Int) - 1).toNat = i from by omega, List.getD_eq_getElem?_getD, List.getElem?_eq_getElem ha, Option.getD_some]
          exact rqueue_adder h hw i hi ha
        · rw [if_neg h4]
          have := rqueue_keeper h hw t (by omega)
          cases hp : j.passedAll with
          | true => rw [hp] at this; exact this
          | false => rw [hp] at this; exact this

end Go.Proofs.YthccpacmklhejaaGreatDoor
