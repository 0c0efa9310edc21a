/-
  groups.Table: place, and its list.
-/
import Derived.Test.YthpknaeiaiojgaaDoorTake0
namespace Go.Proofs.YthpknaeiaiojgaaDoor
open Go.RowKit

def gCells1 (r : GV) : List Value := [.int .i32 (r.pt : Int), .int .i64 r.live, .int .i16 r.sum, .int .u8 r.ev]
def gCells (rs : List GV) : List Value := rs.flatMap gCells1

theorem gCells_length (rs : List GV) : (gCells rs).length = rs.length * 4 := by
  induction rs with
  | nil => rfl
  | cons r rs ih => simp [gCells, gCells1] at ih ⊢; omega

theorem gCells_append (rs ts : List GV) : gCells (rs ++ ts) = gCells rs ++ gCells ts := by simp [gCells]

theorem gCells_at : ∀ (rs : List GV) (k : Nat) (h : k < rs.length) (j : Nat), j < 4 → (gCells rs)[k * 4 + j]? = (gCells1 rs[k])[j]?
  | r :: rs, 0, _, j, hj => by
    simp only [gCells, List.flatMap_cons, Nat.zero_mul, Nat.zero_add, List.getElem_cons_zero]
    rw [List.getElem?_append_left (by simp [gCells1]; omega)]
  | r :: rs, k + 1, h, j, hj => by
    have ih := gCells_at rs k (by simpa using h) j hj
    simp only [gCells, List.flatMap_cons, List.getElem_cons_succ] at ih ⊢
    rw [List.getElem?_append_right (by simp [gCells1]; omega), ← ih]
    congr 1
    simp [gCells1]
    omega

theorem gFill (rs : List GV) (n : Nat) (h : n < rs.length) (x : GV) : ((((gCells rs).set (n * 4) (.int .i32 (x.pt : Int))).set (n * 4 + 1) (.int .i64 x.live)).set (n * 4 + 2) (.int .i16 x.sum)).set (n * 4 + 3) (.int .u8 x.ev) = gCells (rs.set n x) := by
  have hs : rs = rs.take n ++ rs[n] :: rs.drop (n + 1) := by rw [← List.drop_eq_getElem_cons h, List.take_append_drop]
  have hset : rs.set n x = rs.take n ++ x :: rs.drop (n + 1) := by rw [List.set_eq_take_append_cons_drop, if_pos h]
  rw [hset]
  generalize rs[n] = r at hs
  generalize hT : rs.take n = T at hs
  generalize rs.drop (n + 1) = D at hs
  have hTl : T.length = n := by rw [← hT, List.length_take]; omega
  have hlen : (gCells T).length = n * 4 := by rw [gCells_length, hTl]
  subst hs
  have hc : ∀ r' : GV, gCells (r' :: D) = gCells1 r' ++ gCells D := fun r' => by simp [gCells]
  rw [gCells_append, gCells_append, hc, hc]
  rw [List.set_append_right _ _ (by omega), List.set_append_right _ _ (by omega), List.set_append_right _ _ (by omega), List.set_append_right _ _ (by omega), hlen]
  rw [show n * 4 - n * 4 = 0 from by omega, show n * 4 + 1 - n * 4 = 1 from by omega, show n * 4 + 2 - n * 4 = 2 from by omega, show n * 4 + 3 - n * 4 = 3 from by omega]
  rfl

/-- The table's list. -/
def GAt (B kb : Nat) (a : Option Addr) (c : Nat) (rs : List GV) (w : World) : Prop :=
  w.heap[kb]? = some (.cells #[.slice a rs.length c] 121 (0, 0)) ∧ w.ownsRow B 155 4 (.slice a rs.length c) rs.length (gCells rs)

theorem GAt.old {B kb : Nat} {a : Option Addr} {c : Nat} {rs : List GV} {w w1 : World} (h : GAt B kb a c rs w) (hb : Below w.heap.size w w1) : GAt B kb a c rs w1 :=
  ⟨by rw [hb.block kb (heap_lt h.1)]; exact h.1, own_below h.2 hb⟩
theorem GAt.alloc {B kb : Nat} {a : Option Addr} {c : Nat} {rs : List GV} {w : World} (h : GAt B kb a c rs w) (o : Obj) : GAt B kb a c rs (w.alloc o) := h.old ((Below.refl _ _).alloc (Nat.le_refl _) _)
theorem GAt.drew {B kb : Nat} {a : Option Addr} {c : Nat} {rs : List GV} {w : World} (h : GAt B kb a c rs w) : GAt B kb a c rs w.drew := h
theorem GAt.cell {B kb : Nat} {a : Option Addr} {c : Nat} {rs : List GV} {w : World} (h : GAt B kb a c rs w) : w.cell? ⟨kb, 0, none⟩ = some (.slice a rs.length c) := row_cell h.1 0

theorem GAt.row {B kb g c : Nat} {rs : List GV} {w : World} (h : GAt B kb (some ⟨g, 0, none⟩) c rs w) (n : Nat) (hn : n < rs.length) :
    w.cell? ⟨g, n * 4, none⟩ = some (.int .i32 (rs[n].pt : Int)) ∧ w.cell? ⟨g, n * 4 + 1, none⟩ = some (.int .i64 rs[n].live) ∧ w.cell? ⟨g, n * 4 + 2, none⟩ = some (.int .i16 rs[n].sum) ∧ w.cell? ⟨g, n * 4 + 3, none⟩ = some (.int .u8 rs[n].ev) :=
  ⟨(h.2.cellAt (n * 4) (by omega)).trans (gCells_at rs n hn 0 (by decide)), (h.2.cellAt (n * 4 + 1) (by omega)).trans (gCells_at rs n hn 1 (by decide)), (h.2.cellAt (n * 4 + 2) (by omega)).trans (gCells_at rs n hn 2 (by decide)), (h.2.cellAt (n * 4 + 3) (by omega)).trans (gCells_at rs n hn 3 (by decide))⟩

/-- One cell of a group's, laid over. -/
theorem GAt.set {B kb g c : Nat} {rs rs' : List GV} {w : World} (h : GAt B kb (some ⟨g, 0, none⟩) c rs w) (j : Nat) (u : Value) (hr : (gCells rs).set j u = gCells rs') (hl : rs'.length = rs.length) (hB : B ≤ w.heap.size) :
    GAt B kb (some ⟨g, 0, none⟩) c rs' (w.setCell ⟨g, j, none⟩ u) ∧ Frm B 121 155 w (w.setCell ⟨g, j, none⟩ u) := by
  have r1 := h.2.stored j u
  obtain ⟨cur, hcur⟩ := own_obj h.2
  refine ⟨⟨?_, ?_⟩, (Frm.refl B 121 155 w).grown hB r1.2 fun g' hg' => ?_⟩
  · rw [hl, r1.2.block kb (heap_lt h.1) (by
      intro e
      simp only [Option.some.injEq] at e
      subst e
      have := h.1
      rw [hcur] at this
      simp at this)]
    exact h.1
  · rw [hr] at r1
    rw [hl]
    exact r1.1
  · simp only [Option.some.injEq] at hg'
    subst hg'
    exact ⟨(own_lt h.2).1, cur, _, _, hcur, .inr rfl⟩

/-- How many groups at the front are below a point. -/
def plcG (p : Nat) : List GV → Nat
  | [] => 0
  | r :: rs => if r.pt < p then plcG p rs + 1 else 0

theorem plcG_le (p : Nat) (rs : List GV) : plcG p rs ≤ rs.length := by
  induction rs with
  | nil => simp [plcG]
  | cons r rs ih => unfold plcG; split <;> simp <;> omega

theorem plcG_eq {p : Nat} : ∀ (rs : List GV) (j : Nat), j ≤ rs.length → (∀ k (h : k < rs.length), k < j → rs[k].pt < p) → (∀ h : j < rs.length, ¬ rs[j].pt < p) → plcG p rs = j
  | [], j, h, _, _ => by simp at h; simp [plcG, h]
  | r :: rs, 0, _, _, h => by
    have := h (by simp)
    simp only [List.getElem_cons_zero] at this
    simp [plcG, this]
  | r :: rs, j + 1, hj, h1, h2 => by
    have h0 := h1 0 (by simp) (by omega)
    simp only [List.getElem_cons_zero] at h0
    have ih := plcG_eq (p := p) rs j (by simpa using hj) (fun k hk hkj => by have := h1 (k + 1) (by simpa using hk) (by omega); simpa using this) (fun hj' => by have := h2 (by simpa using hj'); simpa using this)
    simp [plcG, h0, ih]

set_option maxRecDepth 100000 in
set_option maxHeartbeats 1000000 in
theorem gplace_any (kb : Nat) (a : Option Addr) (c : Nat) (rs : List GV) (p : Nat) (B : Nat) (w : World) (hlen : rs.length ≤ 1000) (hG : GAt B kb a c rs w) :
    Calls Tryd.prog 86 #[.pointer (some ⟨kb, 0, none⟩), .int .i32 (p : Int)] w fun en w' => en = .returned (.int .i64 (plcG p rs : Int)) ∧ w' = w := by
  have HO := show Hid (GAt B kb a c rs w) from hG
  have hb0 := hG.cell
  clear hG
  go_enter Tryd.func86, Tryd.ntmps86
  go_wp2
  go_loopw [5] (fun i wr => ∃ j : Nat, j ≤ rs.length ∧ i = .int .i64 (j : Int) ∧ (∀ k (h : k < rs.length), k < j → rs[k].pt < p) ∧ wr = w) (fun i _ => rs.length - (intOf i).toNat)
  case atStart => exact ⟨0, Nat.zero_le _, rfl, fun _ _ h => absurd h (Nat.not_lt_zero _), rfl⟩
  case round =>
    obtain ⟨j, hj, rfl, hno, rfl⟩ := hrel
    by_cases hjl : j < rs.length
    · rcases own_addr HO.out.2 with ⟨_, h0⟩ | ⟨g, rfl⟩
      · omega
      have c0 := (HO.out.row j hjl).1
      clear HO
      have hji : (j : Int) < (rs.length : Int) := by omega
      have hj0 : (0 : Int) ≤ (j : Int) := by omega
      by_cases hp : (rs[j]'hjl).pt < p
      · have hpi : (((rs[j]'hjl).pt : Int) < (p : Int)) := by omega
        have hno' : ∀ k (h : k < rs.length), k < j + 1 → rs[k].pt < p := by
          intro k h hk
          by_cases e : k = j
          · subst e; exact hp
          · exact hno k h (by omega)
        clear hp hno
        generalize (rs[j]'hjl).pt = q at c0 hpi
        go_wp2
        go_roundw
        case rel => exact ⟨j + 1, by omega, by go_num, hno', by first | trivial | rfl⟩
        case measure => simp [intOf]; omega
      · have hpi : ¬ (((rs[j]'hjl).pt : Int) < (p : Int)) := by omega
        have Hf := show Hid _ from plcG_eq (p := p) rs j hj hno (fun _ => hp)
        clear hno hp
        generalize (rs[j]'hjl).pt = q at c0 hpi
        go_wp2
        go_ret
        exact ⟨by rw [Hf.out]; rfl, rfl⟩
    · have hf := plcG_eq (p := p) rs j hj hno (fun h => absurd h hjl)
      go_wp2
      go_ret
      exact ⟨by rw [hf]; rfl, rfl⟩
end Go.Proofs.YthpknaeiaiojgaaDoor
