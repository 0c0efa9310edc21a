/-
  (*canallaw.World).kept: the lists that came out hold their marks.
-/
import Derived.Test.YthccpacmklhejaaGreatDoorApp
namespace Go.Proofs.YthccpacmklhejaaGreatDoor
open Go.RowKit

/-- A list that was kept: where it lies, how long it is, its mark. -/
structure Ent where
  a : Option Addr
  n : Nat
  c : Nat
  m : Ev

def Ent.v (x : Ent) : Value := .slice x.a x.n x.c

/-- It holds its mark all over. -/
def Holds (W : World) (B : Nat) (x : Ent) : Prop :=
  x.n = 0 ∨ ∃ g cur, x.a = some ⟨g, 0, none⟩ ∧ B ≤ g ∧ W.heap[g]? = some (.cells cur 41 (0, 0)) ∧ cur.toList.take (x.n * 4) = evCells (List.replicate x.n x.m)

/-- What the World of a law holds: its box, the lists and the marks. -/
structure Inv (W : World) (wb : Nat) (ents : List Ent) (cnt : Nat) (ve vm : Value) : Prop where
  box : W.heap[wb]? = some (.cells #[.slice none 0 0, .slice none 0 0, .slice none 0 0, ve, .slice none 0 0, vm, .int .i64 (cnt : Int)] 37 (0, 0))
  evs : W.ownsRow (wb + 1) 35 1 ve ents.length (ents.map Ent.v)
  mks : W.ownsRow (wb + 1) 41 4 vm ents.length (evCells (ents.map Ent.m))
  all : ∀ x ∈ ents, Holds W (wb + 1) x ∧ x.n ≤ 1000 ∧ (x.n = 0 ∨ ∀ g, vm.ownBlock = some g → x.a ≠ some ⟨g, 0, none⟩)

theorem box_cell {W : World} {wb : Nat} {cs : Array Value} {t : TypeId} (h : W.heap[wb]? = some (.cells cs t (0, 0))) (j : Nat) : W.cell? ⟨wb, j, none⟩ = cs[j]? := cell_of_row W wb j cs t (0, 0) h

theorem mark_cells (m : Ev) (n k : Nat) (h : k < n) : (evCells (List.replicate n m))[k * 4]? = some (.int .u8 (m.op : Int)) ∧ (evCells (List.replicate n m))[k * 4 + 1]? = some (.string m.key) ∧ (evCells (List.replicate n m))[k * 4 + 2]? = some (.int .u16 (m.seq : Int)) ∧ (evCells (List.replicate n m))[k * 4 + 3]? = some (.int .i16 m.val) := by
  have := evCells_at (List.replicate n m) k (by simpa using h)
  simpa using this

theorem holds_cell {W : World} {g n k : Nat} {m : Ev} {cur : Array Value} (hg : W.heap[g]? = some (.cells cur 41 (0, 0))) (ht : cur.toList.take (n * 4) = evCells (List.replicate n m)) (h : k < n) :
    W.cell? ⟨g, k * 4, none⟩ = some (.int .u8 (m.op : Int)) ∧ W.cell? ⟨g, k * 4 + 1, none⟩ = some (.string m.key) ∧ W.cell? ⟨g, k * 4 + 2, none⟩ = some (.int .u16 (m.seq : Int)) ∧ W.cell? ⟨g, k * 4 + 3, none⟩ = some (.int .i16 m.val) := by
  have hc := mark_cells m n k h
  have hq : ∀ j, j < n * 4 → W.cell? ⟨g, j, none⟩ = (evCells (List.replicate n m))[j]? := by
    intro j hj
    rw [box_cell hg, ← ht, List.getElem?_take, if_pos hj]
    simp
  exact ⟨(hq _ (by omega)).trans hc.1, (hq _ (by omega)).trans hc.2.1, (hq _ (by omega)).trans hc.2.2.1, (hq _ (by omega)).trans hc.2.2.2⟩

theorem drewN_twice (w : World) (a b : Nat) : ∃ n, (w.drewN a).drewN b = w.drewN n := ⟨a + b, by simp [World.drewN, Nat.add_assoc]⟩

set_option maxRecDepth 100000 in
set_option maxHeartbeats 1000000 in
theorem kept_any (W : World) (wb : Nat) (ents : List Ent) (cnt : Nat) (ae am : Option Addr) (ce cm : Nat) (hI : Inv W wb ents cnt (.slice ae ents.length ce) (.slice am ents.length cm)) (hN : ents.length ≤ 4611686018427387904) :
    Calls Tryz.prog 9 #[.pointer (some ⟨wb, 0, none⟩)] W fun e w' => e = .returned (.bool true) ∧ ∃ n, w' = W.drewN n := by
  have b2 : W.cell? ⟨wb, 2, none⟩ = some (.slice none 0 0) := box_cell hI.box 2
  have b3 : W.cell? ⟨wb, 3, none⟩ = some (.slice ae ents.length ce) := box_cell hI.box 3
  have b5 : W.cell? ⟨wb, 5, none⟩ = some (.slice am ents.length cm) := box_cell hI.box 5
  have HI := show Hid (Inv W wb ents cnt (.slice ae ents.length ce) (.slice am ents.length cm)) from hI
  clear hI
  go_enter Tryz.func9, Tryz.ntmps9
  go_wp2
  refine wp_loop_rounds 1 ?_
  rw [rounds_succ]
  go_wp2
  go_loopw [5] (fun i wr => ∃ k nq : Nat, k ≤ ents.length ∧ i = .int .i64 (k : Int) ∧ wr = W.drewN nq) (fun i _ => ents.length - (intOf i).toNat)
  case atStart => exact ⟨0, 0, Nat.zero_le _, rfl, rfl⟩
  case round =>
    obtain ⟨k, nq, hk, rfl, rfl⟩ := hrel
    by_cases hkl : k < ents.length
    · have hev := HI.out.evs
      have hmk := HI.out.mks
      rcases own_addr hev with ⟨_, h0⟩ | ⟨ge, rfl⟩
      · omega
      rcases own_addr hmk with ⟨_, h0⟩ | ⟨gm, rfl⟩
      · omega
      have ce0 : W.cell? ⟨ge, k, none⟩ = some ((ents[k]'hkl).v) := by
        rw [hev.cellAt k (by omega)]
        simp [hkl]
      have hmc := evCells_at (ents.map Ent.m) k (by simpa using hkl)
      have hm0 := (hmk.cellAt (k * 4) (by omega)).trans hmc.1
      have hm1 := (hmk.cellAt (k * 4 + 1) (by omega)).trans hmc.2.1
      have hm2 := (hmk.cellAt (k * 4 + 2) (by omega)).trans hmc.2.2.1
      have hm3 := (hmk.cellAt (k * 4 + 3) (by omega)).trans hmc.2.2.2
      simp only [List.getElem_map] at hm0 hm1 hm2 hm3
      obtain ⟨hh, hx1000, _⟩ := HI.out.all (ents[k]'hkl) (List.getElem_mem hkl)
      clear hev hmk hmc HI
      generalize ents[k]'hkl = x at ce0 hm0 hm1 hm2 hm3 hh hx1000
      obtain ⟨xa, xn, xc, mk⟩ := x
      obtain ⟨mop, mkey, mseq, mval⟩ := mk
      unfold Ent.v at ce0
      simp only at ce0 hm0 hm1 hm2 hm3 hh hx1000
      have Hh := show Hid (Holds W (wb + 1) ⟨xa, xn, xc, ⟨mop, mkey, mseq, mval⟩⟩) from hh
      clear hh
      have hki : (k : Int) < (ents.length : Int) := by omega
      have hk0 : (0 : Int) ≤ (k : Int) := by omega
      go_wp2
      go_loopw [6] (fun i wr => ∃ j nq : Nat, j ≤ xn ∧ i = .int .i64 (j : Int) ∧ wr = W.drewN nq) (fun i _ => xn - (intOf i).toNat)
      case atStart => exact ⟨0, nq, Nat.zero_le _, rfl, rfl⟩
      case round =>
        obtain ⟨j, nr, hj, rfl, rfl⟩ := hrel
        by_cases hjl : j < xn
        · rcases Hh.out with h0 | ⟨g, cur, ha, _, hg, ht⟩
          · simp only at h0; omega
          simp only at ha ht
          subst ha
          obtain ⟨p0, p1, p2, p3⟩ := holds_cell hg ht hjl
          simp only at p0 p1 p2 p3
          clear hg ht
          have hji : (j : Int) < (xn : Int) := by omega
          have hj0 : (0 : Int) ≤ (j : Int) := by omega
          go_wp2
          go_quiet (fail)
          go_wp2
          go_roundw
          case rel => exact ⟨j + 1, _, by omega, by go_num, rfl⟩
          case measure => simp [intOf]; omega
        · go_wp2
          go_roundw
          case rel => exact ⟨k + 1, _, by omega, by go_num, rfl⟩
          case measure => simp [intOf]; omega
    · go_wp2
      go_ret
      exact ⟨rfl, nq, rfl⟩
end Go.Proofs.YthccpacmklhejaaGreatDoor
