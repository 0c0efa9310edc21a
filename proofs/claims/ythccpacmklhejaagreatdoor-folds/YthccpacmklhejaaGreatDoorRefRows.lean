/-
  canalref.groupOf, place, rows.
-/
import Derived.Test.YthccpacmklhejaaGreatDoorRefFold
namespace Go.Proofs.YthccpacmklhejaaGreatDoor
open Go.RowKit

/-- A group's row. -/
structure RowV where
  pt : Nat
  tx : ByteArray
  live : Nat
  sum : Int
  ev : Nat

def rowCells1 (r : RowV) : List Value := [.int .i64 (r.pt : Int), .string r.tx, .int .i64 (r.live : Int), .int .i64 r.sum, .int .i64 (r.ev : Int)]
def rowCells (rs : List RowV) : List Value := rs.flatMap rowCells1

theorem rowCells_length (rs : List RowV) : (rowCells rs).length = rs.length * 5 := by
  induction rs with
  | nil => rfl
  | cons r rs ih => simp [rowCells, rowCells1] at ih ⊢; omega

theorem rowCells_append (rs ts : List RowV) : rowCells (rs ++ ts) = rowCells rs ++ rowCells ts := by simp [rowCells]

theorem rowCells_at : ∀ (rs : List RowV) (k : Nat) (h : k < rs.length) (j : Nat), j < 5 → (rowCells rs)[k * 5 + j]? = (rowCells1 rs[k])[j]?
  | r :: rs, 0, _, j, hj => by
    simp only [rowCells, List.flatMap_cons, Nat.zero_mul, Nat.zero_add, List.getElem_cons_zero]
    rw [List.getElem?_append_left (by simp [rowCells1]; omega)]
  | r :: rs, k + 1, h, j, hj => by
    have ih := rowCells_at rs k (by simpa using h) j hj
    simp only [rowCells, List.flatMap_cons, List.getElem_cons_succ] at ih ⊢
    rw [List.getElem?_append_right (by simp [rowCells1]; omega), ← ih]
    congr 1
    simp [rowCells1]
    omega

/-- The place of a group's row. -/
def placeS (rs : List RowV) (p : Nat) : Nat := rs.findIdx (fun r => decide (r.pt = p))

set_option maxRecDepth 100000 in
set_option maxHeartbeats 1000000 in
theorem place_any (a : Option Addr) (c : Nat) (rs : List RowV) (p B : Nat) (w : World) (hlen : rs.length ≤ 1000) (hown : w.ownsRow B 137 5 (.slice a rs.length c) rs.length (rowCells rs)) :
    Calls Tryz.prog 71 #[.slice a rs.length c, .int .i64 (p : Int)] w fun en w' => en = .returned (.int .i64 (placeS rs p : Int)) ∧ w' = w := by
  have HO : Hid (w.ownsRow B 137 5 (.slice a rs.length c) rs.length (rowCells rs)) := hown
  clear hown
  go_enter Tryz.func71, Tryz.ntmps71
  go_wp2
  go_loopw [5] (fun i wr => ∃ j : Nat, j ≤ rs.length ∧ i = .int .i64 (j : Int) ∧ (∀ k (h : k < rs.length), k < j → ¬ rs[k].pt = p) ∧ wr = w) (fun i _ => rs.length - (intOf i).toNat)
  case atStart => exact ⟨0, Nat.zero_le _, rfl, fun _ _ h => absurd h (Nat.not_lt_zero _), rfl⟩
  case round =>
    obtain ⟨j, hj, rfl, hno, rfl⟩ := hrel
    by_cases hjl : j < rs.length
    · rcases own_addr HO.out with ⟨_, h0⟩ | ⟨g, rfl⟩
      · omega
      have c0 := (HO.out.cellAt (j * 5) (by omega)).trans (rowCells_at rs j hjl 0 (by decide))
      have e0 : (rowCells1 (rs[j]'hjl))[0]? = some (.int .i64 ((rs[j]'hjl).pt : Int)) := rfl
      rw [e0] at c0
      clear e0 HO
      have hji : (j : Int) < (rs.length : Int) := by omega
      have hj0 : (0 : Int) ≤ (j : Int) := by omega
      by_cases hp : (rs[j]'hjl).pt = p
      · have hf : placeS rs p = j := by
          unfold placeS
          rw [List.findIdx_eq hjl]
          exact ⟨by simp [hp], fun k hk => by simpa using hno k (by omega) hk⟩
        rw [hp] at c0
        go_wp2
        go_ret
        exact ⟨by rw [hf]; rfl, rfl⟩
      · have hpi : ¬ (((rs[j]'hjl).pt : Int) = (p : Int)) := by omega
        have hno' : ∀ k (h : k < rs.length), k < j + 1 → ¬ rs[k].pt = p := by
          intro k h hk
          by_cases e : k = j
          · subst e; exact hp
          · exact hno k h (by omega)
        generalize (rs[j]'hjl).pt = q at c0 hpi
        go_wp2
        go_roundw
        case rel => exact ⟨j + 1, by omega, by go_num, hno', by first | trivial | rfl⟩
        case measure => simp [intOf]; omega
    · have hf : placeS rs p = rs.length := by
        unfold placeS
        rw [List.findIdx_eq_length]
        intro x hx
        obtain ⟨k, hk, rfl⟩ := List.getElem_of_mem hx
        simpa using hno k hk (by omega)
      go_wp2
      go_ret
      exact ⟨by rw [hf]; rfl, rfl⟩

/-- The group of a key. -/
def grp (key : ByteArray) : Nat × ByteArray := ((ptS key 0).1, key.extract 0 (ptS key 0).2)

theorem ptS_le (s : ByteArray) (h : 0 < s.size) : (ptS s 0).2 ≤ s.size := by
  by_cases h0 : (ptS s 0).2 = 0
  · omega
  · have := ((ok_step s 0 0 h).2 h0).2
    omega

set_option maxHeartbeats 400000 in
theorem groupOf_any (key : ByteArray) (w : World) (h : 0 < key.size) (hs : key.size ≤ 1000) :
    Calls Tryz.prog 69 #[.string key] w fun en w' => en = .returned (.tuple #[.int .i64 ((grp key).1 : Int), .string (grp key).2]) ∧ ∃ m, w' = w.drewN m := by
  have hP := show Hid _ from fun w => point_any key 0 w h (by omega)
  have hle := ptS_le key h
  unfold grp
  generalize ptS key 0 = q at hP hle
  obtain ⟨q1, q2⟩ := q
  simp only at hP hle ⊢
  go_enter Tryz.func69, Tryz.ntmps69
  go_wp2_with (go_at_call 62; refine (hP.out _).mono ?_; rintro e w1 ⟨rfl, rfl⟩)
  go_quiet (fail)
  go_wp2
  go_ret2
  exact ⟨rfl, nq, rfl⟩
end Go.Proofs.YthccpacmklhejaaGreatDoor
