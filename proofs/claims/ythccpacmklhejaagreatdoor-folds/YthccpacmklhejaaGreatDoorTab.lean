/-
  groups.Table: its list, in some cell; place.
-/
import Derived.Test.YthccpacmklhejaaGreatDoorSlot
namespace Go.Proofs.YthccpacmklhejaaGreatDoor
open Go.RowKit

/-- A group as the table has it: is it changed? -/
structure GX where
  v : GV
  ch : Bool

def gCells1 (r : GX) : List Value := [.int .i32 (r.v.pt : Int), .int .i64 r.v.live, .int .i16 r.v.sum, .int .u8 r.v.ev, .bool r.ch]
def gCells (rs : List GX) : List Value := rs.flatMap gCells1

theorem gCells_length (rs : List GX) : (gCells rs).length = rs.length * 5 := by
  induction rs with
  | nil => rfl
  | cons r rs ih => simp [gCells, gCells1] at ih ⊢; omega

theorem gCells_append (rs ts : List GX) : gCells (rs ++ ts) = gCells rs ++ gCells ts := by simp [gCells]

theorem gCells_at : ∀ (rs : List GX) (k : Nat) (h : k < rs.length) (j : Nat), j < 5 → (gCells rs)[k * 5 + j]? = (gCells1 rs[k])[j]?
  | r :: rs, 0, _, j, hj => by
    simp only [gCells, List.flatMap_cons, Nat.zero_mul, Nat.zero_add, List.getElem_cons_zero]
    rw [List.getElem?_append_left (by simp [gCells1]; omega)]
  | r :: rs, k + 1, h, j, hj => by
    have ih := gCells_at rs k (by simpa using h) j hj
    simp only [gCells, List.flatMap_cons, List.getElem_cons_succ] at ih ⊢
    rw [List.getElem?_append_right (by simp [gCells1]; omega), ← ih]
    congr 1
    simp [gCells1]
    omega

theorem gCells_set (rs : List GX) (n : Nat) (h : n < rs.length) (x : GX) (j : Nat) (u : Value) (hj : j < 5) (hu : (gCells1 rs[n]).set j u = gCells1 x) : (gCells rs).set (n * 5 + j) u = gCells (rs.set n x) := by
  have hs : rs = rs.take n ++ rs[n] :: rs.drop (n + 1) := by rw [← List.drop_eq_getElem_cons h, List.take_append_drop]
  have hset : rs.set n x = rs.take n ++ x :: rs.drop (n + 1) := by rw [List.set_eq_take_append_cons_drop, if_pos h]
  rw [hset]
  generalize rs[n] = r at hs hu
  generalize hT : rs.take n = T at hs
  generalize rs.drop (n + 1) = D at hs
  have hTl : T.length = n := by rw [← hT, List.length_take]; omega
  have hlen : (gCells T).length = n * 5 := by rw [gCells_length, hTl]
  subst hs
  have hc : ∀ r' : GX, gCells (r' :: D) = gCells1 r' ++ gCells D := fun r' => by simp [gCells]
  rw [gCells_append, gCells_append, hc, hc, List.set_append_right _ _ (by omega), hlen, show n * 5 + j - n * 5 = j from by omega, List.set_append_left _ _ (by simp [gCells1]; omega), hu]

/-- The table's list. -/
abbrev GAt (B kb o : Nat) (t : TypeId) (cs : Array Value) (a : Option Addr) (c : Nat) (rs : List GX) (w : World) : Prop := LAt B 176 5 kb o t cs a rs.length c (gCells rs) w
abbrev GUpd (B kb o : Nat) (t : TypeId) (cs : Array Value) (a : Option Addr) (c : Nat) (rs : List GX) (w : World) (a' : Option Addr) (c' : Nat) (rs' : List GX) (w' : World) : Prop := Upd B 176 5 kb o t cs a rs.length c w a' rs'.length c' (gCells rs') w'

theorem g_row {B kb o : Nat} {t : TypeId} {cs : Array Value} {g c : Nat} {rs : List GX} {w : World} (h : GAt B kb o t cs (some ⟨g, 0, none⟩) c rs w) (n : Nat) (hn : n < rs.length) :
    w.cell? ⟨g, n * 5, none⟩ = some (.int .i32 (rs[n].v.pt : Int)) ∧ w.cell? ⟨g, n * 5 + 1, none⟩ = some (.int .i64 rs[n].v.live) ∧ w.cell? ⟨g, n * 5 + 2, none⟩ = some (.int .i16 rs[n].v.sum) ∧ w.cell? ⟨g, n * 5 + 3, none⟩ = some (.int .u8 rs[n].v.ev) ∧ w.cell? ⟨g, n * 5 + 4, none⟩ = some (.bool rs[n].ch) :=
  ⟨(h.at (n * 5) (by omega)).trans (gCells_at rs n hn 0 (by decide)), (h.at (n * 5 + 1) (by omega)).trans (gCells_at rs n hn 1 (by decide)), (h.at (n * 5 + 2) (by omega)).trans (gCells_at rs n hn 2 (by decide)), (h.at (n * 5 + 3) (by omega)).trans (gCells_at rs n hn 3 (by decide)), (h.at (n * 5 + 4) (by omega)).trans (gCells_at rs n hn 4 (by decide))⟩

/-- One cell of a group's, laid over. -/
theorem g_set {B kb o : Nat} {t : TypeId} {cs : Array Value} {a : Option Addr} {c : Nat} {ks : List GX} {w0 : World} {g c' : Nat} {rs : List GX} {w : World} (h : GUpd B kb o t cs a c ks w0 (some ⟨g, 0, none⟩) c' rs w) (n : Nat) (hn : n < rs.length) (x : GX) (j : Nat) (u : Value) (hj : j < 5) (hu : (gCells1 rs[n]).set j u = gCells1 x) :
    GUpd B kb o t cs a c ks w0 (some ⟨g, 0, none⟩) c' (rs.set n x) (w.setCell ⟨g, n * 5 + j, none⟩ u) := by
  have h1 := h.store (n * 5 + j) u
  rw [gCells_set rs n hn x j u hj hu] at h1
  have hl : rs.length = (rs.set n x).length := by rw [List.length_set]
  unfold GUpd
  rw [← hl]
  exact h1

/-- How many groups at the front are below a point. -/
def plcX (p : Nat) : List GX → Nat
  | [] => 0
  | r :: rs => if r.v.pt < p then plcX p rs + 1 else 0

theorem plcX_le (p : Nat) (rs : List GX) : plcX p rs ≤ rs.length := by
  induction rs with
  | nil => simp [plcX]
  | cons r rs ih => unfold plcX; split <;> simp <;> omega

theorem plcX_eq {p : Nat} : ∀ (rs : List GX) (j : Nat), j ≤ rs.length → (∀ k (h : k < rs.length), k < j → rs[k].v.pt < p) → (∀ h : j < rs.length, ¬ rs[j].v.pt < p) → plcX p rs = j
  | [], j, h, _, _ => by simp at h; simp [plcX, h]
  | r :: rs, 0, _, _, h => by
    have := h (by simp)
    simp only [List.getElem_cons_zero] at this
    simp [plcX, this]
  | r :: rs, j + 1, hj, h1, h2 => by
    have h0 := h1 0 (by simp) (by omega)
    simp only [List.getElem_cons_zero] at h0
    have ih := plcX_eq (p := p) rs j (by simpa using hj) (fun k hk hkj => by have := h1 (k + 1) (by simpa using hk) (by omega); simpa using this) (fun hj' => by have := h2 (by simpa using hj'); simpa using this)
    simp [plcX, h0, ih]

set_option maxRecDepth 100000 in
set_option maxHeartbeats 1000000 in
theorem gplace_any (B kb o : Nat) (t : TypeId) (cs : Array Value) (a : Option Addr) (c : Nat) (rs : List GX) (p : Nat) (w : World) (hlen : rs.length ≤ 1000) (hG : GAt B kb o t cs a c rs w) :
    Calls Tryz.prog 122 #[.pointer (some ⟨kb, o, none⟩), .int .i32 (p : Int)] w fun en w' => en = .returned (.int .i64 (plcX p rs : Int)) ∧ w' = w := by
  have HO := show Hid (GAt B kb o t cs a c rs w) from hG
  have hb0 := hG.cell
  clear hG
  go_enter Tryz.func122, Tryz.ntmps122
  go_wp2
  go_loopw [5] (fun i wr => ∃ j : Nat, j ≤ rs.length ∧ i = .int .i64 (j : Int) ∧ (∀ k (h : k < rs.length), k < j → rs[k].v.pt < p) ∧ wr = w) (fun i _ => rs.length - (intOf i).toNat)
  case atStart => exact ⟨0, Nat.zero_le _, rfl, fun _ _ h => absurd h (Nat.not_lt_zero _), rfl⟩
  case round =>
    obtain ⟨j, hj, rfl, hno, rfl⟩ := hrel
    by_cases hjl : j < rs.length
    · rcases own_addr HO.out.own with ⟨_, h0⟩ | ⟨g, rfl⟩
      · omega
      have c0 := (g_row HO.out j hjl).1
      clear HO
      have hji : (j : Int) < (rs.length : Int) := by omega
      have hj0 : (0 : Int) ≤ (j : Int) := by omega
      by_cases hp : (rs[j]'hjl).v.pt < p
      · have hpi : (((rs[j]'hjl).v.pt : Int) < (p : Int)) := by omega
        have hno' : ∀ k (h : k < rs.length), k < j + 1 → rs[k].v.pt < p := by
          intro k h hk
          by_cases e : k = j
          · subst e; exact hp
          · exact hno k h (by omega)
        clear hp hno
        generalize (rs[j]'hjl).v.pt = q at c0 hpi
        go_wp2
        go_roundw
        case rel => exact ⟨j + 1, by omega, by go_num, hno', by first | trivial | rfl⟩
        case measure => simp [intOf]; omega
      · have hpi : ¬ (((rs[j]'hjl).v.pt : Int) < (p : Int)) := by omega
        have Hf := show Hid _ from plcX_eq (p := p) rs j hj hno (fun _ => hp)
        clear hno hp
        generalize (rs[j]'hjl).v.pt = q at c0 hpi
        go_wp2
        go_ret
        exact ⟨by rw [Hf.out]; rfl, rfl⟩
    · have hf := plcX_eq (p := p) rs j hj hno (fun h => absurd h hjl)
      go_wp2
      go_ret
      exact ⟨by rw [hf]; rfl, rfl⟩
end Go.Proofs.YthccpacmklhejaaGreatDoor
