/-
  groups.Table: what insert's walk asks.
-/
import Derived.Test.YthccpacmklhejaaGreatDoorTab
namespace Go.Proofs.YthccpacmklhejaaGreatDoor
open Go.RowKit

/-- One group, laid over: what the walk's five stores ask and leave. -/
theorem g_fill {B kb o : Nat} {t : TypeId} {cs : Array Value} {a : Option Addr} {c : Nat} {ks : List GX} {w0 : World} {g c' : Nat} {rs : List GX} {w : World} (h : GUpd B kb o t cs a c ks w0 (some ⟨g, 0, none⟩) c' rs w) (n : Nat) (hn : n < rs.length) (x : GX) (w1 w2 w3 w4 w5 : World)
    (e1 : w1 = w.setCell ⟨g, n * 5, none⟩ (.int .i32 (x.v.pt : Int))) (e2 : w2 = w1.setCell ⟨g, n * 5 + 1, none⟩ (.int .i64 x.v.live)) (e3 : w3 = w2.setCell ⟨g, n * 5 + 2, none⟩ (.int .i16 x.v.sum)) (e4 : w4 = w3.setCell ⟨g, n * 5 + 3, none⟩ (.int .u8 x.v.ev)) (e5 : w5 = w4.setCell ⟨g, n * 5 + 4, none⟩ (.bool x.ch)) :
    (w.cell? ⟨g, n * 5, none⟩ = some (.int .i32 (rs[n].v.pt : Int)) ∧ w1.cell? ⟨g, n * 5 + 1, none⟩ = some (.int .i64 rs[n].v.live) ∧ w2.cell? ⟨g, n * 5 + 2, none⟩ = some (.int .i16 rs[n].v.sum) ∧ w3.cell? ⟨g, n * 5 + 3, none⟩ = some (.int .u8 rs[n].v.ev) ∧ w4.cell? ⟨g, n * 5 + 4, none⟩ = some (.bool rs[n].ch)) ∧
    (w.frozen? ⟨g, n * 5, none⟩ = false ∧ w1.frozen? ⟨g, n * 5 + 1, none⟩ = false ∧ w2.frozen? ⟨g, n * 5 + 2, none⟩ = false ∧ w3.frozen? ⟨g, n * 5 + 3, none⟩ = false ∧ w4.frozen? ⟨g, n * 5 + 4, none⟩ = false) ∧
    GUpd B kb o t cs a c ks w0 (some ⟨g, 0, none⟩) c' (rs.set n x) w5 ∧ w.grownBy w5 (some g) := by
  subst e1 e2 e3 e4 e5
  have r1 := g_set h n hn ⟨⟨x.v.pt, rs[n].v.live, rs[n].v.sum, rs[n].v.ev⟩, rs[n].ch⟩ 0 (.int .i32 (x.v.pt : Int)) (by decide) rfl
  have r2 := g_set r1 n (by simpa using hn) ⟨⟨x.v.pt, x.v.live, rs[n].v.sum, rs[n].v.ev⟩, rs[n].ch⟩ 1 (.int .i64 x.v.live) (by decide) (by simp [gCells1])
  have r3 := g_set r2 n (by simpa using hn) ⟨⟨x.v.pt, x.v.live, x.v.sum, rs[n].v.ev⟩, rs[n].ch⟩ 2 (.int .i16 x.v.sum) (by decide) (by simp [gCells1])
  have r4 := g_set r3 n (by simpa using hn) ⟨⟨x.v.pt, x.v.live, x.v.sum, x.v.ev⟩, rs[n].ch⟩ 3 (.int .u8 x.v.ev) (by decide) (by simp [gCells1])
  have r5 := g_set r4 n (by simpa using hn) x 4 (.bool x.ch) (by decide) (by simp [gCells1])
  simp only [List.set_set] at r2 r3 r4 r5
  have q0 := (g_row h.at' n hn).1
  have q1 := (g_row r1.at' n (by simpa using hn)).2.1
  have q2 := (g_row r2.at' n (by simpa using hn)).2.2.1
  have q3 := (g_row r3.at' n (by simpa using hn)).2.2.2.1
  have q4 := (g_row r4.at' n (by simpa using hn)).2.2.2.2
  simp only [List.getElem_set_self] at q1 q2 q3 q4
  exact ⟨⟨q0, q1, q2, q3, q4⟩, ⟨h.at'.frozenAt _, r1.at'.frozenAt _, r2.at'.frozenAt _, r3.at'.frozenAt _, r4.at'.frozenAt _⟩, r5, grown_trans (grown_trans (grown_trans (grown_trans (grown_set _ g _ _) (grown_set _ g _ _)) (grown_set _ g _ _)) (grown_set _ g _ _)) (grown_set _ g _ _)⟩

theorem Tryz.infoGrp : (Tryz.prog.info? 176).map (fun i => (i.zero, i.size, i.bytes)) = some (some (.agg #[.int .i32 0, .int .i64 0, .int .i16 0, .int .u8 0, .bool false]), 5, 24) := by kernel_rfl

theorem g_oneCell (r : GX) : ∀ u ∈ gCells1 r, u.oneCell' = true := by
  intro u hu
  simp [gCells1] at hu
  rcases hu with rfl | rfl | rfl | rfl | rfl <;> rfl

/-- The list, its last places moved up to one. -/
def shiftL (rs : List GX) (x : GX) (i : Nat) : List GX := (rs ++ [x]).take (i + 1) ++ rs.drop i

theorem shiftL_length (rs : List GX) (x : GX) (i : Nat) (h : i ≤ rs.length) : (shiftL rs x i).length = rs.length + 1 := by
  unfold shiftL
  simp
  omega

theorem shiftL_end (rs : List GX) (x : GX) : shiftL rs x rs.length = rs ++ [x] := by
  unfold shiftL
  rw [List.drop_length, List.append_nil, List.take_of_length_le (by simp)]

theorem shiftL_at (rs : List GX) (x : GX) (i k : Nat) : (shiftL rs x i)[k]? = if k ≤ i then (rs ++ [x])[k]? else (if i ≤ rs.length then rs[k - 1]? else (shiftL rs x i)[k]?) := by
  by_cases hk : k ≤ i
  · rw [if_pos hk]
    unfold shiftL
    by_cases hl : k < (rs ++ [x]).length
    · rw [List.getElem?_append_left (by rw [List.length_take]; omega), List.getElem?_take, if_pos (by omega)]
    · rw [List.getElem?_eq_none (by rw [List.length_append, List.length_take, List.length_drop]; simp at hl ⊢; omega), List.getElem?_eq_none (by omega)]
  · rw [if_neg hk]
    split
    · rename_i hi
      unfold shiftL
      have hl : ((rs ++ [x]).take (i + 1)).length = i + 1 := by simp; omega
      rw [List.getElem?_append_right (by omega), hl, List.getElem?_drop]
      congr 1
      omega
    · rfl

theorem shiftL_step (rs : List GX) (x : GX) (k : Nat) (h : k + 1 ≤ rs.length) (hk : k < (shiftL rs x (k + 1)).length) : (shiftL rs x (k + 1)).set (k + 1) ((shiftL rs x (k + 1))[k]) = shiftL rs x k := by
  have hrk : (shiftL rs x (k + 1))[k]? = rs[k]? := by
    rw [shiftL_at, if_pos (by omega), List.getElem?_append_left (by omega)]
  rw [List.getElem?_eq_getElem hk] at hrk
  apply List.ext_getElem?
  intro j
  rw [List.getElem?_set, shiftL_length _ _ _ h]
  split
  · rename_i e
    subst e
    rw [if_pos (by omega), hrk, shiftL_at, if_neg (by omega), if_pos (by omega)]
    rfl
  · rename_i e
    rw [shiftL_at rs x (k + 1) j, shiftL_at rs x k j]
    by_cases c : j ≤ k
    · rw [if_pos (by omega), if_pos c]
    · rw [if_neg (by omega), if_neg c, if_pos (by omega), if_pos (by omega)]

theorem shiftL_same (rs : List GX) (x : GX) (k : Nat) (h : k + 1 ≤ rs.length) : (shiftL rs x k)[k]'(by rw [shiftL_length _ _ _ (by omega)]; omega) = (shiftL rs x (k + 1))[k]'(by rw [shiftL_length _ _ _ h]; omega) := by
  have h1 : (shiftL rs x k)[k]? = (shiftL rs x (k + 1))[k]? := by rw [shiftL_at rs x k k, shiftL_at rs x (k + 1) k, if_pos (by omega), if_pos (by omega)]
  rw [List.getElem?_eq_getElem (by rw [shiftL_length _ _ _ (by omega)]; omega), List.getElem?_eq_getElem (by rw [shiftL_length _ _ _ h]; omega)] at h1
  exact Option.some.inj h1

theorem shiftL_put (rs : List GX) (x : GX) (n : Nat) (h : n ≤ rs.length) : (shiftL rs x n).set n x = rs.take n ++ x :: rs.drop n := by
  apply List.ext_getElem?
  intro j
  rw [List.getElem?_set, shiftL_length _ _ _ h]
  have hl : (rs.take n).length = n := by simp; omega
  split
  · rename_i e
    subst e
    rw [if_pos (by omega), List.getElem?_append_right (by omega), hl]
    simp
  · rename_i e
    rw [shiftL_at]
    by_cases c : j ≤ n
    · rw [if_pos c, List.getElem?_append_left (by omega), List.getElem?_append_left (by omega), List.getElem?_take, if_pos (by omega)]
    · rw [if_neg c, if_pos h, List.getElem?_append_right (by omega), hl]
      obtain ⟨d, hd⟩ : ∃ d, j - n = d + 1 := ⟨j - n - 1, by omega⟩
      rw [hd, List.getElem?_cons_succ, List.getElem?_drop]
      congr 1
      omega

end Go.Proofs.YthccpacmklhejaaGreatDoor
