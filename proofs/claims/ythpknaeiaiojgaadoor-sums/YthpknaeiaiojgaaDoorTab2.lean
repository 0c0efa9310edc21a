/-
  groups.Table: insert.
-/
import Derived.Test.YthpknaeiaiojgaaDoorTab
namespace Go.Proofs.YthpknaeiaiojgaaDoor
open Go.RowKit

/-- One entry, laid over: what the walk's four stores ask and leave. -/
theorem GAt.fill {B kb g c : Nat} {rs : List GV} {w : World} (h : GAt B kb (some ⟨g, 0, none⟩) c rs w) (n : Nat) (hn : n < rs.length) (x : GV) :
    (w.cell? ⟨g, n * 4, none⟩ = some (.int .i32 (rs[n].pt : Int)) ∧ (w.setCell ⟨g, n * 4, none⟩ (.int .i32 (x.pt : Int))).cell? ⟨g, n * 4 + 1, none⟩ = some (.int .i64 rs[n].live) ∧
      ((w.setCell ⟨g, n * 4, none⟩ (.int .i32 (x.pt : Int))).setCell ⟨g, n * 4 + 1, none⟩ (.int .i64 x.live)).cell? ⟨g, n * 4 + 2, none⟩ = some (.int .i16 rs[n].sum) ∧
      (((w.setCell ⟨g, n * 4, none⟩ (.int .i32 (x.pt : Int))).setCell ⟨g, n * 4 + 1, none⟩ (.int .i64 x.live)).setCell ⟨g, n * 4 + 2, none⟩ (.int .i16 x.sum)).cell? ⟨g, n * 4 + 3, none⟩ = some (.int .u8 rs[n].ev)) ∧
    (w.frozen? ⟨g, n * 4, none⟩ = false ∧ (w.setCell ⟨g, n * 4, none⟩ (.int .i32 (x.pt : Int))).frozen? ⟨g, n * 4 + 1, none⟩ = false ∧
      ((w.setCell ⟨g, n * 4, none⟩ (.int .i32 (x.pt : Int))).setCell ⟨g, n * 4 + 1, none⟩ (.int .i64 x.live)).frozen? ⟨g, n * 4 + 2, none⟩ = false ∧
      (((w.setCell ⟨g, n * 4, none⟩ (.int .i32 (x.pt : Int))).setCell ⟨g, n * 4 + 1, none⟩ (.int .i64 x.live)).setCell ⟨g, n * 4 + 2, none⟩ (.int .i16 x.sum)).frozen? ⟨g, n * 4 + 3, none⟩ = false) ∧
    GAt B kb (some ⟨g, 0, none⟩) c (rs.set n x) ((((w.setCell ⟨g, n * 4, none⟩ (.int .i32 (x.pt : Int))).setCell ⟨g, n * 4 + 1, none⟩ (.int .i64 x.live)).setCell ⟨g, n * 4 + 2, none⟩ (.int .i16 x.sum)).setCell ⟨g, n * 4 + 3, none⟩ (.int .u8 x.ev)) ∧
    w.grownBy ((((w.setCell ⟨g, n * 4, none⟩ (.int .i32 (x.pt : Int))).setCell ⟨g, n * 4 + 1, none⟩ (.int .i64 x.live)).setCell ⟨g, n * 4 + 2, none⟩ (.int .i16 x.sum)).setCell ⟨g, n * 4 + 3, none⟩ (.int .u8 x.ev)) (some g) := by
  obtain ⟨hb, ho⟩ := h
  have hat : ∀ j, j < 4 → (gCells rs)[n * 4 + j]? = (gCells1 rs[n])[j]? := fun j hj => gCells_at rs n hn j hj
  have r1 := ho.stored (n * 4) (.int .i32 (x.pt : Int))
  have r2 := r1.1.stored (n * 4 + 1) (.int .i64 x.live)
  have r3 := r2.1.stored (n * 4 + 2) (.int .i16 x.sum)
  have r4 := r3.1.stored (n * 4 + 3) (.int .u8 x.ev)
  have q0 := (ho.cellAt (n * 4) (by omega)).trans (hat 0 (by decide))
  have q1 := (r1.1.cellAt (n * 4 + 1) (by omega)).trans ((List.getElem?_set_ne (by omega)).trans (hat 1 (by decide)))
  have q2 := (r2.1.cellAt (n * 4 + 2) (by omega)).trans ((List.getElem?_set_ne (by omega)).trans ((List.getElem?_set_ne (by omega)).trans (hat 2 (by decide))))
  have q3 := (r3.1.cellAt (n * 4 + 3) (by omega)).trans ((List.getElem?_set_ne (by omega)).trans ((List.getElem?_set_ne (by omega)).trans ((List.getElem?_set_ne (by omega)).trans (hat 3 (by decide)))))
  have hgrow := grown_trans (grown_trans (grown_trans r1.2 r2.2) r3.2) r4.2
  refine ⟨⟨q0, q1, q2, q3⟩, ⟨ho.frozenAt _, r1.1.frozenAt _, r2.1.frozenAt _, r3.1.frozenAt _⟩, ⟨?_, ?_⟩, hgrow⟩
  · rw [List.length_set, hgrow.block kb (heap_lt hb) (by
      intro e
      obtain ⟨cur, hcur⟩ := own_obj ho
      simp only [Option.some.injEq] at e
      subst e
      rw [hb] at hcur
      simp at hcur)]
    exact hb
  · have := r4.1
    rw [gFill rs n hn x] at this
    rw [List.length_set]
    exact this

theorem GAt.appended {B kb : Nat} {a a3 : Option Addr} {c c3 : Nat} {rs : List GV} {x : GV} {wa w5 : World} (hB : B ≤ kb) (h : GAt B kb a c rs wa) (hown : w5.ownsRow B 155 4 (.slice a3 (rs.length + 1) c3) (rs.length + 1) (gCells rs ++ gCells1 x)) (hg : wa.grownBy w5 (Value.slice a rs.length c).ownBlock) :
    w5.heap[kb]? = some (.cells #[.slice a rs.length c] 121 (0, 0)) ∧ GAt B kb a3 c3 (rs ++ [x]) (w5.setCell ⟨kb, 0, none⟩ (.slice a3 (rs.length + 1) c3)) ∧ Frm B 121 155 wa (w5.setCell ⟨kb, 0, none⟩ (.slice a3 (rs.length + 1) c3)) := by
  have hbk : w5.heap[kb]? = some (.cells #[.slice a rs.length c] 121 (0, 0)) := by
    rw [hg.block kb (heap_lt h.1) (by
      intro e
      obtain ⟨cur, hcur, _⟩ := own_heap h.2 e.symm
      rw [h.1] at hcur
      simp at hcur)]
    exact h.1
  have hrow : ∀ g, (Value.slice a rs.length c).ownBlock = some g → B ≤ g ∧ ∃ cs t fz, wa.heap[g]? = some (.cells cs t fz) ∧ (t = 121 ∨ t = 155) := fun g hg' => by
    obtain ⟨cur, hcur, _⟩ := own_heap h.2 hg'
    exact ⟨(own_ge h.2 g hg').1, cur, _, _, hcur, .inr rfl⟩
  have hBw : B ≤ wa.heap.size := Nat.le_trans hB (Nat.le_of_lt (heap_lt h.1))
  refine ⟨hbk, ⟨?_, ?_⟩, ((Frm.refl B 121 155 wa).grown hBw hg hrow).set hB hbk (.inl rfl) _⟩
  · have := row_set (j := 0) hbk (.slice a3 (rs.length + 1) c3)
    rw [List.length_append]
    exact this
  · rw [List.length_append, gCells_append]
    have e1 : gCells [x] = gCells1 x := by simp [gCells]
    rw [e1]
    refine own_kept hown (grown_set w5 kb 0 _) fun g hg' e => ?_
    obtain ⟨cur, hcur, _⟩ := own_heap hown hg'
    simp only [Option.some.injEq] at e
    subst e
    rw [hbk] at hcur
    simp at hcur

theorem Tryd.infoGrp : (Tryd.prog.info? 155).map (fun i => (i.zero, i.size, i.bytes)) = some (some (.agg #[.int .i32 0, .int .i64 0, .int .i16 0, .int .u8 0]), 4, 24) := by kernel_rfl

theorem g_oneCell (r : GV) : ∀ u ∈ gCells1 r, u.oneCell' = true := by
  intro u hu
  simp [gCells1] at hu
  rcases hu with rfl | rfl | rfl | rfl <;> rfl

/-- The list, its last places moved up to one. -/
def shiftL (rs : List GV) (x : GV) (i : Nat) : List GV := (rs ++ [x]).take (i + 1) ++ rs.drop i

theorem shiftL_length (rs : List GV) (x : GV) (i : Nat) (h : i ≤ rs.length) : (shiftL rs x i).length = rs.length + 1 := by
  unfold shiftL
  simp
  omega

theorem shiftL_end (rs : List GV) (x : GV) : shiftL rs x rs.length = rs ++ [x] := by
  unfold shiftL
  rw [List.drop_length, List.append_nil, List.take_of_length_le (by simp)]

theorem shiftL_at (rs : List GV) (x : GV) (i k : Nat) : (shiftL rs x i)[k]? = if k ≤ i then (rs ++ [x])[k]? else (if i ≤ rs.length then rs[k - 1]? else (shiftL rs x i)[k]?) := by
  by_cases hk : k ≤ i
  · rw [if_pos hk]
    unfold shiftL
    by_cases hl : k < (rs ++ [x]).length
    · rw [List.getElem?_append_left (by rw [List.length_take]; omega), List.getElem?_take, if_pos (by omega)]
    · rw [List.getElem?_eq_none (by rw [List.length_append, List.length_take, List.length_drop]; simp at hl ⊢; omega), List.getElem?_eq_none (by omega)]
  · rw [if_neg hk]
    split
    · rename_i hi
      unfold shiftL
      have hl : ((rs ++ [x]).take (i + 1)).length = i + 1 := by simp; omega
      rw [List.getElem?_append_right (by omega), hl, List.getElem?_drop]
      congr 1
      omega
    · rfl

theorem shiftL_step (rs : List GV) (x : GV) (k : Nat) (h : k + 1 ≤ rs.length) (hk : k < (shiftL rs x (k + 1)).length) : (shiftL rs x (k + 1)).set (k + 1) ((shiftL rs x (k + 1))[k]) = shiftL rs x k := by
  have hrk : (shiftL rs x (k + 1))[k]? = rs[k]? := by
    rw [shiftL_at, if_pos (by omega), List.getElem?_append_left (by omega)]
  rw [List.getElem?_eq_getElem hk] at hrk
  apply List.ext_getElem?
  intro j
  rw [List.getElem?_set, shiftL_length _ _ _ h]
  split
  · rename_i e
    subst e
    rw [if_pos (by omega), hrk, shiftL_at, if_neg (by omega), if_pos (by omega)]
    rfl
  · rename_i e
    rw [shiftL_at rs x (k + 1) j, shiftL_at rs x k j]
    by_cases c : j ≤ k
    · rw [if_pos (by omega), if_pos c]
    · rw [if_neg (by omega), if_neg c, if_pos (by omega), if_pos (by omega)]

theorem shiftL_same (rs : List GV) (x : GV) (k : Nat) (h : k + 1 ≤ rs.length) : (shiftL rs x k)[k]'(by rw [shiftL_length _ _ _ (by omega)]; omega) = (shiftL rs x (k + 1))[k]'(by rw [shiftL_length _ _ _ h]; omega) := by
  have h1 : (shiftL rs x k)[k]? = (shiftL rs x (k + 1))[k]? := by rw [shiftL_at rs x k k, shiftL_at rs x (k + 1) k, if_pos (by omega), if_pos (by omega)]
  rw [List.getElem?_eq_getElem (by rw [shiftL_length _ _ _ (by omega)]; omega), List.getElem?_eq_getElem (by rw [shiftL_length _ _ _ h]; omega)] at h1
  exact Option.some.inj h1

theorem shiftL_put (rs : List GV) (x : GV) (n : Nat) (h : n ≤ rs.length) : (shiftL rs x n).set n x = rs.take n ++ x :: rs.drop n := by
  apply List.ext_getElem?
  intro j
  rw [List.getElem?_set, shiftL_length _ _ _ h]
  have hl : (rs.take n).length = n := by simp; omega
  split
  · rename_i e
    subst e
    rw [if_pos (by omega), List.getElem?_append_right (by omega), hl]
    simp
  · rename_i e
    rw [shiftL_at]
    by_cases c : j ≤ n
    · rw [if_pos c, List.getElem?_append_left (by omega), List.getElem?_append_left (by omega), List.getElem?_take, if_pos (by omega)]
    · rw [if_neg c, if_pos h, List.getElem?_append_right (by omega), hl]
      obtain ⟨d, hd⟩ : ∃ d, j - n = d + 1 := ⟨j - n - 1, by omega⟩
      rw [hd, List.getElem?_cons_succ, List.getElem?_drop]
      congr 1
      omega

end Go.Proofs.YthpknaeiaiojgaaDoor
