/-
  canalref.wrap, decimal, counts, known, place, groupOf.
-/
import Derived.Test.YthccpacmklhejaaDoorRefDec2
import Derived.Test.YthccpacmklhejaaDoorFoldMath
namespace Go.Proofs.YthccpacmklhejaaDoor
open Go.RowKit

theorem tmod_facts (n : Int) : ∃ t, n.tmod 65536 = t ∧ -65536 < t ∧ t < 65536 ∧ (t < 0 → t + 65536 = n % 65536) ∧ (0 ≤ t → t = n % 65536) := by
  refine ⟨_, rfl, ?_⟩
  by_cases h : 0 ≤ n
  · rw [Int.tmod_eq_emod_of_nonneg h]
    omega
  · have e : n.tmod 65536 = -((-n) % 65536) := by
      have := Int.neg_tmod (-n) 65536
      rw [Int.neg_neg] at this
      rw [this, Int.tmod_eq_emod_of_nonneg (by omega)]
    rw [e]
    omega

theorem digit_at : ∀ n : Fin 10, ((⟨#[48, 49, 50, 51, 52, 53, 54, 55, 56, 57]⟩ : ByteArray).extract n.val (n.val + 1)) = ⟨#[dig n.val]⟩ := by decide +kernel

theorem str_push (ds : List UInt8) (d : UInt8) : (⟨ds.toArray⟩ : ByteArray) ++ ⟨#[d]⟩ = ⟨(ds ++ [d]).toArray⟩ := by
  apply ByteArray.ext
  simp

theorem str_minus (ds : List UInt8) : (⟨#[45]⟩ : ByteArray) ++ ⟨ds.toArray⟩ = ⟨(45 :: ds).toArray⟩ := by
  apply ByteArray.ext
  simp

def Kn.value' (k : Kn) : Value := .agg #[.bool k.had, .int .i64 (k.last : Int), .bool k.there, .int .i64 k.value, .int .i64 (k.count : Int)]

/-- A row's cells, from its block. -/
theorem row_cell {W : World} {b : Nat} {cs : Array Value} {t : TypeId} (h : W.heap[b]? = some (.cells cs t (0, 0))) (j : Nat) : W.cell? ⟨b, j, none⟩ = cs[j]? := cell_of_row W b j cs t (0, 0) h
theorem row_frozen {W : World} {b : Nat} {cs : Array Value} {t : TypeId} (h : W.heap[b]? = some (.cells cs t (0, 0))) (j : Nat) : W.frozen? ⟨b, j, none⟩ = false := by simp [World.frozen?, h]

theorem step_last : ∀ (es : List Ev) (k : Kn), k.last < 65536 → (∀ e ∈ es, e.seq < 65536) → (es.foldl Kn.step k).last < 65536 ∧ (es.foldl Kn.step k).count ≤ k.count + es.length
  | [], k, hk, _ => by simp [hk]
  | e :: es, k, hk, h => by
    have hs : (k.step e).last < 65536 ∧ (k.step e).count ≤ k.count + 1 := by
      unfold Kn.step
      split
      · exact ⟨h e (by simp), Nat.le_refl _⟩
      · exact ⟨hk, by omega⟩
    have := step_last es (k.step e) hs.1 (fun x hx => h x (by simp [hx]))
    simp only [List.foldl_cons, List.length_cons]
    omega

theorem knOf_last {key : ByteArray} {es : List Ev} (h : ∀ e ∈ es, e.seq < 65536) : (knOf key es).last < 65536 ∧ (knOf key es).count ≤ es.length := by
  have := step_last (es.filter (fun e => decide (e.key = key))) Kn.none (by decide) (fun e he => h e (List.mem_filter.1 he |>.1))
  refine ⟨this.1, Nat.le_trans this.2 ?_⟩
  have := List.length_filter_le (fun e => decide (e.key = key)) es
  simp [Kn.none]
  exact this

theorem str_ne {a b : ByteArray} (h : ¬ a = b) : (!a.toList == b.toList) = true := by
  have : ¬ a.toList = b.toList := fun e => h (by
    apply ByteArray.ext
    apply Array.ext'
    simpa [ByteArray.toList_eq] using e)
  simp [this]

theorem int_one (n : Nat) : ((n : Int) == 1) = decide (n = 1) := by
  by_cases h : n = 1
  · subst h; rfl
  · have : ¬ (n : Int) = 1 := by omega
    simp [h, this]

theorem row_set {W : World} {b j : Nat} {cs : Array Value} {t : TypeId} (h : W.heap[b]? = some (.cells cs t (0, 0))) (u : Value) : (W.setCell ⟨b, j, none⟩ u).heap[b]? = some (.cells (cs.setIfInBounds j u) t (0, 0)) := by
  simp only [World.setCell, Array.getElem?_modify, if_true, h]
  simp

end Go.Proofs.YthccpacmklhejaaDoor
