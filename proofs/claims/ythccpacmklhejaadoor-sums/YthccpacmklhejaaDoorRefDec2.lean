/-
  canalref.begins, whole; canalref.Decode.
-/
import Derived.Test.YthccpacmklhejaaDoorRefDec
namespace Go.Proofs.YthccpacmklhejaaDoor
open Go.RowKit

theorem firstS_inv {s : ByteArray} {x : Ev × Nat} (h : firstS s = some x) : x = (evAt s, szAt s) ∧ 2 ≤ s.size ∧ szAt s ≤ s.size ∧ refuse (evAt s) = 0 ∧ recB (evAt s) = s.data.toList.take (szAt s) := by
  unfold firstS at h
  split at h
  · cases h
  · rename_i h1
    split at h
    · rename_i h2
      exact ⟨(Option.some.inj h).symm, by omega, by omega, h2.1, h2.2⟩
    · cases h

theorem key_size (s : ByteArray) (h : 2 + gb s 1 ≤ s.size) : (evAt s).key.size = gb s 1 := by
  show (s.extract 2 (2 + gb s 1)).size = _
  rw [ByteArray.size_extract]
  omega

theorem szAt_ge (s : ByteArray) : gb s 1 + 5 ≤ szAt s := by unfold szAt; omega

theorem none_of {s : ByteArray} (h : ∀ x, firstS s = some x → False) : firstS s = none := by
  cases hf : firstS s with
  | none => rfl
  | some x => exact absurd (h x hf) id

/-- What begins answers, by the event that stands there. -/
theorem okb_iff (s : ByteArray) (h4 : 4 + gb s 1 ≤ s.size) :
    ((decide (refuse (evAt s) = 0) && decide ((encStr (evAt s)).size ≤ s.size) && ((s.extract 0 (encStr (evAt s)).size).toList == (encStr (evAt s)).toList)) = true → firstS s = some (evAt s, (encStr (evAt s)).size)) ∧
    ((decide (refuse (evAt s) = 0) && decide ((encStr (evAt s)).size ≤ s.size) && ((s.extract 0 (encStr (evAt s)).size).toList == (encStr (evAt s)).toList)) = false → firstS s = none) := by
  have hks := key_size s (by omega)
  have hop : (evAt s).op = gb s 0 := rfl
  have hlen : (recB (evAt s)).length = szAt s := by
    rw [recB_length, hks, hop]
    unfold szAt
    split <;> omega
  refine ⟨fun h => ?_, fun h => ?_⟩
  · rw [Bool.and_eq_true, Bool.and_eq_true, decide_eq_true_eq, decide_eq_true_eq, beq_iff_eq] at h
    obtain ⟨⟨h1, h2⟩, h3⟩ := h
    have hel := encStr_list h1
    have hsz : (encStr (evAt s)).size = szAt s := by rw [← size_list, hel, hlen]
    rw [hsz] at h2 h3 ⊢
    rw [ByteArray.toList_eq, ByteArray.toList_eq, hel, extract_list] at h3
    simp at h3
    unfold firstS
    rw [if_neg (by omega), if_pos ⟨h1, h3.symm⟩]
  · refine none_of fun x hx => ?_
    obtain ⟨_, _, h3, h4, h5⟩ := firstS_inv hx
    have hel := encStr_list h4
    have hsz : (encStr (evAt s)).size = szAt s := by rw [← size_list, hel, hlen]
    rw [hsz, decide_eq_true h4, decide_eq_true h3, Bool.true_and, Bool.true_and, beq_eq_false_iff_ne, ByteArray.toList_eq, ByteArray.toList_eq, hel, extract_list] at h
    apply h
    rw [h5]
    simp

end Go.Proofs.YthccpacmklhejaaDoor
