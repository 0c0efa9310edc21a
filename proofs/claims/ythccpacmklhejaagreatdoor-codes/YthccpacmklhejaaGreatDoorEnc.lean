/-
  record.refusal.
-/
import Derived.Test.YthccpacmklhejaaGreatDoorLeaf
import Derived.Lib.AppendStr
namespace Go.Proofs.YthccpacmklhejaaGreatDoor
open Go.RowKit

def Ev.value (e : Ev) : Value := .agg #[.int .u8 (e.op : Int), .string e.key, .int .u16 (e.seq : Int), .int .i16 e.val]

theorem bcell {W w1 : World} (hb : Below W.heap.size W w1) : (∀ b o, b < W.heap.size → w1.cell? ⟨b, o, none⟩ = W.cell? ⟨b, o, none⟩) ∧ (∀ b o, b < W.heap.size → w1.frozen? ⟨b, o, none⟩ = W.frozen? ⟨b, o, none⟩) :=
  ⟨fun b o h => hb.cell (p := ⟨b, o, none⟩) h, fun b o h => hb.frozen (p := ⟨b, o, none⟩) h⟩

theorem below_box {w w' : World} {o : Obj} (hb : Below (w.alloc o).heap.size (w.alloc o) w') : Below w.heap.size w w' :=
  ((Below.refl _ w).alloc (Nat.le_refl _) o).trans (hb.mono (by simp))

set_option maxHeartbeats 1000000 in
theorem refusal_any (op : Nat) (key : ByteArray) (seq : Nat) (val : Int) (w : World) :
    Calls Tryz.prog 60 #[.agg #[.int .u8 (op : Int), .string key, .int .u16 (seq : Int), .int .i16 val]] w
      fun e w' => e = .returned (.int .i64 (refuse ⟨op, key, seq, val⟩ : Int)) ∧ Below w.heap.size w w' := by
  by_cases h12 : op ≠ 1 ∧ op ≠ 2
  · have e : refuse ⟨op, key, seq, val⟩ = 5 := by simp [refuse, h12]
    rw [e]; clear e
    have h1 : ((op : Int) != 1) = true := by rw [bne_iff_ne]; omega
    have h2 : ((op : Int) != 2) = true := by rw [bne_iff_ne]; omega
    go_enter Tryz.func60, Tryz.ntmps60
    go_wp2
    go_ret
    exact ⟨rfl, (Below.refl _ w).alloc (Nat.le_refl _) _⟩
  cases hv : validB key with
  | false =>
    have e : refuse ⟨op, key, seq, val⟩ = 4 := by simp only [refuse, if_neg h12, hv, if_true]
    rw [e]; clear e
    have Hv := show Hid (validB key = false) from hv
    clear hv
    by_cases h1 : op = 1
    · subst h1
      go_enter Tryz.func60, Tryz.ntmps60
      go_wp2_with (go_at_call 88; refine (valid_any key _).mono ?_; rintro e w' ⟨rfl, hb⟩; rw [Hv.out])
      go_ret
      exact ⟨rfl, below_box hb⟩
    · have h2 : op = 2 := by omega
      subst h2
      go_enter Tryz.func60, Tryz.ntmps60
      go_wp2_with (go_at_call 88; refine (valid_any key _).mono ?_; rintro e w' ⟨rfl, hb⟩; rw [Hv.out])
      go_ret
      exact ⟨rfl, below_box hb⟩
  | true =>
    have Hv := show Hid (validB key = true) from hv
    by_cases h1 : op = 1
    · have e : refuse ⟨op, key, seq, val⟩ = 0 := by simp [refuse, hv, h1]
      rw [e]; clear e hv
      subst h1
      go_enter Tryz.func60, Tryz.ntmps60
      go_wp2_with (go_at_call 88; refine (valid_any key _).mono ?_; rintro e w' ⟨rfl, hb⟩; rw [Hv.out]; obtain ⟨hc, hf⟩ := bcell hb; have hz : w.heap.size + 1 ≤ w'.heap.size := by have := hb.size; simp at this; omega)
      go_ret
      exact ⟨rfl, below_box hb⟩
    · have h2 : op = 2 := by omega
      by_cases hz : val = 0
      · have e : refuse ⟨op, key, seq, val⟩ = 0 := by simp [refuse, hv, h2, hz]
        rw [e]; clear e hv
        subst h2 hz
        go_enter Tryz.func60, Tryz.ntmps60
        go_wp2_with (go_at_call 88; refine (valid_any key _).mono ?_; rintro e w' ⟨rfl, hb⟩; rw [Hv.out]; obtain ⟨hc, hf⟩ := bcell hb; have hz : w.heap.size + 1 ≤ w'.heap.size := by have := hb.size; simp at this; omega)
        go_ret
        exact ⟨rfl, below_box hb⟩
      · have e : refuse ⟨op, key, seq, val⟩ = 3 := by simp [refuse, hv, h2, hz]
        have hne : (val != 0) = true := by simpa using hz
        rw [e]; clear e hv
        subst h2
        go_enter Tryz.func60, Tryz.ntmps60
        go_wp2_with (go_at_call 88; refine (valid_any key _).mono ?_; rintro e w' ⟨rfl, hb⟩; rw [Hv.out]; obtain ⟨hc, hf⟩ := bcell hb; have hz : w.heap.size + 1 ≤ w'.heap.size := by have := hb.size; simp at this; omega)
        go_ret
        exact ⟨rfl, below_box hb⟩
end Go.Proofs.YthccpacmklhejaaGreatDoor
