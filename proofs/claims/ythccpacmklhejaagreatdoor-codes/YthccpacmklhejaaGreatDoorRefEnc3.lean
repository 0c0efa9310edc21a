/-
  canalref.Encode, canalref.number, canalref.begins, canalref.Decode.
-/
import Derived.Test.YthccpacmklhejaaGreatDoorRefEnc2
import Derived.Deep.QuietTactic
import Derived.BigQuiet
namespace Go.Proofs.YthccpacmklhejaaGreatDoor
open Go.RowKit

set_option maxRecDepth 100000 in
set_option maxHeartbeats 1000000 in
theorem rencode_any (e : Ev) (w : World) (hok : e.ok) (hks : e.key.size ≤ 9223372036854775800) :
    Calls Tryz.prog 17 #[e.value] w fun en w' => en = .returned (.tuple #[.string (encStr e), .int .i64 (refuse e : Int)]) ∧ Below w.heap.size w w' := by
  obtain ⟨op, key, seq, val⟩ := e
  obtain ⟨o1, o2, o3, o4⟩ := hok
  simp only at o1 o2 o3 o4 hks
  unfold Ev.value
  have hK := show Hid _ from fun w => isKey_any key w hks
  obtain ⟨v, hv⟩ : ∃ v, validB key = v := ⟨_, rfl⟩
  rw [hv] at hK
  by_cases h12 : op ≠ 1 ∧ op ≠ 2
  · have e : refuse ⟨op, key, seq, val⟩ = 5 := by simp [refuse, h12]
    have hE : encStr ⟨op, key, seq, val⟩ = ⟨#[]⟩ := if_neg (by rw [e]; decide)
    rw [e, hE]; clear e hE hv
    rcases (show op < 1 ∨ 2 < op by omega) with hlt | hgt
    · have d1 : decide ((op : Int) < 1) = true := decide_eq_true (by omega)
      clear h12
      go_enter Tryz.func17, Tryz.ntmps17
      go_wp2_with (go_at_call 36; refine (hK.out _).mono ?_; rintro e w' ⟨rfl, rfl⟩)
      go_ret2
      exact ⟨rfl, (Below.refl _ w).alloc (Nat.le_refl _) _⟩
    · have d1 : decide ((op : Int) < 1) = false := decide_eq_false (by omega)
      have d2 : decide ((2 : Int) < (op : Int)) = true := decide_eq_true (by omega)
      clear h12
      go_enter Tryz.func17, Tryz.ntmps17
      go_wp2_with (go_at_call 36; refine (hK.out _).mono ?_; rintro e w' ⟨rfl, rfl⟩)
      go_ret2
      exact ⟨rfl, (Below.refl _ w).alloc (Nat.le_refl _) _⟩
  cases v with
  | false =>
    have e : refuse ⟨op, key, seq, val⟩ = 4 := by simp only [refuse, if_neg h12, hv, if_true]
    have hE : encStr ⟨op, key, seq, val⟩ = ⟨#[]⟩ := if_neg (by rw [e]; decide)
    rw [e, hE]; clear e hE hv
    rcases (show op = 1 ∨ op = 2 by omega) with rfl | rfl
    · go_enter Tryz.func17, Tryz.ntmps17
      go_wp2_with (go_at_call 36; refine (hK.out _).mono ?_; rintro e w' ⟨rfl, rfl⟩)
      go_ret2
      exact ⟨rfl, (Below.refl _ w).alloc (Nat.le_refl _) _⟩
    · go_enter Tryz.func17, Tryz.ntmps17
      go_wp2_with (go_at_call 36; refine (hK.out _).mono ?_; rintro e w' ⟨rfl, rfl⟩)
      go_ret2
      exact ⟨rfl, (Below.refl _ w).alloc (Nat.le_refl _) _⟩
  | true =>
    rcases (show op = 1 ∨ op = 2 by omega) with rfl | rfl
    · have e : refuse ⟨1, key, seq, val⟩ = 0 := by simp [refuse, hv]
      have hE : encStr ⟨1, key, seq, val⟩ = ⟨(recB ⟨1, key, seq, val⟩).toArray⟩ := if_pos e
      have hk8 := (key_le e).2.1
      have hW := show Hid _ from fun w => written_put key seq val w hk8 o2 o3 o4
      rw [e, hE]; clear e hE hv
      go_enter Tryz.func17, Tryz.ntmps17
      go_wp2_with (first | (go_at_call 36; refine (hK.out _).mono ?_; rintro e w' ⟨rfl, rfl⟩) | (go_at_call 37; refine (hW.out _).mono ?_; rintro e w1 ⟨rfl, hb⟩))
      go_ret2
      exact ⟨rfl, below_box hb⟩
    · by_cases hz : val = 0
      · subst hz
        have e : refuse ⟨2, key, seq, 0⟩ = 0 := by simp [refuse, hv]
        have hE : encStr ⟨2, key, seq, 0⟩ = ⟨(recB ⟨2, key, seq, 0⟩).toArray⟩ := if_pos e
        have hk8 := (key_le e).2.1
        have hW := show Hid _ from fun w => written_drop key seq w hk8 o2
        rw [e, hE]; clear e hE hv
        go_enter Tryz.func17, Tryz.ntmps17
        go_wp2_with (first | (go_at_call 36; refine (hK.out _).mono ?_; rintro e w' ⟨rfl, rfl⟩) | (go_at_call 37; refine (hW.out _).mono ?_; rintro e w1 ⟨rfl, hb⟩))
        go_ret2
        exact ⟨rfl, below_box hb⟩
      · have e : refuse ⟨2, key, seq, val⟩ = 3 := by simp [refuse, hv, hz]
        have hE : encStr ⟨2, key, seq, val⟩ = ⟨#[]⟩ := if_neg (by rw [e]; decide)
        have hne : (val != 0) = true := by simpa using hz
        rw [e, hE]; clear e hE hv
        go_enter Tryz.func17, Tryz.ntmps17
        go_wp2_with (go_at_call 36; refine (hK.out _).mono ?_; rintro e w' ⟨rfl, rfl⟩)
        go_ret2
        exact ⟨rfl, (Below.refl _ w).alloc (Nat.le_refl _) _⟩

set_option maxHeartbeats 400000 in
theorem number_any (s : ByteArray) (w : World) (h : 2 ≤ s.size) :
    Calls Tryz.prog 87 #[.string s] w fun e w' => e = .returned (.int .i64 ((gb s 0 * 256 + gb s 1 : Nat) : Int)) ∧ ∃ n, w' = w.drewN n := by
  have g0 := gb_at s 0 (by omega)
  have g1 := gb_at s 1 (by omega)
  have l0 := gb_lt s 0
  have l1 := gb_lt s 1
  generalize gb s 0 = x at g0 l0
  generalize gb s 1 = y at g1 l1
  have i0 : (0 : Int) < (s.size : Int) := by omega
  have i1 : (1 : Int) < (s.size : Int) := by omega
  go_enter Tryz.func87, Tryz.ntmps87
  go_wp2
  go_quiet (fail)
  go_wp2
  go_ret
  exact ⟨rfl, _, rfl⟩
end Go.Proofs.YthccpacmklhejaaGreatDoor
