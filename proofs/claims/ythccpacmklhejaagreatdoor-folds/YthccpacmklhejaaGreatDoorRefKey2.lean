/-
  canalref.point by the rune that stands there; canalref.isKey.
-/
import Derived.Test.YthccpacmklhejaaGreatDoorRefKey
namespace Go.Proofs.YthccpacmklhejaaGreatDoor
open Go.RowKit

theorem tl_cases (s : ByteArray) (i : Nat) : (i < s.size ∧ gb s i / 64 = 2 ∧ tl s i = (gb s i : Int) - 128 ∧ 128 ≤ gb s i ∧ gb s i ≤ 191) ∨ (¬ (i < s.size ∧ gb s i / 64 = 2) ∧ tl s i = -1) := by
  have hb := gb_lt s i
  unfold tl
  by_cases h : i < s.size ∧ 128 ≤ gb s i ∧ gb s i ≤ 191
  · left; rw [if_pos h]; exact ⟨h.1, by omega, rfl, h.2.1, h.2.2⟩
  · right; rw [if_neg h]; exact ⟨by omega, rfl⟩

theorem tl_bounds (s : ByteArray) (i : Nat) : -1 ≤ tl s i ∧ tl s i ≤ 63 := by
  rcases tl_cases s i with ⟨_, _, h, _, _⟩ | ⟨_, h⟩ <;> omega

/-- The rune and its width at i; (0, 0): none. -/
def ptS (s : ByteArray) (i : Nat) : Nat × Nat := if Utf8.decode s i = (65533, 1) then (0, 0) else Utf8.decode s i

set_option maxHeartbeats 1000000 in
theorem ptF_decode (s : ByteArray) (i : Nat) : ptF (gb s i) (tl s (i + 1)) (tl s (i + 2)) (tl s (i + 3)) = (((ptS s i).1 : Int), ((ptS s i).2 : Int)) := by
  have b0 := gb_lt s i
  unfold ptS
  rw [Lib.decode_at]
  simp only [get!_gb]
  have h1 := tl_cases s (i + 1)
  have h2 := tl_cases s (i + 2)
  have h3 := tl_cases s (i + 3)
  generalize tl s (i + 1) = a at h1
  generalize tl s (i + 2) = b at h2
  generalize tl s (i + 3) = d at h3
  generalize gb s i = c at b0
  generalize gb s (i + 1) = x1 at h1
  generalize gb s (i + 2) = x2 at h2
  generalize gb s (i + 3) = x3 at h3
  have q1 : (1 < s.size - i) = (i + 1 < s.size) := propext ⟨fun h => by omega, fun h => by omega⟩
  have q2 : (2 < s.size - i) = (i + 2 < s.size) := propext ⟨fun h => by omega, fun h => by omega⟩
  have q3 : (3 < s.size - i) = (i + 3 < s.size) := propext ⟨fun h => by omega, fun h => by omega⟩
  unfold Lib.decodeN
  simp only [q1, q2, q3]
  clear q1 q2 q3
  unfold ptF
  by_cases c1 : c < 128
  · rw [if_pos (by omega), if_pos c1, if_neg (by simp; omega)]
    rfl
  rw [if_neg (by omega), if_neg c1]
  by_cases c2 : c / 32 = 6 ∧ (i + 1 < s.size ∧ x1 / 64 = 2)
  · rcases h1 with ⟨_, _, ea, _, _⟩ | ⟨hn, _⟩
    · rw [if_pos c2]
      by_cases c3 : c % 32 * 64 + x1 % 64 ≥ 128
      · rw [if_pos (by omega), if_pos c3, if_neg (by simp)]
        simp only [Prod.mk.injEq]
        omega
      · rw [if_neg (by omega), if_neg (by omega), if_neg (by omega), if_neg c3, if_pos rfl]
        rfl
    · exact absurd c2.2 hn
  rw [if_neg c2]
  by_cases c4 : c / 16 = 14 ∧ (i + 1 < s.size ∧ x1 / 64 = 2) ∧ (i + 2 < s.size ∧ x2 / 64 = 2)
  · rcases h1 with ⟨_, _, ea, _, _⟩ | ⟨hn, _⟩
    · rcases h2 with ⟨_, _, eb, _, _⟩ | ⟨hn, _⟩
      · rw [if_pos c4, if_neg (by omega), if_pos (by omega)]
        by_cases c5 : c % 16 * 4096 + x1 % 64 * 64 + x2 % 64 ≥ 2048 ∧ (c % 16 * 4096 + x1 % 64 * 64 + x2 % 64 < 55296 ∨ (57344 ≤ c % 16 * 4096 + x1 % 64 * 64 + x2 % 64 ∧ c % 16 * 4096 + x1 % 64 * 64 + x2 % 64 ≤ 1114111))
        · rw [if_pos c5, if_pos (by omega), if_neg (by simp)]
          simp only [Prod.mk.injEq]
          omega
        · rw [if_neg c5, if_neg (by omega), if_pos rfl]
          rfl
      · exact absurd c4.2.2 hn
    · exact absurd c4.2.1 hn
  rw [if_neg c4]
  by_cases c6 : c / 8 = 30 ∧ (i + 1 < s.size ∧ x1 / 64 = 2) ∧ (i + 2 < s.size ∧ x2 / 64 = 2) ∧ (i + 3 < s.size ∧ x3 / 64 = 2)
  · rcases h1 with ⟨_, _, ea, _, _⟩ | ⟨hn, _⟩
    · rcases h2 with ⟨_, _, eb, _, _⟩ | ⟨hn, _⟩
      · rcases h3 with ⟨_, _, ed, _, _⟩ | ⟨hn, _⟩
        · rw [if_pos c6]
          by_cases c7 : c % 8 * 262144 + x1 % 64 * 4096 + x2 % 64 * 64 + x3 % 64 ≥ 65536 ∧ (c % 8 * 262144 + x1 % 64 * 4096 + x2 % 64 * 64 + x3 % 64 < 55296 ∨ (57344 ≤ c % 8 * 262144 + x1 % 64 * 4096 + x2 % 64 * 64 + x3 % 64 ∧ c % 8 * 262144 + x1 % 64 * 4096 + x2 % 64 * 64 + x3 % 64 ≤ 1114111))
          · rw [if_pos c7, if_neg (by omega), if_neg (by omega), if_pos (by omega), if_pos (by omega), if_neg (by simp)]
            simp only [Prod.mk.injEq]
            omega
          · rw [if_neg c7, if_pos rfl, if_neg (by omega), if_neg (by omega)]
            by_cases c8 : c ≤ 244
            · rw [if_pos (by omega), if_neg (by omega)]; rfl
            · rw [if_neg (by omega)]; rfl
        · exact absurd c6.2.2.2 hn
      · exact absurd c6.2.2.1 hn
    · exact absurd c6.2.1 hn
  rw [if_neg c6, if_pos rfl]
  rcases h1 with ⟨p1, y1, ea, _, _⟩ | ⟨hn1, e1⟩
  · rw [if_neg (fun h => c2 ⟨by omega, p1, y1⟩)]
    rcases h2 with ⟨p2, y2, eb, _, _⟩ | ⟨hn2, e2⟩
    · rw [if_neg (fun h => c4 ⟨by omega, ⟨p1, y1⟩, ⟨p2, y2⟩⟩)]
      rcases h3 with ⟨p3, y3, ed, _, _⟩ | ⟨hn3, e3⟩
      · rw [if_neg (fun h => c6 ⟨by omega, ⟨p1, y1⟩, ⟨p2, y2⟩, ⟨p3, y3⟩⟩)]
        rfl
      · rw [if_neg (by omega)]; rfl
    · rw [if_neg (by omega), if_neg (by omega)]; rfl
  · rw [if_neg (by omega), if_neg (by omega), if_neg (by omega)]; rfl

theorem point_any (s : ByteArray) (i : Nat) (w : World) (h : i < s.size) (hs : s.size ≤ 9223372036854775800) :
    Calls Tryz.prog 62 #[.string s, .int .i64 i] w fun e w' => e = .returned (.tuple #[.int .i64 (ptS s i).1, .int .i64 (ptS s i).2]) ∧ w = w' := by
  have t1 := tl_bounds s (i + 1)
  have t2 := tl_bounds s (i + 2)
  have t3 := tl_bounds s (i + 3)
  have := point_core s i (gb s i) (tl s (i + 1)) (tl s (i + 2)) (tl s (i + 3)) w h hs (gb_at s i h) (gb_lt s i) t1.1 t1.2 t2.1 t2.2 t3.1 t3.2
    (fun w => tail_any s _ (i + 1) (by omega) w) (fun w => tail_any s _ (i + 2) (by omega) w) (fun w => tail_any s _ (i + 3) (by omega) w)
  rw [ptF_decode] at this
  exact this

theorem ok_step (s : ByteArray) (f pos : Nat) (hp : pos < s.size) : ((ptS s pos).2 = 0 → okFrom s (f + 1) pos = false) ∧
    ((ptS s pos).2 ≠ 0 → okFrom s (f + 1) pos = okFrom s f (pos + (ptS s pos).2) ∧ pos + (ptS s pos).2 ≤ s.size) := by
  have hw := wide s pos hp
  unfold ptS
  by_cases hb : Utf8.decode s pos = (65533, 1)
  · rw [if_pos hb]
    refine ⟨fun _ => ?_, fun h => absurd rfl h⟩
    simp only [okFrom, if_pos hp]
    rw [if_pos]
    refine ⟨by rw [hb], ?_⟩
    cases hr : repl s pos with
    | false => rfl
    | true => rw [decode_repl hr] at hb; simp at hb
  · rw [if_neg hb]
    refine ⟨fun h => by omega, fun _ => ?_⟩
    rcases rune_cases s pos hp with hbad | ⟨ht, hl⟩
    · exact absurd hbad hb
    · refine ⟨?_, ?_⟩
      · simp only [okFrom, if_pos hp]
        rw [if_neg]
        rintro ⟨h1, h2⟩
        rw [h1, enc_bad] at ht
        rw [repl_of_drop ht.symm] at h2
        cases h2
      · have := congrArg List.length ht
        rw [List.length_append, hl, List.length_drop, List.length_drop, size_list] at this
        omega

set_option maxRecDepth 100000 in
set_option maxHeartbeats 400000 in
theorem isKey_any (s : ByteArray) (w : World) (hs : s.size ≤ 9223372036854775800) :
    Calls Tryz.prog 36 #[.string s] w fun e w' => e = .returned (.bool (validB s)) ∧ w = w' := by
  go_enter Tryz.func36, Tryz.ntmps36
  go_wp2
  go_loop [3] (fun i => ∃ (pos fuel : Nat), i = .int .i64 (pos : Int) ∧ Hid (okFrom s fuel pos = okFrom s s.size 0) ∧ s.size ≤ pos + fuel ∧ pos ≤ s.size) (fun i => s.size - (intOf i).toNat)
  case atStart => exact ⟨0, s.size, rfl, rfl, by omega, by omega⟩
  case round =>
    obtain ⟨pos, fuel, rfl, hacc, hfu, hps⟩ := hrel
    by_cases hp : pos < s.size
    · obtain ⟨f, rfl⟩ : ∃ f, fuel = f + 1 := ⟨fuel - 1, by omega⟩
      have hst := ok_step s f pos hp
      have hP := show Hid _ from fun w => point_any s pos w hp hs
      generalize ptS s pos = q at hst hP
      obtain ⟨c, wd⟩ := q
      simp only at hst hP
      by_cases h0 : wd = 0
      · have Hr := show Hid (validB s = false) from by
          have h1 := hst.1 h0
          rw [hacc.out] at h1
          show validB s = false
          simp [validB, h1]
        subst h0
        clear hst hacc
        go_wp2_with (go_at_call 62; refine (hP.out _).mono ?_; rintro e w' ⟨rfl, rfl⟩)
        go_ret
        exact ⟨by rw [Hr.out]; rfl, rfl⟩
      · obtain ⟨h1, h2⟩ := hst.2 h0
        have Ha := show Hid (okFrom s f (pos + wd) = okFrom s s.size 0) from by
          show _ = _
          rw [← h1, hacc.out]
        have hz : ((wd : Int) == 0) = false := by rw [beq_eq_false_iff_ne]; omega
        clear hst hacc h1
        go_wp2_with (go_at_call 62; refine (hP.out _).mono ?_; rintro e w' ⟨rfl, rfl⟩)
        go_round
        case rel => exact ⟨pos + wd, f, by go_num, Ha, by omega, h2⟩
        case measure => simp [intOf]; omega
    · have hk : okFrom s s.size 0 = true := by rw [← hacc.out, okFrom_end s fuel pos hp]
      have Hr := show Hid (validB s = (decide (1 ≤ s.size) && decide (s.size ≤ 8))) from by
        show validB s = _
        simp [validB, hk]
      clear hk hacc
      by_cases z1 : 1 ≤ s.size
      · have d1 : decide ((1 : Int) ≤ (s.size : Int)) = true := decide_eq_true (by omega)
        by_cases z8 : s.size ≤ 8
        · have d8 : decide ((s.size : Int) ≤ 8) = true := decide_eq_true (by omega)
          have HR := show Hid (validB s = true) from by show _ = _; rw [Hr.out]; simp [z1, z8]
          go_wp2
          go_ret
          exact ⟨by rw [HR.out]; rfl, rfl⟩
        · have d8 : decide ((s.size : Int) ≤ 8) = false := decide_eq_false (by omega)
          have HR := show Hid (validB s = false) from by show _ = _; rw [Hr.out]; simp [z8]
          go_wp2
          go_ret
          exact ⟨by rw [HR.out]; rfl, rfl⟩
      · have d1 : decide ((1 : Int) ≤ (s.size : Int)) = false := decide_eq_false (by omega)
        have HR := show Hid (validB s = false) from by show _ = _; rw [Hr.out]; simp [z1]
        go_wp2
        go_ret
        exact ⟨by rw [HR.out]; rfl, rfl⟩
end Go.Proofs.YthccpacmklhejaaGreatDoor
