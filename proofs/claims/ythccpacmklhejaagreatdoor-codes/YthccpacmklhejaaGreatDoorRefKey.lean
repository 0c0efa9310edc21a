/-
  canalref.tail, canalref.point, canalref.isKey.
-/
import Derived.Test.YthccpacmklhejaaGreatDoorBase
namespace Go.Proofs.YthccpacmklhejaaGreatDoor
open Go.RowKit

/-- The six bits of a byte that goes on; -1: it does not. -/
def tl (s : ByteArray) (i : Nat) : Int := if i < s.size ∧ 128 ≤ gb s i ∧ gb s i ≤ 191 then (gb s i : Int) - 128 else -1

set_option maxRecDepth 100000 in
set_option maxHeartbeats 400000 in
theorem tail_any (s : ByteArray) (j : Int) (i : Nat) (hj : j = i) (w : World) :
    Calls Tryz.prog 89 #[.string s, .int .i64 j] w fun e w' => e = .returned (.int .i64 (tl s i)) ∧ w = w' := by
  subst hj
  by_cases h : i < s.size
  · have hg := gb_at s i h
    have hb := gb_lt s i
    have hd : decide ((s.size : Int) ≤ (i : Int)) = false := decide_eq_false (by omega)
    by_cases h1 : gb s i < 128
    · have e : tl s i = -1 := if_neg (by omega)
      rw [e]; clear e
      generalize gb s i = x at hg hb h1
      have hd1 : decide ((x : Int) < 128) = true := decide_eq_true (by omega)
      go_enter Tryz.func89, Tryz.ntmps89
      go_wp2
      go_ret
      exact ⟨rfl, rfl⟩
    by_cases h2 : 191 < gb s i
    · have e : tl s i = -1 := if_neg (by omega)
      rw [e]; clear e
      generalize gb s i = x at hg hb h1 h2
      have hd1 : decide ((x : Int) < 128) = false := decide_eq_false (by omega)
      have hd2 : decide ((191 : Int) < (x : Int)) = true := decide_eq_true (by omega)
      go_enter Tryz.func89, Tryz.ntmps89
      go_wp2
      go_ret
      exact ⟨rfl, rfl⟩
    · have e : tl s i = (gb s i : Int) - 128 := if_pos ⟨h, by omega, by omega⟩
      rw [e]; clear e
      generalize gb s i = x at hg hb h1 h2
      have hd1 : decide ((x : Int) < 128) = false := decide_eq_false (by omega)
      have hd2 : decide ((191 : Int) < (x : Int)) = false := decide_eq_false (by omega)
      go_enter Tryz.func89, Tryz.ntmps89
      go_wp2
      go_ret
      exact ⟨rfl, rfl⟩
  · have e : tl s i = -1 := if_neg (by omega)
    rw [e]; clear e
    have hd : decide ((s.size : Int) ≤ (i : Int)) = true := decide_eq_true (by omega)
    go_enter Tryz.func89, Tryz.ntmps89
    go_wp2
    go_ret
    exact ⟨rfl, rfl⟩

/-- What point reckons. -/
def ptF (c a b d : Int) : Int × Int :=
  if c < 128 then (c, 1)
  else if 194 ≤ c ∧ c ≤ 223 ∧ 0 ≤ a then ((c - 192) * 64 + a, 2)
  else if 224 ≤ c ∧ c ≤ 239 ∧ 0 ≤ a ∧ 0 ≤ b then
    (if 2048 ≤ (c - 224) * 4096 + a * 64 + b ∧ ((c - 224) * 4096 + a * 64 + b < 55296 ∨ 57343 < (c - 224) * 4096 + a * 64 + b) then ((c - 224) * 4096 + a * 64 + b, 3) else (0, 0))
  else if 240 ≤ c ∧ c ≤ 244 ∧ 0 ≤ a ∧ 0 ≤ b ∧ 0 ≤ d then
    (if 65536 ≤ (c - 240) * 262144 + a * 4096 + b * 64 + d ∧ (c - 240) * 262144 + a * 4096 + b * 64 + d ≤ 1114111 then ((c - 240) * 262144 + a * 4096 + b * 64 + d, 4) else (0, 0))
  else (0, 0)

set_option maxRecDepth 100000 in
set_option maxHeartbeats 2000000 in
theorem point_core (s : ByteArray) (i x : Nat) (a b d : Int) (w : World) (h : i < s.size) (hs : s.size ≤ 9223372036854775800) (hg : (s[i]'h).toNat = x) (hx : x < 256)
    (ha : -1 ≤ a) (ha' : a ≤ 63) (hb : -1 ≤ b) (hb' : b ≤ 63) (hd : -1 ≤ d) (hd' : d ≤ 63)
    (c1 : Hid (∀ w, Calls Tryz.prog 89 #[.string s, .int .i64 ((i : Int) + 1)] w fun e w' => e = .returned (.int .i64 a) ∧ w = w'))
    (c2 : Hid (∀ w, Calls Tryz.prog 89 #[.string s, .int .i64 ((i : Int) + 2)] w fun e w' => e = .returned (.int .i64 b) ∧ w = w'))
    (c3 : Hid (∀ w, Calls Tryz.prog 89 #[.string s, .int .i64 ((i : Int) + 3)] w fun e w' => e = .returned (.int .i64 d) ∧ w = w')) :
    Calls Tryz.prog 62 #[.string s, .int .i64 i] w fun e w' => e = .returned (.tuple #[.int .i64 (ptF x a b d).1, .int .i64 (ptF x a b d).2]) ∧ w = w' := by
  by_cases h1 : x < 128
  · have e : ptF x a b d = ((x : Int), 1) := by unfold ptF; rw [if_pos (by omega)]
    rw [e]; clear e
    go_enter Tryz.func62, Tryz.ntmps62
    go_wp2_with fail
    refine (c1.out _).mono ?_
    rintro e w1 ⟨rfl, rfl⟩
    go_wp2_with fail
    refine (c2.out _).mono ?_
    rintro e w1 ⟨rfl, rfl⟩
    go_wp2_with fail
    refine (c3.out _).mono ?_
    rintro e w1 ⟨rfl, rfl⟩
    go_wp2
    all_goals (go_ret2; exact ⟨rfl, rfl⟩)
  by_cases h2 : 194 ≤ (x : Int) ∧ (x : Int) ≤ 223 ∧ 0 ≤ a
  · have e : ptF x a b d = (((x : Int) - 192) * 64 + a, 2) := by unfold ptF; rw [if_neg (by omega), if_pos h2]
    rw [e]; clear e
    obtain ⟨h3, h4, h5⟩ := h2
    go_enter Tryz.func62, Tryz.ntmps62
    go_wp2_with fail
    refine (c1.out _).mono ?_
    rintro e w1 ⟨rfl, rfl⟩
    go_wp2_with fail
    refine (c2.out _).mono ?_
    rintro e w1 ⟨rfl, rfl⟩
    go_wp2_with fail
    refine (c3.out _).mono ?_
    rintro e w1 ⟨rfl, rfl⟩
    go_wp2
    all_goals (go_ret2; exact ⟨rfl, rfl⟩)
  by_cases h3 : 224 ≤ (x : Int) ∧ (x : Int) ≤ 239 ∧ 0 ≤ a ∧ 0 ≤ b
  · by_cases hq : 2048 ≤ ((x : Int) - 224) * 4096 + a * 64 + b ∧ (((x : Int) - 224) * 4096 + a * 64 + b < 55296 ∨ 57343 < ((x : Int) - 224) * 4096 + a * 64 + b)
    · have e : ptF x a b d = (((x : Int) - 224) * 4096 + a * 64 + b, 3) := by unfold ptF; rw [if_neg (by omega), if_neg h2, if_pos h3, if_pos hq]
      rw [e]; clear e h2
      obtain ⟨g1, g2, g3, g4⟩ := h3
      obtain ⟨g5, g6 | g6⟩ := hq
      · skip
        go_enter Tryz.func62, Tryz.ntmps62
        go_wp2_with fail
        refine (c1.out _).mono ?_
        rintro e w1 ⟨rfl, rfl⟩
        go_wp2_with fail
        refine (c2.out _).mono ?_
        rintro e w1 ⟨rfl, rfl⟩
        go_wp2_with fail
        refine (c3.out _).mono ?_
        rintro e w1 ⟨rfl, rfl⟩
        go_wp2
        all_goals (go_ret2; exact ⟨rfl, rfl⟩)
      · skip
        go_enter Tryz.func62, Tryz.ntmps62
        go_wp2_with fail
        refine (c1.out _).mono ?_
        rintro e w1 ⟨rfl, rfl⟩
        go_wp2_with fail
        refine (c2.out _).mono ?_
        rintro e w1 ⟨rfl, rfl⟩
        go_wp2_with fail
        refine (c3.out _).mono ?_
        rintro e w1 ⟨rfl, rfl⟩
        go_wp2
        all_goals (go_ret2; exact ⟨rfl, rfl⟩)
    · have e : ptF x a b d = (0, 0) := by unfold ptF; rw [if_neg (by omega), if_neg h2, if_pos h3, if_neg hq]
      rw [e]; clear e h2
      obtain ⟨g1, g2, g3, g4⟩ := h3
      rcases (show ((x : Int) - 224) * 4096 + a * 64 + b < 2048 ∨ (55296 ≤ ((x : Int) - 224) * 4096 + a * 64 + b ∧ ((x : Int) - 224) * 4096 + a * 64 + b ≤ 57343) by omega) with g5 | ⟨g5, g6⟩
      · clear hq
        go_enter Tryz.func62, Tryz.ntmps62
        go_wp2_with fail
        refine (c1.out _).mono ?_
        rintro e w1 ⟨rfl, rfl⟩
        go_wp2_with fail
        refine (c2.out _).mono ?_
        rintro e w1 ⟨rfl, rfl⟩
        go_wp2_with fail
        refine (c3.out _).mono ?_
        rintro e w1 ⟨rfl, rfl⟩
        go_wp2
        all_goals (go_ret2; exact ⟨rfl, rfl⟩)
      · clear hq
        go_enter Tryz.func62, Tryz.ntmps62
        go_wp2_with fail
        refine (c1.out _).mono ?_
        rintro e w1 ⟨rfl, rfl⟩
        go_wp2_with fail
        refine (c2.out _).mono ?_
        rintro e w1 ⟨rfl, rfl⟩
        go_wp2_with fail
        refine (c3.out _).mono ?_
        rintro e w1 ⟨rfl, rfl⟩
        go_wp2
        all_goals (go_ret2; exact ⟨rfl, rfl⟩)
  by_cases h4 : 240 ≤ (x : Int) ∧ (x : Int) ≤ 244 ∧ 0 ≤ a ∧ 0 ≤ b ∧ 0 ≤ d
  · by_cases hq : 65536 ≤ ((x : Int) - 240) * 262144 + a * 4096 + b * 64 + d ∧ ((x : Int) - 240) * 262144 + a * 4096 + b * 64 + d ≤ 1114111
    · have e : ptF x a b d = (((x : Int) - 240) * 262144 + a * 4096 + b * 64 + d, 4) := by unfold ptF; rw [if_neg (by omega), if_neg h2, if_neg h3, if_pos h4, if_pos hq]
      rw [e]; clear e h2 h3
      obtain ⟨g1, g2, g3, g4, g5⟩ := h4
      obtain ⟨g6, g7⟩ := hq
      go_enter Tryz.func62, Tryz.ntmps62
      go_wp2_with fail
      refine (c1.out _).mono ?_
      rintro e w1 ⟨rfl, rfl⟩
      go_wp2_with fail
      refine (c2.out _).mono ?_
      rintro e w1 ⟨rfl, rfl⟩
      go_wp2_with fail
      refine (c3.out _).mono ?_
      rintro e w1 ⟨rfl, rfl⟩
      go_wp2
      all_goals (go_ret2; exact ⟨rfl, rfl⟩)
    · have e : ptF x a b d = (0, 0) := by unfold ptF; rw [if_neg (by omega), if_neg h2, if_neg h3, if_pos h4, if_neg hq]
      rw [e]; clear e h2 h3
      obtain ⟨g1, g2, g3, g4, g5⟩ := h4
      rcases (show ((x : Int) - 240) * 262144 + a * 4096 + b * 64 + d < 65536 ∨ 1114111 < ((x : Int) - 240) * 262144 + a * 4096 + b * 64 + d by omega) with g6 | g6
      · clear hq
        go_enter Tryz.func62, Tryz.ntmps62
        go_wp2_with fail
        refine (c1.out _).mono ?_
        rintro e w1 ⟨rfl, rfl⟩
        go_wp2_with fail
        refine (c2.out _).mono ?_
        rintro e w1 ⟨rfl, rfl⟩
        go_wp2_with fail
        refine (c3.out _).mono ?_
        rintro e w1 ⟨rfl, rfl⟩
        go_wp2
        all_goals (go_ret2; exact ⟨rfl, rfl⟩)
      · clear hq
        go_enter Tryz.func62, Tryz.ntmps62
        go_wp2_with fail
        refine (c1.out _).mono ?_
        rintro e w1 ⟨rfl, rfl⟩
        go_wp2_with fail
        refine (c2.out _).mono ?_
        rintro e w1 ⟨rfl, rfl⟩
        go_wp2_with fail
        refine (c3.out _).mono ?_
        rintro e w1 ⟨rfl, rfl⟩
        go_wp2
        all_goals (go_ret2; exact ⟨rfl, rfl⟩)
  · have e : ptF x a b d = (0, 0) := by unfold ptF; rw [if_neg (by omega), if_neg h2, if_neg h3, if_neg h4]
    rw [e]; clear e
    go_enter Tryz.func62, Tryz.ntmps62
    go_wp2_with fail
    refine (c1.out _).mono ?_
    rintro e w1 ⟨rfl, rfl⟩
    go_wp2_with fail
    refine (c2.out _).mono ?_
    rintro e w1 ⟨rfl, rfl⟩
    go_wp2_with fail
    refine (c3.out _).mono ?_
    rintro e w1 ⟨rfl, rfl⟩
    go_wp2
    all_goals (go_ret2; exact ⟨rfl, rfl⟩)

end Go.Proofs.YthccpacmklhejaaGreatDoor
