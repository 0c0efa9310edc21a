/-
  The leaf functions' contracts: record.joined, key.replacementAt, key.Valid, record.sum.
-/
import Derived.Test.YthccpacmklhejaaGreatDoorRows
import Derived.Test.YthccpacmklhejaaGreatDoorMath
import Derived.WalkKit
import Derived.WalkSpells
import Derived.WalkLawsBesides
import Derived.Lib.OthersKept
namespace Go.Proofs.YthccpacmklhejaaGreatDoor
open Go.RowKit

theorem bits_join (a b : Int) (ha : 0 ≤ a) (ha' : a < 256) (hb : 0 ≤ b) (hb' : b < 256) : bits .or .u16 (a * 256) b = a * 256 + b := by
  rw [u16_or (a * 256) b (by omega) (by omega) hb (by omega)]
  have e : (a * 256).toNat = a.toNat * 256 := by omega
  rw [e, or_join a.toNat b.toNat (by omega)]
  omega

theorem ret_of {a b : Value} (h : a = b) : Ending.returned a = .returned b := by rw [h]

set_option maxHeartbeats 400000 in
theorem joined_any (a b : Int) (w : World) (ha : 0 ≤ a) (ha' : a < 256) (hb : 0 ≤ b) (hb' : b < 256) :
    Calls Tryz.prog 112 #[.int .u8 a, .int .u8 b] w fun e w' => e = .returned (.int .u16 (a * 256 + b)) ∧ w' = w := by
  have h := bits_join a b ha ha' hb hb'
  go_enter Tryz.func112, Tryz.ntmps112
  go_wp2
  go_ret
  exact ⟨rfl, rfl⟩

set_option maxHeartbeats 400000 in
theorem replacementAt_any (s : ByteArray) (k : Nat) (w : World) (hk : k < 9) :
    Calls Tryz.prog 113 #[.string s, .int .i64 k] w fun e w' => e = .returned (.bool (repl s k)) ∧ w' = w := by
  by_cases h : k + 3 ≤ s.size
  · have e : repl s k = ((s.extract k (k + 3)).toList == [239, 191, 189]) := by simp [repl, h]
    rw [e]
    clear e
    go_enter Tryz.func113, Tryz.ntmps113
    go_wp2
    go_ret
    exact ⟨rfl, rfl⟩
  · have e : repl s k = false := by simp [repl, h]
    rw [e]
    clear e
    have h' : s.size < k + 3 := by omega
    go_enter Tryz.func113, Tryz.ntmps113
    go_wp2
    go_ret
    exact ⟨rfl, rfl⟩

theorem width_pos (s : ByteArray) (pos : Nat) (h : pos < s.size) : 1 ≤ (Utf8.decode s pos).2 := by
  by_cases ha : (s[pos]'h).toNat < 128
  · rw [decode_ascii s pos h ha]
    exact Nat.le_refl _
  · exact (decode_high s pos h (by omega)).2

set_option maxHeartbeats 400000 in
theorem valid_any (s : ByteArray) (w : World) :
    Calls Tryz.prog 88 #[.string s] w fun e w' => e = .returned (.bool (validB s)) ∧ Below w.heap.size w w' := by
  by_cases h1 : s.size < 1
  · have e : validB s = false := by simp [validB]; omega
    rw [e]; clear e
    go_enter Tryz.func88, Tryz.ntmps88
    go_wp2
    go_ret
    exact ⟨rfl, Below.refl _ _⟩
  by_cases h8 : 8 < s.size
  · have e : validB s = false := by simp [validB]; omega
    rw [e]; clear e
    go_enter Tryz.func88, Tryz.ntmps88
    go_wp2
    go_ret
    exact ⟨rfl, Below.refl _ _⟩
  have e : validB s = okFrom s s.size 0 := by
    have a : 1 ≤ s.size := by omega
    have b : s.size ≤ 8 := by omega
    simp [validB, a, b]
  rw [e]; clear e
  go_enter Tryz.func88, Tryz.ntmps88
  go_wp2
  go_loopw [3, 4] (fun _ _ wr => ∃ (pos fuel : Nat), wr.heap[w.heap.size]? = some (.stringIter s pos) ∧ Below w.heap.size w wr ∧ Hid (okFrom s fuel pos = okFrom s s.size 0) ∧ s.size ≤ pos + fuel) (fun _ _ wr => s.size - wr.iterPos w.heap.size)
  case atStart =>
    refine ⟨0, s.size, ?_, (Below.refl _ w).alloc (Nat.le_refl _) _, rfl, by omega⟩
    have := World.iter_heap w s 0
    simpa using this
  case round =>
    obtain ⟨pos, fuel, hit, hbw, hacc, hfu⟩ := hrel
    have hsz : w.heap.size < wr.heap.size := (Array.getElem?_eq_some_iff.1 hit).1
    by_cases hp : pos < s.size
    · have hnx : ∀ ty, (Instr.next (.pointer (some ⟨w.heap.size, 0, none⟩)) true ty).run Tryz.prog wr = _ := fun ty => Lib.run_next_any_at wr w.heap.size s pos ty hit hp
      have hwd := width_pos s pos hp
      have hd1 := decode_le s pos
      have hit2 := Lib.iterAt_heap wr w.heap.size s pos (pos + (Utf8.decode s pos).2) hit
      have hbw2 := Lib.below_iterAt hbw (k := w.heap.size) (by omega) s (pos + (Utf8.decode s pos).2)
      obtain ⟨f, rfl⟩ : ∃ f, fuel = f + 1 := ⟨fuel - 1, by omega⟩
      have hstep : okFrom s (f + 1) pos = (if (Utf8.decode s pos).1 = 65533 ∧ repl s pos = false then false else okFrom s f (pos + (Utf8.decode s pos).2)) := by simp [okFrom, hp]
      by_cases hff : (Utf8.decode s pos).1 = 65533
      · have hi : (((Utf8.decode s pos).1 : Int) == 65533) = true := by simp [hff]
        cases hr : repl s pos with
        | false =>
          have hacc' := hacc.out
          rw [hstep, if_pos ⟨hff, hr⟩] at hacc'
          have Ha := show Hid (false = okFrom s s.size 0) from hacc'
          have Hff := show Hid ((Utf8.decode s pos).1 = 65533) from hff
          have Hr := show Hid (repl s pos = false) from hr
          clear hff hr hacc' hacc hstep hit2
          go_wp2_with (go_at_call 113; refine (replacementAt_any s pos _ (by omega)).mono ?_; rintro e w' ⟨rfl, rfl⟩; rw [Hr.out])
          go_ret
          exact ⟨by rw [← Ha.out]; rfl, hbw2⟩
        | true =>
          have hacc' := hacc.out
          rw [hstep, if_neg (by simp [hr])] at hacc'
          have Hff := show Hid ((Utf8.decode s pos).1 = 65533) from hff
          have Hr := show Hid (repl s pos = true) from hr
          have Ha := show Hid (okFrom s f (pos + (Utf8.decode s pos).2) = okFrom s s.size 0) from hacc'
          clear hff hr hacc' hacc hstep
          go_wp2_with (go_at_call 113; refine (replacementAt_any s pos _ (by omega)).mono ?_; rintro e w' ⟨rfl, rfl⟩; rw [Hr.out])
          go_roundw
          case rel => exact ⟨_, f, hit2, hbw2, Ha, by omega⟩
          case measure =>
            simp only [World.iterPos, hit2, hit]
            omega
      · have hi : (((Utf8.decode s pos).1 : Int) == 65533) = false := by simp; omega
        have hacc' := hacc.out
        rw [hstep, if_neg (by simp [hff])] at hacc'
        have Ha := show Hid (okFrom s f (pos + (Utf8.decode s pos).2) = okFrom s s.size 0) from hacc'
        clear hff hacc' hacc hstep
        go_wp2
        go_roundw
        case rel => exact ⟨_, f, hit2, hbw2, Ha, by omega⟩
        case measure =>
          simp only [World.iterPos, hit2, hit]
          omega
    · have hnx : ∀ ty, (Instr.next (.pointer (some ⟨w.heap.size, 0, none⟩)) true ty).run Tryz.prog wr = _ := fun ty => Lib.run_next_end_at wr w.heap.size s pos ty hit hp
      have hacc' := hacc.out
      rw [okFrom_end s fuel pos hp] at hacc'
      have Ha := show Hid (true = okFrom s s.size 0) from hacc'
      clear hacc' hacc
      go_wp2
      go_ret
      exact ⟨by rw [← Ha.out]; rfl, hbw⟩

-- What record.sum adds up: a row of bytes that lies in one block.
set_option maxHeartbeats 400000 in
theorem sum_any (g n c : Nat) (l : List UInt8) (w : World) (hn : l.length = n) (h63 : n ≤ 1000) (hc : ∀ j (h : j < l.length), w.cell? ⟨g, j, none⟩ = some (.int .u8 (l[j].toNat : Int))) :
    Calls Tryz.prog 61 #[.slice (some ⟨g, 0, none⟩) n c] w fun e w' => e = .returned (.int .u8 (sumB l : Int)) ∧ w' = w := by
  go_enter Tryz.func61, Tryz.ntmps61
  go_wp2
  go_loop [3, 4] (fun t i => ∃ k : Nat, k ≤ n ∧ i = .int .i64 k ∧ t = .int .u8 (sumB (l.take k) : Int)) (fun _ i => n - (intOf i).toNat)
  case atStart => exact ⟨0, Nat.zero_le _, rfl, rfl⟩
  case round =>
    obtain ⟨k, hk, rfl, rfl⟩ := hrel
    by_cases hlt : k < n
    · have hcell := hc k (by omega)
      have hs1 := sumB_lt (l.take k)
      have hb := (l[k]'(by omega)).toNat_lt
      have HS : Hid (sumB (l.take (k + 1)) = (sumB (l.take k) + (l[k]'(by omega)).toNat) % 256) := by
        have e : l.take (k + 1) = l.take k ++ [l[k]'(by omega)] := (List.take_append_getElem (by omega)).symm
        show sumB (l.take (k + 1)) = _
        rw [e, sumB_snoc]
      go_wp2
      go_round
      case rel => exact ⟨k + 1, by omega, by go_num, by rw [HS.out]; go_num⟩
      case measure => simp [intOf]; omega
    · have e : l.take k = l := List.take_of_length_le (by omega)
      rw [e]
      go_wp2
      go_ret
      exact ⟨rfl, rfl⟩
end Go.Proofs.YthccpacmklhejaaGreatDoor
