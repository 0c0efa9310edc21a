/-
  canalkeep.proper and canalkeep.may.
-/
import Derived.Test.YthccpacmklhejaaKnown
import Derived.Test.YthccpacmklhejaaBase
namespace Go.Proofs.Ythccpacmklhejaa
open Go.RowKit

set_option maxRecDepth 100000 in
set_option maxHeartbeats 1000000 in
theorem proper_any (s : ByteArray) (w : World) :
    Calls Try.prog 12 #[.string s] w fun e w' => e = .returned (.bool (properB s)) ∧ Below w.heap.size w w' := by
  by_cases h1 : s.size < 1
  · have e : properB s = false := by have a : ¬ 1 ≤ s.size := by omega
                                     simp [properB, a]
    have h0 : ((s.size : Int) == 0) = true := by rw [beq_iff_eq]; omega
    rw [e]; clear e
    go_enter Try.func12, Try.ntmps12
    go_wp2
    go_ret
    exact ⟨rfl, Below.refl _ _⟩
  have h0 : ((s.size : Int) == 0) = false := by rw [beq_eq_false_iff_ne]; omega
  by_cases h8 : 8 < s.size
  · have e : properB s = false := by have a : ¬ s.size ≤ 8 := by omega
                                     simp [properB, a]
    have hd : decide ((8 : Int) < (s.size : Int)) = true := decide_eq_true (by omega)
    rw [e]; clear e
    go_enter Try.func12, Try.ntmps12
    go_wp2
    go_ret
    exact ⟨rfl, Below.refl _ _⟩
  have hd : decide ((8 : Int) < (s.size : Int)) = false := decide_eq_false (by omega)
  obtain ⟨L, hL⟩ : ∃ L, L = catFrom s s.size 0 := ⟨_, rfl⟩
  have Hp := show Hid (properB s = (L == s.data.toList)) from by
    have a : 1 ≤ s.size := by omega
    have b : s.size ≤ 8 := by omega
    show properB s = _
    simp [properB, a, b, hL]
  have hLl : L.length ≤ 32 := by have := cat_le s s.size 0; rw [← hL] at this; omega
  have HL := show Hid (L = catFrom s s.size 0) from hL
  clear hL
  go_enter Try.func12, Try.ntmps12
  go_wp2
  go_loopw [3, 5] (fun n _ wr => ∃ (pos fuel m : Nat), n = .int .i64 (m : Int) ∧ wr.heap[w.heap.size]? = some (.stringIter s pos) ∧ Below w.heap.size w wr ∧ Hid (m + (catFrom s fuel pos).length = L.length) ∧ m ≤ 32 ∧ s.size ≤ pos + fuel) (fun _ _ wr => s.size - wr.iterPos w.heap.size)
  case atStart =>
    refine ⟨0, s.size, 0, rfl, ?_, (Below.refl _ w).alloc (Nat.le_refl _) _, by show 0 + _ = _; rw [HL.out]; omega, by omega, by omega⟩
    have := World.iter_heap w s 0
    simpa using this
  case round =>
    obtain ⟨pos, fuel, m, rfl, hit, hbw, hacc, hm, hfu⟩ := hrel
    have hsz : w.heap.size < wr.heap.size := (Array.getElem?_eq_some_iff.1 hit).1
    by_cases hp : pos < s.size
    · have hnx : ∀ ty, (Instr.next (.pointer (some ⟨w.heap.size, 0, none⟩)) true ty).run Try.prog wr = _ := fun ty => Lib.run_next_any_at wr w.heap.size s pos ty hit hp
      have hwd := width_pos s pos hp
      have hd1 := decode_le s pos
      have hit2 := Lib.iterAt_heap wr w.heap.size s pos (pos + (Utf8.decode s pos).2) hit
      have hbw2 := Lib.below_iterAt hbw (k := w.heap.size) (by omega) s (pos + (Utf8.decode s pos).2)
      obtain ⟨f, rfl⟩ : ∃ f, fuel = f + 1 := ⟨fuel - 1, by omega⟩
      have hstep : catFrom s (f + 1) pos = (Utf8.encode (Utf8.decode s pos).1).data.toList ++ catFrom s f (pos + (Utf8.decode s pos).2) := by simp [catFrom, hp]
      have hacc' := hacc.out
      rw [hstep, List.length_append, size_list] at hacc'
      have Ha := show Hid (m + (Utf8.encode (Utf8.decode s pos).1).size + (catFrom s f (pos + (Utf8.decode s pos).2)).length = L.length) from by
        show _ = _
        omega
      have hm2 : m + (Utf8.encode (Utf8.decode s pos).1).size ≤ 32 := by omega
      clear hacc' hacc hstep
      go_wp2
      go_roundw
      case rel => exact ⟨_, f, m + (Utf8.encode (Utf8.decode s pos).1).size, by go_num, hit2, hbw2, Ha, hm2, by omega⟩
      case measure =>
        simp only [World.iterPos, hit2, hit]
        omega
    · have hnx : ∀ ty, (Instr.next (.pointer (some ⟨w.heap.size, 0, none⟩)) true ty).run Try.prog wr = _ := fun ty => Lib.run_next_end_at wr w.heap.size s pos ty hit hp
      have hacc' := hacc.out
      rw [catFrom_end s fuel pos hp] at hacc'
      have Hm := show Hid (m = L.length) from by show m = L.length; simpa using hacc'
      clear hacc' hacc
      go_wp2
      rename World => w1
      clear hnx hit hp hfu
      go_loopw [6, 8] (fun t _ wr => ∃ (pos fuel : Nat) (tx : ByteArray), t = .string tx ∧ wr.heap[w1.heap.size]? = some (.stringIter s pos) ∧ Below w.heap.size w wr ∧ Hid (tx.data.toList ++ catFrom s fuel pos = L) ∧ tx.size ≤ 32 ∧ s.size ≤ pos + fuel) (fun _ _ wr => s.size - wr.iterPos w1.heap.size)
      case atStart =>
        refine ⟨0, s.size, ⟨#[]⟩, rfl, ?_, hbw.alloc (by omega) _, by show [] ++ _ = _; rw [HL.out]; rfl, by decide, by omega⟩
        have := World.iter_heap w1 s 0
        simpa using this
      case round =>
        obtain ⟨pos, fuel, tx, rfl, hit, hbr, hacc, htl, hfu⟩ := hrel
        have hszr : w1.heap.size < wr.heap.size := (Array.getElem?_eq_some_iff.1 hit).1
        by_cases hp : pos < s.size
        · have hnx : ∀ ty, (Instr.next (.pointer (some ⟨w1.heap.size, 0, none⟩)) true ty).run Try.prog wr = _ := fun ty => Lib.run_next_any_at wr w1.heap.size s pos ty hit hp
          have hwd := width_pos s pos hp
          have hd1 := decode_le s pos
          have h4 := enc_size (Utf8.decode s pos).1
          have hit2 := Lib.iterAt_heap wr w1.heap.size s pos (pos + (Utf8.decode s pos).2) hit
          have hbw2 := Lib.below_iterAt hbr (k := w1.heap.size) (by omega) s (pos + (Utf8.decode s pos).2)
          obtain ⟨f, rfl⟩ : ∃ f, fuel = f + 1 := ⟨fuel - 1, by omega⟩
          have hstep : catFrom s (f + 1) pos = (Utf8.encode (Utf8.decode s pos).1).data.toList ++ catFrom s f (pos + (Utf8.decode s pos).2) := by simp [catFrom, hp]
          have hacc' := hacc.out
          rw [hstep, ← List.append_assoc] at hacc'
          have Ha := show Hid ((tx ++ Utf8.encode (Utf8.decode s pos).1).data.toList ++ catFrom s f (pos + (Utf8.decode s pos).2) = L) from by
            show _ = _
            rw [ByteArray.data_append, Array.toList_append]
            exact hacc'
          have htl2 : (tx ++ Utf8.encode (Utf8.decode s pos).1).size ≤ 32 := by
            have l1 := congrArg List.length Ha.out
            rw [List.length_append, size_list] at l1
            omega
          clear hacc' hacc hstep
          go_wp2
          go_roundw
          case rel => exact ⟨_, f, tx ++ Utf8.encode (Utf8.decode s pos).1, rfl, hit2, hbw2, Ha, htl2, by omega⟩
          case measure =>
            simp only [World.iterPos, hit2, hit]
            omega
        · have hnx : ∀ ty, (Instr.next (.pointer (some ⟨w1.heap.size, 0, none⟩)) true ty).run Try.prog wr = _ := fun ty => Lib.run_next_end_at wr w1.heap.size s pos ty hit hp
          have hacc' := hacc.out
          rw [catFrom_end s fuel pos hp, List.append_nil] at hacc'
          have Ht := show Hid (tx.data.toList = L) from hacc'
          clear hacc' hacc
          by_cases hE : L = s.data.toList
          · have hm1 : ((m : Int) == (s.size : Int)) = true := by
              have := Hm.out
              rw [hE, size_list] at this
              simp [this]
            have ht1 : (tx.toList == s.toList) = true := by
              rw [beq_iff_eq, ByteArray.toList_eq, ByteArray.toList_eq, Ht.out, hE]
            have Hr := show Hid (true = properB s) from by show true = properB s; rw [Hp.out, hE]; simp
            clear hE
            go_wp2
            go_ret
            exact ⟨by rw [← Hr.out]; rfl, hbr⟩
          · have ht1 : (tx.toList == s.toList) = false := by
              rw [beq_eq_false_iff_ne, ByteArray.toList_eq, ByteArray.toList_eq, Ht.out]
              exact hE
            have Hr := show Hid (false = properB s) from by show false = properB s; rw [Hp.out]; simp [hE]
            clear hE
            by_cases hm0 : m = s.size
            · have hm1 : ((m : Int) == (s.size : Int)) = true := by simp [hm0]
              clear hm0
              go_wp2
              go_ret
              exact ⟨by rw [← Hr.out]; rfl, hbr⟩
            · have hm1 : ((m : Int) == (s.size : Int)) = false := by simp; omega
              clear hm0
              go_wp2
              go_ret
              exact ⟨by rw [← Hr.out]; rfl, hbr⟩

theorem proper_any' (s : ByteArray) (w : World) :
    Calls Try.prog 12 #[.string s] w fun e w' => e = .returned (.bool (validB s)) ∧ Below w.heap.size w w' := by
  have h := proper_any s w
  rw [proper_valid] at h
  exact h

set_option maxHeartbeats 1000000 in
theorem may_any (op : Nat) (key : ByteArray) (seq : Nat) (val : Int) (w : World) :
    Calls Try.prog 8 #[.agg #[.int .u8 (op : Int), .string key, .int .u16 (seq : Int), .int .i16 val]] w
      fun e w' => e = .returned (.int .i64 (refuse ⟨op, key, seq, val⟩ : Int)) ∧ Below w.heap.size w w' := by
  have hpr := show Hid _ from fun w => proper_any' key w
  generalize hv : validB key = v at hpr
  by_cases h12 : op ≠ 1 ∧ op ≠ 2
  · have e : refuse ⟨op, key, seq, val⟩ = 5 := by simp [refuse, h12]
    rw [e]; clear e hv
    have h1 : ((op : Int) != 1) = true := by rw [bne_iff_ne]; omega
    have h2 : ((op : Int) != 2) = true := by rw [bne_iff_ne]; omega
    clear h12
    go_enter Try.func8, Try.ntmps8
    go_wp2_with (go_at_call 12; refine (hpr.out _).mono ?_; rintro e w' ⟨rfl, hb⟩; obtain ⟨hc, hf⟩ := bcell hb; have hz : w.heap.size + 1 ≤ w'.heap.size := by have := hb.size; simp at this; omega)
    go_ret
    exact ⟨rfl, below_box hb⟩
  cases v with
  | false =>
    have e : refuse ⟨op, key, seq, val⟩ = 4 := by simp only [refuse, if_neg h12, hv, if_true]
    rw [e]; clear e hv
    by_cases h1 : op = 1
    · subst h1
      go_enter Try.func8, Try.ntmps8
      go_wp2_with (go_at_call 12; refine (hpr.out _).mono ?_; rintro e w' ⟨rfl, hb⟩; obtain ⟨hc, hf⟩ := bcell hb; have hz : w.heap.size + 1 ≤ w'.heap.size := by have := hb.size; simp at this; omega)
      go_ret
      exact ⟨rfl, below_box hb⟩
    · have h2 : op = 2 := by omega
      subst h2
      go_enter Try.func8, Try.ntmps8
      go_wp2_with (go_at_call 12; refine (hpr.out _).mono ?_; rintro e w' ⟨rfl, hb⟩; obtain ⟨hc, hf⟩ := bcell hb; have hz : w.heap.size + 1 ≤ w'.heap.size := by have := hb.size; simp at this; omega)
      go_ret
      exact ⟨rfl, below_box hb⟩
  | true =>
    by_cases h1 : op = 1
    · have e : refuse ⟨op, key, seq, val⟩ = 0 := by simp [refuse, hv, h1]
      rw [e]; clear e hv
      subst h1
      go_enter Try.func8, Try.ntmps8
      go_wp2_with (go_at_call 12; refine (hpr.out _).mono ?_; rintro e w' ⟨rfl, hb⟩; obtain ⟨hc, hf⟩ := bcell hb; have hz : w.heap.size + 1 ≤ w'.heap.size := by have := hb.size; simp at this; omega)
      go_ret
      exact ⟨rfl, below_box hb⟩
    · have h2 : op = 2 := by omega
      by_cases hz : val = 0
      · have e : refuse ⟨op, key, seq, val⟩ = 0 := by simp [refuse, hv, h2, hz]
        rw [e]; clear e hv
        subst h2 hz
        go_enter Try.func8, Try.ntmps8
        go_wp2_with (go_at_call 12; refine (hpr.out _).mono ?_; rintro e w' ⟨rfl, hb⟩; obtain ⟨hc, hf⟩ := bcell hb; have hz : w.heap.size + 1 ≤ w'.heap.size := by have := hb.size; simp at this; omega)
        go_ret
        exact ⟨rfl, below_box hb⟩
      · have e : refuse ⟨op, key, seq, val⟩ = 3 := by simp [refuse, hv, h2, hz]
        have hne : (val != 0) = true := by simpa using hz
        rw [e]; clear e hv
        subst h2
        go_enter Try.func8, Try.ntmps8
        go_wp2_with (go_at_call 12; refine (hpr.out _).mono ?_; rintro e w' ⟨rfl, hb⟩; obtain ⟨hc, hf⟩ := bcell hb; have hz : w.heap.size + 1 ≤ w'.heap.size := by have := hb.size; simp at this; omega)
        go_ret
        exact ⟨rfl, below_box hb⟩
end Go.Proofs.Ythccpacmklhejaa
