/-
  canalkeep.Read: the walk.
-/
import Derived.Test.YthccpacmklhejaaKnown
import Derived.Test.YthccpacmklhejaaBase
namespace Go.Proofs.Ythccpacmklhejaa
open Go.RowKit

set_option maxRecDepth 100000 in
set_option maxHeartbeats 1000000 in
theorem read_long (s : ByteArray) (w : World) (h : 400 < s.size) :
    Calls Try.prog 4 #[.string s] w fun en w' => en = .returned (.bool true) ∧ Below w.heap.size w w' := by
  have hd : decide ((400 : Int) < (s.size : Int)) = true := decide_eq_true (by omega)
  go_enter Try.func4, Try.ntmps4
  go_wp2_with (first | (go_at_call 6; refine (known_any _).mono ?_; rintro e w1 ⟨rfl, hb⟩) | (go_at_call 9; refine (cdecode_long s _ h).mono ?_; rintro e w2 ⟨rfl, hb2⟩))
  go_ret
  exact ⟨rfl, hb.trans (hb2.mono hb.size)⟩

set_option maxRecDepth 100000 in
set_option maxHeartbeats 1000000 in
theorem read_form (s : ByteArray) (w : World) (h : s.size ≤ 400) (es : List Ev) (n : Nat) (hp : Parsed s es n) (hlt : n < s.size) :
    Calls Try.prog 4 #[.string s] w fun en w' => en = .returned (.bool true) ∧ Below w.heap.size w w' := by
  have her : errOf s n = 6 := by unfold errOf; rw [if_neg (by omega)]
  have hD := show Hid _ from fun w => cdecode_at s w h hp
  rw [her] at hD
  clear her
  obtain ⟨hph, hphs⟩ := parsed_head hp
  have her : errOf (s.extract 0 n) n = 0 := by unfold errOf; rw [if_pos hphs.symm]
  have hD2 := show Hid _ from fun w => cdecode_at (s.extract 0 n) w (by omega) hph
  rw [her] at hD2
  clear her hphs hph
  have hts : (s.extract n s.size).size = s.size - n := by rw [ByteArray.size_extract]; omega
  have her : errOf (s.extract n s.size) 0 = 6 := by unfold errOf; rw [if_neg (by omega)]
  have hD3 := show Hid _ from fun w => cdecode_at (s.extract n s.size) w (by omega) (parsed_tail hp)
  rw [her] at hD3
  clear her hts
  have hfew := hp.few
  have hd4 : decide ((400 : Int) < (s.size : Int)) = false := decide_eq_false (by omega)
  have hd0 : decide ((n : Int) < 0) = false := decide_eq_false (by omega)
  have hdn : decide (s.size < n) = false := decide_eq_false (by omega)
  have hde : ((n : Int) == (s.size : Int)) = false := by simp; omega
  have HP := show Hid (Parsed s es n) from hp
  clear hp
  go_enter Try.func4, Try.ntmps4
  go_wp2_with (first | (go_at_call 6; refine (known_any _).mono ?_; rintro e w1 ⟨rfl, hb⟩))
  refine (hD.out _).mono ?_
  rintro e w2 ⟨a, cap, rfl, hown, hb2⟩
  have hBw := hb.trans (hb2.mono hb.size)
  have hz1 := hb.size
  have hz2 := hb2.size
  clear hb hb2
  go_wp2
  go_loopw [7, 8] (fun t i wr => ∃ (k : Nat) (tx : ByteArray), k ≤ es.length ∧ i = .int .i64 (k : Int) ∧ t = .string tx ∧ Hid (tx.data.toList = recs (es.take k)) ∧ wr.ownsRow w1.heap.size 30 4 (.slice a es.length cap) es.length (evCells es) ∧ Below w.heap.size w wr ∧ w.heap.size ≤ wr.heap.size) (fun _ i _ => es.length - (intOf i).toNat)
  case atStart => exact ⟨0, ⟨#[]⟩, Nat.zero_le _, rfl, rfl, by simp [Hid, recs], hown, hBw, by omega⟩
  case round =>
    obtain ⟨k, tx, hk, rfl, rfl, htx, hownr, hbr, hzr⟩ := hrel
    clear hown hBw
    by_cases hkl : k < es.length
    · rcases own_addr hownr with ⟨_, h0⟩ | ⟨g, rfl⟩
      · omega
      · obtain ⟨c0, c1, c2, c3⟩ := own_event hownr k hkl
        have hg := HP.out.good (es[k]) (List.getElem_mem hkl)
        have htx2 := show Hid (tx.data.toList ++ recB es[k] = recs (es.take (k + 1))) from by
          rw [← List.take_append_getElem hkl, recs_append, recs_one, htx.out]; rfl
        have hb1 : (tx.data.toList ++ recB es[k]).length ≤ 400 := by
          rw [htx2.out]
          have e2 : recs es = recs (es.take (k + 1)) ++ recs (es.drop (k + 1)) := by rw [← recs_append, List.take_append_drop]
          have l2 := congrArg List.length e2
          rw [HP.out.length, List.length_append] at l2
          omega
        rw [List.length_append, size_list] at hb1
        have hE := show Hid _ from fun w => cencode_any es[k] w hg.2.2.1
        rw [hg.1] at hE
        have hel := encStr_list hg.1
        have hes := size_list (encStr es[k])
        rw [hel] at hes
        clear hg
        generalize es[k] = e at c0 c1 c2 c3 hE htx2 hb1 hel hes
        generalize encStr e = t1 at hE hel hes
        have htx3 := show Hid ((tx ++ t1).data.toList = recs (es.take (k + 1))) from by
          rw [ByteArray.data_append, Array.toList_append, hel]; exact htx2.out
        rw [hes] at hb1
        clear htx2 hel hes htx
        obtain ⟨op, key, seq, val⟩ := e
        unfold Ev.value at hE
        simp only at hE c0 c1 c2 c3
        go_wp2_with (go_at_call 7; refine (hE.out _).mono ?_; rintro e w3 ⟨rfl, hb3⟩; have hown3 := own_below hownr hb3; have hbr3 := hbr.trans (hb3.mono hzr); have hzr3 := Nat.le_trans hzr hb3.size; clear hownr hbr hb3 hzr c0 c1 c2 c3)
        go_roundw
        case rel => exact ⟨k + 1, tx ++ t1, by omega, by go_num, rfl, htx3, hown3, hbr3, hzr3⟩
        case measure => simp [intOf]; omega
    · have htt : (tx.toList == (s.extract 0 n).toList) = true := by
        have e1 : tx.data.toList = s.data.toList.take n := by rw [htx.out, List.take_of_length_le (by omega), HP.out.text]
        rw [beq_iff_eq, toList_iff]
        exact e1
      clear htx
      go_wp2_with fail
      refine (hD2.out _).mono ?_
      rintro e w4 ⟨a2, cap2, rfl, _, hb4⟩
      go_wp2_with fail
      refine (hD3.out _).mono ?_
      rintro e w5 ⟨a3, cap3, rfl, _, hb5⟩
      have hfin := hbr.trans ((hb4.trans (hb5.mono hb4.size)).mono hzr)
      clear hownr hbr hb4 hb5
      go_wp2
      go_ret
      exact ⟨rfl, hfin⟩
set_option maxRecDepth 100000 in
set_option maxHeartbeats 1000000 in
theorem read_whole (s : ByteArray) (w : World) (h : s.size ≤ 400) (es : List Ev) (n : Nat) (hp : Parsed s es n) (hlt : s.size ≤ n) (hle : n ≤ s.size) :
    Calls Try.prog 4 #[.string s] w fun en w' => en = .returned (.bool true) ∧ Below w.heap.size w w' := by
  have her : errOf s n = 0 := by unfold errOf; rw [if_pos (by omega)]
  have hD := show Hid _ from fun w => cdecode_at s w h hp
  rw [her] at hD
  clear her
  obtain ⟨hph, hphs⟩ := parsed_head hp
  have her : errOf (s.extract 0 n) n = 0 := by unfold errOf; rw [if_pos hphs.symm]
  have hD2 := show Hid _ from fun w => cdecode_at (s.extract 0 n) w (by omega) hph
  rw [her] at hD2
  clear her hphs hph
  have hts : (s.extract n s.size).size = s.size - n := by rw [ByteArray.size_extract]; omega
  have her : errOf (s.extract n s.size) 0 = 0 := by unfold errOf; rw [if_pos (by omega)]
  have hD3 := show Hid _ from fun w => cdecode_at (s.extract n s.size) w (by omega) (parsed_tail hp)
  rw [her] at hD3
  clear her hts
  have hfew := hp.few
  have hd4 : decide ((400 : Int) < (s.size : Int)) = false := decide_eq_false (by omega)
  have hd0 : decide ((n : Int) < 0) = false := decide_eq_false (by omega)
  have hdn : decide (s.size < n) = false := decide_eq_false (by omega)
  have hde : ((n : Int) == (s.size : Int)) = true := by simp; omega
  have HP := show Hid (Parsed s es n) from hp
  clear hp
  go_enter Try.func4, Try.ntmps4
  go_wp2_with (first | (go_at_call 6; refine (known_any _).mono ?_; rintro e w1 ⟨rfl, hb⟩))
  refine (hD.out _).mono ?_
  rintro e w2 ⟨a, cap, rfl, hown, hb2⟩
  have hBw := hb.trans (hb2.mono hb.size)
  have hz1 := hb.size
  have hz2 := hb2.size
  clear hb hb2
  go_wp2
  go_loopw [7, 8] (fun t i wr => ∃ (k : Nat) (tx : ByteArray), k ≤ es.length ∧ i = .int .i64 (k : Int) ∧ t = .string tx ∧ Hid (tx.data.toList = recs (es.take k)) ∧ wr.ownsRow w1.heap.size 30 4 (.slice a es.length cap) es.length (evCells es) ∧ Below w.heap.size w wr ∧ w.heap.size ≤ wr.heap.size) (fun _ i _ => es.length - (intOf i).toNat)
  case atStart => exact ⟨0, ⟨#[]⟩, Nat.zero_le _, rfl, rfl, by simp [Hid, recs], hown, hBw, by omega⟩
  case round =>
    obtain ⟨k, tx, hk, rfl, rfl, htx, hownr, hbr, hzr⟩ := hrel
    clear hown hBw
    by_cases hkl : k < es.length
    · rcases own_addr hownr with ⟨_, h0⟩ | ⟨g, rfl⟩
      · omega
      · obtain ⟨c0, c1, c2, c3⟩ := own_event hownr k hkl
        have hg := HP.out.good (es[k]) (List.getElem_mem hkl)
        have htx2 := show Hid (tx.data.toList ++ recB es[k] = recs (es.take (k + 1))) from by
          rw [← List.take_append_getElem hkl, recs_append, recs_one, htx.out]; rfl
        have hb1 : (tx.data.toList ++ recB es[k]).length ≤ 400 := by
          rw [htx2.out]
          have e2 : recs es = recs (es.take (k + 1)) ++ recs (es.drop (k + 1)) := by rw [← recs_append, List.take_append_drop]
          have l2 := congrArg List.length e2
          rw [HP.out.length, List.length_append] at l2
          omega
        rw [List.length_append, size_list] at hb1
        have hE := show Hid _ from fun w => cencode_any es[k] w hg.2.2.1
        rw [hg.1] at hE
        have hel := encStr_list hg.1
        have hes := size_list (encStr es[k])
        rw [hel] at hes
        clear hg
        generalize es[k] = e at c0 c1 c2 c3 hE htx2 hb1 hel hes
        generalize encStr e = t1 at hE hel hes
        have htx3 := show Hid ((tx ++ t1).data.toList = recs (es.take (k + 1))) from by
          rw [ByteArray.data_append, Array.toList_append, hel]; exact htx2.out
        rw [hes] at hb1
        clear htx2 hel hes htx
        obtain ⟨op, key, seq, val⟩ := e
        unfold Ev.value at hE
        simp only at hE c0 c1 c2 c3
        go_wp2_with (go_at_call 7; refine (hE.out _).mono ?_; rintro e w3 ⟨rfl, hb3⟩; have hown3 := own_below hownr hb3; have hbr3 := hbr.trans (hb3.mono hzr); have hzr3 := Nat.le_trans hzr hb3.size; clear hownr hbr hb3 hzr c0 c1 c2 c3)
        go_roundw
        case rel => exact ⟨k + 1, tx ++ t1, by omega, by go_num, rfl, htx3, hown3, hbr3, hzr3⟩
        case measure => simp [intOf]; omega
    · have htt : (tx.toList == (s.extract 0 n).toList) = true := by
        have e1 : tx.data.toList = s.data.toList.take n := by rw [htx.out, List.take_of_length_le (by omega), HP.out.text]
        rw [beq_iff_eq, toList_iff]
        exact e1
      clear htx
      go_wp2_with fail
      refine (hD2.out _).mono ?_
      rintro e w4 ⟨a2, cap2, rfl, _, hb4⟩
      go_wp2_with fail
      refine (hD3.out _).mono ?_
      rintro e w5 ⟨a3, cap3, rfl, _, hb5⟩
      have hfin := hbr.trans ((hb4.trans (hb5.mono hb4.size)).mono hzr)
      clear hownr hbr hb4 hb5
      go_wp2
      go_ret
      exact ⟨rfl, hfin⟩

/-- Read, at every text. -/
theorem read_any (s : ByteArray) (w : World) :
    Calls Try.prog 4 #[.string s] w fun en w' => en = .returned (.bool true) ∧ Below w.heap.size w w' := by
  by_cases h : 400 < s.size
  · exact read_long s w h
  · obtain ⟨es, n, hp⟩ := parsed_exists s
    have hle := hp.le
    by_cases hlt : n < s.size
    · exact read_form s w (by omega) es n hp hlt
    · exact read_whole s w (by omega) es n hp (by omega) hle
end Go.Proofs.Ythccpacmklhejaa
