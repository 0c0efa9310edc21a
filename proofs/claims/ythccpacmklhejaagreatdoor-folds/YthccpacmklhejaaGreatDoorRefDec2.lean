/-
  canalref.begins, whole; canalref.Decode.
-/
import Derived.Test.YthccpacmklhejaaGreatDoorRefDec
namespace Go.Proofs.YthccpacmklhejaaGreatDoor
open Go.RowKit

theorem firstS_inv {s : ByteArray} {x : Ev × Nat} (h : firstS s = some x) : x = (evAt s, szAt s) ∧ 2 ≤ s.size ∧ szAt s ≤ s.size ∧ refuse (evAt s) = 0 ∧ recB (evAt s) = s.data.toList.take (szAt s) := by
  unfold firstS at h
  split at h
  · cases h
  · rename_i h1
    split at h
    · rename_i h2
      exact ⟨(Option.some.inj h).symm, by omega, by omega, h2.1, h2.2⟩
    · cases h

theorem key_size (s : ByteArray) (h : 2 + gb s 1 ≤ s.size) : (evAt s).key.size = gb s 1 := by
  show (s.extract 2 (2 + gb s 1)).size = _
  rw [ByteArray.size_extract]
  omega

theorem szAt_ge (s : ByteArray) : gb s 1 + 5 ≤ szAt s := by unfold szAt; omega

theorem none_of {s : ByteArray} (h : ∀ x, firstS s = some x → False) : firstS s = none := by
  cases hf : firstS s with
  | none => rfl
  | some x => exact absurd (h x hf) id

/-- What begins answers, by the event that stands there. -/
theorem okb_iff (s : ByteArray) (h4 : 4 + gb s 1 ≤ s.size) :
    ((decide (refuse (evAt s) = 0) && decide ((encStr (evAt s)).size ≤ s.size) && ((s.extract 0 (encStr (evAt s)).size).toList == (encStr (evAt s)).toList)) = true → firstS s = some (evAt s, (encStr (evAt s)).size)) ∧
    ((decide (refuse (evAt s) = 0) && decide ((encStr (evAt s)).size ≤ s.size) && ((s.extract 0 (encStr (evAt s)).size).toList == (encStr (evAt s)).toList)) = false → firstS s = none) := by
  have hks := key_size s (by omega)
  have hop : (evAt s).op = gb s 0 := rfl
  have hlen : (recB (evAt s)).length = szAt s := by
    rw [recB_length, hks, hop]
    unfold szAt
    split <;> omega
  refine ⟨fun h => ?_, fun h => ?_⟩
  · rw [Bool.and_eq_true, Bool.and_eq_true, decide_eq_true_eq, decide_eq_true_eq, beq_iff_eq] at h
    obtain ⟨⟨h1, h2⟩, h3⟩ := h
    have hel := encStr_list h1
    have hsz : (encStr (evAt s)).size = szAt s := by rw [← size_list, hel, hlen]
    rw [hsz] at h2 h3 ⊢
    rw [ByteArray.toList_eq, ByteArray.toList_eq, hel, extract_list] at h3
    simp at h3
    unfold firstS
    rw [if_neg (by omega), if_pos ⟨h1, h3.symm⟩]
  · refine none_of fun x hx => ?_
    obtain ⟨_, _, h3, h4, h5⟩ := firstS_inv hx
    have hel := encStr_list h4
    have hsz : (encStr (evAt s)).size = szAt s := by rw [← size_list, hel, hlen]
    rw [hsz, decide_eq_true h4, decide_eq_true h3, Bool.true_and, Bool.true_and, beq_eq_false_iff_ne, ByteArray.toList_eq, ByteArray.toList_eq, hel, extract_list] at h
    apply h
    rw [h5]
    simp

theorem begins_any (s : ByteArray) (w : World) (hmx : s.size ≤ 400) :
    Calls Tryz.prog 59 #[.string s] w fun en w' => ∃ (e : Ev) (t : ByteArray) (ok : Bool), en = .returned (.tuple #[e.value, .string t, .bool ok]) ∧
      Hid ((ok = true → firstS s = some (e, t.size)) ∧ (ok = false → firstS s = none)) ∧ Below w.heap.size w w' := by
  have hk' := gb_lt s 1
  by_cases hsh : s.size < 6 ∨ (6 ≤ s.size ∧ 8 < gb s 1) ∨ (6 ≤ s.size ∧ gb s 1 ≤ 8 ∧ s.size < 4 + gb s 1)
  · refine (begins_short s w (gb s 1) hsh (fun h => gb_at s 1 h) hk').mono ?_
    rintro en w' ⟨rfl, hb⟩
    refine ⟨evZero, ⟨#[]⟩, false, rfl, ⟨fun h => (by cases h), fun _ => none_of fun x hx => ?_⟩, hb⟩
    obtain ⟨_, h2, h3, h4, h5⟩ := firstS_inv hx
    have hg := szAt_ge s
    have hks := key_size s (by omega)
    have := key_le h4
    rw [hks] at this
    omega
  have h6 : 6 ≤ s.size := by omega
  have k8 : gb s 1 ≤ 8 := by omega
  have h4 : 4 + gb s 1 ≤ s.size := by omega
  have b0 := gb_at s 0 (by omega)
  have b1 := gb_at s 1 (by omega)
  have hok := evAt_ok s
  have hx1 : (s.extract (2 + gb s 1) s.size).size = s.size - (2 + gb s 1) := by rw [ByteArray.size_extract]; omega
  have l1 := gb_lt s (2 + gb s 1)
  have l2 := gb_lt s (2 + gb s 1 + 1)
  have hN : Hid (∀ w, Calls Tryz.prog 87 #[.string (s.extract (2 + gb s 1) s.size)] w fun e w' => e = .returned (.int .i64 ((gb s (2 + gb s 1) * 256 + gb s (2 + gb s 1 + 1) : Nat) : Int)) ∧ ∃ n, w' = w.drewN n) := by
    intro w
    have := number_any (s.extract (2 + gb s 1) s.size) w (by omega)
    rw [gb_extract, gb_extract] at this
    exact this
  have hkz : (evAt s).key.size ≤ 9223372036854775800 := by rw [key_size s (by omega)]; omega
  have hE := fun w => rencode_any (evAt s) w hok hkz
  have hiff := okb_iff s h4
  by_cases h1 : gb s 0 = 1
  · by_cases hl : s.size < 6 + gb s 1
    · refine (begins_less s w (gb s 1) _ h6 hmx (by rw [b0, h1]) b1 k8 h4 hl (by omega) hN).mono ?_
      rintro en w' ⟨rfl, hb⟩
      refine ⟨⟨1, s.extract 2 (2 + gb s 1), gb s (2 + gb s 1) * 256 + gb s (2 + gb s 1 + 1), 0⟩, ⟨#[]⟩, false, rfl, ⟨fun h => (by cases h), fun _ => none_of fun x hx => ?_⟩, hb⟩
      obtain ⟨_, _, h3, _, _⟩ := firstS_inv hx
      have : szAt s = gb s 1 + 7 := by unfold szAt; rw [if_pos h1]
      omega
    · have l3 := gb_lt s (2 + gb s 1 + 2)
      have l4 := gb_lt s (2 + gb s 1 + 2 + 1)
      have hN2 : Hid (∀ w, Calls Tryz.prog 87 #[.string (s.extract (2 + gb s 1 + 2) s.size)] w fun e w' => e = .returned (.int .i64 ((gb s (2 + gb s 1 + 2) * 256 + gb s (2 + gb s 1 + 2 + 1) : Nat) : Int)) ∧ ∃ n, w' = w.drewN n) := by
        intro w
        have := number_any (s.extract (2 + gb s 1 + 2) s.size) w (by rw [ByteArray.size_extract]; omega)
        rw [gb_extract, gb_extract] at this
        exact this
      have hev : evAt s = ⟨1, s.extract 2 (2 + gb s 1), gb s (2 + gb s 1) * 256 + gb s (2 + gb s 1 + 1), sg (gb s (2 + gb s 1 + 2) * 256 + gb s (2 + gb s 1 + 2 + 1))⟩ := by
        unfold evAt; rw [if_pos h1, h1]
      by_cases hv : gb s (2 + gb s 1 + 2) * 256 + gb s (2 + gb s 1 + 2 + 1) ≤ 32767
      · have hsg : sg (gb s (2 + gb s 1 + 2) * 256 + gb s (2 + gb s 1 + 2 + 1)) = ((gb s (2 + gb s 1 + 2) * 256 + gb s (2 + gb s 1 + 2 + 1) : Nat) : Int) := by unfold sg; rw [if_pos (by omega)]
        refine (begins_low s w (gb s 1) _ _ h6 hmx (by rw [b0, h1]) b1 k8 (by omega) (by omega) hv hN hN2 (encStr (evAt s)) (refuse (evAt s)) ?_ _ (show Hid (_ = _) from rfl)).mono ?_
        · intro w
          have := hE w
          rw [hev, hsg] at this ⊢
          exact this
        · rintro en w' ⟨rfl, hb⟩
          refine ⟨evAt s, encStr (evAt s), _, ?_, hiff, hb⟩
          simp only [hev, hsg]
          rfl
      · have hsg : sg (gb s (2 + gb s 1 + 2) * 256 + gb s (2 + gb s 1 + 2 + 1)) = ((gb s (2 + gb s 1 + 2) * 256 + gb s (2 + gb s 1 + 2 + 1) : Nat) : Int) - 65536 := by unfold sg; rw [if_neg (by omega)]
        refine (begins_high s w (gb s 1) _ _ h6 hmx (by rw [b0, h1]) b1 k8 (by omega) (by omega) (by omega) (by omega) hN hN2 (encStr (evAt s)) (refuse (evAt s)) ?_ _ (show Hid (_ = _) from rfl)).mono ?_
        · intro w
          have := hE w
          rw [hev, hsg] at this ⊢
          exact this
        · rintro en w' ⟨rfl, hb⟩
          refine ⟨evAt s, encStr (evAt s), _, ?_, hiff, hb⟩
          simp only [hev, hsg]
          rfl
  · have hev : evAt s = ⟨gb s 0, s.extract 2 (2 + gb s 1), gb s (2 + gb s 1) * 256 + gb s (2 + gb s 1 + 1), 0⟩ := by
      unfold evAt; rw [if_neg h1]
    refine (begins_other s w (gb s 0) (gb s 1) _ h6 hmx b0 b1 k8 h4 (by rw [beq_eq_false_iff_ne]; omega) (by omega) hN (encStr (evAt s)) (refuse (evAt s)) ?_ _ (show Hid (_ = _) from rfl)).mono ?_
    · intro w
      have := hE w
      rw [hev] at this ⊢
      exact this
    · rintro en w' ⟨rfl, hb⟩
      refine ⟨evAt s, encStr (evAt s), _, ?_, hiff, hb⟩
      simp only [hev]
      rfl

set_option maxHeartbeats 400000 in
theorem rdecode_long (s : ByteArray) (w : World) (h : 400 < s.size) :
    Calls Tryz.prog 34 #[.string s] w fun en w' => en = .returned (.tuple #[.slice none 0 0, .int .i64 0, .int .i64 1]) ∧ Below w.heap.size w w' := by
  go_enter Tryz.func34, Tryz.ntmps34
  go_wp2
  go_ret3
  exact ⟨rfl, Below.refl _ _⟩

set_option maxRecDepth 100000 in
set_option maxHeartbeats 1000000 in
theorem rdecode_short (s : ByteArray) (w : World) (h : s.size ≤ 400) :
    Calls Tryz.prog 34 #[.string s] w fun en w' => ∃ (v : Value) (es : List Ev) (n r : Nat), en = .returned (.tuple #[v, .int .i64 (n : Int), .int .i64 (r : Int)]) ∧ Hid (Parsed s es n ∧ r = errOf s n) ∧
      w'.ownsRow w.heap.size 41 4 v es.length (evCells es) ∧ Below w.heap.size w w' := by
  obtain ⟨i0, hi, hz0, hz1, hz2⟩ := info_parts Tryz.infoEv
  go_enter Tryz.func34, Tryz.ntmps34
  go_wp2
  go_loopw [5, 6] (fun v i wr => ∃ (es : List Ev) (n : Nat), i = .int .i64 (n : Int) ∧ n ≤ s.size ∧ Hid ((∀ e ∈ es, Good e) ∧ recs es = s.data.toList.take n) ∧ wr.ownsRow w.heap.size 41 4 v es.length (evCells es) ∧ Below w.heap.size w wr) (fun _ i _ => s.size - (intOf i).toNat)
  case atStart => exact ⟨[], 0, rfl, Nat.zero_le _, ⟨by simp, by simp [recs]⟩, World.ownsRow_nil _ _ _ _, Below.refl _ _⟩
  case round =>
    obtain ⟨es, n, rfl, hn, hacc, hown, hbw⟩ := hrel
    have hlen : 5 * es.length ≤ 400 := by
      have a := recs_length es
      rw [hacc.out.2, List.length_take, size_list] at a
      omega
    have hBz := hbw.size
    by_cases hlt : n < s.size
    · have hF := show Hid _ from fun w => begins_any (s.extract n s.size) w (by rw [ByteArray.size_extract]; omega)
      go_wp2_with fail
      refine (hF.out _).mono ?_
      rintro en w1 ⟨e, t, ok, rfl, hfs, hb⟩
      have hown1 := own_below hown hb
      have hbw1 := hbw.trans (hb.mono hBz)
      have hBz1 := Nat.le_trans hBz hb.size
      clear hown hbw hb hBz hF
      obtain ⟨op, key, seq, val⟩ := e
      unfold Ev.value
      cases ok with
      | false =>
        have hf := hfs.out.2 rfl
        have hP := show Hid (Parsed s es n) from ⟨hacc.out.1, hacc.out.2, hn, stop_of hf⟩
        clear hacc hfs hf
        go_wp2
        go_ret3
        exact ⟨_, es, n, 6, rfl, ⟨hP.out, by unfold errOf; rw [if_neg (by omega)]⟩, hown1.alloc _, hbw1.alloc hBz1 _⟩
      | true =>
        have hf := hfs.out.1 rfl
        obtain ⟨f1, f2, f3, f4, f5⟩ := firstS_some hf
        have hm5 : 5 ≤ t.size := by have := recB_pos ⟨op, key, seq, val⟩; omega
        have hmn : n + t.size ≤ s.size := by rw [ByteArray.size_extract] at f5; omega
        have hacc2 := show Hid ((∀ e ∈ es ++ [⟨op, key, seq, val⟩], Good e) ∧ recs (es ++ [⟨op, key, seq, val⟩]) = s.data.toList.take (n + t.size)) from by
          refine ⟨fun e he => ?_, ?_⟩
          · rcases List.mem_append.1 he with he | he
            · exact hacc.out.1 e he
            · simp at he; subst he; exact ⟨f1, f2⟩
          · rw [recs_append, recs_one, hacc.out.2, f3, extract_list, List.take_take, List.take_add]
            congr 2
            omega
        clear hacc hf hfs f1 f2 f3 f4 f5
        go_wp2_with (first
          | (at_builtin; refine wpList_append_own _ rfl (.tmp 29) (.tmp 31) 35 rfl w.heap.size 41 i0 (.agg #[.int .u8 0, .string ⟨#[]⟩, .int .u16 0, .int .i16 0]) 4 32 Tryz.underlying35 hi hz0 hz1 hz2 rfl (by decide) _ es.length (evCells es) rfl ((hown1.alloc _).alloc _) ⟨w1.heap.size + 1, 0, none⟩ 1 1 (evCells1 ⟨op, key, seq, val⟩) rfl rfl (by have := cell_four_new (w1.alloc (.cells #[.int .u8 (op : Int), .string key, .int .u16 (seq : Int), .int .i16 val] 41)) (.int .u8 (op : Int)) (.string key) (.int .u16 (seq : Int)) (.int .i16 val) 41; simpa [evCells1] using this) (ev_oneCell _) (by unfold maxLen; omega) (by omega) (by simp; omega) ?_; intro v2 w2 hown2 hgrow2 _; obtain ⟨hB2, hZ2⟩ := own_step (((hbw1.alloc hBz1 _).alloc (by simp; omega) _)) (by simp; omega) ((hown1.alloc _).alloc _) hgrow2; rw [← evCells_one, ← evCells_append] at hown2; clear hgrow2 hown1 hbw1 hBz1))
        go_roundw
        case rel => exact ⟨es ++ [⟨op, key, seq, val⟩], n + t.size, by go_num, hmn, hacc2, by simpa using hown2, hB2⟩
        case measure => simp [intOf]; omega
    · have hP := show Hid (Parsed s es n) from ⟨hacc.out.1, hacc.out.2, hn, .inl (List.drop_of_length_le (by rw [size_list]; omega))⟩
      clear hacc
      go_wp2
      go_ret3
      exact ⟨_, es, n, 0, rfl, ⟨hP.out, by unfold errOf; rw [if_pos (by omega)]⟩, hown, hbw⟩
end Go.Proofs.YthccpacmklhejaaGreatDoor
