/-
  record.first, whole; record.Decode; canal.Decode.
-/
import Derived.Test.YthccpacmklhejaaGreatDoorFirst
import Derived.Test.YthccpacmklhejaaGreatDoorParse
namespace Go.Proofs.YthccpacmklhejaaGreatDoor
open Go.RowKit

def firstOut (s : ByteArray) : Ev × Nat := match firstS s with | some x => x | none => (evZero, 0)

theorem toList_iff (t : ByteArray) (s : ByteArray) (n : Nat) : t.toList = (s.extract 0 n).toList ↔ t.data.toList = s.data.toList.take n := by
  rw [ByteArray.toList_eq, ByteArray.toList_eq, extract_list]
  simp

theorem encStr_list {e : Ev} (h : refuse e = 0) : (encStr e).data.toList = recB e := by
  unfold encStr
  rw [if_pos h]

theorem first_any (s : ByteArray) (w : World) (hmx : s.size ≤ 400) :
    Calls Tryz.prog 86 #[.string s] w fun en w' => en = .returned (.tuple #[(firstOut s).1.value, .int .i64 ((firstOut s).2 : Int)]) ∧ Below w.heap.size w w' := by
  by_cases h2 : s.size < 2
  · have e : firstOut s = (evZero, 0) := by unfold firstOut firstS; rw [if_pos (.inl h2)]
    rw [e]
    exact first_short s w h2
  have h2' : 2 ≤ s.size := by omega
  have b0 := gb_at s 0 (by omega)
  have b1 := gb_at s 1 (by omega)
  by_cases hsz : s.size < szAt s
  · have e : firstOut s = (evZero, 0) := by unfold firstOut firstS; rw [if_pos (.inr hsz)]
    rw [e]
    exact first_little s w (gb s 0) (gb s 1) h2' b0 b1 (gb_lt s 1) hsz
  have hfo : firstOut s = if refuse (evAt s) = 0 ∧ recB (evAt s) = s.data.toList.take (szAt s) then (evAt s, szAt s) else (evZero, 0) := by
    unfold firstOut firstS
    rw [if_neg (by omega)]
    split <;> rename_i h <;> split at h <;> rename_i h'
    · rw [if_pos h']; exact (Option.some.inj h).symm
    · cases h
    · cases h
    · rw [if_neg h']
  have hok := evAt_ok s
  have hcond : ∀ n, n = szAt s → ((refuse (evAt s) = 0 ∧ (encStr (evAt s)).toList = (s.extract 0 n).toList) ↔ (refuse (evAt s) = 0 ∧ recB (evAt s) = s.data.toList.take (szAt s))) := by
    intro n hn
    subst hn
    constructor
    · rintro ⟨h, h'⟩
      rw [toList_iff, encStr_list h] at h'
      exact ⟨h, h'⟩
    · rintro ⟨h, h'⟩
      refine ⟨h, ?_⟩
      rw [toList_iff, encStr_list h]
      exact h'
  by_cases h1 : gb s 0 = 1
  · have hs7 : szAt s = 2 + gb s 1 + 2 + 1 + 2 := by unfold szAt; rw [if_pos h1]; omega
    have hev : evAt s = ⟨1, s.extract 2 (2 + gb s 1), gb s (2 + gb s 1) * 256 + gb s (2 + gb s 1 + 1), sg (gb s (2 + gb s 1 + 2) * 256 + gb s (2 + gb s 1 + 2 + 1))⟩ := by
      unfold evAt; rw [if_pos h1, h1]
    have hE := fun w => encode_any (evAt s) w hok.2.1
    have hval : IntKind.i16.wrap ((gb s (2 + gb s 1 + 2) : Int) * 256 + gb s (2 + gb s 1 + 2 + 1)) = sg (gb s (2 + gb s 1 + 2) * 256 + gb s (2 + gb s 1 + 2 + 1)) := by
      have := gb_lt s (2 + gb s 1 + 2)
      have := gb_lt s (2 + gb s 1 + 2 + 1)
      unfold sg IntKind.wrap
      simp [IntKind.bits, IntKind.signed]
      split <;> split <;> omega
    refine first_put s w (gb s 1) (gb s (2 + gb s 1)) (gb s (2 + gb s 1 + 1)) (gb s (2 + gb s 1 + 2)) (gb s (2 + gb s 1 + 2 + 1)) _ h2' (by rw [b0, h1]) b1 (gb_lt s 1) (by omega) hmx
      (gb_at s _ (by omega)) (gb_at s _ (by omega)) (gb_at s _ (by omega)) (gb_at s _ (by omega)) (gb_lt s _) (gb_lt s _) (gb_lt s _) (gb_lt s _) hval (encStr (evAt s)) (refuse (evAt s)) ?_ _ ?_
    · intro w
      have := hE w
      rw [hev] at this ⊢
      exact this
    · refine ⟨fun h => ?_, fun h => ?_⟩
      · rw [hcond _ hs7.symm] at h
        rw [hfo, if_pos h, hs7]
        simp only [hev]
        rfl
      · rw [hcond _ hs7.symm] at h
        rw [hfo, if_neg h]
        rfl
  · have hs5 : szAt s = 2 + gb s 1 + 2 + 1 := by unfold szAt; rw [if_neg h1]; omega
    have hev : evAt s = ⟨gb s 0, s.extract 2 (2 + gb s 1), gb s (2 + gb s 1) * 256 + gb s (2 + gb s 1 + 1), 0⟩ := by
      unfold evAt; rw [if_neg h1]
    have hE := fun w => encode_any (evAt s) w hok.2.1
    refine first_other s w (gb s 0) (gb s 1) (gb s (2 + gb s 1)) (gb s (2 + gb s 1 + 1)) (by simp; omega) h2' b0 b1 (gb_lt s 1) (by omega) hmx
      (gb_at s _ (by omega)) (gb_at s _ (by omega)) (gb_lt s _) (gb_lt s _) (encStr (evAt s)) (refuse (evAt s)) ?_ _ ?_
    · intro w
      have := hE w
      rw [hev] at this ⊢
      exact this
    · refine ⟨fun h => ?_, fun h => ?_⟩
      · rw [hcond _ hs5.symm] at h
        rw [hfo, if_pos h, hs5]
        simp only [hev]
        rfl
      · rw [hcond _ hs5.symm] at h
        rw [hfo, if_neg h]
        rfl

theorem Tryz.infoEv : (Tryz.prog.info? 41).map (fun i => (i.zero, i.size, i.bytes)) = some (some (.agg #[.int .u8 0, .string ⟨#[]⟩, .int .u16 0, .int .i16 0]), 4, 32) := by kernel_rfl

def evCells1 (e : Ev) : List Value := [.int .u8 (e.op : Int), .string e.key, .int .u16 (e.seq : Int), .int .i16 e.val]
def evCells (es : List Ev) : List Value := es.flatMap evCells1
theorem evCells_append (a b : List Ev) : evCells (a ++ b) = evCells a ++ evCells b := by simp [evCells]
theorem evCells_one (e : Ev) : evCells [e] = evCells1 e := by simp [evCells]
theorem ev_oneCell (e : Ev) : ∀ u ∈ evCells1 e, u.oneCell' = true := by
  intro u hu
  simp [evCells1] at hu
  rcases hu with rfl | rfl | rfl | rfl <;> rfl
theorem cell_four_new (w : World) (a b c d : Value) (t : TypeId) : ∀ j u, [a, b, c, d][j]? = some u → (w.alloc (.cells #[a, b, c, d] t)).cell? ((⟨w.heap.size, 0, none⟩ : Addr).add j) = some u := by
  intro j u hj
  match j, hj with
  | 0, hj => simp at hj; subst hj; simp [Addr.add]
  | 1, hj => simp at hj; subst hj; simp [Addr.add]
  | 2, hj => simp at hj; subst hj; simp [Addr.add]
  | 3, hj => simp at hj; subst hj; simp [Addr.add]
  | j + 4, hj => simp at hj

theorem own_below {wr w1 : World} {B n : Nat} {e : TypeId} {sz : Nat} {v : Value} {xs : List Value} (hown : wr.ownsRow B e sz v n xs) (hb : Below wr.heap.size wr w1) : w1.ownsRow B e sz v n xs :=
  hown.kept (row := none) ⟨hb.os, hb.tape, hb.output, hb.size, fun k hk _ => hb.block k hk⟩ (by cases v.ownBlock <;> simp)

set_option maxHeartbeats 400000 in
theorem decode_long (s : ByteArray) (w : World) (h : 400 < s.size) :
    Calls Tryz.prog 56 #[.string s] w fun en w' => en = .returned (.tuple #[.slice none 0 0, .int .i64 0, .int .i64 1]) ∧ Below w.heap.size w w' := by
  go_enter Tryz.func56, Tryz.ntmps56
  go_wp2
  go_ret3
  exact ⟨rfl, Below.refl _ _⟩

/-- Decode's error. -/
def errOf (s : ByteArray) (n : Nat) : Nat := if n = s.size then 0 else 6

set_option maxRecDepth 100000 in
set_option maxHeartbeats 1000000 in
theorem decode_short (s : ByteArray) (w : World) (h : s.size ≤ 400) :
    Calls Tryz.prog 56 #[.string s] w fun en w' => ∃ (v : Value) (es : List Ev) (n r : Nat), en = .returned (.tuple #[v, .int .i64 (n : Int), .int .i64 (r : Int)]) ∧ Hid (Parsed s es n ∧ r = errOf s n) ∧
      w'.ownsRow w.heap.size 41 4 v es.length (evCells es) ∧ Below w.heap.size w w' := by
  obtain ⟨i0, hi, hz0, hz1, hz2⟩ := info_parts Tryz.infoEv
  go_enter Tryz.func56, Tryz.ntmps56
  go_wp2
  go_loopw [5, 6] (fun v i wr => ∃ (es : List Ev) (n : Nat), i = .int .i64 (n : Int) ∧ n ≤ s.size ∧ Hid ((∀ e ∈ es, Good e) ∧ recs es = s.data.toList.take n) ∧ wr.ownsRow w.heap.size 41 4 v es.length (evCells es) ∧ Below w.heap.size w wr) (fun _ i _ => s.size - (intOf i).toNat)
  case atStart => exact ⟨[], 0, rfl, Nat.zero_le _, ⟨by simp, by simp [recs]⟩, World.ownsRow_nil _ _ _ _, Below.refl _ _⟩
  case round =>
    obtain ⟨es, n, rfl, hn, hacc, hown, hbw⟩ := hrel
    have hlen : 5 * es.length ≤ 400 := by
      have a := recs_length es
      rw [hacc.out.2, List.length_take, size_list] at a
      omega
    have hBz := hbw.size
    by_cases hlt : n < s.size
    · have hF := show Hid _ from fun w => first_any (s.extract n s.size) w (by rw [ByteArray.size_extract]; omega)
      cases hf : firstS (s.extract n s.size) with
      | none =>
        have hfo : firstOut (s.extract n s.size) = (evZero, 0) := by unfold firstOut; rw [hf]
        rw [hfo] at hF
        have hP := show Hid (Parsed s es n) from ⟨hacc.out.1, hacc.out.2, hn, stop_of hf⟩
        clear hacc hfo hf
        unfold evZero Ev.value at hF
        simp only at hF
        go_wp2_with (go_at_call 86; refine (hF.out _).mono ?_; rintro e w1 ⟨rfl, hb⟩)
        go_ret3
        exact ⟨_, es, n, 6, rfl, ⟨hP.out, by unfold errOf; rw [if_neg (by omega)]⟩, (own_below hown hb).alloc _, (hbw.trans (hb.mono hBz)).alloc (Nat.le_trans hBz hb.size) _⟩
      | some x =>
        obtain ⟨⟨op, key, seq, val⟩, m⟩ := x
        have hfo : firstOut (s.extract n s.size) = (⟨op, key, seq, val⟩, m) := by unfold firstOut; rw [hf]
        rw [hfo] at hF
        obtain ⟨f1, f2, f3, f4, f5⟩ := firstS_some hf
        have hm5 : 5 ≤ m := by have := recB_pos ⟨op, key, seq, val⟩; omega
        have hmn : n + m ≤ s.size := by rw [ByteArray.size_extract] at f5; omega
        have hacc2 := show Hid ((∀ e ∈ es ++ [⟨op, key, seq, val⟩], Good e) ∧ recs (es ++ [⟨op, key, seq, val⟩]) = s.data.toList.take (n + m)) from by
          refine ⟨fun e he => ?_, ?_⟩
          · rcases List.mem_append.1 he with he | he
            · exact hacc.out.1 e he
            · simp at he; subst he; exact ⟨f1, f2⟩
          · rw [recs_append, recs_one, hacc.out.2, f3, extract_list, List.take_take, List.take_add]
            congr 2
            omega
        clear hacc hfo hf f1 f2 f3 f4 f5
        unfold Ev.value at hF
        simp only at hF
        go_wp2_with (first
          | (go_at_call 86; refine (hF.out _).mono ?_; rintro e w1 ⟨rfl, hb⟩; have hown1 := own_below hown hb; have hbw1 := hbw.trans (hb.mono hBz); have hBz1 := Nat.le_trans hBz hb.size; clear hown hbw hb hBz)
          | (at_builtin; refine wpList_append_own _ rfl (.tmp 27) (.tmp 29) 35 rfl w.heap.size 41 i0 (.agg #[.int .u8 0, .string ⟨#[]⟩, .int .u16 0, .int .i16 0]) 4 32 Tryz.underlying35 hi hz0 hz1 hz2 rfl (by decide) _ es.length (evCells es) rfl ((hown1.alloc _).alloc _) ⟨w1.heap.size + 1, 0, none⟩ 1 1 (evCells1 ⟨op, key, seq, val⟩) rfl rfl (by have := cell_four_new (w1.alloc (.cells #[.int .u8 (op : Int), .string key, .int .u16 (seq : Int), .int .i16 val] 41)) (.int .u8 (op : Int)) (.string key) (.int .u16 (seq : Int)) (.int .i16 val) 41; simpa [evCells1] using this) (ev_oneCell _) (by unfold maxLen; omega) (by omega) (by simp; omega) ?_; intro v2 w2 hown2 hgrow2 _; obtain ⟨hB2, hZ2⟩ := own_step (((hbw1.alloc hBz1 _).alloc (by simp; omega) _)) (by simp; omega) ((hown1.alloc _).alloc _) hgrow2; rw [← evCells_one, ← evCells_append] at hown2; clear hgrow2 hown1 hbw1 hBz1))
        go_roundw
        case rel => exact ⟨es ++ [⟨op, key, seq, val⟩], n + m, by go_num, hmn, hacc2, by simpa using hown2, hB2⟩
        case measure => simp [intOf]; omega
    · have hP := show Hid (Parsed s es n) from ⟨hacc.out.1, hacc.out.2, hn, .inl (List.drop_of_length_le (by rw [size_list]; omega))⟩
      clear hacc
      go_wp2
      go_ret3
      exact ⟨_, es, n, 0, rfl, ⟨hP.out, by unfold errOf; rw [if_pos (by omega)]⟩, hown, hbw⟩
end Go.Proofs.YthccpacmklhejaaGreatDoor
