/-
  record.Encode.
-/
import Derived.Test.YthccpacmklhejaaGreatDoorEnc
import Derived.Laws.IdiomStrings
namespace Go.Proofs.YthccpacmklhejaaGreatDoor
open Go.RowKit

theorem Tryz.info5 : (Tryz.prog.info? 5).map (fun i => (i.zero, i.size, i.bytes)) = some (some (.int .u8 0), 1, 1) := by kernel_rfl

theorem bits_low (a : Int) (ha : 0 ≤ a) (ha' : a < 65536) : bits .and .u16 a 255 = a % 256 := by
  rw [u16_and a 255 ha ha' (by omega) (by omega)]
  have : a.toNat &&& (255 : Int).toNat = a.toNat % 256 := Nat.and_two_pow_sub_one_eq_mod a.toNat 8
  rw [this]
  omega

def bcs (l : List UInt8) : List Value := l.map fun b => Value.int .u8 (b.toNat : Int)

set_option maxHeartbeats 1000000 in
theorem encode_no (op : Nat) (key : ByteArray) (seq : Nat) (val : Int) (w : World) (h : refuse ⟨op, key, seq, val⟩ ≠ 0) :
    Calls Tryz.prog 35 #[.agg #[.int .u8 (op : Int), .string key, .int .u16 (seq : Int), .int .i16 val]] w
      fun e w' => e = .returned (.tuple #[.string ⟨#[]⟩, .int .i64 (refuse ⟨op, key, seq, val⟩ : Int)]) ∧ Below w.heap.size w w' := by
  obtain ⟨r, hr⟩ : ∃ r, r = refuse ⟨op, key, seq, val⟩ := ⟨_, rfl⟩
  rw [← hr] at h ⊢
  have Hr := show Hid (r = refuse ⟨op, key, seq, val⟩) from hr
  clear hr
  have hne : ((r : Int) != 0) = true := by rw [bne_iff_ne]; omega
  go_enter Tryz.func35, Tryz.ntmps35
  go_wp2_with (go_at_call 60; refine (refusal_any op key seq val _).mono ?_; rintro e w' ⟨rfl, hb⟩; rw [← Hr.out])
  go_ret2
  exact ⟨rfl, below_box hb⟩

theorem one2 (a b : Int) : ∀ u ∈ [Value.int .u8 a, Value.int .u8 b], u.oneCell' = true := by
  intro u hu
  simp at hu
  rcases hu with rfl | rfl <;> rfl
theorem one1 (a : Int) : ∀ u ∈ [Value.int .u8 a], u.oneCell' = true := by
  intro u hu
  simp at hu
  subst hu; rfl

/-- Behind an append to what the call owns from block B on. -/
theorem own_step {B n : Nat} {e : TypeId} {s : Nat} {W0 wa wb : World} {v : Value} {xs : List Value} (hB : Below B W0 wa) (hz : B ≤ wa.heap.size) (hown : wa.ownsRow B e s v n xs) (hg : wa.grownBy wb v.ownBlock) :
    Below B W0 wb ∧ B ≤ wb.heap.size :=
  ⟨hB.grown hg hz fun k hk => (hown.lt k hk).1, Nat.le_trans hz hg.size⟩

theorem own_slice {w : World} {B n : Nat} {e : TypeId} {s : Nat} {v : Value} {xs : List Value} (hown : w.ownsRow B e s v n xs) (hn : 0 < n) : ∃ g cap, v = .slice (some ⟨g, 0, none⟩) n cap := by
  rcases hown.2 with ⟨rfl, h⟩ | ⟨g, cap, cur, rfl, _⟩
  · omega
  · exact ⟨g, cap, rfl⟩

theorem own_cell {w : World} {B n g cap : Nat} {l : List UInt8} (hown : w.ownsRow B 5 1 (.slice (some ⟨g, 0, none⟩) n cap) n (bcs l)) (hl : l.length = n) :
    ∀ j (h : j < l.length), w.cell? ⟨g, j, none⟩ = some (.int .u8 (l[j].toNat : Int)) := by
  intro j h
  rw [hown.cellAt j (by omega)]
  simp [bcs, h]

theorem sum_own {w : World} {B n : Nat} {v : Value} (l : List UInt8) (hown : w.ownsRow B 5 1 v n (bcs l)) (hn : 0 < n) (h63 : n ≤ 1000) :
    Calls Tryz.prog 61 #[v] w fun e w' => e = .returned (.int .u8 (sumB l : Int)) ∧ w = w' := by
  obtain ⟨g, cap, rfl⟩ := own_slice hown hn
  have hl : l.length = n := by have := hown.1; simpa [bcs] using this
  exact (sum_any g n cap l w hl h63 (own_cell hown hl)).mono fun _ _ h => ⟨h.1, h.2.symm⟩

theorem conv_own {w : World} {B n : Nat} {v : Value} (l : List UInt8) (hown : w.ownsRow B 5 1 v n (bcs l)) (hn : 0 < n) :
    (convert 128 9 v).run Tryz.prog w = .ok (.string ⟨l.toArray⟩) w := by
  obtain ⟨g, cap, rfl⟩ := own_slice hown hn
  have hl : l.length = n := by have := hown.1; simpa [bcs] using this
  subst hl
  refine run_convert_bytes_back w 128 9 5 ⟨g, 0, none⟩ cap l Tryz.underlying128 Tryz.underlying5 Tryz.underlying9 ?_
  intro j hj
  have := own_cell hown rfl j hj
  have e : (⟨g, 0, none⟩ : Addr).add j = ⟨g, j, none⟩ := by unfold Addr.add; split <;> simp_all
  rw [e]; exact this

theorem bcs_append (a b : List UInt8) : bcs (a ++ b) = bcs a ++ bcs b := by simp [bcs]
theorem bcs_two (a b : Nat) (ha : a < 256) (hb : b < 256) : bcs [UInt8.ofNat a, UInt8.ofNat b] = [Value.int .u8 (a : Int), Value.int .u8 (b : Int)] := by
  simp [bcs]; omega
theorem rec_cells (e : Ev) : bcs (body e) ++ [.int .u8 (sumB (body e) : Int)] = bcs (recB e) := by
  have h := sumB_lt (body e)
  have e1 : bcs [UInt8.ofNat (sumB (body e))] = [.int .u8 (sumB (body e) : Int)] := by simp [bcs]; omega
  rw [recB, bcs_append, e1]
theorem body_put (key : ByteArray) (seq : Nat) (val : Int) (hk : key.size ≤ 8) (hs : seq < 65536) :
    ([] ++ [Value.int .u8 1, Value.int .u8 (key.size : Int)] ++ Lib.strCells key ++ [Value.int .u8 ((seq : Int) / 256), Value.int .u8 ((seq : Int) % 256)] ++ [.int .u8 ((u16 val : Int) / 256), .int .u8 ((u16 val : Int) % 256)] : List Value) = bcs (body ⟨1, key, seq, val⟩) := by
  have hu16 : u16 val < 65536 := by unfold u16; omega
  have e : body ⟨1, key, seq, val⟩ = [UInt8.ofNat 1, UInt8.ofNat key.size] ++ key.data.toList ++ [UInt8.ofNat (seq / 256), UInt8.ofNat (seq % 256)] ++ [UInt8.ofNat (u16 val / 256), UInt8.ofNat (u16 val % 256)] := by simp [body]
  have e2 : bcs key.data.toList = Lib.strCells key := rfl
  rw [e, bcs_append, bcs_append, bcs_append, bcs_two 1 key.size (by omega) (by omega), bcs_two (seq / 256) (seq % 256) (by omega) (by omega), bcs_two (u16 val / 256) (u16 val % 256) (by omega) (by omega), e2]
  simp
theorem body_drop (key : ByteArray) (seq : Nat) (hk : key.size ≤ 8) (hs : seq < 65536) :
    ([] ++ [Value.int .u8 2, Value.int .u8 (key.size : Int)] ++ Lib.strCells key ++ [Value.int .u8 ((seq : Int) / 256), Value.int .u8 ((seq : Int) % 256)] : List Value) = bcs (body ⟨2, key, seq, 0⟩) := by
  have e : body ⟨2, key, seq, 0⟩ = [UInt8.ofNat 2, UInt8.ofNat key.size] ++ key.data.toList ++ [UInt8.ofNat (seq / 256), UInt8.ofNat (seq % 256)] := by simp [body]
  have e2 : bcs key.data.toList = Lib.strCells key := rfl
  rw [e, bcs_append, bcs_append, bcs_two 2 key.size (by omega) (by omega), bcs_two (seq / 256) (seq % 256) (by omega) (by omega), e2]
  simp

set_option maxHeartbeats 1000000 in
theorem encode_put (key : ByteArray) (seq : Nat) (val : Int) (w : World) (h : refuse ⟨1, key, seq, val⟩ = 0) (hs : seq < 65536) :
    Calls Tryz.prog 35 #[.agg #[.int .u8 1, .string key, .int .u16 (seq : Int), .int .i16 val]] w
      fun e w' => e = .returned (.tuple #[.string ⟨(recB ⟨1, key, seq, val⟩).toArray⟩, .int .i64 0]) ∧ Below w.heap.size w w' := by
  have Hr := show Hid (refuse ⟨1, key, seq, val⟩ = 0) from h
  have hk1 : 1 ≤ key.size := (key_le h).1
  have hk8 : key.size ≤ 8 := (key_le h).2.1
  clear h
  have hlow := bits_low seq (by omega) (by omega)
  have hu16 : u16 val < 65536 := by unfold u16; omega
  have hwr : IntKind.u16.wrap val = (u16 val : Int) := by rw [IntKind.wrap_u16]; unfold u16; omega
  have hlow2 := bits_low (u16 val) (by omega) (by omega)
  obtain ⟨i0, hi, hz0, hz1, hz2⟩ := info_parts Tryz.info5
  go_enter Tryz.func35, Tryz.ntmps35
  go_wp2_with (first
    | (go_at_call 60; refine (refusal_any 1 key seq val _).mono ?_; rintro e w1 ⟨rfl, hb⟩; rw [Hr.out]; have hz : w.heap.size + 1 ≤ w1.heap.size := by { have := hb.size; simp at this; omega }; have hB1 : Below (w.heap.size + 1) _ w1 := hb.mono (by simp); have hc : ∀ o, w1.cell? ⟨w.heap.size, o, none⟩ = _ := fun o => hB1.cell (p := ⟨w.heap.size, o, none⟩) (by simp); clear hb)
    | (at_builtin; refine wpList_append_own _ rfl (.tmp 13) (.tmp 20) 128 rfl (w.heap.size + 1) 5 i0 (.int .u8 0) 1 1 Tryz.underlying128 hi hz0 hz1 hz2 rfl (by decide) (.slice none 0 0) 0 [] rfl (World.ownsRow_nil _ _ _ _) ⟨w1.heap.size, 0, none⟩ 2 2 [.int .u8 1, .int .u8 (key.size : Int)] rfl rfl (cell_two_new _ _ _ _) (one2 _ _) (by unfold maxLen; omega) (by omega) (by simp; omega) ?_; intro v2 w2 hown2 hgrow2 _; obtain ⟨hB2, hZ2⟩ := own_step (hB1.alloc hz _) (by simp; omega) (World.ownsRow_nil _ _ 5 1) hgrow2; have hc2 : ∀ o, w2.cell? ⟨w.heap.size, o, none⟩ = _ := fun o => hB2.cell (p := ⟨w.heap.size, o, none⟩) (by simp); clear hgrow2 hc hB1 hz)
    | (at_builtin; refine Lib.wpList_append_own_string _ rfl (.tmp 22) (.tmp 24) 128 9 rfl (w.heap.size + 1) 5 i0 Tryz.underlying128 Tryz.underlying9 hi hz0 hz1 hz2 v2 2 _ rfl hown2 key rfl (by unfold maxLen; omega) (by omega) hZ2 ?_; intro v3 w3 hown3 hgrow3 _; obtain ⟨hB3, hZ3⟩ := own_step hB2 hZ2 hown2 hgrow3; have hc3 : ∀ o, w3.cell? ⟨w.heap.size, o, none⟩ = _ := fun o => hB3.cell (p := ⟨w.heap.size, o, none⟩) (by simp); clear hgrow3 hc2 hB2 hZ2 hown2)
    | (at_builtin; refine wpList_append_own _ rfl (.tmp 26) (.tmp 35) 128 rfl (w.heap.size + 1) 5 i0 (.int .u8 0) 1 1 Tryz.underlying128 hi hz0 hz1 hz2 rfl (by decide) v3 (0 + 2 + key.size) _ rfl (hown3.alloc _) ⟨w3.heap.size, 0, none⟩ 2 2 [.int .u8 ((seq : Int) / 256), .int .u8 ((seq : Int) % 256)] rfl rfl (cell_two_new _ _ _ _) (one2 _ _) (by unfold maxLen; omega) (by omega) (by simp; omega) ?_; intro v4 w4 hown4 hgrow4 _; obtain ⟨hB4, hZ4⟩ := own_step (hB3.alloc hZ3 _) (by simp; omega) (hown3.alloc _) hgrow4; have hc4 : ∀ o, w4.cell? ⟨w.heap.size, o, none⟩ = _ := fun o => hB4.cell (p := ⟨w.heap.size, o, none⟩) (by simp); clear hgrow4 hc3 hB3 hZ3 hown3)
    | (at_builtin; refine wpList_append_own _ rfl (.tmp 43) (.tmp 50) 128 rfl (w.heap.size + 1) 5 i0 (.int .u8 0) 1 1 Tryz.underlying128 hi hz0 hz1 hz2 rfl (by decide) v4 (0 + 2 + key.size + 2) _ rfl (hown4.alloc _) ⟨w4.heap.size, 0, none⟩ 2 2 [.int .u8 ((u16 val : Int) / 256), .int .u8 ((u16 val : Int) % 256)] rfl rfl (cell_two_new _ _ _ _) (one2 _ _) (by unfold maxLen; omega) (by omega) (by simp; omega) ?_; intro v5 w5 hown5 hgrow5 _; obtain ⟨hB5, hZ5⟩ := own_step (hB4.alloc hZ4 _) (by simp; omega) (hown4.alloc _) hgrow5; rw [body_put key seq val hk8 hs] at hown5; clear hgrow5 hc4 hB4 hZ4 hown4)
    | (go_at_call 61; refine (sum_own (body ⟨1, key, seq, val⟩) hown5 (by omega) (by omega)).mono ?_; rintro e w6 ⟨rfl, rfl⟩)
    | (at_builtin; refine wpList_append_own _ rfl (.tmp 54) (.tmp 56) 128 rfl (w.heap.size + 1) 5 i0 (.int .u8 0) 1 1 Tryz.underlying128 hi hz0 hz1 hz2 rfl (by decide) v5 (0 + 2 + key.size + 2 + 2) _ rfl (hown5.alloc _) ⟨w5.heap.size, 0, none⟩ 1 1 [.int .u8 (sumB (body ⟨1, key, seq, val⟩) : Int)] rfl rfl (cell_one_new _ _ _) (one1 _) (by unfold maxLen; omega) (by omega) (by simp; omega) ?_; intro v7 w7 hown7 hgrow7 _; obtain ⟨hB7, hZ7⟩ := own_step (hB5.alloc hZ5 _) (by simp; omega) (hown5.alloc _) hgrow7; rw [rec_cells] at hown7; have hconv := conv_own (recB ⟨1, key, seq, val⟩) hown7 (by omega); clear hgrow7 hB5 hZ5 hown5 hown7))
  go_ret2
  exact ⟨rfl, ((Below.refl _ w).alloc (Nat.le_refl _) _).trans (hB7.mono (by omega))⟩
set_option maxHeartbeats 1000000 in
theorem encode_drop (key : ByteArray) (seq : Nat) (w : World) (h : refuse ⟨2, key, seq, 0⟩ = 0) (hs : seq < 65536) :
    Calls Tryz.prog 35 #[.agg #[.int .u8 2, .string key, .int .u16 (seq : Int), .int .i16 0]] w
      fun e w' => e = .returned (.tuple #[.string ⟨(recB ⟨2, key, seq, 0⟩).toArray⟩, .int .i64 0]) ∧ Below w.heap.size w w' := by
  have Hr := show Hid (refuse ⟨2, key, seq, 0⟩ = 0) from h
  have hk1 : 1 ≤ key.size := (key_le h).1
  have hk8 : key.size ≤ 8 := (key_le h).2.1
  clear h
  have hlow := bits_low seq (by omega) (by omega)
  obtain ⟨i0, hi, hz0, hz1, hz2⟩ := info_parts Tryz.info5
  go_enter Tryz.func35, Tryz.ntmps35
  go_wp2_with (first
    | (go_at_call 60; refine (refusal_any 2 key seq 0 _).mono ?_; rintro e w1 ⟨rfl, hb⟩; rw [Hr.out]; have hz : w.heap.size + 1 ≤ w1.heap.size := by { have := hb.size; simp at this; omega }; have hB1 : Below (w.heap.size + 1) _ w1 := hb.mono (by simp); have hc : ∀ o, w1.cell? ⟨w.heap.size, o, none⟩ = _ := fun o => hB1.cell (p := ⟨w.heap.size, o, none⟩) (by simp); clear hb)
    | (at_builtin; refine wpList_append_own _ rfl (.tmp 13) (.tmp 20) 128 rfl (w.heap.size + 1) 5 i0 (.int .u8 0) 1 1 Tryz.underlying128 hi hz0 hz1 hz2 rfl (by decide) (.slice none 0 0) 0 [] rfl (World.ownsRow_nil _ _ _ _) ⟨w1.heap.size, 0, none⟩ 2 2 [.int .u8 2, .int .u8 (key.size : Int)] rfl rfl (cell_two_new _ _ _ _) (one2 _ _) (by unfold maxLen; omega) (by omega) (by simp; omega) ?_; intro v2 w2 hown2 hgrow2 _; obtain ⟨hB2, hZ2⟩ := own_step (hB1.alloc hz _) (by simp; omega) (World.ownsRow_nil _ _ 5 1) hgrow2; have hc2 : ∀ o, w2.cell? ⟨w.heap.size, o, none⟩ = _ := fun o => hB2.cell (p := ⟨w.heap.size, o, none⟩) (by simp); clear hgrow2 hc hB1 hz)
    | (at_builtin; refine Lib.wpList_append_own_string _ rfl (.tmp 22) (.tmp 24) 128 9 rfl (w.heap.size + 1) 5 i0 Tryz.underlying128 Tryz.underlying9 hi hz0 hz1 hz2 v2 2 _ rfl hown2 key rfl (by unfold maxLen; omega) (by omega) hZ2 ?_; intro v3 w3 hown3 hgrow3 _; obtain ⟨hB3, hZ3⟩ := own_step hB2 hZ2 hown2 hgrow3; have hc3 : ∀ o, w3.cell? ⟨w.heap.size, o, none⟩ = _ := fun o => hB3.cell (p := ⟨w.heap.size, o, none⟩) (by simp); clear hgrow3 hc2 hB2 hZ2 hown2)
    | (at_builtin; refine wpList_append_own _ rfl (.tmp 26) (.tmp 35) 128 rfl (w.heap.size + 1) 5 i0 (.int .u8 0) 1 1 Tryz.underlying128 hi hz0 hz1 hz2 rfl (by decide) v3 (0 + 2 + key.size) _ rfl (hown3.alloc _) ⟨w3.heap.size, 0, none⟩ 2 2 [.int .u8 ((seq : Int) / 256), .int .u8 ((seq : Int) % 256)] rfl rfl (cell_two_new _ _ _ _) (one2 _ _) (by unfold maxLen; omega) (by omega) (by simp; omega) ?_; intro v5 w5 hown5 hgrow5 _; obtain ⟨hB5, hZ5⟩ := own_step (hB3.alloc hZ3 _) (by simp; omega) (hown3.alloc _) hgrow5; rw [body_drop key seq hk8 hs] at hown5; have hc5 : ∀ o, w5.cell? ⟨w.heap.size, o, none⟩ = _ := fun o => hB5.cell (p := ⟨w.heap.size, o, none⟩) (by simp); clear hgrow5 hc3 hB3 hZ3 hown3)
    | (go_at_call 61; refine (sum_own (body ⟨2, key, seq, 0⟩) hown5 (by omega) (by omega)).mono ?_; rintro e w6 ⟨rfl, rfl⟩)
    | (at_builtin; refine wpList_append_own _ rfl (.tmp 54) (.tmp 56) 128 rfl (w.heap.size + 1) 5 i0 (.int .u8 0) 1 1 Tryz.underlying128 hi hz0 hz1 hz2 rfl (by decide) v5 (0 + 2 + key.size + 2) _ rfl (hown5.alloc _) ⟨w5.heap.size, 0, none⟩ 1 1 [.int .u8 (sumB (body ⟨2, key, seq, 0⟩) : Int)] rfl rfl (cell_one_new _ _ _) (one1 _) (by unfold maxLen; omega) (by omega) (by simp; omega) ?_; intro v7 w7 hown7 hgrow7 _; obtain ⟨hB7, hZ7⟩ := own_step (hB5.alloc hZ5 _) (by simp; omega) (hown5.alloc _) hgrow7; rw [rec_cells] at hown7; have hconv := conv_own (recB ⟨2, key, seq, 0⟩) hown7 (by omega); clear hgrow7 hB5 hZ5 hown5 hown7 hc5))
  go_ret2
  exact ⟨rfl, ((Below.refl _ w).alloc (Nat.le_refl _) _).trans (hB7.mono (by omega))⟩
/-- What Encode gives. -/
def encStr (e : Ev) : ByteArray := if refuse e = 0 then ⟨(recB e).toArray⟩ else ⟨#[]⟩

theorem encode_any (e : Ev) (w : World) (hs : e.seq < 65536) :
    Calls Tryz.prog 35 #[e.value] w fun en w' => en = .returned (.tuple #[.string (encStr e), .int .i64 (refuse e : Int)]) ∧ Below w.heap.size w w' := by
  obtain ⟨op, key, seq, val⟩ := e
  by_cases h : refuse ⟨op, key, seq, val⟩ = 0
  · have hE : encStr ⟨op, key, seq, val⟩ = ⟨(recB ⟨op, key, seq, val⟩).toArray⟩ := if_pos h
    rw [hE, h]
    obtain ⟨_, _, h3, _, h5⟩ := key_le h
    simp only at h3 h5 hs
    rcases h3 with rfl | rfl
    · exact encode_put key seq val w h hs
    · obtain rfl := h5 rfl
      exact encode_drop key seq w h hs
  · have hE : encStr ⟨op, key, seq, val⟩ = ⟨#[]⟩ := if_neg h
    rw [hE]
    exact encode_no op key seq val w h

set_option maxHeartbeats 400000 in
theorem cencode_any (e : Ev) (w : World) (hs : e.seq < 65536) :
    Calls Tryz.prog 16 #[e.value] w fun en w' => en = .returned (.tuple #[.string (encStr e), .int .i64 (refuse e : Int)]) ∧ Below w.heap.size w w' := by
  have henc := fun w => encode_any e w hs
  obtain ⟨s, hS⟩ : ∃ s, s = encStr e := ⟨_, rfl⟩
  obtain ⟨r, hR⟩ : ∃ r, r = refuse e := ⟨_, rfl⟩
  rw [← hS, ← hR] at henc ⊢
  have H : Hid (∀ w, Calls Tryz.prog 35 #[e.value] w fun en w' => en = .returned (.tuple #[.string s, .int .i64 (r : Int)]) ∧ Below w.heap.size w w') := henc
  clear henc hS hR
  unfold Ev.value at H ⊢
  go_enter Tryz.func16, Tryz.ntmps16
  go_wp2_with (go_at_call 35; refine (H.out _).mono ?_; rintro en w1 ⟨rfl, hb⟩)
  go_ret2
  exact ⟨rfl, below_box hb⟩
end Go.Proofs.YthccpacmklhejaaGreatDoor
