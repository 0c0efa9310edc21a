/-
  canalref.begins, canalref.Decode.
-/
import Derived.Test.YthccpacmklhejaaGreatDoorRefEnc3
namespace Go.Proofs.YthccpacmklhejaaGreatDoor
open Go.RowKit

theorem gb_extract (s : ByteArray) (n i : Nat) : gb (s.extract n s.size) i = gb s (n + i) := by
  unfold gb
  rw [extract_list, List.take_of_length_le (by rw [List.length_drop, size_list]; omega), List.getD_eq_getElem?_getD, List.getD_eq_getElem?_getD, List.getElem?_drop]

set_option maxRecDepth 100000 in
set_option maxHeartbeats 1000000 in
theorem begins_short (s : ByteArray) (w : World) (k : Nat) (h : s.size < 6 ∨ (6 ≤ s.size ∧ 8 < k) ∨ (6 ≤ s.size ∧ k ≤ 8 ∧ s.size < 4 + k)) (hk : ∀ h : 1 < s.size, (s[1]'h).toNat = k) (hk' : k < 256) :
    Calls Tryz.prog 59 #[.string s] w fun en w' => en = .returned (.tuple #[.agg #[.int .u8 0, .string ⟨#[]⟩, .int .u16 0, .int .i16 0], .string ⟨#[]⟩, .bool false]) ∧ Below w.heap.size w w' := by
  rcases h with h | ⟨h6, h8⟩ | ⟨h6, h8, h4⟩
  · have d1 : decide ((s.size : Int) < 6) = true := decide_eq_true (by omega)
    clear hk
    go_enter Tryz.func59, Tryz.ntmps59
    go_wp2
    exact bodyPost_ret (v := .tuple #[.agg #[.int .u8 0, .string ⟨#[]⟩, .int .u16 0, .int .i16 0], .string ⟨#[]⟩, .bool false]) (by simp [results, Tryz.results59, go_sem]) rfl ⟨rfl, ((Below.refl _ w).alloc (Nat.le_refl _) _).alloc (by simp) _⟩
  · have d1 : decide ((s.size : Int) < 6) = false := decide_eq_false (by omega)
    have d2 : decide ((8 : Int) < (k : Int)) = true := decide_eq_true (by omega)
    have hk1 := hk (by omega)
    clear hk
    go_enter Tryz.func59, Tryz.ntmps59
    go_wp2
    exact bodyPost_ret (v := .tuple #[.agg #[.int .u8 0, .string ⟨#[]⟩, .int .u16 0, .int .i16 0], .string ⟨#[]⟩, .bool false]) (by simp [results, Tryz.results59, go_sem]) rfl ⟨rfl, ((Below.refl _ w).alloc (Nat.le_refl _) _).alloc (by simp) _⟩
  · have d1 : decide ((s.size : Int) < 6) = false := decide_eq_false (by omega)
    have d2 : decide ((8 : Int) < (k : Int)) = false := decide_eq_false (by omega)
    have d3 : decide ((s.size : Int) < 4 + (k : Int)) = true := decide_eq_true (by omega)
    have hk1 := hk (by omega)
    clear hk
    go_enter Tryz.func59, Tryz.ntmps59
    go_wp2
    exact bodyPost_ret (v := .tuple #[.agg #[.int .u8 0, .string ⟨#[]⟩, .int .u16 0, .int .i16 0], .string ⟨#[]⟩, .bool false]) (by simp [results, Tryz.results59, go_sem]) rfl ⟨rfl, ((Below.refl _ w).alloc (Nat.le_refl _) _).alloc (by simp) _⟩

set_option maxRecDepth 100000 in
set_option maxHeartbeats 1000000 in
theorem begins_other (s : ByteArray) (w : World) (op k sq : Nat) (h6 : 6 ≤ s.size) (hmx : s.size ≤ 400) (h0 : (s[0]'(by omega)).toNat = op) (hk : (s[1]'(by omega)).toNat = k) (k8 : k ≤ 8) (h4 : 4 + k ≤ s.size) (hne : ((op : Int) == 1) = false) (hsq : sq < 65536)
    (hN : Hid (∀ w, Calls Tryz.prog 87 #[.string (s.extract (2 + k) s.size)] w fun e w' => e = .returned (.int .i64 (sq : Int)) ∧ ∃ n, w' = w.drewN n)) (t : ByteArray) (r : Nat)
    (hE : Hid (∀ w, Calls Tryz.prog 17 #[.agg #[.int .u8 (op : Int), .string (s.extract 2 (2 + k)), .int .u16 (sq : Int), .int .i16 0]] w fun en w' => en = .returned (.tuple #[.string t, .int .i64 (r : Int)]) ∧ Below w.heap.size w w'))
    (okb : Bool) (Hok : Hid (okb = (decide (r = 0) && decide (t.size ≤ s.size) && ((s.extract 0 t.size).toList == t.toList)))) :
    Calls Tryz.prog 59 #[.string s] w fun en w' => en = .returned (.tuple #[.agg #[.int .u8 (op : Int), .string (s.extract 2 (2 + k)), .int .u16 (sq : Int), .int .i16 0], .string t, .bool okb]) ∧ Below w.heap.size w w' := by
  have d1 : decide ((s.size : Int) < 6) = false := decide_eq_false (by omega)
  have d2 : decide ((8 : Int) < (k : Int)) = false := decide_eq_false (by omega)
  have d3 : decide ((s.size : Int) < 4 + (k : Int)) = false := decide_eq_false (by omega)
  go_enter Tryz.func59, Tryz.ntmps59
  go_wp2_with (first | (go_at_call 87; refine (hN.out _).mono ?_; rintro e w1 ⟨rfl, nq, rfl⟩))
  refine (hE.out _).mono ?_
  rintro e w1 ⟨rfl, hb⟩
  obtain ⟨hc, hf⟩ := bcell hb
  have hz : w.heap.size + 2 ≤ w1.heap.size := by have := hb.size; simp at this; omega
  have hbw : Below w.heap.size w w1 := Below.trans ((below_drewN (((Below.refl _ w).alloc (Nat.le_refl _) _).alloc (by simp) _) nq).setCell (by simp) _) (hb.mono (by simp; omega))
  have c0 : w1.cell? ⟨w.heap.size, 0, none⟩ = some (.int .u8 0) := by rw [hc _ _ (by simp; omega)]; simp [go_sem]
  have c1 : w1.cell? ⟨w.heap.size, 1, none⟩ = some (.string ⟨#[]⟩) := by rw [hc _ _ (by simp; omega)]; simp [go_sem]
  have c2 : w1.cell? ⟨w.heap.size, 2, none⟩ = some (.int .u16 0) := by rw [hc _ _ (by simp; omega)]; simp [go_sem]
  have c3 : w1.cell? ⟨w.heap.size, 3, none⟩ = some (.int .i16 0) := by rw [hc _ _ (by simp; omega)]; simp [go_sem]
  have e0 : w1.cell? ⟨w.heap.size + 1, 0, none⟩ = some (.int .u8 (op : Int)) := by rw [hc _ _ (by simp)]; simp [go_sem]
  have e1 : w1.cell? ⟨w.heap.size + 1, 1, none⟩ = some (.string (s.extract 2 (2 + k))) := by rw [hc _ _ (by simp)]; simp [go_sem]
  have e2 : w1.cell? ⟨w.heap.size + 1, 2, none⟩ = some (.int .u16 (sq : Int)) := by rw [hc _ _ (by simp)]; simp [go_sem]
  have e3 : w1.cell? ⟨w.heap.size + 1, 3, none⟩ = some (.int .i16 0) := by rw [hc _ _ (by simp)]; simp [go_sem]
  have f0 : ∀ o, w1.frozen? ⟨w.heap.size, o, none⟩ = false := fun o => by rw [hf _ _ (by simp; omega)]; simp [go_sem]
  clear hb hc hf
  by_cases hr : r = 0
  · subst hr
    by_cases hsz : t.size ≤ s.size
    · have dz : decide (t.size ≤ s.size) = true := decide_eq_true hsz
      cases heq : ((s.extract 0 t.size).toList == t.toList) with
      | true =>
        have HO := show Hid (okb = true) from by rw [show okb = _ from Hok.out, dz, heq]; rfl
        go_wp2
        exact bodyPost_ret (v := .tuple #[.agg #[.int .u8 (op : Int), .string (s.extract 2 (2 + k)), .int .u16 (sq : Int), .int .i16 0], .string t, .bool true]) (by simp [results, Tryz.results59, go_sem, c0, c1, c2, c3]) rfl ⟨by rw [HO.out], (((hbw.setCell (by simp) _).setCell (by simp) _).setCell (by simp) _).setCell (by simp) _⟩
      | false =>
        have HO := show Hid (okb = false) from by rw [show okb = _ from Hok.out, dz, heq]; rfl
        go_wp2
        exact bodyPost_ret (v := .tuple #[.agg #[.int .u8 (op : Int), .string (s.extract 2 (2 + k)), .int .u16 (sq : Int), .int .i16 0], .string t, .bool false]) (by simp [results, Tryz.results59, go_sem, c0, c1, c2, c3]) rfl ⟨by rw [HO.out], (((hbw.setCell (by simp) _).setCell (by simp) _).setCell (by simp) _).setCell (by simp) _⟩
    · have dz : decide (t.size ≤ s.size) = false := decide_eq_false hsz
      have HO := show Hid (okb = false) from by rw [show okb = _ from Hok.out, dz]; rfl
      clear hsz
      go_wp2
      exact bodyPost_ret (v := .tuple #[.agg #[.int .u8 (op : Int), .string (s.extract 2 (2 + k)), .int .u16 (sq : Int), .int .i16 0], .string t, .bool false]) (by simp [results, Tryz.results59, go_sem, c0, c1, c2, c3]) rfl ⟨by rw [HO.out], (((hbw.setCell (by simp) _).setCell (by simp) _).setCell (by simp) _).setCell (by simp) _⟩
  · have hrb : ((r : Int) == 0) = false := by rw [beq_eq_false_iff_ne]; omega
    have HO := show Hid (okb = false) from by rw [show okb = _ from Hok.out, decide_eq_false hr]; rfl
    clear hr
    go_wp2
    exact bodyPost_ret (v := .tuple #[.agg #[.int .u8 (op : Int), .string (s.extract 2 (2 + k)), .int .u16 (sq : Int), .int .i16 0], .string t, .bool false]) (by simp [results, Tryz.results59, go_sem, c0, c1, c2, c3]) rfl ⟨by rw [HO.out], (((hbw.setCell (by simp) _).setCell (by simp) _).setCell (by simp) _).setCell (by simp) _⟩

set_option maxRecDepth 100000 in
set_option maxHeartbeats 1000000 in
theorem begins_less (s : ByteArray) (w : World) (k sq : Nat) (h6 : 6 ≤ s.size) (hmx : s.size ≤ 400) (h0 : (s[0]'(by omega)).toNat = 1) (hk : (s[1]'(by omega)).toNat = k) (k8 : k ≤ 8) (h4 : 4 + k ≤ s.size) (hl : s.size < 6 + k) (hsq : sq < 65536)
    (hN : Hid (∀ w, Calls Tryz.prog 87 #[.string (s.extract (2 + k) s.size)] w fun e w' => e = .returned (.int .i64 (sq : Int)) ∧ ∃ n, w' = w.drewN n)) :
    Calls Tryz.prog 59 #[.string s] w fun en w' => en = .returned (.tuple #[.agg #[.int .u8 1, .string (s.extract 2 (2 + k)), .int .u16 (sq : Int), .int .i16 0], .string ⟨#[]⟩, .bool false]) ∧ Below w.heap.size w w' := by
  have d1 : decide ((s.size : Int) < 6) = false := decide_eq_false (by omega)
  have d2 : decide ((8 : Int) < (k : Int)) = false := decide_eq_false (by omega)
  have d3 : decide ((s.size : Int) < 4 + (k : Int)) = false := decide_eq_false (by omega)
  go_enter Tryz.func59, Tryz.ntmps59
  go_wp2_with (first | (go_at_call 87; refine (hN.out _).mono ?_; rintro e w1 ⟨rfl, nq, rfl⟩))
  exact bodyPost_ret (v := .tuple #[.agg #[.int .u8 1, .string (s.extract 2 (2 + k)), .int .u16 (sq : Int), .int .i16 0], .string ⟨#[]⟩, .bool false]) (by simp [results, Tryz.results59, go_sem]) rfl ⟨rfl, (((((below_drewN (((Below.refl _ w).alloc (Nat.le_refl _) _).alloc (by simp) _) nq).setCell (by simp) _).setCell (by simp) _).setCell (by simp) _).setCell (by simp) _).setCell (by simp) _⟩

set_option maxRecDepth 100000 in
set_option maxHeartbeats 1000000 in
theorem begins_low (s : ByteArray) (w : World) (k sq v : Nat) (h6 : 6 ≤ s.size) (hmx : s.size ≤ 400) (h0 : (s[0]'(by omega)).toNat = 1) (hk : (s[1]'(by omega)).toNat = k) (k8 : k ≤ 8) (h4 : 6 + k ≤ s.size) (hsq : sq < 65536) (hv : v ≤ 32767)
    (hN : Hid (∀ w, Calls Tryz.prog 87 #[.string (s.extract (2 + k) s.size)] w fun e w' => e = .returned (.int .i64 (sq : Int)) ∧ ∃ n, w' = w.drewN n))
    (hN2 : Hid (∀ w, Calls Tryz.prog 87 #[.string (s.extract (2 + k + 2) s.size)] w fun e w' => e = .returned (.int .i64 (v : Int)) ∧ ∃ n, w' = w.drewN n)) (t : ByteArray) (r : Nat)
    (hE : Hid (∀ w, Calls Tryz.prog 17 #[.agg #[.int .u8 1, .string (s.extract 2 (2 + k)), .int .u16 (sq : Int), .int .i16 (v : Int)]] w fun en w' => en = .returned (.tuple #[.string t, .int .i64 (r : Int)]) ∧ Below w.heap.size w w'))
    (okb : Bool) (Hok : Hid (okb = (decide (r = 0) && decide (t.size ≤ s.size) && ((s.extract 0 t.size).toList == t.toList)))) :
    Calls Tryz.prog 59 #[.string s] w fun en w' => en = .returned (.tuple #[.agg #[.int .u8 1, .string (s.extract 2 (2 + k)), .int .u16 (sq : Int), .int .i16 (v : Int)], .string t, .bool okb]) ∧ Below w.heap.size w w' := by
  have d1 : decide ((s.size : Int) < 6) = false := decide_eq_false (by omega)
  have d2 : decide ((8 : Int) < (k : Int)) = false := decide_eq_false (by omega)
  have d3 : decide ((s.size : Int) < 4 + (k : Int)) = false := decide_eq_false (by omega)
  go_enter Tryz.func59, Tryz.ntmps59
  go_wp2_with fail
  refine (hN.out _).mono ?_
  rintro e w1 ⟨rfl, nq, rfl⟩
  go_wp2_with fail
  refine (hN2.out _).mono ?_
  rintro e w1 ⟨rfl, nq2, rfl⟩
  go_wp2_with fail
  refine (hE.out _).mono ?_
  rintro e w1 ⟨rfl, hb⟩
  obtain ⟨hc, hf⟩ := bcell hb
  have hz : w.heap.size + 2 ≤ w1.heap.size := by have := hb.size; simp at this; omega
  have hbw : Below w.heap.size w w1 := Below.trans ((below_drewN ((below_drewN (((Below.refl _ w).alloc (Nat.le_refl _) _).alloc (by simp) _) nq).setCell (by simp) _) nq2).setCell (by simp) _) (hb.mono (by simp; omega))
  have c0 : w1.cell? ⟨w.heap.size, 0, none⟩ = some (.int .u8 0) := by rw [hc _ _ (by simp; omega)]; simp [go_sem]
  have c1 : w1.cell? ⟨w.heap.size, 1, none⟩ = some (.string ⟨#[]⟩) := by rw [hc _ _ (by simp; omega)]; simp [go_sem]
  have c2 : w1.cell? ⟨w.heap.size, 2, none⟩ = some (.int .u16 0) := by rw [hc _ _ (by simp; omega)]; simp [go_sem]
  have c3 : w1.cell? ⟨w.heap.size, 3, none⟩ = some (.int .i16 0) := by rw [hc _ _ (by simp; omega)]; simp [go_sem]
  have e0 : w1.cell? ⟨w.heap.size + 1, 0, none⟩ = some (.int .u8 1) := by rw [hc _ _ (by simp)]; simp [go_sem]
  have e1 : w1.cell? ⟨w.heap.size + 1, 1, none⟩ = some (.string (s.extract 2 (2 + k))) := by rw [hc _ _ (by simp)]; simp [go_sem]
  have e2 : w1.cell? ⟨w.heap.size + 1, 2, none⟩ = some (.int .u16 (sq : Int)) := by rw [hc _ _ (by simp)]; simp [go_sem]
  have e3 : w1.cell? ⟨w.heap.size + 1, 3, none⟩ = some (.int .i16 (v : Int)) := by rw [hc _ _ (by simp)]; simp [go_sem]
  have f0 : ∀ o, w1.frozen? ⟨w.heap.size, o, none⟩ = false := fun o => by rw [hf _ _ (by simp; omega)]; simp [go_sem]
  clear hb hc hf
  by_cases hr : r = 0
  · subst hr
    by_cases hsz : t.size ≤ s.size
    · have dz : decide (t.size ≤ s.size) = true := decide_eq_true hsz
      cases heq : ((s.extract 0 t.size).toList == t.toList) with
      | true =>
        have HO := show Hid (okb = true) from by rw [show okb = _ from Hok.out, dz, heq]; rfl
        go_wp2
        exact bodyPost_ret (v := .tuple #[.agg #[.int .u8 1, .string (s.extract 2 (2 + k)), .int .u16 (sq : Int), .int .i16 (v : Int)], .string t, .bool true]) (by simp [results, Tryz.results59, go_sem, c0, c1, c2, c3]) rfl ⟨by rw [HO.out], (((hbw.setCell (by simp) _).setCell (by simp) _).setCell (by simp) _).setCell (by simp) _⟩
      | false =>
        have HO := show Hid (okb = false) from by rw [show okb = _ from Hok.out, dz, heq]; rfl
        go_wp2
        exact bodyPost_ret (v := .tuple #[.agg #[.int .u8 1, .string (s.extract 2 (2 + k)), .int .u16 (sq : Int), .int .i16 (v : Int)], .string t, .bool false]) (by simp [results, Tryz.results59, go_sem, c0, c1, c2, c3]) rfl ⟨by rw [HO.out], (((hbw.setCell (by simp) _).setCell (by simp) _).setCell (by simp) _).setCell (by simp) _⟩
    · have dz : decide (t.size ≤ s.size) = false := decide_eq_false hsz
      have HO := show Hid (okb = false) from by rw [show okb = _ from Hok.out, dz]; rfl
      clear hsz
      go_wp2
      exact bodyPost_ret (v := .tuple #[.agg #[.int .u8 1, .string (s.extract 2 (2 + k)), .int .u16 (sq : Int), .int .i16 (v : Int)], .string t, .bool false]) (by simp [results, Tryz.results59, go_sem, c0, c1, c2, c3]) rfl ⟨by rw [HO.out], (((hbw.setCell (by simp) _).setCell (by simp) _).setCell (by simp) _).setCell (by simp) _⟩
  · have hrb : ((r : Int) == 0) = false := by rw [beq_eq_false_iff_ne]; omega
    have HO := show Hid (okb = false) from by rw [show okb = _ from Hok.out, decide_eq_false hr]; rfl
    clear hr
    go_wp2
    exact bodyPost_ret (v := .tuple #[.agg #[.int .u8 1, .string (s.extract 2 (2 + k)), .int .u16 (sq : Int), .int .i16 (v : Int)], .string t, .bool false]) (by simp [results, Tryz.results59, go_sem, c0, c1, c2, c3]) rfl ⟨by rw [HO.out], (((hbw.setCell (by simp) _).setCell (by simp) _).setCell (by simp) _).setCell (by simp) _⟩

set_option maxRecDepth 100000 in
set_option maxHeartbeats 1000000 in
theorem begins_high (s : ByteArray) (w : World) (k sq v : Nat) (h6 : 6 ≤ s.size) (hmx : s.size ≤ 400) (h0 : (s[0]'(by omega)).toNat = 1) (hk : (s[1]'(by omega)).toNat = k) (k8 : k ≤ 8) (h4 : 6 + k ≤ s.size) (hsq : sq < 65536) (hv : 32767 < v) (hv' : v < 65536)
    (hN : Hid (∀ w, Calls Tryz.prog 87 #[.string (s.extract (2 + k) s.size)] w fun e w' => e = .returned (.int .i64 (sq : Int)) ∧ ∃ n, w' = w.drewN n))
    (hN2 : Hid (∀ w, Calls Tryz.prog 87 #[.string (s.extract (2 + k + 2) s.size)] w fun e w' => e = .returned (.int .i64 (v : Int)) ∧ ∃ n, w' = w.drewN n)) (t : ByteArray) (r : Nat)
    (hE : Hid (∀ w, Calls Tryz.prog 17 #[.agg #[.int .u8 1, .string (s.extract 2 (2 + k)), .int .u16 (sq : Int), .int .i16 ((v : Int) - 65536)]] w fun en w' => en = .returned (.tuple #[.string t, .int .i64 (r : Int)]) ∧ Below w.heap.size w w'))
    (okb : Bool) (Hok : Hid (okb = (decide (r = 0) && decide (t.size ≤ s.size) && ((s.extract 0 t.size).toList == t.toList)))) :
    Calls Tryz.prog 59 #[.string s] w fun en w' => en = .returned (.tuple #[.agg #[.int .u8 1, .string (s.extract 2 (2 + k)), .int .u16 (sq : Int), .int .i16 ((v : Int) - 65536)], .string t, .bool okb]) ∧ Below w.heap.size w w' := by
  have d1 : decide ((s.size : Int) < 6) = false := decide_eq_false (by omega)
  have d2 : decide ((8 : Int) < (k : Int)) = false := decide_eq_false (by omega)
  have d3 : decide ((s.size : Int) < 4 + (k : Int)) = false := decide_eq_false (by omega)
  go_enter Tryz.func59, Tryz.ntmps59
  go_wp2_with fail
  refine (hN.out _).mono ?_
  rintro e w1 ⟨rfl, nq, rfl⟩
  go_wp2_with fail
  refine (hN2.out _).mono ?_
  rintro e w1 ⟨rfl, nq2, rfl⟩
  go_wp2_with fail
  refine (hE.out _).mono ?_
  rintro e w1 ⟨rfl, hb⟩
  obtain ⟨hc, hf⟩ := bcell hb
  have hz : w.heap.size + 2 ≤ w1.heap.size := by have := hb.size; simp at this; omega
  have hbw : Below w.heap.size w w1 := Below.trans ((below_drewN ((below_drewN (((Below.refl _ w).alloc (Nat.le_refl _) _).alloc (by simp) _) nq).setCell (by simp) _) nq2).setCell (by simp) _) (hb.mono (by simp; omega))
  have c0 : w1.cell? ⟨w.heap.size, 0, none⟩ = some (.int .u8 0) := by rw [hc _ _ (by simp; omega)]; simp [go_sem]
  have c1 : w1.cell? ⟨w.heap.size, 1, none⟩ = some (.string ⟨#[]⟩) := by rw [hc _ _ (by simp; omega)]; simp [go_sem]
  have c2 : w1.cell? ⟨w.heap.size, 2, none⟩ = some (.int .u16 0) := by rw [hc _ _ (by simp; omega)]; simp [go_sem]
  have c3 : w1.cell? ⟨w.heap.size, 3, none⟩ = some (.int .i16 0) := by rw [hc _ _ (by simp; omega)]; simp [go_sem]
  have e0 : w1.cell? ⟨w.heap.size + 1, 0, none⟩ = some (.int .u8 1) := by rw [hc _ _ (by simp)]; simp [go_sem]
  have e1 : w1.cell? ⟨w.heap.size + 1, 1, none⟩ = some (.string (s.extract 2 (2 + k))) := by rw [hc _ _ (by simp)]; simp [go_sem]
  have e2 : w1.cell? ⟨w.heap.size + 1, 2, none⟩ = some (.int .u16 (sq : Int)) := by rw [hc _ _ (by simp)]; simp [go_sem]
  have e3 : w1.cell? ⟨w.heap.size + 1, 3, none⟩ = some (.int .i16 ((v : Int) - 65536)) := by rw [hc _ _ (by simp)]; simp [go_sem]
  have f0 : ∀ o, w1.frozen? ⟨w.heap.size, o, none⟩ = false := fun o => by rw [hf _ _ (by simp; omega)]; simp [go_sem]
  clear hb hc hf
  by_cases hr : r = 0
  · subst hr
    by_cases hsz : t.size ≤ s.size
    · have dz : decide (t.size ≤ s.size) = true := decide_eq_true hsz
      cases heq : ((s.extract 0 t.size).toList == t.toList) with
      | true =>
        have HO := show Hid (okb = true) from by rw [show okb = _ from Hok.out, dz, heq]; rfl
        go_wp2
        exact bodyPost_ret (v := .tuple #[.agg #[.int .u8 1, .string (s.extract 2 (2 + k)), .int .u16 (sq : Int), .int .i16 ((v : Int) - 65536)], .string t, .bool true]) (by simp [results, Tryz.results59, go_sem, c0, c1, c2, c3]) rfl ⟨by rw [HO.out], (((hbw.setCell (by simp) _).setCell (by simp) _).setCell (by simp) _).setCell (by simp) _⟩
      | false =>
        have HO := show Hid (okb = false) from by rw [show okb = _ from Hok.out, dz, heq]; rfl
        go_wp2
        exact bodyPost_ret (v := .tuple #[.agg #[.int .u8 1, .string (s.extract 2 (2 + k)), .int .u16 (sq : Int), .int .i16 ((v : Int) - 65536)], .string t, .bool false]) (by simp [results, Tryz.results59, go_sem, c0, c1, c2, c3]) rfl ⟨by rw [HO.out], (((hbw.setCell (by simp) _).setCell (by simp) _).setCell (by simp) _).setCell (by simp) _⟩
    · have dz : decide (t.size ≤ s.size) = false := decide_eq_false hsz
      have HO := show Hid (okb = false) from by rw [show okb = _ from Hok.out, dz]; rfl
      clear hsz
      go_wp2
      exact bodyPost_ret (v := .tuple #[.agg #[.int .u8 1, .string (s.extract 2 (2 + k)), .int .u16 (sq : Int), .int .i16 ((v : Int) - 65536)], .string t, .bool false]) (by simp [results, Tryz.results59, go_sem, c0, c1, c2, c3]) rfl ⟨by rw [HO.out], (((hbw.setCell (by simp) _).setCell (by simp) _).setCell (by simp) _).setCell (by simp) _⟩
  · have hrb : ((r : Int) == 0) = false := by rw [beq_eq_false_iff_ne]; omega
    have HO := show Hid (okb = false) from by rw [show okb = _ from Hok.out, decide_eq_false hr]; rfl
    clear hr
    go_wp2
    exact bodyPost_ret (v := .tuple #[.agg #[.int .u8 1, .string (s.extract 2 (2 + k)), .int .u16 (sq : Int), .int .i16 ((v : Int) - 65536)], .string t, .bool false]) (by simp [results, Tryz.results59, go_sem, c0, c1, c2, c3]) rfl ⟨by rw [HO.out], (((hbw.setCell (by simp) _).setCell (by simp) _).setCell (by simp) _).setCell (by simp) _⟩
end Go.Proofs.YthccpacmklhejaaGreatDoor
