/-
  (*canallaw.World).texts and step, for the kinds up to 2.
-/
import Derived.Test.YthccpacmklhejaaGreatDoorDecodes
namespace Go.Proofs.YthccpacmklhejaaGreatDoor
open Go.RowKit

/-- A step of a script. -/
structure OpV where
  kind : Int
  a : Int
  b : Int
  s : ByteArray
  e : Ev
  c : Int
  d : Int

def OpV.cells (o : OpV) : List Value := [.int .i64 o.kind, .int .i64 o.a, .int .i64 o.b, .string o.s, .int .u8 (o.e.op : Int), .string o.e.key, .int .u16 (o.e.seq : Int), .int .i16 o.e.val, .int .i64 o.c, .int .i64 o.d]

/-- What a step leaves. -/
def Left (W : World) (wb : Nat) (ents : List Ent) (cnt : Nat) (w' : World) : Prop := ∃ ents' cnt' ve' vm', Inv w' wb ents' cnt' ve' vm' ∧ ents'.length ≤ ents.length + 4 ∧ cnt' ≤ cnt + 1 ∧ Below wb W w'

theorem Left.below {W w' : World} {wb : Nat} {ents : List Ent} {cnt : Nat} {ve vm : Value} (h : Inv W wb ents cnt ve vm) (hb : Below W.heap.size W w') : Left W wb ents cnt w' :=
  ⟨ents, cnt, ve, vm, h.below hb, by omega, by omega, hb.mono (Nat.le_of_lt (heap_lt h.box))⟩

theorem Left.after {W w1 w' : World} {wb : Nat} {ents : List Ent} {cnt : Nat} (hb : Below wb W w1) (h : Left w1 wb ents cnt w') : Left W wb ents cnt w' := by
  obtain ⟨ents', cnt', ve', vm', h1, h2, h3, h4⟩ := h
  exact ⟨ents', cnt', ve', vm', h1, h2, h3, hb.trans h4⟩

set_option maxRecDepth 100000 in
set_option maxHeartbeats 1000000 in
theorem texts_one (W : World) (wb : Nat) (a b c d : Int) (s : ByteArray) (e : Ev) (hok : e.ok) (hks : e.key.size ≤ 9223372036854775800) :
    Calls Tryz.prog 11 #[.pointer (some ⟨wb, 0, none⟩), .agg #[.int .i64 1, .int .i64 a, .int .i64 b, .string s, .int .u8 (e.op : Int), .string e.key, .int .u16 (e.seq : Int), .int .i16 e.val, .int .i64 c, .int .i64 d]] W fun en w' => en = .returned (.bool true) ∧ Below W.heap.size W w' := by
  have hE := show Hid _ from fun w => cencode_any e w hok.2.1
  have hR := show Hid _ from fun w => rencode_any e w hok hks
  have hN := show Hid _ from num_any
  obtain ⟨op, key, seq, val⟩ := e
  unfold Ev.value at hE hR
  simp only at hE hR ⊢
  generalize encStr ⟨op, key, seq, val⟩ = t at hE hR
  generalize refuse ⟨op, key, seq, val⟩ = r at hE hR
  clear hok hks
  go_enter Tryz.func11, Tryz.ntmps11
  go_wp2_with (first
    | (go_at_call 16; refine (hE.out _).mono ?_; rintro en w1 ⟨rfl, hb1⟩; have hx := (hb1.block W.heap.size (by simp)).trans (heap_alloc_new W _); have c4 : w1.cell? ⟨W.heap.size, 4, none⟩ = some (.int .u8 (op : Int)) := box_cell hx 4; have c5 : w1.cell? ⟨W.heap.size, 5, none⟩ = some (.string key) := box_cell hx 5; have c6 : w1.cell? ⟨W.heap.size, 6, none⟩ = some (.int .u16 (seq : Int)) := box_cell hx 6; have c7 : w1.cell? ⟨W.heap.size, 7, none⟩ = some (.int .i16 val) := box_cell hx 7; have hz := hb1.size; have hB1 := ((Below.refl W.heap.size W).alloc (Nat.le_refl _) _).trans (hb1.mono (by simp)); clear hx hb1 hE; simp only [World.size_alloc] at hz)
    | (go_at_call 17; refine (hR.out _).mono ?_; rintro en w2 ⟨rfl, hb2⟩)
    | (go_at_call 15; refine (hN.out _ _).mono ?_; rintro en w3 ⟨rfl, rfl⟩))
  go_ret
  exact ⟨rfl, hB1.trans (hb2.mono (by omega))⟩

set_option maxRecDepth 100000 in
set_option maxHeartbeats 1000000 in
theorem texts_two (W : World) (wb : Nat) (ents : List Ent) (cnt : Nat) (ve vm : Value) (a b c d : Int) (s : ByteArray) (e : Ev) (hI : Inv W wb ents cnt ve vm) (hcnt : cnt ≤ 2000000000000) (hlen : ents.length ≤ 6400000000000) :
    Calls Tryz.prog 11 #[.pointer (some ⟨wb, 0, none⟩), .agg #[.int .i64 2, .int .i64 a, .int .i64 b, .string s, .int .u8 (e.op : Int), .string e.key, .int .u16 (e.seq : Int), .int .i16 e.val, .int .i64 c, .int .i64 d]] W fun en w' => en = .returned (.bool true) ∧ Left W wb ents cnt w' := by
  have hD : Hid (∀ o, Calls Tryz.prog 18 #[.pointer (some ⟨wb, 0, none⟩), .string s] (W.alloc o) fun en w' => en = .returned (.bool true) ∧ Left W wb ents cnt w') := by
    intro o
    refine (decodes_any (W.alloc o) wb ents cnt ve vm s (hI.alloc o) hcnt hlen).mono ?_
    rintro en w' ⟨rfl, ents', ve', vm', h1, h2, h3⟩
    exact ⟨rfl, ents', cnt + 1, ve', vm', h1, by omega, by omega, ((Below.refl wb W).alloc (Nat.le_of_lt (heap_lt hI.box)) o).trans h3⟩
  clear hI
  obtain ⟨op, key, seq, val⟩ := e
  go_enter Tryz.func11, Tryz.ntmps11
  go_wp2_with (go_at_call 18; refine (hD.out _).mono ?_; rintro en w1 ⟨rfl, hl⟩)
  go_ret
  exact ⟨rfl, hl⟩

set_option maxRecDepth 100000 in
set_option maxHeartbeats 1000000 in
theorem step_text (W : World) (wb : Nat) (ents : List Ent) (cnt : Nat) (ve vm : Value) (k a b c d : Int) (s : ByteArray) (e : Ev) (hk : k = 1 ∨ k = 2) (hok : e.ok) (hks : e.key.size ≤ 9223372036854775800) (hI : Inv W wb ents cnt ve vm) (hcnt : cnt ≤ 2000000000000) (hlen : ents.length ≤ 6400000000000) :
    Calls Tryz.prog 8 #[.pointer (some ⟨wb, 0, none⟩), .agg #[.int .i64 k, .int .i64 a, .int .i64 b, .string s, .int .u8 (e.op : Int), .string e.key, .int .u16 (e.seq : Int), .int .i16 e.val, .int .i64 c, .int .i64 d]] W fun en w' => en = .returned (.bool true) ∧ Left W wb ents cnt w' := by
  have hT : Hid (∀ o, Calls Tryz.prog 11 #[.pointer (some ⟨wb, 0, none⟩), .agg #[.int .i64 k, .int .i64 a, .int .i64 b, .string s, .int .u8 (e.op : Int), .string e.key, .int .u16 (e.seq : Int), .int .i16 e.val, .int .i64 c, .int .i64 d]] (W.alloc o) fun en w' => en = .returned (.bool true) ∧ Left W wb ents cnt w') := by
    intro o
    have hz := heap_lt hI.box
    rcases hk with rfl | rfl
    · refine (texts_one (W.alloc o) wb a b c d s e hok hks).mono ?_
      rintro en w' ⟨rfl, h⟩
      exact ⟨rfl, (Left.below (hI.alloc o) h).after ((Below.refl wb W).alloc (by omega) o)⟩
    · refine (texts_two (W.alloc o) wb ents cnt ve vm a b c d s e (hI.alloc o) hcnt hlen).mono ?_
      rintro en w' ⟨rfl, h⟩
      exact ⟨rfl, h.after ((Below.refl wb W).alloc (by omega) o)⟩
  clear hI hok hks
  obtain ⟨op, key, seq, val⟩ := e
  simp only at hT ⊢
  have hk1 : 1 ≤ k := by omega
  have hk3 : k ≤ 3 := by omega
  go_enter Tryz.func8, Tryz.ntmps8
  go_wp2_with (go_at_call 11; refine (hT.out _).mono ?_; rintro en w1 ⟨rfl, hl⟩)
  go_ret
  exact ⟨rfl, hl⟩

set_option maxRecDepth 100000 in
set_option maxHeartbeats 1000000 in
theorem step_none (W : World) (wb : Nat) (k a b c d : Int) (s : ByteArray) (e : Ev) (hk : k ≤ 0) :
    Calls Tryz.prog 8 #[.pointer (some ⟨wb, 0, none⟩), .agg #[.int .i64 k, .int .i64 a, .int .i64 b, .string s, .int .u8 (e.op : Int), .string e.key, .int .u16 (e.seq : Int), .int .i16 e.val, .int .i64 c, .int .i64 d]] W fun en w' => en = .returned (.bool true) ∧ Below W.heap.size W w' := by
  obtain ⟨op, key, seq, val⟩ := e
  have hk1 : ¬ 1 ≤ k := by omega
  have hk4 : ¬ 4 ≤ k := by omega
  have hk10 : ¬ k = 10 := by omega
  go_enter Tryz.func8, Tryz.ntmps8
  go_wp2
  go_ret
  exact ⟨rfl, (Below.refl _ _).alloc (Nat.le_refl _) _⟩
end Go.Proofs.YthccpacmklhejaaGreatDoor
