/-
  (*canallaw.World).texts and step, for Fold; canallaw.talks with Fold, canallaw.Folds.
-/
import Derived.Test.YthccpacmklhejaaGreatDoorTalks
import Derived.Test.YthccpacmklhejaaGreatDoorRefFoldC
namespace Go.Proofs.YthccpacmklhejaaGreatDoor
open Go.RowKit

/-- The program and the document answer alike. -/
theorem fold_same (s : ByteArray) (n : Int) : ∃ (t : ByteArray) (r : Nat), (∀ w, Tab w → Calls Tryz.prog 19 #[.string s, .int .i64 n] w fun en w' => en = .returned (.tuple #[.string t, .int .i64 (r : Int)]) ∧ Below w.heap.size w w') ∧
    (∀ w, Calls Tryz.prog 20 #[.string s, .int .i64 n] w fun en w' => en = .returned (.tuple #[.string t, .int .i64 (r : Int)]) ∧ Below w.heap.size w w') := by
  by_cases h : 400 < s.size
  · exact ⟨⟨#[]⟩, 1, fun w _ => cfold_of (fold_long s n w h), fun w => rfold_long s n w h⟩
  · obtain ⟨es, m, hp⟩ := parsed_exists s
    by_cases hn : n < 0 ∨ (es.length : Int) < n
    · exact ⟨⟨#[]⟩, 3, fun w _ => cfold_of (fold_bad s n w (by omega) es m hp hn), fun w => rfold_bad s n w (by omega) es m hp hn⟩
    · obtain ⟨k, rfl⟩ : ∃ k : Nat, n = (k : Int) := ⟨n.toNat, by omega⟩
      exact ⟨⟨(foldB (es.take k)).toArray⟩, 0, fun w ht => cfold_of (fold_ok s k w (by omega) es m hp (by omega) ht), fun w => rfold_ok s k w (by omega) es m hp (by omega)⟩

set_option maxRecDepth 100000 in
set_option maxHeartbeats 1000000 in
theorem texts_three (W : World) (wb : Nat) (a b c d : Int) (s : ByteArray) (e : Ev) (ht : Tab W) :
    Calls Tryz.prog 11 #[.pointer (some ⟨wb, 0, none⟩), .agg #[.int .i64 3, .int .i64 a, .int .i64 b, .string s, .int .u8 (e.op : Int), .string e.key, .int .u16 (e.seq : Int), .int .i16 e.val, .int .i64 c, .int .i64 d]] W fun en w' => en = .returned (.bool true) ∧ Below W.heap.size W w' := by
  obtain ⟨t, r, hC, hR⟩ := fold_same s a
  have hN := show Hid _ from num_any
  obtain ⟨op, key, seq, val⟩ := e
  have HC := show Hid _ from fun (_ : Unit) => hC (W.alloc (.cells #[.int .i64 3, .int .i64 a, .int .i64 b, .string s, .int .u8 (op : Int), .string key, .int .u16 (seq : Int), .int .i16 val, .int .i64 c, .int .i64 d] 43)) (ht.old ((Below.refl _ _).alloc (Nat.le_refl _) _))
  have HR := show Hid _ from hR
  clear hC hR ht
  go_enter Tryz.func11, Tryz.ntmps11
  go_wp2_with (first
    | (go_at_call 19; refine (HC.out ()).mono ?_; rintro en w1 ⟨rfl, hb1⟩; have hx := (hb1.block W.heap.size (by simp)).trans (heap_alloc_new W _); have c1 : w1.cell? ⟨W.heap.size, 1, none⟩ = some (.int .i64 a) := box_cell hx 1; have c3 : w1.cell? ⟨W.heap.size, 3, none⟩ = some (.string s) := box_cell hx 3; have hB1 : Below W.heap.size W w1 := ((Below.refl _ _).alloc (Nat.le_refl _) _).trans (hb1.mono (by simp)); clear hx hb1)
    | (go_at_call 20; refine (HR.out _).mono ?_; rintro en w2 ⟨rfl, hb2⟩)
    | (go_at_call 15; refine (hN.out _ _).mono ?_; rintro en w3 ⟨rfl, rfl⟩))
  go_ret
  exact ⟨rfl, hB1.trans (hb2.mono hB1.size)⟩

set_option maxRecDepth 100000 in
set_option maxHeartbeats 1000000 in
theorem step_three (W : World) (wb : Nat) (a b c d : Int) (s : ByteArray) (e : Ev) (ht : Tab W) :
    Calls Tryz.prog 8 #[.pointer (some ⟨wb, 0, none⟩), .agg #[.int .i64 3, .int .i64 a, .int .i64 b, .string s, .int .u8 (e.op : Int), .string e.key, .int .u16 (e.seq : Int), .int .i16 e.val, .int .i64 c, .int .i64 d]] W fun en w' => en = .returned (.bool true) ∧ Below W.heap.size W w' := by
  have hT : Hid (∀ o, Calls Tryz.prog 11 #[.pointer (some ⟨wb, 0, none⟩), .agg #[.int .i64 3, .int .i64 a, .int .i64 b, .string s, .int .u8 (e.op : Int), .string e.key, .int .u16 (e.seq : Int), .int .i16 e.val, .int .i64 c, .int .i64 d]] (W.alloc o) fun en w' => en = .returned (.bool true) ∧ Below W.heap.size W w') := by
    intro o
    have ho : Below W.heap.size W (W.alloc o) := (Below.refl _ _).alloc (Nat.le_refl _) _
    refine (texts_three (W.alloc o) wb a b c d s e (ht.old ho)).mono ?_
    rintro en w' ⟨rfl, h⟩
    exact ⟨rfl, ho.trans (h.mono ho.size)⟩
  clear ht
  obtain ⟨op, key, seq, val⟩ := e
  simp only at hT ⊢
  go_enter Tryz.func8, Tryz.ntmps8
  go_wp2_with (go_at_call 11; refine (hT.out _).mono ?_; rintro en w1 ⟨rfl, hl⟩)
  go_ret
  exact ⟨rfl, hl⟩

set_option maxRecDepth 100000 in
set_option maxHeartbeats 1000000 in
theorem talks3_any (a : Option Addr) (cap : Nat) (ops : List OpV) (w : World) (hlen : ops.length ≤ 1600000000000) (hev : IsOps w a ops) (ht : Tab w) :
    Calls Tryz.prog 6 #[.slice a ops.length cap, .int .i64 3, .int .i64 3] w fun en w' => en = .returned (.bool true) ∧ Below w.heap.size w w' := by
  have Hev := show Hid (IsOps w a ops) from hev
  have Ht := show Hid (Tab w) from ht
  clear hev ht
  go_enter Tryz.func6, Tryz.ntmps6
  go_wp2
  have HI0 := show Hid _ from Inv.new w
  go_loopw [8] (fun i wr => ∃ (k : Nat) (ents : List Ent) (cnt : Nat) (ve vm : Value), k ≤ ops.length ∧ i = .int .i64 (k : Int) ∧ ents.length ≤ 4 * k ∧ cnt ≤ k ∧ Inv wr w.heap.size ents cnt ve vm ∧ Below w.heap.size w wr) (fun i _ => ops.length - (intOf i).toNat)
  case atStart => exact ⟨0, [], 0, _, _, Nat.zero_le _, rfl, by simp, by simp, HI0.out, (Below.refl _ _).alloc (Nat.le_refl _) _⟩
  case round =>
    obtain ⟨k, ents, cnt, ve, vm, hk, rfl, hel, hcl, hI, hb⟩ := hrel
    clear HI0
    by_cases hkl : k < ops.length
    · rcases Hev.out.2 with h0 | ⟨b, off, rfl, hbl, hcs⟩
      · rw [h0] at hkl; simp at hkl
      have hc := fun j hj => (hb.cell (p := ⟨b, off + k * 10 + j, none⟩) hbl).trans (hcs k hkl j hj)
      obtain ⟨hok, hks⟩ := Hev.out.1 (ops[k]'hkl) (List.getElem_mem hkl)
      generalize ops[k]'hkl = o at hc hok hks
      obtain ⟨kd, oa, ob, os, ⟨eop, ekey, eseq, eval⟩, oc, od⟩ := o
      simp only at hok hks
      have c0 : wr.cell? ⟨b, off + k * 10, none⟩ = some (.int .i64 kd) := hc 0 (by decide)
      have c1 : wr.cell? ⟨b, off + k * 10 + 1, none⟩ = some (.int .i64 oa) := hc 1 (by decide)
      have c2 : wr.cell? ⟨b, off + k * 10 + 2, none⟩ = some (.int .i64 ob) := hc 2 (by decide)
      have c3 : wr.cell? ⟨b, off + k * 10 + 3, none⟩ = some (.string os) := hc 3 (by decide)
      have c4 : wr.cell? ⟨b, off + k * 10 + 4, none⟩ = some (.int .u8 (eop : Int)) := hc 4 (by decide)
      have c5 : wr.cell? ⟨b, off + k * 10 + 5, none⟩ = some (.string ekey) := hc 5 (by decide)
      have c6 : wr.cell? ⟨b, off + k * 10 + 6, none⟩ = some (.int .u16 (eseq : Int)) := hc 6 (by decide)
      have c7 : wr.cell? ⟨b, off + k * 10 + 7, none⟩ = some (.int .i16 eval) := hc 7 (by decide)
      have c8 : wr.cell? ⟨b, off + k * 10 + 8, none⟩ = some (.int .i64 oc) := hc 8 (by decide)
      have c9 : wr.cell? ⟨b, off + k * 10 + 9, none⟩ = some (.int .i64 od) := hc 9 (by decide)
      clear hc hcs Hev
      have HI := show Hid (Inv wr w.heap.size ents cnt ve vm ∧ Below w.heap.size w wr) from ⟨hI, hb⟩
      clear hI hb
      have hki : (k : Int) < (ops.length : Int) := by omega
      have hk0 : (0 : Int) ≤ (k : Int) := by omega
      by_cases hkd : 3 < kd
      · go_wp2
        go_roundw
        case rel => exact ⟨k + 1, ents, cnt, ve, vm, by omega, by go_num, by omega, by omega, HI.out.1.alloc _, HI.out.2.alloc HI.out.2.size _⟩
        case measure => simp [intOf]; omega
      · have hS : Hid (∀ x, Calls Tryz.prog 8 #[.pointer (some ⟨w.heap.size, 0, none⟩), .agg #[.int .i64 kd, .int .i64 oa, .int .i64 ob, .string os, .int .u8 (eop : Int), .string ekey, .int .u16 (eseq : Int), .int .i16 eval, .int .i64 oc, .int .i64 od]] (wr.alloc x) fun en w' => en = .returned (.bool true) ∧ Left w w.heap.size ents cnt w') := by
          intro x
          have hbx := HI.out.2.alloc HI.out.2.size x
          have hIx := HI.out.1.alloc x
          by_cases h0 : kd ≤ 0
          · refine (step_none (wr.alloc x) w.heap.size kd oa ob oc od os ⟨eop, ekey, eseq, eval⟩ h0).mono ?_
            rintro en w' ⟨rfl, h⟩
            exact ⟨rfl, (Left.below hIx h).after hbx⟩
          · by_cases h3 : kd = 3
            · subst h3
              refine (step_three (wr.alloc x) w.heap.size oa ob oc od os ⟨eop, ekey, eseq, eval⟩ (Ht.out.old hbx)).mono ?_
              rintro en w' ⟨rfl, h⟩
              exact ⟨rfl, (Left.below hIx h).after hbx⟩
            refine (step_text (wr.alloc x) w.heap.size ents cnt ve vm kd oa ob oc od os ⟨eop, ekey, eseq, eval⟩ (by omega) hok hks hIx (by omega) (by omega)).mono ?_
            rintro en w' ⟨rfl, h⟩
            exact ⟨rfl, h.after hbx⟩
        clear HI hok hks
        go_wp2_with (first
          | (go_at_call 8; refine (hS.out _).mono ?_; rintro en w2 ⟨rfl, ents2, cnt2, ve2, vm2, hI2, he2, hc2, hb2⟩; clear hS; obtain ⟨ae, ce, rfl⟩ := own_shape hI2.evs; obtain ⟨am, cm, rfl⟩ := own_shape hI2.mks; have HK := show Hid (_ ∧ _ ∧ _) from And.intro hI2 (And.intro hb2 (kept_any w2 w.heap.size ents2 cnt2 ae am ce cm hI2 (by omega))); clear hI2 hb2)
          | (go_at_call 9; refine Calls.mono HK.out.2.2 ?_; rintro en w3 ⟨rfl, q, rfl⟩))
        go_roundw
        case rel => exact ⟨k + 1, ents2, cnt2, _, _, by omega, by go_num, by omega, by omega, HK.out.1.below (drewN_below _ _), HK.out.2.1.trans ((drewN_below w2 _).mono HK.out.2.1.size)⟩
        case measure => simp [intOf]; omega
    · go_wp2
      go_ret
      exact ⟨rfl, hb⟩

set_option maxHeartbeats 1000000 in
theorem folds_any (a : Option Addr) (cap : Nat) (ops : List OpV) (w : World) (hlen : ops.length ≤ 1600000000000) (hev : IsOps w a ops) (ht : Tab w) :
    Calls Tryz.prog 4 #[.slice a ops.length cap] w fun en w' => en = .returned (.bool true) ∧ Below w.heap.size w w' := by
  have hT : Hid (Calls Tryz.prog 6 #[.slice a ops.length cap, .int .i64 3, .int .i64 3] w fun en w' => en = .returned (.bool true) ∧ Below w.heap.size w w') := talks3_any a cap ops w hlen hev ht
  clear hev ht
  go_enter Tryz.func4, Tryz.ntmps4
  go_wp2_with (go_at_call 6; refine hT.out.mono ?_; rintro en w1 ⟨rfl, hb⟩)
  go_ret
  exact ⟨rfl, hb⟩
end Go.Proofs.YthccpacmklhejaaGreatDoor
