/-
  known.Keys.Take.
-/
import Derived.Test.YthpknaeiaiojgaaDoorTake0
namespace Go.Proofs.YthpknaeiaiojgaaDoor
open Go.RowKit

def chgZ : Value := .agg #[.int .i32 0, .int .i64 0, .int .i16 0]
def chgV (p : Nat) (l s : Int) : Value := .agg #[.int .i32 (p : Int), .int .i64 l, .int .i16 s]

set_option maxRecDepth 100000 in
set_option maxHeartbeats 1000000 in
theorem take_not (B kb : Nat) (a : Option Addr) (c : Nat) (rs : List EV) (e : Ev) (w : World) (hB : B ≤ kb) (hlen : rs.length ≤ 1000) (hK : KAt B kb a c rs w) (hm : plcE rs e.key < rs.length) (hn : decide (0 < wrap16 ((e.seq : Int) - ((rs[plcE rs e.key]).seq : Int))) = false) :
    Calls Tryd.prog 63 #[.pointer (some ⟨kb, 0, none⟩), e.value] w fun en w' => en = .returned (.tuple #[chgZ, .bool false]) ∧ KAt B kb a c rs w' ∧ Frm B 118 148 w w' := by
  have hBw : B ≤ w.heap.size := Nat.le_trans hB (Nat.le_of_lt (heap_lt hK.1))
  obtain ⟨op, key, seq, val⟩ := e
  simp only at hm hn
  have hN : Hid (∀ w, Calls Tryd.prog 83 #[.int .u16 (seq : Int), .int .u16 ((rs[plcE rs key]'hm).seq : Int)] w fun en w' => en = .returned (.bool false) ∧ ∃ m, w' = w.drewN m) := by
    intro w
    have := newer_any seq (rs[plcE rs key]'hm).seq w
    rw [hn] at this
    exact this.mono fun en w' ⟨h1, h2⟩ => ⟨h1, 0, by rw [h2]; rfl⟩
  clear hn
  have hat := entCells_at rs (plcE rs key) hm 1 (by decide)
  have e1 : (entCells1 (rs[plcE rs key]'hm))[1]? = some (.int .u16 ((rs[plcE rs key]'hm).seq : Int)) := rfl
  rw [e1] at hat
  clear e1
  have HP := show Hid _ from fun (w : World) (hb : w.heap[kb]? = some (.cells #[.slice a rs.length c] 118 (0, 0))) (ho : w.ownsRow B 148 4 (.slice a rs.length c) rs.length (entCells rs)) => kplace_any kb a c rs key B w hlen hb ho
  generalize (rs[plcE rs key]'hm).seq = q at hN hat
  generalize plcE rs key = m at hm hat HP
  rcases own_addr hK.2 with ⟨_, h0⟩ | ⟨g, rfl⟩
  · omega
  have hgl : g < w.heap.size := (own_lt hK.2).2
  have HK := show Hid (_ ∧ _) from And.intro ((hK.alloc (.cells #[.int .u8 (op : Int), .string key, .int .u16 (seq : Int), .int .i16 val] 38)).alloc (.cells #[.int .i32 0, .int .i64 0, .int .i16 0] 123)) (((Frm.refl B 118 148 w).alloc hBw (.cells #[.int .u8 (op : Int), .string key, .int .u16 (seq : Int), .int .i16 val] 38)).alloc hBw (.cells #[.int .i32 0, .int .i64 0, .int .i16 0] 123))
  have hcb := heap_alloc_new (w.alloc (.cells #[.int .u8 (op : Int), .string key, .int .u16 (seq : Int), .int .i16 val] 38)) (.cells #[.int .i32 0, .int .i64 0, .int .i16 0] 123)
  have heb : ((w.alloc (.cells #[.int .u8 (op : Int), .string key, .int .u16 (seq : Int), .int .i16 val] 38)).alloc (.cells #[.int .i32 0, .int .i64 0, .int .i16 0] 123)).heap[w.heap.size]? = some (.cells #[.int .u8 (op : Int), .string key, .int .u16 (seq : Int), .int .i16 val] 38 (0, 0)) := by
    rw [Below.heap_alloc _ _ _ (by simp)]
    exact heap_alloc_new w _
  have hcb : ((w.alloc (.cells #[.int .u8 (op : Int), .string key, .int .u16 (seq : Int), .int .i16 val] 38)).alloc (.cells #[.int .i32 0, .int .i64 0, .int .i16 0] 123)).heap[w.heap.size + 1]? = some (.cells #[.int .i32 0, .int .i64 0, .int .i16 0] 123 (0, 0)) := by
    rw [World.size_alloc] at hcb
    exact hcb
  have hkl : kb < w.heap.size := heap_lt hK.1
  clear hK
  unfold Ev.value
  go_enter Tryd.func63, Tryd.ntmps63
  go_wp2_with fail
  generalize ((w.alloc (.cells #[.int .u8 (op : Int), .string key, .int .u16 (seq : Int), .int .i16 val] 38)).alloc (.cells #[.int .i32 0, .int .i64 0, .int .i16 0] 123)) = w1 at HK hcb heb ⊢
  refine (HP.out w1 HK.out.1.1 HK.out.1.2).mono ?_
  rintro en w2 ⟨rfl, rfl⟩
  have hkc := HK.out.1.cell
  have hsq : w2.cell? ⟨w.heap.size, 2, none⟩ = some (.int .u16 (seq : Int)) := row_cell heb 2
  have hrq : w2.cell? ⟨g, m * 4 + 1, none⟩ = some (.int .u16 (q : Int)) := (HK.out.1.2.cellAt (m * 4 + 1) (by omega)).trans hat
  have hne : ((m : Int) == (rs.length : Int)) = false := by rw [beq_eq_false_iff_ne]; omega
  have hmi : (m : Int) < (rs.length : Int) := by omega
  have hm0 : (0 : Int) ≤ (m : Int) := by omega
  clear HP hat heb
  go_wp2
  go_quiet (first | (go_at_call 83; refine Calls.quiet_of (hN.out _)))
  clear hkc hsq hrq hN
  have d0 : (w2.drewN nq).cell? ⟨w.heap.size + 1, 0, none⟩ = some (.int .i32 0) := row_cell hcb 0
  have d1 : (w2.drewN nq).cell? ⟨w.heap.size + 1, 1, none⟩ = some (.int .i64 0) := row_cell hcb 1
  have d2 : (w2.drewN nq).cell? ⟨w.heap.size + 1, 2, none⟩ = some (.int .i16 0) := row_cell hcb 2
  have z0 : (w2.drewN nq).frozen? ⟨w.heap.size + 1, 0, none⟩ = false := row_frozen hcb 0
  have z1 : (w2.drewN nq).frozen? ⟨w.heap.size + 1, 1, none⟩ = false := row_frozen hcb 1
  have z2 : (w2.drewN nq).frozen? ⟨w.heap.size + 1, 2, none⟩ = false := row_frozen hcb 2
  go_wp2
  have hg := row_set (j := 2) (row_set (j := 1) (row_set (W := w2.drewN nq) (j := 0) hcb (.int .i32 0)) (.int .i64 0)) (.int .i16 0)
  have hg' : _ = some (Obj.cells #[.int .i32 0, .int .i64 0, .int .i16 0] 123 (0, 0)) := hg
  have hK3 : KAt B kb (some ⟨g, 0, none⟩) c rs (w2.drewN nq) := HK.out.1
  refine bodyPost_ret (results_row_tmp (p := 4) (u := 5) (ty := 123) rfl _ _ (w.heap.size + 1) 123 #[.int .i32 0, .int .i64 0, .int .i16 0] (0, 0) _ rfl hg' Tryd.underlying123 rfl (by kernel_rfl)) rfl ⟨rfl, ?_, ?_⟩
  · have ho : ∀ g' : Nat, (some ⟨g, 0, none⟩ : Option Addr) = some ⟨g', 0, none⟩ → g' ≠ w.heap.size + 1 := fun g' h => by simp at h; omega
    exact ((hK3.setOther (by omega) ho 0 _).setOther (by omega) ho 1 _).setOther (by omega) ho 2 _
  · exact (((HK.out.2.drewN nq).setNew hBw (by omega) _).setNew hBw (by omega) _).setNew hBw (by omega) _

set_option maxRecDepth 100000 in
set_option maxHeartbeats 2000000 in
theorem take_old (B kb : Nat) (a : Option Addr) (c : Nat) (rs : List EV) (e : Ev) (w : World) (hB : B ≤ kb) (hlen : rs.length ≤ 1000) (hK : KAt B kb a c rs w) (hm : plcE rs e.key < rs.length) (hn : decide (0 < wrap16 ((e.seq : Int) - ((rs[plcE rs e.key]).seq : Int))) = true)
    (hk1 : 0 < e.key.size) (hk2 : e.key.size ≤ 1000) (hol : 0 ≤ (rs[plcE rs e.key]).live ∧ (rs[plcE rs e.key]).live ≤ 1) :
    Calls Tryd.prog 63 #[.pointer (some ⟨kb, 0, none⟩), e.value] w fun en w' => en = .returned (.tuple #[chgV (Utf8.decode e.key 0).1 ((madeE e).live - (rs[plcE rs e.key]).live) (wrap16 ((madeE e).value - (rs[plcE rs e.key]).value)), .bool true]) ∧ (∃ a' c', KAt B kb a' c' (rs.set (plcE rs e.key) (madeE e)) w') ∧ Frm B 118 148 w w' := by
  have hBw : B ≤ w.heap.size := Nat.le_trans hB (Nat.le_of_lt (heap_lt hK.1))
  obtain ⟨op, key, seq, val⟩ := e
  simp only at hm hn hk1 hk2 hol
  have hN : Hid (∀ w, Calls Tryd.prog 83 #[.int .u16 (seq : Int), .int .u16 ((rs[plcE rs key]'hm).seq : Int)] w fun en w' => en = .returned (.bool true) ∧ ∃ m, w' = w.drewN m) := by
    intro w
    have := newer_any seq (rs[plcE rs key]'hm).seq w
    rw [hn] at this
    exact this.mono fun en w' ⟨h1, h2⟩ => ⟨h1, 0, by rw [h2]; rfl⟩
  clear hn
  have hM := show Hid _ from fun w => made_any ⟨op, key, seq, val⟩ w
  have hG := show Hid _ from fun w => group_any key w hk1 hk2
  have hml0 : 0 ≤ (madeE ⟨op, key, seq, val⟩).live ∧ (madeE ⟨op, key, seq, val⟩).live ≤ 1 := by
    unfold madeE
    simp only
    split <;> omega
  unfold EV.val' Ev.value at hM
  unfold Ev.value
  have hat : ∀ j, j < 4 → (entCells rs)[plcE rs key * 4 + j]? = (entCells1 (rs[plcE rs key]'hm))[j]? := fun j hj => entCells_at rs (plcE rs key) hm j hj
  have HP := show Hid _ from fun (w : World) (hb : w.heap[kb]? = some (.cells #[.slice a rs.length c] 118 (0, 0))) (ho : w.ownsRow B 148 4 (.slice a rs.length c) rs.length (entCells rs)) => kplace_any kb a c rs key B w hlen hb ho
  generalize madeE ⟨op, key, seq, val⟩ = md at hM hml0 ⊢
  obtain ⟨mn, ms, ml, mv⟩ := md
  obtain ⟨oe, hoe⟩ : ∃ oe, rs[plcE rs key]'hm = oe := ⟨_, rfl⟩
  simp only [hoe] at hN hol hat ⊢
  obtain ⟨on, os, ol, ov⟩ := oe
  simp only at hN hol hml0 hM hat ⊢
  clear hoe
  have hml : plcE rs key < rs.length := hm
  generalize plcE rs key = m at hm hat HP hml
  generalize (Utf8.decode key 0).1 = pt at hG
  rcases own_addr hK.2 with ⟨_, h0⟩ | ⟨g, rfl⟩
  · omega
  have hgl : g < w.heap.size := (own_lt hK.2).2
  have HK := show Hid (_ ∧ _) from And.intro ((hK.alloc (.cells #[.int .u8 (op : Int), .string key, .int .u16 (seq : Int), .int .i16 val] 38)).alloc (.cells #[.int .i32 0, .int .i64 0, .int .i16 0] 123)) (((Frm.refl B 118 148 w).alloc hBw (.cells #[.int .u8 (op : Int), .string key, .int .u16 (seq : Int), .int .i16 val] 38)).alloc hBw (.cells #[.int .i32 0, .int .i64 0, .int .i16 0] 123))
  have hcb := heap_alloc_new (w.alloc (.cells #[.int .u8 (op : Int), .string key, .int .u16 (seq : Int), .int .i16 val] 38)) (.cells #[.int .i32 0, .int .i64 0, .int .i16 0] 123)
  have heb : ((w.alloc (.cells #[.int .u8 (op : Int), .string key, .int .u16 (seq : Int), .int .i16 val] 38)).alloc (.cells #[.int .i32 0, .int .i64 0, .int .i16 0] 123)).heap[w.heap.size]? = some (.cells #[.int .u8 (op : Int), .string key, .int .u16 (seq : Int), .int .i16 val] 38 (0, 0)) := by
    rw [Below.heap_alloc _ _ _ (by simp)]
    exact heap_alloc_new w _
  have hcb : ((w.alloc (.cells #[.int .u8 (op : Int), .string key, .int .u16 (seq : Int), .int .i16 val] 38)).alloc (.cells #[.int .i32 0, .int .i64 0, .int .i16 0] 123)).heap[w.heap.size + 1]? = some (.cells #[.int .i32 0, .int .i64 0, .int .i16 0] 123 (0, 0)) := by
    rw [World.size_alloc] at hcb
    exact hcb
  have hkl : kb < w.heap.size := heap_lt hK.1
  clear hK
  go_enter Tryd.func63, Tryd.ntmps63
  go_wp2_with fail
  generalize ((w.alloc (.cells #[.int .u8 (op : Int), .string key, .int .u16 (seq : Int), .int .i16 val] 38)).alloc (.cells #[.int .i32 0, .int .i64 0, .int .i16 0] 123)) = w1 at HK hcb heb ⊢
  refine (HP.out w1 HK.out.1.1 HK.out.1.2).mono ?_
  rintro en w2 ⟨rfl, rfl⟩
  have hkc := HK.out.1.cell
  have hsq : w2.cell? ⟨w.heap.size, 2, none⟩ = some (.int .u16 (seq : Int)) := row_cell heb 2
  have hrq : w2.cell? ⟨g, m * 4 + 1, none⟩ = some (.int .u16 (os : Int)) := (HK.out.1.2.cellAt (m * 4 + 1) (by omega)).trans (hat 1 (by decide))
  have hne : ((m : Int) == (rs.length : Int)) = false := by rw [beq_eq_false_iff_ne]; omega
  have hmi : (m : Int) < (rs.length : Int) := by omega
  have hm0 : (0 : Int) ≤ (m : Int) := by omega
  clear HP
  go_wp2
  go_quiet (first | (go_at_call 83; refine Calls.quiet_of (hN.out _)))
  clear hkc hsq hrq hN
  have HK' := show Hid (_ ∧ _) from And.intro (show KAt B kb (some ⟨g, 0, none⟩) c rs (w2.drewN nq) from HK.out.1) (HK.out.2.drewN nq)
  have heb' : (w2.drewN nq).heap[w.heap.size]? = some (.cells #[.int .u8 (op : Int), .string key, .int .u16 (seq : Int), .int .i16 val] 38 (0, 0)) := heb
  have hcb' : (w2.drewN nq).heap[w.heap.size + 1]? = some (.cells #[.int .i32 0, .int .i64 0, .int .i16 0] 123 (0, 0)) := hcb
  clear HK heb hcb
  have HK := HK'
  have heb := heb'
  have hcb := hcb'
  clear HK' heb' hcb'
  generalize w2.drewN nq = w3 at HK heb hcb ⊢
  have hkc : w3.cell? ⟨kb, 0, none⟩ = some (.slice (some ⟨g, 0, none⟩) rs.length c) := HK.out.1.cell
  have q0 : w3.cell? ⟨g, m * 4, none⟩ = some (.string on) := (HK.out.1.2.cellAt (m * 4) (by omega)).trans (hat 0 (by decide))
  have q1 : w3.cell? ⟨g, m * 4 + 1, none⟩ = some (.int .u16 (os : Int)) := (HK.out.1.2.cellAt (m * 4 + 1) (by omega)).trans (hat 1 (by decide))
  have q2 : w3.cell? ⟨g, m * 4 + 2, none⟩ = some (.int .i64 ol) := (HK.out.1.2.cellAt (m * 4 + 2) (by omega)).trans (hat 2 (by decide))
  have q3 : w3.cell? ⟨g, m * 4 + 3, none⟩ = some (.int .i16 ov) := (HK.out.1.2.cellAt (m * 4 + 3) (by omega)).trans (hat 3 (by decide))
  have hgn := (own_lt HK.out.1.2).2
  have HK4 := show Hid (_ ∧ _) from And.intro (HK.out.1.alloc (.cells #[.string on, .int .u16 (os : Int), .int .i64 ol, .int .i16 ov] 148)) (HK.out.2.alloc hBw (.cells #[.string on, .int .u16 (os : Int), .int .i64 ol, .int .i16 ov] 148))
  have hob := heap_alloc_new w3 (.cells #[.string on, .int .u16 (os : Int), .int .i64 ol, .int .i16 ov] 148)
  have heb4 : (w3.alloc (.cells #[.string on, .int .u16 (os : Int), .int .i64 ol, .int .i16 ov] 148)).heap[w.heap.size]? = some (.cells #[.int .u8 (op : Int), .string key, .int .u16 (seq : Int), .int .i16 val] 38 (0, 0)) := (Below.heap_alloc _ _ _ (by have := heap_lt heb; omega)).trans heb
  have hcb4 : (w3.alloc (.cells #[.string on, .int .u16 (os : Int), .int .i64 ol, .int .i16 ov] 148)).heap[w.heap.size + 1]? = some (.cells #[.int .i32 0, .int .i64 0, .int .i16 0] 123 (0, 0)) := (Below.heap_alloc _ _ _ (by have := heap_lt hcb; omega)).trans hcb
  have x0 : (w3.alloc (.cells #[.string on, .int .u16 (os : Int), .int .i64 ol, .int .i16 ov] 148)).cell? ⟨w.heap.size, 0, none⟩ = some (.int .u8 (op : Int)) := row_cell heb4 0
  have x1 : (w3.alloc (.cells #[.string on, .int .u16 (os : Int), .int .i64 ol, .int .i16 ov] 148)).cell? ⟨w.heap.size, 1, none⟩ = some (.string key) := row_cell heb4 1
  have x2 : (w3.alloc (.cells #[.string on, .int .u16 (os : Int), .int .i64 ol, .int .i16 ov] 148)).cell? ⟨w.heap.size, 2, none⟩ = some (.int .u16 (seq : Int)) := row_cell heb4 2
  have x3 : (w3.alloc (.cells #[.string on, .int .u16 (os : Int), .int .i64 ol, .int .i16 ov] 148)).cell? ⟨w.heap.size, 3, none⟩ = some (.int .i16 val) := row_cell heb4 3
  have hcbl := heap_lt hcb
  clear heb hcb HK
  go_wp2_with fail
  clear hkc q0 q1 q2 q3 x0 x1 x2 x3
  generalize (w3.alloc (.cells #[.string on, .int .u16 (os : Int), .int .i64 ol, .int .i16 ov] 148)) = w4 at HK4 hob heb4 hcb4 ⊢
  generalize w3.heap.size = ob at hob hgn hcbl ⊢
  refine (hM.out _).mono ?_
  rintro en w5 ⟨rfl, hb5⟩
  have HK5 := show Hid (_ ∧ _) from And.intro ((HK4.out.1.old hb5).alloc (.cells #[.string mn, .int .u16 (ms : Int), .int .i64 ml, .int .i16 mv] 148)) ((HK4.out.2.old hBw hb5).alloc hBw (.cells #[.string mn, .int .u16 (ms : Int), .int .i64 ml, .int .i16 mv] 148))
  have hsz := hb5.size
  have hol := heap_lt hob
  have hob5 : (w5.alloc (.cells #[.string mn, .int .u16 (ms : Int), .int .i64 ml, .int .i16 mv] 148)).heap[ob]? = some (.cells #[.string on, .int .u16 (os : Int), .int .i64 ol, .int .i16 ov] 148 (0, 0)) := (Below.heap_alloc _ _ _ (by omega)).trans ((hb5.block _ hol).trans hob)
  have heb5 : (w5.alloc (.cells #[.string mn, .int .u16 (ms : Int), .int .i64 ml, .int .i16 mv] 148)).heap[w.heap.size]? = some (.cells #[.int .u8 (op : Int), .string key, .int .u16 (seq : Int), .int .i16 val] 38 (0, 0)) := (Below.heap_alloc _ _ _ (by omega)).trans ((hb5.block _ (by omega)).trans heb4)
  have hcb5 : (w5.alloc (.cells #[.string mn, .int .u16 (ms : Int), .int .i64 ml, .int .i16 mv] 148)).heap[w.heap.size + 1]? = some (.cells #[.int .i32 0, .int .i64 0, .int .i16 0] 123 (0, 0)) := (Below.heap_alloc _ _ _ (by omega)).trans ((hb5.block _ (by omega)).trans hcb4)
  have hnb5 := heap_alloc_new w5 (.cells #[.string mn, .int .u16 (ms : Int), .int .i64 ml, .int .i16 mv] 148)
  have hnl : ob < w5.heap.size := by omega
  clear HK4 hob heb4 hcb4 hb5 hM
  go_wp2
  generalize (w5.alloc (.cells #[.string mn, .int .u16 (ms : Int), .int .i64 ml, .int .i16 mv] 148)) = w6 at HK5 hob5 heb5 hcb5 hnb5 ⊢
  generalize w5.heap.size = nb at hnb5 hnl ⊢
  clear hsz hol
  have hS0 : w6.drew.heap[kb]? = some (.cells #[.slice (some ⟨g, 0, none⟩) rs.length c] 118 (0, 0)) ∧ w6.drew.heap[nb]? = some (.cells #[.string mn, .int .u16 (ms : Int), .int .i64 ml, .int .i16 mv] 148 (0, 0)) := ⟨HK5.out.1.1, hnb5⟩
  have HK5' := show Hid (_ ∧ _) from And.intro HK5.out.1.drew HK5.out.2.drew
  have hob5' := show w6.drew.heap[ob]? = _ from hob5
  have heb5' := show w6.drew.heap[w.heap.size]? = _ from heb5
  have hcb5' := show w6.drew.heap[w.heap.size + 1]? = _ from hcb5
  have hnb5' := show w6.drew.heap[nb]? = _ from hnb5
  clear HK5 hob5 heb5 hcb5 hnb5
  have HK5 := HK5'
  have hob5 := hob5'
  have heb5 := heb5'
  have hcb5 := hcb5'
  have hnb5 := hnb5'
  clear HK5' hob5' heb5' hcb5' hnb5'
  refine wp_region_held_drew (S := fun w' : World => w'.heap[kb]? = some (.cells #[.slice (some ⟨g, 0, none⟩) rs.length c] 118 (0, 0)) ∧ w'.heap[nb]? = some (.cells #[.string mn, .int .u16 (ms : Int), .int .i64 ml, .int .i16 mv] 148 (0, 0))) (by kernel_rfl) hS0 (fun hH => ?_)
  generalize w6.drew = wd at HK5 hob5 heb5 hcb5 hnb5 hS0 hH ⊢
  have HF := show Hid _ from KAt.fill (w := wd) HK5.out.1 m hml ⟨mn, ms, ml, mv⟩
  refine wpAnyH_take (i := 0) (v := (.pointer (some ⟨kb, 0, none⟩))) rfl (by kernel_rfl) (by kernel_rfl) (by kernel_rfl) (fun _ _ _ h => h) (Or.inl ⟨by rfl, by intro v hSw; clear hSw; go_simp⟩) hH ?_
  refine wpAnyH_take (i := 1) (v := (.pointer (some ⟨kb, 0, none⟩))) rfl (by kernel_rfl) (by kernel_rfl) (by kernel_rfl) (fun _ _ _ h => h) (Or.inl ⟨by rfl, by intro v hSw; clear hSw; go_simp⟩) hH ?_
  refine wpAnyH_take (i := 2) (v := (.pointer (some ⟨kb, 0, none⟩))) rfl (by kernel_rfl) (by kernel_rfl) (by kernel_rfl) (fun _ _ _ h => h) (Or.inl ⟨by rfl, by intro v hSw; clear hSw; go_simp⟩) hH ?_
  refine wpAnyH_take (i := 3) (v := (.slice (some ⟨g, 0, none⟩) rs.length c)) rfl (by kernel_rfl) (by kernel_rfl) (by kernel_rfl) (fun _ _ _ h => h) (Or.inl ⟨by rfl, by intro v hSw; have s0 : v.cell? ⟨kb, 0, none⟩ = some (.slice (some ⟨g, 0, none⟩) rs.length c) := row_cell hSw.1 0; clear hSw; go_simp⟩) hH ?_
  refine wpAnyH_take (i := 4) (v := (.int .i64 (m : Int))) rfl (by kernel_rfl) (by kernel_rfl) (by kernel_rfl) (fun _ _ _ h => h) (Or.inl ⟨by rfl, by intro v hSw; clear hSw; go_simp⟩) hH ?_
  refine wpAnyH_take (i := 5) (v := (.agg #[.string mn, .int .u16 (ms : Int), .int .i64 ml, .int .i16 mv])) rfl (by kernel_rfl) (by kernel_rfl) (by kernel_rfl) (fun _ _ _ h => h) (Or.inl ⟨by rfl, by intro v hSw; have s0 : v.cell? ⟨nb, 0, none⟩ = some (.string mn) := row_cell hSw.2 0; have s1 : v.cell? ⟨nb, 1, none⟩ = some (.int .u16 (ms : Int)) := row_cell hSw.2 1; have s2 : v.cell? ⟨nb, 2, none⟩ = some (.int .i64 ml) := row_cell hSw.2 2; have s3 : v.cell? ⟨nb, 3, none⟩ = some (.int .i16 mv) := row_cell hSw.2 3; clear hSw; go_simp⟩) hH ?_
  refine wpAnyH_take (i := 6) (v := (.pointer (some ⟨g, m * 4, none⟩))) rfl (by kernel_rfl) (by kernel_rfl) (by kernel_rfl) (fun _ _ _ h => h) (Or.inl ⟨by rfl, by intro v hSw; clear hSw; go_simp⟩) hH ?_
  refine wpAnyH_ready (rs := [7]) (by kernel_rfl) (by simp) ?_
  refine AllReadyH.cons rfl (fun K hK => ?_) AllReadyH.nil
  have c0 := HF.out.1.1
  have c1 := HF.out.1.2.1
  have c2 := HF.out.1.2.2.1
  have c3 := HF.out.1.2.2.2
  have z0 := HF.out.2.1.1
  have z1 := HF.out.2.1.2.1
  have z2 := HF.out.2.1.2.2.1
  have z3 := HF.out.2.1.2.2.2
  simp only at c0 c1 c2 c3 z0 z1 z2 z3
  clear hH hS0
  go_simp
  have HF2 := show Hid (_ ∧ _) from HF.out.2.2
  simp only at HF2
  clear HF c0 c1 c2 c3 z0 z1 z2 z3
  have hBg : B ≤ g := (own_lt HK5.out.1.2).1
  have hfr : Frm B 118 148 wd _ := Frm.grown (Frm.refl B 118 148 wd) (Nat.le_trans hBw HK5.out.2.below.size) HF2.out.2 (fun g' hg' => by
    simp only [Option.some.injEq] at hg'
    subst hg'
    obtain ⟨cur, hcur⟩ := own_obj HK5.out.1.2
    exact ⟨hBg, cur, _, _, hcur, .inr rfl⟩)
  have HK6 := show Hid (_ ∧ _) from And.intro HF2.out.1 (HK5.out.2.trans hfr)
  have hob6 := (HF2.out.2.block ob (heap_lt hob5) (by simp only [ne_eq, Option.some.injEq]; omega)).trans hob5
  have heb6 := (HF2.out.2.block w.heap.size (heap_lt heb5) (by simp only [ne_eq, Option.some.injEq]; omega)).trans heb5
  have hcb6 := (HF2.out.2.block (w.heap.size + 1) (heap_lt hcb5) (by simp only [ne_eq, Option.some.injEq]; omega)).trans hcb5
  have hnb6 := (HF2.out.2.block nb (heap_lt hnb5) (by simp only [ne_eq, Option.some.injEq]; omega)).trans hnb5
  have hkb6 := (HF2.out.2.block kb (heap_lt HK5.out.1.1) (by
    simp only [ne_eq, Option.some.injEq]
    intro e
    obtain ⟨cur, hcur⟩ := own_obj HK5.out.1.2
    rw [← e] at hcur
    have := HK5.out.1.1
    rw [hcur] at this
    simp at this)).trans HK5.out.1.1
  clear hfr HF2
  refine hK.out _ _ ⟨hkb6, hnb6⟩ (fun hH => ?_)
  clear hK K hH hkb6 HK5 hob5 heb5 hcb5 hnb5
  refine wpAnyH_done (by kernel_rfl) ?_ _
  generalize ((((wd.setCell ⟨g, m * 4, none⟩ (.string mn)).setCell ⟨g, m * 4 + 1, none⟩ (.int .u16 (ms : Int))).setCell ⟨g, m * 4 + 2, none⟩ (.int .i64 ml)).setCell ⟨g, m * 4 + 3, none⟩ (.int .i16 mv)) = w7 at HK6 hob6 heb6 hcb6 hnb6 ⊢
  clear w6 wd
  go_wp2
  have hS1 : w7.drew.heap[w.heap.size]? = some (.cells #[.int .u8 (op : Int), .string key, .int .u16 (seq : Int), .int .i16 val] 38 (0, 0)) ∧ w7.drew.heap[ob]? = some (.cells #[.string on, .int .u16 (os : Int), .int .i64 ol, .int .i16 ov] 148 (0, 0)) ∧ w7.drew.heap[nb]? = some (.cells #[.string mn, .int .u16 (ms : Int), .int .i64 ml, .int .i16 mv] 148 (0, 0)) := ⟨heb6, hob6, hnb6⟩
  have HK7 := show Hid (_ ∧ _ ∧ _) from And.intro HK6.out.1.drew (And.intro HK6.out.2.drew hcb6)
  clear HK6 hcb6 heb6 hob6 hnb6
  refine wp_region_held_drew (S := fun w' : World => w'.heap[w.heap.size]? = some (.cells #[.int .u8 (op : Int), .string key, .int .u16 (seq : Int), .int .i16 val] 38 (0, 0)) ∧ w'.heap[ob]? = some (.cells #[.string on, .int .u16 (os : Int), .int .i64 ol, .int .i16 ov] 148 (0, 0)) ∧ w'.heap[nb]? = some (.cells #[.string mn, .int .u16 (ms : Int), .int .i64 ml, .int .i16 mv] 148 (0, 0))) (by kernel_rfl) hS1 (fun hH => ?_)
  refine wpAnyH_take (i := 0) (v := (.pointer (some ⟨w.heap.size, 1, none⟩))) rfl (by kernel_rfl) (by kernel_rfl) (by kernel_rfl) (fun _ _ _ h => h) (Or.inl ⟨by rfl, by intro v hSw; clear hSw; go_simp⟩) hH ?_
  refine wpAnyH_take (i := 1) (v := (.string key)) rfl (by kernel_rfl) (by kernel_rfl) (by kernel_rfl) (fun _ _ _ h => h) (Or.inl ⟨by rfl, by intro v hSw; have s0 : v.cell? ⟨w.heap.size, 1, none⟩ = some (.string key) := row_cell hSw.1 1; clear hSw; go_simp⟩) hH ?_
  refine wpAnyH_take (i := 3) (v := (.pointer (some ⟨nb, 2, none⟩))) rfl (by kernel_rfl) (by kernel_rfl) (by kernel_rfl) (fun _ _ _ h => h) (Or.inl ⟨by rfl, by intro v hSw; clear hSw; go_simp⟩) hH ?_
  refine wpAnyH_take (i := 4) (v := (.int .i64 ml)) rfl (by kernel_rfl) (by kernel_rfl) (by kernel_rfl) (fun _ _ _ h => h) (Or.inl ⟨by rfl, by intro v hSw; have s0 : v.cell? ⟨nb, 2, none⟩ = some (.int .i64 ml) := row_cell hSw.2.2 2; clear hSw; go_simp⟩) hH ?_
  refine wpAnyH_take (i := 5) (v := (.pointer (some ⟨ob, 2, none⟩))) rfl (by kernel_rfl) (by kernel_rfl) (by kernel_rfl) (fun _ _ _ h => h) (Or.inl ⟨by rfl, by intro v hSw; clear hSw; go_simp⟩) hH ?_
  refine wpAnyH_take (i := 6) (v := (.int .i64 ol)) rfl (by kernel_rfl) (by kernel_rfl) (by kernel_rfl) (fun _ _ _ h => h) (Or.inl ⟨by rfl, by intro v hSw; have s0 : v.cell? ⟨ob, 2, none⟩ = some (.int .i64 ol) := row_cell hSw.2.1 2; clear hSw; go_simp⟩) hH ?_
  refine wpAnyH_take (i := 7) (v := (.int .i64 (ml - ol))) rfl (by kernel_rfl) (by kernel_rfl) (by kernel_rfl) (fun _ _ _ h => h) (Or.inl ⟨by rfl, by intro v hSw; clear hSw; go_simp; rw [IntWalk.i64_in _ ⟨by omega, by omega⟩]⟩) hH ?_
  refine wpAnyH_take (i := 8) (v := (.pointer (some ⟨nb, 3, none⟩))) rfl (by kernel_rfl) (by kernel_rfl) (by kernel_rfl) (fun _ _ _ h => h) (Or.inl ⟨by rfl, by intro v hSw; clear hSw; go_simp⟩) hH ?_
  refine wpAnyH_take (i := 9) (v := (.int .i16 mv)) rfl (by kernel_rfl) (by kernel_rfl) (by kernel_rfl) (fun _ _ _ h => h) (Or.inl ⟨by rfl, by intro v hSw; have s0 : v.cell? ⟨nb, 3, none⟩ = some (.int .i16 mv) := row_cell hSw.2.2 3; clear hSw; go_simp⟩) hH ?_
  refine wpAnyH_take (i := 10) (v := (.pointer (some ⟨ob, 3, none⟩))) rfl (by kernel_rfl) (by kernel_rfl) (by kernel_rfl) (fun _ _ _ h => h) (Or.inl ⟨by rfl, by intro v hSw; clear hSw; go_simp⟩) hH ?_
  refine wpAnyH_take (i := 11) (v := (.int .i16 ov)) rfl (by kernel_rfl) (by kernel_rfl) (by kernel_rfl) (fun _ _ _ h => h) (Or.inl ⟨by rfl, by intro v hSw; have s0 : v.cell? ⟨ob, 3, none⟩ = some (.int .i16 ov) := row_cell hSw.2.1 3; clear hSw; go_simp⟩) hH ?_
  refine wpAnyH_take (i := 12) (v := (.int .i16 (wrap16 (mv - ov)))) rfl (by kernel_rfl) (by kernel_rfl) (by kernel_rfl) (fun _ _ _ h => h) (Or.inl ⟨by rfl, by intro v hSw; clear hSw; go_simp; exact wrap_i16 _⟩) hH ?_
  refine wpAnyH_ready (rs := [2]) (by kernel_rfl) (by simp) ?_
  refine AllReadyH.cons rfl (fun K hK => ?_) AllReadyH.nil
  clear hH
  go_simp
  go_wp2_with (go_at_call 85; refine (hG.out _).mono ?_; rintro en w8 ⟨rfl, hb8⟩)
  have hz8 : w7.heap.size ≤ w8.heap.size := hb8.size
  have h8a := (hb8.block _ (heap_lt hS1.1)).trans hS1.1
  have h8b := (hb8.block _ (heap_lt hS1.2.1)).trans hS1.2.1
  have h8c := (hb8.block _ (heap_lt hS1.2.2)).trans hS1.2.2
  have h8d : w8.heap[w.heap.size + 1]? = some (.cells #[.int .i32 0, .int .i64 0, .int .i16 0] 123 (0, 0)) := (hb8.block _ (heap_lt HK7.out.2.2)).trans HK7.out.2.2
  have HK8 := show Hid (_ ∧ _) from And.intro (HK7.out.1.old hb8) (HK7.out.2.1.old hBw hb8)
  refine hK.out _ _ ⟨h8a, h8b, h8c⟩ (fun hH => ?_)
  clear hK K hb8 hS1 HK7 hG hz8
  refine wpAnyH_take (i := 13) (v := (.agg #[.int .i32 (pt : Int), .int .i64 (ml - ol), .int .i16 (wrap16 (mv - ov))])) rfl (by kernel_rfl) (by kernel_rfl) (by kernel_rfl) (fun _ _ _ h => h) (Or.inl ⟨by rfl, by intro v hSw; clear hSw; go_simp⟩) hH ?_
  refine wpAnyH_ready (rs := [14]) (by kernel_rfl) (by simp) ?_
  refine AllReadyH.cons rfl (fun K hK => ?_) AllReadyH.nil
  clear hH
  have d0 : w8.cell? ⟨w.heap.size + 1, 0, none⟩ = some (.int .i32 0) := row_cell h8d 0
  have d1 : w8.cell? ⟨w.heap.size + 1, 1, none⟩ = some (.int .i64 0) := row_cell h8d 1
  have d2 : w8.cell? ⟨w.heap.size + 1, 2, none⟩ = some (.int .i16 0) := row_cell h8d 2
  have z0 : w8.frozen? ⟨w.heap.size + 1, 0, none⟩ = false := row_frozen h8d 0
  have z1 : w8.frozen? ⟨w.heap.size + 1, 1, none⟩ = false := row_frozen h8d 1
  have z2 : w8.frozen? ⟨w.heap.size + 1, 2, none⟩ = false := row_frozen h8d 2
  go_simp
  clear d0 d1 d2 z0 z1 z2
  have hg := row_set (j := 2) (row_set (j := 1) (row_set (j := 0) h8d (.int .i32 (pt : Int))) (.int .i64 (ml - ol))) (.int .i16 (wrap16 (mv - ov)))
  have hg' : _ = some (Obj.cells #[.int .i32 (pt : Int), .int .i64 (ml - ol), .int .i16 (wrap16 (mv - ov))] 123 (0, 0)) := hg
  have hse : ∀ (j : Nat) (o : Obj), w8.heap[j]? = some o → j ≠ w.heap.size + 1 → (((w8.setCell ⟨w.heap.size + 1, 0, none⟩ (.int .i32 (pt : Int))).setCell ⟨w.heap.size + 1, 1, none⟩ (.int .i64 (ml - ol))).setCell ⟨w.heap.size + 1, 2, none⟩ (.int .i16 (wrap16 (mv - ov)))).heap[j]? = some o := by
    intro j o h hj
    rw [Below.heap_setCell _ _ _ _ hj, Below.heap_setCell _ _ _ _ hj, Below.heap_setCell _ _ _ _ hj]
    exact h
  refine hK.out _ _ ⟨hse _ _ h8a (by omega), hse _ _ h8b (by omega), hse _ _ h8c (by omega)⟩ (fun hH => ?_)
  clear hK K hg hse
  refine wpAnyH_take (i := 15) (v := (.bool true)) rfl (by kernel_rfl) (by kernel_rfl) (by kernel_rfl) (fun _ _ _ h => h) (Or.inl ⟨by rfl, by intro v hSw; clear hSw; go_simp⟩) hH ?_
  clear hH h8a h8b h8c h8d
  refine wpAnyH_done (by kernel_rfl) ?_ _
  go_wp2
  refine bodyPost_ret (results_row_tmp (p := 4) (u := 5) (ty := 123) rfl _ _ (w.heap.size + 1) 123 #[.int .i32 (pt : Int), .int .i64 (ml - ol), .int .i16 (wrap16 (mv - ov))] (0, 0) _ rfl hg' Tryd.underlying123 rfl (by kernel_rfl)) rfl ⟨rfl, ?_, ?_⟩
  · have ho : ∀ g' : Nat, (some ⟨g, 0, none⟩ : Option Addr) = some ⟨g', 0, none⟩ → g' ≠ w.heap.size + 1 := fun g' h => by simp at h; omega
    exact ⟨_, _, ((HK8.out.1.setOther (by omega) ho 0 _).setOther (by omega) ho 1 _).setOther (by omega) ho 2 _⟩
  · exact ((HK8.out.2.setNew hBw (by omega) _).setNew hBw (by omega) _).setNew hBw (by omega) _

end Go.Proofs.YthpknaeiaiojgaaDoor
