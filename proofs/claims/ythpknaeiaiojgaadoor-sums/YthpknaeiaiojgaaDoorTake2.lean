/-
  known.Keys.Take: a key's first event.
-/
import Derived.Test.YthpknaeiaiojgaaDoorTake
namespace Go.Proofs.YthpknaeiaiojgaaDoor
open Go.RowKit

set_option maxRecDepth 100000 in
set_option maxHeartbeats 2000000 in
theorem take_new (B kb : Nat) (a : Option Addr) (c : Nat) (rs : List EV) (e : Ev) (w : World) (hB : B ≤ kb) (hlen : rs.length ≤ 1000) (hK : KAt B kb a c rs w) (hm : plcE rs e.key = rs.length)
    (hk1 : 0 < e.key.size) (hk2 : e.key.size ≤ 1000) :
    Calls Tryd.prog 63 #[.pointer (some ⟨kb, 0, none⟩), e.value] w fun en w' => en = .returned (.tuple #[chgV (Utf8.decode e.key 0).1 (madeE e).live (wrap16 (madeE e).value), .bool true]) ∧ (∃ a' c', KAt B kb a' c' (rs ++ [madeE e]) w') ∧ Frm B 118 148 w w' := by
  have hBw : B ≤ w.heap.size := Nat.le_trans hB (Nat.le_of_lt (heap_lt hK.1))
  obtain ⟨op, key, seq, val⟩ := e
  simp only at hm hk1 hk2
  have hM := show Hid _ from fun w => made_any ⟨op, key, seq, val⟩ w
  have hG := show Hid _ from fun w => group_any key w hk1 hk2
  have hml0 : 0 ≤ (madeE ⟨op, key, seq, val⟩).live ∧ (madeE ⟨op, key, seq, val⟩).live ≤ 1 := by
    unfold madeE
    simp only
    split <;> omega
  unfold EV.val' Ev.value at hM
  unfold Ev.value
  have HP := show Hid _ from fun (w : World) (hb : w.heap[kb]? = some (.cells #[.slice a rs.length c] 118 (0, 0))) (ho : w.ownsRow B 148 4 (.slice a rs.length c) rs.length (entCells rs)) => kplace_any kb a c rs key B w hlen hb ho
  rw [hm] at HP
  clear hm
  generalize madeE ⟨op, key, seq, val⟩ = md at hM hml0 ⊢
  obtain ⟨mn, ms, ml, mv⟩ := md
  simp only at hml0 hM ⊢
  generalize (Utf8.decode key 0).1 = pt at hG
  obtain ⟨i0, hi, hz0, hz1, hz2⟩ := info_parts Tryd.infoEnt
  have HK := show Hid (_ ∧ _) from And.intro ((hK.alloc (.cells #[.int .u8 (op : Int), .string key, .int .u16 (seq : Int), .int .i16 val] 38)).alloc (.cells #[.int .i32 0, .int .i64 0, .int .i16 0] 123)) (((Frm.refl B 118 148 w).alloc hBw (.cells #[.int .u8 (op : Int), .string key, .int .u16 (seq : Int), .int .i16 val] 38)).alloc hBw (.cells #[.int .i32 0, .int .i64 0, .int .i16 0] 123))
  have hcb := heap_alloc_new (w.alloc (.cells #[.int .u8 (op : Int), .string key, .int .u16 (seq : Int), .int .i16 val] 38)) (.cells #[.int .i32 0, .int .i64 0, .int .i16 0] 123)
  have heb : ((w.alloc (.cells #[.int .u8 (op : Int), .string key, .int .u16 (seq : Int), .int .i16 val] 38)).alloc (.cells #[.int .i32 0, .int .i64 0, .int .i16 0] 123)).heap[w.heap.size]? = some (.cells #[.int .u8 (op : Int), .string key, .int .u16 (seq : Int), .int .i16 val] 38 (0, 0)) := by
    rw [Below.heap_alloc _ _ _ (by simp)]
    exact heap_alloc_new w _
  have hcb : ((w.alloc (.cells #[.int .u8 (op : Int), .string key, .int .u16 (seq : Int), .int .i16 val] 38)).alloc (.cells #[.int .i32 0, .int .i64 0, .int .i16 0] 123)).heap[w.heap.size + 1]? = some (.cells #[.int .i32 0, .int .i64 0, .int .i16 0] 123 (0, 0)) := by
    rw [World.size_alloc] at hcb
    exact hcb
  have hkl : kb < w.heap.size := heap_lt hK.1
  clear hK
  go_enter Tryd.func63, Tryd.ntmps63
  go_wp2_with fail
  generalize ((w.alloc (.cells #[.int .u8 (op : Int), .string key, .int .u16 (seq : Int), .int .i16 val] 38)).alloc (.cells #[.int .i32 0, .int .i64 0, .int .i16 0] 123)) = w1 at HK hcb heb ⊢
  refine (HP.out w1 HK.out.1.1 HK.out.1.2).mono ?_
  rintro en w2 ⟨rfl, rfl⟩
  have hkc := HK.out.1.cell
  clear HP
  go_wp2
  have HK' := show Hid (_ ∧ _) from And.intro HK.out.1.drew HK.out.2.drew
  have heb' := show w2.drew.heap[w.heap.size]? = _ from heb
  have hcb' := show w2.drew.heap[w.heap.size + 1]? = _ from hcb
  clear HK heb hcb hkc
  have HK := HK'
  have heb := heb'
  have hcb := hcb'
  clear HK' heb' hcb'
  refine wp_region_held_drew (S := fun w' : World => w'.heap[w.heap.size]? = some (.cells #[.int .u8 (op : Int), .string key, .int .u16 (seq : Int), .int .i16 val] 38 (0, 0))) (by kernel_rfl) heb (fun hH => ?_)
  generalize w2.drew = wd at HK heb hcb hH ⊢
  have hkc := HK.out.1.cell
  have hkc2 := (HK.out.1.alloc (.cells #[.string key, .int .u16 0, .int .i64 0, .int .i16 0] 148)).cell
  have heb2 : (wd.alloc (.cells #[.string key, .int .u16 0, .int .i64 0, .int .i16 0] 148)).heap[w.heap.size]? = some (.cells #[.int .u8 (op : Int), .string key, .int .u16 (seq : Int), .int .i16 val] 38 (0, 0)) := (Below.heap_alloc _ _ _ (by have := heap_lt heb; omega)).trans heb
  have hcb2 : (wd.alloc (.cells #[.string key, .int .u16 0, .int .i64 0, .int .i16 0] 148)).heap[w.heap.size + 1]? = some (.cells #[.int .i32 0, .int .i64 0, .int .i16 0] 123 (0, 0)) := (Below.heap_alloc _ _ _ (by have := heap_lt hcb; omega)).trans hcb
  refine wpAnyH_take (i := 0) (v := (.pointer (some ⟨kb, 0, none⟩))) rfl (by kernel_rfl) (by kernel_rfl) (by kernel_rfl) (fun _ _ _ h => h) (Or.inl ⟨by rfl, by intro v hSw; clear hSw; go_simp⟩) hH ?_
  refine wpAnyH_take (i := 1) (v := (.pointer (some ⟨kb, 0, none⟩))) rfl (by kernel_rfl) (by kernel_rfl) (by kernel_rfl) (fun _ _ _ h => h) (Or.inl ⟨by rfl, by intro v hSw; clear hSw; go_simp⟩) hH ?_
  refine wpAnyH_take (i := 2) (v := (.pointer (some ⟨kb, 0, none⟩))) rfl (by kernel_rfl) (by kernel_rfl) (by kernel_rfl) (fun _ _ _ h => h) (Or.inl ⟨by rfl, by intro v hSw; clear hSw; go_simp⟩) hH ?_
  refine wpAnyH_take (i := 3) (v := (.pointer (some ⟨kb, 0, none⟩))) rfl (by kernel_rfl) (by kernel_rfl) (by kernel_rfl) (fun _ _ _ h => h) (Or.inl ⟨by rfl, by intro v hSw; clear hSw; go_simp⟩) hH ?_
  refine wpAnyH_take (i := 5) (v := (.pointer (some ⟨w.heap.size, 1, none⟩))) rfl (by kernel_rfl) (by kernel_rfl) (by kernel_rfl) (fun _ _ _ h => h) (Or.inl ⟨by rfl, by intro v hSw; clear hSw; go_simp⟩) hH ?_
  refine wpAnyH_take (i := 6) (v := (.string key)) rfl (by kernel_rfl) (by kernel_rfl) (by kernel_rfl) (fun _ _ _ h => h) (Or.inl ⟨by rfl, by intro v hSw; have s0 : v.cell? ⟨w.heap.size, 1, none⟩ = some (.string key) := row_cell hSw 1; clear hSw; go_simp⟩) hH ?_
  refine wpAnyH_take (i := 7) (v := (.agg #[.string key, .int .u16 0, .int .i64 0, .int .i16 0])) rfl (by kernel_rfl) (by kernel_rfl) (by kernel_rfl) (fun _ _ _ h => h) (Or.inl ⟨by rfl, by intro v hSw; clear hSw; go_simp⟩) hH ?_
  refine wpAnyH_ready (rs := [4, 8]) (by kernel_rfl) (by simp) ?_
  refine AllReadyH.cons rfl (fun K hK => ?_) (AllReadyH.cons rfl (fun K hK => ?_) AllReadyH.nil)
  · clear hH
    go_simp
    refine hK.out _ _ heb (fun hH => ?_)
    clear hK K
    refine wpAnyH_ready (rs := [8]) (by kernel_rfl) (by simp) ?_
    refine AllReadyH.cons rfl (fun K hK => ?_) AllReadyH.nil
    clear hH
    go_simp
    refine hK.out _ _ heb2 (fun hH => ?_)
    clear hK K
    refine wpAnyH_ready (rs := [9]) (by kernel_rfl) (by simp) ?_
    refine AllReadyH.cons rfl (fun K hK => ?_) AllReadyH.nil
    refine ite_of rfl ?_
    refine wp_append_two _ (.tmp 24) (.tmp 28) 116 rfl B 148 i0 (.agg #[.string ⟨#[]⟩, .int .u16 0, .int .i64 0, .int .i16 0]) 4 40 Tryd.underlying116 hi hz0 hz1 hz2 rfl (by decide) (.slice a rs.length c) rs.length (entCells rs) rfl (HK.out.1.2.alloc _) ⟨wd.heap.size, 0, none⟩ 1 1 (entCells1 ⟨key, 0, 0, 0⟩) rfl rfl (by have := cell_four_new wd (.string key) (.int .u16 0) (.int .i64 0) (.int .i16 0) 148; simpa [entCells1] using this) (ent_oneCell _) (by unfold maxLen; omega) (by omega) (by have := HK.out.2.below.size; simp; omega) (by decide) ?_
    intro v3 w5 hown3 hfr3
    obtain ⟨a3, c3, rfl⟩ := own_shape hown3
    have hgr := grown_either hfr3
    have HA := show Hid (_ ∧ _ ∧ _) from KAt.appended hB (HK.out.1.alloc (.cells #[.string key, .int .u16 0, .int .i64 0, .int .i16 0] 148)) hown3 hgr
    have HFr := show Hid _ from (HK.out.2.alloc hBw (.cells #[.string key, .int .u16 0, .int .i64 0, .int .i16 0] 148)).trans HA.out.2.2
    have heb5 : w5.heap[w.heap.size]? = some (.cells #[.int .u8 (op : Int), .string key, .int .u16 (seq : Int), .int .i16 val] 38 (0, 0)) := (hgr.block _ (heap_lt heb2) (by
      intro e
      obtain ⟨cur, hcur, _⟩ := own_heap (HK.out.1.alloc (.cells #[.string key, .int .u16 0, .int .i64 0, .int .i16 0] 148)).2 e.symm
      rw [heb2] at hcur
      simp at hcur)).trans heb2
    have hcb5 : w5.heap[w.heap.size + 1]? = some (.cells #[.int .i32 0, .int .i64 0, .int .i16 0] 123 (0, 0)) := (hgr.block _ (heap_lt hcb2) (by
      intro e
      obtain ⟨cur, hcur, _⟩ := own_heap (HK.out.1.alloc (.cells #[.string key, .int .u16 0, .int .i64 0, .int .i16 0] 148)).2 e.symm
      rw [hcb2] at hcur
      simp at hcur)).trans hcb2
    refine hK.out _ _ heb5 (fun hH => ?_)
    clear hK K hown3 hfr3 hgr HK heb hcb heb2 hcb2 hkc hkc2
    refine wpAnyH_take (i := 10) (v := (.pointer (some ⟨kb, 0, none⟩))) rfl (by kernel_rfl) (by kernel_rfl) (by kernel_rfl) (fun _ _ _ h => h) (Or.inl ⟨by rfl, by intro v hSw; clear hSw; go_simp⟩) hH ?_
    refine wpAnyH_take (i := 11) (v := (.pointer (some ⟨kb, 0, none⟩))) rfl (by kernel_rfl) (by kernel_rfl) (by kernel_rfl) (fun _ _ _ h => h) (Or.inl ⟨by rfl, by intro v hSw; clear hSw; go_simp⟩) hH ?_
    refine wpAnyH_ready (rs := [12]) (by kernel_rfl) (by simp) ?_
    refine AllReadyH.cons rfl (fun K hK => ?_) AllReadyH.nil
    clear hH
    have b0 : w5.cell? ⟨kb, 0, none⟩ = some (.slice a rs.length c) := row_cell HA.out.1 0
    have z0 : w5.frozen? ⟨kb, 0, none⟩ = false := row_frozen HA.out.1 0
    go_simp
    have heb6 := (Below.heap_setCell w5 ⟨kb, 0, none⟩ (.slice a3 (rs.length + 1) c3) w.heap.size (by simp only; omega)).trans heb5
    have hcb6 := (Below.heap_setCell w5 ⟨kb, 0, none⟩ (.slice a3 (rs.length + 1) c3) (w.heap.size + 1) (by simp only; omega)).trans hcb5
    refine hK.out _ _ heb6 (fun hH => ?_)
    clear hK K hH b0 z0 heb5 hcb5
    refine wpAnyH_done (by kernel_rfl) ?_ _
    have HK2 := show Hid (_ ∧ _) from And.intro HA.out.2.1 HFr.out
    clear HA HFr
    generalize w5.setCell ⟨kb, 0, none⟩ (.slice a3 (rs.length + 1) c3) = w3 at HK2 heb6 hcb6 ⊢
    obtain ⟨ls, hls⟩ : ∃ ls, rs ++ [EV.mk key 0 0 0] = ls := ⟨_, rfl⟩
    have hll : ls.length = rs.length + 1 := by rw [← hls]; simp
    obtain ⟨m, hmm⟩ : ∃ m, rs.length = m := ⟨_, rfl⟩
    have hml : m < ls.length := by omega
    have hat : ∀ j, j < 4 → (entCells ls)[m * 4 + j]? = (entCells1 ⟨key, 0, 0, 0⟩)[j]? := by
      intro j hj
      rw [entCells_at ls m hml j hj]
      congr 2
      subst hls
      subst hmm
      simp
    have hset : ls.set m ⟨mn, ms, ml, mv⟩ = rs ++ [EV.mk mn ms ml mv] := by
      subst hls
      subst hmm
      simp
    have Hset := show Hid _ from hset
    clear hset
    rw [hls] at HK2
    rw [← hll]
    rw [hmm]
    rw [hmm] at hll
    rcases own_addr HK2.out.1.2 with ⟨_, h0⟩ | ⟨g, rfl⟩
    · omega
    have hmi : (m : Int) < (ls.length : Int) := by omega
    have hm0 : (0 : Int) ≤ (m : Int) := by omega
    have hgk : ∀ (j : Nat) (cs : Array Value) (t : TypeId) (fz : Nat × Nat), w3.heap[j]? = some (.cells cs t fz) → t ≠ 148 → g ≠ j := by
      rintro j cs t fz h ht rfl
      obtain ⟨cur, hcur⟩ := own_obj HK2.out.1.2
      rw [hcur] at h
      simp at h
      exact ht h.2.1.symm
    have hgl : g ≠ w.heap.size := hgk _ _ _ _ heb6 (by decide)
    have hgl2 : g ≠ w.heap.size + 1 := hgk _ _ _ _ hcb6 (by decide)
    have HK := HK2
    have heb := heb6
    have hcb := hcb6
    clear HK2 heb6 hcb6 hgk hls hll hmm
    have hkc : w3.cell? ⟨kb, 0, none⟩ = some (.slice (some ⟨g, 0, none⟩) ls.length c3) := HK.out.1.cell
    have q0 : w3.cell? ⟨g, m * 4, none⟩ = some (.string key) := (HK.out.1.2.cellAt (m * 4) (by omega)).trans (hat 0 (by decide))
    have q1 : w3.cell? ⟨g, m * 4 + 1, none⟩ = some (.int .u16 0) := (HK.out.1.2.cellAt (m * 4 + 1) (by omega)).trans (hat 1 (by decide))
    have q2 : w3.cell? ⟨g, m * 4 + 2, none⟩ = some (.int .i64 0) := (HK.out.1.2.cellAt (m * 4 + 2) (by omega)).trans (hat 2 (by decide))
    have q3 : w3.cell? ⟨g, m * 4 + 3, none⟩ = some (.int .i16 0) := (HK.out.1.2.cellAt (m * 4 + 3) (by omega)).trans (hat 3 (by decide))
    have hgn := (own_lt HK.out.1.2).2
    have HK4 := show Hid (_ ∧ _) from And.intro (HK.out.1.alloc (.cells #[.string key, .int .u16 0, .int .i64 0, .int .i16 0] 148)) (HK.out.2.alloc hBw (.cells #[.string key, .int .u16 0, .int .i64 0, .int .i16 0] 148))
    have hob := heap_alloc_new w3 (.cells #[.string key, .int .u16 0, .int .i64 0, .int .i16 0] 148)
    have heb4 : (w3.alloc (.cells #[.string key, .int .u16 0, .int .i64 0, .int .i16 0] 148)).heap[w.heap.size]? = some (.cells #[.int .u8 (op : Int), .string key, .int .u16 (seq : Int), .int .i16 val] 38 (0, 0)) := (Below.heap_alloc _ _ _ (by have := heap_lt heb; omega)).trans heb
    have hcb4 : (w3.alloc (.cells #[.string key, .int .u16 0, .int .i64 0, .int .i16 0] 148)).heap[w.heap.size + 1]? = some (.cells #[.int .i32 0, .int .i64 0, .int .i16 0] 123 (0, 0)) := (Below.heap_alloc _ _ _ (by have := heap_lt hcb; omega)).trans hcb
    have x0 : (w3.alloc (.cells #[.string key, .int .u16 0, .int .i64 0, .int .i16 0] 148)).cell? ⟨w.heap.size, 0, none⟩ = some (.int .u8 (op : Int)) := row_cell heb4 0
    have x1 : (w3.alloc (.cells #[.string key, .int .u16 0, .int .i64 0, .int .i16 0] 148)).cell? ⟨w.heap.size, 1, none⟩ = some (.string key) := row_cell heb4 1
    have x2 : (w3.alloc (.cells #[.string key, .int .u16 0, .int .i64 0, .int .i16 0] 148)).cell? ⟨w.heap.size, 2, none⟩ = some (.int .u16 (seq : Int)) := row_cell heb4 2
    have x3 : (w3.alloc (.cells #[.string key, .int .u16 0, .int .i64 0, .int .i16 0] 148)).cell? ⟨w.heap.size, 3, none⟩ = some (.int .i16 val) := row_cell heb4 3
    have hcbl := heap_lt hcb
    clear heb hcb HK
    go_wp2_with fail
    clear hkc q0 q1 q2 q3 x0 x1 x2 x3
    generalize (w3.alloc (.cells #[.string key, .int .u16 0, .int .i64 0, .int .i16 0] 148)) = w4 at HK4 hob heb4 hcb4 ⊢
    generalize w3.heap.size = ob at hob hgn hcbl ⊢
    refine (hM.out _).mono ?_
    rintro en w5 ⟨rfl, hb5⟩
    have HK5 := show Hid (_ ∧ _) from And.intro ((HK4.out.1.old hb5).alloc (.cells #[.string mn, .int .u16 (ms : Int), .int .i64 ml, .int .i16 mv] 148)) ((HK4.out.2.old hBw hb5).alloc hBw (.cells #[.string mn, .int .u16 (ms : Int), .int .i64 ml, .int .i16 mv] 148))
    have hsz := hb5.size
    have hol := heap_lt hob
    have hob5 : (w5.alloc (.cells #[.string mn, .int .u16 (ms : Int), .int .i64 ml, .int .i16 mv] 148)).heap[ob]? = some (.cells #[.string key, .int .u16 0, .int .i64 0, .int .i16 0] 148 (0, 0)) := (Below.heap_alloc _ _ _ (by omega)).trans ((hb5.block _ hol).trans hob)
    have heb5 : (w5.alloc (.cells #[.string mn, .int .u16 (ms : Int), .int .i64 ml, .int .i16 mv] 148)).heap[w.heap.size]? = some (.cells #[.int .u8 (op : Int), .string key, .int .u16 (seq : Int), .int .i16 val] 38 (0, 0)) := (Below.heap_alloc _ _ _ (by omega)).trans ((hb5.block _ (by omega)).trans heb4)
    have hcb5 : (w5.alloc (.cells #[.string mn, .int .u16 (ms : Int), .int .i64 ml, .int .i16 mv] 148)).heap[w.heap.size + 1]? = some (.cells #[.int .i32 0, .int .i64 0, .int .i16 0] 123 (0, 0)) := (Below.heap_alloc _ _ _ (by omega)).trans ((hb5.block _ (by omega)).trans hcb4)
    have hnb5 := heap_alloc_new w5 (.cells #[.string mn, .int .u16 (ms : Int), .int .i64 ml, .int .i16 mv] 148)
    have hnl : ob < w5.heap.size := by omega
    clear HK4 hob heb4 hcb4 hb5 hM
    go_wp2
    generalize (w5.alloc (.cells #[.string mn, .int .u16 (ms : Int), .int .i64 ml, .int .i16 mv] 148)) = w6 at HK5 hob5 heb5 hcb5 hnb5 ⊢
    generalize w5.heap.size = nb at hnb5 hnl ⊢
    clear hsz hol
    have hS0 : w6.drew.heap[kb]? = some (.cells #[.slice (some ⟨g, 0, none⟩) ls.length c3] 118 (0, 0)) ∧ w6.drew.heap[nb]? = some (.cells #[.string mn, .int .u16 (ms : Int), .int .i64 ml, .int .i16 mv] 148 (0, 0)) := ⟨HK5.out.1.1, hnb5⟩
    have HK5' := show Hid (_ ∧ _) from And.intro HK5.out.1.drew HK5.out.2.drew
    have hob5' := show w6.drew.heap[ob]? = _ from hob5
    have heb5' := show w6.drew.heap[w.heap.size]? = _ from heb5
    have hcb5' := show w6.drew.heap[w.heap.size + 1]? = _ from hcb5
    have hnb5' := show w6.drew.heap[nb]? = _ from hnb5
    clear HK5 hob5 heb5 hcb5 hnb5
    have HK5 := HK5'
    have hob5 := hob5'
    have heb5 := heb5'
    have hcb5 := hcb5'
    have hnb5 := hnb5'
    clear HK5' hob5' heb5' hcb5' hnb5'
    refine wp_region_held_drew (S := fun w' : World => w'.heap[kb]? = some (.cells #[.slice (some ⟨g, 0, none⟩) ls.length c3] 118 (0, 0)) ∧ w'.heap[nb]? = some (.cells #[.string mn, .int .u16 (ms : Int), .int .i64 ml, .int .i16 mv] 148 (0, 0))) (by kernel_rfl) hS0 (fun hH => ?_)
    generalize w6.drew = wd at HK5 hob5 heb5 hcb5 hnb5 hS0 hH ⊢
    have HF := show Hid _ from KAt.fill (w := wd) HK5.out.1 m hml ⟨mn, ms, ml, mv⟩
    refine wpAnyH_take (i := 0) (v := (.pointer (some ⟨kb, 0, none⟩))) rfl (by kernel_rfl) (by kernel_rfl) (by kernel_rfl) (fun _ _ _ h => h) (Or.inl ⟨by rfl, by intro v hSw; clear hSw; go_simp⟩) hH ?_
    refine wpAnyH_take (i := 1) (v := (.pointer (some ⟨kb, 0, none⟩))) rfl (by kernel_rfl) (by kernel_rfl) (by kernel_rfl) (fun _ _ _ h => h) (Or.inl ⟨by rfl, by intro v hSw; clear hSw; go_simp⟩) hH ?_
    refine wpAnyH_take (i := 2) (v := (.pointer (some ⟨kb, 0, none⟩))) rfl (by kernel_rfl) (by kernel_rfl) (by kernel_rfl) (fun _ _ _ h => h) (Or.inl ⟨by rfl, by intro v hSw; clear hSw; go_simp⟩) hH ?_
    refine wpAnyH_take (i := 3) (v := (.slice (some ⟨g, 0, none⟩) ls.length c3)) rfl (by kernel_rfl) (by kernel_rfl) (by kernel_rfl) (fun _ _ _ h => h) (Or.inl ⟨by rfl, by intro v hSw; have s0 : v.cell? ⟨kb, 0, none⟩ = some (.slice (some ⟨g, 0, none⟩) ls.length c3) := row_cell hSw.1 0; clear hSw; go_simp⟩) hH ?_
    refine wpAnyH_take (i := 4) (v := (.int .i64 (m : Int))) rfl (by kernel_rfl) (by kernel_rfl) (by kernel_rfl) (fun _ _ _ h => h) (Or.inl ⟨by rfl, by intro v hSw; clear hSw; go_simp⟩) hH ?_
    refine wpAnyH_take (i := 5) (v := (.agg #[.string mn, .int .u16 (ms : Int), .int .i64 ml, .int .i16 mv])) rfl (by kernel_rfl) (by kernel_rfl) (by kernel_rfl) (fun _ _ _ h => h) (Or.inl ⟨by rfl, by intro v hSw; have s0 : v.cell? ⟨nb, 0, none⟩ = some (.string mn) := row_cell hSw.2 0; have s1 : v.cell? ⟨nb, 1, none⟩ = some (.int .u16 (ms : Int)) := row_cell hSw.2 1; have s2 : v.cell? ⟨nb, 2, none⟩ = some (.int .i64 ml) := row_cell hSw.2 2; have s3 : v.cell? ⟨nb, 3, none⟩ = some (.int .i16 mv) := row_cell hSw.2 3; clear hSw; go_simp⟩) hH ?_
    refine wpAnyH_take (i := 6) (v := (.pointer (some ⟨g, m * 4, none⟩))) rfl (by kernel_rfl) (by kernel_rfl) (by kernel_rfl) (fun _ _ _ h => h) (Or.inl ⟨by rfl, by intro v hSw; clear hSw; go_simp⟩) hH ?_
    refine wpAnyH_ready (rs := [7]) (by kernel_rfl) (by simp) ?_
    refine AllReadyH.cons rfl (fun K hK => ?_) AllReadyH.nil
    have c0 := HF.out.1.1
    have c1 := HF.out.1.2.1
    have c2 := HF.out.1.2.2.1
    have c3 := HF.out.1.2.2.2
    have z0 := HF.out.2.1.1
    have z1 := HF.out.2.1.2.1
    have z2 := HF.out.2.1.2.2.1
    have z3 := HF.out.2.1.2.2.2
    simp only at c0 c1 c2 c3 z0 z1 z2 z3
    clear hH hS0
    go_simp
    have HF2 := show Hid (_ ∧ _) from HF.out.2.2
    simp only at HF2
    clear HF c0 c1 c2 c3 z0 z1 z2 z3
    have hBg : B ≤ g := (own_lt HK5.out.1.2).1
    have hfr : Frm B 118 148 wd _ := Frm.grown (Frm.refl B 118 148 wd) (Nat.le_trans hBw HK5.out.2.below.size) HF2.out.2 (fun g' hg' => by
      simp only [Option.some.injEq] at hg'
      subst hg'
      obtain ⟨cur, hcur⟩ := own_obj HK5.out.1.2
      exact ⟨hBg, cur, _, _, hcur, .inr rfl⟩)
    have HK6 := show Hid (_ ∧ _) from And.intro HF2.out.1 (HK5.out.2.trans hfr)
    have hob6 := (HF2.out.2.block ob (heap_lt hob5) (by simp only [ne_eq, Option.some.injEq]; omega)).trans hob5
    have heb6 := (HF2.out.2.block w.heap.size (heap_lt heb5) (by simp only [ne_eq, Option.some.injEq]; omega)).trans heb5
    have hcb6 := (HF2.out.2.block (w.heap.size + 1) (heap_lt hcb5) (by simp only [ne_eq, Option.some.injEq]; omega)).trans hcb5
    have hnb6 := (HF2.out.2.block nb (heap_lt hnb5) (by simp only [ne_eq, Option.some.injEq]; omega)).trans hnb5
    have hkb6 := (HF2.out.2.block kb (heap_lt HK5.out.1.1) (by
      simp only [ne_eq, Option.some.injEq]
      intro e
      obtain ⟨cur, hcur⟩ := own_obj HK5.out.1.2
      rw [← e] at hcur
      have := HK5.out.1.1
      rw [hcur] at this
      simp at this)).trans HK5.out.1.1
    clear hfr HF2
    refine hK.out _ _ ⟨hkb6, hnb6⟩ (fun hH => ?_)
    clear hK K hH hkb6 HK5 hob5 heb5 hcb5 hnb5
    refine wpAnyH_done (by kernel_rfl) ?_ _
    generalize ((((wd.setCell ⟨g, m * 4, none⟩ (.string mn)).setCell ⟨g, m * 4 + 1, none⟩ (.int .u16 (ms : Int))).setCell ⟨g, m * 4 + 2, none⟩ (.int .i64 ml)).setCell ⟨g, m * 4 + 3, none⟩ (.int .i16 mv)) = w7 at HK6 hob6 heb6 hcb6 hnb6 ⊢
    clear w6 wd
    go_wp2
    have hS1 : w7.drew.heap[w.heap.size]? = some (.cells #[.int .u8 (op : Int), .string key, .int .u16 (seq : Int), .int .i16 val] 38 (0, 0)) ∧ w7.drew.heap[ob]? = some (.cells #[.string key, .int .u16 0, .int .i64 0, .int .i16 0] 148 (0, 0)) ∧ w7.drew.heap[nb]? = some (.cells #[.string mn, .int .u16 (ms : Int), .int .i64 ml, .int .i16 mv] 148 (0, 0)) := ⟨heb6, hob6, hnb6⟩
    have HK7 := show Hid (_ ∧ _ ∧ _) from And.intro HK6.out.1.drew (And.intro HK6.out.2.drew hcb6)
    clear HK6 hcb6 heb6 hob6 hnb6
    refine wp_region_held_drew (S := fun w' : World => w'.heap[w.heap.size]? = some (.cells #[.int .u8 (op : Int), .string key, .int .u16 (seq : Int), .int .i16 val] 38 (0, 0)) ∧ w'.heap[ob]? = some (.cells #[.string key, .int .u16 0, .int .i64 0, .int .i16 0] 148 (0, 0)) ∧ w'.heap[nb]? = some (.cells #[.string mn, .int .u16 (ms : Int), .int .i64 ml, .int .i16 mv] 148 (0, 0))) (by kernel_rfl) hS1 (fun hH => ?_)
    refine wpAnyH_take (i := 0) (v := (.pointer (some ⟨w.heap.size, 1, none⟩))) rfl (by kernel_rfl) (by kernel_rfl) (by kernel_rfl) (fun _ _ _ h => h) (Or.inl ⟨by rfl, by intro v hSw; clear hSw; go_simp⟩) hH ?_
    refine wpAnyH_take (i := 1) (v := (.string key)) rfl (by kernel_rfl) (by kernel_rfl) (by kernel_rfl) (fun _ _ _ h => h) (Or.inl ⟨by rfl, by intro v hSw; have s0 : v.cell? ⟨w.heap.size, 1, none⟩ = some (.string key) := row_cell hSw.1 1; clear hSw; go_simp⟩) hH ?_
    refine wpAnyH_take (i := 3) (v := (.pointer (some ⟨nb, 2, none⟩))) rfl (by kernel_rfl) (by kernel_rfl) (by kernel_rfl) (fun _ _ _ h => h) (Or.inl ⟨by rfl, by intro v hSw; clear hSw; go_simp⟩) hH ?_
    refine wpAnyH_take (i := 4) (v := (.int .i64 ml)) rfl (by kernel_rfl) (by kernel_rfl) (by kernel_rfl) (fun _ _ _ h => h) (Or.inl ⟨by rfl, by intro v hSw; have s0 : v.cell? ⟨nb, 2, none⟩ = some (.int .i64 ml) := row_cell hSw.2.2 2; clear hSw; go_simp⟩) hH ?_
    refine wpAnyH_take (i := 5) (v := (.pointer (some ⟨ob, 2, none⟩))) rfl (by kernel_rfl) (by kernel_rfl) (by kernel_rfl) (fun _ _ _ h => h) (Or.inl ⟨by rfl, by intro v hSw; clear hSw; go_simp⟩) hH ?_
    refine wpAnyH_take (i := 6) (v := (.int .i64 0)) rfl (by kernel_rfl) (by kernel_rfl) (by kernel_rfl) (fun _ _ _ h => h) (Or.inl ⟨by rfl, by intro v hSw; have s0 : v.cell? ⟨ob, 2, none⟩ = some (.int .i64 0) := row_cell hSw.2.1 2; clear hSw; go_simp⟩) hH ?_
    refine wpAnyH_take (i := 7) (v := (.int .i64 ml)) rfl (by kernel_rfl) (by kernel_rfl) (by kernel_rfl) (fun _ _ _ h => h) (Or.inl ⟨by rfl, by intro v hSw; clear hSw; first | (go_simp; done) | (go_simp; rw [IntWalk.i64_in _ ⟨by omega, by omega⟩])⟩) hH ?_
    refine wpAnyH_take (i := 8) (v := (.pointer (some ⟨nb, 3, none⟩))) rfl (by kernel_rfl) (by kernel_rfl) (by kernel_rfl) (fun _ _ _ h => h) (Or.inl ⟨by rfl, by intro v hSw; clear hSw; go_simp⟩) hH ?_
    refine wpAnyH_take (i := 9) (v := (.int .i16 mv)) rfl (by kernel_rfl) (by kernel_rfl) (by kernel_rfl) (fun _ _ _ h => h) (Or.inl ⟨by rfl, by intro v hSw; have s0 : v.cell? ⟨nb, 3, none⟩ = some (.int .i16 mv) := row_cell hSw.2.2 3; clear hSw; go_simp⟩) hH ?_
    refine wpAnyH_take (i := 10) (v := (.pointer (some ⟨ob, 3, none⟩))) rfl (by kernel_rfl) (by kernel_rfl) (by kernel_rfl) (fun _ _ _ h => h) (Or.inl ⟨by rfl, by intro v hSw; clear hSw; go_simp⟩) hH ?_
    refine wpAnyH_take (i := 11) (v := (.int .i16 0)) rfl (by kernel_rfl) (by kernel_rfl) (by kernel_rfl) (fun _ _ _ h => h) (Or.inl ⟨by rfl, by intro v hSw; have s0 : v.cell? ⟨ob, 3, none⟩ = some (.int .i16 0) := row_cell hSw.2.1 3; clear hSw; go_simp⟩) hH ?_
    refine wpAnyH_take (i := 12) (v := (.int .i16 (wrap16 mv))) rfl (by kernel_rfl) (by kernel_rfl) (by kernel_rfl) (fun _ _ _ h => h) (Or.inl ⟨by rfl, by intro v hSw; clear hSw; first | (go_simp; exact wrap_i16 _) | (rw [← wrap_i16]; go_simp)⟩) hH ?_
    refine wpAnyH_ready (rs := [2]) (by kernel_rfl) (by simp) ?_
    refine AllReadyH.cons rfl (fun K hK => ?_) AllReadyH.nil
    clear hH
    go_simp
    go_wp2_with (go_at_call 85; refine (hG.out _).mono ?_; rintro en w8 ⟨rfl, hb8⟩)
    have hz8 : w7.heap.size ≤ w8.heap.size := hb8.size
    have h8a := (hb8.block _ (heap_lt hS1.1)).trans hS1.1
    have h8b := (hb8.block _ (heap_lt hS1.2.1)).trans hS1.2.1
    have h8c := (hb8.block _ (heap_lt hS1.2.2)).trans hS1.2.2
    have h8d : w8.heap[w.heap.size + 1]? = some (.cells #[.int .i32 0, .int .i64 0, .int .i16 0] 123 (0, 0)) := (hb8.block _ (heap_lt HK7.out.2.2)).trans HK7.out.2.2
    have HK8 := show Hid (_ ∧ _) from And.intro (HK7.out.1.old hb8) (HK7.out.2.1.old hBw hb8)
    refine hK.out _ _ ⟨h8a, h8b, h8c⟩ (fun hH => ?_)
    clear hK K hb8 hS1 HK7 hG hz8
    refine wpAnyH_take (i := 13) (v := (.agg #[.int .i32 (pt : Int), .int .i64 ml, .int .i16 (wrap16 mv)])) rfl (by kernel_rfl) (by kernel_rfl) (by kernel_rfl) (fun _ _ _ h => h) (Or.inl ⟨by rfl, by intro v hSw; clear hSw; go_simp⟩) hH ?_
    refine wpAnyH_ready (rs := [14]) (by kernel_rfl) (by simp) ?_
    refine AllReadyH.cons rfl (fun K hK => ?_) AllReadyH.nil
    clear hH
    have d0 : w8.cell? ⟨w.heap.size + 1, 0, none⟩ = some (.int .i32 0) := row_cell h8d 0
    have d1 : w8.cell? ⟨w.heap.size + 1, 1, none⟩ = some (.int .i64 0) := row_cell h8d 1
    have d2 : w8.cell? ⟨w.heap.size + 1, 2, none⟩ = some (.int .i16 0) := row_cell h8d 2
    have z0 : w8.frozen? ⟨w.heap.size + 1, 0, none⟩ = false := row_frozen h8d 0
    have z1 : w8.frozen? ⟨w.heap.size + 1, 1, none⟩ = false := row_frozen h8d 1
    have z2 : w8.frozen? ⟨w.heap.size + 1, 2, none⟩ = false := row_frozen h8d 2
    go_simp
    clear d0 d1 d2 z0 z1 z2
    have hg := row_set (j := 2) (row_set (j := 1) (row_set (j := 0) h8d (.int .i32 (pt : Int))) (.int .i64 ml)) (.int .i16 (wrap16 mv))
    have hg' : _ = some (Obj.cells #[.int .i32 (pt : Int), .int .i64 ml, .int .i16 (wrap16 mv)] 123 (0, 0)) := hg
    have hse : ∀ (j : Nat) (o : Obj), w8.heap[j]? = some o → j ≠ w.heap.size + 1 → (((w8.setCell ⟨w.heap.size + 1, 0, none⟩ (.int .i32 (pt : Int))).setCell ⟨w.heap.size + 1, 1, none⟩ (.int .i64 ml)).setCell ⟨w.heap.size + 1, 2, none⟩ (.int .i16 (wrap16 mv))).heap[j]? = some o := by
      intro j o h hj
      rw [Below.heap_setCell _ _ _ _ hj, Below.heap_setCell _ _ _ _ hj, Below.heap_setCell _ _ _ _ hj]
      exact h
    refine hK.out _ _ ⟨hse _ _ h8a (by omega), hse _ _ h8b (by omega), hse _ _ h8c (by omega)⟩ (fun hH => ?_)
    clear hK K hg hse
    refine wpAnyH_take (i := 15) (v := (.bool true)) rfl (by kernel_rfl) (by kernel_rfl) (by kernel_rfl) (fun _ _ _ h => h) (Or.inl ⟨by rfl, by intro v hSw; clear hSw; go_simp⟩) hH ?_
    clear hH h8a h8b h8c h8d
    refine wpAnyH_done (by kernel_rfl) ?_ _
    go_wp2
    refine bodyPost_ret (results_row_tmp (p := 4) (u := 5) (ty := 123) rfl _ _ (w.heap.size + 1) 123 #[.int .i32 (pt : Int), .int .i64 ml, .int .i16 (wrap16 mv)] (0, 0) _ rfl hg' Tryd.underlying123 rfl (by kernel_rfl)) rfl ⟨rfl, ?_, ?_⟩
    · have ho : ∀ g' : Nat, (some ⟨g, 0, none⟩ : Option Addr) = some ⟨g', 0, none⟩ → g' ≠ w.heap.size + 1 := fun g' h => by simp at h; omega
      exact ⟨_, _, by rw [← Hset.out]; exact ((HK8.out.1.setOther (by omega) ho 0 _).setOther (by omega) ho 1 _).setOther (by omega) ho 2 _⟩
    · exact ((HK8.out.2.setNew hBw (by omega) _).setNew hBw (by omega) _).setNew hBw (by omega) _

  · clear hH
    go_simp
    refine hK.out _ _ heb2 (fun hH => ?_)
    clear hK K
    refine wpAnyH_ready (rs := [4]) (by kernel_rfl) (by simp) ?_
    refine AllReadyH.cons rfl (fun K hK => ?_) AllReadyH.nil
    clear hH
    go_simp
    refine hK.out _ _ heb2 (fun hH => ?_)
    clear hK K
    refine wpAnyH_ready (rs := [9]) (by kernel_rfl) (by simp) ?_
    refine AllReadyH.cons rfl (fun K hK => ?_) AllReadyH.nil
    refine ite_of rfl ?_
    refine wp_append_two _ (.tmp 24) (.tmp 28) 116 rfl B 148 i0 (.agg #[.string ⟨#[]⟩, .int .u16 0, .int .i64 0, .int .i16 0]) 4 40 Tryd.underlying116 hi hz0 hz1 hz2 rfl (by decide) (.slice a rs.length c) rs.length (entCells rs) rfl (HK.out.1.2.alloc _) ⟨wd.heap.size, 0, none⟩ 1 1 (entCells1 ⟨key, 0, 0, 0⟩) rfl rfl (by have := cell_four_new wd (.string key) (.int .u16 0) (.int .i64 0) (.int .i16 0) 148; simpa [entCells1] using this) (ent_oneCell _) (by unfold maxLen; omega) (by omega) (by have := HK.out.2.below.size; simp; omega) (by decide) ?_
    intro v3 w5 hown3 hfr3
    obtain ⟨a3, c3, rfl⟩ := own_shape hown3
    have hgr := grown_either hfr3
    have HA := show Hid (_ ∧ _ ∧ _) from KAt.appended hB (HK.out.1.alloc (.cells #[.string key, .int .u16 0, .int .i64 0, .int .i16 0] 148)) hown3 hgr
    have HFr := show Hid _ from (HK.out.2.alloc hBw (.cells #[.string key, .int .u16 0, .int .i64 0, .int .i16 0] 148)).trans HA.out.2.2
    have heb5 : w5.heap[w.heap.size]? = some (.cells #[.int .u8 (op : Int), .string key, .int .u16 (seq : Int), .int .i16 val] 38 (0, 0)) := (hgr.block _ (heap_lt heb2) (by
      intro e
      obtain ⟨cur, hcur, _⟩ := own_heap (HK.out.1.alloc (.cells #[.string key, .int .u16 0, .int .i64 0, .int .i16 0] 148)).2 e.symm
      rw [heb2] at hcur
      simp at hcur)).trans heb2
    have hcb5 : w5.heap[w.heap.size + 1]? = some (.cells #[.int .i32 0, .int .i64 0, .int .i16 0] 123 (0, 0)) := (hgr.block _ (heap_lt hcb2) (by
      intro e
      obtain ⟨cur, hcur, _⟩ := own_heap (HK.out.1.alloc (.cells #[.string key, .int .u16 0, .int .i64 0, .int .i16 0] 148)).2 e.symm
      rw [hcb2] at hcur
      simp at hcur)).trans hcb2
    refine hK.out _ _ heb5 (fun hH => ?_)
    clear hK K hown3 hfr3 hgr HK heb hcb heb2 hcb2 hkc hkc2
    refine wpAnyH_take (i := 10) (v := (.pointer (some ⟨kb, 0, none⟩))) rfl (by kernel_rfl) (by kernel_rfl) (by kernel_rfl) (fun _ _ _ h => h) (Or.inl ⟨by rfl, by intro v hSw; clear hSw; go_simp⟩) hH ?_
    refine wpAnyH_take (i := 11) (v := (.pointer (some ⟨kb, 0, none⟩))) rfl (by kernel_rfl) (by kernel_rfl) (by kernel_rfl) (fun _ _ _ h => h) (Or.inl ⟨by rfl, by intro v hSw; clear hSw; go_simp⟩) hH ?_
    refine wpAnyH_ready (rs := [12]) (by kernel_rfl) (by simp) ?_
    refine AllReadyH.cons rfl (fun K hK => ?_) AllReadyH.nil
    clear hH
    have b0 : w5.cell? ⟨kb, 0, none⟩ = some (.slice a rs.length c) := row_cell HA.out.1 0
    have z0 : w5.frozen? ⟨kb, 0, none⟩ = false := row_frozen HA.out.1 0
    go_simp
    have heb6 := (Below.heap_setCell w5 ⟨kb, 0, none⟩ (.slice a3 (rs.length + 1) c3) w.heap.size (by simp only; omega)).trans heb5
    have hcb6 := (Below.heap_setCell w5 ⟨kb, 0, none⟩ (.slice a3 (rs.length + 1) c3) (w.heap.size + 1) (by simp only; omega)).trans hcb5
    refine hK.out _ _ heb6 (fun hH => ?_)
    clear hK K hH b0 z0 heb5 hcb5
    refine wpAnyH_done (by kernel_rfl) ?_ _
    have HK2 := show Hid (_ ∧ _) from And.intro HA.out.2.1 HFr.out
    clear HA HFr
    generalize w5.setCell ⟨kb, 0, none⟩ (.slice a3 (rs.length + 1) c3) = w3 at HK2 heb6 hcb6 ⊢
    obtain ⟨ls, hls⟩ : ∃ ls, rs ++ [EV.mk key 0 0 0] = ls := ⟨_, rfl⟩
    have hll : ls.length = rs.length + 1 := by rw [← hls]; simp
    obtain ⟨m, hmm⟩ : ∃ m, rs.length = m := ⟨_, rfl⟩
    have hml : m < ls.length := by omega
    have hat : ∀ j, j < 4 → (entCells ls)[m * 4 + j]? = (entCells1 ⟨key, 0, 0, 0⟩)[j]? := by
      intro j hj
      rw [entCells_at ls m hml j hj]
      congr 2
      subst hls
      subst hmm
      simp
    have hset : ls.set m ⟨mn, ms, ml, mv⟩ = rs ++ [EV.mk mn ms ml mv] := by
      subst hls
      subst hmm
      simp
    have Hset := show Hid _ from hset
    clear hset
    rw [hls] at HK2
    rw [← hll]
    rw [hmm]
    rw [hmm] at hll
    rcases own_addr HK2.out.1.2 with ⟨_, h0⟩ | ⟨g, rfl⟩
    · omega
    have hmi : (m : Int) < (ls.length : Int) := by omega
    have hm0 : (0 : Int) ≤ (m : Int) := by omega
    have hgk : ∀ (j : Nat) (cs : Array Value) (t : TypeId) (fz : Nat × Nat), w3.heap[j]? = some (.cells cs t fz) → t ≠ 148 → g ≠ j := by
      rintro j cs t fz h ht rfl
      obtain ⟨cur, hcur⟩ := own_obj HK2.out.1.2
      rw [hcur] at h
      simp at h
      exact ht h.2.1.symm
    have hgl : g ≠ w.heap.size := hgk _ _ _ _ heb6 (by decide)
    have hgl2 : g ≠ w.heap.size + 1 := hgk _ _ _ _ hcb6 (by decide)
    have HK := HK2
    have heb := heb6
    have hcb := hcb6
    clear HK2 heb6 hcb6 hgk hls hll hmm
    have hkc : w3.cell? ⟨kb, 0, none⟩ = some (.slice (some ⟨g, 0, none⟩) ls.length c3) := HK.out.1.cell
    have q0 : w3.cell? ⟨g, m * 4, none⟩ = some (.string key) := (HK.out.1.2.cellAt (m * 4) (by omega)).trans (hat 0 (by decide))
    have q1 : w3.cell? ⟨g, m * 4 + 1, none⟩ = some (.int .u16 0) := (HK.out.1.2.cellAt (m * 4 + 1) (by omega)).trans (hat 1 (by decide))
    have q2 : w3.cell? ⟨g, m * 4 + 2, none⟩ = some (.int .i64 0) := (HK.out.1.2.cellAt (m * 4 + 2) (by omega)).trans (hat 2 (by decide))
    have q3 : w3.cell? ⟨g, m * 4 + 3, none⟩ = some (.int .i16 0) := (HK.out.1.2.cellAt (m * 4 + 3) (by omega)).trans (hat 3 (by decide))
    have hgn := (own_lt HK.out.1.2).2
    have HK4 := show Hid (_ ∧ _) from And.intro (HK.out.1.alloc (.cells #[.string key, .int .u16 0, .int .i64 0, .int .i16 0] 148)) (HK.out.2.alloc hBw (.cells #[.string key, .int .u16 0, .int .i64 0, .int .i16 0] 148))
    have hob := heap_alloc_new w3 (.cells #[.string key, .int .u16 0, .int .i64 0, .int .i16 0] 148)
    have heb4 : (w3.alloc (.cells #[.string key, .int .u16 0, .int .i64 0, .int .i16 0] 148)).heap[w.heap.size]? = some (.cells #[.int .u8 (op : Int), .string key, .int .u16 (seq : Int), .int .i16 val] 38 (0, 0)) := (Below.heap_alloc _ _ _ (by have := heap_lt heb; omega)).trans heb
    have hcb4 : (w3.alloc (.cells #[.string key, .int .u16 0, .int .i64 0, .int .i16 0] 148)).heap[w.heap.size + 1]? = some (.cells #[.int .i32 0, .int .i64 0, .int .i16 0] 123 (0, 0)) := (Below.heap_alloc _ _ _ (by have := heap_lt hcb; omega)).trans hcb
    have x0 : (w3.alloc (.cells #[.string key, .int .u16 0, .int .i64 0, .int .i16 0] 148)).cell? ⟨w.heap.size, 0, none⟩ = some (.int .u8 (op : Int)) := row_cell heb4 0
    have x1 : (w3.alloc (.cells #[.string key, .int .u16 0, .int .i64 0, .int .i16 0] 148)).cell? ⟨w.heap.size, 1, none⟩ = some (.string key) := row_cell heb4 1
    have x2 : (w3.alloc (.cells #[.string key, .int .u16 0, .int .i64 0, .int .i16 0] 148)).cell? ⟨w.heap.size, 2, none⟩ = some (.int .u16 (seq : Int)) := row_cell heb4 2
    have x3 : (w3.alloc (.cells #[.string key, .int .u16 0, .int .i64 0, .int .i16 0] 148)).cell? ⟨w.heap.size, 3, none⟩ = some (.int .i16 val) := row_cell heb4 3
    have hcbl := heap_lt hcb
    clear heb hcb HK
    go_wp2_with fail
    clear hkc q0 q1 q2 q3 x0 x1 x2 x3
    generalize (w3.alloc (.cells #[.string key, .int .u16 0, .int .i64 0, .int .i16 0] 148)) = w4 at HK4 hob heb4 hcb4 ⊢
    generalize w3.heap.size = ob at hob hgn hcbl ⊢
    refine (hM.out _).mono ?_
    rintro en w5 ⟨rfl, hb5⟩
    have HK5 := show Hid (_ ∧ _) from And.intro ((HK4.out.1.old hb5).alloc (.cells #[.string mn, .int .u16 (ms : Int), .int .i64 ml, .int .i16 mv] 148)) ((HK4.out.2.old hBw hb5).alloc hBw (.cells #[.string mn, .int .u16 (ms : Int), .int .i64 ml, .int .i16 mv] 148))
    have hsz := hb5.size
    have hol := heap_lt hob
    have hob5 : (w5.alloc (.cells #[.string mn, .int .u16 (ms : Int), .int .i64 ml, .int .i16 mv] 148)).heap[ob]? = some (.cells #[.string key, .int .u16 0, .int .i64 0, .int .i16 0] 148 (0, 0)) := (Below.heap_alloc _ _ _ (by omega)).trans ((hb5.block _ hol).trans hob)
    have heb5 : (w5.alloc (.cells #[.string mn, .int .u16 (ms : Int), .int .i64 ml, .int .i16 mv] 148)).heap[w.heap.size]? = some (.cells #[.int .u8 (op : Int), .string key, .int .u16 (seq : Int), .int .i16 val] 38 (0, 0)) := (Below.heap_alloc _ _ _ (by omega)).trans ((hb5.block _ (by omega)).trans heb4)
    have hcb5 : (w5.alloc (.cells #[.string mn, .int .u16 (ms : Int), .int .i64 ml, .int .i16 mv] 148)).heap[w.heap.size + 1]? = some (.cells #[.int .i32 0, .int .i64 0, .int .i16 0] 123 (0, 0)) := (Below.heap_alloc _ _ _ (by omega)).trans ((hb5.block _ (by omega)).trans hcb4)
    have hnb5 := heap_alloc_new w5 (.cells #[.string mn, .int .u16 (ms : Int), .int .i64 ml, .int .i16 mv] 148)
    have hnl : ob < w5.heap.size := by omega
    clear HK4 hob heb4 hcb4 hb5 hM
    go_wp2
    generalize (w5.alloc (.cells #[.string mn, .int .u16 (ms : Int), .int .i64 ml, .int .i16 mv] 148)) = w6 at HK5 hob5 heb5 hcb5 hnb5 ⊢
    generalize w5.heap.size = nb at hnb5 hnl ⊢
    clear hsz hol
    have hS0 : w6.drew.heap[kb]? = some (.cells #[.slice (some ⟨g, 0, none⟩) ls.length c3] 118 (0, 0)) ∧ w6.drew.heap[nb]? = some (.cells #[.string mn, .int .u16 (ms : Int), .int .i64 ml, .int .i16 mv] 148 (0, 0)) := ⟨HK5.out.1.1, hnb5⟩
    have HK5' := show Hid (_ ∧ _) from And.intro HK5.out.1.drew HK5.out.2.drew
    have hob5' := show w6.drew.heap[ob]? = _ from hob5
    have heb5' := show w6.drew.heap[w.heap.size]? = _ from heb5
    have hcb5' := show w6.drew.heap[w.heap.size + 1]? = _ from hcb5
    have hnb5' := show w6.drew.heap[nb]? = _ from hnb5
    clear HK5 hob5 heb5 hcb5 hnb5
    have HK5 := HK5'
    have hob5 := hob5'
    have heb5 := heb5'
    have hcb5 := hcb5'
    have hnb5 := hnb5'
    clear HK5' hob5' heb5' hcb5' hnb5'
    refine wp_region_held_drew (S := fun w' : World => w'.heap[kb]? = some (.cells #[.slice (some ⟨g, 0, none⟩) ls.length c3] 118 (0, 0)) ∧ w'.heap[nb]? = some (.cells #[.string mn, .int .u16 (ms : Int), .int .i64 ml, .int .i16 mv] 148 (0, 0))) (by kernel_rfl) hS0 (fun hH => ?_)
    generalize w6.drew = wd at HK5 hob5 heb5 hcb5 hnb5 hS0 hH ⊢
    have HF := show Hid _ from KAt.fill (w := wd) HK5.out.1 m hml ⟨mn, ms, ml, mv⟩
    refine wpAnyH_take (i := 0) (v := (.pointer (some ⟨kb, 0, none⟩))) rfl (by kernel_rfl) (by kernel_rfl) (by kernel_rfl) (fun _ _ _ h => h) (Or.inl ⟨by rfl, by intro v hSw; clear hSw; go_simp⟩) hH ?_
    refine wpAnyH_take (i := 1) (v := (.pointer (some ⟨kb, 0, none⟩))) rfl (by kernel_rfl) (by kernel_rfl) (by kernel_rfl) (fun _ _ _ h => h) (Or.inl ⟨by rfl, by intro v hSw; clear hSw; go_simp⟩) hH ?_
    refine wpAnyH_take (i := 2) (v := (.pointer (some ⟨kb, 0, none⟩))) rfl (by kernel_rfl) (by kernel_rfl) (by kernel_rfl) (fun _ _ _ h => h) (Or.inl ⟨by rfl, by intro v hSw; clear hSw; go_simp⟩) hH ?_
    refine wpAnyH_take (i := 3) (v := (.slice (some ⟨g, 0, none⟩) ls.length c3)) rfl (by kernel_rfl) (by kernel_rfl) (by kernel_rfl) (fun _ _ _ h => h) (Or.inl ⟨by rfl, by intro v hSw; have s0 : v.cell? ⟨kb, 0, none⟩ = some (.slice (some ⟨g, 0, none⟩) ls.length c3) := row_cell hSw.1 0; clear hSw; go_simp⟩) hH ?_
    refine wpAnyH_take (i := 4) (v := (.int .i64 (m : Int))) rfl (by kernel_rfl) (by kernel_rfl) (by kernel_rfl) (fun _ _ _ h => h) (Or.inl ⟨by rfl, by intro v hSw; clear hSw; go_simp⟩) hH ?_
    refine wpAnyH_take (i := 5) (v := (.agg #[.string mn, .int .u16 (ms : Int), .int .i64 ml, .int .i16 mv])) rfl (by kernel_rfl) (by kernel_rfl) (by kernel_rfl) (fun _ _ _ h => h) (Or.inl ⟨by rfl, by intro v hSw; have s0 : v.cell? ⟨nb, 0, none⟩ = some (.string mn) := row_cell hSw.2 0; have s1 : v.cell? ⟨nb, 1, none⟩ = some (.int .u16 (ms : Int)) := row_cell hSw.2 1; have s2 : v.cell? ⟨nb, 2, none⟩ = some (.int .i64 ml) := row_cell hSw.2 2; have s3 : v.cell? ⟨nb, 3, none⟩ = some (.int .i16 mv) := row_cell hSw.2 3; clear hSw; go_simp⟩) hH ?_
    refine wpAnyH_take (i := 6) (v := (.pointer (some ⟨g, m * 4, none⟩))) rfl (by kernel_rfl) (by kernel_rfl) (by kernel_rfl) (fun _ _ _ h => h) (Or.inl ⟨by rfl, by intro v hSw; clear hSw; go_simp⟩) hH ?_
    refine wpAnyH_ready (rs := [7]) (by kernel_rfl) (by simp) ?_
    refine AllReadyH.cons rfl (fun K hK => ?_) AllReadyH.nil
    have c0 := HF.out.1.1
    have c1 := HF.out.1.2.1
    have c2 := HF.out.1.2.2.1
    have c3 := HF.out.1.2.2.2
    have z0 := HF.out.2.1.1
    have z1 := HF.out.2.1.2.1
    have z2 := HF.out.2.1.2.2.1
    have z3 := HF.out.2.1.2.2.2
    simp only at c0 c1 c2 c3 z0 z1 z2 z3
    clear hH hS0
    go_simp
    have HF2 := show Hid (_ ∧ _) from HF.out.2.2
    simp only at HF2
    clear HF c0 c1 c2 c3 z0 z1 z2 z3
    have hBg : B ≤ g := (own_lt HK5.out.1.2).1
    have hfr : Frm B 118 148 wd _ := Frm.grown (Frm.refl B 118 148 wd) (Nat.le_trans hBw HK5.out.2.below.size) HF2.out.2 (fun g' hg' => by
      simp only [Option.some.injEq] at hg'
      subst hg'
      obtain ⟨cur, hcur⟩ := own_obj HK5.out.1.2
      exact ⟨hBg, cur, _, _, hcur, .inr rfl⟩)
    have HK6 := show Hid (_ ∧ _) from And.intro HF2.out.1 (HK5.out.2.trans hfr)
    have hob6 := (HF2.out.2.block ob (heap_lt hob5) (by simp only [ne_eq, Option.some.injEq]; omega)).trans hob5
    have heb6 := (HF2.out.2.block w.heap.size (heap_lt heb5) (by simp only [ne_eq, Option.some.injEq]; omega)).trans heb5
    have hcb6 := (HF2.out.2.block (w.heap.size + 1) (heap_lt hcb5) (by simp only [ne_eq, Option.some.injEq]; omega)).trans hcb5
    have hnb6 := (HF2.out.2.block nb (heap_lt hnb5) (by simp only [ne_eq, Option.some.injEq]; omega)).trans hnb5
    have hkb6 := (HF2.out.2.block kb (heap_lt HK5.out.1.1) (by
      simp only [ne_eq, Option.some.injEq]
      intro e
      obtain ⟨cur, hcur⟩ := own_obj HK5.out.1.2
      rw [← e] at hcur
      have := HK5.out.1.1
      rw [hcur] at this
      simp at this)).trans HK5.out.1.1
    clear hfr HF2
    refine hK.out _ _ ⟨hkb6, hnb6⟩ (fun hH => ?_)
    clear hK K hH hkb6 HK5 hob5 heb5 hcb5 hnb5
    refine wpAnyH_done (by kernel_rfl) ?_ _
    generalize ((((wd.setCell ⟨g, m * 4, none⟩ (.string mn)).setCell ⟨g, m * 4 + 1, none⟩ (.int .u16 (ms : Int))).setCell ⟨g, m * 4 + 2, none⟩ (.int .i64 ml)).setCell ⟨g, m * 4 + 3, none⟩ (.int .i16 mv)) = w7 at HK6 hob6 heb6 hcb6 hnb6 ⊢
    clear w6 wd
    go_wp2
    have hS1 : w7.drew.heap[w.heap.size]? = some (.cells #[.int .u8 (op : Int), .string key, .int .u16 (seq : Int), .int .i16 val] 38 (0, 0)) ∧ w7.drew.heap[ob]? = some (.cells #[.string key, .int .u16 0, .int .i64 0, .int .i16 0] 148 (0, 0)) ∧ w7.drew.heap[nb]? = some (.cells #[.string mn, .int .u16 (ms : Int), .int .i64 ml, .int .i16 mv] 148 (0, 0)) := ⟨heb6, hob6, hnb6⟩
    have HK7 := show Hid (_ ∧ _ ∧ _) from And.intro HK6.out.1.drew (And.intro HK6.out.2.drew hcb6)
    clear HK6 hcb6 heb6 hob6 hnb6
    refine wp_region_held_drew (S := fun w' : World => w'.heap[w.heap.size]? = some (.cells #[.int .u8 (op : Int), .string key, .int .u16 (seq : Int), .int .i16 val] 38 (0, 0)) ∧ w'.heap[ob]? = some (.cells #[.string key, .int .u16 0, .int .i64 0, .int .i16 0] 148 (0, 0)) ∧ w'.heap[nb]? = some (.cells #[.string mn, .int .u16 (ms : Int), .int .i64 ml, .int .i16 mv] 148 (0, 0))) (by kernel_rfl) hS1 (fun hH => ?_)
    refine wpAnyH_take (i := 0) (v := (.pointer (some ⟨w.heap.size, 1, none⟩))) rfl (by kernel_rfl) (by kernel_rfl) (by kernel_rfl) (fun _ _ _ h => h) (Or.inl ⟨by rfl, by intro v hSw; clear hSw; go_simp⟩) hH ?_
    refine wpAnyH_take (i := 1) (v := (.string key)) rfl (by kernel_rfl) (by kernel_rfl) (by kernel_rfl) (fun _ _ _ h => h) (Or.inl ⟨by rfl, by intro v hSw; have s0 : v.cell? ⟨w.heap.size, 1, none⟩ = some (.string key) := row_cell hSw.1 1; clear hSw; go_simp⟩) hH ?_
    refine wpAnyH_take (i := 3) (v := (.pointer (some ⟨nb, 2, none⟩))) rfl (by kernel_rfl) (by kernel_rfl) (by kernel_rfl) (fun _ _ _ h => h) (Or.inl ⟨by rfl, by intro v hSw; clear hSw; go_simp⟩) hH ?_
    refine wpAnyH_take (i := 4) (v := (.int .i64 ml)) rfl (by kernel_rfl) (by kernel_rfl) (by kernel_rfl) (fun _ _ _ h => h) (Or.inl ⟨by rfl, by intro v hSw; have s0 : v.cell? ⟨nb, 2, none⟩ = some (.int .i64 ml) := row_cell hSw.2.2 2; clear hSw; go_simp⟩) hH ?_
    refine wpAnyH_take (i := 5) (v := (.pointer (some ⟨ob, 2, none⟩))) rfl (by kernel_rfl) (by kernel_rfl) (by kernel_rfl) (fun _ _ _ h => h) (Or.inl ⟨by rfl, by intro v hSw; clear hSw; go_simp⟩) hH ?_
    refine wpAnyH_take (i := 6) (v := (.int .i64 0)) rfl (by kernel_rfl) (by kernel_rfl) (by kernel_rfl) (fun _ _ _ h => h) (Or.inl ⟨by rfl, by intro v hSw; have s0 : v.cell? ⟨ob, 2, none⟩ = some (.int .i64 0) := row_cell hSw.2.1 2; clear hSw; go_simp⟩) hH ?_
    refine wpAnyH_take (i := 7) (v := (.int .i64 ml)) rfl (by kernel_rfl) (by kernel_rfl) (by kernel_rfl) (fun _ _ _ h => h) (Or.inl ⟨by rfl, by intro v hSw; clear hSw; first | (go_simp; done) | (go_simp; rw [IntWalk.i64_in _ ⟨by omega, by omega⟩])⟩) hH ?_
    refine wpAnyH_take (i := 8) (v := (.pointer (some ⟨nb, 3, none⟩))) rfl (by kernel_rfl) (by kernel_rfl) (by kernel_rfl) (fun _ _ _ h => h) (Or.inl ⟨by rfl, by intro v hSw; clear hSw; go_simp⟩) hH ?_
    refine wpAnyH_take (i := 9) (v := (.int .i16 mv)) rfl (by kernel_rfl) (by kernel_rfl) (by kernel_rfl) (fun _ _ _ h => h) (Or.inl ⟨by rfl, by intro v hSw; have s0 : v.cell? ⟨nb, 3, none⟩ = some (.int .i16 mv) := row_cell hSw.2.2 3; clear hSw; go_simp⟩) hH ?_
    refine wpAnyH_take (i := 10) (v := (.pointer (some ⟨ob, 3, none⟩))) rfl (by kernel_rfl) (by kernel_rfl) (by kernel_rfl) (fun _ _ _ h => h) (Or.inl ⟨by rfl, by intro v hSw; clear hSw; go_simp⟩) hH ?_
    refine wpAnyH_take (i := 11) (v := (.int .i16 0)) rfl (by kernel_rfl) (by kernel_rfl) (by kernel_rfl) (fun _ _ _ h => h) (Or.inl ⟨by rfl, by intro v hSw; have s0 : v.cell? ⟨ob, 3, none⟩ = some (.int .i16 0) := row_cell hSw.2.1 3; clear hSw; go_simp⟩) hH ?_
    refine wpAnyH_take (i := 12) (v := (.int .i16 (wrap16 mv))) rfl (by kernel_rfl) (by kernel_rfl) (by kernel_rfl) (fun _ _ _ h => h) (Or.inl ⟨by rfl, by intro v hSw; clear hSw; first | (go_simp; exact wrap_i16 _) | (rw [← wrap_i16]; go_simp)⟩) hH ?_
    refine wpAnyH_ready (rs := [2]) (by kernel_rfl) (by simp) ?_
    refine AllReadyH.cons rfl (fun K hK => ?_) AllReadyH.nil
    clear hH
    go_simp
    go_wp2_with (go_at_call 85; refine (hG.out _).mono ?_; rintro en w8 ⟨rfl, hb8⟩)
    have hz8 : w7.heap.size ≤ w8.heap.size := hb8.size
    have h8a := (hb8.block _ (heap_lt hS1.1)).trans hS1.1
    have h8b := (hb8.block _ (heap_lt hS1.2.1)).trans hS1.2.1
    have h8c := (hb8.block _ (heap_lt hS1.2.2)).trans hS1.2.2
    have h8d : w8.heap[w.heap.size + 1]? = some (.cells #[.int .i32 0, .int .i64 0, .int .i16 0] 123 (0, 0)) := (hb8.block _ (heap_lt HK7.out.2.2)).trans HK7.out.2.2
    have HK8 := show Hid (_ ∧ _) from And.intro (HK7.out.1.old hb8) (HK7.out.2.1.old hBw hb8)
    refine hK.out _ _ ⟨h8a, h8b, h8c⟩ (fun hH => ?_)
    clear hK K hb8 hS1 HK7 hG hz8
    refine wpAnyH_take (i := 13) (v := (.agg #[.int .i32 (pt : Int), .int .i64 ml, .int .i16 (wrap16 mv)])) rfl (by kernel_rfl) (by kernel_rfl) (by kernel_rfl) (fun _ _ _ h => h) (Or.inl ⟨by rfl, by intro v hSw; clear hSw; go_simp⟩) hH ?_
    refine wpAnyH_ready (rs := [14]) (by kernel_rfl) (by simp) ?_
    refine AllReadyH.cons rfl (fun K hK => ?_) AllReadyH.nil
    clear hH
    have d0 : w8.cell? ⟨w.heap.size + 1, 0, none⟩ = some (.int .i32 0) := row_cell h8d 0
    have d1 : w8.cell? ⟨w.heap.size + 1, 1, none⟩ = some (.int .i64 0) := row_cell h8d 1
    have d2 : w8.cell? ⟨w.heap.size + 1, 2, none⟩ = some (.int .i16 0) := row_cell h8d 2
    have z0 : w8.frozen? ⟨w.heap.size + 1, 0, none⟩ = false := row_frozen h8d 0
    have z1 : w8.frozen? ⟨w.heap.size + 1, 1, none⟩ = false := row_frozen h8d 1
    have z2 : w8.frozen? ⟨w.heap.size + 1, 2, none⟩ = false := row_frozen h8d 2
    go_simp
    clear d0 d1 d2 z0 z1 z2
    have hg := row_set (j := 2) (row_set (j := 1) (row_set (j := 0) h8d (.int .i32 (pt : Int))) (.int .i64 ml)) (.int .i16 (wrap16 mv))
    have hg' : _ = some (Obj.cells #[.int .i32 (pt : Int), .int .i64 ml, .int .i16 (wrap16 mv)] 123 (0, 0)) := hg
    have hse : ∀ (j : Nat) (o : Obj), w8.heap[j]? = some o → j ≠ w.heap.size + 1 → (((w8.setCell ⟨w.heap.size + 1, 0, none⟩ (.int .i32 (pt : Int))).setCell ⟨w.heap.size + 1, 1, none⟩ (.int .i64 ml)).setCell ⟨w.heap.size + 1, 2, none⟩ (.int .i16 (wrap16 mv))).heap[j]? = some o := by
      intro j o h hj
      rw [Below.heap_setCell _ _ _ _ hj, Below.heap_setCell _ _ _ _ hj, Below.heap_setCell _ _ _ _ hj]
      exact h
    refine hK.out _ _ ⟨hse _ _ h8a (by omega), hse _ _ h8b (by omega), hse _ _ h8c (by omega)⟩ (fun hH => ?_)
    clear hK K hg hse
    refine wpAnyH_take (i := 15) (v := (.bool true)) rfl (by kernel_rfl) (by kernel_rfl) (by kernel_rfl) (fun _ _ _ h => h) (Or.inl ⟨by rfl, by intro v hSw; clear hSw; go_simp⟩) hH ?_
    clear hH h8a h8b h8c h8d
    refine wpAnyH_done (by kernel_rfl) ?_ _
    go_wp2
    refine bodyPost_ret (results_row_tmp (p := 4) (u := 5) (ty := 123) rfl _ _ (w.heap.size + 1) 123 #[.int .i32 (pt : Int), .int .i64 ml, .int .i16 (wrap16 mv)] (0, 0) _ rfl hg' Tryd.underlying123 rfl (by kernel_rfl)) rfl ⟨rfl, ?_, ?_⟩
    · have ho : ∀ g' : Nat, (some ⟨g, 0, none⟩ : Option Addr) = some ⟨g', 0, none⟩ → g' ≠ w.heap.size + 1 := fun g' h => by simp at h; omega
      exact ⟨_, _, by rw [← Hset.out]; exact ((HK8.out.1.setOther (by omega) ho 0 _).setOther (by omega) ho 1 _).setOther (by omega) ho 2 _⟩
    · exact ((HK8.out.2.setNew hBw (by omega) _).setNew hBw (by omega) _).setNew hBw (by omega) _


end Go.Proofs.YthpknaeiaiojgaaDoor
