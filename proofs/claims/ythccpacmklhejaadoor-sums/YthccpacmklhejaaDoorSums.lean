/-
  canalkeep.Sums.
-/
import Derived.Test.YthccpacmklhejaaDoorSumsMath
namespace Go.Proofs.YthccpacmklhejaaDoor
open Go.RowKit

theorem seq_wrap (first : Int) (k : Nat) : IntKind.u16.wrap (IntKind.u16.wrap first + (k : Int)) = (((first + (k : Int)) % 65536).toNat : Int) := by
  rw [wrap_u16', wrap_u16']
  omega

theorem recE_facts (r : RawV) : ((recE r false).op = 1 ∨ (recE r false).op = 2) ∧ ((recE r false).op = 2 → (recE r false).val = 0) ∧ (-32768 ≤ (recE r false).val ∧ (recE r false).val ≤ 32767) := by
  have := wrap16_range r.val
  unfold recE
  cases r.drop <;> simp <;> omega

set_option maxRecDepth 100000 in
set_option maxHeartbeats 1000000 in
theorem sums_any (first other : Int) (a : Option Addr) (cap : Nat) (rs : List RawV) (w : World) (hev : IsRaws w a rs) (ht : Tab w) :
    Calls Tryd.prog 5 #[.int .i64 first, .slice a rs.length cap, .int .i64 other] w fun en w' => en = .returned (.bool true) ∧ Below w.heap.size w w' := by
  have H1 := show Hid _ from fun (_ : Unit) => one_any w ht
  have Ht := show Hid (Tab w ∧ IsRaws w a rs) from ⟨ht, hev⟩
  clear hev ht
  go_enter Tryd.func5, Tryd.ntmps5
  go_wp2_with fail
  refine (H1.out ()).mono ?_
  rintro en w1 ⟨rfl, hb1⟩
  go_wp2
  clear H1
  have Hb1 := show Hid (Below w.heap.size w w1) from hb1
  clear hb1
  go_loopw [8, 9, 10, 11, 12] (fun lg th vl n i wr => ∃ (k : Nat) (es : List Ev) (tx : ByteArray) (there : Bool) (value : Int), k ≤ rs.length ∧ k ≤ 30 ∧ i = .int .i64 (k : Int) ∧ n = .int .i64 (k : Int) ∧ lg = .string tx ∧ th = .bool there ∧ vl = .int .i16 value ∧ Hid (tx.data.toList = recs es ∧ QSt first es there value k) ∧ tx.size ≤ 8 * k ∧ Below w.heap.size w wr) (fun _ _ _ _ i _ => 31 - (intOf i).toNat)
  case atStart => exact ⟨0, [], ⟨#[]⟩, false, 0, Nat.zero_le _, by omega, rfl, rfl, rfl, rfl, rfl, ⟨by simp [recs], QSt.new first⟩, by simp [ByteArray.size], Hb1.out⟩
  case round =>
    obtain ⟨k, es, tx, there, value, hk, hk30, rfl, rfl, rfl, rfl, rfl, hQ, hts, hb⟩ := hrel
    clear Hb1
    by_cases hkl : k < rs.length ∧ k < 30
    · obtain ⟨hkl, hk3⟩ := hkl
      rcases Ht.out.2.2 with h0 | ⟨b, off, rfl, hbl, hcs⟩
      · rw [h0] at hkl; simp at hkl
      obtain ⟨d0, d1, d2, d3⟩ := hcs k hkl
      have q0 := (hb.cell (p := ⟨b, off + k * 4, none⟩) hbl).trans d0
      have q1 := (hb.cell (p := ⟨b, off + k * 4 + 1, none⟩) hbl).trans d1
      have q2 := (hb.cell (p := ⟨b, off + k * 4 + 2, none⟩) hbl).trans d2
      have q3 := (hb.cell (p := ⟨b, off + k * 4 + 3, none⟩) hbl).trans d3
      have hok := Ht.out.2.1 (rs[k]'hkl) (List.getElem_mem hkl)
      have HR := show Hid _ from fun (_ : Unit) => record_any (rs[k]'hkl) false wr hok
      obtain ⟨f1, f2, f3⟩ := recE_facts (rs[k]'hkl)
      clear d0 d1 d2 d3 hcs hok
      generalize recE (rs[k]'hkl) false = e at HR f1 f2 f3
      generalize rs[k]'hkl = r at q0 q1 q2 q3 HR
      obtain ⟨rd, rk, rq, rv⟩ := r
      obtain ⟨op, key, seq, val⟩ := e
      unfold RawV.value Ev.value at HR
      simp only at q0 q1 q2 q3 HR f1 f2 f3
      have hki : (k : Int) < (rs.length : Int) := by omega
      have hk3i : (k : Int) < 30 := by omega
      have hk0 : (0 : Int) ≤ (k : Int) := by omega
      have hsw := seq_wrap first k
      have hg : Good ⟨op, kQ, ((first + (k : Int)) % 65536).toNat, val⟩ := q_good op _ val f1 f2 (by omega) f3
      have HQ := show Hid _ from hQ.out.2.step hg (fun h => f2 (by omega))
      have hE := show Hid _ from fun w => cencode_any ⟨op, kQ, ((first + (k : Int)) % 65536).toNat, val⟩ w (by simp only; omega)
      have hel := encStr_list hg.1
      rw [hg.1] at hE
      have hes := size_list (encStr ⟨op, kQ, ((first + (k : Int)) % 65536).toNat, val⟩)
      rw [hel, recB_length] at hes
      have hsz : (encStr ⟨op, kQ, ((first + (k : Int)) % 65536).toNat, val⟩).size ≤ 8 := by
        rw [← hes]
        have : kQ.size = 1 := rfl
        simp only [this]
        split <;> omega
      have Hel := show Hid _ from hel
      generalize encStr ⟨op, kQ, ((first + (k : Int)) % 65536).toNat, val⟩ = t at hE Hel hsz
      clear hel hes hg
      generalize ((first + (k : Int)) % 65536).toNat = sq at hE Hel HQ hsw
      unfold Ev.value kQ at hE
      simp only at hE
      have Hb := show Hid (Below w.heap.size w wr) from hb
      clear hb
      go_wp2_with fail
      refine (HR.out ()).mono ?_
      rintro en w2 ⟨rfl, hb2⟩
      have Hb2 := show Hid (Below w.heap.size w w2) from Hb.out.trans (hb2.mono Hb.out.size)
      clear hb2 HR q0 q1 q2 q3
      go_wp2_with fail
      refine (hE.out _).mono ?_
      rintro en w3 ⟨rfl, hb3⟩
      have hx := (hb3.block w2.heap.size (by simp)).trans (heap_alloc_new w2 _)
      have c0 : w3.cell? ⟨w2.heap.size, 0, none⟩ = some (.int .u8 (op : Int)) := row_cell hx 0
      have c3 : w3.cell? ⟨w2.heap.size, 3, none⟩ = some (.int .i16 val) := row_cell hx 3
      have Hb3 := show Hid (Below w.heap.size w w3) from (Hb2.out.alloc Hb2.out.size _).trans (hb3.mono (by have := Hb2.out.size; simp; omega))
      clear hx hb3 Hb2 Hb hE
      go_wp2
      go_roundw
      case rel => exact ⟨k + 1, es ++ [⟨op, kQ, sq, val⟩], tx ++ t, decide (op = 1), val, by omega, by omega, by go_num, by go_num, rfl, congrArg Value.bool (int_one op), rfl, ⟨by rw [ByteArray.data_append, Array.toList_append, hQ.out.1, Hel.out, recs_append, recs_one], HQ.out⟩, by rw [ByteArray.size_append]; omega, Hb3.out⟩
      case measure => simp [intOf]; omega
    · obtain ⟨sq, hsq, hsl⟩ : ∃ sq : Nat, IntKind.u16.wrap other = (sq : Int) ∧ sq < 65536 := ⟨(other % 65536).toNat, by rw [wrap_u16']; omega, by omega⟩
      obtain ⟨o, ho, hor⟩ : ∃ o : Int, IntKind.i16.wrap other = o ∧ (-32768 ≤ o ∧ o ≤ 32767) := ⟨_, rfl, by rw [wrap_i16]; exact wrap16_range _⟩
      have hg := qq_good sq o hsl hor
      have hE := show Hid _ from fun w => cencode_any ⟨1, kQQ, sq, o⟩ w hsl
      have hel := encStr_list hg.1
      rw [hg.1] at hE
      have hes := size_list (encStr ⟨1, kQQ, sq, o⟩)
      rw [hel, recB_length] at hes
      have hsz : (encStr ⟨1, kQQ, sq, o⟩).size ≤ 9 := by
        rw [← hes]
        have : kQQ.size = 2 := rfl
        simp only [this]
        split <;> omega
      have htt : ∀ t : ByteArray, t.data.toList = recB ⟨1, kQQ, sq, o⟩ → (tx ++ t).data.toList = recs (es ++ [⟨1, kQQ, sq, o⟩]) := by
        intro t ht
        rw [ByteArray.data_append, Array.toList_append, hQ.out.1, ht, recs_append, recs_one]
      have hgd : ∀ e ∈ es ++ [⟨1, kQQ, sq, o⟩], Good e := by
        intro e he
        rcases List.mem_append.1 he with he | he
        · exact (hQ.out.2.good e he).1
        · simp at he
          subst he
          exact hg
      have HT : Hid (∀ t : ByteArray, t.data.toList = recB ⟨1, kQQ, sq, o⟩ → t.size ≤ 9 → ∀ w, Tab w → Calls Tryd.prog 11 #[.string (tx ++ t), .int .i64 ((k : Int) + 1)] w fun en w' => en = .returned (.tuple #[.string ⟨(foldB (es ++ [⟨1, kQQ, sq, o⟩])).toArray⟩, .bool true]) ∧ Below w.heap.size w w') := by
        intro t h1 h2 w ht
        have := told_any (tx ++ t) (es ++ [⟨1, kQQ, sq, o⟩]) _ w (by rw [ByteArray.size_append]; omega) (Parsed.of_recs hgd (htt t h1)) ht
        rw [List.length_append, hQ.out.2.len] at this
        exact this
      have HT1 := show Hid _ from HT.out (encStr ⟨1, kQQ, sq, o⟩) hel hsz
      have hvr := hQ.out.2.range
      have hws : IntKind.i16.wrap (value + o) = wrap16 (value + o) := wrap_i16 _
      have hwr := wrap16_range (value + o)
      have hw64 : IntKind.i64.wrap (wrap16 (value + o)) = wrap16 (value + o) := IntWalk.i64_in _ ⟨by omega, by omega⟩
      have N2 := show Hid _ from fun w => cnumber_any (wrap16 (value + o)) w (by omega) (by omega)
      have N3 := show Hid _ from fun w => cnumber_any ((k : Int) + 1) w (by omega) (by omega)
      have l2 := decI_length (wrap16 (value + o)) (by omega) (by omega)
      have l3 := decI_length ((k : Int) + 1) (by omega) (by omega)
      clear HT htt hgd hel hes hg
      generalize encStr ⟨1, kQQ, sq, o⟩ = t at hE hsz HT1
      unfold Ev.value kQQ at hE
      simp only at hE
      have Hb := show Hid (Below w.heap.size w wr) from hb
      have hcond : ¬ ((k : Int) < (rs.length : Int)) ∨ ((k : Int) < (rs.length : Int) ∧ ¬ ((k : Int) < 30)) := by omega
      clear hb hkl
      have hki30 : (k : Int) ≤ 30 := by omega
      have hk0 : (0 : Int) ≤ (k : Int) := by omega
      cases hte : there
      · rw [hte] at hQ
        have hfo := hQ.out.2.fold hk30 sq o
        have hfin : (⟨#[113, 32]⟩ : ByteArray) ++ ⟨(decI 1).toArray⟩ ++ ⟨#[32]⟩ ++ ⟨(decI (wrap16 (value + o))).toArray⟩ ++ ⟨#[32]⟩ ++ ⟨(decI ((k : Int) + 1)).toArray⟩ ++ ⟨#[59]⟩ = ⟨(foldB (es ++ [⟨1, kQQ, sq, o⟩])).toArray⟩ := by
          apply ba_ext
          rw [hfo]
          simp
        have N1 := show Hid _ from fun w => cnumber_any 1 w (by decide) (by decide)
        have l1 := decI_length 1 (by decide) (by decide)
        generalize decI 1 = L1 at hfin N1 l1
        generalize decI (wrap16 (value + o)) = L2 at hfin N2 l2
        generalize decI ((k : Int) + 1) = L3 at hfin N3 l3
        have s1 : (⟨L1.toArray⟩ : ByteArray).size = L1.length := by simp [ByteArray.size]
        have s2 : (⟨L2.toArray⟩ : ByteArray).size = L2.length := by simp [ByteArray.size]
        have s3 : (⟨L3.toArray⟩ : ByteArray).size = L3.length := by simp [ByteArray.size]
        have t1 : (⟨#[113, 32]⟩ : ByteArray).size = 2 := rfl
        have t2 : (⟨#[32]⟩ : ByteArray).size = 1 := rfl
        have t3 : (⟨#[59]⟩ : ByteArray).size = 1 := rfl
        generalize (⟨L1.toArray⟩ : ByteArray) = B1 at hfin N1 s1
        generalize (⟨L2.toArray⟩ : ByteArray) = B2 at hfin N2 s2
        generalize (⟨L3.toArray⟩ : ByteArray) = B3 at hfin N3 s3
        rw [← hfin] at HT1
        obtain ⟨F, hF⟩ : ∃ F : ByteArray, (⟨#[113, 32]⟩ : ByteArray) ++ B1 ++ ⟨#[32]⟩ ++ B2 ++ ⟨#[32]⟩ ++ B3 ++ ⟨#[59]⟩ = F := ⟨_, rfl⟩
        rw [hF] at HT1
        clear hfin hfo hQ
        generalize wrap16 (value + o) = vo at hws hwr hw64 N2
        rcases hcond with hc1 | ⟨hc1, hc2⟩
        · go_wp2_with fail
          refine (hE.out _).mono ?_
          rintro en w2 ⟨rfl, hb2⟩
          have Hb2 := show Hid (Below w.heap.size w w2) from Hb.out.trans (hb2.mono Hb.out.size)
          clear hb2
          go_wp2_with fail
          refine (HT1.out _ (Ht.out.1.old Hb2.out)).mono ?_
          rintro en w3 ⟨rfl, hb3⟩
          have Hb3 := show Hid (Below w.heap.size w w3) from Hb2.out.trans (hb3.mono Hb2.out.size)
          clear hb3 Hb2 HT1 hE
          go_wp2_with fail
          refine (N1.out _).mono ?_
          rintro en w4 ⟨rfl, hb4⟩
          have Hb4 := show Hid (Below w.heap.size w w4) from Hb3.out.trans (hb4.mono Hb3.out.size)
          clear hb4 Hb3 N1
          go_wp2_with fail
          refine (N2.out _).mono ?_
          rintro en w5 ⟨rfl, hb5⟩
          have Hb5 := show Hid (Below w.heap.size w w5) from Hb4.out.trans (hb5.mono Hb4.out.size)
          clear hb5 Hb4 N2
          go_wp2_with fail
          refine (N3.out _).mono ?_
          rintro en w6 ⟨rfl, hb6⟩
          have Hb6 := show Hid (Below w.heap.size w w6) from Hb5.out.trans (hb6.mono Hb5.out.size)
          clear hb6 Hb5 N3
          go_wp2
          go_ret
          exact ⟨rfl, Hb6.out⟩
        · go_wp2_with fail
          refine (hE.out _).mono ?_
          rintro en w2 ⟨rfl, hb2⟩
          have Hb2 := show Hid (Below w.heap.size w w2) from Hb.out.trans (hb2.mono Hb.out.size)
          clear hb2
          go_wp2_with fail
          refine (HT1.out _ (Ht.out.1.old Hb2.out)).mono ?_
          rintro en w3 ⟨rfl, hb3⟩
          have Hb3 := show Hid (Below w.heap.size w w3) from Hb2.out.trans (hb3.mono Hb2.out.size)
          clear hb3 Hb2 HT1 hE
          go_wp2_with fail
          refine (N1.out _).mono ?_
          rintro en w4 ⟨rfl, hb4⟩
          have Hb4 := show Hid (Below w.heap.size w w4) from Hb3.out.trans (hb4.mono Hb3.out.size)
          clear hb4 Hb3 N1
          go_wp2_with fail
          refine (N2.out _).mono ?_
          rintro en w5 ⟨rfl, hb5⟩
          have Hb5 := show Hid (Below w.heap.size w w5) from Hb4.out.trans (hb5.mono Hb4.out.size)
          clear hb5 Hb4 N2
          go_wp2_with fail
          refine (N3.out _).mono ?_
          rintro en w6 ⟨rfl, hb6⟩
          have Hb6 := show Hid (Below w.heap.size w w6) from Hb5.out.trans (hb6.mono Hb5.out.size)
          clear hb6 Hb5 N3
          go_wp2
          go_ret
          exact ⟨rfl, Hb6.out⟩
      · rw [hte] at hQ
        have hfo := hQ.out.2.fold hk30 sq o
        have hfin : (⟨#[113, 32]⟩ : ByteArray) ++ ⟨(decI 2).toArray⟩ ++ ⟨#[32]⟩ ++ ⟨(decI (wrap16 (value + o))).toArray⟩ ++ ⟨#[32]⟩ ++ ⟨(decI ((k : Int) + 1)).toArray⟩ ++ ⟨#[59]⟩ = ⟨(foldB (es ++ [⟨1, kQQ, sq, o⟩])).toArray⟩ := by
          apply ba_ext
          rw [hfo]
          simp
        have N1 := show Hid _ from fun w => cnumber_any 2 w (by decide) (by decide)
        have l1 := decI_length 2 (by decide) (by decide)
        generalize decI 2 = L1 at hfin N1 l1
        generalize decI (wrap16 (value + o)) = L2 at hfin N2 l2
        generalize decI ((k : Int) + 1) = L3 at hfin N3 l3
        have s1 : (⟨L1.toArray⟩ : ByteArray).size = L1.length := by simp [ByteArray.size]
        have s2 : (⟨L2.toArray⟩ : ByteArray).size = L2.length := by simp [ByteArray.size]
        have s3 : (⟨L3.toArray⟩ : ByteArray).size = L3.length := by simp [ByteArray.size]
        have t1 : (⟨#[113, 32]⟩ : ByteArray).size = 2 := rfl
        have t2 : (⟨#[32]⟩ : ByteArray).size = 1 := rfl
        have t3 : (⟨#[59]⟩ : ByteArray).size = 1 := rfl
        generalize (⟨L1.toArray⟩ : ByteArray) = B1 at hfin N1 s1
        generalize (⟨L2.toArray⟩ : ByteArray) = B2 at hfin N2 s2
        generalize (⟨L3.toArray⟩ : ByteArray) = B3 at hfin N3 s3
        rw [← hfin] at HT1
        obtain ⟨F, hF⟩ : ∃ F : ByteArray, (⟨#[113, 32]⟩ : ByteArray) ++ B1 ++ ⟨#[32]⟩ ++ B2 ++ ⟨#[32]⟩ ++ B3 ++ ⟨#[59]⟩ = F := ⟨_, rfl⟩
        rw [hF] at HT1
        clear hfin hfo hQ
        generalize wrap16 (value + o) = vo at hws hwr hw64 N2
        rcases hcond with hc1 | ⟨hc1, hc2⟩
        · go_wp2_with fail
          refine (hE.out _).mono ?_
          rintro en w2 ⟨rfl, hb2⟩
          have Hb2 := show Hid (Below w.heap.size w w2) from Hb.out.trans (hb2.mono Hb.out.size)
          clear hb2
          go_wp2_with fail
          refine (HT1.out _ (Ht.out.1.old Hb2.out)).mono ?_
          rintro en w3 ⟨rfl, hb3⟩
          have Hb3 := show Hid (Below w.heap.size w w3) from Hb2.out.trans (hb3.mono Hb2.out.size)
          clear hb3 Hb2 HT1 hE
          go_wp2_with fail
          refine (N1.out _).mono ?_
          rintro en w4 ⟨rfl, hb4⟩
          have Hb4 := show Hid (Below w.heap.size w w4) from Hb3.out.trans (hb4.mono Hb3.out.size)
          clear hb4 Hb3 N1
          go_wp2_with fail
          refine (N2.out _).mono ?_
          rintro en w5 ⟨rfl, hb5⟩
          have Hb5 := show Hid (Below w.heap.size w w5) from Hb4.out.trans (hb5.mono Hb4.out.size)
          clear hb5 Hb4 N2
          go_wp2_with fail
          refine (N3.out _).mono ?_
          rintro en w6 ⟨rfl, hb6⟩
          have Hb6 := show Hid (Below w.heap.size w w6) from Hb5.out.trans (hb6.mono Hb5.out.size)
          clear hb6 Hb5 N3
          go_wp2
          go_ret
          exact ⟨rfl, Hb6.out⟩
        · go_wp2_with fail
          refine (hE.out _).mono ?_
          rintro en w2 ⟨rfl, hb2⟩
          have Hb2 := show Hid (Below w.heap.size w w2) from Hb.out.trans (hb2.mono Hb.out.size)
          clear hb2
          go_wp2_with fail
          refine (HT1.out _ (Ht.out.1.old Hb2.out)).mono ?_
          rintro en w3 ⟨rfl, hb3⟩
          have Hb3 := show Hid (Below w.heap.size w w3) from Hb2.out.trans (hb3.mono Hb2.out.size)
          clear hb3 Hb2 HT1 hE
          go_wp2_with fail
          refine (N1.out _).mono ?_
          rintro en w4 ⟨rfl, hb4⟩
          have Hb4 := show Hid (Below w.heap.size w w4) from Hb3.out.trans (hb4.mono Hb3.out.size)
          clear hb4 Hb3 N1
          go_wp2_with fail
          refine (N2.out _).mono ?_
          rintro en w5 ⟨rfl, hb5⟩
          have Hb5 := show Hid (Below w.heap.size w w5) from Hb4.out.trans (hb5.mono Hb4.out.size)
          clear hb5 Hb4 N2
          go_wp2_with fail
          refine (N3.out _).mono ?_
          rintro en w6 ⟨rfl, hb6⟩
          have Hb6 := show Hid (Below w.heap.size w w6) from Hb5.out.trans (hb6.mono Hb5.out.size)
          clear hb6 Hb5 N3
          go_wp2
          go_ret
          exact ⟨rfl, Hb6.out⟩
end Go.Proofs.YthccpacmklhejaaDoor
