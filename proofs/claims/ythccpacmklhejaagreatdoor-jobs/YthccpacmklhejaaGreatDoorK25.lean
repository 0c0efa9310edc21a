/-
  Several texts in one.
-/
import Derived.Test.YthccpacmklhejaaGreatDoorK24
import Derived.Test.YthccpacmklhejaaGreatDoorK17
import Derived.Test.YthccpacmklhejaaGreatDoorK18
import Derived.Test.YthccpacmklhejaaGreatDoorK09
import Derived.Test.YthccpacmklhejaaGreatDoorK10
namespace Go.Proofs.YthccpacmklhejaaGreatDoor
open Go.RowKit

theorem Tryz.infoSrt : (Tryz.prog.info? 120).map (fun i => (i.zero, i.size, i.bytes)) = some (some (.agg #[.int .i64 0, .slice none 0 0, .slice none 0 0]), 3, 56) := by kernel_rfl
theorem Tryz.infoAdr : (Tryz.prog.info? 124).map (fun i => (i.zero, i.size, i.bytes)) = some (some (.agg #[.slice none 0 0, .slice none 0 0]), 2, 48) := by kernel_rfl

set_option maxRecDepth 100000 in
set_option maxHeartbeats 4000000 in
theorem fnew_ok (w : World) (W R : Nat) (log : ByteArray) (es : List Ev) (mm : Nat) (hlog : log.size ≤ 400) (hp : Parsed log es mm) (hW1 : 1 ≤ W) (hW4 : W ≤ 4) (hR1 : 1 ≤ R) (hR4 : R ≤ 4) :
    Calls Tryz.prog 33 #[.agg #[.int .i64 (W : Int), .int .i64 (R : Int)], .string log] w fun en w' => ∃ ve vs va, en = .returned (.tuple #[.agg #[ve, .int .i64 0, vs, va, .int .i64 0, .int .i64 0, .int .i64 0, .slice none 0 0, .int .i64 0, .slice none 0 0, .int .i64 0], .int .i64 0]) ∧ ∃ fb L, Lay w' L ∧ NSpec L fb W R es W W ∧ (∀ g, LX L g → w.heap.size ≤ g) ∧ Below w.heap.size w w' ∧ (L 3).v = ve ∧ (L 1).v = vs ∧ (L 2).v = va := by
  have hD := show Hid _ from fun (w : World) => decode_short log w hlog
  obtain ⟨i1, hi1, hy0, hy1, hy2⟩ := info_parts Tryz.infoSrt
  obtain ⟨i2, hi2, hx0, hx1, hx2⟩ := info_parts Tryz.infoAdr
  have hnb := heap_alloc_new w (.cells #[.int .i64 (W : Int), .int .i64 (R : Int)] 26)
  have hba := (Below.refl w.heap.size w).alloc (Nat.le_refl _) (.cells #[.int .i64 (W : Int), .int .i64 (R : Int)] 26)
  go_enter Tryz.func33, Tryz.ntmps33
  obtain ⟨wa, hwa⟩ : ∃ wa, w.alloc (.cells #[.int .i64 (W : Int), .int .i64 (R : Int)] 26) = wa := ⟨_, rfl⟩
  rw [hwa] at hnb hba
  have hnb2 := heap_alloc_new wa (.cells #[.slice none 0 0, .int .i64 0, .slice none 0 0, .slice none 0 0, .int .i64 0, .int .i64 0, .int .i64 0, .slice none 0 0, .int .i64 0, .slice none 0 0, .int .i64 0] 80)
  have hba2 := (Below.refl wa.heap.size wa).alloc (Nat.le_refl _) (.cells #[.slice none 0 0, .int .i64 0, .slice none 0 0, .slice none 0 0, .int .i64 0, .int .i64 0, .int .i64 0, .slice none 0 0, .int .i64 0, .slice none 0 0, .int .i64 0] 80)
  have hsz : wa.heap.size = w.heap.size + 1 := by rw [← hwa]; simp
  obtain ⟨wb, hwb⟩ : ∃ wb, wa.alloc (.cells #[.slice none 0 0, .int .i64 0, .slice none 0 0, .slice none 0 0, .int .i64 0, .int .i64 0, .int .i64 0, .slice none 0 0, .int .i64 0, .slice none 0 0, .int .i64 0] 80) = wb := ⟨_, rfl⟩
  rw [hwb] at hnb2 hba2
  have HB := show Hid (Below w.heap.size w wb ∧ wb.heap[w.heap.size]? = some (.cells #[.int .i64 (W : Int), .int .i64 (R : Int)] 26 (0, 0)) ∧ wb.heap[wa.heap.size]? = some (.cells #[.slice none 0 0, .int .i64 0, .slice none 0 0, .slice none 0 0, .int .i64 0, .int .i64 0, .int .i64 0, .slice none 0 0, .int .i64 0, .slice none 0 0, .int .i64 0] 80 (0, 0)) ∧ w.heap.size < wa.heap.size) from ⟨hba.trans (hba2.mono hba.size), (hba2.block _ (heap_lt hnb)).trans hnb, hnb2, heap_lt hnb⟩
  clear hnb hba hnb2 hba2 hsz
  have r1 : ¬ (W : Int) < 1 := by omega
  have r2 : ¬ (4 : Int) < (W : Int) := by omega
  have r3 : ¬ (R : Int) < 1 := by omega
  have r4 : ¬ (4 : Int) < (R : Int) := by omega
  have r1' : decide ((W : Int) < 1) = false := decide_eq_false r1
  have r2' : decide ((4 : Int) < (W : Int)) = false := decide_eq_false r2
  have r3' : decide ((R : Int) < 1) = false := decide_eq_false r3
  have r4' : decide ((4 : Int) < (R : Int)) = false := decide_eq_false r4
  go_wp2_with (go_at_call 56; refine (hD.out _).mono ?_; rintro e w1 ⟨v, es', m', r, rfl, hP, hown, hb⟩; obtain ⟨rfl, rfl⟩ := Parsed.unique hp hP.out.1; have hr : ((r : Int) == 1) = false := (by rw [hP.out.2]; exact errOf_ne log mm); obtain ⟨ea, ec, rfl⟩ := own_shape hown; have c0 : w1.cell? ⟨w.heap.size, 0, none⟩ = some (.int .i64 (W : Int)) := row_cell ((hb.block _ (heap_lt HB.out.2.1)).trans HB.out.2.1) 0; have c1 : w1.cell? ⟨w.heap.size, 1, none⟩ = some (.int .i64 (R : Int)) := row_cell ((hb.block _ (heap_lt HB.out.2.1)).trans HB.out.2.1) 1; have hnb3 := heap_alloc_new w1 (.cells #[.slice none 0 0, .int .i64 0, .slice none 0 0, .slice none 0 0, .int .i64 0, .int .i64 0, .int .i64 0, .slice none 0 0, .int .i64 0, .slice none 0 0, .int .i64 0] 80); have hba3 := (Below.refl w1.heap.size w1).alloc (Nat.le_refl _) (.cells #[.slice none 0 0, .int .i64 0, .slice none 0 0, .slice none 0 0, .int .i64 0, .int .i64 0, .int .i64 0, .slice none 0 0, .int .i64 0, .slice none 0 0, .int .i64 0] 80); obtain ⟨wf, hwf⟩ : ∃ wf, w1.alloc (.cells #[.slice none 0 0, .int .i64 0, .slice none 0 0, .slice none 0 0, .int .i64 0, .int .i64 0, .int .i64 0, .slice none 0 0, .int .i64 0, .slice none 0 0, .int .i64 0] 80) = wf := ⟨_, rfl⟩; rw [hwf] at hnb3 hba3; obtain ⟨⟨d0, d1, d2, d3, d4, d5, d6, d7, d8, d9, d10⟩, ⟨z0, z1, z2, z3, z4, z5, z6, z7, z8, z9, z10⟩⟩ := flowCells hnb3; have H0 := show Hid (NSt w w1.heap.size W R es w.heap.size wa.heap.size 0 0 _) from fnew_start HB.out.1 HB.out.2.1 HB.out.2.2.1 (Nat.le_of_lt HB.out.2.2.2) hown hb hnb3 hba3)
  clear d0 d1 d2 d3 d4 d5 d6 d7 d8 d9 d10 z0 z1 z2 z3 z4 z5 z6 z7 z8 z9 z10 c0 c1 hba3 hnb3 hown hb hr hP r1 r2 r3 r4 r1' r2' r3' r4'
  have hcr := HB.out.2.2.2
  clear HB
  go_loopw [10] (fun v wr => ∃ j : Nat, j ≤ W ∧ v = .int .i64 (j : Int) ∧ NSt w w1.heap.size W R es w.heap.size wa.heap.size j j wr) (fun v _ => W - (intOf v).toNat)
  case atStart => exact ⟨0, Nat.zero_le _, rfl, H0.out⟩
  case round =>
    obtain ⟨j, hj, rfl, hN⟩ := hrel
    clear H0 hwf hwb hwa hD
    generalize w1.heap.size = fb at hN ⊢
    generalize hrbe : wa.heap.size = rb at hN ⊢
    generalize hcbe : w.heap.size = cb at hN ⊢
    have hcf : wr.heap[cb]? = some (.cells #[.int .i64 (W : Int), .int .i64 (R : Int)] 26 (0, 0)) := by
      obtain ⟨L, _, _, _, _, h5, _⟩ := hN
      exact h5
    have k0 : wr.cell? ⟨cb, 0, none⟩ = some (.int .i64 (W : Int)) := row_cell hcf 0
    by_cases hjW : j < W
    · have hji : (j : Int) < (W : Int) := by omega
      have hj0 : (0 : Int) ≤ (j : Int) := by omega
      go_wp2
      clear k0
      have hS0 : wr.drew.heap[cb]? = some (.cells #[.int .i64 (W : Int), .int .i64 (R : Int)] 26 (0, 0)) := hcf
      have HN := show Hid (NSt w fb W R es cb rb j j wr.drew) from hN.drew
      clear hN hcf
      refine wp_region_held_drew (S := fun w' : World => w'.heap[cb]? = some (.cells #[.int .i64 (W : Int), .int .i64 (R : Int)] 26 (0, 0))) (by kernel_rfl) hS0 (fun hH => ?_)
      generalize wr.drew = wd at HN hS0 hH ⊢
      obtain ⟨cs, a, cp, hla, hup⟩ := HN.out.sorters
      have HUp := show Hid _ from hup
      have HLa := show Hid _ from hla
      have b0 := hla.cell
      have hfbl := hla.bl
      clear hup hla HN
      have HP := show Hid _ from fun (_ : Unit) => pnew_any R wd
      refine wpAnyH_take (i := 0) (v := (.pointer (some ⟨fb, 2, none⟩))) rfl (by kernel_rfl) (by kernel_rfl) (by kernel_rfl) (fun _ _ _ h => h) (Or.inl ⟨by rfl, by intro v hSw; clear hSw; go_simp⟩) hH ?_
      refine wpAnyH_take (i := 2) (v := (.pointer (some ⟨cb, 1, none⟩))) rfl (by kernel_rfl) (by kernel_rfl) (by kernel_rfl) (fun _ _ _ h => h) (Or.inl ⟨by rfl, by intro v hSw; clear hSw; go_simp⟩) hH ?_
      refine wpAnyH_take (i := 3) (v := (.int .i64 (R : Int))) rfl (by kernel_rfl) (by kernel_rfl) (by kernel_rfl) (fun _ _ _ h => h) (Or.inl ⟨by rfl, by intro v hSw; have s0 : v.cell? ⟨cb, 1, none⟩ = some (.int .i64 (R : Int)) := row_cell hSw 1; clear hSw; go_simp⟩) hH ?_
      refine wpAnyH_ready (rs := [1, 4]) (by kernel_rfl) (by simp) ?_
      refine AllReadyH.cons rfl (fun K hK => ?_) (AllReadyH.cons rfl (fun K hK => ?_) AllReadyH.nil)
      focus
        clear hH
        go_simp
        refine hK.out _ _ hS0 (fun hH => ?_)
        clear hK K
        refine wpAnyH_ready (rs := [4]) (by kernel_rfl) (by simp) ?_
        refine AllReadyH.cons rfl (fun K hK => ?_) AllReadyH.nil
        clear hH
        go_simp
        go_wp2_with (go_at_call 57; refine (HP.out ()).mono ?_; rintro en w2 ⟨rfl, hb2⟩)
        have hS2 := (hb2.block cb (heap_lt hS0)).trans hS0
        refine hK.out _ _ hS2 (fun hH => ?_)
        clear hK K
        refine wpAnyH_take (i := 5) (v := (.agg #[.int .i64 (R : Int), .slice none 0 0, .slice none 0 0])) rfl (by kernel_rfl) (by kernel_rfl) (by kernel_rfl) (fun _ _ _ h => h) (Or.inl ⟨by rfl, by intro v hSw; clear hSw; go_simp⟩) hH ?_
        refine wpAnyH_ready (rs := [6]) (by kernel_rfl) (by simp) ?_
        refine AllReadyH.cons rfl (fun K hK => ?_) AllReadyH.nil
        clear hH
        go_simp
        have hba := (Below.refl w2.heap.size w2).alloc (Nat.le_refl _) (.cells #[.int .i64 (R : Int), .slice none 0 0, .slice none 0 0] 120)
        have hS3 := (hba.block cb (heap_lt hS2)).trans hS2
        refine hK.out _ _ hS3 (fun hH => ?_)
        clear hK K
      rotate_left
      focus
        clear hH
        go_simp
        go_wp2_with (go_at_call 57; refine (HP.out ()).mono ?_; rintro en w2 ⟨rfl, hb2⟩)
        have hS2 := (hb2.block cb (heap_lt hS0)).trans hS0
        refine hK.out _ _ hS2 (fun hH => ?_)
        clear hK K
        refine wpAnyH_take (i := 5) (v := (.agg #[.int .i64 (R : Int), .slice none 0 0, .slice none 0 0])) rfl (by kernel_rfl) (by kernel_rfl) (by kernel_rfl) (fun _ _ _ h => h) (Or.inl ⟨by rfl, by intro v hSw; clear hSw; go_simp⟩) hH ?_
        have hba := (Below.refl w2.heap.size w2).alloc (Nat.le_refl _) (.cells #[.int .i64 (R : Int), .slice none 0 0, .slice none 0 0] 120)
        have hS3 := (hba.block cb (heap_lt hS2)).trans hS2
        have b2 := (hb2.cell (p := ⟨fb, 2, none⟩) hfbl).trans b0
        have b3 := (hba.cell (p := ⟨fb, 2, none⟩) (Nat.lt_of_lt_of_le hfbl hb2.size)).trans b2
        refine wpAnyH_ready (rs := [1, 6]) (by kernel_rfl) (by simp) ?_
        refine AllReadyH.cons rfl (fun K hK => ?_) (AllReadyH.cons rfl (fun K hK => ?_) AllReadyH.nil)
        focus
          clear hH
          go_simp
          refine hK.out _ _ hS2 (fun hH => ?_)
          clear hK K
          refine wpAnyH_ready (rs := [6]) (by kernel_rfl) (by simp) ?_
          refine AllReadyH.cons rfl (fun K hK => ?_) AllReadyH.nil
          clear hH
          go_simp
          refine hK.out _ _ hS3 (fun hH => ?_)
          clear hK K b2 b3
        rotate_left
        focus
          clear hH
          go_simp
          refine hK.out _ _ hS3 (fun hH => ?_)
          clear hK K
          refine wpAnyH_ready (rs := [1]) (by kernel_rfl) (by simp) ?_
          refine AllReadyH.cons rfl (fun K hK => ?_) AllReadyH.nil
          clear hH
          go_simp
          refine hK.out _ _ hS3 (fun hH => ?_)
          clear hK K b2 b3
      all_goals
        have HL3 := show Hid _ from (HLa.out.old hb2).alloc (.cells #[.int .i64 (R : Int), .slice none 0 0, .slice none 0 0] 120)
        have HF3 := show Hid (FrmX (Xs fb a j cp) wd (w2.alloc (.cells #[.int .i64 (R : Int), .slice none 0 0, .slice none 0 0] 120))) from (FrmX.of_below hb2).alloc _
        refine wpAnyH_ready (rs := [7]) (by kernel_rfl) (by simp) ?_
        refine AllReadyH.cons rfl (fun K hK => ?_) AllReadyH.nil
        refine ite_of rfl ?_
        refine wp_append_two _ (.tmp 49) (.tmp 54) 72 rfl 0 120 i1 (.agg #[.int .i64 0, .slice none 0 0, .slice none 0 0]) 3 56 Tryz.underlying72 hi1 hy0 hy1 hy2 rfl (by decide) (.slice a j cp) j (srtCells R j) rfl HL3.out.own ⟨w2.heap.size, 0, none⟩ 1 1 (srt1 R) rfl rfl (by have := cell_three_new w2 (.int .i64 (R : Int)) (.slice none 0 0) (.slice none 0 0) 120; simpa [srt1] using this) (fun u hu => by simp [srt1] at hu; rcases hu with rfl | rfl <;> rfl) (by unfold maxLen; omega) (by omega) (Nat.zero_le _) (by decide) ?_
        intro v3 w5 hown3 hfr3
        obtain ⟨a3, c3, rfl⟩ := own_shape hown3
        have HAp := show Hid (_ ∧ _) from LAt.put_app HL3.out hown3 rfl hfr3
        have hgr := grown_either hfr3
        have hfz := HLa.out.box
        have hrne : ∀ x, (Value.slice a j cp).ownBlock = some x → x ≠ cb := fun x hx e => by
          obtain ⟨cur, hc, _⟩ := own_heap HLa.out.own hx
          rw [e, hS0] at hc
          simp only [Option.some.injEq, Obj.cells.injEq] at hc
          exact absurd hc.2.1 (by decide)
        have hcfb : cb ≠ fb := fun e => by
          rw [e, hfz] at hS0
          simp only [Option.some.injEq, Obj.cells.injEq] at hS0
          exact absurd hS0.2.1 (by decide)
        have hS5 := (hgr.block cb (heap_lt hS3) (fun e => hrne cb e.symm rfl)).trans hS3
        have hslot := HLa.out.slot
        refine hK.out _ _ hS5 (fun hH => ?_)
        clear hK K hfr3 hgr hown3 hfz
        refine wpAnyH_take (i := 8) (v := (.pointer (some ⟨fb, 2, none⟩))) rfl (by kernel_rfl) (by kernel_rfl) (by kernel_rfl) (fun _ _ _ h => h) (Or.inl ⟨by rfl, by intro v hSw; clear hSw; go_simp⟩) hH ?_
        refine wpAnyH_ready (rs := [9]) (by kernel_rfl) (by simp) ?_
        refine AllReadyH.cons rfl (fun K hK => ?_) AllReadyH.nil
        clear hH
        have b5 : w5.cell? ⟨fb, 2, none⟩ = some (.slice a j cp) := (row_cell HAp.out.1 2).trans hslot
        have z5 : w5.frozen? ⟨fb, 2, none⟩ = false := row_frozen HAp.out.1 2
        go_simp
        have hS6 := (Below.heap_setCell w5 ⟨fb, 2, none⟩ (.slice a3 (j + 1) c3) cb (by simp only; exact hcfb)).trans hS5
        refine hK.out _ _ hS6 (fun hH => ?_)
        clear hK K hH b5 z5 hS5
        refine wpAnyH_done (by kernel_rfl) ?_ _
        have HN6 := show Hid (NSt w fb W R es cb rb (j + 1) j (w5.setCell ⟨fb, 2, none⟩ (.slice a3 (j + 1) c3))) from HUp.out _ a3 c3 (by rw [srtCells_succ]; exact HAp.out.2.from HF3.out)
        clear HAp HF3 HL3 HUp HLa hslot hrne hS3 hba hS2 hb2 b0 HP hfbl hS0
        generalize w5.setCell ⟨fb, 2, none⟩ (.slice a3 (j + 1) c3) = w6 at HN6 hS6 ⊢
        clear hcfb
        go_wp2
        have hS0 : w6.drew.heap[cb]? = some (.cells #[.int .i64 (W : Int), .int .i64 (R : Int)] 26 (0, 0)) := hS6
        have HN := show Hid (NSt w fb W R es cb rb (j + 1) j w6.drew) from HN6.out.drew
        clear HN6 hS6
        refine wp_region_held_drew (S := fun w' : World => w'.heap[cb]? = some (.cells #[.int .i64 (W : Int), .int .i64 (R : Int)] 26 (0, 0))) (by kernel_rfl) hS0 (fun hH => ?_)
        generalize w6.drew = wd at HN hS0 hH ⊢

        obtain ⟨ve, a1, c1, a, cp, hfl⟩ := HN.out.cells
        have b0 : wd.cell? ⟨fb, 3, none⟩ = some (.slice a j cp) := row_cell hfl 3
        have hfbl := heap_lt hfl
        clear hfl
        have HP := show Hid _ from fun (_ : Unit) => inlets_any W R hW4 wd
        refine wpAnyH_take (i := 0) (v := (.pointer (some ⟨fb, 3, none⟩))) rfl (by kernel_rfl) (by kernel_rfl) (by kernel_rfl) (fun _ _ _ h => h) (Or.inl ⟨by rfl, by intro v hSw; clear hSw; go_simp⟩) hH ?_
        refine wpAnyH_take (i := 2) (v := (.agg #[.int .i64 (W : Int), .int .i64 (R : Int)])) rfl (by kernel_rfl) (by kernel_rfl) (by kernel_rfl) (fun _ _ _ h => h) (Or.inl ⟨by rfl, by intro v hSw; have s0 : v.cell? ⟨cb, 0, none⟩ = some (.int .i64 (W : Int)) := row_cell hSw 0; have s1 : v.cell? ⟨cb, 1, none⟩ = some (.int .i64 (R : Int)) := row_cell hSw 1; clear hSw; go_simp⟩) hH ?_
        refine wpAnyH_ready (rs := [1, 3]) (by kernel_rfl) (by simp) ?_
        refine AllReadyH.cons rfl (fun K hK => ?_) (AllReadyH.cons rfl (fun K hK => ?_) AllReadyH.nil)
        focus
          clear hH
          go_simp
          refine hK.out _ _ hS0 (fun hH => ?_)
          clear hK K
          refine wpAnyH_ready (rs := [3]) (by kernel_rfl) (by simp) ?_
          refine AllReadyH.cons rfl (fun K hK => ?_) AllReadyH.nil
          clear hH
          go_simp
          go_wp2_with (go_at_call 58; refine (HP.out ()).mono ?_; rintro en w2 ⟨iv, rfl, hoi, hb2⟩)
          have hS2 := (hb2.block cb (heap_lt hS0)).trans hS0
          refine hK.out _ _ hS2 (fun hH => ?_)
          clear hK K
          have hiv := own_shape hoi
          obtain ⟨iva, ivc, rfl⟩ := hiv
          refine wpAnyH_take (i := 4) (v := (.agg #[.slice iva W ivc, .slice none 0 0])) rfl (by kernel_rfl) (by kernel_rfl) (by kernel_rfl) (fun _ _ _ h => h) (Or.inl ⟨by rfl, by intro v hSw; clear hSw; go_simp⟩) hH ?_
          refine wpAnyH_ready (rs := [5]) (by kernel_rfl) (by simp) ?_
          refine AllReadyH.cons rfl (fun K hK => ?_) AllReadyH.nil
          clear hH
          go_simp
          have hba := (Below.refl w2.heap.size w2).alloc (Nat.le_refl _) (.cells #[.slice iva W ivc, .slice none 0 0] 124)
          have hS3 := (hba.block cb (heap_lt hS2)).trans hS2
          refine hK.out _ _ hS3 (fun hH => ?_)
          clear hK K
        rotate_left
        focus
          clear hH
          go_simp
          go_wp2_with (go_at_call 58; refine (HP.out ()).mono ?_; rintro en w2 ⟨iv, rfl, hoi, hb2⟩)
          have hS2 := (hb2.block cb (heap_lt hS0)).trans hS0
          refine hK.out _ _ hS2 (fun hH => ?_)
          clear hK K
          have hiv := own_shape hoi
          obtain ⟨iva, ivc, rfl⟩ := hiv
          refine wpAnyH_take (i := 4) (v := (.agg #[.slice iva W ivc, .slice none 0 0])) rfl (by kernel_rfl) (by kernel_rfl) (by kernel_rfl) (fun _ _ _ h => h) (Or.inl ⟨by rfl, by intro v hSw; clear hSw; go_simp⟩) hH ?_
          have hba := (Below.refl w2.heap.size w2).alloc (Nat.le_refl _) (.cells #[.slice iva W ivc, .slice none 0 0] 124)
          have hS3 := (hba.block cb (heap_lt hS2)).trans hS2
          have b2 := (hb2.cell (p := ⟨fb, 3, none⟩) hfbl).trans b0
          have b3 := (hba.cell (p := ⟨fb, 3, none⟩) (Nat.lt_of_lt_of_le hfbl hb2.size)).trans b2
          refine wpAnyH_ready (rs := [1, 5]) (by kernel_rfl) (by simp) ?_
          refine AllReadyH.cons rfl (fun K hK => ?_) (AllReadyH.cons rfl (fun K hK => ?_) AllReadyH.nil)
          focus
            clear hH
            go_simp
            refine hK.out _ _ hS2 (fun hH => ?_)
            clear hK K
            refine wpAnyH_ready (rs := [5]) (by kernel_rfl) (by simp) ?_
            refine AllReadyH.cons rfl (fun K hK => ?_) AllReadyH.nil
            clear hH
            go_simp
            refine hK.out _ _ hS3 (fun hH => ?_)
            clear hK K b2 b3
          rotate_left
          focus
            clear hH
            go_simp
            refine hK.out _ _ hS3 (fun hH => ?_)
            clear hK K
            refine wpAnyH_ready (rs := [1]) (by kernel_rfl) (by simp) ?_
            refine AllReadyH.cons rfl (fun K hK => ?_) AllReadyH.nil
            clear hH
            go_simp
            refine hK.out _ _ hS3 (fun hH => ?_)
            clear hK K b2 b3
        all_goals
          obtain ⟨cs, a9, cp9, xs, hla, hup⟩ := HN.out.adders (by omega) hb2 hoi
          have hb9 := hla.cell
          rw [hb2.cell (p := ⟨fb, 3, none⟩) hfbl, b0] at hb9
          simp only [Option.some.injEq, Value.slice.injEq, true_and] at hb9
          obtain ⟨rfl, rfl⟩ := hb9
          have HUp := show Hid _ from hup
          have HLa := show Hid _ from hla
          clear hup hla HN
          have HL3 := show Hid _ from HLa.out.alloc (.cells #[.slice iva W ivc, .slice none 0 0] 124)
          have HF3 := show Hid (FrmX (Xs fb a j cp) w2 (w2.alloc (.cells #[.slice iva W ivc, .slice none 0 0] 124))) from (FrmX.refl _ w2).alloc _
          refine wpAnyH_ready (rs := [6]) (by kernel_rfl) (by simp) ?_
          refine AllReadyH.cons rfl (fun K hK => ?_) AllReadyH.nil
          refine ite_of rfl ?_
          refine wp_append_two _ (.tmp 58) (.tmp 62) 73 rfl 0 124 i2 (.agg #[.slice none 0 0, .slice none 0 0]) 2 48 Tryz.underlying73 hi2 hx0 hx1 hx2 rfl (by decide) (.slice a j cp) j xs rfl HL3.out.own ⟨w2.heap.size, 0, none⟩ 1 1 [.slice iva W ivc, .slice none 0 0] rfl rfl (cell_two_newC w2 (.slice iva W ivc) (.slice none 0 0) 124) (fun u hu => by simp at hu; rcases hu with rfl | rfl <;> rfl) (by unfold maxLen; omega) (by omega) (Nat.zero_le _) (by decide) ?_
          intro v3 w5 hown3 hfr3
          obtain ⟨a3, c3, rfl⟩ := own_shape hown3
          have HAp := show Hid (_ ∧ _) from LAt.put_app HL3.out hown3 rfl hfr3
          have hgr := grown_either hfr3
          have hfz := HLa.out.box
          have hrne : ∀ x, (Value.slice a j cp).ownBlock = some x → x ≠ cb := fun x hx e => by
            obtain ⟨cur, hc, _⟩ := own_heap HLa.out.own hx
            rw [e, hS2] at hc
            simp only [Option.some.injEq, Obj.cells.injEq] at hc
            exact absurd hc.2.1 (by decide)
          have hcfb : cb ≠ fb := fun e => by
            rw [e, hfz] at hS2
            simp only [Option.some.injEq, Obj.cells.injEq] at hS2
            exact absurd hS2.2.1 (by decide)
          have hS5 := (hgr.block cb (heap_lt hS3) (fun e => hrne cb e.symm rfl)).trans hS3
          have hslot := HLa.out.slot
          refine hK.out _ _ hS5 (fun hH => ?_)
          clear hK K hfr3 hgr hown3 hfz
          refine wpAnyH_take (i := 7) (v := (.pointer (some ⟨fb, 3, none⟩))) rfl (by kernel_rfl) (by kernel_rfl) (by kernel_rfl) (fun _ _ _ h => h) (Or.inl ⟨by rfl, by intro v hSw; clear hSw; go_simp⟩) hH ?_
          refine wpAnyH_ready (rs := [8]) (by kernel_rfl) (by simp) ?_
          refine AllReadyH.cons rfl (fun K hK => ?_) AllReadyH.nil
          clear hH
          have b5 : w5.cell? ⟨fb, 3, none⟩ = some (.slice a j cp) := (row_cell HAp.out.1 3).trans hslot
          have z5 : w5.frozen? ⟨fb, 3, none⟩ = false := row_frozen HAp.out.1 3
          go_simp
          have hS6 := (Below.heap_setCell w5 ⟨fb, 3, none⟩ (.slice a3 (j + 1) c3) cb (by simp only; exact hcfb)).trans hS5
          refine hK.out _ _ hS6 (fun hH => ?_)
          clear hK K hH b5 z5 hS5 hS6
          refine wpAnyH_done (by kernel_rfl) ?_ _
          have HN6 := show Hid (NSt w fb W R es cb rb (j + 1) (j + 1) (w5.setCell ⟨fb, 3, none⟩ (.slice a3 (j + 1) c3))) from HUp.out _ a3 c3 (HAp.out.2.from HF3.out)
          clear HAp HF3 HL3 HUp HLa hslot hrne hS3 hba hS2 hb2 b0 HP hfbl hS0 hoi
          generalize w5.setCell ⟨fb, 3, none⟩ (.slice a3 (j + 1) c3) = w6 at HN6 ⊢
          subst hcbe
          subst hrbe
          go_wp2
          go_roundw
          case rel => exact ⟨j + 1, by omega, by go_num, HN6.out⟩
          case measure => simp [intOf]; omega
    · have hjj : j = W := by omega
      subst hjj
      have hji : ¬ (j : Int) < (j : Int) := by omega
      subst hcbe
      obtain ⟨L, l1, l2, l3, l4, l5, l6, l7, l8⟩ := hN
      have hfl := l2.heap0 l1
      obtain ⟨ea, ec, e3⟩ := own_shape (l1.own 3)
      obtain ⟨a1, c1, e1⟩ := own_shape (l1.own 1)
      obtain ⟨a2, c2, e2⟩ := own_shape (l1.own 2)
      rw [l2.row3.1] at e3
      rw [l2.row1.1] at e1
      rw [l2.row2.1] at e2
      rw [e3, e1, e2] at hfl
      have f0 : wr.cell? ⟨fb, 0, none⟩ = some (.slice ea es.length ec) := row_cell hfl 0
      have f1 : wr.cell? ⟨fb, 1, none⟩ = some (.int .i64 0) := row_cell hfl 1
      have f2 : wr.cell? ⟨fb, 2, none⟩ = some (.slice a1 j c1) := row_cell hfl 2
      have f3 : wr.cell? ⟨fb, 3, none⟩ = some (.slice a2 j c2) := row_cell hfl 3
      have f4 : wr.cell? ⟨fb, 4, none⟩ = some (.int .i64 0) := row_cell hfl 4
      have f5 : wr.cell? ⟨fb, 5, none⟩ = some (.int .i64 0) := row_cell hfl 5
      have f6 : wr.cell? ⟨fb, 6, none⟩ = some (.int .i64 0) := row_cell hfl 6
      have f7 : wr.cell? ⟨fb, 7, none⟩ = some (.slice none 0 0) := row_cell hfl 7
      have f8 : wr.cell? ⟨fb, 8, none⟩ = some (.int .i64 0) := row_cell hfl 8
      have f9 : wr.cell? ⟨fb, 9, none⟩ = some (.slice none 0 0) := row_cell hfl 9
      have f10 : wr.cell? ⟨fb, 10, none⟩ = some (.int .i64 0) := row_cell hfl 10
      obtain ⟨⟨d0, d1, d2, d3, d4, d5, d6, d7, d8, d9, d10⟩, ⟨z0, z1, z2, z3, z4, z5, z6, z7, z8, z9, z10⟩⟩ := flowCells l6
      have hrX : ¬ LX L rb := fun hg => (l3 rb hg).2.2 rfl
      have hfs := flowSet l6 (.slice ea es.length ec) (.int .i64 0) (.slice a1 j c1) (.slice a2 j c2) (.int .i64 0) (.int .i64 0) (.int .i64 0) (.slice none 0 0) (.int .i64 0) (.slice none 0 0) (.int .i64 0)
      have HE := show Hid (_ ∧ _) from And.intro (l1.frm (frm_set11 (FrmX.refl (fun x => x = rb) wr) (b := rb) (fun _ => rfl) (.slice ea es.length ec) (.int .i64 0) (.slice a1 j c1) (.slice a2 j c2) (.int .i64 0) (.int .i64 0) (.int .i64 0) (.slice none 0 0) (.int .i64 0) (.slice none 0 0) (.int .i64 0)) (fun g hg e => hrX (e ▸ hg))) (below_set11 l4 l8 (.slice ea es.length ec) (.int .i64 0) (.slice a1 j c1) (.slice a2 j c2) (.int .i64 0) (.int .i64 0) (.int .i64 0) (.slice none 0 0) (.int .i64 0) (.slice none 0 0) (.int .i64 0))
      have HL := show Hid _ from And.intro l2 l3
      clear l1 l2 l3 l4 l5 l6 hfl hcf hrX
      go_wp2
      exact bodyPost_ret (results_row_tmp (p := 4) (u := 5) (ty := 80) rfl _ _ rb 80 #[.slice ea es.length ec, .int .i64 0, .slice a1 j c1, .slice a2 j c2, .int .i64 0, .int .i64 0, .int .i64 0, .slice none 0 0, .int .i64 0, .slice none 0 0, .int .i64 0] (0, 0) _ rfl hfs Tryz.underlying80 rfl (by kernel_rfl)) rfl ⟨_, _, _, rfl, fb, L, HE.out.1, HL.out.1, fun g hg => (HL.out.2 g hg).1, HE.out.2, e3, e1, e2⟩

end Go.Proofs.YthccpacmklhejaaGreatDoor

namespace Go.Proofs.YthccpacmklhejaaGreatDoor
open Go.RowKit

/-- A new job. -/
def newM (W R : Nat) (es : List Ev) : CM := ⟨W, R, es, 0, fun _ => [], fun _ => [], fun _ _ => [], fun _ _ => false, fun _ => [], 0, 0, 0, [], 0, [], 0⟩

theorem new_lay {w : World} {L : Nat → Rw} {fb W R : Nat} {es : List Ev} {jb : Nat} (hW : 1 ≤ W ∧ W ≤ 4) (h1 : Lay w L) (h2 : NSpec L fb W R es W W) (hj : w.heap[jb]? = some (.cells #[(L 3).v, .int .i64 0, (L 1).v, (L 2).v, .int .i64 0, .int .i64 0, .int .i64 0, .slice none 0 0, .int .i64 0, .slice none 0 0, .int .i64 0] 84 (0, 0))) (hn : ∀ c, (L c).v.ownBlock ≠ some jb) : ∃ F : Fx, F.jb = jb ∧ CLX F (LX (repL L 0 ⟨84, 11, .slice (some ⟨jb, 0, none⟩) 1 1, 1, [(L 3).v, .int .i64 0, (L 1).v, (L 2).v, .int .i64 0, .int .i64 0, .int .i64 0, .slice none 0 0, .int .i64 0, .slice none 0 0, .int .i64 0]⟩)) w (newM W R es) := by
  have hl := h1.repl 0 ⟨84, 11, .slice (some ⟨jb, 0, none⟩) 1 1, 1, [(L 3).v, .int .i64 0, (L 1).v, (L 2).v, .int .i64 0, .int .i64 0, .int .i64 0, .slice none 0 0, .int .i64 0, .slice none 0 0, .int .i64 0]⟩ ⟨rfl, .inr ⟨jb, 1, _, rfl, Nat.zero_le _, hj, Nat.le_refl _, by unfold maxLen; omega, rfl, rfl⟩⟩ (fun g x _ hg hx => by
    have e : jb = g := Option.some.inj hg
    rw [← e] at hx
    exact hn x hx)
  obtain ⟨g1, d1, e1⟩ := own_slice (h1.own 1) (by rw [h2.row1.1]; omega)
  obtain ⟨g2, d2, e2⟩ := own_slice (h1.own 2) (by rw [h2.row2.1]; omega)
  have hin : ∀ i, i < W → ∃ g c, (L (30 + i)).v = .slice (some ⟨g, 0, none⟩) W c := fun i hi => by
    obtain ⟨g, c, e⟩ := own_slice (h1.own (30 + i)) (by rw [(h2.inl i hi).1]; omega)
    rw [(h2.inl i hi).1] at e
    exact ⟨g, c, e⟩
  refine ⟨⟨jb, g1, g2, d1, d2, fun i => if h : i < W then (hin i h).choose else 0, fun i => if h : i < W then (hin i h).choose_spec.choose else 0⟩, rfl, _, hl, ?_, rfl⟩
  generalize hL : repL L 0 ⟨84, 11, .slice (some ⟨jb, 0, none⟩) 1 1, 1, [(L 3).v, .int .i64 0, (L 1).v, (L 2).v, .int .i64 0, .int .i64 0, .int .i64 0, .slice none 0 0, .int .i64 0, .slice none 0 0, .int .i64 0]⟩ = L'
  have fx : ∀ x, x ≠ 0 → L' x = L x := fun x hx => by rw [← hL]; exact repL_x hx
  have f0 : L' 0 = ⟨84, 11, .slice (some ⟨jb, 0, none⟩) 1 1, 1, [(L 3).v, .int .i64 0, (L 1).v, (L 2).v, .int .i64 0, .int .i64 0, .int .i64 0, .slice none 0 0, .int .i64 0, .slice none 0 0, .int .i64 0]⟩ := by rw [← hL]; exact repL_c _ _ _
  have nl : ∀ c, 4 ≤ c → ¬ (30 ≤ c ∧ c < 30 + W) → (L c).v = .slice none 0 0 ∧ (L c).n = 0 ∧ (L c).xs = [] := h2.other
  have leaf : ∀ c, 4 ≤ c → ¬ (30 ≤ c ∧ c < 30 + W) → Leaf (L' c) (tyOf c) (szOf c) 0 [] := fun c h4 h5 => by
    rw [fx c (by omega)]
    exact ⟨(h2.ty c).1, (h2.ty c).2, (nl c h4 h5).2.1, (nl c h4 h5).2.2⟩
  have t10 : ∀ i, i < W → tyOf (10 + i) = 165 ∧ szOf (10 + i) = 8 := fun i hi => by unfold tyOf szOf; rw [if_neg (by omega), if_neg (by omega), if_neg (by omega), if_neg (by omega), if_neg (by omega), if_pos (by omega), if_neg (by omega), if_neg (by omega), if_neg (by omega), if_neg (by omega), if_neg (by omega), if_pos (by omega)]; exact ⟨rfl, rfl⟩
  have t20 : ∀ i, i < W → tyOf (20 + i) = 184 ∧ szOf (20 + i) = 4 := fun i hi => by unfold tyOf szOf; rw [if_neg (by omega), if_neg (by omega), if_neg (by omega), if_neg (by omega), if_neg (by omega), if_neg (by omega), if_pos (by omega), if_neg (by omega), if_neg (by omega), if_neg (by omega), if_neg (by omega), if_neg (by omega), if_neg (by omega), if_pos (by omega)]; exact ⟨rfl, rfl⟩
  have t30 : ∀ i, i < W → tyOf (30 + i) = 155 := fun i hi => by unfold tyOf; rw [if_neg (by omega), if_neg (by omega), if_neg (by omega), if_neg (by omega), if_neg (by omega), if_neg (by omega), if_neg (by omega), if_pos (by omega)]
  have t40 : ∀ i, i < W → tyOf (40 + i) = 176 ∧ szOf (40 + i) = 5 := fun i hi => by unfold tyOf szOf; rw [if_neg (by omega), if_neg (by omega), if_neg (by omega), if_neg (by omega), if_neg (by omega), if_neg (by omega), if_neg (by omega), if_neg (by omega), if_pos (by omega), if_neg (by omega), if_neg (by omega), if_neg (by omega), if_neg (by omega), if_neg (by omega), if_neg (by omega), if_neg (by omega), if_neg (by omega), if_pos (by omega)]; exact ⟨rfl, rfl⟩
  have t100 : ∀ c, 50 ≤ c → tyOf c = 165 ∧ szOf c = 8 := fun c hc => by unfold tyOf szOf; rw [if_neg (by omega), if_neg (by omega), if_neg (by omega), if_neg (by omega), if_neg (by omega), if_neg (by omega), if_neg (by omega), if_neg (by omega), if_neg (by omega), if_neg (by omega), if_neg (by omega), if_neg (by omega), if_neg (by omega), if_neg (by omega), if_neg (by omega), if_neg (by omega), if_neg (by omega), if_neg (by omega)]; exact ⟨rfl, rfl⟩
  refine ⟨hW, ⟨by rw [f0], by rw [f0], by rw [f0, fx 3 (by omega), fx 1 (by omega), fx 2 (by omega), fx 4 (by omega), fx 5 (by omega), (nl 4 (by omega) (by omega)).1, (nl 5 (by omega) (by omega)).1]; rfl⟩, ⟨by rw [fx 1 (by omega)]; exact (h2.ty 1).1, by rw [fx 1 (by omega), e1, h2.row1.1]; rfl, fun i hi => ?_⟩, ⟨by rw [fx 2 (by omega)]; exact (h2.ty 2).1, by rw [fx 2 (by omega), e2, h2.row2.1]; rfl, fun i hi => ?_⟩, by rw [fx 3 (by omega)]; exact ⟨(h2.ty 3).1, (h2.ty 3).2, h2.row3.1, h2.row3.2⟩, leaf 4 (by omega) (by omega), leaf 5 (by omega) (by omega), fun i hi => ?_, fun i hi => ?_, fun i hi => ⟨by rw [fx _ (by omega)]; exact (h2.ty _).1.trans (t30 i hi), ?_, fun q hq => ?_⟩, fun i hi => ?_, fun i q hi hq => ?_⟩
  · have hi : i < W := hi
    rw [fx 1 (by omega), fx _ (by omega), fx _ (by omega), h2.row1.2, (nl (10 + i) (by omega) (by omega)).1, (nl (20 + i) (by omega) (by omega)).1]
    exact ⟨srtCells_at R W i 0 hi (by decide), srtCells_at R W i 1 hi (by decide), srtCells_at R W i 2 hi (by decide)⟩
  · have hi : i < W := hi
    rw [fx 2 (by omega), fx _ (by omega), fx _ (by omega), (nl (40 + i) (by omega) (by omega)).1]
    exact h2.row2.2 i hi
  · have hi : i < W := hi
    have := leaf (10 + i) (by omega) (by omega)
    rw [(t10 i hi).1, (t10 i hi).2] at this
    exact this
  · have hi : i < W := hi
    have := leaf (20 + i) (by omega) (by omega)
    rw [(t20 i hi).1, (t20 i hi).2] at this
    exact this
  · have hi' : i < W := hi
    rw [fx _ (by omega)]
    show (L (30 + i)).v = .slice (some ⟨if h : i < W then (hin i h).choose else 0, 0, none⟩) W (if h : i < W then (hin i h).choose_spec.choose else 0)
    rw [dif_pos hi', dif_pos hi']
    exact (hin i hi').choose_spec.choose_spec
  · have hi' : i < W := hi
    have hq' : q < W := hq
    rw [fx _ (by omega), fx _ (by omega), (h2.inl i hi').2, (nl (100 + 10 * i + q) (by omega) (by omega)).1]
    exact ⟨inlCells_at R W q 0 hq' (by decide), inlCells_at R W q 1 hq' (by decide), inlCells_at R W q 2 hq' (by decide)⟩
  · have hi : i < W := hi
    have := leaf (40 + i) (by omega) (by omega)
    rw [(t40 i hi).1, (t40 i hi).2] at this
    exact this
  · have := leaf (100 + 10 * i + q) (by omega) (by omega)
    rw [(t100 _ (by omega)).1, (t100 _ (by omega)).2] at this
    exact this

set_option maxRecDepth 100000 in
set_option maxHeartbeats 2000000 in
theorem cnew_ok (w : World) (W R : Nat) (log : ByteArray) (es : List Ev) (mm : Nat) (hlog : log.size ≤ 400) (hp : Parsed log es mm) (hW1 : 1 ≤ W) (hW4 : W ≤ 4) (hR1 : 1 ≤ R) (hR4 : R ≤ 4) :
    Calls Tryz.prog 13 #[.agg #[.int .i64 (W : Int), .int .i64 (R : Int)], .string log] w fun en w' => ∃ (F : Fx) (X : Nat → Prop), en = .returned (.tuple #[.pointer (some ⟨F.jb, 0, none⟩), .int .i64 0]) ∧ CLX F X w' (newM W R es) ∧ (∀ g, X g → w.heap.size ≤ g) ∧ Below w.heap.size w w' := by
  have HF := show Hid _ from fun (w' : World) => fnew_ok w' W R log es mm hlog hp hW1 hW4 hR1 hR4
  have hnb := heap_alloc_new w (.cells #[.int .i64 (W : Int), .int .i64 (R : Int)] 26)
  have hba := (Below.refl w.heap.size w).alloc (Nat.le_refl _) (.cells #[.int .i64 (W : Int), .int .i64 (R : Int)] 26)
  go_enter Tryz.func13, Tryz.ntmps13
  obtain ⟨wa, hwa⟩ : ∃ wa, w.alloc (.cells #[.int .i64 (W : Int), .int .i64 (R : Int)] 26) = wa := ⟨_, rfl⟩
  rw [hwa] at hnb hba
  have c0 : wa.cell? ⟨w.heap.size, 0, none⟩ = some (.int .i64 (W : Int)) := row_cell hnb 0
  have c1 : wa.cell? ⟨w.heap.size, 1, none⟩ = some (.int .i64 (R : Int)) := row_cell hnb 1
  have HB := show Hid (Below w.heap.size w wa) from hba
  clear hnb hba
  have hz : ((0 : Int) != 0) = false := by simp
  go_wp2_with (go_at_call 33; refine (HF.out _).mono ?_; rintro en w2 ⟨ve, vs, va, rfl, fb, L, l1, l2, l3, l4, rfl, rfl, rfl⟩; obtain ⟨ea, ec, e3⟩ := own_shape (l1.own 3); obtain ⟨a1, q1, e1⟩ := own_shape (l1.own 1); obtain ⟨a2, q2, e2⟩ := own_shape (l1.own 2); rw [l2.row3.1] at e3; rw [l2.row1.1] at e1; rw [l2.row2.1] at e2; have HL := show Hid (Lay w2 L ∧ NSpec L fb W R es W W ∧ (∀ g, LX L g → wa.heap.size ≤ g) ∧ Below wa.heap.size wa w2 ∧ (L 3).v = .slice ea es.length ec ∧ (L 1).v = .slice a1 W q1 ∧ (L 2).v = .slice a2 W q2) from ⟨l1, l2, l3, l4, e3, e1, e2⟩; rw [e3, e1, e2]; clear l1 l2 l3 l4 e3 e1 e2; have hnb3 := heap_alloc_new w2 (.cells #[.slice none 0 0, .int .i64 0, .slice none 0 0, .slice none 0 0, .int .i64 0, .int .i64 0, .int .i64 0, .slice none 0 0, .int .i64 0, .slice none 0 0, .int .i64 0] 80); have hba3 := (Below.refl w2.heap.size w2).alloc (Nat.le_refl _) (.cells #[.slice none 0 0, .int .i64 0, .slice none 0 0, .slice none 0 0, .int .i64 0, .int .i64 0, .int .i64 0, .slice none 0 0, .int .i64 0, .slice none 0 0, .int .i64 0] 80); obtain ⟨wf, hwf⟩ : ∃ wf, w2.alloc (.cells #[.slice none 0 0, .int .i64 0, .slice none 0 0, .slice none 0 0, .int .i64 0, .int .i64 0, .int .i64 0, .slice none 0 0, .int .i64 0, .slice none 0 0, .int .i64 0] 80) = wf := ⟨_, rfl⟩; rw [hwf] at hnb3 hba3; obtain ⟨⟨d0, d1, d2, d3, d4, d5, d6, d7, d8, d9, d10⟩, ⟨z0, z1, z2, z3, z4, z5, z6, z7, z8, z9, z10⟩⟩ := flowCells hnb3)
  go_ret2
  obtain ⟨l1, l2, l3, l4, e3, e1, e2⟩ := HL.out
  have hbs := below_set11 hba3 (Nat.le_refl w2.heap.size) (.slice ea es.length ec) (.int .i64 0) (.slice a1 W q1) (.slice a2 W q2) (.int .i64 0) (.int .i64 0) (.int .i64 0) (.slice none 0 0) (.int .i64 0) (.slice none 0 0) (.int .i64 0)
  have hgs : ((((((((((((wf.setCell ⟨w2.heap.size, 0, none⟩ (.slice ea es.length ec)).setCell ⟨w2.heap.size, 1, none⟩ (.int .i64 0)).setCell ⟨w2.heap.size, 2, none⟩ (.slice a1 W q1)).setCell ⟨w2.heap.size, 3, none⟩ (.slice a2 W q2)).setCell ⟨w2.heap.size, 4, none⟩ (.int .i64 0)).setCell ⟨w2.heap.size, 5, none⟩ (.int .i64 0)).setCell ⟨w2.heap.size, 6, none⟩ (.int .i64 0)).setCell ⟨w2.heap.size, 7, none⟩ (.slice none 0 0)).setCell ⟨w2.heap.size, 8, none⟩ (.int .i64 0)).setCell ⟨w2.heap.size, 9, none⟩ (.slice none 0 0)).setCell ⟨w2.heap.size, 10, none⟩ (.int .i64 0))).heap.size = wf.heap.size := by simp only [World.size_setCell]
  generalize (((((((((((wf.setCell ⟨w2.heap.size, 0, none⟩ (.slice ea es.length ec)).setCell ⟨w2.heap.size, 1, none⟩ (.int .i64 0)).setCell ⟨w2.heap.size, 2, none⟩ (.slice a1 W q1)).setCell ⟨w2.heap.size, 3, none⟩ (.slice a2 W q2)).setCell ⟨w2.heap.size, 4, none⟩ (.int .i64 0)).setCell ⟨w2.heap.size, 5, none⟩ (.int .i64 0)).setCell ⟨w2.heap.size, 6, none⟩ (.int .i64 0)).setCell ⟨w2.heap.size, 7, none⟩ (.slice none 0 0)).setCell ⟨w2.heap.size, 8, none⟩ (.int .i64 0)).setCell ⟨w2.heap.size, 9, none⟩ (.slice none 0 0)).setCell ⟨w2.heap.size, 10, none⟩ (.int .i64 0)) = wg at hbs hgs ⊢
  have hjn := heap_alloc_new wg (.cells #[.slice ea es.length ec, .int .i64 0, .slice a1 W q1, .slice a2 W q2, .int .i64 0, .int .i64 0, .int .i64 0, .slice none 0 0, .int .i64 0, .slice none 0 0, .int .i64 0] 84)
  have hba4 := (Below.refl wg.heap.size wg).alloc (Nat.le_refl _) (.cells #[.slice ea es.length ec, .int .i64 0, .slice a1 W q1, .slice a2 W q2, .int .i64 0, .int .i64 0, .int .i64 0, .slice none 0 0, .int .i64 0, .slice none 0 0, .int .i64 0] 84)
  have l1' := (l1.below hbs).below hba4
  have hsz := hbs.size
  obtain ⟨F, hF, hC⟩ := new_lay (jb := wg.heap.size) ⟨hW1, hW4⟩ l1' l2 (by rw [e3, e1, e2]; exact hjn) (fun c e => by
    have := l1.lt ⟨c, e⟩
    omega)
  have hb2 := HB.out.trans (l4.mono HB.out.size)
  have hbg := hb2.trans (hbs.mono hb2.size)
  refine ⟨F, _, by rw [hF, hgs]; rfl, hC, fun g hg => ?_, hbg.trans (hba4.mono hbg.size)⟩
  obtain ⟨c, hc⟩ := hg
  by_cases e : c = 0
  · rw [e, repL_c] at hc
    have : wg.heap.size = g := Option.some.inj hc
    have := hbg.size
    omega
  · rw [repL_x e] at hc
    have := l3 g ⟨c, hc⟩
    have := HB.out.size
    omega

end Go.Proofs.YthccpacmklhejaaGreatDoor

namespace Go.Proofs.YthccpacmklhejaaGreatDoor
open Go.RowKit

section
variable {w : World} {jb : Nat}

set_option maxRecDepth 100000 in
theorem wStep {t : Int} {P : Int → World → Prop} (hc : Calls Tryz.prog 43 #[.pointer (some ⟨jb, 0, none⟩), .int .i64 t] w fun en w' => ∃ r : Int, en = .returned (.int .i64 r) ∧ P r w') : Calls Tryz.prog 22 #[.pointer (some ⟨jb, 0, none⟩), .int .i64 t] w fun en w' => ∃ r : Int, en = .returned (.int .i64 r) ∧ P r w' := by
  have HC := show Hid _ from fun (_ : Unit) => hc
  clear hc
  go_enter Tryz.func22, Tryz.ntmps22
  go_wp2_with (go_at_call 43; refine (HC.out ()).mono ?_; rintro en w2 ⟨r, rfl, hP⟩)
  go_ret
  exact ⟨r, rfl, hP⟩

set_option maxRecDepth 100000 in
theorem wTrigger {P : Int → Int → World → Prop} (hc : Calls Tryz.prog 48 #[.pointer (some ⟨jb, 0, none⟩)] w fun en w' => ∃ r s : Int, en = .returned (.tuple #[.int .i64 r, .int .i64 s]) ∧ P r s w') : Calls Tryz.prog 24 #[.pointer (some ⟨jb, 0, none⟩)] w fun en w' => ∃ r s : Int, en = .returned (.tuple #[.int .i64 r, .int .i64 s]) ∧ P r s w' := by
  have HC := show Hid _ from fun (_ : Unit) => hc
  clear hc
  go_enter Tryz.func24, Tryz.ntmps24
  go_wp2_with (go_at_call 48; refine (HC.out ()).mono ?_; rintro en w2 ⟨r, s, rfl, hP⟩)
  go_ret2
  exact ⟨r, s, rfl, hP⟩

set_option maxRecDepth 100000 in
theorem wFail {P : World → Prop} (hc : Calls Tryz.prog 54 #[.pointer (some ⟨jb, 0, none⟩)] w fun en w' => en = .returned (.tuple #[]) ∧ P w') : Calls Tryz.prog 31 #[.pointer (some ⟨jb, 0, none⟩)] w fun en w' => en = .returned (.tuple #[]) ∧ P w' := by
  have HC := show Hid _ from fun (_ : Unit) => hc
  clear hc
  go_enter Tryz.func31, Tryz.ntmps31
  go_wp2_with (go_at_call 54; refine (HC.out ()).mono ?_; rintro en w2 ⟨rfl, hP⟩)
  go_end0
  exact ⟨rfl, hP⟩

set_option maxRecDepth 100000 in
theorem wQueue {t : Int} {e : Nat} {P : Value → World → Prop} (hc : Calls Tryz.prog 80 #[.pointer (some ⟨jb, 0, none⟩), .int .i64 t] w fun en w' => ∃ v, en = .returned (.tuple #[v, .int .i64 (e : Int)]) ∧ P v w') : Calls Tryz.prog 49 #[.pointer (some ⟨jb, 0, none⟩), .int .i64 t] w fun en w' => ∃ v, en = .returned (.tuple #[v, .int .i64 (e : Int)]) ∧ P v w' := by
  have HC := show Hid _ from fun (_ : Unit) => hc
  clear hc
  go_enter Tryz.func49, Tryz.ntmps49
  go_wp2_with (go_at_call 80; refine (HC.out ()).mono ?_; rintro en w2 ⟨v, rfl, hP⟩)
  go_ret2
  exact ⟨v, rfl, hP⟩

set_option maxRecDepth 100000 in
theorem wOffset {r : Int} {P : World → Prop} (hc : Calls Tryz.prog 52 #[.pointer (some ⟨jb, 0, none⟩)] w fun en w' => en = .returned (.int .i64 r) ∧ P w') : Calls Tryz.prog 27 #[.pointer (some ⟨jb, 0, none⟩)] w fun en w' => en = .returned (.int .i64 r) ∧ P w' := by
  have HC := show Hid _ from fun (_ : Unit) => hc
  clear hc
  go_enter Tryz.func27, Tryz.ntmps27
  go_wp2_with (go_at_call 52; refine (HC.out ()).mono ?_; rintro en w2 ⟨rfl, hP⟩)
  go_ret
  exact ⟨rfl, hP⟩

set_option maxRecDepth 100000 in
theorem wView {s : ByteArray} {P : World → Prop} (hc : Calls Tryz.prog 53 #[.pointer (some ⟨jb, 0, none⟩)] w fun en w' => en = .returned (.string s) ∧ P w') : Calls Tryz.prog 29 #[.pointer (some ⟨jb, 0, none⟩)] w fun en w' => en = .returned (.string s) ∧ P w' := by
  have HC := show Hid _ from fun (_ : Unit) => hc
  clear hc
  go_enter Tryz.func29, Tryz.ntmps29
  go_wp2_with (go_at_call 53; refine (HC.out ()).mono ?_; rintro en w2 ⟨rfl, hP⟩)
  go_ret
  exact ⟨rfl, hP⟩
end

end Go.Proofs.YthccpacmklhejaaGreatDoor

namespace Go.Proofs.YthccpacmklhejaaGreatDoor

def itS (E : List Ev) (x : Int) : ItemV := if x < 0 then barI else evI ((E[x.toNat]?).getD ev0)
def itA (c : ChgM) : ItemV := if c.pt < 0 then barI else chI c.pt.toNat c.live (wrap16 c.delta)

def stateOf (j : JobM) : Nat := if j.under then (if j.barriers then (if j.complete then 3 else 2) else 1) else 0
def cntP (l : List AdderM) : Nat := (l.filter (fun a => a.passed)).length
def laidOf (j : JobM) : Nat := if j.under then cntP j.adders else 0

/-- What is laid ready. -/
def ReadyIs (ready : List GX) (j : JobM) : Prop := sortedX ready ∧ ∀ x, x ∈ ready ↔ (j.under = true ∧ ∃ a, j.adders[x.v.pt % j.width]? = some a ∧ a.passed = true ∧ a.chgd x.v.pt ∧ x.v = gvC (a.got.take a.marked) x.v.pt ∧ x.ch = false)

structure Abs (m : CM) (j : JobM) : Prop where
  W : m.W = j.width
  R : m.R = j.room
  w4 : 1 ≤ j.width ∧ j.width ≤ 4
  r4 : 1 ≤ j.room ∧ j.room ≤ 4
  evs : m.evs = j.events
  len : j.events.length ≤ 400
  ev : ∀ e ∈ j.events, validB e.key = true ∧ 0 < e.key.size ∧ e.key.size ≤ 1000
  flow : FlowOk j
  opn : OpenJ j
  sent : m.sent = j.sent
  sp : ∀ (i : Nat) (s : SorterM), j.sorters[i]? = some s → m.sp i = s.pipe.map (itS j.events) ∧ m.sk i = entsOf s.got
  spl : ∀ (i : Nat) (s : SorterM), j.sorters[i]? = some s → s.pipe.length ≤ j.room
  ap : ∀ (k : Nat) (a : AdderM), j.adders[k]? = some a → ∀ (q : Nat) (p : List ChgM), a.pipes[q]? = some p → m.ap k q = p.map itA
  apl : ∀ (k : Nat) (a : AdderM), j.adders[k]? = some a → ∀ (q : Nat) (p : List ChgM), a.pipes[q]? = some p → p.length ≤ j.room
  st : ∀ (k : Nat) (a : AdderM), j.adders[k]? = some a → ∀ (q : Nat) (b : Bool), a.stopped[q]? = some b → m.st k q = b
  tb : ∀ (k : Nat) (a : AdderM), j.adders[k]? = some a → TabIs (m.tb k) a.got (a.got.drop a.marked)
  state : m.state = stateOf j
  off : j.fl = true → m.off = j.off
  laid : m.laid = laidOf j
  ready : ReadyIs m.ready j
  last : m.last = j.number
  view : sortedX m.view ∧ m.view.map (fun x => x.v) = tabOf (j.events.take j.base)
  offset : m.offset = j.base

theorem itA_bar : itA barM = barI := rfl
theorem itS_bar (E : List Ev) : itS E (-1) = barI := rfl

theorem cntP_le (l : List AdderM) : cntP l ≤ l.length := List.length_filter_le _ _

theorem cntP_all (l : List AdderM) : cntP l = l.length ↔ ∀ a ∈ l, a.passed = true := by
  unfold cntP
  rw [List.length_filter_eq_length_iff]

theorem cntP_none (l : List AdderM) (h : ∀ a ∈ l, a.passed = false) : cntP l = 0 := by
  unfold cntP
  rw [List.length_eq_zero_iff, List.filter_eq_nil_iff]
  intro a ha
  rw [h a ha]
  simp

theorem cntP_same {l : List AdderM} {k : Nat} {a a' : AdderM} (h : l[k]? = some a) (hp : a'.passed = a.passed) : cntP (l.set k a') = cntP l := by
  induction l generalizing k with
  | nil => cases h
  | cons x l ih =>
    cases k with
    | zero =>
      simp only [List.getElem?_cons_zero, Option.some.injEq] at h
      subst h
      simp only [List.set_cons_zero]
      unfold cntP
      cases hx : x.passed <;> simp [hp, hx]
    | succ k =>
      simp only [List.getElem?_cons_succ] at h
      have := ih h
      simp only [List.set_cons_succ]
      unfold cntP at this ⊢
      simp only [List.filter_cons]
      split
      · simp only [List.length_cons, this]
      · exact this

theorem cntP_more {l : List AdderM} {k : Nat} {a a' : AdderM} (h : l[k]? = some a) (hp : a.passed = false) (hp' : a'.passed = true) : cntP (l.set k a') = cntP l + 1 := by
  induction l generalizing k with
  | nil => cases h
  | cons x l ih =>
    cases k with
    | zero =>
      simp only [List.getElem?_cons_zero, Option.some.injEq] at h
      subst h
      simp only [List.set_cons_zero]
      unfold cntP
      simp [hp, hp']
    | succ k =>
      simp only [List.getElem?_cons_succ] at h
      have := ih h
      simp only [List.set_cons_succ]
      unfold cntP at this ⊢
      simp only [List.filter_cons]
      split
      · simp only [List.length_cons, this]
      · exact this

/-- What an adder got, and what waits for it, are changes that events make. -/
theorem got_ok {j : JobM} (hf : FlowOk j) {k : Nat} {a : AdderM} (ha : j.adders[k]? = some a) : (∀ c ∈ a.got, ChOk j.events c) ∧ a.got.length ≤ j.width * j.events.length ∧ ∀ (q : Nat) (p : List ChgM), a.pipes[q]? = some p → ∀ c ∈ p, c = barM ∨ (0 ≤ c.pt ∧ ChOk j.events c) := by
  have o := hf.adders k a ha
  obtain ⟨R, hR, hL⟩ := o.links
  have hs : ∀ i : Nat, i < j.width → ∃ s : SorterM, j.sorters[i]? = some s := fun i hi => ⟨_, List.getElem?_eq_getElem (by rw [hf.lenS]; exact hi)⟩
  have hsub : ∀ (i : Nat) (s : SorterM), j.sorters[i]? = some s → (∀ e ∈ s.got, e ∈ j.events) ∧ s.got.length ≤ j.events.length := fun i s h => by
    have so := hf.sorters i s h
    have key : ∃ l n, s.got ++ l = evs j.width j.events n i := by
      by_cases hp : j.fl = true → s.passed = true
      · exact ⟨_, _, (so.free hp).2⟩
      · have h1 : j.fl = true := Classical.byContradiction fun x => hp fun y => absurd y x
        have h2 : s.passed = false := by
          cases hh : s.passed with
          | false => rfl
          | true => exact absurd (fun _ => hh) hp
        obtain ⟨p1, p2, _, _, _, e1, _⟩ := so.wait h1 h2
        exact ⟨_, _, e1⟩
    obtain ⟨l, n, e⟩ := key
    refine ⟨fun x hx => evs_sub x (by rw [← e]; simp [hx]), ?_⟩
    have h1 := evs_len j.width j.events n i
    rw [← e, List.length_append] at h1
    omega
  have hgo : ∀ (i : Nat) (s : SorterM), j.sorters[i]? = some s → ∀ c ∈ toA j.width k (outs s.got), ChOk j.events c := fun i s h c hc => (outsFrom_ok _ _ c (toA_mem hc).1).mono (hsub i s h).1
  have hoo : ∀ i, ∀ c ∈ toA j.width k (outs (evs j.width j.events j.off i)), ChOk j.events c := fun i c hc => (outsFrom_ok _ _ c (toA_mem hc).1).mono evs_sub
  have hlk : ∀ i, i < j.width → (∀ c ∈ R i, ChOk j.events c) ∧ (R i).length ≤ j.events.length ∧ ∀ (p : List ChgM), a.pipes[i]? = some p → ∀ c ∈ p, c = barM ∨ (0 ≤ c.pt ∧ ChOk j.events c) := fun i hi => by
    obtain ⟨s, hs'⟩ := hs i hi
    have hst : a.stopped[i]? = some (a.stopped[i]'(by rw [o.lenS]; exact hi)) := List.getElem?_eq_getElem _
    have hpp : a.pipes[i]? = some (a.pipes[i]'(by rw [o.lenP]; exact hi)) := List.getElem?_eq_getElem _
    have l := hL i hi s _ _ hs' hst hpp
    have hol : (toA j.width k (outs s.got)).length ≤ j.events.length := by
      have h1 := toA_length j.width k (outs s.got)
      have h2 := outsFrom_len s.got []
      have h3 := (hsub i s hs').2
      unfold outs at h1 ⊢
      omega
    generalize a.stopped[i]'(by rw [o.lenS]; exact hi) = sb at l hst
    generalize a.pipes[i]'(by rw [o.lenP]; exact hi) = pp at l hpp
    by_cases hm : j.fl = true ∧ s.passed = true ∧ a.passed = false ∧ sb = false
    · obtain ⟨q1, q2, e1, c1, c2, e2, e3⟩ := l.mid hm.1 hm.2.1 hm.2.2.1 hm.2.2.2
      refine ⟨fun c hc => hgo i s hs' c (by rw [← e3]; simp [hc]), ?_, fun p hp c hc => ?_⟩
      · have := congrArg List.length e3
        simp only [List.length_append] at this
        omega
      · rw [hpp] at hp
        simp only [Option.some.injEq] at hp
        subst hp
        rw [e1] at hc
        rcases List.mem_append.1 hc with hc | hc
        · exact .inr ⟨c1 c hc, hgo i s hs' c (by rw [← e3]; simp [hc])⟩
        · rcases List.mem_cons.1 hc with hc | hc
          · exact .inl hc
          · exact .inr ⟨c2 c hc, hgo i s hs' c (by rw [← e3]; simp [hc])⟩
    · obtain ⟨c1, e1⟩ := l.free hm
      refine ⟨fun c hc => hgo i s hs' c (by rw [← e1]; simp [hc]), ?_, fun p hp c hc => ?_⟩
      · have := congrArg List.length e1
        simp only [List.length_append] at this
        omega
      · rw [hpp] at hp
        simp only [Option.some.injEq] at hp
        subst hp
        exact .inr ⟨c1 c hc, hgo i s hs' c (by rw [← e1]; simp [hc])⟩
  refine ⟨fun c hc => ?_, ?_, fun q p hp c hc => ?_⟩
  · obtain ⟨i, hi, hc'⟩ := List.mem_flatMap.1 (hR.mem_iff.1 hc)
    exact (hlk i (by simpa using hi)).1 c hc'
  · rw [hR.length_eq]
    exact flat_len j.width fun i hi => (hlk i hi).2.1
  · have hq : q < j.width := by
      have := (List.getElem?_eq_some_iff.1 hp).1
      rw [o.lenP] at this
      exact this
    exact (hlk q hq).2.2 p hp c hc

theorem Abs.tabBounds {m : CM} {j : JobM} (h : Abs m j) {k : Nat} {a : AdderM} (ha : j.adders[k]? = some a) : (m.tb k).length ≤ 400 ∧ ∀ r ∈ m.tb k, -100000 ≤ r.v.live ∧ r.v.live ≤ 100000 := by
  obtain ⟨g1, g2, _⟩ := got_ok h.flow ha
  have h1 : j.width * j.events.length ≤ 4 * 400 := Nat.mul_le_mul h.w4.2 h.len
  have hb := (h.tb k a ha).bounds g1 (by omega)
  have hp := ptsOf_length j.events
  have := h.len
  exact ⟨by omega, hb.2⟩

/-- Groups that events make are few. -/
theorem few_groups {E : List Ev} {t : List GX} (hs : sortedX t) (h : ∀ x ∈ t, ∃ c : ChgM, ChOk E c ∧ c.pt = (x.v.pt : Int)) : t.length ≤ E.length := by
  have := sorted_sub_len (ptsOf E) (t.map (fun x => x.v.pt)) hs (ptsOf_sorted E) (fun p hp => by
    obtain ⟨x, hx, rfl⟩ := List.mem_map.1 hp
    obtain ⟨c, ⟨⟨e, he, hep⟩, _⟩, hcp⟩ := h x hx
    have hpt : x.v.pt = (grp e.key).1 := by rw [hcp] at hep; exact Int.ofNat.inj hep
    rw [hpt]
    exact (mem_ptsOf _ _).2 ⟨e.key, (mem_keysOf _ _).2 ⟨e, he, rfl⟩, rfl⟩)
  rw [List.length_map] at this
  exact Nat.le_trans this (ptsOf_length E)

theorem Abs.readyLen {m : CM} {j : JobM} (h : Abs m j) : m.ready.length ≤ 400 := by
  refine Nat.le_trans (few_groups h.ready.1 fun x hx => ?_) h.len
  obtain ⟨_, a, ha, _, ⟨c, hc, hcp⟩, _⟩ := (h.ready.2 x).1 hx
  exact ⟨c, (got_ok h.flow ha).1 c (List.mem_of_mem_take (List.mem_of_mem_drop hc)), hcp⟩

theorem Abs.viewLen {m : CM} {j : JobM} (h : Abs m j) : m.view.length ≤ 400 := by
  have h1 : m.view.length = (tabOf (j.events.take j.base)).length := by rw [← h.view.2, List.length_map]
  rw [h1]
  unfold tabOf
  rw [List.length_map]
  have h2 := ptsOf_length (j.events.take j.base)
  rw [List.length_take] at h2
  have := h.len
  omega

end Go.Proofs.YthccpacmklhejaaGreatDoor

namespace Go.Proofs.YthccpacmklhejaaGreatDoor
open Go.RowKit

/-- The blocks that are the job's; the world; the job's block; what it is in plain Lean. -/
abbrev CJT := (Nat → Prop) → World → Nat → JobM → Prop

/-- What is left behind a call on a job: it alone has changed; its blocks are its old ones and new ones. -/
def After (CJ : CJT) (X : Nat → Prop) (w : World) (jb : Nat) (j' : JobM) (w' : World) : Prop :=
  ∃ X' : Nat → Prop, CJ X' w' jb j' ∧ FrmX X w w' ∧ ∀ g, X' g → X g ∨ w.heap.size ≤ g

structure JobIface (CJ : CJT) : Prop where
  lt : ∀ {X w jb j}, CJ X w jb j → ∀ g, X g → g < w.heap.size
  frm : ∀ {X w jb j}, CJ X w jb j → ∀ {Z : Nat → Prop} {w' : World}, FrmX Z w w' → (∀ g, X g → ¬ Z g) → CJ X w' jb j
  good : ∀ {X w jb j}, CJ X w jb j → Good2 j ∧ (1 ≤ j.width ∧ j.width ≤ 4) ∧ j.events.length ≤ 400
  step : ∀ {X w jb j}, CJ X w jb j → ∀ t : Int, -9223372036854775808 ≤ t → t ≤ 9223372036854775807 →
    Calls Tryz.prog 22 #[.pointer (some ⟨jb, 0, none⟩), .int .i64 t] w fun en w' => en = .returned (.int .i64 ((j.step t).1 : Int)) ∧ After CJ X w jb (j.step t).2 w'
  trigger : ∀ {X w jb j}, CJ X w jb j → j.number < 4611686018427387904 →
    Calls Tryz.prog 24 #[.pointer (some ⟨jb, 0, none⟩)] w fun en w' => en = .returned (.tuple #[.int .i64 (j.trigger.1 : Int), .int .i64 (j.trigger.2.1 : Int)]) ∧ After CJ X w jb j.trigger.2.2 w'
  fail : ∀ {X w jb j}, CJ X w jb j →
    Calls Tryz.prog 31 #[.pointer (some ⟨jb, 0, none⟩)] w fun en w' => en = .returned (.tuple #[]) ∧ After CJ X w jb j.fail w'
  queue : ∀ {X w jb j}, CJ X w jb j → ∀ t : Int, -9223372036854775808 ≤ t → t ≤ 9223372036854775807 →
    Calls Tryz.prog 49 #[.pointer (some ⟨jb, 0, none⟩), .int .i64 t] w fun en w' => ∃ v, en = .returned (.tuple #[v, .int .i64 ((j.queue t).2 : Int)]) ∧ w'.ownsRow w.heap.size 3 1 v (j.queue t).1.length ((j.queue t).1.map (Value.int .i64)) ∧ Below w.heap.size w w'
  offset : ∀ {X w jb j}, CJ X w jb j →
    Calls Tryz.prog 27 #[.pointer (some ⟨jb, 0, none⟩)] w fun en w' => en = .returned (.int .i64 (j.base : Int)) ∧ Below w.heap.size w w'
  view : ∀ {X w jb j}, CJ X w jb j → Tab w →
    Calls Tryz.prog 29 #[.pointer (some ⟨jb, 0, none⟩)] w fun en w' => en = .returned (.string ⟨(foldB (j.events.take j.base)).toArray⟩) ∧ Below w.heap.size w w'
  new : ∀ (w : World) (W R : Nat) (log : ByteArray) (es : List Ev) (m : Nat), log.size ≤ 400 → Parsed log es m → 1 ≤ W → W ≤ 4 → 1 ≤ R → R ≤ 4 →
    Calls Tryz.prog 13 #[.agg #[.int .i64 (W : Int), .int .i64 (R : Int)], .string log] w fun en w' => ∃ jb X, en = .returned (.tuple #[.pointer (some ⟨jb, 0, none⟩), .int .i64 0]) ∧ CJ X w' jb (newJ W R es) ∧ (∀ g, X g → w.heap.size ≤ g) ∧ Below w.heap.size w w'

theorem After.of_below {CJ : CJT} (I : JobIface CJ) {X : Nat → Prop} {w w' : World} {jb : Nat} {j : JobM} (h : CJ X w jb j) (hb : Below w.heap.size w w') : CJ X w' jb j := I.frm h (FrmX.of_below (X := fun _ => False) hb) fun _ _ h => h

theorem number_step (j : JobM) (t : Int) : (j.step t).2.number = j.number := by
  unfold JobM.step
  split
  · rfl
  · split
    · unfold JobM.source
      split
      · split <;> rfl
      · split
        · rfl
        · split
          · rfl
          · split <;> rfl
    · split
      · unfold JobM.sorts
        split
        · rfl
        · split
          · rfl
          · split
            · split <;> rfl
            · split
              · rfl
              · split
                · split
                  · rfl
                  · split <;> rfl
                · rfl
      · split
        · unfold JobM.adds
          split
          · rfl
          · split <;> rfl
        · unfold JobM.keeps
          split
          · rfl
          · split <;> rfl

theorem number_trigger (j : JobM) : j.trigger.2.2.number ≤ j.number + 1 := by
  unfold JobM.trigger
  split
  · exact Nat.le_succ _
  · exact Nat.le_refl _

theorem number_fail (j : JobM) : j.fail.number = j.number := by
  unfold JobM.fail
  split <;> rfl

theorem number_roundTo (j : JobM) : ∀ n, (j.roundTo n).number = j.number
  | 0 => rfl
  | n + 1 => (number_step _ _).trans (number_roundTo j n)

theorem base_trigger (j : JobM) : j.trigger.2.2.base = j.base := by
  unfold JobM.trigger
  split <;> rfl

end Go.Proofs.YthccpacmklhejaaGreatDoor
