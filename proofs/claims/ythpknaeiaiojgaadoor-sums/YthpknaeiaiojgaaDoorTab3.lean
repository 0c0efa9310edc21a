/-
  groups.Table: insert.
-/
import Derived.Test.YthpknaeiaiojgaaDoorTab2
namespace Go.Proofs.YthpknaeiaiojgaaDoor
open Go.RowKit

set_option maxRecDepth 100000 in
set_option maxHeartbeats 2000000 in
theorem insert_any (B kb : Nat) (a : Option Addr) (c : Nat) (rs : List GV) (at' xp : Nat) (xl xs xe : Int) (w : World) (hB : B ≤ kb) (hlen : rs.length ≤ 1000) (hat : at' ≤ rs.length) (hG : GAt B kb a c rs w) :
    Calls Tryd.prog 87 #[.pointer (some ⟨kb, 0, none⟩), .int .i64 (at' : Int), .agg #[.int .i32 (xp : Int), .int .i64 xl, .int .i16 xs, .int .u8 xe]] w fun en w' => en = .returned (.tuple #[]) ∧ (∃ a' c', GAt B kb a' c' (rs.take at' ++ ⟨xp, xl, xs, xe⟩ :: rs.drop at') w') ∧ Frm B 121 155 w w' := by
  have hBw : B ≤ w.heap.size := Nat.le_trans hB (Nat.le_of_lt (heap_lt hG.1))
  have hkl : kb < w.heap.size := heap_lt hG.1
  have hgl0 : ∀ g, (Value.slice a rs.length c).ownBlock = some g → g < w.heap.size := fun g hg => (own_ge hG.2 g hg).2
  obtain ⟨i0, hi, hz0, hz1, hz2⟩ := info_parts Tryd.infoGrp
  have HK := show Hid (_ ∧ _) from And.intro (hG.alloc (.cells #[.int .i32 (xp : Int), .int .i64 xl, .int .i16 xs, .int .u8 xe] 155)).drew ((Frm.refl B 121 155 w).alloc hBw (.cells #[.int .i32 (xp : Int), .int .i64 xl, .int .i16 xs, .int .u8 xe] 155)).drew
  have heb : (w.alloc (.cells #[.int .i32 (xp : Int), .int .i64 xl, .int .i16 xs, .int .u8 xe] 155)).drew.heap[w.heap.size]? = some (.cells #[.int .i32 (xp : Int), .int .i64 xl, .int .i16 xs, .int .u8 xe] 155 (0, 0)) := heap_alloc_new w _
  clear hG
  go_enter Tryd.func87, Tryd.ntmps87
  go_wp2
  refine wp_region_held_drew (S := fun w' : World => w'.heap[w.heap.size]? = some (.cells #[.int .i32 (xp : Int), .int .i64 xl, .int .i16 xs, .int .u8 xe] 155 (0, 0))) (by kernel_rfl) heb (fun hH => ?_)
  generalize (w.alloc (.cells #[.int .i32 (xp : Int), .int .i64 xl, .int .i16 xs, .int .u8 xe] 155)).drew = wd at HK heb hH ⊢
  have hkc := HK.out.1.cell
  have hkc2 := (HK.out.1.alloc (.cells #[.int .i32 (xp : Int), .int .i64 xl, .int .i16 xs, .int .u8 xe] 155)).cell
  have heb2 : (wd.alloc (.cells #[.int .i32 (xp : Int), .int .i64 xl, .int .i16 xs, .int .u8 xe] 155)).heap[w.heap.size]? = some (.cells #[.int .i32 (xp : Int), .int .i64 xl, .int .i16 xs, .int .u8 xe] 155 (0, 0)) := (Below.heap_alloc _ _ _ (by have := heap_lt heb; omega)).trans heb
  refine wpAnyH_take (i := 0) (v := (.pointer (some ⟨kb, 0, none⟩))) rfl (by kernel_rfl) (by kernel_rfl) (by kernel_rfl) (fun _ _ _ h => h) (Or.inl ⟨by rfl, by intro v hSw; clear hSw; go_simp⟩) hH ?_
  refine wpAnyH_take (i := 1) (v := (.pointer (some ⟨kb, 0, none⟩))) rfl (by kernel_rfl) (by kernel_rfl) (by kernel_rfl) (fun _ _ _ h => h) (Or.inl ⟨by rfl, by intro v hSw; clear hSw; go_simp⟩) hH ?_
  refine wpAnyH_take (i := 2) (v := (.pointer (some ⟨kb, 0, none⟩))) rfl (by kernel_rfl) (by kernel_rfl) (by kernel_rfl) (fun _ _ _ h => h) (Or.inl ⟨by rfl, by intro v hSw; clear hSw; go_simp⟩) hH ?_
  refine wpAnyH_take (i := 3) (v := (.pointer (some ⟨kb, 0, none⟩))) rfl (by kernel_rfl) (by kernel_rfl) (by kernel_rfl) (fun _ _ _ h => h) (Or.inl ⟨by rfl, by intro v hSw; clear hSw; go_simp⟩) hH ?_
  refine wpAnyH_take (i := 5) (v := (.agg #[.int .i32 (xp : Int), .int .i64 xl, .int .i16 xs, .int .u8 xe])) rfl (by kernel_rfl) (by kernel_rfl) (by kernel_rfl) (fun _ _ _ h => h) (Or.inl ⟨by rfl, by intro v hSw; have s0 : v.cell? ⟨w.heap.size, 0, none⟩ = some (.int .i32 (xp : Int)) := row_cell hSw 0; have s1 : v.cell? ⟨w.heap.size, 1, none⟩ = some (.int .i64 xl) := row_cell hSw 1; have s2 : v.cell? ⟨w.heap.size, 2, none⟩ = some (.int .i16 xs) := row_cell hSw 2; have s3 : v.cell? ⟨w.heap.size, 3, none⟩ = some (.int .u8 xe) := row_cell hSw 3; clear hSw; go_simp⟩) hH ?_
  refine wpAnyH_ready (rs := [4, 6]) (by kernel_rfl) (by simp) ?_
  refine AllReadyH.cons rfl (fun K hK => ?_) (AllReadyH.cons rfl (fun K hK => ?_) AllReadyH.nil)
  · clear hH
    go_simp
    refine hK.out _ _ heb (fun hH => ?_)
    clear hK K
    refine wpAnyH_ready (rs := [6]) (by kernel_rfl) (by simp) ?_
    refine AllReadyH.cons rfl (fun K hK => ?_) AllReadyH.nil
    clear hH
    go_simp
    refine hK.out _ _ heb2 (fun hH => ?_)
    clear hK K
    refine wpAnyH_ready (rs := [7]) (by kernel_rfl) (by simp) ?_
    refine AllReadyH.cons rfl (fun K hK => ?_) AllReadyH.nil
    refine ite_of rfl ?_
    refine wp_append_two _ (.tmp 11) (.tmp 13) 119 rfl B 155 i0 (.agg #[.int .i32 0, .int .i64 0, .int .i16 0, .int .u8 0]) 4 24 Tryd.underlying119 hi hz0 hz1 hz2 rfl (by decide) (.slice a rs.length c) rs.length (gCells rs) rfl (HK.out.1.2.alloc _) ⟨wd.heap.size, 0, none⟩ 1 1 (gCells1 ⟨xp, xl, xs, xe⟩) rfl rfl (by have := cell_four_new wd (.int .i32 (xp : Int)) (.int .i64 xl) (.int .i16 xs) (.int .u8 xe) 155; simpa [gCells1] using this) (g_oneCell _) (by unfold maxLen; omega) (by omega) (by have := HK.out.2.below.size; simp; omega) (by decide) ?_
    intro v3 w5 hown3 hfr3
    obtain ⟨a3, c3, rfl⟩ := own_shape hown3
    have hgr := grown_either hfr3
    have HA := show Hid (_ ∧ _ ∧ _) from GAt.appended hB (HK.out.1.alloc (.cells #[.int .i32 (xp : Int), .int .i64 xl, .int .i16 xs, .int .u8 xe] 155)) hown3 hgr
    have HFr := show Hid _ from (HK.out.2.alloc hBw (.cells #[.int .i32 (xp : Int), .int .i64 xl, .int .i16 xs, .int .u8 xe] 155)).trans HA.out.2.2
    have hgb : ∀ g, (Value.slice a3 (rs.length + 1) c3).ownBlock = some g → g ≠ w.heap.size := by
      intro g hg
      rcases hfr3 with h | h
      · have := h.2
        rw [hg] at this
        simp only [World.size_alloc, Option.some.injEq] at this
        have := heap_lt heb
        omega
      · have := h.2.1
        rw [hg] at this
        have := hgl0 g this.symm
        omega
    have heb5 : w5.heap[w.heap.size]? = some (.cells #[.int .i32 (xp : Int), .int .i64 xl, .int .i16 xs, .int .u8 xe] 155 (0, 0)) := (hgr.block _ (heap_lt heb2) (fun e => by have := hgl0 _ e.symm; omega)).trans heb2
    refine hK.out _ _ heb5 (fun hH => ?_)
    clear hK K hown3 hfr3 hgr HK heb heb2 hkc hkc2
    refine wpAnyH_take (i := 8) (v := (.pointer (some ⟨kb, 0, none⟩))) rfl (by kernel_rfl) (by kernel_rfl) (by kernel_rfl) (fun _ _ _ h => h) (Or.inl ⟨by rfl, by intro v hSw; clear hSw; go_simp⟩) hH ?_
    refine wpAnyH_take (i := 9) (v := (.pointer (some ⟨kb, 0, none⟩))) rfl (by kernel_rfl) (by kernel_rfl) (by kernel_rfl) (fun _ _ _ h => h) (Or.inl ⟨by rfl, by intro v hSw; clear hSw; go_simp⟩) hH ?_
    refine wpAnyH_ready (rs := [10]) (by kernel_rfl) (by simp) ?_
    refine AllReadyH.cons rfl (fun K hK => ?_) AllReadyH.nil
    clear hH
    have b0 : w5.cell? ⟨kb, 0, none⟩ = some (.slice a rs.length c) := row_cell HA.out.1 0
    have z0 : w5.frozen? ⟨kb, 0, none⟩ = false := row_frozen HA.out.1 0
    go_simp
    have heb6 := (Below.heap_setCell w5 ⟨kb, 0, none⟩ (.slice a3 (rs.length + 1) c3) w.heap.size (by simp only; omega)).trans heb5
    refine hK.out _ _ heb6 (fun hH => ?_)
    clear hK K hH b0 z0 heb5
    refine wpAnyH_done (by kernel_rfl) ?_ _
    have HK2 := show Hid (_ ∧ _) from And.intro HA.out.2.1 HFr.out
    clear HA HFr
    generalize w5.setCell ⟨kb, 0, none⟩ (.slice a3 (rs.length + 1) c3) = w3 at HK2 heb6 ⊢
    have hkc3 := HK2.out.1.cell
    rw [List.length_append] at hkc3
    have hkc3' : w3.cell? ⟨kb, 0, none⟩ = some (.slice a3 (rs.length + 1) c3) := hkc3
    clear hkc3
    go_wp2
    have H0 := show Hid (_ ∧ _ ∧ _) from And.intro HK2.out.1 (And.intro HK2.out.2 heb6)
    clear HK2 heb6 hkc3'
    rw [← shiftL_end] at H0
    go_loopw [6] (fun i wr => ∃ j : Nat, at' ≤ j ∧ j ≤ rs.length ∧ i = .int .i64 (j : Int) ∧ GAt B kb a3 c3 (shiftL rs ⟨xp, xl, xs, xe⟩ j) wr ∧ Frm B 121 155 w wr ∧ wr.heap[w.heap.size]? = some (.cells #[.int .i32 (xp : Int), .int .i64 xl, .int .i16 xs, .int .u8 xe] 155 (0, 0))) (fun i _ => (intOf i).toNat)
    case atStart => exact ⟨rs.length, hat, Nat.le_refl _, by go_num, H0.out.1, H0.out.2.1, H0.out.2.2⟩
    case round =>
      obtain ⟨j, hja, hjr, rfl, hGr, hFr, hxb⟩ := hrel
      clear H0
      have hsl := shiftL_length rs ⟨xp, xl, xs, xe⟩ j hjr
      rcases own_addr hGr.2 with ⟨_, h0⟩ | ⟨g, rfl⟩
      · omega
      have hgne := hgb g rfl
      have hgG : g < wr.heap.size := (own_lt hGr.2).2
      by_cases hj : at' < j
      · obtain ⟨k, rfl⟩ : ∃ k, j = k + 1 := ⟨j - 1, by omega⟩
        have hji : (at' : Int) < (k : Int) + 1 := by omega
        have hkl2 : k < (shiftL rs ⟨xp, xl, xs, xe⟩ (k + 1)).length := by omega
        have hkl3 : k + 1 < (shiftL rs ⟨xp, xl, xs, xe⟩ (k + 1)).length := by omega
        have hst := shiftL_step rs ⟨xp, xl, xs, xe⟩ k hjr hkl2
        have hsame := shiftL_same rs ⟨xp, xl, xs, xe⟩ k hjr
        have HS := show Hid (_ ∧ _) from And.intro hGr.drew hFr.drew
        have hxb' := show wr.drew.heap[w.heap.size]? = _ from hxb
        clear hGr hFr hxb
        go_wp2
        have hki : (k : Int) < (rs.length : Int) := by omega
        have hki1 : (k : Int) + 1 < (rs.length : Int) + 1 := by omega
        have hki2 : (k : Int) < (rs.length : Int) + 1 := by omega
        have hk0 : (0 : Int) ≤ (k : Int) := by omega
        have hk1 : (0 : Int) ≤ (k : Int) + 1 := by omega
        obtain ⟨wd, hwd⟩ : ∃ wd, wr.drew = wd := ⟨_, rfl⟩
        rw [hwd] at HS hxb'
        obtain ⟨r0, r1, r2, r3⟩ := HS.out.1.row k hkl2
        have HF := show Hid _ from GAt.fill (w := wd) HS.out.1 (k + 1) hkl3 ((shiftL rs ⟨xp, xl, xs, xe⟩ (k + 1))[k])
        rw [hst] at HF
        obtain ⟨y, hy⟩ : ∃ y, (shiftL rs ⟨xp, xl, xs, xe⟩ (k + 1))[k] = y := ⟨_, rfl⟩
        rw [hy] at r0 r1 r2 r3 HF hsame
        obtain ⟨y2, hy2⟩ : ∃ y2, (shiftL rs ⟨xp, xl, xs, xe⟩ (k + 1))[k + 1] = y2 := ⟨_, rfl⟩
        rw [hy2] at HF
        obtain ⟨yp, yl, ys, ye⟩ := y
        obtain ⟨vp, vl, vs, ve⟩ := y2
        simp only at r0 r1 r2 r3 HF
        have hb0 := HS.out.1.1
        rw [hsl] at hb0
        clear hy hy2 hst
        have hS0 : wd.heap[kb]? = some (.cells #[.slice (some ⟨g, 0, none⟩) (rs.length + 1) c3] 121 (0, 0)) ∧ wd.cell? ⟨g, k * 4, none⟩ = some (.int .i32 (yp : Int)) ∧ wd.cell? ⟨g, k * 4 + 1, none⟩ = some (.int .i64 yl) ∧ wd.cell? ⟨g, k * 4 + 2, none⟩ = some (.int .i16 ys) ∧ wd.cell? ⟨g, k * 4 + 3, none⟩ = some (.int .u8 ye) := ⟨hb0, r0, r1, r2, r3⟩
        clear r0 r1 r2 r3
        refine wp_region_held_drew (S := fun w' : World => w'.heap[kb]? = some (.cells #[.slice (some ⟨g, 0, none⟩) (rs.length + 1) c3] 121 (0, 0)) ∧ w'.cell? ⟨g, k * 4, none⟩ = some (.int .i32 (yp : Int)) ∧ w'.cell? ⟨g, k * 4 + 1, none⟩ = some (.int .i64 yl) ∧ w'.cell? ⟨g, k * 4 + 2, none⟩ = some (.int .i16 ys) ∧ w'.cell? ⟨g, k * 4 + 3, none⟩ = some (.int .u8 ye)) (by kernel_rfl) (hwd ▸ hS0) (fun hH => ?_)
        rw [hwd] at hH ⊢
        refine wpAnyH_take (i := 0) (v := (.pointer (some ⟨kb, 0, none⟩))) rfl (by kernel_rfl) (by kernel_rfl) (by kernel_rfl) (fun _ _ _ h => h) (Or.inl ⟨by rfl, by intro v hSw; clear hSw; go_simp⟩) hH ?_
        refine wpAnyH_take (i := 1) (v := (.pointer (some ⟨kb, 0, none⟩))) rfl (by kernel_rfl) (by kernel_rfl) (by kernel_rfl) (fun _ _ _ h => h) (Or.inl ⟨by rfl, by intro v hSw; clear hSw; go_simp⟩) hH ?_
        refine wpAnyH_take (i := 2) (v := (.pointer (some ⟨kb, 0, none⟩))) rfl (by kernel_rfl) (by kernel_rfl) (by kernel_rfl) (fun _ _ _ h => h) (Or.inl ⟨by rfl, by intro v hSw; clear hSw; go_simp⟩) hH ?_
        refine wpAnyH_take (i := 3) (v := (.slice (some ⟨g, 0, none⟩) (rs.length + 1) c3)) rfl (by kernel_rfl) (by kernel_rfl) (by kernel_rfl) (fun _ _ _ h => h) (Or.inl ⟨by rfl, by intro v hSw; have s0 : v.cell? ⟨kb, 0, none⟩ = some (.slice (some ⟨g, 0, none⟩) (rs.length + 1) c3) := row_cell hSw.1 0; clear hSw; go_simp⟩) hH ?_
        refine wpAnyH_take (i := 4) (v := (.int .i64 (((k + 1 : Nat)) : Int))) rfl (by kernel_rfl) (by kernel_rfl) (by kernel_rfl) (fun _ _ _ h => h) (Or.inl ⟨by rfl, by intro v hSw; clear hSw; go_simp⟩) hH ?_
        refine wpAnyH_take (i := 5) (v := (.pointer (some ⟨kb, 0, none⟩))) rfl (by kernel_rfl) (by kernel_rfl) (by kernel_rfl) (fun _ _ _ h => h) (Or.inl ⟨by rfl, by intro v hSw; clear hSw; go_simp⟩) hH ?_
        refine wpAnyH_take (i := 6) (v := (.pointer (some ⟨kb, 0, none⟩))) rfl (by kernel_rfl) (by kernel_rfl) (by kernel_rfl) (fun _ _ _ h => h) (Or.inl ⟨by rfl, by intro v hSw; clear hSw; go_simp⟩) hH ?_
        refine wpAnyH_take (i := 7) (v := (.pointer (some ⟨kb, 0, none⟩))) rfl (by kernel_rfl) (by kernel_rfl) (by kernel_rfl) (fun _ _ _ h => h) (Or.inl ⟨by rfl, by intro v hSw; clear hSw; go_simp⟩) hH ?_
        refine wpAnyH_take (i := 8) (v := (.slice (some ⟨g, 0, none⟩) (rs.length + 1) c3)) rfl (by kernel_rfl) (by kernel_rfl) (by kernel_rfl) (fun _ _ _ h => h) (Or.inl ⟨by rfl, by intro v hSw; have s0 : v.cell? ⟨kb, 0, none⟩ = some (.slice (some ⟨g, 0, none⟩) (rs.length + 1) c3) := row_cell hSw.1 0; clear hSw; go_simp⟩) hH ?_
        refine wpAnyH_take (i := 9) (v := (.int .i64 (((k + 1 : Nat)) : Int))) rfl (by kernel_rfl) (by kernel_rfl) (by kernel_rfl) (fun _ _ _ h => h) (Or.inl ⟨by rfl, by intro v hSw; clear hSw; go_simp⟩) hH ?_
        refine wpAnyH_take (i := 10) (v := (.int .i64 (k : Int))) rfl (by kernel_rfl) (by kernel_rfl) (by kernel_rfl) (fun _ _ _ h => h) (Or.inl ⟨by rfl, by intro v hSw; clear hSw; go_simp; first | done | (rw [IntWalk.i64_in _ ⟨by omega, by omega⟩]; first | done | (congr 2; omega))⟩) hH ?_
        refine wpAnyH_take (i := 11) (v := (.pointer (some ⟨g, k * 4, none⟩))) rfl (by kernel_rfl) (by kernel_rfl) (by kernel_rfl) (fun _ _ _ h => h) (Or.inl ⟨by rfl, by intro v hSw; clear hSw; go_simp⟩) hH ?_
        refine wpAnyH_take (i := 12) (v := (.agg #[.int .i32 (yp : Int), .int .i64 yl, .int .i16 ys, .int .u8 ye])) rfl (by kernel_rfl) (by kernel_rfl) (by kernel_rfl) (fun _ _ _ h => h) (Or.inl ⟨by rfl, by intro v hSw; have t0 := hSw.2.1; have t1 := hSw.2.2.1; have t2 := hSw.2.2.2.1; have t3 := hSw.2.2.2.2; clear hSw; go_simp⟩) hH ?_
        refine wpAnyH_take (i := 13) (v := (.pointer (some ⟨g, (k + 1) * 4, none⟩))) rfl (by kernel_rfl) (by kernel_rfl) (by kernel_rfl) (fun _ _ _ h => h) (Or.inl ⟨by rfl, by intro v hSw; clear hSw; go_simp⟩) hH ?_
        refine wpAnyH_ready (rs := [14]) (by kernel_rfl) (by simp) ?_
        refine AllReadyH.cons rfl (fun K hK => ?_) AllReadyH.nil
        have c0 := HF.out.1.1
        have c1 := HF.out.1.2.1
        have c2 := HF.out.1.2.2.1
        have c3' := HF.out.1.2.2.2
        have z0 := HF.out.2.1.1
        have z1 := HF.out.2.1.2.1
        have z2 := HF.out.2.1.2.2.1
        have z3 := HF.out.2.1.2.2.2
        clear hH hS0
        go_simp
        have HF2 := show Hid (_ ∧ _) from HF.out.2.2
        clear HF c0 c1 c2 c3' z0 z1 z2 z3
        obtain ⟨t0, t1, t2, t3⟩ := HF2.out.1.row k (by rw [shiftL_length _ _ _ (by omega)]; omega)
        rw [hsame] at t0 t1 t2 t3
        have hkb6 := HF2.out.1.1
        rw [shiftL_length _ _ _ (by omega)] at hkb6
        have hfr : Frm B 121 155 wd _ := Frm.grown (Frm.refl B 121 155 wd) (Nat.le_trans hBw HS.out.2.below.size) HF2.out.2 (fun g' hg' => by
          simp only [Option.some.injEq] at hg'
          subst hg'
          obtain ⟨cur, hcur⟩ := own_obj HS.out.1.2
          exact ⟨(own_lt HS.out.1.2).1, cur, _, _, hcur, .inr rfl⟩)
        have HK6 := show Hid (_ ∧ _ ∧ _) from And.intro HF2.out.1 (And.intro (HS.out.2.trans hfr) ((HF2.out.2.block w.heap.size (heap_lt hxb') (by simp only [ne_eq, Option.some.injEq]; omega)).trans hxb'))
        clear hfr HF2
        refine hK.out _ _ ⟨hkb6, t0, t1, t2, t3⟩ (fun hH => ?_)
        clear hK K hH hkb6 t0 t1 t2 t3 hsame HS hxb' hb0
        refine wpAnyH_done (by kernel_rfl) ?_ _
        generalize ((((wd.setCell ⟨g, (k + 1) * 4, none⟩ (.int .i32 (yp : Int))).setCell ⟨g, (k + 1) * 4 + 1, none⟩ (.int .i64 yl)).setCell ⟨g, (k + 1) * 4 + 2, none⟩ (.int .i16 ys)).setCell ⟨g, (k + 1) * 4 + 3, none⟩ (.int .u8 ye)) = w7 at HK6 ⊢
        go_wp2
        go_roundw
        case rel => exact ⟨k, by omega, by omega, by go_num, HK6.out.1, HK6.out.2.1, HK6.out.2.2⟩
        case measure => simp [intOf]
      · have hjj : j = at' := by omega
        subst hjj
        have hnl : ¬ ((j : Int) < (j : Int)) := by omega
        have hml : j < (shiftL rs ⟨xp, xl, xs, xe⟩ j).length := by omega
        have HS := show Hid (_ ∧ _) from And.intro hGr.drew hFr.drew
        have hxb' := show wr.drew.heap[w.heap.size]? = _ from hxb
        clear hGr hFr hxb
        go_wp2
        have hji : (j : Int) < (rs.length : Int) + 1 := by omega
        have hj0 : (0 : Int) ≤ (j : Int) := by omega
        obtain ⟨wd, hwd⟩ : ∃ wd, wr.drew = wd := ⟨_, rfl⟩
        rw [hwd] at HS hxb'
        have HF := show Hid _ from GAt.fill (w := wd) HS.out.1 j hml ⟨xp, xl, xs, xe⟩
        rw [shiftL_put rs ⟨xp, xl, xs, xe⟩ j hjr] at HF
        obtain ⟨y2, hy2⟩ : ∃ y2, (shiftL rs ⟨xp, xl, xs, xe⟩ j)[j] = y2 := ⟨_, rfl⟩
        rw [hy2] at HF
        obtain ⟨vp, vl, vs, ve⟩ := y2
        simp only at HF
        have hb0 := HS.out.1.1
        rw [hsl] at hb0
        clear hy2
        have hS0 : wd.heap[kb]? = some (.cells #[.slice (some ⟨g, 0, none⟩) (rs.length + 1) c3] 121 (0, 0)) ∧ wd.heap[w.heap.size]? = some (.cells #[.int .i32 (xp : Int), .int .i64 xl, .int .i16 xs, .int .u8 xe] 155 (0, 0)) := ⟨hb0, hxb'⟩
        refine wp_region_held_drew (S := fun w' : World => w'.heap[kb]? = some (.cells #[.slice (some ⟨g, 0, none⟩) (rs.length + 1) c3] 121 (0, 0)) ∧ w'.heap[w.heap.size]? = some (.cells #[.int .i32 (xp : Int), .int .i64 xl, .int .i16 xs, .int .u8 xe] 155 (0, 0))) (by kernel_rfl) (hwd ▸ hS0) (fun hH => ?_)
        rw [hwd] at hH ⊢
        refine wpAnyH_take (i := 0) (v := (.pointer (some ⟨kb, 0, none⟩))) rfl (by kernel_rfl) (by kernel_rfl) (by kernel_rfl) (fun _ _ _ h => h) (Or.inl ⟨by rfl, by intro v hSw; clear hSw; go_simp⟩) hH ?_
        refine wpAnyH_take (i := 1) (v := (.pointer (some ⟨kb, 0, none⟩))) rfl (by kernel_rfl) (by kernel_rfl) (by kernel_rfl) (fun _ _ _ h => h) (Or.inl ⟨by rfl, by intro v hSw; clear hSw; go_simp⟩) hH ?_
        refine wpAnyH_take (i := 2) (v := (.pointer (some ⟨kb, 0, none⟩))) rfl (by kernel_rfl) (by kernel_rfl) (by kernel_rfl) (fun _ _ _ h => h) (Or.inl ⟨by rfl, by intro v hSw; clear hSw; go_simp⟩) hH ?_
        refine wpAnyH_take (i := 3) (v := (.slice (some ⟨g, 0, none⟩) (rs.length + 1) c3)) rfl (by kernel_rfl) (by kernel_rfl) (by kernel_rfl) (fun _ _ _ h => h) (Or.inl ⟨by rfl, by intro v hSw; have s0 : v.cell? ⟨kb, 0, none⟩ = some (.slice (some ⟨g, 0, none⟩) (rs.length + 1) c3) := row_cell hSw.1 0; clear hSw; go_simp⟩) hH ?_
        refine wpAnyH_take (i := 4) (v := (.int .i64 (j : Int))) rfl (by kernel_rfl) (by kernel_rfl) (by kernel_rfl) (fun _ _ _ h => h) (Or.inl ⟨by rfl, by intro v hSw; clear hSw; go_simp⟩) hH ?_
        refine wpAnyH_take (i := 5) (v := (.agg #[.int .i32 (xp : Int), .int .i64 xl, .int .i16 xs, .int .u8 xe])) rfl (by kernel_rfl) (by kernel_rfl) (by kernel_rfl) (fun _ _ _ h => h) (Or.inl ⟨by rfl, by intro v hSw; have s0 : v.cell? ⟨w.heap.size, 0, none⟩ = some (.int .i32 (xp : Int)) := row_cell hSw.2 0; have s1 : v.cell? ⟨w.heap.size, 1, none⟩ = some (.int .i64 xl) := row_cell hSw.2 1; have s2 : v.cell? ⟨w.heap.size, 2, none⟩ = some (.int .i16 xs) := row_cell hSw.2 2; have s3 : v.cell? ⟨w.heap.size, 3, none⟩ = some (.int .u8 xe) := row_cell hSw.2 3; clear hSw; go_simp⟩) hH ?_
        refine wpAnyH_take (i := 6) (v := (.pointer (some ⟨g, j * 4, none⟩))) rfl (by kernel_rfl) (by kernel_rfl) (by kernel_rfl) (fun _ _ _ h => h) (Or.inl ⟨by rfl, by intro v hSw; clear hSw; go_simp⟩) hH ?_
        refine wpAnyH_ready (rs := [7]) (by kernel_rfl) (by simp) ?_
        refine AllReadyH.cons rfl (fun K hK => ?_) AllReadyH.nil
        have c0 := HF.out.1.1
        have c1 := HF.out.1.2.1
        have c2 := HF.out.1.2.2.1
        have c3' := HF.out.1.2.2.2
        have z0 := HF.out.2.1.1
        have z1 := HF.out.2.1.2.1
        have z2 := HF.out.2.1.2.2.1
        have z3 := HF.out.2.1.2.2.2
        clear hH hS0
        go_simp
        have HF2 := show Hid (_ ∧ _) from HF.out.2.2
        clear HF c0 c1 c2 c3' z0 z1 z2 z3
        have hkb6 := HF2.out.1.1
        have hpl : (rs.take j ++ ⟨xp, xl, xs, xe⟩ :: rs.drop j : List GV).length = rs.length + 1 := by simp; omega
        rw [hpl] at hkb6
        have hfr : Frm B 121 155 wd _ := Frm.grown (Frm.refl B 121 155 wd) (Nat.le_trans hBw HS.out.2.below.size) HF2.out.2 (fun g' hg' => by
          simp only [Option.some.injEq] at hg'
          subst hg'
          obtain ⟨cur, hcur⟩ := own_obj HS.out.1.2
          exact ⟨(own_lt HS.out.1.2).1, cur, _, _, hcur, .inr rfl⟩)
        have hxb6 := (HF2.out.2.block w.heap.size (heap_lt hxb') (by simp only [ne_eq, Option.some.injEq]; omega)).trans hxb'
        have HK6 := show Hid (_ ∧ _) from And.intro HF2.out.1 (HS.out.2.trans hfr)
        clear hfr HF2
        refine hK.out _ _ ⟨hkb6, hxb6⟩ (fun hH => ?_)
        clear hK K hH hkb6 hxb6 HS hxb' hb0 hpl
        refine wpAnyH_done (by kernel_rfl) ?_ _
        go_wp2
        go_end0
        exact ⟨rfl, ⟨_, _, HK6.out.1⟩, HK6.out.2⟩
  · clear hH
    go_simp
    refine hK.out _ _ heb2 (fun hH => ?_)
    clear hK K
    refine wpAnyH_ready (rs := [4]) (by kernel_rfl) (by simp) ?_
    refine AllReadyH.cons rfl (fun K hK => ?_) AllReadyH.nil
    clear hH
    go_simp
    refine hK.out _ _ heb2 (fun hH => ?_)
    clear hK K
    refine wpAnyH_ready (rs := [7]) (by kernel_rfl) (by simp) ?_
    refine AllReadyH.cons rfl (fun K hK => ?_) AllReadyH.nil
    refine ite_of rfl ?_
    refine wp_append_two _ (.tmp 11) (.tmp 13) 119 rfl B 155 i0 (.agg #[.int .i32 0, .int .i64 0, .int .i16 0, .int .u8 0]) 4 24 Tryd.underlying119 hi hz0 hz1 hz2 rfl (by decide) (.slice a rs.length c) rs.length (gCells rs) rfl (HK.out.1.2.alloc _) ⟨wd.heap.size, 0, none⟩ 1 1 (gCells1 ⟨xp, xl, xs, xe⟩) rfl rfl (by have := cell_four_new wd (.int .i32 (xp : Int)) (.int .i64 xl) (.int .i16 xs) (.int .u8 xe) 155; simpa [gCells1] using this) (g_oneCell _) (by unfold maxLen; omega) (by omega) (by have := HK.out.2.below.size; simp; omega) (by decide) ?_
    intro v3 w5 hown3 hfr3
    obtain ⟨a3, c3, rfl⟩ := own_shape hown3
    have hgr := grown_either hfr3
    have HA := show Hid (_ ∧ _ ∧ _) from GAt.appended hB (HK.out.1.alloc (.cells #[.int .i32 (xp : Int), .int .i64 xl, .int .i16 xs, .int .u8 xe] 155)) hown3 hgr
    have HFr := show Hid _ from (HK.out.2.alloc hBw (.cells #[.int .i32 (xp : Int), .int .i64 xl, .int .i16 xs, .int .u8 xe] 155)).trans HA.out.2.2
    have hgb : ∀ g, (Value.slice a3 (rs.length + 1) c3).ownBlock = some g → g ≠ w.heap.size := by
      intro g hg
      rcases hfr3 with h | h
      · have := h.2
        rw [hg] at this
        simp only [World.size_alloc, Option.some.injEq] at this
        have := heap_lt heb
        omega
      · have := h.2.1
        rw [hg] at this
        have := hgl0 g this.symm
        omega
    have heb5 : w5.heap[w.heap.size]? = some (.cells #[.int .i32 (xp : Int), .int .i64 xl, .int .i16 xs, .int .u8 xe] 155 (0, 0)) := (hgr.block _ (heap_lt heb2) (fun e => by have := hgl0 _ e.symm; omega)).trans heb2
    refine hK.out _ _ heb5 (fun hH => ?_)
    clear hK K hown3 hfr3 hgr HK heb heb2 hkc hkc2
    refine wpAnyH_take (i := 8) (v := (.pointer (some ⟨kb, 0, none⟩))) rfl (by kernel_rfl) (by kernel_rfl) (by kernel_rfl) (fun _ _ _ h => h) (Or.inl ⟨by rfl, by intro v hSw; clear hSw; go_simp⟩) hH ?_
    refine wpAnyH_take (i := 9) (v := (.pointer (some ⟨kb, 0, none⟩))) rfl (by kernel_rfl) (by kernel_rfl) (by kernel_rfl) (fun _ _ _ h => h) (Or.inl ⟨by rfl, by intro v hSw; clear hSw; go_simp⟩) hH ?_
    refine wpAnyH_ready (rs := [10]) (by kernel_rfl) (by simp) ?_
    refine AllReadyH.cons rfl (fun K hK => ?_) AllReadyH.nil
    clear hH
    have b0 : w5.cell? ⟨kb, 0, none⟩ = some (.slice a rs.length c) := row_cell HA.out.1 0
    have z0 : w5.frozen? ⟨kb, 0, none⟩ = false := row_frozen HA.out.1 0
    go_simp
    have heb6 := (Below.heap_setCell w5 ⟨kb, 0, none⟩ (.slice a3 (rs.length + 1) c3) w.heap.size (by simp only; omega)).trans heb5
    refine hK.out _ _ heb6 (fun hH => ?_)
    clear hK K hH b0 z0 heb5
    refine wpAnyH_done (by kernel_rfl) ?_ _
    have HK2 := show Hid (_ ∧ _) from And.intro HA.out.2.1 HFr.out
    clear HA HFr
    generalize w5.setCell ⟨kb, 0, none⟩ (.slice a3 (rs.length + 1) c3) = w3 at HK2 heb6 ⊢
    have hkc3 := HK2.out.1.cell
    rw [List.length_append] at hkc3
    have hkc3' : w3.cell? ⟨kb, 0, none⟩ = some (.slice a3 (rs.length + 1) c3) := hkc3
    clear hkc3
    go_wp2
    have H0 := show Hid (_ ∧ _ ∧ _) from And.intro HK2.out.1 (And.intro HK2.out.2 heb6)
    clear HK2 heb6 hkc3'
    rw [← shiftL_end] at H0
    go_loopw [6] (fun i wr => ∃ j : Nat, at' ≤ j ∧ j ≤ rs.length ∧ i = .int .i64 (j : Int) ∧ GAt B kb a3 c3 (shiftL rs ⟨xp, xl, xs, xe⟩ j) wr ∧ Frm B 121 155 w wr ∧ wr.heap[w.heap.size]? = some (.cells #[.int .i32 (xp : Int), .int .i64 xl, .int .i16 xs, .int .u8 xe] 155 (0, 0))) (fun i _ => (intOf i).toNat)
    case atStart => exact ⟨rs.length, hat, Nat.le_refl _, by go_num, H0.out.1, H0.out.2.1, H0.out.2.2⟩
    case round =>
      obtain ⟨j, hja, hjr, rfl, hGr, hFr, hxb⟩ := hrel
      clear H0
      have hsl := shiftL_length rs ⟨xp, xl, xs, xe⟩ j hjr
      rcases own_addr hGr.2 with ⟨_, h0⟩ | ⟨g, rfl⟩
      · omega
      have hgne := hgb g rfl
      have hgG : g < wr.heap.size := (own_lt hGr.2).2
      by_cases hj : at' < j
      · obtain ⟨k, rfl⟩ : ∃ k, j = k + 1 := ⟨j - 1, by omega⟩
        have hji : (at' : Int) < (k : Int) + 1 := by omega
        have hkl2 : k < (shiftL rs ⟨xp, xl, xs, xe⟩ (k + 1)).length := by omega
        have hkl3 : k + 1 < (shiftL rs ⟨xp, xl, xs, xe⟩ (k + 1)).length := by omega
        have hst := shiftL_step rs ⟨xp, xl, xs, xe⟩ k hjr hkl2
        have hsame := shiftL_same rs ⟨xp, xl, xs, xe⟩ k hjr
        have HS := show Hid (_ ∧ _) from And.intro hGr.drew hFr.drew
        have hxb' := show wr.drew.heap[w.heap.size]? = _ from hxb
        clear hGr hFr hxb
        go_wp2
        have hki : (k : Int) < (rs.length : Int) := by omega
        have hki1 : (k : Int) + 1 < (rs.length : Int) + 1 := by omega
        have hki2 : (k : Int) < (rs.length : Int) + 1 := by omega
        have hk0 : (0 : Int) ≤ (k : Int) := by omega
        have hk1 : (0 : Int) ≤ (k : Int) + 1 := by omega
        obtain ⟨wd, hwd⟩ : ∃ wd, wr.drew = wd := ⟨_, rfl⟩
        rw [hwd] at HS hxb'
        obtain ⟨r0, r1, r2, r3⟩ := HS.out.1.row k hkl2
        have HF := show Hid _ from GAt.fill (w := wd) HS.out.1 (k + 1) hkl3 ((shiftL rs ⟨xp, xl, xs, xe⟩ (k + 1))[k])
        rw [hst] at HF
        obtain ⟨y, hy⟩ : ∃ y, (shiftL rs ⟨xp, xl, xs, xe⟩ (k + 1))[k] = y := ⟨_, rfl⟩
        rw [hy] at r0 r1 r2 r3 HF hsame
        obtain ⟨y2, hy2⟩ : ∃ y2, (shiftL rs ⟨xp, xl, xs, xe⟩ (k + 1))[k + 1] = y2 := ⟨_, rfl⟩
        rw [hy2] at HF
        obtain ⟨yp, yl, ys, ye⟩ := y
        obtain ⟨vp, vl, vs, ve⟩ := y2
        simp only at r0 r1 r2 r3 HF
        have hb0 := HS.out.1.1
        rw [hsl] at hb0
        clear hy hy2 hst
        have hS0 : wd.heap[kb]? = some (.cells #[.slice (some ⟨g, 0, none⟩) (rs.length + 1) c3] 121 (0, 0)) ∧ wd.cell? ⟨g, k * 4, none⟩ = some (.int .i32 (yp : Int)) ∧ wd.cell? ⟨g, k * 4 + 1, none⟩ = some (.int .i64 yl) ∧ wd.cell? ⟨g, k * 4 + 2, none⟩ = some (.int .i16 ys) ∧ wd.cell? ⟨g, k * 4 + 3, none⟩ = some (.int .u8 ye) := ⟨hb0, r0, r1, r2, r3⟩
        clear r0 r1 r2 r3
        refine wp_region_held_drew (S := fun w' : World => w'.heap[kb]? = some (.cells #[.slice (some ⟨g, 0, none⟩) (rs.length + 1) c3] 121 (0, 0)) ∧ w'.cell? ⟨g, k * 4, none⟩ = some (.int .i32 (yp : Int)) ∧ w'.cell? ⟨g, k * 4 + 1, none⟩ = some (.int .i64 yl) ∧ w'.cell? ⟨g, k * 4 + 2, none⟩ = some (.int .i16 ys) ∧ w'.cell? ⟨g, k * 4 + 3, none⟩ = some (.int .u8 ye)) (by kernel_rfl) (hwd ▸ hS0) (fun hH => ?_)
        rw [hwd] at hH ⊢
        refine wpAnyH_take (i := 0) (v := (.pointer (some ⟨kb, 0, none⟩))) rfl (by kernel_rfl) (by kernel_rfl) (by kernel_rfl) (fun _ _ _ h => h) (Or.inl ⟨by rfl, by intro v hSw; clear hSw; go_simp⟩) hH ?_
        refine wpAnyH_take (i := 1) (v := (.pointer (some ⟨kb, 0, none⟩))) rfl (by kernel_rfl) (by kernel_rfl) (by kernel_rfl) (fun _ _ _ h => h) (Or.inl ⟨by rfl, by intro v hSw; clear hSw; go_simp⟩) hH ?_
        refine wpAnyH_take (i := 2) (v := (.pointer (some ⟨kb, 0, none⟩))) rfl (by kernel_rfl) (by kernel_rfl) (by kernel_rfl) (fun _ _ _ h => h) (Or.inl ⟨by rfl, by intro v hSw; clear hSw; go_simp⟩) hH ?_
        refine wpAnyH_take (i := 3) (v := (.slice (some ⟨g, 0, none⟩) (rs.length + 1) c3)) rfl (by kernel_rfl) (by kernel_rfl) (by kernel_rfl) (fun _ _ _ h => h) (Or.inl ⟨by rfl, by intro v hSw; have s0 : v.cell? ⟨kb, 0, none⟩ = some (.slice (some ⟨g, 0, none⟩) (rs.length + 1) c3) := row_cell hSw.1 0; clear hSw; go_simp⟩) hH ?_
        refine wpAnyH_take (i := 4) (v := (.int .i64 (((k + 1 : Nat)) : Int))) rfl (by kernel_rfl) (by kernel_rfl) (by kernel_rfl) (fun _ _ _ h => h) (Or.inl ⟨by rfl, by intro v hSw; clear hSw; go_simp⟩) hH ?_
        refine wpAnyH_take (i := 5) (v := (.pointer (some ⟨kb, 0, none⟩))) rfl (by kernel_rfl) (by kernel_rfl) (by kernel_rfl) (fun _ _ _ h => h) (Or.inl ⟨by rfl, by intro v hSw; clear hSw; go_simp⟩) hH ?_
        refine wpAnyH_take (i := 6) (v := (.pointer (some ⟨kb, 0, none⟩))) rfl (by kernel_rfl) (by kernel_rfl) (by kernel_rfl) (fun _ _ _ h => h) (Or.inl ⟨by rfl, by intro v hSw; clear hSw; go_simp⟩) hH ?_
        refine wpAnyH_take (i := 7) (v := (.pointer (some ⟨kb, 0, none⟩))) rfl (by kernel_rfl) (by kernel_rfl) (by kernel_rfl) (fun _ _ _ h => h) (Or.inl ⟨by rfl, by intro v hSw; clear hSw; go_simp⟩) hH ?_
        refine wpAnyH_take (i := 8) (v := (.slice (some ⟨g, 0, none⟩) (rs.length + 1) c3)) rfl (by kernel_rfl) (by kernel_rfl) (by kernel_rfl) (fun _ _ _ h => h) (Or.inl ⟨by rfl, by intro v hSw; have s0 : v.cell? ⟨kb, 0, none⟩ = some (.slice (some ⟨g, 0, none⟩) (rs.length + 1) c3) := row_cell hSw.1 0; clear hSw; go_simp⟩) hH ?_
        refine wpAnyH_take (i := 9) (v := (.int .i64 (((k + 1 : Nat)) : Int))) rfl (by kernel_rfl) (by kernel_rfl) (by kernel_rfl) (fun _ _ _ h => h) (Or.inl ⟨by rfl, by intro v hSw; clear hSw; go_simp⟩) hH ?_
        refine wpAnyH_take (i := 10) (v := (.int .i64 (k : Int))) rfl (by kernel_rfl) (by kernel_rfl) (by kernel_rfl) (fun _ _ _ h => h) (Or.inl ⟨by rfl, by intro v hSw; clear hSw; go_simp; first | done | (rw [IntWalk.i64_in _ ⟨by omega, by omega⟩]; first | done | (congr 2; omega))⟩) hH ?_
        refine wpAnyH_take (i := 11) (v := (.pointer (some ⟨g, k * 4, none⟩))) rfl (by kernel_rfl) (by kernel_rfl) (by kernel_rfl) (fun _ _ _ h => h) (Or.inl ⟨by rfl, by intro v hSw; clear hSw; go_simp⟩) hH ?_
        refine wpAnyH_take (i := 12) (v := (.agg #[.int .i32 (yp : Int), .int .i64 yl, .int .i16 ys, .int .u8 ye])) rfl (by kernel_rfl) (by kernel_rfl) (by kernel_rfl) (fun _ _ _ h => h) (Or.inl ⟨by rfl, by intro v hSw; have t0 := hSw.2.1; have t1 := hSw.2.2.1; have t2 := hSw.2.2.2.1; have t3 := hSw.2.2.2.2; clear hSw; go_simp⟩) hH ?_
        refine wpAnyH_take (i := 13) (v := (.pointer (some ⟨g, (k + 1) * 4, none⟩))) rfl (by kernel_rfl) (by kernel_rfl) (by kernel_rfl) (fun _ _ _ h => h) (Or.inl ⟨by rfl, by intro v hSw; clear hSw; go_simp⟩) hH ?_
        refine wpAnyH_ready (rs := [14]) (by kernel_rfl) (by simp) ?_
        refine AllReadyH.cons rfl (fun K hK => ?_) AllReadyH.nil
        have c0 := HF.out.1.1
        have c1 := HF.out.1.2.1
        have c2 := HF.out.1.2.2.1
        have c3' := HF.out.1.2.2.2
        have z0 := HF.out.2.1.1
        have z1 := HF.out.2.1.2.1
        have z2 := HF.out.2.1.2.2.1
        have z3 := HF.out.2.1.2.2.2
        clear hH hS0
        go_simp
        have HF2 := show Hid (_ ∧ _) from HF.out.2.2
        clear HF c0 c1 c2 c3' z0 z1 z2 z3
        obtain ⟨t0, t1, t2, t3⟩ := HF2.out.1.row k (by rw [shiftL_length _ _ _ (by omega)]; omega)
        rw [hsame] at t0 t1 t2 t3
        have hkb6 := HF2.out.1.1
        rw [shiftL_length _ _ _ (by omega)] at hkb6
        have hfr : Frm B 121 155 wd _ := Frm.grown (Frm.refl B 121 155 wd) (Nat.le_trans hBw HS.out.2.below.size) HF2.out.2 (fun g' hg' => by
          simp only [Option.some.injEq] at hg'
          subst hg'
          obtain ⟨cur, hcur⟩ := own_obj HS.out.1.2
          exact ⟨(own_lt HS.out.1.2).1, cur, _, _, hcur, .inr rfl⟩)
        have HK6 := show Hid (_ ∧ _ ∧ _) from And.intro HF2.out.1 (And.intro (HS.out.2.trans hfr) ((HF2.out.2.block w.heap.size (heap_lt hxb') (by simp only [ne_eq, Option.some.injEq]; omega)).trans hxb'))
        clear hfr HF2
        refine hK.out _ _ ⟨hkb6, t0, t1, t2, t3⟩ (fun hH => ?_)
        clear hK K hH hkb6 t0 t1 t2 t3 hsame HS hxb' hb0
        refine wpAnyH_done (by kernel_rfl) ?_ _
        generalize ((((wd.setCell ⟨g, (k + 1) * 4, none⟩ (.int .i32 (yp : Int))).setCell ⟨g, (k + 1) * 4 + 1, none⟩ (.int .i64 yl)).setCell ⟨g, (k + 1) * 4 + 2, none⟩ (.int .i16 ys)).setCell ⟨g, (k + 1) * 4 + 3, none⟩ (.int .u8 ye)) = w7 at HK6 ⊢
        go_wp2
        go_roundw
        case rel => exact ⟨k, by omega, by omega, by go_num, HK6.out.1, HK6.out.2.1, HK6.out.2.2⟩
        case measure => simp [intOf]
      · have hjj : j = at' := by omega
        subst hjj
        have hnl : ¬ ((j : Int) < (j : Int)) := by omega
        have hml : j < (shiftL rs ⟨xp, xl, xs, xe⟩ j).length := by omega
        have HS := show Hid (_ ∧ _) from And.intro hGr.drew hFr.drew
        have hxb' := show wr.drew.heap[w.heap.size]? = _ from hxb
        clear hGr hFr hxb
        go_wp2
        have hji : (j : Int) < (rs.length : Int) + 1 := by omega
        have hj0 : (0 : Int) ≤ (j : Int) := by omega
        obtain ⟨wd, hwd⟩ : ∃ wd, wr.drew = wd := ⟨_, rfl⟩
        rw [hwd] at HS hxb'
        have HF := show Hid _ from GAt.fill (w := wd) HS.out.1 j hml ⟨xp, xl, xs, xe⟩
        rw [shiftL_put rs ⟨xp, xl, xs, xe⟩ j hjr] at HF
        obtain ⟨y2, hy2⟩ : ∃ y2, (shiftL rs ⟨xp, xl, xs, xe⟩ j)[j] = y2 := ⟨_, rfl⟩
        rw [hy2] at HF
        obtain ⟨vp, vl, vs, ve⟩ := y2
        simp only at HF
        have hb0 := HS.out.1.1
        rw [hsl] at hb0
        clear hy2
        have hS0 : wd.heap[kb]? = some (.cells #[.slice (some ⟨g, 0, none⟩) (rs.length + 1) c3] 121 (0, 0)) ∧ wd.heap[w.heap.size]? = some (.cells #[.int .i32 (xp : Int), .int .i64 xl, .int .i16 xs, .int .u8 xe] 155 (0, 0)) := ⟨hb0, hxb'⟩
        refine wp_region_held_drew (S := fun w' : World => w'.heap[kb]? = some (.cells #[.slice (some ⟨g, 0, none⟩) (rs.length + 1) c3] 121 (0, 0)) ∧ w'.heap[w.heap.size]? = some (.cells #[.int .i32 (xp : Int), .int .i64 xl, .int .i16 xs, .int .u8 xe] 155 (0, 0))) (by kernel_rfl) (hwd ▸ hS0) (fun hH => ?_)
        rw [hwd] at hH ⊢
        refine wpAnyH_take (i := 0) (v := (.pointer (some ⟨kb, 0, none⟩))) rfl (by kernel_rfl) (by kernel_rfl) (by kernel_rfl) (fun _ _ _ h => h) (Or.inl ⟨by rfl, by intro v hSw; clear hSw; go_simp⟩) hH ?_
        refine wpAnyH_take (i := 1) (v := (.pointer (some ⟨kb, 0, none⟩))) rfl (by kernel_rfl) (by kernel_rfl) (by kernel_rfl) (fun _ _ _ h => h) (Or.inl ⟨by rfl, by intro v hSw; clear hSw; go_simp⟩) hH ?_
        refine wpAnyH_take (i := 2) (v := (.pointer (some ⟨kb, 0, none⟩))) rfl (by kernel_rfl) (by kernel_rfl) (by kernel_rfl) (fun _ _ _ h => h) (Or.inl ⟨by rfl, by intro v hSw; clear hSw; go_simp⟩) hH ?_
        refine wpAnyH_take (i := 3) (v := (.slice (some ⟨g, 0, none⟩) (rs.length + 1) c3)) rfl (by kernel_rfl) (by kernel_rfl) (by kernel_rfl) (fun _ _ _ h => h) (Or.inl ⟨by rfl, by intro v hSw; have s0 : v.cell? ⟨kb, 0, none⟩ = some (.slice (some ⟨g, 0, none⟩) (rs.length + 1) c3) := row_cell hSw.1 0; clear hSw; go_simp⟩) hH ?_
        refine wpAnyH_take (i := 4) (v := (.int .i64 (j : Int))) rfl (by kernel_rfl) (by kernel_rfl) (by kernel_rfl) (fun _ _ _ h => h) (Or.inl ⟨by rfl, by intro v hSw; clear hSw; go_simp⟩) hH ?_
        refine wpAnyH_take (i := 5) (v := (.agg #[.int .i32 (xp : Int), .int .i64 xl, .int .i16 xs, .int .u8 xe])) rfl (by kernel_rfl) (by kernel_rfl) (by kernel_rfl) (fun _ _ _ h => h) (Or.inl ⟨by rfl, by intro v hSw; have s0 : v.cell? ⟨w.heap.size, 0, none⟩ = some (.int .i32 (xp : Int)) := row_cell hSw.2 0; have s1 : v.cell? ⟨w.heap.size, 1, none⟩ = some (.int .i64 xl) := row_cell hSw.2 1; have s2 : v.cell? ⟨w.heap.size, 2, none⟩ = some (.int .i16 xs) := row_cell hSw.2 2; have s3 : v.cell? ⟨w.heap.size, 3, none⟩ = some (.int .u8 xe) := row_cell hSw.2 3; clear hSw; go_simp⟩) hH ?_
        refine wpAnyH_take (i := 6) (v := (.pointer (some ⟨g, j * 4, none⟩))) rfl (by kernel_rfl) (by kernel_rfl) (by kernel_rfl) (fun _ _ _ h => h) (Or.inl ⟨by rfl, by intro v hSw; clear hSw; go_simp⟩) hH ?_
        refine wpAnyH_ready (rs := [7]) (by kernel_rfl) (by simp) ?_
        refine AllReadyH.cons rfl (fun K hK => ?_) AllReadyH.nil
        have c0 := HF.out.1.1
        have c1 := HF.out.1.2.1
        have c2 := HF.out.1.2.2.1
        have c3' := HF.out.1.2.2.2
        have z0 := HF.out.2.1.1
        have z1 := HF.out.2.1.2.1
        have z2 := HF.out.2.1.2.2.1
        have z3 := HF.out.2.1.2.2.2
        clear hH hS0
        go_simp
        have HF2 := show Hid (_ ∧ _) from HF.out.2.2
        clear HF c0 c1 c2 c3' z0 z1 z2 z3
        have hkb6 := HF2.out.1.1
        have hpl : (rs.take j ++ ⟨xp, xl, xs, xe⟩ :: rs.drop j : List GV).length = rs.length + 1 := by simp; omega
        rw [hpl] at hkb6
        have hfr : Frm B 121 155 wd _ := Frm.grown (Frm.refl B 121 155 wd) (Nat.le_trans hBw HS.out.2.below.size) HF2.out.2 (fun g' hg' => by
          simp only [Option.some.injEq] at hg'
          subst hg'
          obtain ⟨cur, hcur⟩ := own_obj HS.out.1.2
          exact ⟨(own_lt HS.out.1.2).1, cur, _, _, hcur, .inr rfl⟩)
        have hxb6 := (HF2.out.2.block w.heap.size (heap_lt hxb') (by simp only [ne_eq, Option.some.injEq]; omega)).trans hxb'
        have HK6 := show Hid (_ ∧ _) from And.intro HF2.out.1 (HS.out.2.trans hfr)
        clear hfr HF2
        refine hK.out _ _ ⟨hkb6, hxb6⟩ (fun hH => ?_)
        clear hK K hH hkb6 hxb6 HS hxb' hb0 hpl
        refine wpAnyH_done (by kernel_rfl) ?_ _
        go_wp2
        go_end0
        exact ⟨rfl, ⟨_, _, HK6.out.1⟩, HK6.out.2⟩
end Go.Proofs.YthpknaeiaiojgaaDoor
