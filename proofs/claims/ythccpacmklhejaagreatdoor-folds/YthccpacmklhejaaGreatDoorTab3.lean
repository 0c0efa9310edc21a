/-
  groups.Table: insert.
-/
import Derived.Test.YthccpacmklhejaaGreatDoorTab2
namespace Go.Proofs.YthccpacmklhejaaGreatDoor
open Go.RowKit

set_option maxRecDepth 100000 in
set_option maxHeartbeats 4000000 in
theorem insert_any (B kb o : Nat) (t : TypeId) (cs : Array Value) (a : Option Addr) (c : Nat) (rs : List GX) (at' xp : Nat) (xl xs xe : Int) (xc : Bool) (w : World) (hB : B ≤ w.heap.size) (hlen : rs.length ≤ 1000) (hat : at' ≤ rs.length) (hG : GAt B kb o t cs a c rs w) :
    Calls Tryz.prog 123 #[.pointer (some ⟨kb, o, none⟩), .int .i64 (at' : Int), .agg #[.int .i32 (xp : Int), .int .i64 xl, .int .i16 xs, .int .u8 xe, .bool xc]] w fun en w' => en = .returned (.tuple #[]) ∧ ∃ a' c', GUpd B kb o t cs a c rs w a' c' (rs.take at' ++ ⟨⟨xp, xl, xs, xe⟩, xc⟩ :: rs.drop at') w' := by
  have hkl : kb < w.heap.size := hG.bl
  have hgl0 : ∀ g, (Value.slice a rs.length c).ownBlock = some g → g < w.heap.size := fun g hg => (own_ge hG.own g hg).2
  have hslot := hG.slot
  obtain ⟨i0, hi, hz0, hz1, hz2⟩ := info_parts Tryz.infoGrp
  have HK := show Hid _ from (hG.alloc (.cells #[.int .i32 (xp : Int), .int .i64 xl, .int .i16 xs, .int .u8 xe, .bool xc] 176)).drew
  have HKf := show Hid _ from (FrmX.refl (Xs kb a rs.length c) w).alloc (.cells #[.int .i32 (xp : Int), .int .i64 xl, .int .i16 xs, .int .u8 xe, .bool xc] 176)
  have heb : (w.alloc (.cells #[.int .i32 (xp : Int), .int .i64 xl, .int .i16 xs, .int .u8 xe, .bool xc] 176)).drew.heap[w.heap.size]? = some (.cells #[.int .i32 (xp : Int), .int .i64 xl, .int .i16 xs, .int .u8 xe, .bool xc] 176 (0, 0)) := heap_alloc_new w _
  have hsz : w.heap.size < (w.alloc (.cells #[.int .i32 (xp : Int), .int .i64 xl, .int .i16 xs, .int .u8 xe, .bool xc] 176)).drew.heap.size := heap_lt heb
  clear hG
  go_enter Tryz.func123, Tryz.ntmps123
  go_wp2
  refine wp_region_held_drew (S := fun w' : World => w'.heap[w.heap.size]? = some (.cells #[.int .i32 (xp : Int), .int .i64 xl, .int .i16 xs, .int .u8 xe, .bool xc] 176 (0, 0))) (by kernel_rfl) heb (fun hH => ?_)
  have HKf' := show Hid _ from HKf.out.drew
  clear HKf
  generalize (w.alloc (.cells #[.int .i32 (xp : Int), .int .i64 xl, .int .i16 xs, .int .u8 xe, .bool xc] 176)).drew = wd at HK HKf' heb hH hsz ⊢
  have hkc := HK.out.cell
  have hkc2 := (HK.out.alloc (.cells #[.int .i32 (xp : Int), .int .i64 xl, .int .i16 xs, .int .u8 xe, .bool xc] 176)).cell
  have heb2 : (wd.alloc (.cells #[.int .i32 (xp : Int), .int .i64 xl, .int .i16 xs, .int .u8 xe, .bool xc] 176)).heap[w.heap.size]? = some (.cells #[.int .i32 (xp : Int), .int .i64 xl, .int .i16 xs, .int .u8 xe, .bool xc] 176 (0, 0)) := (Below.heap_alloc _ _ _ (by have := heap_lt heb; omega)).trans heb
  refine wpAnyH_take (i := 0) (v := (.pointer (some ⟨kb, o, none⟩))) rfl (by kernel_rfl) (by kernel_rfl) (by kernel_rfl) (fun _ _ _ h => h) (Or.inl ⟨by rfl, by intro v hSw; clear hSw; go_simp⟩) hH ?_
  refine wpAnyH_take (i := 1) (v := (.pointer (some ⟨kb, o, none⟩))) rfl (by kernel_rfl) (by kernel_rfl) (by kernel_rfl) (fun _ _ _ h => h) (Or.inl ⟨by rfl, by intro v hSw; clear hSw; go_simp⟩) hH ?_
  refine wpAnyH_take (i := 2) (v := (.pointer (some ⟨kb, o, none⟩))) rfl (by kernel_rfl) (by kernel_rfl) (by kernel_rfl) (fun _ _ _ h => h) (Or.inl ⟨by rfl, by intro v hSw; clear hSw; go_simp⟩) hH ?_
  refine wpAnyH_take (i := 3) (v := (.pointer (some ⟨kb, o, none⟩))) rfl (by kernel_rfl) (by kernel_rfl) (by kernel_rfl) (fun _ _ _ h => h) (Or.inl ⟨by rfl, by intro v hSw; clear hSw; go_simp⟩) hH ?_
  refine wpAnyH_take (i := 5) (v := (.agg #[.int .i32 (xp : Int), .int .i64 xl, .int .i16 xs, .int .u8 xe, .bool xc])) rfl (by kernel_rfl) (by kernel_rfl) (by kernel_rfl) (fun _ _ _ h => h) (Or.inl ⟨by rfl, by intro v hSw; have s0 : v.cell? ⟨w.heap.size, 0, none⟩ = some (.int .i32 (xp : Int)) := row_cell hSw 0; have s1 : v.cell? ⟨w.heap.size, 1, none⟩ = some (.int .i64 xl) := row_cell hSw 1; have s2 : v.cell? ⟨w.heap.size, 2, none⟩ = some (.int .i16 xs) := row_cell hSw 2; have s3 : v.cell? ⟨w.heap.size, 3, none⟩ = some (.int .u8 xe) := row_cell hSw 3; have s4 : v.cell? ⟨w.heap.size, 4, none⟩ = some (.bool xc) := row_cell hSw 4; clear hSw; go_simp⟩) hH ?_
  refine wpAnyH_ready (rs := [4, 6]) (by kernel_rfl) (by simp) ?_
  refine AllReadyH.cons rfl (fun K hK => ?_) (AllReadyH.cons rfl (fun K hK => ?_) AllReadyH.nil)
  focus
    clear hH
    go_simp
    refine hK.out _ _ heb (fun hH => ?_)
    clear hK K
    refine wpAnyH_ready (rs := [6]) (by kernel_rfl) (by simp) ?_
    refine AllReadyH.cons rfl (fun K hK => ?_) AllReadyH.nil
    clear hH
    go_simp
    refine hK.out _ _ heb2 (fun hH => ?_)
    clear hK K
  rotate_left
  focus
    clear hH
    go_simp
    refine hK.out _ _ heb2 (fun hH => ?_)
    clear hK K
    refine wpAnyH_ready (rs := [4]) (by kernel_rfl) (by simp) ?_
    refine AllReadyH.cons rfl (fun K hK => ?_) AllReadyH.nil
    clear hH
    go_simp
    refine hK.out _ _ heb2 (fun hH => ?_)
    clear hK K
  all_goals
    refine wpAnyH_ready (rs := [7]) (by kernel_rfl) (by simp) ?_
    refine AllReadyH.cons rfl (fun K hK => ?_) AllReadyH.nil
    refine ite_of rfl ?_
    refine wp_append_two _ (.tmp 11) (.tmp 13) 74 rfl B 176 i0 (.agg #[.int .i32 0, .int .i64 0, .int .i16 0, .int .u8 0, .bool false]) 5 24 Tryz.underlying74 hi hz0 hz1 hz2 rfl (by decide) (.slice a rs.length c) rs.length (gCells rs) rfl (HK.out.own.alloc _) ⟨wd.heap.size, 0, none⟩ 1 1 (gCells1 ⟨⟨xp, xl, xs, xe⟩, xc⟩) rfl rfl (by have := cell_five_new wd (.int .i32 (xp : Int)) (.int .i64 xl) (.int .i16 xs) (.int .u8 xe) (.bool xc) 176; simpa [gCells1] using this) (g_oneCell _) (by unfold maxLen; omega) (by omega) (by simp; omega) (by decide) ?_
    intro v3 w5 hown3 hfr3
    obtain ⟨a3, c3, rfl⟩ := own_shape hown3
    have hgr := grown_either hfr3
    have HA := show Hid (_ ∧ _) from LAt.put_app (HK.out.alloc (.cells #[.int .i32 (xp : Int), .int .i64 xl, .int .i16 xs, .int .u8 xe, .bool xc] 176)) hown3 rfl hfr3
    have HFr := show Hid _ from HKf'.out.alloc (.cells #[.int .i32 (xp : Int), .int .i64 xl, .int .i16 xs, .int .u8 xe, .bool xc] 176)
    have hgb : ∀ g, (Value.slice a3 (rs.length + 1) c3).ownBlock = some g → g ≠ w.heap.size := by
      intro g hg
      rcases hfr3 with h | h
      · have h2 := h.2
        rw [hg] at h2
        simp only [World.size_alloc, Option.some.injEq] at h2
        omega
      · have h2 := h.2.1
        rw [hg] at h2
        have := hgl0 g h2.symm
        omega
    have heb5 : w5.heap[w.heap.size]? = some (.cells #[.int .i32 (xp : Int), .int .i64 xl, .int .i16 xs, .int .u8 xe, .bool xc] 176 (0, 0)) := (hgr.block _ (heap_lt heb2) (fun e => by have := hgl0 _ e.symm; omega)).trans heb2
    refine hK.out _ _ heb5 (fun hH => ?_)
    clear hK K hown3 hfr3 hgr HK HKf' heb heb2 hkc hkc2
    refine wpAnyH_take (i := 8) (v := (.pointer (some ⟨kb, o, none⟩))) rfl (by kernel_rfl) (by kernel_rfl) (by kernel_rfl) (fun _ _ _ h => h) (Or.inl ⟨by rfl, by intro v hSw; clear hSw; go_simp⟩) hH ?_
    refine wpAnyH_take (i := 9) (v := (.pointer (some ⟨kb, o, none⟩))) rfl (by kernel_rfl) (by kernel_rfl) (by kernel_rfl) (fun _ _ _ h => h) (Or.inl ⟨by rfl, by intro v hSw; clear hSw; go_simp⟩) hH ?_
    refine wpAnyH_ready (rs := [10]) (by kernel_rfl) (by simp) ?_
    refine AllReadyH.cons rfl (fun K hK => ?_) AllReadyH.nil
    clear hH
    have b0 : w5.cell? ⟨kb, o, none⟩ = cs[o]? := row_cell HA.out.1 o
    have b0' : w5.cell? ⟨kb, o, none⟩ = some (.slice a rs.length c) := b0.trans hslot
    clear b0
    have z0 : w5.frozen? ⟨kb, o, none⟩ = false := row_frozen HA.out.1 o
    go_simp
    have heb6 := (Below.heap_setCell w5 ⟨kb, o, none⟩ (.slice a3 (rs.length + 1) c3) w.heap.size (by simp only; omega)).trans heb5
    refine hK.out _ _ heb6 (fun hH => ?_)
    clear hK K hH b0' z0 heb5
    refine wpAnyH_done (by kernel_rfl) ?_ _
    have HUn := show Hid _ from HA.out.2.from HFr.out
    clear HA HFr
    generalize w5.setCell ⟨kb, o, none⟩ (.slice a3 (rs.length + 1) c3) = w3 at HUn heb6 ⊢
    have hec : gCells rs ++ gCells1 ⟨⟨xp, xl, xs, xe⟩, xc⟩ = gCells (rs ++ [⟨⟨xp, xl, xs, xe⟩, xc⟩]) := by rw [gCells_append]; simp [gCells]
    rw [hec] at HUn
    have hll : rs.length + 1 = (rs ++ [(⟨⟨xp, xl, xs, xe⟩, xc⟩ : GX)]).length := by simp
    have H0 := show Hid (GUpd B kb o t cs a c rs w a3 c3 (rs ++ [(⟨⟨xp, xl, xs, xe⟩, xc⟩ : GX)]) w3 ∧ w3.heap[w.heap.size]? = some (.cells #[.int .i32 (xp : Int), .int .i64 xl, .int .i16 xs, .int .u8 xe, .bool xc] 176 (0, 0))) from ⟨by unfold GUpd; rw [← hll]; exact HUn.out, heb6⟩
    have hkc3 : w3.cell? ⟨kb, o, none⟩ = some (.slice a3 (rs.length + 1) c3) := HUn.out.at'.cell
    clear HUn heb6 hec hll
    go_wp2
    clear hkc3
    rw [← shiftL_end] at H0
    go_loopw [6] (fun i wr => ∃ j : Nat, at' ≤ j ∧ j ≤ rs.length ∧ i = .int .i64 (j : Int) ∧ GUpd B kb o t cs a c rs w a3 c3 (shiftL rs ⟨⟨xp, xl, xs, xe⟩, xc⟩ j) wr ∧ wr.heap[w.heap.size]? = some (.cells #[.int .i32 (xp : Int), .int .i64 xl, .int .i16 xs, .int .u8 xe, .bool xc] 176 (0, 0))) (fun i _ => (intOf i).toNat)
    case atStart => exact ⟨rs.length, hat, Nat.le_refl _, by go_num, H0.out.1, H0.out.2⟩
    case round =>
      obtain ⟨j, hja, hjr, rfl, hGr, hxb⟩ := hrel
      clear H0
      have hsl := shiftL_length rs ⟨⟨xp, xl, xs, xe⟩, xc⟩ j hjr
      rcases own_addr hGr.at'.own with ⟨_, h0⟩ | ⟨g, rfl⟩
      · omega
      have hgne := hgb g rfl
      have hkg := hGr.at'.g_ne
      by_cases hj : at' < j
      · obtain ⟨k, rfl⟩ : ∃ k, j = k + 1 := ⟨j - 1, by omega⟩
        have hji : (at' : Int) < (k : Int) + 1 := by omega
        have hkl2 : k < (shiftL rs ⟨⟨xp, xl, xs, xe⟩, xc⟩ (k + 1)).length := by omega
        have hkl3 : k + 1 < (shiftL rs ⟨⟨xp, xl, xs, xe⟩, xc⟩ (k + 1)).length := by omega
        have hst := shiftL_step rs ⟨⟨xp, xl, xs, xe⟩, xc⟩ k hjr hkl2
        have hsame := shiftL_same rs ⟨⟨xp, xl, xs, xe⟩, xc⟩ k hjr
        have HS := show Hid _ from hGr.drew
        have hxb' := show wr.drew.heap[w.heap.size]? = _ from hxb
        clear hGr hxb
        go_wp2
        have hki : (k : Int) < (rs.length : Int) := by omega
        have hki1 : (k : Int) + 1 < (rs.length : Int) + 1 := by omega
        have hki2 : (k : Int) < (rs.length : Int) + 1 := by omega
        have hk0 : (0 : Int) ≤ (k : Int) := by omega
        have hk1 : (0 : Int) ≤ (k : Int) + 1 := by omega
        obtain ⟨wd, hwd⟩ : ∃ wd, wr.drew = wd := ⟨_, rfl⟩
        rw [hwd] at HS hxb'
        obtain ⟨r0, r1, r2, r3, r4⟩ := g_row HS.out.at' k hkl2
        have HF := show Hid _ from g_fill (w := wd) HS.out (k + 1) hkl3 ((shiftL rs ⟨⟨xp, xl, xs, xe⟩, xc⟩ (k + 1))[k]) _ _ _ _ _ rfl rfl rfl rfl rfl
        rw [hst] at HF
        obtain ⟨y, hy⟩ : ∃ y, (shiftL rs ⟨⟨xp, xl, xs, xe⟩, xc⟩ (k + 1))[k] = y := ⟨_, rfl⟩
        rw [hy] at r0 r1 r2 r3 r4 HF hsame
        obtain ⟨y2, hy2⟩ : ∃ y2, (shiftL rs ⟨⟨xp, xl, xs, xe⟩, xc⟩ (k + 1))[k + 1] = y2 := ⟨_, rfl⟩
        rw [hy2] at HF
        obtain ⟨⟨yp, yl, ys, ye⟩, yc⟩ := y
        obtain ⟨⟨vp, vl, vs, ve⟩, vc⟩ := y2
        simp only at r0 r1 r2 r3 r4 HF
        have hb0 := HS.out.at'.cell
        rw [hsl] at hb0
        clear hy hy2 hst
        have hS0 : wd.cell? ⟨kb, o, none⟩ = some (.slice (some ⟨g, 0, none⟩) (rs.length + 1) c3) ∧ wd.cell? ⟨g, k * 5, none⟩ = some (.int .i32 (yp : Int)) ∧ wd.cell? ⟨g, k * 5 + 1, none⟩ = some (.int .i64 yl) ∧ wd.cell? ⟨g, k * 5 + 2, none⟩ = some (.int .i16 ys) ∧ wd.cell? ⟨g, k * 5 + 3, none⟩ = some (.int .u8 ye) ∧ wd.cell? ⟨g, k * 5 + 4, none⟩ = some (.bool yc) := ⟨hb0, r0, r1, r2, r3, r4⟩
        clear r0 r1 r2 r3 r4
        refine wp_region_held_drew (S := fun w' : World => w'.cell? ⟨kb, o, none⟩ = some (.slice (some ⟨g, 0, none⟩) (rs.length + 1) c3) ∧ w'.cell? ⟨g, k * 5, none⟩ = some (.int .i32 (yp : Int)) ∧ w'.cell? ⟨g, k * 5 + 1, none⟩ = some (.int .i64 yl) ∧ w'.cell? ⟨g, k * 5 + 2, none⟩ = some (.int .i16 ys) ∧ w'.cell? ⟨g, k * 5 + 3, none⟩ = some (.int .u8 ye) ∧ w'.cell? ⟨g, k * 5 + 4, none⟩ = some (.bool yc)) (by kernel_rfl) (hwd ▸ hS0) (fun hH => ?_)
        rw [hwd] at hH ⊢
        refine wpAnyH_take (i := 0) (v := (.pointer (some ⟨kb, o, none⟩))) rfl (by kernel_rfl) (by kernel_rfl) (by kernel_rfl) (fun _ _ _ h => h) (Or.inl ⟨by rfl, by intro v hSw; clear hSw; go_simp⟩) hH ?_
        refine wpAnyH_take (i := 1) (v := (.pointer (some ⟨kb, o, none⟩))) rfl (by kernel_rfl) (by kernel_rfl) (by kernel_rfl) (fun _ _ _ h => h) (Or.inl ⟨by rfl, by intro v hSw; clear hSw; go_simp⟩) hH ?_
        refine wpAnyH_take (i := 2) (v := (.pointer (some ⟨kb, o, none⟩))) rfl (by kernel_rfl) (by kernel_rfl) (by kernel_rfl) (fun _ _ _ h => h) (Or.inl ⟨by rfl, by intro v hSw; clear hSw; go_simp⟩) hH ?_
        refine wpAnyH_take (i := 3) (v := (.slice (some ⟨g, 0, none⟩) (rs.length + 1) c3)) rfl (by kernel_rfl) (by kernel_rfl) (by kernel_rfl) (fun _ _ _ h => h) (Or.inl ⟨by rfl, by intro v hSw; have s0 : v.cell? ⟨kb, o, none⟩ = some (.slice (some ⟨g, 0, none⟩) (rs.length + 1) c3) := hSw.1; clear hSw; go_simp⟩) hH ?_
        refine wpAnyH_take (i := 4) (v := (.int .i64 (((k + 1 : Nat)) : Int))) rfl (by kernel_rfl) (by kernel_rfl) (by kernel_rfl) (fun _ _ _ h => h) (Or.inl ⟨by rfl, by intro v hSw; clear hSw; go_simp⟩) hH ?_
        refine wpAnyH_take (i := 5) (v := (.pointer (some ⟨kb, o, none⟩))) rfl (by kernel_rfl) (by kernel_rfl) (by kernel_rfl) (fun _ _ _ h => h) (Or.inl ⟨by rfl, by intro v hSw; clear hSw; go_simp⟩) hH ?_
        refine wpAnyH_take (i := 6) (v := (.pointer (some ⟨kb, o, none⟩))) rfl (by kernel_rfl) (by kernel_rfl) (by kernel_rfl) (fun _ _ _ h => h) (Or.inl ⟨by rfl, by intro v hSw; clear hSw; go_simp⟩) hH ?_
        refine wpAnyH_take (i := 7) (v := (.pointer (some ⟨kb, o, none⟩))) rfl (by kernel_rfl) (by kernel_rfl) (by kernel_rfl) (fun _ _ _ h => h) (Or.inl ⟨by rfl, by intro v hSw; clear hSw; go_simp⟩) hH ?_
        refine wpAnyH_take (i := 8) (v := (.slice (some ⟨g, 0, none⟩) (rs.length + 1) c3)) rfl (by kernel_rfl) (by kernel_rfl) (by kernel_rfl) (fun _ _ _ h => h) (Or.inl ⟨by rfl, by intro v hSw; have s0 : v.cell? ⟨kb, o, none⟩ = some (.slice (some ⟨g, 0, none⟩) (rs.length + 1) c3) := hSw.1; clear hSw; go_simp⟩) hH ?_
        refine wpAnyH_take (i := 9) (v := (.int .i64 (((k + 1 : Nat)) : Int))) rfl (by kernel_rfl) (by kernel_rfl) (by kernel_rfl) (fun _ _ _ h => h) (Or.inl ⟨by rfl, by intro v hSw; clear hSw; go_simp⟩) hH ?_
        refine wpAnyH_take (i := 10) (v := (.int .i64 (k : Int))) rfl (by kernel_rfl) (by kernel_rfl) (by kernel_rfl) (fun _ _ _ h => h) (Or.inl ⟨by rfl, by intro v hSw; clear hSw; go_simp; first | done | (rw [IntWalk.i64_in _ ⟨by omega, by omega⟩]; first | done | (congr 2; omega))⟩) hH ?_
        refine wpAnyH_take (i := 11) (v := (.pointer (some ⟨g, k * 5, none⟩))) rfl (by kernel_rfl) (by kernel_rfl) (by kernel_rfl) (fun _ _ _ h => h) (Or.inl ⟨by rfl, by intro v hSw; clear hSw; go_simp⟩) hH ?_
        refine wpAnyH_take (i := 12) (v := (.agg #[.int .i32 (yp : Int), .int .i64 yl, .int .i16 ys, .int .u8 ye, .bool yc])) rfl (by kernel_rfl) (by kernel_rfl) (by kernel_rfl) (fun _ _ _ h => h) (Or.inl ⟨by rfl, by intro v hSw; have t0 := hSw.2.1; have t1 := hSw.2.2.1; have t2 := hSw.2.2.2.1; have t3 := hSw.2.2.2.2.1; have t4 := hSw.2.2.2.2.2; clear hSw; go_simp⟩) hH ?_
        refine wpAnyH_take (i := 13) (v := (.pointer (some ⟨g, (k + 1) * 5, none⟩))) rfl (by kernel_rfl) (by kernel_rfl) (by kernel_rfl) (fun _ _ _ h => h) (Or.inl ⟨by rfl, by intro v hSw; clear hSw; go_simp⟩) hH ?_
        refine wpAnyH_ready (rs := [14]) (by kernel_rfl) (by simp) ?_
        refine AllReadyH.cons rfl (fun K hK => ?_) AllReadyH.nil
        have c0 := HF.out.1.1
        have c1 := HF.out.1.2.1
        have c2 := HF.out.1.2.2.1
        have c3' := HF.out.1.2.2.2.1
        have c4 := HF.out.1.2.2.2.2
        have z0 := HF.out.2.1.1
        have z1 := HF.out.2.1.2.1
        have z2 := HF.out.2.1.2.2.1
        have z3 := HF.out.2.1.2.2.2.1
        have z4 := HF.out.2.1.2.2.2.2
        clear hH hS0
        go_simp
        have HF2 := show Hid (_ ∧ _) from HF.out.2.2
        clear HF c0 c1 c2 c3' c4 z0 z1 z2 z3 z4
        obtain ⟨t0, t1, t2, t3, t4⟩ := g_row HF2.out.1.at' k (by rw [shiftL_length _ _ _ (by omega)]; omega)
        rw [hsame] at t0 t1 t2 t3 t4
        have hkb6 := HF2.out.1.at'.cell
        rw [shiftL_length _ _ _ (by omega)] at hkb6
        have HK6 := show Hid (_ ∧ _) from And.intro HF2.out.1 ((HF2.out.2.block w.heap.size (heap_lt hxb') (by simp only [ne_eq, Option.some.injEq]; omega)).trans hxb')
        clear HF2
        refine hK.out _ _ ⟨hkb6, t0, t1, t2, t3, t4⟩ (fun hH => ?_)
        clear hK K hH hkb6 t0 t1 t2 t3 t4 hsame HS hxb' hb0
        refine wpAnyH_done (by kernel_rfl) ?_ _
        generalize (((((wd.setCell ⟨g, (k + 1) * 5, none⟩ (.int .i32 (yp : Int))).setCell ⟨g, (k + 1) * 5 + 1, none⟩ (.int .i64 yl)).setCell ⟨g, (k + 1) * 5 + 2, none⟩ (.int .i16 ys)).setCell ⟨g, (k + 1) * 5 + 3, none⟩ (.int .u8 ye)).setCell ⟨g, (k + 1) * 5 + 4, none⟩ (.bool yc)) = w7 at HK6 ⊢
        go_wp2
        go_roundw
        case rel => exact ⟨k, by omega, by omega, by go_num, HK6.out.1, HK6.out.2⟩
        case measure => simp [intOf]
      · have hjj : j = at' := by omega
        subst hjj
        have hnl : ¬ ((j : Int) < (j : Int)) := by omega
        have hml : j < (shiftL rs ⟨⟨xp, xl, xs, xe⟩, xc⟩ j).length := by omega
        have HS := show Hid _ from hGr.drew
        have hxb' := show wr.drew.heap[w.heap.size]? = _ from hxb
        clear hGr hxb
        go_wp2
        have hji : (j : Int) < (rs.length : Int) + 1 := by omega
        have hj0 : (0 : Int) ≤ (j : Int) := by omega
        obtain ⟨wd, hwd⟩ : ∃ wd, wr.drew = wd := ⟨_, rfl⟩
        rw [hwd] at HS hxb'
        have HF := show Hid _ from g_fill (w := wd) HS.out j hml ⟨⟨xp, xl, xs, xe⟩, xc⟩ _ _ _ _ _ rfl rfl rfl rfl rfl
        rw [shiftL_put rs ⟨⟨xp, xl, xs, xe⟩, xc⟩ j hjr] at HF
        obtain ⟨y2, hy2⟩ : ∃ y2, (shiftL rs ⟨⟨xp, xl, xs, xe⟩, xc⟩ j)[j] = y2 := ⟨_, rfl⟩
        rw [hy2] at HF
        obtain ⟨⟨vp, vl, vs, ve⟩, vc⟩ := y2
        simp only at HF
        have hb0 := HS.out.at'.cell
        rw [hsl] at hb0
        clear hy2
        have hS0 : wd.cell? ⟨kb, o, none⟩ = some (.slice (some ⟨g, 0, none⟩) (rs.length + 1) c3) ∧ wd.heap[w.heap.size]? = some (.cells #[.int .i32 (xp : Int), .int .i64 xl, .int .i16 xs, .int .u8 xe, .bool xc] 176 (0, 0)) := ⟨hb0, hxb'⟩
        refine wp_region_held_drew (S := fun w' : World => w'.cell? ⟨kb, o, none⟩ = some (.slice (some ⟨g, 0, none⟩) (rs.length + 1) c3) ∧ w'.heap[w.heap.size]? = some (.cells #[.int .i32 (xp : Int), .int .i64 xl, .int .i16 xs, .int .u8 xe, .bool xc] 176 (0, 0))) (by kernel_rfl) (hwd ▸ hS0) (fun hH => ?_)
        rw [hwd] at hH ⊢
        refine wpAnyH_take (i := 0) (v := (.pointer (some ⟨kb, o, none⟩))) rfl (by kernel_rfl) (by kernel_rfl) (by kernel_rfl) (fun _ _ _ h => h) (Or.inl ⟨by rfl, by intro v hSw; clear hSw; go_simp⟩) hH ?_
        refine wpAnyH_take (i := 1) (v := (.pointer (some ⟨kb, o, none⟩))) rfl (by kernel_rfl) (by kernel_rfl) (by kernel_rfl) (fun _ _ _ h => h) (Or.inl ⟨by rfl, by intro v hSw; clear hSw; go_simp⟩) hH ?_
        refine wpAnyH_take (i := 2) (v := (.pointer (some ⟨kb, o, none⟩))) rfl (by kernel_rfl) (by kernel_rfl) (by kernel_rfl) (fun _ _ _ h => h) (Or.inl ⟨by rfl, by intro v hSw; clear hSw; go_simp⟩) hH ?_
        refine wpAnyH_take (i := 3) (v := (.slice (some ⟨g, 0, none⟩) (rs.length + 1) c3)) rfl (by kernel_rfl) (by kernel_rfl) (by kernel_rfl) (fun _ _ _ h => h) (Or.inl ⟨by rfl, by intro v hSw; have s0 : v.cell? ⟨kb, o, none⟩ = some (.slice (some ⟨g, 0, none⟩) (rs.length + 1) c3) := hSw.1; clear hSw; go_simp⟩) hH ?_
        refine wpAnyH_take (i := 4) (v := (.int .i64 (j : Int))) rfl (by kernel_rfl) (by kernel_rfl) (by kernel_rfl) (fun _ _ _ h => h) (Or.inl ⟨by rfl, by intro v hSw; clear hSw; go_simp⟩) hH ?_
        refine wpAnyH_take (i := 5) (v := (.agg #[.int .i32 (xp : Int), .int .i64 xl, .int .i16 xs, .int .u8 xe, .bool xc])) rfl (by kernel_rfl) (by kernel_rfl) (by kernel_rfl) (fun _ _ _ h => h) (Or.inl ⟨by rfl, by intro v hSw; have s0 : v.cell? ⟨w.heap.size, 0, none⟩ = some (.int .i32 (xp : Int)) := row_cell hSw.2 0; have s1 : v.cell? ⟨w.heap.size, 1, none⟩ = some (.int .i64 xl) := row_cell hSw.2 1; have s2 : v.cell? ⟨w.heap.size, 2, none⟩ = some (.int .i16 xs) := row_cell hSw.2 2; have s3 : v.cell? ⟨w.heap.size, 3, none⟩ = some (.int .u8 xe) := row_cell hSw.2 3; have s4 : v.cell? ⟨w.heap.size, 4, none⟩ = some (.bool xc) := row_cell hSw.2 4; clear hSw; go_simp⟩) hH ?_
        refine wpAnyH_take (i := 6) (v := (.pointer (some ⟨g, j * 5, none⟩))) rfl (by kernel_rfl) (by kernel_rfl) (by kernel_rfl) (fun _ _ _ h => h) (Or.inl ⟨by rfl, by intro v hSw; clear hSw; go_simp⟩) hH ?_
        refine wpAnyH_ready (rs := [7]) (by kernel_rfl) (by simp) ?_
        refine AllReadyH.cons rfl (fun K hK => ?_) AllReadyH.nil
        have c0 := HF.out.1.1
        have c1 := HF.out.1.2.1
        have c2 := HF.out.1.2.2.1
        have c3' := HF.out.1.2.2.2.1
        have c4 := HF.out.1.2.2.2.2
        have z0 := HF.out.2.1.1
        have z1 := HF.out.2.1.2.1
        have z2 := HF.out.2.1.2.2.1
        have z3 := HF.out.2.1.2.2.2.1
        have z4 := HF.out.2.1.2.2.2.2
        clear hH hS0
        go_simp
        have HF2 := show Hid (_ ∧ _) from HF.out.2.2
        clear HF c0 c1 c2 c3' c4 z0 z1 z2 z3 z4
        have hkb6 := HF2.out.1.at'.cell
        have hpl : (rs.take j ++ ⟨⟨xp, xl, xs, xe⟩, xc⟩ :: rs.drop j : List GX).length = rs.length + 1 := by simp; omega
        rw [hpl] at hkb6
        have hxb6 := (HF2.out.2.block w.heap.size (heap_lt hxb') (by simp only [ne_eq, Option.some.injEq]; omega)).trans hxb'
        refine hK.out _ _ ⟨hkb6, hxb6⟩ (fun hH => ?_)
        clear hK K hH hkb6 hxb6 HS hxb' hb0 hpl
        refine wpAnyH_done (by kernel_rfl) ?_ _
        generalize (((((wd.setCell ⟨g, j * 5, none⟩ (.int .i32 (xp : Int))).setCell ⟨g, j * 5 + 1, none⟩ (.int .i64 xl)).setCell ⟨g, j * 5 + 2, none⟩ (.int .i16 xs)).setCell ⟨g, j * 5 + 3, none⟩ (.int .u8 xe)).setCell ⟨g, j * 5 + 4, none⟩ (.bool xc)) = w7 at HF2 ⊢
        go_wp2
        go_end0
        exact ⟨rfl, some ⟨g, 0, none⟩, c3, HF2.out.1⟩

end Go.Proofs.YthccpacmklhejaaGreatDoor
