/-
  groups.Table: Add, a new group behind all.
-/
import Derived.Test.YthpknaeiaiojgaaDoorAdd
namespace Go.Proofs.YthpknaeiaiojgaaDoor
open Go.RowKit

theorem insl_get (rs : List GV) (n : Nat) (h : n ≤ rs.length) (x : GV) (hl : n < (rs.take n ++ x :: rs.drop n).length) : (rs.take n ++ x :: rs.drop n)[n]'hl = x := by
  have h0 : (rs.take n).length = n := by simp; omega
  have h1 : (rs.take n ++ x :: rs.drop n)[n]? = some x := by rw [List.getElem?_append_right (by omega), h0, Nat.sub_self]; rfl
  rw [List.getElem?_eq_getElem hl] at h1
  exact Option.some.inj h1

theorem insl_set (rs : List GV) (n : Nat) (h : n ≤ rs.length) (x y : GV) : (rs.take n ++ x :: rs.drop n).set n y = rs.take n ++ y :: rs.drop n := by
  have h0 : (rs.take n).length = n := by simp; omega
  rw [List.set_append_right _ _ (by omega), h0, Nat.sub_self]
  rfl

set_option maxRecDepth 100000 in
set_option maxHeartbeats 8000000 in
theorem add_last (B kb : Nat) (a : Option Addr) (c : Nat) (rs : List GV) (p : Nat) (dl ds : Int) (w : World) (hB : B ≤ kb) (hlen : rs.length ≤ 1000) (hG : GAt B kb a c rs w) (hd : -1 ≤ dl ∧ dl ≤ 1) (hm : plcG p rs = rs.length) :
    Calls Tryd.prog 64 #[.pointer (some ⟨kb, 0, none⟩), .agg #[.int .i32 (p : Int), .int .i64 dl, .int .i16 ds]] w fun en w' => en = .returned (.tuple #[]) ∧ (∃ a' c', GAt B kb a' c' (addG p dl ds rs) w') ∧ Frm B 121 155 w w' := by
  have hBw : B ≤ w.heap.size := Nat.le_trans hB (Nat.le_of_lt (heap_lt hG.1))
  have hP := show Hid _ from fun (w : World) (h : GAt B kb a c rs w) => gplace_any kb a c rs p B w hlen h
  have hgx : (123 : Nat) ≠ 121 ∧ (123 : Nat) ≠ 155 := by decide
  have HK0 := show Hid (_ ∧ _) from And.intro (hG.alloc (.cells #[.int .i32 (p : Int), .int .i64 dl, .int .i16 ds] 123)) ((Frm.refl B 121 155 w).alloc hBw (.cells #[.int .i32 (p : Int), .int .i64 dl, .int .i16 ds] 123))
  have hxb0 : (w.alloc (.cells #[.int .i32 (p : Int), .int .i64 dl, .int .i16 ds] 123)).heap[w.heap.size]? = some (.cells #[.int .i32 (p : Int), .int .i64 dl, .int .i16 ds] 123 (0, 0)) := heap_alloc_new w _
  clear hG
  have hle : plcG p rs ≤ rs.length := plcG_le p rs
  have hfin := addG_new (l := dl) (s := ds) rs (fun h => absurd h (Nat.not_lt.2 (Nat.le_of_eq hm.symm)))
  generalize plcG p rs = n at hm hle hfin hP
  go_enter Tryd.func64, Tryd.ntmps64
  go_wp2_with fail
  generalize (w.alloc (.cells #[.int .i32 (p : Int), .int .i64 dl, .int .i16 ds] 123)) = w1 at HK0 hxb0 ⊢
  refine (hP.out w1 HK0.out.1).mono ?_
  rintro en w2 ⟨rfl, rfl⟩
  clear hP
  have hne : ((n : Int) == (rs.length : Int)) = true := by rw [beq_iff_eq]; omega
  clear hm
  have hkc := HK0.out.1.cell
  have hx0 : w2.cell? ⟨w.heap.size, 0, none⟩ = some (.int .i32 (p : Int)) := row_cell hxb0 0
  go_wp2
  go_quiet (fail)
  clear hkc hx0 hne
  have HK1 := show Hid (_ ∧ _) from And.intro (show GAt B kb a c rs (w2.drewN nq) from HK0.out.1) (HK0.out.2.drewN nq)
  have hxb1 := show (w2.drewN nq).heap[w.heap.size]? = _ from hxb0
  clear HK0 hxb0
  generalize w2.drewN nq = w3 at HK1 hxb1 ⊢
  have hx0 : w3.cell? ⟨w.heap.size, 0, none⟩ = some (.int .i32 (p : Int)) := row_cell hxb1 0
  go_wp2_with fail
  refine (insert_any B kb a c rs n p 0 0 0 w3 hB hlen hle HK1.out.1).mono ?_
  rintro en w4 ⟨rfl, ⟨a4, c4, hG4⟩, hF4⟩
  have hxb := hF4.keepNew hxb1 hgx
  obtain ⟨ls, hls⟩ : ∃ ls, rs.take n ++ GV.mk p 0 0 0 :: rs.drop n = ls := ⟨_, rfl⟩
  have hll : ls.length = rs.length + 1 := by rw [← hls]; simp; omega
  have hn : n < ls.length := by omega
  obtain ⟨r, hr0⟩ : ∃ r : GV, r = ⟨p, 0, 0, 0⟩ := ⟨_, rfl⟩
  have hr : ls[n] = r := by
    subst hls
    rw [hr0]
    exact insl_get rs n hle _ _
  have hfin2 : ls.set n (r.plus dl ds) = addG p dl ds rs := by
    rw [hfin, ← hls, insl_set rs n hle, hr0]
  have hb : -100000 ≤ r.live ∧ r.live ≤ 100000 := by rw [hr0]; constructor <;> simp
  clear hr0
  obtain ⟨rp, rl, rsm, re⟩ := r
  simp only at hb
  have Hfin := show Hid (ls.set n ⟨rp, rl + dl, wrap16 (rsm + ds), (re + 1) % 256⟩ = addG p dl ds rs) from hfin2
  clear hfin2
  rw [hls] at hG4
  have HK := show Hid (_ ∧ _) from And.intro hG4 (HK1.out.2.trans hF4)
  clear HK1 hxb1 hG4 hF4 hls hfin hx0 hll
  rcases own_addr HK.out.1.2 with ⟨_, h0⟩ | ⟨g, rfl⟩
  · omega
  have hkc3 := HK.out.1.cell
  have hni : (n : Int) < (ls.length : Int) := by omega
  have hn0 : (0 : Int) ≤ (n : Int) := by omega
  go_wp2
  clear hkc3
  obtain ⟨r0, r1, r2, r3⟩ := HK.out.1.drew.row n hn
  have hf1 := HK.out.1.drew.2.frozenAt (n * 4 + 1)
  rw [hr] at r0 r1 r2 r3
  simp only at r0 r1 r2 r3
  have hxb' := show w4.drew.heap[w.heap.size]? = _ from hxb
  have HK1 := show Hid (_ ∧ _) from And.intro HK.out.1.drew HK.out.2.drew
  have hs1 := gset1 ls n hn hr (rl + dl)
  have HG1 := show Hid (_ ∧ _) from HK1.out.1.set (n * 4 + 1) (.int .i64 (rl + dl)) hs1 (by simp) (Nat.le_trans hBw HK1.out.2.below.size)
  clear HK hxb hs1
  refine wp_region_held_drew (S := fun w' : World => w'.heap[w.heap.size]? = some (.cells #[.int .i32 (p : Int), .int .i64 dl, .int .i16 ds] 123 (0, 0))) (by kernel_rfl) hxb' (fun hH => ?_)
  generalize w4.drew = wd at HK1 HG1 hxb' r0 r1 r2 r3 hf1 hH ⊢
  refine wpAnyH_take (i := 0) (v := (.pointer (some ⟨g, n * 4, none⟩))) rfl (by kernel_rfl) (by kernel_rfl) (by kernel_rfl) (fun _ _ _ h => h) (Or.inl ⟨by rfl, by intro v hSw; clear hSw; go_simp⟩) hH ?_
  refine wpAnyH_take (i := 1) (v := (.pointer (some ⟨g, n * 4, none⟩))) rfl (by kernel_rfl) (by kernel_rfl) (by kernel_rfl) (fun _ _ _ h => h) (Or.inl ⟨by rfl, by intro v hSw; clear hSw; go_simp⟩) hH ?_
  refine wpAnyH_take (i := 2) (v := (.pointer (some ⟨g, n * 4 + 1, none⟩))) rfl (by kernel_rfl) (by kernel_rfl) (by kernel_rfl) (fun _ _ _ h => h) (Or.inl ⟨by rfl, by intro v hSw; clear hSw; go_simp⟩) hH ?_
  refine wpAnyH_take (i := 4) (v := (.pointer (some ⟨w.heap.size, 1, none⟩))) rfl (by kernel_rfl) (by kernel_rfl) (by kernel_rfl) (fun _ _ _ h => h) (Or.inl ⟨by rfl, by intro v hSw; clear hSw; go_simp⟩) hH ?_
  refine wpAnyH_take (i := 5) (v := (.int .i64 dl)) rfl (by kernel_rfl) (by kernel_rfl) (by kernel_rfl) (fun _ _ _ h => h) (Or.inl ⟨by rfl, by intro v hSw; have s0 : v.cell? ⟨w.heap.size, 1, none⟩ = some (.int .i64 dl) := row_cell hSw 1; clear hSw; go_simp⟩) hH ?_
  refine wpAnyH_ready (rs := [3]) (by kernel_rfl) (by simp) ?_
  refine AllReadyH.cons rfl (fun K hK => ?_) AllReadyH.nil
  clear hH
  go_simp
  refine hK.out _ _ hxb' (fun hH => ?_)
  clear hK K
  refine wpAnyH_take (i := 6) (v := (.int .i64 (rl + dl))) rfl (by kernel_rfl) (by kernel_rfl) (by kernel_rfl) (fun _ _ _ h => h) (Or.inl ⟨by rfl, by intro v hSw; clear hSw; go_simp; rw [IntWalk.i64_in _ ⟨by omega, by omega⟩]⟩) hH ?_
  refine wpAnyH_take (i := 7) (v := (.pointer (some ⟨g, n * 4, none⟩))) rfl (by kernel_rfl) (by kernel_rfl) (by kernel_rfl) (fun _ _ _ h => h) (Or.inl ⟨by rfl, by intro v hSw; clear hSw; go_simp⟩) hH ?_
  refine wpAnyH_take (i := 8) (v := (.pointer (some ⟨g, n * 4 + 1, none⟩))) rfl (by kernel_rfl) (by kernel_rfl) (by kernel_rfl) (fun _ _ _ h => h) (Or.inl ⟨by rfl, by intro v hSw; clear hSw; go_simp⟩) hH ?_
  refine wpAnyH_ready (rs := [9]) (by kernel_rfl) (by simp) ?_
  refine AllReadyH.cons rfl (fun K hK => ?_) AllReadyH.nil
  clear hH
  go_simp
  have hxb2 := HG1.out.2.keepNew hxb' hgx
  refine hK.out _ _ hxb2 (fun hH => ?_)
  clear hK K hH r0 r1 r2 r3 hf1 hxb'
  refine wpAnyH_done (by kernel_rfl) ?_ _
  have HK2 := show Hid (_ ∧ _) from And.intro HG1.out.1.drew (HK1.out.2.trans HG1.out.2).drew
  clear HK1 HG1
  generalize wd.setCell ⟨g, n * 4 + 1, none⟩ (.int .i64 (rl + dl)) = w6 at HK2 hxb2 ⊢
  clear wd
  go_wp2
  have hn2 : n < (ls.set n ⟨rp, rl + dl, rsm, re⟩).length := by simpa using hn
  have hr2 : (ls.set n ⟨rp, rl + dl, rsm, re⟩)[n] = ⟨rp, rl + dl, rsm, re⟩ := by simp
  obtain ⟨r0, r1, r2, r3⟩ := HK2.out.1.row n hn2
  have hf2 := HK2.out.1.2.frozenAt (n * 4 + 2)
  rw [hr2] at r0 r1 r2 r3
  simp only at r0 r1 r2 r3
  have hxb' := show w6.drew.heap[w.heap.size]? = _ from hxb2
  have hs1 := gset2 (ls.set n ⟨rp, rl + dl, rsm, re⟩) n hn2 hr2 (wrap16 (rsm + ds))
  rw [List.set_set] at hs1
  have HG1 := show Hid (_ ∧ _) from HK2.out.1.set (n * 4 + 2) (.int .i16 (wrap16 (rsm + ds))) hs1 (by simp) (Nat.le_trans hBw HK2.out.2.below.size)
  clear hxb2 hs1
  refine wp_region_held_drew (S := fun w' : World => w'.heap[w.heap.size]? = some (.cells #[.int .i32 (p : Int), .int .i64 dl, .int .i16 ds] 123 (0, 0))) (by kernel_rfl) hxb' (fun hH => ?_)
  generalize w6.drew = wd at HK2 HG1 hxb' r0 r1 r2 r3 hf2 hH ⊢
  refine wpAnyH_take (i := 0) (v := (.pointer (some ⟨g, n * 4, none⟩))) rfl (by kernel_rfl) (by kernel_rfl) (by kernel_rfl) (fun _ _ _ h => h) (Or.inl ⟨by rfl, by intro v hSw; clear hSw; go_simp⟩) hH ?_
  refine wpAnyH_take (i := 1) (v := (.pointer (some ⟨g, n * 4, none⟩))) rfl (by kernel_rfl) (by kernel_rfl) (by kernel_rfl) (fun _ _ _ h => h) (Or.inl ⟨by rfl, by intro v hSw; clear hSw; go_simp⟩) hH ?_
  refine wpAnyH_take (i := 2) (v := (.pointer (some ⟨g, n * 4 + 2, none⟩))) rfl (by kernel_rfl) (by kernel_rfl) (by kernel_rfl) (fun _ _ _ h => h) (Or.inl ⟨by rfl, by intro v hSw; clear hSw; go_simp⟩) hH ?_
  refine wpAnyH_take (i := 4) (v := (.pointer (some ⟨w.heap.size, 2, none⟩))) rfl (by kernel_rfl) (by kernel_rfl) (by kernel_rfl) (fun _ _ _ h => h) (Or.inl ⟨by rfl, by intro v hSw; clear hSw; go_simp⟩) hH ?_
  refine wpAnyH_take (i := 5) (v := (.int .i16 ds)) rfl (by kernel_rfl) (by kernel_rfl) (by kernel_rfl) (fun _ _ _ h => h) (Or.inl ⟨by rfl, by intro v hSw; have s0 : v.cell? ⟨w.heap.size, 2, none⟩ = some (.int .i16 ds) := row_cell hSw 2; clear hSw; go_simp⟩) hH ?_
  refine wpAnyH_ready (rs := [3]) (by kernel_rfl) (by simp) ?_
  refine AllReadyH.cons rfl (fun K hK => ?_) AllReadyH.nil
  clear hH
  go_simp
  refine hK.out _ _ hxb' (fun hH => ?_)
  clear hK K
  refine wpAnyH_take (i := 6) (v := (.int .i16 (wrap16 (rsm + ds)))) rfl (by kernel_rfl) (by kernel_rfl) (by kernel_rfl) (fun _ _ _ h => h) (Or.inl ⟨by rfl, by intro v hSw; clear hSw; go_simp; exact wrap_i16 _⟩) hH ?_
  refine wpAnyH_take (i := 7) (v := (.pointer (some ⟨g, n * 4, none⟩))) rfl (by kernel_rfl) (by kernel_rfl) (by kernel_rfl) (fun _ _ _ h => h) (Or.inl ⟨by rfl, by intro v hSw; clear hSw; go_simp⟩) hH ?_
  refine wpAnyH_take (i := 8) (v := (.pointer (some ⟨g, n * 4 + 2, none⟩))) rfl (by kernel_rfl) (by kernel_rfl) (by kernel_rfl) (fun _ _ _ h => h) (Or.inl ⟨by rfl, by intro v hSw; clear hSw; go_simp⟩) hH ?_
  refine wpAnyH_ready (rs := [9]) (by kernel_rfl) (by simp) ?_
  refine AllReadyH.cons rfl (fun K hK => ?_) AllReadyH.nil
  clear hH
  go_simp
  have hxb2 := HG1.out.2.keepNew hxb' hgx
  refine hK.out _ _ hxb2 (fun hH => ?_)
  clear hK K hH r0 r1 r2 r3 hf2 hxb'
  refine wpAnyH_done (by kernel_rfl) ?_ _
  have HK3 := show Hid (_ ∧ _) from And.intro HG1.out.1 (HK2.out.2.trans HG1.out.2)
  clear HK2 HG1
  generalize wd.setCell ⟨g, n * 4 + 2, none⟩ (.int .i16 (wrap16 (rsm + ds))) = w5 at HK3 hxb2 ⊢
  clear wd hn2 hr2
  have hn2 : n < (ls.set n ⟨rp, rl + dl, wrap16 (rsm + ds), re⟩).length := by simpa using hn
  have hr2 : (ls.set n ⟨rp, rl + dl, wrap16 (rsm + ds), re⟩)[n] = ⟨rp, rl + dl, wrap16 (rsm + ds), re⟩ := by simp
  obtain ⟨r0, r1, r2, r3⟩ := HK3.out.1.row n hn2
  have hf3 := HK3.out.1.2.frozenAt (n * 4 + 3)
  rw [hr2] at r0 r1 r2 r3
  simp only at r0 r1 r2 r3
  have hs1 := gset3 (ls.set n ⟨rp, rl + dl, wrap16 (rsm + ds), re⟩) n hn2 hr2 ((re + 1) % 256)
  rw [List.set_set] at hs1
  have HG1 := show Hid (_ ∧ _) from HK3.out.1.set (n * 4 + 3) (.int .u8 ((re + 1) % 256)) hs1 (by simp) (Nat.le_trans hBw HK3.out.2.below.size)
  have HF := show Hid (_ ∧ _) from And.intro HG1.out.1 (HK3.out.2.trans HG1.out.2)
  clear HK3 HG1 hs1 hxb2
  have hw8 : IntKind.u8.wrap (re + 1) = (re + 1) % 256 := IntKind.wrap_u8 _
  go_wp2
  go_end0
  exact ⟨rfl, ⟨_, _, by rw [← Hfin.out]; exact HF.out.1⟩, HF.out.2⟩

end Go.Proofs.YthpknaeiaiojgaaDoor
