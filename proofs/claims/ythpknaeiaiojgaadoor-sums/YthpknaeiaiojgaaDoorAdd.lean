/-
  groups.Table: Add.
-/
import Derived.Test.YthpknaeiaiojgaaDoorTab3
namespace Go.Proofs.YthpknaeiaiojgaaDoor
open Go.RowKit

theorem gset (ls : List GV) (n : Nat) (h : n < ls.length) (x : GV) (j : Nat) (u : Value) (hj : j < 4) (hu : (gCells1 ls[n]).set j u = gCells1 x) : (gCells ls).set (n * 4 + j) u = gCells (ls.set n x) := by
  have hs : ls = ls.take n ++ ls[n] :: ls.drop (n + 1) := by rw [← List.drop_eq_getElem_cons h, List.take_append_drop]
  have hset : ls.set n x = ls.take n ++ x :: ls.drop (n + 1) := by rw [List.set_eq_take_append_cons_drop, if_pos h]
  rw [hset]
  generalize ls[n] = r at hs hu
  generalize hT : ls.take n = T at hs
  generalize ls.drop (n + 1) = D at hs
  have hTl : T.length = n := by rw [← hT, List.length_take]; omega
  have hlen : (gCells T).length = n * 4 := by rw [gCells_length, hTl]
  subst hs
  have hc : ∀ r' : GV, gCells (r' :: D) = gCells1 r' ++ gCells D := fun r' => by simp [gCells]
  rw [gCells_append, gCells_append, hc, hc, List.set_append_right _ _ (by omega), hlen, show n * 4 + j - n * 4 = j from by omega, List.set_append_left _ _ (by simp [gCells1]; omega), hu]

theorem gset1 (ls : List GV) (n : Nat) (h : n < ls.length) {rp : Nat} {rl rsm re : Int} (hr : ls[n] = ⟨rp, rl, rsm, re⟩) (v : Int) : (gCells ls).set (n * 4 + 1) (.int .i64 v) = gCells (ls.set n ⟨rp, v, rsm, re⟩) := gset ls n h _ 1 _ (by decide) (by rw [hr]; rfl)
theorem gset2 (ls : List GV) (n : Nat) (h : n < ls.length) {rp : Nat} {rl rsm re : Int} (hr : ls[n] = ⟨rp, rl, rsm, re⟩) (v : Int) : (gCells ls).set (n * 4 + 2) (.int .i16 v) = gCells (ls.set n ⟨rp, rl, v, re⟩) := gset ls n h _ 2 _ (by decide) (by rw [hr]; rfl)
theorem gset3 (ls : List GV) (n : Nat) (h : n < ls.length) {rp : Nat} {rl rsm re : Int} (hr : ls[n] = ⟨rp, rl, rsm, re⟩) (v : Int) : (gCells ls).set (n * 4 + 3) (.int .u8 v) = gCells (ls.set n ⟨rp, rl, rsm, v⟩) := gset ls n h _ 3 _ (by decide) (by rw [hr]; rfl)

/-- A block that isn't one of the two types is kept. -/
theorem Frm.keepNew {B t1 t2 : Nat} {w w' : World} (h : Frm B t1 t2 w w') {j : Nat} {cs : Array Value} {t : TypeId} {fz : Nat × Nat} (hj : w.heap[j]? = some (.cells cs t fz)) (ht : t ≠ t1 ∧ t ≠ t2) : w'.heap[j]? = some (.cells cs t fz) := h.keep j cs t fz hj ht.1 ht.2

/-- Where the point stands. -/
theorem addG_old {p : Nat} {l s : Int} : ∀ (rs : List GV) (h : plcG p rs < rs.length), (rs[plcG p rs]).pt = p → addG p l s rs = rs.set (plcG p rs) ((rs[plcG p rs]).plus l s)
  | r :: rs, h, he => by
    unfold addG
    by_cases c : r.pt < p
    · have e : plcG p (r :: rs) = plcG p rs + 1 := by simp [plcG, c]
      simp only [e, List.getElem_cons_succ] at he
      rw [if_pos c, addG_old rs (by rw [e] at h; simpa using h) he]
      simp only [e, List.getElem_cons_succ, List.set_cons_succ]
    · have e : plcG p (r :: rs) = 0 := by simp [plcG, c]
      simp only [e, List.getElem_cons_zero] at he
      rw [if_neg c, if_pos he]
      simp only [e, List.getElem_cons_zero, List.set_cons_zero]

theorem addG_new {p : Nat} {l s : Int} : ∀ (rs : List GV), (∀ h : plcG p rs < rs.length, (rs[plcG p rs]).pt ≠ p) → addG p l s rs = rs.take (plcG p rs) ++ (GV.mk p 0 0 0).plus l s :: rs.drop (plcG p rs)
  | [], _ => by simp [addG, plcG]
  | r :: rs, hne => by
    unfold addG
    by_cases c : r.pt < p
    · have e : plcG p (r :: rs) = plcG p rs + 1 := by simp [plcG, c]
      rw [if_pos c, addG_new rs (fun h => by have := hne (by rw [e]; simpa using h); simpa only [e, List.getElem_cons_succ] using this)]
      simp only [e, List.take_succ_cons, List.drop_succ_cons, List.cons_append]
    · have e : plcG p (r :: rs) = 0 := by simp [plcG, c]
      have := hne (by rw [e]; simp)
      simp only [e, List.getElem_cons_zero] at this
      rw [if_neg c, if_neg this]
      simp [e]

set_option maxRecDepth 100000 in
set_option maxHeartbeats 8000000 in
theorem add_old (B kb : Nat) (a : Option Addr) (c : Nat) (rs : List GV) (p : Nat) (dl ds : Int) (w : World) (hB : B ≤ kb) (hlen : rs.length ≤ 1000) (hG : GAt B kb a c rs w) (hd : -1 ≤ dl ∧ dl ≤ 1) (hrl : ∀ r ∈ rs, -100000 ≤ r.live ∧ r.live ≤ 100000) (hm : plcG p rs < rs.length) (hp : (rs[plcG p rs]).pt = p) :
    Calls Tryd.prog 64 #[.pointer (some ⟨kb, 0, none⟩), .agg #[.int .i32 (p : Int), .int .i64 dl, .int .i16 ds]] w fun en w' => en = .returned (.tuple #[]) ∧ (∃ a' c', GAt B kb a' c' (addG p dl ds rs) w') ∧ Frm B 121 155 w w' := by
  have hBw : B ≤ w.heap.size := Nat.le_trans hB (Nat.le_of_lt (heap_lt hG.1))
  have hP := show Hid _ from fun (w : World) (h : GAt B kb a c rs w) => gplace_any kb a c rs p B w hlen h
  have hgx : (123 : Nat) ≠ 121 ∧ (123 : Nat) ≠ 155 := by decide
  have HK0 := show Hid (_ ∧ _) from And.intro (hG.alloc (.cells #[.int .i32 (p : Int), .int .i64 dl, .int .i16 ds] 123)) ((Frm.refl B 121 155 w).alloc hBw (.cells #[.int .i32 (p : Int), .int .i64 dl, .int .i16 ds] 123))
  have hxb0 : (w.alloc (.cells #[.int .i32 (p : Int), .int .i64 dl, .int .i16 ds] 123)).heap[w.heap.size]? = some (.cells #[.int .i32 (p : Int), .int .i64 dl, .int .i16 ds] 123 (0, 0)) := heap_alloc_new w _
  clear hG
  have hfin := addG_old (l := dl) (s := ds) rs hm hp
  have hn : plcG p rs < rs.length := hm
  obtain ⟨r, hr⟩ : ∃ r, rs[plcG p rs]'hm = r := ⟨_, rfl⟩
  rw [hr] at hfin hp
  have hb := hrl r (by rw [← hr]; exact List.getElem_mem hm)
  generalize plcG p rs = n at hn hm hr hfin hP
  obtain ⟨rp, rl, rsm, re⟩ := r
  simp only at hp hb
  have Hfin := show Hid (rs.set n ⟨rp, rl + dl, wrap16 (rsm + ds), (re + 1) % 256⟩ = addG p dl ds rs) from hfin.symm
  clear hfin hrl
  rcases own_addr HK0.out.1.2 with ⟨_, h0⟩ | ⟨g, rfl⟩
  · omega
  go_enter Tryd.func64, Tryd.ntmps64
  go_wp2_with fail
  generalize (w.alloc (.cells #[.int .i32 (p : Int), .int .i64 dl, .int .i16 ds] 123)) = w1 at HK0 hxb0 ⊢
  refine (hP.out w1 HK0.out.1).mono ?_
  rintro en w2 ⟨rfl, rfl⟩
  clear hP
  have hkc := HK0.out.1.cell
  have hne : ((n : Int) == (rs.length : Int)) = false := by rw [beq_eq_false_iff_ne]; omega
  have hni : (n : Int) < (rs.length : Int) := by omega
  have hn0 : (0 : Int) ≤ (n : Int) := by omega
  have r0 := (HK0.out.1.row n hn).1
  rw [hr] at r0
  simp only at r0
  rw [hp] at r0
  have hx0 : w2.cell? ⟨w.heap.size, 0, none⟩ = some (.int .i32 (p : Int)) := row_cell hxb0 0
  go_wp2
  go_quiet (fail)
  clear hkc r0 hx0 hne hni hn0
  have HK := show Hid (_ ∧ _) from And.intro (show GAt B kb (some ⟨g, 0, none⟩) c rs (w2.drewN nq) from HK0.out.1) (HK0.out.2.drewN nq)
  have hxb := show (w2.drewN nq).heap[w.heap.size]? = _ from hxb0
  clear HK0 hxb0
  generalize w2.drewN nq = w3 at HK hxb ⊢
  have hkc3 := HK.out.1.cell
  have hni : (n : Int) < (rs.length : Int) := by omega
  have hn0 : (0 : Int) ≤ (n : Int) := by omega
  go_wp2
  clear hkc3
  obtain ⟨r0, r1, r2, r3⟩ := HK.out.1.drew.row n hn
  have hf1 := HK.out.1.drew.2.frozenAt (n * 4 + 1)
  rw [hr] at r0 r1 r2 r3
  simp only at r0 r1 r2 r3
  have hxb' := show w3.drew.heap[w.heap.size]? = _ from hxb
  have HK1 := show Hid (_ ∧ _) from And.intro HK.out.1.drew HK.out.2.drew
  have hs1 := gset1 rs n hn hr (rl + dl)
  have HG1 := show Hid (_ ∧ _) from HK1.out.1.set (n * 4 + 1) (.int .i64 (rl + dl)) hs1 (by simp) (Nat.le_trans hBw HK1.out.2.below.size)
  clear HK hxb hs1
  refine wp_region_held_drew (S := fun w' : World => w'.heap[w.heap.size]? = some (.cells #[.int .i32 (p : Int), .int .i64 dl, .int .i16 ds] 123 (0, 0))) (by kernel_rfl) hxb' (fun hH => ?_)
  generalize w3.drew = wd at HK1 HG1 hxb' r0 r1 r2 r3 hf1 hH ⊢
  refine wpAnyH_take (i := 0) (v := (.pointer (some ⟨g, n * 4, none⟩))) rfl (by kernel_rfl) (by kernel_rfl) (by kernel_rfl) (fun _ _ _ h => h) (Or.inl ⟨by rfl, by intro v hSw; clear hSw; go_simp⟩) hH ?_
  refine wpAnyH_take (i := 1) (v := (.pointer (some ⟨g, n * 4, none⟩))) rfl (by kernel_rfl) (by kernel_rfl) (by kernel_rfl) (fun _ _ _ h => h) (Or.inl ⟨by rfl, by intro v hSw; clear hSw; go_simp⟩) hH ?_
  refine wpAnyH_take (i := 2) (v := (.pointer (some ⟨g, n * 4 + 1, none⟩))) rfl (by kernel_rfl) (by kernel_rfl) (by kernel_rfl) (fun _ _ _ h => h) (Or.inl ⟨by rfl, by intro v hSw; clear hSw; go_simp⟩) hH ?_
  refine wpAnyH_take (i := 4) (v := (.pointer (some ⟨w.heap.size, 1, none⟩))) rfl (by kernel_rfl) (by kernel_rfl) (by kernel_rfl) (fun _ _ _ h => h) (Or.inl ⟨by rfl, by intro v hSw; clear hSw; go_simp⟩) hH ?_
  refine wpAnyH_take (i := 5) (v := (.int .i64 dl)) rfl (by kernel_rfl) (by kernel_rfl) (by kernel_rfl) (fun _ _ _ h => h) (Or.inl ⟨by rfl, by intro v hSw; have s0 : v.cell? ⟨w.heap.size, 1, none⟩ = some (.int .i64 dl) := row_cell hSw 1; clear hSw; go_simp⟩) hH ?_
  refine wpAnyH_ready (rs := [3]) (by kernel_rfl) (by simp) ?_
  refine AllReadyH.cons rfl (fun K hK => ?_) AllReadyH.nil
  clear hH
  go_simp
  refine hK.out _ _ hxb' (fun hH => ?_)
  clear hK K
  refine wpAnyH_take (i := 6) (v := (.int .i64 (rl + dl))) rfl (by kernel_rfl) (by kernel_rfl) (by kernel_rfl) (fun _ _ _ h => h) (Or.inl ⟨by rfl, by intro v hSw; clear hSw; go_simp; rw [IntWalk.i64_in _ ⟨by omega, by omega⟩]⟩) hH ?_
  refine wpAnyH_take (i := 7) (v := (.pointer (some ⟨g, n * 4, none⟩))) rfl (by kernel_rfl) (by kernel_rfl) (by kernel_rfl) (fun _ _ _ h => h) (Or.inl ⟨by rfl, by intro v hSw; clear hSw; go_simp⟩) hH ?_
  refine wpAnyH_take (i := 8) (v := (.pointer (some ⟨g, n * 4 + 1, none⟩))) rfl (by kernel_rfl) (by kernel_rfl) (by kernel_rfl) (fun _ _ _ h => h) (Or.inl ⟨by rfl, by intro v hSw; clear hSw; go_simp⟩) hH ?_
  refine wpAnyH_ready (rs := [9]) (by kernel_rfl) (by simp) ?_
  refine AllReadyH.cons rfl (fun K hK => ?_) AllReadyH.nil
  clear hH
  go_simp
  have hxb2 := HG1.out.2.keepNew hxb' hgx
  refine hK.out _ _ hxb2 (fun hH => ?_)
  clear hK K hH r0 r1 r2 r3 hf1 hxb'
  refine wpAnyH_done (by kernel_rfl) ?_ _
  have HK2 := show Hid (_ ∧ _) from And.intro HG1.out.1.drew (HK1.out.2.trans HG1.out.2).drew
  clear HK1 HG1
  generalize wd.setCell ⟨g, n * 4 + 1, none⟩ (.int .i64 (rl + dl)) = w4 at HK2 hxb2 ⊢
  clear wd
  go_wp2
  have hn2 : n < (rs.set n ⟨rp, rl + dl, rsm, re⟩).length := by simpa using hn
  have hr2 : (rs.set n ⟨rp, rl + dl, rsm, re⟩)[n] = ⟨rp, rl + dl, rsm, re⟩ := by simp
  obtain ⟨r0, r1, r2, r3⟩ := HK2.out.1.row n hn2
  have hf2 := HK2.out.1.2.frozenAt (n * 4 + 2)
  rw [hr2] at r0 r1 r2 r3
  simp only at r0 r1 r2 r3
  have hxb' := show w4.drew.heap[w.heap.size]? = _ from hxb2
  have hs1 := gset2 (rs.set n ⟨rp, rl + dl, rsm, re⟩) n hn2 hr2 (wrap16 (rsm + ds))
  rw [List.set_set] at hs1
  have HG1 := show Hid (_ ∧ _) from HK2.out.1.set (n * 4 + 2) (.int .i16 (wrap16 (rsm + ds))) hs1 (by simp) (Nat.le_trans hBw HK2.out.2.below.size)
  clear hxb2 hs1
  refine wp_region_held_drew (S := fun w' : World => w'.heap[w.heap.size]? = some (.cells #[.int .i32 (p : Int), .int .i64 dl, .int .i16 ds] 123 (0, 0))) (by kernel_rfl) hxb' (fun hH => ?_)
  generalize w4.drew = wd at HK2 HG1 hxb' r0 r1 r2 r3 hf2 hH ⊢
  refine wpAnyH_take (i := 0) (v := (.pointer (some ⟨g, n * 4, none⟩))) rfl (by kernel_rfl) (by kernel_rfl) (by kernel_rfl) (fun _ _ _ h => h) (Or.inl ⟨by rfl, by intro v hSw; clear hSw; go_simp⟩) hH ?_
  refine wpAnyH_take (i := 1) (v := (.pointer (some ⟨g, n * 4, none⟩))) rfl (by kernel_rfl) (by kernel_rfl) (by kernel_rfl) (fun _ _ _ h => h) (Or.inl ⟨by rfl, by intro v hSw; clear hSw; go_simp⟩) hH ?_
  refine wpAnyH_take (i := 2) (v := (.pointer (some ⟨g, n * 4 + 2, none⟩))) rfl (by kernel_rfl) (by kernel_rfl) (by kernel_rfl) (fun _ _ _ h => h) (Or.inl ⟨by rfl, by intro v hSw; clear hSw; go_simp⟩) hH ?_
  refine wpAnyH_take (i := 4) (v := (.pointer (some ⟨w.heap.size, 2, none⟩))) rfl (by kernel_rfl) (by kernel_rfl) (by kernel_rfl) (fun _ _ _ h => h) (Or.inl ⟨by rfl, by intro v hSw; clear hSw; go_simp⟩) hH ?_
  refine wpAnyH_take (i := 5) (v := (.int .i16 ds)) rfl (by kernel_rfl) (by kernel_rfl) (by kernel_rfl) (fun _ _ _ h => h) (Or.inl ⟨by rfl, by intro v hSw; have s0 : v.cell? ⟨w.heap.size, 2, none⟩ = some (.int .i16 ds) := row_cell hSw 2; clear hSw; go_simp⟩) hH ?_
  refine wpAnyH_ready (rs := [3]) (by kernel_rfl) (by simp) ?_
  refine AllReadyH.cons rfl (fun K hK => ?_) AllReadyH.nil
  clear hH
  go_simp
  refine hK.out _ _ hxb' (fun hH => ?_)
  clear hK K
  refine wpAnyH_take (i := 6) (v := (.int .i16 (wrap16 (rsm + ds)))) rfl (by kernel_rfl) (by kernel_rfl) (by kernel_rfl) (fun _ _ _ h => h) (Or.inl ⟨by rfl, by intro v hSw; clear hSw; go_simp; exact wrap_i16 _⟩) hH ?_
  refine wpAnyH_take (i := 7) (v := (.pointer (some ⟨g, n * 4, none⟩))) rfl (by kernel_rfl) (by kernel_rfl) (by kernel_rfl) (fun _ _ _ h => h) (Or.inl ⟨by rfl, by intro v hSw; clear hSw; go_simp⟩) hH ?_
  refine wpAnyH_take (i := 8) (v := (.pointer (some ⟨g, n * 4 + 2, none⟩))) rfl (by kernel_rfl) (by kernel_rfl) (by kernel_rfl) (fun _ _ _ h => h) (Or.inl ⟨by rfl, by intro v hSw; clear hSw; go_simp⟩) hH ?_
  refine wpAnyH_ready (rs := [9]) (by kernel_rfl) (by simp) ?_
  refine AllReadyH.cons rfl (fun K hK => ?_) AllReadyH.nil
  clear hH
  go_simp
  have hxb2 := HG1.out.2.keepNew hxb' hgx
  refine hK.out _ _ hxb2 (fun hH => ?_)
  clear hK K hH r0 r1 r2 r3 hf2 hxb'
  refine wpAnyH_done (by kernel_rfl) ?_ _
  have HK3 := show Hid (_ ∧ _) from And.intro HG1.out.1 (HK2.out.2.trans HG1.out.2)
  clear HK2 HG1
  generalize wd.setCell ⟨g, n * 4 + 2, none⟩ (.int .i16 (wrap16 (rsm + ds))) = w5 at HK3 hxb2 ⊢
  clear wd hn2 hr2
  have hn2 : n < (rs.set n ⟨rp, rl + dl, wrap16 (rsm + ds), re⟩).length := by simpa using hn
  have hr2 : (rs.set n ⟨rp, rl + dl, wrap16 (rsm + ds), re⟩)[n] = ⟨rp, rl + dl, wrap16 (rsm + ds), re⟩ := by simp
  obtain ⟨r0, r1, r2, r3⟩ := HK3.out.1.row n hn2
  have hf3 := HK3.out.1.2.frozenAt (n * 4 + 3)
  rw [hr2] at r0 r1 r2 r3
  simp only at r0 r1 r2 r3
  have hs1 := gset3 (rs.set n ⟨rp, rl + dl, wrap16 (rsm + ds), re⟩) n hn2 hr2 ((re + 1) % 256)
  rw [List.set_set] at hs1
  have HG1 := show Hid (_ ∧ _) from HK3.out.1.set (n * 4 + 3) (.int .u8 ((re + 1) % 256)) hs1 (by simp) (Nat.le_trans hBw HK3.out.2.below.size)
  have HF := show Hid (_ ∧ _) from And.intro HG1.out.1 (HK3.out.2.trans HG1.out.2)
  clear HK3 HG1 hs1 hxb2
  have hw8 : IntKind.u8.wrap (re + 1) = (re + 1) % 256 := IntKind.wrap_u8 _
  go_wp2
  go_end0
  exact ⟨rfl, ⟨_, _, by rw [← Hfin.out]; exact HF.out.1⟩, HF.out.2⟩

end Go.Proofs.YthpknaeiaiojgaaDoor
