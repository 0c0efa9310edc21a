/-
  groups.Table: home, Add.
-/
import Derived.Test.YthccpacmklhejaaGreatDoorTab3
namespace Go.Proofs.YthccpacmklhejaaGreatDoor
open Go.RowKit

/-- The list with a group's place. -/
def homeX (p : Nat) (rs : List GX) : List GX := if (rs[plcX p rs]?).map (fun x => x.v.pt) = some p then rs else rs.take (plcX p rs) ++ ⟨⟨p, 0, 0, 0⟩, false⟩ :: rs.drop (plcX p rs)

/-- A change, counted. -/
def addX (p : Nat) (l s : Int) : List GX → List GX
  | [] => [⟨(GV.mk p 0 0 0).plus l s, true⟩]
  | r :: rs => if r.v.pt < p then r :: addX p l s rs else if r.v.pt = p then ⟨r.v.plus l s, true⟩ :: rs else ⟨(GV.mk p 0 0 0).plus l s, true⟩ :: r :: rs

theorem addX_map (p : Nat) (l s : Int) (rs : List GX) : (addX p l s rs).map (fun x => x.v) = addG p l s (rs.map (fun x => x.v)) := by
  induction rs with
  | nil => rfl
  | cons r rs ih =>
    unfold addX
    simp only [List.map_cons]
    rw [addG]
    split
    · simp [ih]
    · split <;> simp

theorem home_facts (p : Nat) : ∀ rs : List GX, ∃ h : plcX p rs < (homeX p rs).length, ((homeX p rs)[plcX p rs]).v.pt = p ∧ ((homeX p rs)[plcX p rs] ∈ rs ∨ (homeX p rs)[plcX p rs] = ⟨⟨p, 0, 0, 0⟩, false⟩) ∧ ∀ l s : Int, (homeX p rs).set (plcX p rs) ⟨((homeX p rs)[plcX p rs]).v.plus l s, true⟩ = addX p l s rs
  | [] => ⟨by simp [homeX, plcX], by simp [homeX, plcX], by simp [homeX, plcX], fun l s => by simp [homeX, plcX, addX]⟩
  | r :: rs => by
    obtain ⟨h, h1, h2, h3⟩ := home_facts p rs
    by_cases c : r.v.pt < p
    · have e : plcX p (r :: rs) = plcX p rs + 1 := by simp [plcX, c]
      have e2 : homeX p (r :: rs) = r :: homeX p rs := by
        unfold homeX
        rw [e]
        simp only [List.getElem?_cons_succ, List.take_succ_cons, List.drop_succ_cons]
        split <;> simp
      simp only [e, e2, List.getElem_cons_succ, List.set_cons_succ, List.length_cons, Nat.add_lt_add_iff_right]
      refine ⟨h, h1, ?_, fun l s => ?_⟩
      · rcases h2 with h2 | h2
        · exact .inl (List.mem_cons_of_mem _ h2)
        · exact .inr h2
      · rw [h3]
        conv => rhs; unfold addX
        rw [if_pos c]
    · have e : plcX p (r :: rs) = 0 := by simp [plcX, c]
      by_cases d : r.v.pt = p
      · have e2 : homeX p (r :: rs) = r :: rs := by
          unfold homeX
          rw [e]
          simp [d]
        simp only [e, e2, List.getElem_cons_zero, List.set_cons_zero, List.length_cons]
        refine ⟨by omega, d, .inl (by simp), fun l s => ?_⟩
        unfold addX
        rw [if_neg c, if_pos d]
      · have e2 : homeX p (r :: rs) = ⟨⟨p, 0, 0, 0⟩, false⟩ :: r :: rs := by
          unfold homeX
          rw [e]
          simp [d]
        simp only [e, e2, List.getElem_cons_zero, List.set_cons_zero, List.length_cons]
        refine ⟨by omega, by simp, by simp, fun l s => ?_⟩
        unfold addX
        rw [if_neg c, if_neg d]

theorem homeX_length (p : Nat) (rs : List GX) : (homeX p rs).length ≤ rs.length + 1 := by
  unfold homeX
  split
  · omega
  · simp
    omega

set_option maxRecDepth 100000 in
set_option maxHeartbeats 1000000 in
theorem home_any (B kb o : Nat) (t : TypeId) (cs : Array Value) (a : Option Addr) (c : Nat) (rs : List GX) (p : Nat) (w : World) (hB : B ≤ w.heap.size) (hlen : rs.length ≤ 1000) (hG : GAt B kb o t cs a c rs w) :
    Calls Tryz.prog 117 #[.pointer (some ⟨kb, o, none⟩), .int .i32 (p : Int)] w fun en w' => en = .returned (.int .i64 (plcX p rs : Int)) ∧ ∃ a' c', GUpd B kb o t cs a c rs w a' c' (homeX p rs) w' := by
  have hP := show Hid _ from fun (_ : Unit) => gplace_any B kb o t cs a c rs p w hlen hG
  have hI := show Hid _ from fun (w' : World) (hB' : B ≤ w'.heap.size) (hG' : GAt B kb o t cs a c rs w') => insert_any B kb o t cs a c rs (plcX p rs) p 0 0 0 false w' hB' hlen (plcX_le p rs) hG'
  have hle := plcX_le p rs
  have HU := show Hid _ from fun (_ : Unit) => hG
  have hkc := hG.cell
  unfold homeX
  by_cases hm : plcX p rs < rs.length
  · by_cases hp : (rs[plcX p rs]'hm).v.pt = p
    · rw [if_pos (by rw [List.getElem?_eq_getElem hm]; simp [hp])]
      rcases own_addr hG.own with ⟨_, h0⟩ | ⟨g, rfl⟩
      · omega
      have r0 := (g_row hG _ hm).1
      rw [hp] at r0
      have HR := show Hid _ from Upd.refl hG
      clear hG hI hp
      generalize plcX p rs = m at hm hP hle r0 ⊢
      have hne : ((m : Int) == (rs.length : Int)) = false := by rw [beq_eq_false_iff_ne]; omega
      have hmi : (m : Int) < (rs.length : Int) := by omega
      have hm0 : (0 : Int) ≤ (m : Int) := by omega
      have hq : ((p : Int) != (p : Int)) = false := by simp
      go_enter Tryz.func117, Tryz.ntmps117
      go_wp2_with fail
      refine (hP.out ()).mono ?_
      rintro en w1 ⟨rfl, rfl⟩
      go_wp2
      go_ret
      exact ⟨rfl, _, _, HR.out⟩
    · rw [if_neg (by rw [List.getElem?_eq_getElem hm]; simp [hp])]
      rcases own_addr hG.own with ⟨_, h0⟩ | ⟨g, rfl⟩
      · omega
      have r0 := (g_row hG _ hm).1
      have hq : (((rs[plcX p rs]'hm).v.pt : Int) != (p : Int)) = true := by simp; omega
      generalize (rs[plcX p rs]'hm).v.pt = q at r0 hq
      clear hG hp
      generalize rs.take (plcX p rs) ++ ⟨⟨p, 0, 0, 0⟩, false⟩ :: rs.drop (plcX p rs) = fin at hI ⊢
      generalize plcX p rs = m at hm hP hle r0 hI ⊢
      have hne : ((m : Int) == (rs.length : Int)) = false := by rw [beq_eq_false_iff_ne]; omega
      have hmi : (m : Int) < (rs.length : Int) := by omega
      have hm0 : (0 : Int) ≤ (m : Int) := by omega
      go_enter Tryz.func117, Tryz.ntmps117
      go_wp2_with fail
      refine (hP.out ()).mono ?_
      rintro en w1 ⟨rfl, rfl⟩
      go_wp2_with (go_at_call 123; refine (hI.out _ hB (HU.out ())).mono ?_; rintro en w2 ⟨rfl, a2, c2, hU⟩)
      go_ret
      exact ⟨rfl, a2, c2, hU⟩
  · rw [if_neg (by rw [List.getElem?_eq_none (by omega)]; simp)]
    clear hG
    generalize rs.take (plcX p rs) ++ ⟨⟨p, 0, 0, 0⟩, false⟩ :: rs.drop (plcX p rs) = fin at hI ⊢
    generalize plcX p rs = m at hm hP hle hI ⊢
    have hne : ((m : Int) == (rs.length : Int)) = true := by rw [beq_iff_eq]; omega
    clear hm hle
    go_enter Tryz.func117, Tryz.ntmps117
    go_wp2_with fail
    refine (hP.out ()).mono ?_
    rintro en w1 ⟨rfl, rfl⟩
    go_wp2_with (go_at_call 123; refine (hI.out _ hB (HU.out ())).mono ?_; rintro en w2 ⟨rfl, a2, c2, hU⟩)
    go_ret
    exact ⟨rfl, a2, c2, hU⟩

set_option maxRecDepth 100000 in
set_option maxHeartbeats 8000000 in
theorem add_any (B kb o : Nat) (t : TypeId) (cs : Array Value) (a : Option Addr) (c : Nat) (rs : List GX) (p : Nat) (dl ds : Int) (w : World) (hB : B ≤ w.heap.size) (hlen : rs.length ≤ 1000) (hG : GAt B kb o t cs a c rs w) (hd : -1 ≤ dl ∧ dl ≤ 1) (hrl : ∀ r ∈ rs, -100000 ≤ r.v.live ∧ r.v.live ≤ 100000) :
    Calls Tryz.prog 91 #[.pointer (some ⟨kb, o, none⟩), .agg #[.int .i32 (p : Int), .int .i64 dl, .int .i16 ds]] w fun en w' => en = .returned (.tuple #[]) ∧ ∃ a' c', GUpd B kb o t cs a c rs w a' c' (addX p dl ds rs) w' := by
  have hkl := hG.bl
  have hgl : ∀ g, (Value.slice a rs.length c).ownBlock = some g → g < w.heap.size := fun g hg => (own_ge hG.own g hg).2
  have hH0 := show Hid _ from fun (_ : Unit) => home_any B kb o t cs a c rs p (w.alloc (.cells #[.int .i32 (p : Int), .int .i64 dl, .int .i16 ds] 158)) (by simp; omega) hlen (hG.alloc (.cells #[.int .i32 (p : Int), .int .i64 dl, .int .i16 ds] 158))
  have HF0 := show Hid _ from (FrmX.refl (Xs kb a rs.length c) w).alloc (.cells #[.int .i32 (p : Int), .int .i64 dl, .int .i16 ds] 158)
  have hxb0 : (w.alloc (.cells #[.int .i32 (p : Int), .int .i64 dl, .int .i16 ds] 158)).heap[w.heap.size]? = some (.cells #[.int .i32 (p : Int), .int .i64 dl, .int .i16 ds] 158 (0, 0)) := heap_alloc_new w _
  have hx0 : (w.alloc (.cells #[.int .i32 (p : Int), .int .i64 dl, .int .i16 ds] 158)).cell? ⟨w.heap.size, 0, none⟩ = some (.int .i32 (p : Int)) := row_cell hxb0 0
  obtain ⟨hn, hpt, hin, hfin0⟩ := home_facts p rs
  have hb : -100000 ≤ ((homeX p rs)[plcX p rs]).v.live ∧ ((homeX p rs)[plcX p rs]).v.live ≤ 100000 := by
    rcases hin with h | h
    · exact hrl _ h
    · rw [h]; simp
  have hfin := hfin0 dl ds
  clear hfin0
  obtain ⟨r, hr⟩ : ∃ r, (homeX p rs)[plcX p rs] = r := ⟨_, rfl⟩
  rw [hr] at hb hfin
  have hsz : w.heap.size < (w.alloc (.cells #[.int .i32 (p : Int), .int .i64 dl, .int .i16 ds] 158)).heap.size := heap_lt hxb0
  clear hG hin hpt hrl
  obtain ⟨⟨rp, rl, rsm, re⟩, rc⟩ := r
  simp only at hb
  unfold GV.plus at hfin
  simp only at hfin
  have Hfin := show Hid _ from hfin
  clear hfin
  generalize homeX p rs = ls at hn hr hH0 Hfin
  generalize addX p dl ds rs = fin at Hfin ⊢
  generalize plcX p rs = n at hn hr hH0 Hfin
  go_enter Tryz.func91, Tryz.ntmps91
  go_wp2_with fail
  refine (hH0.out ()).mono ?_
  rintro en w4 ⟨rfl, a4, c4, hU⟩
  rcases own_addr hU.at'.own with ⟨_, h0⟩ | ⟨g, rfl⟩
  · omega
  have hgx : g ≠ w.heap.size := by
    rcases hU.row g rfl with h | h
    · have := hgl g h
      omega
    · omega
  have hxb : w4.heap[w.heap.size]? = some (.cells #[.int .i32 (p : Int), .int .i64 dl, .int .i16 ds] 158 (0, 0)) := hU.frm.block hxb0 (fun h => by
    rcases h with h | h
    · omega
    · have := hgl _ h
      omega)
  have HK := show Hid _ from hU.from HF0.out
  clear hU HF0 hxb0 hx0 hH0 hgl hsz
  have hkc3 := HK.out.at'.cell
  have hni : (n : Int) < (ls.length : Int) := by omega
  have hn0 : (0 : Int) ≤ (n : Int) := by omega
  go_wp2
  clear hkc3
  obtain ⟨r0, r1, r2, r3, r4⟩ := g_row HK.out.at'.drew n hn
  have hf1 := HK.out.at'.drew.frozenAt (n * 5 + 1)
  rw [hr] at r0 r1 r2 r3 r4
  simp only at r0 r1 r2 r3 r4
  have hxb' := show w4.drew.heap[w.heap.size]? = _ from hxb
  have HG1 := show Hid _ from g_set HK.out.drew n hn ⟨⟨rp, rl + dl, rsm, re⟩, rc⟩ 1 (.int .i64 (rl + dl)) (by decide) (by rw [hr]; rfl)
  clear HK hxb
  refine wp_region_held_drew (S := fun w' : World => w'.heap[w.heap.size]? = some (.cells #[.int .i32 (p : Int), .int .i64 dl, .int .i16 ds] 158 (0, 0))) (by kernel_rfl) hxb' (fun hH => ?_)
  generalize w4.drew = wd at HG1 hxb' r0 r1 r2 r3 r4 hf1 hH ⊢
  refine wpAnyH_take (i := 0) (v := (.pointer (some ⟨g, n * 5, none⟩))) rfl (by kernel_rfl) (by kernel_rfl) (by kernel_rfl) (fun _ _ _ h => h) (Or.inl ⟨by rfl, by intro v hSw; clear hSw; go_simp⟩) hH ?_
  refine wpAnyH_take (i := 1) (v := (.pointer (some ⟨g, n * 5, none⟩))) rfl (by kernel_rfl) (by kernel_rfl) (by kernel_rfl) (fun _ _ _ h => h) (Or.inl ⟨by rfl, by intro v hSw; clear hSw; go_simp⟩) hH ?_
  refine wpAnyH_take (i := 2) (v := (.pointer (some ⟨g, n * 5 + 1, none⟩))) rfl (by kernel_rfl) (by kernel_rfl) (by kernel_rfl) (fun _ _ _ h => h) (Or.inl ⟨by rfl, by intro v hSw; clear hSw; go_simp⟩) hH ?_
  refine wpAnyH_take (i := 4) (v := (.pointer (some ⟨w.heap.size, 1, none⟩))) rfl (by kernel_rfl) (by kernel_rfl) (by kernel_rfl) (fun _ _ _ h => h) (Or.inl ⟨by rfl, by intro v hSw; clear hSw; go_simp⟩) hH ?_
  refine wpAnyH_take (i := 5) (v := (.int .i64 dl)) rfl (by kernel_rfl) (by kernel_rfl) (by kernel_rfl) (fun _ _ _ h => h) (Or.inl ⟨by rfl, by intro v hSw; have s0 : v.cell? ⟨w.heap.size, 1, none⟩ = some (.int .i64 dl) := row_cell hSw 1; clear hSw; go_simp⟩) hH ?_
  refine wpAnyH_ready (rs := [3]) (by kernel_rfl) (by simp) ?_
  refine AllReadyH.cons rfl (fun K hK => ?_) AllReadyH.nil
  clear hH
  go_simp
  refine hK.out _ _ hxb' (fun hH => ?_)
  clear hK K
  refine wpAnyH_take (i := 6) (v := (.int .i64 (rl + dl))) rfl (by kernel_rfl) (by kernel_rfl) (by kernel_rfl) (fun _ _ _ h => h) (Or.inl ⟨by rfl, by intro v hSw; clear hSw; go_simp; rw [IntWalk.i64_in _ ⟨by omega, by omega⟩]⟩) hH ?_
  refine wpAnyH_take (i := 7) (v := (.pointer (some ⟨g, n * 5, none⟩))) rfl (by kernel_rfl) (by kernel_rfl) (by kernel_rfl) (fun _ _ _ h => h) (Or.inl ⟨by rfl, by intro v hSw; clear hSw; go_simp⟩) hH ?_
  refine wpAnyH_take (i := 8) (v := (.pointer (some ⟨g, n * 5 + 1, none⟩))) rfl (by kernel_rfl) (by kernel_rfl) (by kernel_rfl) (fun _ _ _ h => h) (Or.inl ⟨by rfl, by intro v hSw; clear hSw; go_simp⟩) hH ?_
  refine wpAnyH_ready (rs := [9]) (by kernel_rfl) (by simp) ?_
  refine AllReadyH.cons rfl (fun K hK => ?_) AllReadyH.nil
  clear hH
  go_simp
  have hxb2 := (Below.heap_setCell wd ⟨g, n * 5 + 1, none⟩ (.int .i64 (rl + dl)) w.heap.size (by simp only; omega)).trans hxb'
  refine hK.out _ _ hxb2 (fun hH => ?_)
  clear hK K hH r0 r1 r2 r3 r4 hf1 hxb'
  refine wpAnyH_done (by kernel_rfl) ?_ _
  generalize wd.setCell ⟨g, n * 5 + 1, none⟩ (.int .i64 (rl + dl)) = w4 at HG1 hxb2 ⊢
  clear wd
  have hn2 : n < (ls.set n ⟨⟨rp, rl + dl, rsm, re⟩, rc⟩).length := by simpa using hn
  have hr2 : (ls.set n ⟨⟨rp, rl + dl, rsm, re⟩, rc⟩)[n] = ⟨⟨rp, rl + dl, rsm, re⟩, rc⟩ := by simp
  have hset : ∀ y, (ls.set n ⟨⟨rp, rl + dl, rsm, re⟩, rc⟩).set n y = ls.set n y := fun y => by rw [List.set_set]
  have HK := HG1
  have hxb := hxb2
  clear HG1 hxb2
  rw [← hset] at Hfin
  clear hset hr hni
  generalize ls.set n ⟨⟨rp, rl + dl, rsm, re⟩, rc⟩ = l2 at hn2 hr2 HK Hfin
  clear hn
  obtain ⟨hn, hr⟩ : ∃ h : n < l2.length, l2[n] = ⟨⟨rp, rl + dl, rsm, re⟩, rc⟩ := ⟨hn2, hr2⟩
  clear hr2 hn2
  go_wp2
  obtain ⟨r0, r1, r2, r3, r4⟩ := g_row HK.out.at'.drew n hn
  have hf1 := HK.out.at'.drew.frozenAt (n * 5 + 2)
  rw [hr] at r0 r1 r2 r3 r4
  simp only at r0 r1 r2 r3 r4
  have hxb' := show w4.drew.heap[w.heap.size]? = _ from hxb
  have HG1 := show Hid _ from g_set HK.out.drew n hn ⟨⟨rp, rl + dl, wrap16 (rsm + ds), re⟩, rc⟩ 2 (.int .i16 (wrap16 (rsm + ds))) (by decide) (by rw [hr]; rfl)
  clear HK hxb
  refine wp_region_held_drew (S := fun w' : World => w'.heap[w.heap.size]? = some (.cells #[.int .i32 (p : Int), .int .i64 dl, .int .i16 ds] 158 (0, 0))) (by kernel_rfl) hxb' (fun hH => ?_)
  generalize w4.drew = wd at HG1 hxb' r0 r1 r2 r3 r4 hf1 hH ⊢
  refine wpAnyH_take (i := 0) (v := (.pointer (some ⟨g, n * 5, none⟩))) rfl (by kernel_rfl) (by kernel_rfl) (by kernel_rfl) (fun _ _ _ h => h) (Or.inl ⟨by rfl, by intro v hSw; clear hSw; go_simp⟩) hH ?_
  refine wpAnyH_take (i := 1) (v := (.pointer (some ⟨g, n * 5, none⟩))) rfl (by kernel_rfl) (by kernel_rfl) (by kernel_rfl) (fun _ _ _ h => h) (Or.inl ⟨by rfl, by intro v hSw; clear hSw; go_simp⟩) hH ?_
  refine wpAnyH_take (i := 2) (v := (.pointer (some ⟨g, n * 5 + 2, none⟩))) rfl (by kernel_rfl) (by kernel_rfl) (by kernel_rfl) (fun _ _ _ h => h) (Or.inl ⟨by rfl, by intro v hSw; clear hSw; go_simp⟩) hH ?_
  refine wpAnyH_take (i := 4) (v := (.pointer (some ⟨w.heap.size, 2, none⟩))) rfl (by kernel_rfl) (by kernel_rfl) (by kernel_rfl) (fun _ _ _ h => h) (Or.inl ⟨by rfl, by intro v hSw; clear hSw; go_simp⟩) hH ?_
  refine wpAnyH_take (i := 5) (v := (.int .i16 ds)) rfl (by kernel_rfl) (by kernel_rfl) (by kernel_rfl) (fun _ _ _ h => h) (Or.inl ⟨by rfl, by intro v hSw; have s0 : v.cell? ⟨w.heap.size, 2, none⟩ = some (.int .i16 ds) := row_cell hSw 2; clear hSw; go_simp⟩) hH ?_
  refine wpAnyH_ready (rs := [3]) (by kernel_rfl) (by simp) ?_
  refine AllReadyH.cons rfl (fun K hK => ?_) AllReadyH.nil
  clear hH
  go_simp
  refine hK.out _ _ hxb' (fun hH => ?_)
  clear hK K
  refine wpAnyH_take (i := 6) (v := (.int .i16 (wrap16 (rsm + ds)))) rfl (by kernel_rfl) (by kernel_rfl) (by kernel_rfl) (fun _ _ _ h => h) (Or.inl ⟨by rfl, by intro v hSw; clear hSw; go_simp; exact wrap_i16 _⟩) hH ?_
  refine wpAnyH_take (i := 7) (v := (.pointer (some ⟨g, n * 5, none⟩))) rfl (by kernel_rfl) (by kernel_rfl) (by kernel_rfl) (fun _ _ _ h => h) (Or.inl ⟨by rfl, by intro v hSw; clear hSw; go_simp⟩) hH ?_
  refine wpAnyH_take (i := 8) (v := (.pointer (some ⟨g, n * 5 + 2, none⟩))) rfl (by kernel_rfl) (by kernel_rfl) (by kernel_rfl) (fun _ _ _ h => h) (Or.inl ⟨by rfl, by intro v hSw; clear hSw; go_simp⟩) hH ?_
  refine wpAnyH_ready (rs := [9]) (by kernel_rfl) (by simp) ?_
  refine AllReadyH.cons rfl (fun K hK => ?_) AllReadyH.nil
  clear hH
  go_simp
  have hxb2 := (Below.heap_setCell wd ⟨g, n * 5 + 2, none⟩ (.int .i16 (wrap16 (rsm + ds))) w.heap.size (by simp only; omega)).trans hxb'
  refine hK.out _ _ hxb2 (fun hH => ?_)
  clear hK K hH r0 r1 r2 r3 r4 hf1 hxb'
  refine wpAnyH_done (by kernel_rfl) ?_ _
  generalize wd.setCell ⟨g, n * 5 + 2, none⟩ (.int .i16 (wrap16 (rsm + ds))) = w4 at HG1 hxb2 ⊢
  clear wd
  have hn2 : n < (l2.set n ⟨⟨rp, rl + dl, wrap16 (rsm + ds), re⟩, rc⟩).length := by simpa using hn
  have hr2 : (l2.set n ⟨⟨rp, rl + dl, wrap16 (rsm + ds), re⟩, rc⟩)[n] = ⟨⟨rp, rl + dl, wrap16 (rsm + ds), re⟩, rc⟩ := by simp
  have hset : ∀ y, (l2.set n ⟨⟨rp, rl + dl, wrap16 (rsm + ds), re⟩, rc⟩).set n y = l2.set n y := fun y => by rw [List.set_set]
  rw [← hset] at Hfin
  clear hset hr
  generalize l2.set n ⟨⟨rp, rl + dl, wrap16 (rsm + ds), re⟩, rc⟩ = l3 at hn2 hr2 HG1 Hfin
  generalize wrap16 (rsm + ds) = rsm' at hr2 Hfin
  obtain ⟨r0, r1, r2, r3, r4⟩ := g_row HG1.out.at' n hn2
  have hf3 := HG1.out.at'.frozenAt (n * 5 + 3)
  rw [hr2] at r0 r1 r2 r3 r4
  simp only at r0 r1 r2 r3 r4
  have HG2 := show Hid _ from g_set HG1.out n hn2 ⟨⟨rp, rl + dl, rsm', (re + 1) % 256⟩, rc⟩ 3 (.int .u8 ((re + 1) % 256)) (by decide) (by rw [hr2]; rfl)
  have r4' : (w4.setCell ⟨g, n * 5 + 3, none⟩ (.int .u8 ((re + 1) % 256))).cell? ⟨g, n * 5 + 4, none⟩ = some (.bool rc) := by
    have := (g_row HG2.out.at' n (by simpa using hn2)).2.2.2.2
    simpa using this
  have hf4 := HG2.out.at'.frozenAt (n * 5 + 4)
  have HG3 := show Hid _ from g_set HG2.out n (by simpa using hn2) ⟨⟨rp, rl + dl, rsm', (re + 1) % 256⟩, true⟩ 4 (.bool true) (by decide) (by simp [gCells1])
  rw [List.set_set, Hfin.out] at HG3
  clear HG2 HG1 hxb2 Hfin
  have hw8 : IntKind.u8.wrap (re + 1) = (re + 1) % 256 := IntKind.wrap_u8 _
  go_wp2
  go_end0
  exact ⟨rfl, _, _, HG3.out⟩

end Go.Proofs.YthccpacmklhejaaGreatDoor
