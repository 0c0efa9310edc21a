/-
  Several texts in one.
-/
import Derived.Test.YthccpacmklhejaaGreatDoorK36
import Derived.Test.YthccpacmklhejaaGreatDoorK33
import Derived.Test.YthccpacmklhejaaGreatDoorK39
namespace Go.Proofs.YthccpacmklhejaaGreatDoor
open Go.RowKit

/-- Behind the making of a change. -/
def NCut (w : World) (had : Bool) (last : Nat) (there : Bool) (value : Int) (count op : Nat) (key : ByteArray) (seq : Nat) (val : Int) (kb nb p : Nat) (tx : ByteArray) (cl cd : Int) (wk : World) : Prop :=
  wk.heap[nb]? = some (.cells #[.int .i64 (p : Int), .string tx, .int .i64 cl, .int .i64 cd] 149 (0, 0)) ∧ wk.heap[kb]? = some (.cells #[.bool had, .int .i64 (last : Int), .bool there, .int .i64 value, .int .i64 (count : Int)] 141 (0, 0)) ∧ wk.heap[w.heap.size]? = some (.cells #[.int .u8 (op : Int), .string key, .int .u16 (seq : Int), .int .i16 val] 41 (0, 0)) ∧ Below w.heap.size w wk ∧ w.heap.size < nb ∧ kb < nb

theorem AppQ.drew {w w' : World} {v v' : Value} (h : AppQ w w' v v') : AppQ w w'.drew v v' := by
  rcases h with ⟨h1, h2⟩ | ⟨h1, h2, h3⟩
  · exact .inl ⟨⟨h1.os, h1.tape, h1.output, h1.size, h1.block⟩, h2⟩
  · exact .inr ⟨⟨h1.os, h1.tape, h1.output, h1.size, h1.block⟩, h2, h3⟩

set_option maxRecDepth 100000 in
set_option maxHeartbeats 8000000 in
theorem sort_go {w : World} {jb W rm i g1 cs' b1 gq off ln qc ge N ec xn : Nat} {e : Ev} (h : SortC w jb W rm i g1 cs' b1 gq off ln qc ge N ec xn e) (B : Nat) (Q : World → Prop) (gs : List Ev) (ga : Option Addr) (gc : Nat) (c3 : w.cell? ⟨b1, 0, none⟩ = some (.slice ga gs.length gc)) (hgs : IsEvs w ga gs) (hgl : gs.length ≤ 900) (hct : (knOf e.key gs).counts e = true)
    (hk0 : 0 < e.key.size) (hk1 : e.key.size ≤ 1000) (p : Nat) (tx : ByteArray) (hgr : grp e.key = (p, tx)) (a g2 ca b2 gp pc : Nat) (va : Option Addr) (la vc : Nat) (hpa : p % W = a) (haw : a < W) (c5 : w.cell? ⟨jb, 5, none⟩ = some (.slice (some ⟨g2, 0, none⟩) W ca)) (d2 : w.cell? ⟨g2, a, none⟩ = some (.pointer (some ⟨b2, 0, none⟩))) (e5 : w.cell? ⟨b2, 1, none⟩ = some (.slice (some ⟨gp, 0, none⟩) W pc)) (f1 : w.cell? ⟨gp, i, none⟩ = some (.slice va la vc))
    (hla : la < rm) (hrm : rm ≤ 400) (hB : B ≤ w.heap.size) (ys : List Value) (hq : qRow w B 149 4 (.slice va la vc) la ys) (cl cd : Int) (hcl : cl = (if e.op = 1 then 1 else 0) - (if (knOf e.key gs).there then 1 else 0)) (hcd : cd = (if e.op = 1 then e.val else 0) - (if (knOf e.key gs).there then (knOf e.key gs).value else 0)) (hkv : -32768 ≤ (knOf e.key gs).value ∧ (knOf e.key gs).value ≤ 32767)
    (HP : ∀ wa v' w5, Below w.heap.size w wa → qRow w5 B 149 4 v' (la + 1) (ys ++ [.int .i64 (p : Int), .string tx, .int .i64 cl, .int .i64 cd]) → AppQ wa w5 (.slice va la vc) v' → w5.cell? ⟨gp, i, none⟩ = some (.slice va la vc) ∧ w5.frozen? ⟨gp, i, none⟩ = false ∧ w5.cell? ⟨b2, 1, none⟩ = some (.slice (some ⟨gp, 0, none⟩) W pc) ∧ (w5.setCell ⟨gp, i, none⟩ v').cell? ⟨b2, 1, none⟩ = some (.slice (some ⟨gp, 0, none⟩) W pc) ∧
      GotG B b1 w.heap.size (w5.setCell ⟨gp, i, none⟩ v') (.slice ga gs.length gc) gs.length (evCells gs) (evCells1 e) (TailG b1 gq off ln qc Q)) :
    Calls Tryz.prog 45 #[.pointer (some ⟨jb, 0, none⟩), .int .i64 (i : Int)] w fun en w' => en = .returned (.int .i64 0) ∧ Q w' := by
  obtain ⟨c0, c1, c2, c4, d1, p1, q0, e0, e1, e2, e3, hi, hW, hx, hN, hcap, hok⟩ := h
  obtain ⟨i0, hi0, hz0, hz1, hz2⟩ := info_parts Tryz.infoEv
  have hkl : (knOf e.key gs).last < 65536 := (knOf_last fun e he => (hgs.1 e he).2.1).1
  have HC := show Hid (∀ w, Calls Tryz.prog 78 #[(knOf e.key gs).value', e.value] w fun en w' => en = .returned (.bool ((knOf e.key gs).counts e)) ∧ Below w.heap.size w w') from fun w => counts_any (knOf e.key gs) e w hkl hok.2.1
  have HK := show Hid (∀ w', Below w.heap.size w w' → Calls Tryz.prog 70 #[.slice ga gs.length gc, .string e.key] w' fun en w'' => en = .returned (knOf e.key gs).value' ∧ Below w'.heap.size w' w'') from fun w' hb' => rknown_any ga gc gs e.key w' (by omega) (hgs.below hb')
  rw [hct] at HC
  have hvb : -32768 ≤ e.val ∧ e.val ≤ 32767 := hok.2.2
  have hopb : e.op < 256 := hok.1
  clear hgs hct hkl hok
  generalize knOf e.key gs = kn at HC HK hcl hcd hkv
  obtain ⟨had, last, there, value, count⟩ := kn
  obtain ⟨op, key, seq, val⟩ := e
  unfold Kn.value' Ev.value at HC
  unfold Kn.value' at HK
  simp only at HC HK e0 e1 e2 e3 hcl hcd hkv hgr hk0 hk1 hvb hopb
  have HPP := show Hid _ from HP
  have hvl : ∀ g, (Value.slice va la vc).ownBlock = some g → g < w.heap.size := q_lt hq
  have Hvl := show Hid _ from hvl
  have Hq := show Hid (qRow w B 149 4 (.slice va la vc) la ys) from hq
  have hgpl : gp < w.heap.size := cell_lt f1
  clear HP hvl hq
  obtain ⟨j0, hj0, hy0, hy1, hy2⟩ := info_parts Tryz.infoChange
  have hf0 : ((la : Int) == (rm : Int)) = false := by rw [beq_eq_false_iff_ne]; omega
  have HCL := show Hid (_ ∧ _) from And.intro hcl hcd
  clear hcl hcd
  have h1 : (i : Int) < (W : Int) := by omega
  have h2 : (0 : Int) ≤ (i : Int) := by omega
  have h3 : (xn : Int) < (N : Int) := by omega
  have h4 : (0 : Int) ≤ (xn : Int) := by omega
  have hn0 : (((ln : Int) + 1) == 0) = false := by rw [beq_eq_false_iff_ne]; omega
  have hln1 : (0 : Int) < (ln : Int) + 1 := by omega
  have hx0 : ¬ (xn : Int) < 0 := by omega
  have HS := show Hid (SortS jb b1 gq off ln qc ge N ec xn op key seq val w) from ⟨c2, p1, q0, e0, e1, e2, e3⟩
  generalize gs.length = ng at *
  have HGr := show Hid _ from fun w => groupOf_any key w hk0 hk1
  rw [hgr] at HGr
  simp only at HGr
  have hr0 : ((W : Int) == 0) = false := by rw [beq_eq_false_iff_ne]; omega
  have hr1 : (p : Int).tmod (W : Int) = (a : Int) := by rw [Int.tmod_eq_emod_of_nonneg (by omega)]; omega
  have ha5 : (0 : Int) ≤ (a : Int) := by omega
  have ha6 : (a : Int) < (W : Int) := by omega
  have HCC := show Hid (_ ∧ _ ∧ _ ∧ _ ∧ _ ∧ _) from And.intro c0 (And.intro c1 (And.intro c5 (And.intro d2 (And.intro e5 f1))))
  clear c0 c1 c5 d2 e5 f1
  go_enter Tryz.func45, Tryz.ntmps45
  go_wp2
  have HSd : SortS jb b1 gq off ln qc ge N ec xn op key seq val w.drew := HS.out
  refine wp_region_held_drew (S := SortS jb b1 gq off ln qc ge N ec xn op key seq val) (by kernel_rfl) HSd (fun hH => ?_)
  clear c2 c4 d1 p1 q0 e0 e1 e2 e3
  refine wpAnyH_take (i := 0) (v := (.pointer (some ⟨jb, 0, none⟩))) rfl (by kernel_rfl) (by kernel_rfl) (by kernel_rfl) (fun _ _ _ h => h) (Or.inl ⟨by rfl, by intro v hSw; clear hSw; go_simp⟩) hH ?_
  refine wpAnyH_take (i := 1) (v := (.pointer (some ⟨jb, 0, none⟩))) rfl (by kernel_rfl) (by kernel_rfl) (by kernel_rfl) (fun _ _ _ h => h) (Or.inl ⟨by rfl, by intro v hSw; clear hSw; go_simp⟩) hH ?_
  refine wpAnyH_take (i := 2) (v := (.pointer (some ⟨jb, 2, none⟩))) rfl (by kernel_rfl) (by kernel_rfl) (by kernel_rfl) (fun _ _ _ h => h) (Or.inl ⟨by rfl, by intro v hSw; clear hSw; go_simp⟩) hH ?_
  refine wpAnyH_take (i := 3) (v := (.slice (some ⟨ge, 0, none⟩) N ec)) rfl (by kernel_rfl) (by kernel_rfl) (by kernel_rfl) (fun _ _ _ h => h) (Or.inl ⟨by rfl, by intro v hSw; have s0 := hSw.1; clear hSw; go_simp⟩) hH ?_
  refine wpAnyH_take (i := 4) (v := (.pointer (some ⟨b1, 0, none⟩))) rfl (by kernel_rfl) (by kernel_rfl) (by kernel_rfl) (fun _ _ _ h => h) (Or.inl ⟨by rfl, by intro v hSw; clear hSw; go_simp⟩) hH ?_
  refine wpAnyH_take (i := 5) (v := (.pointer (some ⟨b1, 0, none⟩))) rfl (by kernel_rfl) (by kernel_rfl) (by kernel_rfl) (fun _ _ _ h => h) (Or.inl ⟨by rfl, by intro v hSw; clear hSw; go_simp⟩) hH ?_
  refine wpAnyH_take (i := 6) (v := (.pointer (some ⟨b1, 1, none⟩))) rfl (by kernel_rfl) (by kernel_rfl) (by kernel_rfl) (fun _ _ _ h => h) (Or.inl ⟨by rfl, by intro v hSw; clear hSw; go_simp⟩) hH ?_
  refine wpAnyH_take (i := 7) (v := (.slice (some ⟨gq, off, none⟩) (ln + 1) qc)) rfl (by kernel_rfl) (by kernel_rfl) (by kernel_rfl) (fun _ _ _ h => h) (Or.inl ⟨by rfl, by intro v hSw; have s0 := hSw.2.1; clear hSw; go_simp⟩) hH ?_
  refine wpAnyH_take (i := 8) (v := (.pointer (some ⟨gq, off, none⟩))) rfl (by kernel_rfl) (by kernel_rfl) (by kernel_rfl) (fun _ _ _ h => h) (Or.inl ⟨by rfl, by intro v hSw; clear hSw; go_simp⟩) hH ?_
  refine wpAnyH_take (i := 9) (v := (.int .i64 (xn : Int))) rfl (by kernel_rfl) (by kernel_rfl) (by kernel_rfl) (fun _ _ _ h => h) (Or.inl ⟨by rfl, by intro v hSw; have s0 := hSw.2.2.1; clear hSw; go_simp⟩) hH ?_
  refine wpAnyH_take (i := 10) (v := (.pointer (some ⟨ge, xn * 4, none⟩))) rfl (by kernel_rfl) (by kernel_rfl) (by kernel_rfl) (fun _ _ _ h => h) (Or.inl ⟨by rfl, by intro v hSw; clear hSw; go_simp⟩) hH ?_
  refine wpAnyH_take (i := 11) (v := (.agg #[.int .u8 (op : Int), .string key, .int .u16 (seq : Int), .int .i16 val])) rfl (by kernel_rfl) (by kernel_rfl) (by kernel_rfl) (fun _ _ _ h => h) (Or.inl ⟨by rfl, by intro v hSw; have s0 := hSw.2.2.2.1; have s1 := hSw.2.2.2.2.1; have s2 := hSw.2.2.2.2.2.1; have s3 := hSw.2.2.2.2.2.2; clear hSw; go_simp⟩) hH ?_
  refine wpAnyH_ready (rs := [12]) (by kernel_rfl) (by simp) ?_
  refine AllReadyH.cons rfl (fun K hK => ?_) AllReadyH.nil
  clear hH
  go_simp
  refine hK.out _ _ (HS.out.below ((Below.refl _ _).alloc (Nat.le_refl _) _).drew) (fun hH => ?_)
  clear hK K
  refine wpAnyH_ready (rs := [13]) (by kernel_rfl) (by simp) ?_
  refine AllReadyH.cons rfl (fun K hK => ?_) AllReadyH.nil
  clear hH
  go_simp
  have hbe : (w.alloc (.cells #[.int .u8 (op : Int), .string key, .int .u16 (seq : Int), .int .i16 val] 41)).drew.heap[w.heap.size]? = some (.cells #[.int .u8 (op : Int), .string key, .int .u16 (seq : Int), .int .i16 val] 41 (0, 0)) := heap_alloc_new w _
  have HB := show Hid (Below w.heap.size w (w.alloc (.cells #[.int .u8 (op : Int), .string key, .int .u16 (seq : Int), .int .i16 val] 41)).drew) from ((Below.refl _ _).alloc (Nat.le_refl _) _).drew
  refine hK.out _ _ (HS.out.below HB.out) (fun hH => ?_)
  clear hK K hH
  refine wpAnyH_done (by kernel_rfl) ?_ _
  have c3e := cell_below c3 HB.out
  clear HSd HS
  generalize (w.alloc (.cells #[.int .u8 (op : Int), .string key, .int .u16 (seq : Int), .int .i16 val] 41)).drew = we at hbe HB c3e ⊢
  go_wp2
  go_cut [9] from 129 (fun s9 wc => ∃ kb : Nat, s9 = Value.pointer (some ⟨kb, 0, none⟩) ∧ KCut w b1 ga ng gc had last there value count op key seq val kb wc)
  case first =>
    have HBd : Below w.heap.size w we.drew := HB.out.drew
    have hbd : we.drew.heap[w.heap.size]? = some (.cells #[.int .u8 (op : Int), .string key, .int .u16 (seq : Int), .int .i16 val] 41 (0, 0)) := hbe
    have c3d : we.drew.cell? ⟨b1, 0, none⟩ = some (.slice ga ng gc) := c3e
    clear c3e hbe HB
    refine wp_region_held_drew (S := fun w' : World => w'.cell? ⟨b1, 0, none⟩ = some (.slice ga ng gc) ∧ w'.heap[w.heap.size]? = some (.cells #[.int .u8 (op : Int), .string key, .int .u16 (seq : Int), .int .i16 val] 41 (0, 0))) (by kernel_rfl) ⟨c3d, hbd⟩ (fun hH => ?_)
    generalize we.drew = wd at HBd hbd c3d hH ⊢
    refine wpAnyH_take (i := 0) (v := (.pointer (some ⟨b1, 0, none⟩))) rfl (by kernel_rfl) (by kernel_rfl) (by kernel_rfl) (fun _ _ _ h => h) (Or.inl ⟨by rfl, by intro v hSw; clear hSw; go_simp⟩) hH ?_
    refine wpAnyH_take (i := 1) (v := (.pointer (some ⟨b1, 0, none⟩))) rfl (by kernel_rfl) (by kernel_rfl) (by kernel_rfl) (fun _ _ _ h => h) (Or.inl ⟨by rfl, by intro v hSw; clear hSw; go_simp⟩) hH ?_
    refine wpAnyH_take (i := 2) (v := (.pointer (some ⟨b1, 0, none⟩))) rfl (by kernel_rfl) (by kernel_rfl) (by kernel_rfl) (fun _ _ _ h => h) (Or.inl ⟨by rfl, by intro v hSw; clear hSw; go_simp⟩) hH ?_
    refine wpAnyH_take (i := 3) (v := (.slice ga ng gc)) rfl (by kernel_rfl) (by kernel_rfl) (by kernel_rfl) (fun _ _ _ h => h) (Or.inl ⟨by rfl, by intro v hSw; have s0 := hSw.1; clear hSw; go_simp⟩) hH ?_
    refine wpAnyH_take (i := 4) (v := (.pointer (some ⟨w.heap.size, 1, none⟩))) rfl (by kernel_rfl) (by kernel_rfl) (by kernel_rfl) (fun _ _ _ h => h) (Or.inl ⟨by rfl, by intro v hSw; clear hSw; go_simp⟩) hH ?_
    refine wpAnyH_take (i := 5) (v := (.string key)) rfl (by kernel_rfl) (by kernel_rfl) (by kernel_rfl) (fun _ _ _ h => h) (Or.inl ⟨by rfl, by intro v hSw; have s0 : v.cell? ⟨w.heap.size, 1, none⟩ = some (.string key) := row_cell hSw.2 1; clear hSw; go_simp⟩) hH ?_
    have hlt := heap_lt hbd
    refine wpAnyH_ready (rs := [6, 7]) (by kernel_rfl) (by simp) ?_
    refine AllReadyH.cons rfl (fun K hK => ?_) (AllReadyH.cons rfl (fun K hK => ?_) AllReadyH.nil)
    focus
      clear hH
      go_simp
      go_wp2_with (go_at_call 70; refine (HK.out _ HBd).mono ?_; rintro en w1 ⟨rfl, hb1⟩)
      have hbd1 := (hb1.block _ hlt).trans hbd
      have c31 := cell_below c3d hb1
      have HB1 : Below w.heap.size w w1 := HBd.trans (hb1.mono HBd.size)
      have hlt1 := heap_lt hbd1
      refine hK.out _ _ ⟨c31, hbd1⟩ (fun hH => ?_)
      clear hK K
      refine wpAnyH_ready (rs := [7]) (by kernel_rfl) (by simp) ?_
      refine AllReadyH.cons rfl (fun K hK => ?_) AllReadyH.nil
      clear hH
      go_simp
      refine hK.out _ _ ⟨cell_below c31 ((Below.refl _ _).alloc (Nat.le_refl _) _), (Below.heap_alloc _ _ _ hlt1).trans hbd1⟩ (fun hH => ?_)
      clear hK K
      refine wpAnyH_ready (rs := [8]) (by kernel_rfl) (by simp) ?_
      refine AllReadyH.cons rfl (fun K hK => ?_) AllReadyH.nil
      clear hH
      go_simp
      have hkk := heap_alloc_new w1 (.cells #[.bool had, .int .i64 (last : Int), .bool there, .int .i64 value, .int .i64 (count : Int)] 141)
      have hbk := (Below.heap_alloc w1 (.cells #[.bool had, .int .i64 (last : Int), .bool there, .int .i64 value, .int .i64 (count : Int)] 141) _ hlt1).trans hbd1
      have c3k := cell_below c31 ((Below.refl w1.heap.size w1).alloc (Nat.le_refl _) (.cells #[.bool had, .int .i64 (last : Int), .bool there, .int .i64 value, .int .i64 (count : Int)] 141))
      have HBk : Below w.heap.size w (w1.alloc (.cells #[.bool had, .int .i64 (last : Int), .bool there, .int .i64 value, .int .i64 (count : Int)] 141)) := HB1.alloc HB1.size _
      refine hK.out _ _ ⟨c3k, hbk⟩ (fun hH => ?_)
      clear hK K hH
      have hne : w1.heap.size ≠ w.heap.size := Nat.ne_of_gt hlt1
      clear hlt1 hlt c3d hbd HBd c31 hbd1 HB1 hb1
      generalize w1.alloc (.cells #[.bool had, .int .i64 (last : Int), .bool there, .int .i64 value, .int .i64 (count : Int)] 141) = wk at hkk hbk c3k HBk ⊢
      generalize w1.heap.size = kb at hkk hne ⊢
      clear w1
      refine wpAnyH_done (by kernel_rfl) ?_ _
      go_wp2_with fail
      go_meet
      exact ⟨kb, rfl, hkk, hbk, c3k, HBk, hne⟩
    focus
      clear hH
      go_simp
      have hkk := heap_alloc_new wd (.cells #[.bool false, .int .i64 0, .bool false, .int .i64 0, .int .i64 0] 141)
      have hbk := (Below.heap_alloc wd (.cells #[.bool false, .int .i64 0, .bool false, .int .i64 0, .int .i64 0] 141) _ hlt).trans hbd
      have c3k := cell_below c3d ((Below.refl wd.heap.size wd).alloc (Nat.le_refl _) (.cells #[.bool false, .int .i64 0, .bool false, .int .i64 0, .int .i64 0] 141))
      have HBk : Below w.heap.size w (wd.alloc (.cells #[.bool false, .int .i64 0, .bool false, .int .i64 0, .int .i64 0] 141)) := HBd.alloc HBd.size _
      refine hK.out _ _ ⟨c3k, hbk⟩ (fun hH => ?_)
      clear hK K
      have hne : wd.heap.size ≠ w.heap.size := Nat.ne_of_gt hlt
      have hle : w.heap.size ≤ wd.heap.size := HBd.size
      clear hlt c3d hbd HBd
      generalize wd.alloc (.cells #[.bool false, .int .i64 0, .bool false, .int .i64 0, .int .i64 0] 141) = wa at hkk hbk c3k HBk hH ⊢
      have hb1k : b1 ≠ wd.heap.size := Nat.ne_of_lt (Nat.lt_of_lt_of_le (cell_lt c3) hle)
      generalize wd.heap.size = kb at hkk hne hle hb1k hH ⊢
      clear wd
      refine wpAnyH_ready (rs := [6]) (by kernel_rfl) (by simp) ?_
      refine AllReadyH.cons rfl (fun K hK => ?_) AllReadyH.nil
      clear hH
      go_simp
      go_wp2_with (go_at_call 70; refine (HK.out _ HBk).mono ?_; rintro en w1 ⟨rfl, hb1⟩)
      have hkk1 := (hb1.block _ (heap_lt hkk)).trans hkk
      have hbk1 := (hb1.block _ (heap_lt hbk)).trans hbk
      have c3k1 := cell_below c3k hb1
      have HBk1 : Below w.heap.size w w1 := HBk.trans (hb1.mono HBk.size)
      refine hK.out _ _ ⟨c3k1, hbk1⟩ (fun hH => ?_)
      clear hK K hkk hbk c3k HBk hb1
      clear wa
      refine wpAnyH_ready (rs := [8]) (by kernel_rfl) (by simp) ?_
      refine AllReadyH.cons rfl (fun K hK => ?_) AllReadyH.nil
      clear hH
      have y0 : w1.cell? ⟨kb, 0, none⟩ = some (.bool false) := row_cell hkk1 0
      have y1 : w1.cell? ⟨kb, 1, none⟩ = some (.int .i64 0) := row_cell hkk1 1
      have y2 : w1.cell? ⟨kb, 2, none⟩ = some (.bool false) := row_cell hkk1 2
      have y3 : w1.cell? ⟨kb, 3, none⟩ = some (.int .i64 0) := row_cell hkk1 3
      have y4 : w1.cell? ⟨kb, 4, none⟩ = some (.int .i64 0) := row_cell hkk1 4
      have z0 : w1.frozen? ⟨kb, 0, none⟩ = false := row_frozen hkk1 0
      have z1 : w1.frozen? ⟨kb, 1, none⟩ = false := row_frozen hkk1 1
      have z2 : w1.frozen? ⟨kb, 2, none⟩ = false := row_frozen hkk1 2
      have z3 : w1.frozen? ⟨kb, 3, none⟩ = false := row_frozen hkk1 3
      have z4 : w1.frozen? ⟨kb, 4, none⟩ = false := row_frozen hkk1 4
      go_simp
      obtain ⟨hkk, HBk, hoth⟩ := fill5 hkk1 HBk1 hle (.bool had) (.int .i64 (last : Int)) (.bool there) (.int .i64 value) (.int .i64 (count : Int))
      have hbk := (hoth _ (Ne.symm hne)).trans hbk1
      have c3k := (World.cell?_of_block (a := ⟨b1, 0, none⟩) (hoth b1 hb1k)).trans c3k1
      clear hoth y0 y1 y2 y3 y4 z0 z1 z2 z3 z4 hkk1 hbk1 c3k1 HBk1 hle
      generalize (((((w1.setCell ⟨kb, 0, none⟩ (.bool had)).setCell ⟨kb, 1, none⟩ (.int .i64 (last : Int))).setCell ⟨kb, 2, none⟩ (.bool there)).setCell ⟨kb, 3, none⟩ (.int .i64 value)).setCell ⟨kb, 4, none⟩ (.int .i64 (count : Int))) = wk at hkk hbk c3k HBk ⊢
      refine hK.out _ _ ⟨c3k, hbk⟩ (fun hH => ?_)
      clear hK K hH
      clear w1
      refine wpAnyH_done (by kernel_rfl) ?_ _
      go_wp2_with fail
      go_meet
      exact ⟨kb, rfl, hkk, hbk, c3k, HBk, hne⟩
  case rest =>
    obtain ⟨kb, rfl, hkk, hbk, c3k, HBk, hne⟩ := hcut
    clear hbe HB c3e
    clear we
    revert wc
    intro wk hkk hbk c3k HBk
    have y0 : wk.cell? ⟨kb, 0, none⟩ = some (.bool had) := row_cell hkk 0
    have y1 : wk.cell? ⟨kb, 1, none⟩ = some (.int .i64 (last : Int)) := row_cell hkk 1
    have y2 : wk.cell? ⟨kb, 2, none⟩ = some (.bool there) := row_cell hkk 2
    have y3 : wk.cell? ⟨kb, 3, none⟩ = some (.int .i64 value) := row_cell hkk 3
    have y4 : wk.cell? ⟨kb, 4, none⟩ = some (.int .i64 (count : Int)) := row_cell hkk 4
    have v0 : wk.cell? ⟨w.heap.size, 0, none⟩ = some (.int .u8 (op : Int)) := row_cell hbk 0
    have v1 : wk.cell? ⟨w.heap.size, 1, none⟩ = some (.string key) := row_cell hbk 1
    have v2 : wk.cell? ⟨w.heap.size, 2, none⟩ = some (.int .u16 (seq : Int)) := row_cell hbk 2
    have v3 : wk.cell? ⟨w.heap.size, 3, none⟩ = some (.int .i16 val) := row_cell hbk 3
    go_wp2_with (first | (go_at_call 78; refine (HC.out _).mono ?_; rintro en w4 ⟨rfl, hb4⟩; have v14 : w4.cell? ⟨w.heap.size, 1, none⟩ = some (.string key) := cell_below v1 hb4) | (go_at_call 69; refine (HGr.out _).mono ?_; rintro en w5 ⟨rfl, q5, rfl⟩))
    have hbe4 : (w4.drewN q5).heap[w.heap.size]? = some (.cells #[.int .u8 (op : Int), .string key, .int .u16 (seq : Int), .int .i16 val] 41 (0, 0)) := (hb4.block _ (heap_lt hbk)).trans hbk
    have hkk4 : (w4.drewN q5).heap[kb]? = some (.cells #[.bool had, .int .i64 (last : Int), .bool there, .int .i64 value, .int .i64 (count : Int)] 141 (0, 0)) := (hb4.block _ (heap_lt hkk)).trans hkk
    have HB4 : Below w.heap.size w (w4.drewN q5) := below_drewN (HBk.trans (hb4.mono HBk.size)) q5
    clear y0 y1 y2 y3 y4 v0 v1 v2 v3 v14 hkk hbk c3k HBk hb4
    generalize w4.drewN q5 = w5 at hbe4 hkk4 HB4 ⊢
    clear w4 q5 wk
    have c0 := cell_below HCC.out.1 HB4
    have c1 := cell_below HCC.out.2.1 HB4
    have c5 := cell_below HCC.out.2.2.1 HB4
    have d2 := cell_below HCC.out.2.2.2.1 HB4
    have e5 := cell_below HCC.out.2.2.2.2.1 HB4
    have f1 := cell_below HCC.out.2.2.2.2.2 HB4
    go_quiet (fail)
    revert nq
    intro n1
    go_wp2
    go_quiet (fail)
    revert nq
    intro n2
    have HB7 : Below w.heap.size w ((w5.drewN n1).drewN n2) := below_drewN (below_drewN HB4 _) _
    have he7 : ((w5.drewN n1).drewN n2).heap[w.heap.size]? = some (.cells #[.int .u8 (op : Int), .string key, .int .u16 (seq : Int), .int .i16 val] 41 (0, 0)) := hbe4
    have hk7 : ((w5.drewN n1).drewN n2).heap[kb]? = some (.cells #[.bool had, .int .i64 (last : Int), .bool there, .int .i64 value, .int .i64 (count : Int)] 141 (0, 0)) := hkk4
    clear HB4 hbe4 hkk4 c0 c1 c5 d2 e5 f1
    generalize (w5.drewN n1).drewN n2 = w7 at HB7 he7 hk7 ⊢
    clear n1 n2 w5
    have k0 : ∀ o, (w7.alloc o).cell? ⟨w.heap.size, 0, none⟩ = some (.int .u8 (op : Int)) := fun o => cell_below (row_cell he7 0) ((Below.refl _ _).alloc (Nat.le_refl _) _)
    have k3 : ∀ o, (w7.alloc o).cell? ⟨w.heap.size, 3, none⟩ = some (.int .i16 val) := fun o => cell_below (row_cell he7 3) ((Below.refl _ _).alloc (Nat.le_refl _) _)
    have l2 : ∀ o, (w7.alloc o).cell? ⟨kb, 2, none⟩ = some (.bool there) := fun o => cell_below (row_cell hk7 2) ((Below.refl _ _).alloc (Nat.le_refl _) _)
    have l3 : ∀ o, (w7.alloc o).cell? ⟨kb, 3, none⟩ = some (.int .i64 value) := fun o => cell_below (row_cell hk7 3) ((Below.refl _ _).alloc (Nat.le_refl _) _)
    go_upto_if 176 with fail
    obtain ⟨nb, hnbe⟩ : ∃ nb, w7.heap.size = nb := ⟨_, rfl⟩
    have HNB := show Hid _ from hnbe
    clear hnbe
    go_cut [10] from 177 (fun s10 wc => s10 = Value.bool true ∧ NCut w had last there value count op key seq val kb nb p tx (if op = 1 then 1 else 0) (if op = 1 then val else 0) wc)
    case first =>
      have he8 := fun o => (Below.heap_alloc w7 o _ (heap_lt he7)).trans he7
      have hk8 := fun o => (Below.heap_alloc w7 o _ (heap_lt hk7)).trans hk7
      have HE := show Hid (_ ∧ _ ∧ _ ∧ _) from And.intro he8 (And.intro hk8 (And.intro (fun o => HB7.alloc HB7.size o) (And.intro (heap_lt he7) (heap_lt hk7))))
      clear he8 hk8
      by_cases ho : op = 1
      · have ho1 : ((op : Int) == 1) = true := by rw [ho]; rfl
        have HO := show Hid (op = 1) from ho
        clear ho
        go_wp2
        go_meet
        rw [if_pos HO.out, if_pos HO.out, ← HNB.out]
        exact ⟨rfl, heap_alloc_new w7 _, HE.out.2.1 _, HE.out.1 _, HE.out.2.2.1 _, HE.out.2.2.2.1, HE.out.2.2.2.2⟩
      · have ho1 : ((op : Int) == 1) = false := by rw [beq_eq_false_iff_ne]; omega
        have HO := show Hid (¬ op = 1) from ho
        clear ho
        go_wp2
        go_meet
        rw [if_neg HO.out, if_neg HO.out, ← HNB.out]
        exact ⟨rfl, heap_alloc_new w7 _, HE.out.2.1 _, HE.out.1 _, HE.out.2.2.1 _, HE.out.2.2.2.1, HE.out.2.2.2.2⟩
    case rest =>
    obtain ⟨rfl, hc1, hc2, hc3, hc4, hc5, hc6⟩ := hcut
    rw [HNB.out]
    have hcl : cl = (if op = 1 then 1 else 0) - (if there then 1 else 0) := HCL.out.1
    have hcd : cd = (if op = 1 then val else 0) - (if there then value else 0) := HCL.out.2
    have hb1' : (0 : Int) ≤ (if op = 1 then 1 else 0) ∧ (if op = 1 then (1 : Int) else 0) ≤ 1 := by split <;> omega
    have hb2' : -32768 ≤ (if op = 1 then val else 0) ∧ (if op = 1 then val else 0) ≤ 32767 := by split <;> omega
    clear HCL HNB k0 k3 l2 l3 HB7 he7 hk7
    clear w7
    generalize (if op = 1 then (1 : Int) else 0) = cl1 at hc1 hcl hb1'
    generalize (if op = 1 then val else 0) = cd1 at hc1 hcd hb2'
    have HCL := show Hid (_ ∧ _) from And.intro hcl hcd
    clear hcl hcd
    revert wc
    intro w8 hc2 hc3 hc4 hc1
    have y2 : w8.cell? ⟨kb, 2, none⟩ = some (.bool there) := row_cell hc2 2
    have y3 : w8.cell? ⟨kb, 3, none⟩ = some (.int .i64 value) := row_cell hc2 3
    have n2 : w8.cell? ⟨nb, 2, none⟩ = some (.int .i64 cl1) := row_cell hc1 2
    have n3 : w8.cell? ⟨nb, 3, none⟩ = some (.int .i64 cd1) := row_cell hc1 3
    have z2 : w8.frozen? ⟨nb, 2, none⟩ = false := row_frozen hc1 2
    have z3 : w8.frozen? ⟨nb, 3, none⟩ = false := row_frozen hc1 3
    have hknb : kb ≠ nb := Nat.ne_of_lt hc6
    go_upto_if 189 with fail
    go_cut [10] from 190 (fun s10 wc => s10 = Value.bool true ∧ NCut w had last there value count op key seq val kb nb p tx cl cd wc)
    case first =>
      cases there with
      | true =>
        have HE := show Hid (NCut w had last true value count op key seq val kb nb p tx cl cd ((w8.setCell ⟨nb, 2, none⟩ (.int .i64 (cl1 - 1))).setCell ⟨nb, 3, none⟩ (.int .i64 (cd1 - value)))) from by
          have hcl := HCL.out.1
          have hcd := HCL.out.2
          simp only [if_true] at hcl hcd
          rw [hcl, hcd]
          have h2 := (row_set (j := 2) hc1 (.int .i64 (cl1 - 1))).trans rfl
          have h3 := (row_set (j := 3) h2 (.int .i64 (cd1 - value))).trans rfl
          refine ⟨h3, ?_, ?_, (hc4.setCell (p := ⟨nb, 2, none⟩) (Nat.le_of_lt hc5) _).setCell (p := ⟨nb, 3, none⟩) (Nat.le_of_lt hc5) _, hc5, hc6⟩
          · rw [Below.heap_setCell _ _ _ _ (Nat.ne_of_lt hc6), Below.heap_setCell _ _ _ _ (Nat.ne_of_lt hc6)]
            exact hc2
          · rw [Below.heap_setCell _ _ _ _ (Nat.ne_of_lt hc5), Below.heap_setCell _ _ _ _ (Nat.ne_of_lt hc5)]
            exact hc3
        clear hc1 hc2 hc3 hc4 HCL
        go_wp2
        go_meet
        exact ⟨rfl, HE.out⟩
      | false =>
        have HE := show Hid (NCut w had last false value count op key seq val kb nb p tx cl cd w8) from by
          have hcl := HCL.out.1
          have hcd := HCL.out.2
          simp only [Bool.false_eq_true, if_false, Int.sub_zero] at hcl hcd
          rw [hcl, hcd]
          exact ⟨hc1, hc2, hc3, hc4, hc5, hc6⟩
        clear hc1 hc2 hc3 hc4 HCL
        go_wp2
        go_meet
        exact ⟨rfl, HE.out⟩
    case rest =>
    obtain ⟨rfl, hnb, _, he8, HB8, hnl, _⟩ := hcut
    clear hc1 hc2 hc3 hc4 y2 y3 n2 n3 z2 z3 HCL hknb hb1' hb2'
    clear w8
    revert wc
    intro w8 hnb _ he8 HB8
    go_wp2_with fail
    have hn8 : w8.drew.heap[nb]? = some (.cells #[.int .i64 (p : Int), .string tx, .int .i64 cl, .int .i64 cd] 149 (0, 0)) := hnb
    have HB9 : Below w.heap.size w w8.drew := HB8.drew
    have he9 := heap_d1 he8
    clear hnb HB8 he8
    have e58 := cell_below HCC.out.2.2.2.2.1 HB9
    have f18 := cell_below HCC.out.2.2.2.2.2 HB9
    refine wp_region_held_drew (S := fun w' : World => w'.cell? ⟨b2, 1, none⟩ = some (.slice (some ⟨gp, 0, none⟩) W pc) ∧ w'.heap[nb]? = some (.cells #[.int .i64 (p : Int), .string tx, .int .i64 cl, .int .i64 cd] 149 (0, 0))) (by kernel_rfl) ⟨e58, hn8⟩ (fun hH => ?_)
    generalize w8.drew = wx at hn8 HB9 he9 e58 f18 hH ⊢
    refine wpAnyH_take (i := 0) (v := (.pointer (some ⟨b2, 0, none⟩))) rfl (by kernel_rfl) (by kernel_rfl) (by kernel_rfl) (fun _ _ _ h => h) (Or.inl ⟨by rfl, by intro v hSw; clear hSw; go_simp⟩) hH ?_
    refine wpAnyH_take (i := 1) (v := (.pointer (some ⟨b2, 0, none⟩))) rfl (by kernel_rfl) (by kernel_rfl) (by kernel_rfl) (fun _ _ _ h => h) (Or.inl ⟨by rfl, by intro v hSw; clear hSw; go_simp⟩) hH ?_
    refine wpAnyH_take (i := 2) (v := (.pointer (some ⟨b2, 1, none⟩))) rfl (by kernel_rfl) (by kernel_rfl) (by kernel_rfl) (fun _ _ _ h => h) (Or.inl ⟨by rfl, by intro v hSw; clear hSw; go_simp⟩) hH ?_
    refine wpAnyH_take (i := 3) (v := (.slice (some ⟨gp, 0, none⟩) W pc)) rfl (by kernel_rfl) (by kernel_rfl) (by kernel_rfl) (fun _ _ _ h => h) (Or.inl ⟨by rfl, by intro v hSw; have s0 := hSw.1; clear hSw; go_simp⟩) hH ?_
    refine wpAnyH_take (i := 4) (v := (.int .i64 (i : Int))) rfl (by kernel_rfl) (by kernel_rfl) (by kernel_rfl) (fun _ _ _ h => h) (Or.inl ⟨by rfl, by intro v hSw; clear hSw; go_simp⟩) hH ?_
    refine wpAnyH_take (i := 5) (v := (.pointer (some ⟨b2, 0, none⟩))) rfl (by kernel_rfl) (by kernel_rfl) (by kernel_rfl) (fun _ _ _ h => h) (Or.inl ⟨by rfl, by intro v hSw; clear hSw; go_simp⟩) hH ?_
    refine wpAnyH_take (i := 6) (v := (.pointer (some ⟨b2, 0, none⟩))) rfl (by kernel_rfl) (by kernel_rfl) (by kernel_rfl) (fun _ _ _ h => h) (Or.inl ⟨by rfl, by intro v hSw; clear hSw; go_simp⟩) hH ?_
    refine wpAnyH_take (i := 7) (v := (.pointer (some ⟨b2, 1, none⟩))) rfl (by kernel_rfl) (by kernel_rfl) (by kernel_rfl) (fun _ _ _ h => h) (Or.inl ⟨by rfl, by intro v hSw; clear hSw; go_simp⟩) hH ?_
    refine wpAnyH_take (i := 8) (v := (.slice (some ⟨gp, 0, none⟩) W pc)) rfl (by kernel_rfl) (by kernel_rfl) (by kernel_rfl) (fun _ _ _ h => h) (Or.inl ⟨by rfl, by intro v hSw; have s0 := hSw.1; clear hSw; go_simp⟩) hH ?_
    refine wpAnyH_take (i := 9) (v := (.int .i64 (i : Int))) rfl (by kernel_rfl) (by kernel_rfl) (by kernel_rfl) (fun _ _ _ h => h) (Or.inl ⟨by rfl, by intro v hSw; clear hSw; go_simp⟩) hH ?_
    refine wpAnyH_take (i := 10) (v := (.pointer (some ⟨gp, i, none⟩))) rfl (by kernel_rfl) (by kernel_rfl) (by kernel_rfl) (fun _ _ _ h => h) (Or.inl ⟨by rfl, by intro v hSw; clear hSw; go_simp⟩) hH ?_
    refine wpAnyH_take (i := 12) (v := (.agg #[.int .i64 (p : Int), .string tx, .int .i64 cl, .int .i64 cd])) rfl (by kernel_rfl) (by kernel_rfl) (by kernel_rfl) (fun _ _ _ h => h) (Or.inl ⟨by rfl, by intro v hSw; have s0 : v.cell? ⟨nb, 0, none⟩ = some (.int .i64 (p : Int)) := row_cell hSw.2 0; have s1 : v.cell? ⟨nb, 1, none⟩ = some (.string tx) := row_cell hSw.2 1; have s2 : v.cell? ⟨nb, 2, none⟩ = some (.int .i64 cl) := row_cell hSw.2 2; have s3 : v.cell? ⟨nb, 3, none⟩ = some (.int .i64 cd) := row_cell hSw.2 3; clear hSw; go_simp⟩) hH ?_
    have hba := (Below.refl wx.heap.size wx).alloc (Nat.le_refl _) (.cells #[.int .i64 (p : Int), .string tx, .int .i64 cl, .int .i64 cd] 149)
    have hnx := (hba.block _ (heap_lt hn8)).trans hn8
    have hex := (hba.block _ (heap_lt he9)).trans he9
    have e5x := cell_below e58 hba
    have f1x := cell_below f18 hba
    have HBx : Below w.heap.size w (wx.alloc (.cells #[.int .i64 (p : Int), .string tx, .int .i64 cl, .int .i64 cd] 149)) := HB9.alloc HB9.size _
    clear hba
    refine wpAnyH_ready (rs := [11, 13]) (by kernel_rfl) (by simp) ?_
    refine AllReadyH.cons rfl (fun K hK => ?_) (AllReadyH.cons rfl (fun K hK => ?_) AllReadyH.nil)
    focus
      clear hH
      go_simp
      refine hK.out _ _ ⟨e58, hn8⟩ (fun hH => ?_)
      clear hK K
      refine wpAnyH_ready (rs := [13]) (by kernel_rfl) (by simp) ?_
      refine AllReadyH.cons rfl (fun K hK => ?_) AllReadyH.nil
      clear hH
      go_simp
      refine hK.out _ _ ⟨e5x, hnx⟩ (fun hH => ?_)
      clear hK K
    rotate_left
    focus
      clear hH
      go_simp
      refine hK.out _ _ ⟨e5x, hnx⟩ (fun hH => ?_)
      clear hK K
      refine wpAnyH_ready (rs := [11]) (by kernel_rfl) (by simp) ?_
      refine AllReadyH.cons rfl (fun K hK => ?_) AllReadyH.nil
      clear hH
      go_simp
      refine hK.out _ _ ⟨e5x, hnx⟩ (fun hH => ?_)
      clear hK K
    all_goals
      refine wpAnyH_ready (rs := [14]) (by kernel_rfl) (by simp) ?_
      refine AllReadyH.cons rfl (fun K hK => ?_) AllReadyH.nil
      refine ite_of rfl ?_
      have hqx : qRow (wx.alloc (.cells #[.int .i64 (p : Int), .string tx, .int .i64 cl, .int .i64 cd] 149)) B 149 4 (.slice va la vc) la ys := Hq.out.old HBx
      have hsx : w.heap.size ≤ wx.heap.size := HB9.size
      refine wp_append_q _ (.tmp 211) (.tmp 213) 98 rfl B 149 j0 (.agg #[.int .i64 0, .string ⟨#[]⟩, .int .i64 0, .int .i64 0]) 4 40 Tryz.underlying98 hj0 hy0 hy1 hy2 rfl (.slice va la vc) la ys rfl hqx ⟨wx.heap.size, 0, none⟩ 1 [.int .i64 (p : Int), .string tx, .int .i64 cl, .int .i64 cd] rfl rfl (by have := cell_four_new wx (.int .i64 (p : Int)) (.string tx) (.int .i64 cl) (.int .i64 cd) 149; simpa using this) (chg_oneCell ⟨(p : Int), tx, cl, cd⟩) (by omega) (by omega) (by simp; omega) ?_
      intro v' w5 hq5 happ
      have hev : (∀ g, (Value.slice va la vc).ownBlock = some g → g < w.heap.size) := Hvl.out
      have hn5 := ((grown_either happ).block nb (heap_lt hnx) (fun e => Nat.lt_irrefl _ (Nat.lt_trans hnl (hev _ e.symm)))).trans hnx
      have he5 := ((grown_either happ).block w.heap.size (heap_lt hex) (fun e => Nat.lt_irrefl _ (hev _ e.symm))).trans hex
      obtain ⟨r5, z5, e55, e56, _⟩ := HPP.out _ v' w5 HBx hq5 happ
      have HG9 := show Hid _ from (HPP.out _ v' w5.drew HBx hq5 (AppQ.drew happ)).2.2.2.2
      refine hK.out _ _ ⟨e55, hn5⟩ (fun hH => ?_)
      obtain ⟨a5, c5, rfl⟩ := hq5.shape
      clear hK K hq5 happ hqx hev
      refine wpAnyH_take (i := 15) (v := (.pointer (some ⟨gp, i, none⟩))) rfl (by kernel_rfl) (by kernel_rfl) (by kernel_rfl) (fun _ _ _ h => h) (Or.inl ⟨by rfl, by intro v hSw; clear hSw; go_simp⟩) hH ?_
      refine wpAnyH_ready (rs := [16]) (by kernel_rfl) (by simp) ?_
      refine AllReadyH.cons rfl (fun K hK => ?_) AllReadyH.nil
      clear hH
      go_simp
      have hn6 : (w5.setCell ⟨gp, i, none⟩ (.slice a5 (la + 1) c5)).heap[nb]? = some (.cells #[.int .i64 (p : Int), .string tx, .int .i64 cl, .int .i64 cd] 149 (0, 0)) := (Below.heap_setCell w5 ⟨gp, i, none⟩ (.slice a5 (la + 1) c5) nb (fun e => by have e' : nb = gp := e; omega)).trans hn5
      have he6 := (Below.heap_setCell w5 ⟨gp, i, none⟩ (.slice a5 (la + 1) c5) w.heap.size (fun e => by have e' : w.heap.size = gp := e; omega)).trans he5
      refine hK.out _ _ ⟨e56, hn6⟩ (fun hH => ?_)
      clear hK K hH
      refine wpAnyH_done (by kernel_rfl) ?_ _
      clear r5 z5 e55 e56 hn5 hn6 he5 hn8 he9 e58 f18 hnx hex e5x f1x hsx hnl HB9 HBx
      have HG10 : Hid (GotG B b1 w.heap.size (w5.setCell ⟨gp, i, none⟩ (.slice a5 (la + 1) c5)).drew (.slice ga ng gc) ng (evCells gs) (evCells1 ⟨op, key, seq, val⟩) (TailG b1 gq off ln qc Q)) := HG9.out
      clear HG9
      generalize w5.setCell ⟨gp, i, none⟩ (.slice a5 (la + 1) c5) = w10 at he6 HG10 ⊢
      go_wp2
      have hbx : w10.drew.heap[w.heap.size]? = some (.cells #[.int .u8 (op : Int), .string key, .int .u16 (seq : Int), .int .i16 val] 41 (0, 0)) := he6
      have HX := HG10.out
      refine wp_region_held_drew (S := fun w' : World => w'.heap[w.heap.size]? = some (.cells #[.int .u8 (op : Int), .string key, .int .u16 (seq : Int), .int .i16 val] 41 (0, 0))) (by kernel_rfl) hbx (fun hH => ?_)
      obtain ⟨r0, hrow, hng, hBx, hvg, hbb, hgo⟩ := HX
      have HG2 := show Hid _ from hgo
      have HRow := show Hid (w10.drew.ownsRow B 41 4 (.slice ga ng gc) ng (evCells gs)) from hrow
      clear hgo hrow
      have hwl : w.heap.size < w10.drew.heap.size := heap_lt hbx
      generalize w10.drew = w3 at hbx hH r0 HRow hBx hwl HG2 ⊢
      refine wpAnyH_take (i := 0) (v := (.pointer (some ⟨b1, 0, none⟩))) rfl (by kernel_rfl) (by kernel_rfl) (by kernel_rfl) (fun _ _ _ h => h) (Or.inl ⟨by rfl, by intro v hSw; clear hSw; go_simp⟩) hH ?_
      refine wpAnyH_take (i := 1) (v := (.pointer (some ⟨b1, 0, none⟩))) rfl (by kernel_rfl) (by kernel_rfl) (by kernel_rfl) (fun _ _ _ h => h) (Or.inl ⟨by rfl, by intro v hSw; clear hSw; go_simp⟩) hH ?_
      refine wpAnyH_take (i := 2) (v := (.pointer (some ⟨b1, 0, none⟩))) rfl (by kernel_rfl) (by kernel_rfl) (by kernel_rfl) (fun _ _ _ h => h) (Or.inl ⟨by rfl, by intro v hSw; clear hSw; go_simp⟩) hH ?_
      refine wpAnyH_take (i := 3) (v := (.pointer (some ⟨b1, 0, none⟩))) rfl (by kernel_rfl) (by kernel_rfl) (by kernel_rfl) (fun _ _ _ h => h) (Or.inl ⟨by rfl, by intro v hSw; clear hSw; go_simp⟩) hH ?_
      refine wpAnyH_take (i := 5) (v := (.agg #[.int .u8 (op : Int), .string key, .int .u16 (seq : Int), .int .i16 val])) rfl (by kernel_rfl) (by kernel_rfl) (by kernel_rfl) (fun _ _ _ h => h) (Or.inl ⟨by rfl, by intro v hSw; have s0 : v.cell? ⟨w.heap.size, 0, none⟩ = some (.int .u8 (op : Int)) := row_cell hSw 0; have s1 : v.cell? ⟨w.heap.size, 1, none⟩ = some (.string key) := row_cell hSw 1; have s2 : v.cell? ⟨w.heap.size, 2, none⟩ = some (.int .u16 (seq : Int)) := row_cell hSw 2; have s3 : v.cell? ⟨w.heap.size, 3, none⟩ = some (.int .i16 val) := row_cell hSw 3; clear hSw; go_simp⟩) hH ?_
      have hba := (Below.refl w3.heap.size w3).alloc (Nat.le_refl _) (.cells #[.int .u8 (op : Int), .string key, .int .u16 (seq : Int), .int .i16 val] 41)
      have hb4 : (w3.alloc (.cells #[.int .u8 (op : Int), .string key, .int .u16 (seq : Int), .int .i16 val] 41)).heap[w.heap.size]? = some (.cells #[.int .u8 (op : Int), .string key, .int .u16 (seq : Int), .int .i16 val] 41 (0, 0)) := (Below.heap_alloc _ _ _ hwl).trans hbx
      have r0a : (w3.alloc (.cells #[.int .u8 (op : Int), .string key, .int .u16 (seq : Int), .int .i16 val] 41)).cell? ⟨b1, 0, none⟩ = some (.slice ga ng gc) := cell_below r0 hba
      have HBa := show Hid _ from hba
      clear hba
      refine wpAnyH_ready (rs := [4, 6]) (by kernel_rfl) (by simp) ?_
      refine AllReadyH.cons rfl (fun K hK => ?_) (AllReadyH.cons rfl (fun K hK => ?_) AllReadyH.nil)
      focus
        clear hH
        go_simp
        refine hK.out _ _ hbx (fun hH => ?_)
        clear hK K
        refine wpAnyH_ready (rs := [6]) (by kernel_rfl) (by simp) ?_
        refine AllReadyH.cons rfl (fun K hK => ?_) AllReadyH.nil
        clear hH
        go_simp
        refine hK.out _ _ hb4 (fun hH => ?_)
        clear hK K
      rotate_left
      focus
        clear hH
        go_simp
        refine hK.out _ _ hb4 (fun hH => ?_)
        clear hK K
        refine wpAnyH_ready (rs := [4]) (by kernel_rfl) (by simp) ?_
        refine AllReadyH.cons rfl (fun K hK => ?_) AllReadyH.nil
        clear hH
        go_simp
        refine hK.out _ _ hb4 (fun hH => ?_)
        clear hK K
      all_goals
        refine wpAnyH_ready (rs := [7]) (by kernel_rfl) (by simp) ?_
        refine AllReadyH.cons rfl (fun K hK => ?_) AllReadyH.nil
        refine ite_of rfl ?_
        refine wp_append_two _ (.tmp 220) (.tmp 222) 35 rfl B 41 i0 (.agg #[.int .u8 0, .string ⟨#[]⟩, .int .u16 0, .int .i16 0]) 4 32 Tryz.underlying35 hi0 hz0 hz1 hz2 rfl (by decide) (.slice ga ng gc) ng (evCells gs) rfl (HRow.out.alloc _) ⟨w3.heap.size, 0, none⟩ 1 1 (evCells1 ⟨op, key, seq, val⟩) rfl rfl (by have := cell_four_new w3 (.int .u8 (op : Int)) (.string key) (.int .u16 (seq : Int)) (.int .i16 val) 41; simpa [evCells1] using this) (ev_oneCell _) (by unfold maxLen; omega) (by omega) (by simp; omega) (by decide) ?_
        intro v' w5 hown5 happ
        obtain ⟨r5, z5, hQ⟩ := HG2.out _ w5 v' HBa.out hown5 happ
        have hb5 : w5.heap[w.heap.size]? = some (.cells #[.int .u8 (op : Int), .string key, .int .u16 (seq : Int), .int .i16 val] 41 (0, 0)) := ((grown_either happ).block _ (heap_lt hb4) (fun e => hvg _ e.symm rfl)).trans hb4
        refine hK.out _ _ hb5 (fun hH => ?_)
        have HQ := show Hid _ from hQ
        obtain ⟨a5, c5, rfl⟩ := own_shape hown5
        clear hK K hown5 happ HRow HG2 HBa hQ r0a hb4
        refine wpAnyH_take (i := 8) (v := (.pointer (some ⟨b1, 0, none⟩))) rfl (by kernel_rfl) (by kernel_rfl) (by kernel_rfl) (fun _ _ _ h => h) (Or.inl ⟨by rfl, by intro v hSw; clear hSw; go_simp⟩) hH ?_
        refine wpAnyH_take (i := 9) (v := (.pointer (some ⟨b1, 0, none⟩))) rfl (by kernel_rfl) (by kernel_rfl) (by kernel_rfl) (fun _ _ _ h => h) (Or.inl ⟨by rfl, by intro v hSw; clear hSw; go_simp⟩) hH ?_
        refine wpAnyH_ready (rs := [10]) (by kernel_rfl) (by simp) ?_
        refine AllReadyH.cons rfl (fun K hK => ?_) AllReadyH.nil
        clear hH
        go_simp
        have hb6 : (w5.setCell ⟨b1, 0, none⟩ (.slice a5 (ng + 1) c5)).heap[w.heap.size]? = some (.cells #[.int .u8 (op : Int), .string key, .int .u16 (seq : Int), .int .i16 val] 41 (0, 0)) := (Below.heap_setCell w5 ⟨b1, 0, none⟩ (.slice a5 (ng + 1) c5) w.heap.size (fun e => by have e' : w.heap.size = b1 := e; exact hbb e'.symm)).trans hb5
        refine hK.out _ _ hb6 (fun hH => ?_)
        clear hK K hH
        refine wpAnyH_done (by kernel_rfl) ?_ _
        clear r5 z5 hb5 hb6 hbx r0 hwl
        generalize w5.setCell ⟨b1, 0, none⟩ (.slice a5 (ng + 1) c5) = w6 at HQ ⊢
        obtain ⟨t1, t2, hT⟩ := HQ.out
        have HT1 := show Hid _ from hT _ (.inl rfl)
        have HT2 := show Hid (qc = 1 → _) from fun e : qc = 1 => hT (.slice (some ⟨gq, off, none⟩) ln 0) (.inr ⟨e, rfl⟩)
        clear hT HQ
        go_wp2
        all_goals
          go_ret
        · exact ⟨rfl, HT2.out (by omega)⟩
        · exact ⟨rfl, HT1.out⟩

end Go.Proofs.YthccpacmklhejaaGreatDoor

namespace Go.Proofs.YthccpacmklhejaaGreatDoor
open Go.RowKit

theorem IsEvs.of_own {w : World} {B c : Nat} {a : Option Addr} {es : List Ev} (h : w.ownsRow B 41 4 (.slice a es.length c) es.length (evCells es)) (hok : ∀ e ∈ es, e.ok) : IsEvs w a es := by
  refine ⟨hok, ?_⟩
  rcases own_addr h with ⟨_, h0⟩ | ⟨g, rfl⟩
  · exact .inl (List.length_eq_zero_iff.mp h0)
  · exact .inr ⟨g, 0, rfl, (own_lt h).2, fun k hk => by have := own_event h k hk; simpa using this⟩

section
variable {f : Owners} {w : World} {B k jb : Nat} {sb ab : List Nat} {j : JobM}

/-- An event is laid behind what a sorter got. -/
theorem RJob.gotS (h : RJob f w B k jb sb ab j) (i : Nat) (hi : i < sb.length) (hi' : i < j.sorters.length) (hwid : j.width ≤ 9) :
    ∃ vg, w.cell? ⟨sb[i], 0, none⟩ = some vg ∧ w.ownsRow B 41 4 vg (j.sorters[i]).got.length (evCells (j.sorters[i]).got) ∧
      (∀ wa v' w5 (e : Ev), Below w.heap.size w wa → w5.ownsRow B 41 4 v' ((j.sorters[i]).got.length + 1) (evCells (j.sorters[i]).got ++ evCells1 e) → AppQ wa w5 vg v' →
        w5.cell? ⟨sb[i], 0, none⟩ = some vg ∧ w5.frozen? ⟨sb[i], 0, none⟩ = false ∧ (w5.setCell ⟨sb[i], 0, none⟩ v').frozen? ⟨sb[i], 1, none⟩ = false ∧ (∀ u, w.cell? ⟨sb[i], 1, none⟩ = some u → (w5.setCell ⟨sb[i], 0, none⟩ v').cell? ⟨sb[i], 1, none⟩ = some u) ∧
        RAfter f w B k jb sb ab { j with sorters := j.sorters.set i { j.sorters[i] with got := (j.sorters[i]).got ++ [e] } } (w5.setCell ⟨sb[i], 0, none⟩ v')) := by
  obtain ⟨ho, vg, vp, hb, hg, og, hp, op⟩ := h.sorters i hi hi'
  have hiw : i < j.width := by rw [← h.lenS.1]; exact hi
  refine ⟨vg, box_cell hb 0, hg, fun wa v' w5 e hba hq5 happ => ?_⟩
  have hf5 : FrmO f (fun c => c = k + 200 + i) w w5 := (FrmO.of_below hba).trans (Same.refl _ _) (happ.frm og)
  have hb5 := heap_frm hb hf5 ho (by omega)
  obtain ⟨f', hs', hv'⟩ := happ.owner hba og
  have hne : v'.ownBlock ≠ some sb[i] := fun e => by
    obtain ⟨a3, c3, rfl⟩ := own_shape hq5
    rcases own_addr hq5 with ⟨_, h0⟩ | ⟨g3, rfl⟩
    · omega
    obtain ⟨cur, hc⟩ := own_obj hq5
    have e' : g3 = sb[i] := Option.some.inj e
    rw [e', hb5] at hc
    simp only [Option.some.injEq, Obj.cells.injEq] at hc
    have := hc.2.1
    exact absurd this (by decide)
  have hf6 : FrmO f (fun c => c = k + 100 + i ∨ c = k + 200 + i) w (w5.setCell ⟨sb[i], 0, none⟩ v') :=
    (hf5.mono fun _ hc => .inr hc).trans (Same.refl _ _) (FrmO.of_set (S := fun c => c = k + 100 + i ∨ c = k + 200 + i) ho (.inl rfl) _)
  have hb6 : (w5.setCell ⟨sb[i], 0, none⟩ v').heap[sb[i]]? = some (.cells #[v', vp, .int .i64 ((j.sorters[i]).marked : Int), .int .i64 ((j.sorters[i]).kept : Int), .bool (j.sorters[i]).passed] 94 (0, 0)) := by
    have := box_set (j := 0) hb5 v'
    exact this
  have h1 : w.cell? ⟨sb[i], 1, none⟩ = some vp := box_cell hb 1
  refine ⟨box_cell hb5 0, row_frozen hb5 0, row_frozen hb6 1, fun u hu => ?_, f', h.putS i hi _ (S := fun c => c = k + 100 + i ∨ c = k + 200 + i) (fun c hc => hc.elim .inl fun e => .inr (.inl e)) hf6 hs' hwid ⟨(hs' _ (heap_lt hb)).trans ho, v', vp, hb6, ?_, hv', q_frm hp hf6 op (by omega), op.same hs' (q_lt hp)⟩, hf6.mono fun _ _ => trivial, hs'⟩
  · rw [← hu, h1]
    exact box_cell hb6 1
  · have hq6 := hq5.kept (grown_set w5 sb[i] 0 v') (.inr hne)
    simp only [List.length_append, List.length_cons, List.length_nil, evCells_append, evCells_one]
    exact hq6

/-- A sorter's pipe, cut at its front. -/
theorem RJob.tailS (h : RJob f w B k jb sb ab j) (i : Nat) (hi : i < sb.length) (hi' : i < j.sorters.length) (hwid : j.width ≤ 9) (v' : Value) (rest : List Int) (hq : qRow w B 3 1 v' rest.length (rest.map (Value.int .i64))) (vp : Value) (hvp : w.cell? ⟨sb[i], 1, none⟩ = some vp) (hv' : ∀ g, v'.ownBlock = some g → vp.ownBlock = some g) :
    RAfter f w B k jb sb ab { j with sorters := j.sorters.set i { j.sorters[i] with pipe := rest } } (w.setCell ⟨sb[i], 1, none⟩ v') := by
  obtain ⟨ho, vg, vq, hb, hg, og, hp, op⟩ := h.sorters i hi hi'
  have h3 : w.cell? ⟨sb[i], 1, none⟩ = some vq := box_cell hb 1
  have hvq : vp = vq := Option.some.inj (hvp.symm.trans h3)
  subst hvq
  have hiw : i < j.width := by rw [← h.lenS.1]; exact hi
  have ho' : IsOf f (k + 300 + i) v' := fun g hg => op g (hv' g hg)
  have hf : FrmO f (fun c => c = k + 100 + i) w (w.setCell ⟨sb[i], 1, none⟩ v') := FrmO.of_set (S := fun c => c = k + 100 + i) ho rfl _
  refine ⟨f, h.putS i hi _ (S := fun c => c = k + 100 + i) (fun c hc => .inl hc) hf (Same.refl _ _) hwid ⟨ho, vg, v', ?_, own_frm hg hf og (by omega), og, q_frm hq hf ho' (by omega), ho'⟩, hf.mono fun _ _ => trivial, Same.refl _ _⟩
  have := box_set (j := 1) hb v'
  exact this

theorem qtail_int {gq off ln qc : Nat} {v1 : Value} {x : Int} {rest : List Int} (hl : rest.length = ln) (hq : qRow w B 3 1 (.slice (some ⟨gq, off, none⟩) (ln + 1) qc) (ln + 1) ((x :: rest).map (Value.int .i64))) (ht : IsTail1 gq off ln qc v1) : qRow w B 3 1 v1 rest.length (rest.map (Value.int .i64)) := by
  rw [hl]
  rcases ht with rfl | ⟨rfl, rfl⟩
  · exact hq.tail (off' := off + 1) (.inl rfl)
  · exact hq.tail (off' := off) (.inr ⟨rfl, rfl⟩)

/-- From a job on: an event to what a sorter got, its pipe cut. -/
theorem RJob.gotTail (h : RJob f w B k jb sb ab j) (hB : B ≤ w.heap.size) (i : Nat) (hi : i < sb.length) (hi' : i < j.sorters.length) (hwid : j.width ≤ 9) (hgl : (j.sorters[i]).got.length ≤ 900) (x : Int) (rest : List Int) (hp : (j.sorters[i]).pipe = x :: rest) (gq off qc : Nat) (p1 : w.cell? ⟨sb[i], 1, none⟩ = some (.slice (some ⟨gq, off, none⟩) (rest.length + 1) qc)) (vg : Value) (c3 : w.cell? ⟨sb[i], 0, none⟩ = some vg) (e : Ev) (bx : Nat) (h1 : ∀ g, vg.ownBlock = some g → g = bx → False) (h2 : sb[i] ≠ bx) :
    GotG B sb[i] bx w vg (j.sorters[i]).got.length (evCells (j.sorters[i]).got) (evCells1 e) (TailG sb[i] gq off rest.length qc fun w' => RAfter f w B k jb sb ab { j with sorters := j.sorters.set i { j.sorters[i] with got := (j.sorters[i]).got ++ [e], pipe := rest } } w') := by
  obtain ⟨vg', d1, d2, hgo⟩ := h.gotS i hi hi' hwid
  have hvg : vg' = vg := Option.some.inj (d1.symm.trans c3)
  subst hvg
  refine ⟨c3, d2, by omega, hB, h1, h2, fun wa w5 v' hba hq5 happ => ?_⟩
  obtain ⟨a1, a2, a3, a4, f', hR, hF, hS⟩ := hgo wa v' w5 e hba hq5 happ
  refine ⟨a1, a2, a4 _ p1, a3, fun v1 ht => ?_⟩
  have hi2 : i < ({ j with sorters := j.sorters.set i { j.sorters[i] with got := (j.sorters[i]).got ++ [e] } } : JobM).sorters.length := by simpa using hi'
  obtain ⟨_, _, vq, hbq, _, _, hqq, _⟩ := hR.sorters i hi hi2
  have hc := box_cell hbq 1
  have hvq : vq = .slice (some ⟨gq, off, none⟩) (rest.length + 1) qc := Option.some.inj (Eq.trans (Eq.symm hc) (a4 _ p1))
  have hpp : (({ j with sorters := j.sorters.set i { j.sorters[i] with got := (j.sorters[i]).got ++ [e] } } : JobM).sorters[i]).pipe = x :: rest := by simp [hp]
  rw [hvq, hpp] at hqq
  obtain ⟨f2, hR2, hF2, hS2⟩ := hR.tailS i hi hi2 hwid v1 rest (qtail_int rfl hqq ht) _ (a4 _ p1) (fun g hg => by rcases ht with rfl | ⟨_, rfl⟩ <;> exact hg)
  refine ⟨f2, ?_, hF.trans hS hF2, hS.trans hS2 hF.size⟩
  simp only [List.getElem_set_self, List.set_set] at hR2
  exact hR2

/-- What is kept where a change goes into a pipe. -/
theorem RJob.pipeKeep (h : RJob f w B k jb sb ab j) (m : Nat) (hm : m < ab.length) (hm' : m < j.adders.length) (i : Nat) (hi : i < (j.adders[m]).pipes.length) {gp pc : Nat} {v : Value} (hgp : w.cell? ⟨ab[m], 1, none⟩ = some (.slice (some ⟨gp, 0, none⟩) j.width pc)) (hv : w.cell? ⟨gp, i, none⟩ = some v) {wa w5 : World} {v' : Value} (hba : Below w.heap.size w wa) (happ : AppQ wa w5 v v') :
    FrmO f (fun c => c = k + 600 + m ∨ c = k + 1000 + 10 * m + i) w (w5.setCell ⟨gp, i, none⟩ v') := by
  obtain ⟨ho, vg, vp, vs, vt, hb, hg, og, hp, op, hq, ht, ot⟩ := h.adders m hm hm'
  have h1 : w.cell? ⟨ab[m], 1, none⟩ = some vp := box_cell hb 1
  have hvp : vp = .slice (some ⟨gp, 0, none⟩) j.width pc := Option.some.inj (h1.symm.trans hgp)
  subst hvp
  have hpl := (h.pipes m hm').1
  rw [hpl] at hp
  obtain ⟨v2, hv2, hqv, ov⟩ := hq i hi
  have hc : w.cell? ⟨gp, i, none⟩ = some v2 := (hp.cellAt i (by rw [hpl] at hi; omega)).trans hv2
  have hvv : v2 = v := Option.some.inj (hc.symm.trans hv)
  subst hvv
  have hf5 : FrmO f (fun c => c = k + 1000 + 10 * m + i) w w5 := (FrmO.of_below hba).trans (Same.refl _ _) (happ.frm ov)
  have ogp : f gp = some (k + 600 + m) := op gp rfl
  exact (hf5.mono fun _ hc => .inr hc).trans (Same.refl _ _) (FrmO.of_set (S := fun c => c = k + 600 + m ∨ c = k + 1000 + 10 * m + i) ogp (.inl rfl) _)

theorem rsorts_event (h : RJob f w B k jb sb ab j) (hB : B ≤ w.heap.size) (hf : RFit j) (hfA : ∀ a ∈ j.adders, ∀ p ∈ a.pipes, p.length ≤ j.room) (i : Nat) (hi : i < j.width) (hi' : i < j.sorters.length) (x : Nat) (rest : List Int) (hp : (j.sorters[i]).pipe = (x : Int) :: rest) (hx : x < j.events.length) (hgl : (j.sorters[i]).got.length ≤ 400) (hgk : ∀ e ∈ (j.sorters[i]).got, e.ok) (hek : ∀ e ∈ j.events, e.ok ∧ 0 < e.key.size) :
    Calls Tryz.prog 45 #[.pointer (some ⟨jb, 0, none⟩), .int .i64 (i : Int)] w fun en w' => en = .returned (.int .i64 ((j.sorts i).1 : Int)) ∧ RAfter f w B k jb sb ab (j.sorts i).2 w' := by
  have hib : i < sb.length := by have := h.lenS; omega
  have hlA := h.lenA
  have hW := hf.width
  obtain ⟨g1, cs', qa, qc, c4, d1, d2, hq⟩ := h.wayS i hib hi'
  have hpl : (j.sorters[i]).pipe.length = rest.length + 1 := by rw [hp]; rfl
  rw [hpl] at d2
  have hq2 := hq
  rw [hpl, hp] at hq2
  rcases hq2.addr with ⟨_, h0⟩ | ⟨gq, off, rfl⟩
  · omega
  have d3 : w.cell? ⟨gq, off, none⟩ = some (.int .i64 (x : Int)) := hq2.cell 0 (.int .i64 (x : Int)) rfl
  obtain ⟨ve, vs0, va0, vr, hbx, he, oe, _⟩ := h.box
  obtain ⟨ea, ec, rfl⟩ := own_shape he
  rcases own_addr he with ⟨_, h0⟩ | ⟨ge, rfl⟩
  · omega
  obtain ⟨q0, q1, q2, q3⟩ := own_event he x hx
  have hem := hek _ (List.getElem_mem hx)
  have hem2 := hf.keys _ (List.getElem_mem hx)
  obtain ⟨vg, c3, hg, _⟩ := h.gotS i hib hi' (by omega)
  obtain ⟨ga, gc, rfl⟩ := own_shape hg
  have hevs := IsEvs.of_own hg hgk
  have hC : SortC w jb j.width j.room i g1 cs' sb[i] gq off rest.length qc ge j.events.length ec x j.events[x] := ⟨(job_reads h).1, box_cell hbx 1, box_cell hbx 2, c4, d1, d2, d3, q0, q1, q2, q3, hi, hW.2, hx, hf.events, by have := hq2.cap; omega, hem.1⟩
  have hgnew : ∀ g, (Value.slice ga (j.sorters[i]).got.length gc).ownBlock = some g → g = w.heap.size → False := fun g hg1 e => by
    have := (own_ge hg g hg1).2
    omega
  have hsnew : sb[i] ≠ w.heap.size := Nat.ne_of_lt (cell_lt d2)
  have hs0 : j.sorts i = if (knOf (j.events[x]).key (j.sorters[i]).got).counts j.events[x] then
      match j.adders[(grp (j.events[x]).key).1 % j.width]? with
      | none => (9, j)
      | some a => if a.waits i = j.room then (9, j) else (0, { j with adders := j.adders.set ((grp (j.events[x]).key).1 % j.width) (a.push i (chgOf (knOf (j.events[x]).key (j.sorters[i]).got) j.events[x])), sorters := j.sorters.set i { j.sorters[i] with got := (j.sorters[i]).got ++ [j.events[x]], pipe := rest } })
    else (0, { j with sorters := j.sorters.set i { j.sorters[i] with got := (j.sorters[i]).got ++ [j.events[x]], pipe := rest } }) := by
    unfold JobM.sorts
    rw [List.getElem?_eq_getElem hi']
    simp only [hp]
    rw [if_neg (by omega), Int.toNat_natCast, List.getElem?_eq_getElem hx]
    rfl
  cases hct : (knOf (j.events[x]).key (j.sorters[i]).got).counts j.events[x] with
  | false =>
    have hs : j.sorts i = (0, { j with sorters := j.sorters.set i { j.sorters[i] with got := (j.sorters[i]).got ++ [j.events[x]], pipe := rest } }) := by
      rw [hs0, hct]
      rfl
    rw [hs]
    refine sort_skip hC B _ _ ga gc c3 hevs (by omega) hct fun w3 hb3 => ?_
    have hg3 := (h.below hb3).gotTail (Nat.le_trans hB hb3.size) i hib hi' (by omega) (by omega) _ rest hp gq off qc (cell_below d2 hb3) _ (cell_below c3 hb3) j.events[x] w.heap.size hgnew hsnew
    obtain ⟨r0, r1, r2, r3, r4, r5, hgo⟩ := hg3
    refine ⟨r0, r1, r2, r3, r4, r5, fun wa w5 v' hba hq5 happ => ?_⟩
    obtain ⟨t0, t1, t2, t3, ht⟩ := hgo wa w5 v' hba hq5 happ
    refine ⟨t0, t1, t2, t3, fun v1 hv1 => ?_⟩
    obtain ⟨f2, hR2, hF2, hS2⟩ := ht v1 hv1
    exact ⟨f2, hR2, (FrmO.of_below hb3).trans (Same.refl _ _) hF2, fun g hg => hS2 g (Nat.lt_of_lt_of_le hg hb3.size)⟩
  | true =>
    obtain ⟨p, tx, hgr⟩ : ∃ p tx, grp (j.events[x]).key = (p, tx) := ⟨_, _, rfl⟩
    obtain ⟨a, hpa⟩ : ∃ a, p % j.width = a := ⟨_, rfl⟩
    have haw : a < j.width := by rw [← hpa]; exact Nat.mod_lt _ (by omega)
    have ha1 : a < j.adders.length := by omega
    have ha2 : a < ab.length := by omega
    have hip : i < (j.adders[a]).pipes.length := by rw [(h.pipes a ha1).1]; exact hi
    obtain ⟨g2, ca, gp, pc, v, ⟨w5', w2', w1'⟩, f1, _, hqv, hgo⟩ := h.pipeA a ha2 ha1 i hip (by omega)
    obtain ⟨va, vc, rfl⟩ := hqv.shape
    have hwt := AdderM.waits_at (j.adders[a]) i hip
    by_cases hfl : (j.adders[a]).waits i = j.room
    · have hs : j.sorts i = (9, j) := by
        rw [hs0, hct, if_pos rfl, hgr]
        simp only [hpa, List.getElem?_eq_getElem ha1]
        rw [if_pos hfl]
      rw [hs]
      rw [← hwt, hfl] at f1
      refine (sort_full hC _ ga gc c3 hevs (by omega) hct hem.2 hem2 p tx hgr a g2 ca _ gp pc va vc hpa haw w5' w2' w1' f1).mono ?_
      rintro en w' ⟨rfl, hb⟩
      exact ⟨rfl, f, h.below hb, .of_below hb, Same.refl _ _⟩
    · have hs : j.sorts i = (0, { j with adders := j.adders.set a ((j.adders[a]).push i (chgOf (knOf (j.events[x]).key (j.sorters[i]).got) j.events[x])), sorters := j.sorters.set i { j.sorters[i] with got := (j.sorters[i]).got ++ [j.events[x]], pipe := rest } }) := by
        rw [hs0, hct, if_pos rfl, hgr]
        simp only [hpa, List.getElem?_eq_getElem ha1]
        rw [if_neg hfl]
      rw [hs]
      have hle := hfA _ (List.getElem_mem ha1) _ (List.getElem_mem hip)
      have hkv := knOf_bounds (key := (j.events[x]).key) hgk (by omega)
      have hch : chgCells1 (chgOf (knOf (j.events[x]).key (j.sorters[i]).got) j.events[x]) = [.int .i64 (p : Int), .string tx, .int .i64 ((if (j.events[x]).op = 1 then 1 else 0) - (if (knOf (j.events[x]).key (j.sorters[i]).got).there then 1 else 0)), .int .i64 ((if (j.events[x]).op = 1 then (j.events[x]).val else 0) - (if (knOf (j.events[x]).key (j.sorters[i]).got).there then (knOf (j.events[x]).key (j.sorters[i]).got).value else 0))] := by
        simp only [chgCells1, chgOf, hgr]
      refine sort_go hC B _ _ ga gc c3 hevs (by omega) hct hem.2 hem2 p tx hgr a g2 ca _ gp pc va _ vc hpa haw w5' w2' w1' f1 (by omega) hf.room hB _ hqv _ _ rfl rfl ⟨hkv.1, hkv.2.1⟩ fun wa v' w5 hba hq5 happ => ?_
      rw [← hch] at hq5
      have hkeep := h.pipeKeep a ha2 ha1 i hip w1' f1 hba happ
      obtain ⟨b1, b2, b3, b4, f2, hR2, hF2, hS2⟩ := hgo wa v' w5 _ hba hq5 happ
      obtain ⟨ho, vgx, vpx, hbb, _⟩ := h.sorters i hib hi'
      have hbb2 := heap_frm hbb hkeep ho (by omega)
      have k0 : (w5.setCell ⟨gp, i, none⟩ v').cell? ⟨sb[i], 0, none⟩ = some (.slice ga (j.sorters[i]).got.length gc) := by
        have e1 : w.cell? ⟨sb[i], 0, none⟩ = some vgx := box_cell hbb 0
        have e2 : vgx = _ := Option.some.inj (e1.symm.trans c3)
        rw [← e2]
        exact box_cell hbb2 0
      have k1 : (w5.setCell ⟨gp, i, none⟩ v').cell? ⟨sb[i], 1, none⟩ = some (.slice (some ⟨gq, off, none⟩) (rest.length + 1) qc) := by
        have e1 : w.cell? ⟨sb[i], 1, none⟩ = some vpx := box_cell hbb 1
        have e2 : vpx = _ := Option.some.inj (e1.symm.trans d2)
        rw [← e2]
        exact box_cell hbb2 1
      refine ⟨b1, b2, b3.2.2, b4.2.2, ?_⟩
      obtain ⟨r0, r1, r2, r3, r4, r5, hgo2⟩ := hR2.gotTail (Nat.le_trans hB hF2.size) i hib hi' (by show j.width ≤ 9; omega) (by show (j.sorters[i]).got.length ≤ 900; omega) _ rest hp gq off qc k1 _ k0 j.events[x] w.heap.size hgnew hsnew
      refine ⟨r0, r1, r2, r3, r4, r5, fun wa w5 v' hba hq5 happ => ?_⟩
      obtain ⟨t0, t1, t2, t3, ht⟩ := hgo2 wa w5 v' hba hq5 happ
      refine ⟨t0, t1, t2, t3, fun v1 hv1 => ?_⟩
      obtain ⟨f3, hR3, hF3, hS3⟩ := ht v1 hv1
      exact ⟨f3, hR3, hF2.trans hS2 hF3, hS2.trans hS3 hF2.size⟩

theorem rsorts_any (h : RJob f w B k jb sb ab j) (hB : B ≤ w.heap.size) (hf : RFit j) (hfA : ∀ a ∈ j.adders, ∀ p ∈ a.pipes, p.length ≤ j.room) (i : Nat) (hi : i < j.width) (hi' : i < j.sorters.length) (hpp : ∀ x ∈ (j.sorters[i]).pipe, x < (j.events.length : Int)) (hgl : (j.sorters[i]).got.length ≤ 400) (hgk : ∀ e ∈ (j.sorters[i]).got, e.ok) (hek : ∀ e ∈ j.events, e.ok ∧ 0 < e.key.size) :
    Calls Tryz.prog 45 #[.pointer (some ⟨jb, 0, none⟩), .int .i64 (i : Int)] w fun en w' => en = .returned (.int .i64 ((j.sorts i).1 : Int)) ∧ RAfter f w B k jb sb ab (j.sorts i).2 w' := by
  cases hp : (j.sorters[i]).pipe with
  | nil =>
    have hs : j.sorts i = (8, j) := by
      unfold JobM.sorts
      rw [List.getElem?_eq_getElem hi']
      simp only [hp]
    rw [hs]
    exact rsorts_idle h i hi hi' hp
  | cons x rest =>
    by_cases hx : x < 0
    · exact rsorts_bar h hB hf hfA i hi hi' x rest hp hx
    · obtain ⟨n, rfl⟩ : ∃ n : Nat, x = (n : Int) := ⟨x.toNat, by omega⟩
      have := hpp (n : Int) (by rw [hp]; exact List.mem_cons_self)
      exact rsorts_event h hB hf hfA i hi hi' n rest hp (by omega) hgl hgk hek

end

end Go.Proofs.YthccpacmklhejaaGreatDoor
