/-
  Several texts in one.
-/
import Derived.Test.YthccpacmklhejaaGreatDoorK35
import Derived.Test.YthccpacmklhejaaGreatDoorK37
import Derived.Test.YthccpacmklhejaaGreatDoorK40
import Derived.Test.YthccpacmklhejaaGreatDoorK34
namespace Go.Proofs.YthccpacmklhejaaGreatDoor
open Go.RowKit

/-- append to nothing: the list is new. -/
theorem wp_append_fresh {P : Program} (w : World) {o : Oper} {a : Act} {K : Act → World → Prop} {Q : Exit → Act → World → Prop} (s x : Operand) (t : TypeId)
    (ho : o.op = .call { callee := .builtin .append, args := #[s, x], argTypes := #[t, t] })
    (B : Nat) (hB : B ≤ w.heap.size) (e : TypeId) (i : TypeInfo) (z : Value) (size bytes : Nat) (ht : P.underlying t = some (.slice e)) (hi : P.info? e = some i) (hz : i.zero = some z)
    (hsize : i.size = size) (hby : i.bytes = bytes) (hzs : z.cells.size = size) (hsz : 0 < size)
    (hs : a.eval s = .slice none 0 0) (xa : Option Addr) (m c : Nat) (hx : a.eval x = .slice xa m c) (news : List Value) (hl : news.length = m * size)
    (hnews : m = 0 ∨ ∃ ad, xa = some ad ∧ ∀ j u, news[j]? = some u → w.cell? (ad.add j) = some u) (h1 : ∀ u ∈ news, u.oneCell' = true)
    (h63 : m ≤ maxLen) (hbytes : (m + m / 4 + 192) * bytes ≤ 281474976710656)
    (h : ∀ v' w', w'.ownsRow B e size v' m news → (∀ g, v'.ownBlock = some g → w.heap.size ≤ g) → Below w.heap.size w w' → K (a.put o.dst v') w') : o.wp P a w K Q := by
  have key : ∃ v' w', (Builtin.append_ #[t, t] o.type #[.slice none 0 0, .slice xa m c]).run P w = .ok v' w' ∧ w'.ownsRow B e size v' m news ∧ (∀ g, v'.ownBlock = some g → w.heap.size ≤ g) ∧ Below w.heap.size w w' := by
    by_cases h0 : m = 0
    · subst h0
      have hn : news = [] := by
        rw [Nat.zero_mul] at hl
        exact List.length_eq_zero_iff.1 hl
      subst hn
      refine ⟨.slice none 0 0, w, ?_, own_nil _ _ _ _, fun g hg => by simp [Value.ownBlock] at hg, Below.refl _ _⟩
      refine run_append_nothing w t t o.type e i ht hi none 0 0 (Nat.le_refl _) _ ⟨.inl ⟨e, ht⟩, fun w' => by simp [Builtin.lenOf], by cases xa <;> simp [Builtin.firstCells, loadCells, loadCellsFrom], by cases xa <;> simp [Builtin.firstCells, loadCells, loadCellsFrom], by simp, by simp⟩
    · rcases hnews with h2 | ⟨ad, rfl, hc⟩
      · exact absurd h2 h0
      obtain ⟨v', w', hr, h2, h3⟩ := run_append_two (P := P) w w.heap.size t o.type e i z size bytes ht hi hz hsize hby hzs hsz (.slice none 0 0) 0 [] (own_nil _ _ _ _) ad m c news hl hc h1 (by omega) (by simpa using hbytes) (Nat.le_refl _) (by omega)
      rw [Nat.zero_add, List.nil_append] at h2
      have hg : w.grownBy w' none := h3.elim (fun x => x.1) fun x => absurd (rfl : (Value.slice none 0 0).ownBlock = none) x.2.2
      exact ⟨v', w', hr, own_mono h2 hB, fun g hg => (own_ge h2 g hg).1, ⟨hg.os, hg.tape, hg.output, hg.size, fun k hk => hg.block k hk (by simp)⟩⟩
  obtain ⟨v', w', hr, a1, a2, a3⟩ := key
  unfold Oper.wp execOp
  simp only [ho, resolve, invoke, builtin, Sem.run_bind, Sem.run_pure, Result.andThen_ok, List.map_toArray, List.map_cons, List.map_nil, hs, hx, hr]
  exact h v' w' a1 a2 a3

theorem evCells_take (es : List Ev) (n : Nat) : evCells (es.take n) = (evCells es).take (n * 4) := by
  induction es generalizing n with
  | nil => simp [evCells]
  | cons e es ih =>
    cases n with
    | zero => simp [evCells]
    | succ n =>
      have := ih n
      simp only [evCells, List.take_succ_cons, List.flatMap_cons] at this ⊢
      rw [this, show (n + 1) * 4 = (evCells1 e).length + n * 4 from by simp [evCells1]; omega, List.take_length_add_append]

theorem chgCells_take (cs : List ChgM) (n : Nat) : chgCells (cs.take n) = (chgCells cs).take (n * 4) := by
  induction cs generalizing n with
  | nil => simp [chgCells]
  | cons e cs ih =>
    cases n with
    | zero => simp [chgCells]
    | succ n =>
      have := ih n
      simp only [chgCells, List.take_succ_cons, List.flatMap_cons] at this ⊢
      rw [this, show (n + 1) * 4 = (chgCells1 e).length + n * 4 from by simp [chgCells1]; omega, List.take_length_add_append]

theorem chgCells_length (cs : List ChgM) : (chgCells cs).length = cs.length * 4 := by
  induction cs with
  | nil => rfl
  | cons c cs ih => simp [chgCells, chgCells1] at ih ⊢; omega

theorem evs_oneCell (es : List Ev) : ∀ u ∈ evCells es, u.oneCell' = true := by
  intro u hu
  unfold evCells at hu
  obtain ⟨e, _, h⟩ := List.mem_flatMap.1 hu
  exact ev_oneCell e u h

theorem chgs_oneCell (cs : List ChgM) : ∀ u ∈ chgCells cs, u.oneCell' = true := by
  intro u hu
  unfold chgCells at hu
  obtain ⟨c, _, h⟩ := List.mem_flatMap.1 hu
  simp [chgCells1] at h
  rcases h with rfl | rfl | rfl | rfl <;> rfl

theorem Tryz.infoChg : (Tryz.prog.info? 149).map (fun i => (i.zero, i.size, i.bytes)) = some (some (.agg #[.int .i64 0, .string ⟨#[]⟩, .int .i64 0, .int .i64 0]), 4, 40) := by kernel_rfl

/-- The first cells of a row, where it has any. -/
theorem first_cells {w : World} {B N c s : Nat} {e : TypeId} {a : Option Addr} {xs : List Value} (h : w.ownsRow B e s (.slice a N c) N xs) (m : Nat) (hm : m ≤ N) : m = 0 ∨ ∃ ad, a = some ad ∧ ∀ j u, (xs.take (m * s))[j]? = some u → w.cell? (ad.add j) = some u := by
  rcases own_addr h with ⟨_, h0⟩ | ⟨g, rfl⟩
  · exact .inl (by omega)
  · refine .inr ⟨_, rfl, fun j u hu => ?_⟩
    rw [List.getElem?_take] at hu
    split at hu
    · exact h.cells (g := g) rfl j u hu
    · cases hu

theorem fgt_S {j : JobM} (n : Nat) (hn : n < j.sorters.length) : { j.fgt n n with sorters := (j.fgt n n).sorters.set n (forgS j.sorters[n]) } = j.fgt (n + 1) n := by
  have e := firstN_succ forgS j.sorters n hn
  unfold JobM.fgt
  simp only
  rw [e]

theorem fgt_A {j : JobM} (n : Nat) (hn : n < j.adders.length) : { j.fgt (n + 1) n with adders := (j.fgt (n + 1) n).adders.set n (forgA j.width j.adders[n]) } = j.fgt (n + 1) (n + 1) := by
  have e := firstN_succ (forgA j.width) j.adders n hn
  unfold JobM.fgt
  simp only
  rw [e]

theorem fgt_sorter {j : JobM} (m n : Nat) (hn : n < j.sorters.length) (hn' : n < (j.fgt n m).sorters.length) : (j.fgt n m).sorters[n] = j.sorters[n] := firstN_at forgS j.sorters n hn (by rw [firstN_length]; exact hn)
theorem fgt_adder {j : JobM} (m n : Nat) (hn : n < j.adders.length) (hn' : n < (j.fgt m n).adders.length) : (j.fgt m n).adders[n] = j.adders[n] := firstN_at (forgA j.width) j.adders n hn (by rw [firstN_length]; exact hn)

section
variable {f : Owners} {w : World} {B k jb : Nat} {sb ab : List Nat} {j : JobM}

theorem RAfterF.then {j2 : JobM} {w1 w2 : World} {f1 : Owners} (hF : FrmO f (fun _ => True) w w1) (hS : Same w.heap.size f f1) (h2 : RAfterF f1 w1 B k jb j2 w2) : RAfterF f w B k jb j2 w2 := by
  obtain ⟨f2, sb2, ab2, hR2, hF2, hS2⟩ := h2
  exact ⟨f2, sb2, ab2, hR2, hF.trans hS hF2, hS.trans hS2 hF.size⟩

set_option maxRecDepth 100000 in
set_option maxHeartbeats 8000000 in
theorem rfail_any (h : RJob f w B k jb sb ab j) (hB : B ≤ w.heap.size) (hp : RPl j) :
    Calls Tryz.prog 32 #[.pointer (some ⟨jb, 0, none⟩)] w fun en w' => en = .returned (.tuple #[]) ∧ RAfterF f w B k jb j.fail w' := by
  have hW := hp.width
  obtain ⟨i0, hi0, hz0, hz1, hz2⟩ := info_parts Tryz.infoEv
  obtain ⟨i1, hi1, hy0, hy1, hy2⟩ := info_parts Tryz.infoChg
  obtain ⟨ve, vs, va, vr, hb, _⟩ := h.box
  have c7 : w.cell? ⟨jb, 7, none⟩ = some (.bool j.under) := box_cell hb 7
  have c10 : w.cell? ⟨jb, 10, none⟩ = some (.bool j.complete) := box_cell hb 10
  obtain ⟨j1, hj1⟩ : ∃ j1, (if j.under && j.complete then j.commit else j) = j1 := ⟨_, rfl⟩
  have HC := show Hid ((j.under && j.complete) = true → Calls Tryz.prog 55 #[.pointer (some ⟨jb, 0, none⟩)] w fun en w' => en = .returned (.tuple #[]) ∧ RAfter f w B k jb sb ab j1 w') from fun e => by
    have h1 := rcommit_any h hB hp e
    rw [if_pos e] at hj1
    rw [← hj1]
    exact h1
  have HN := show Hid ((j.under && j.complete) = false → RAfter f w B k jb sb ab j1 w) from fun e => by
    rw [if_neg (by rw [e]; decide)] at hj1
    rw [← hj1]
    exact ⟨f, h, FrmO.refl _ _ _, Same.refl _ _⟩
  have hfa : j.fail = j1.forget := by
    unfold JobM.fail
    rw [← hj1]
    split <;> rfl
  have hp1 : RPl j1 := by
    rw [← hj1]
    split
    · rename_i e
      rw [Bool.and_eq_true] at e
      exact rpl_commit hp e.1 e.2
    · exact hp
  have hw1 : j1.width = j.width := by rw [← hj1]; split <;> rfl
  rw [hfa]
  rw [← hw1] at hW
  have HB := show Hid (B ≤ w.heap.size) from hB
  have HP := show Hid (RPl j1) from hp1
  clear h hp hb hj1 hfa hp1 hw1 hB
  generalize j.under = u at c7 HC HN
  generalize j.complete = c at c10 HC HN
  go_enter Tryz.func32, Tryz.ntmps32
  go_upto_region 0 with fail
  go_cut [16] from 7 (fun s16 wc => s16 = Value.bool (u && c) ∧ wc = w)
  case first =>
    cases u <;> cases c
    all_goals
      go_wp2
      go_meet
      exact ⟨rfl, rfl⟩
  case rest =>
  obtain ⟨rfl, hwc⟩ := hcut
  have hwc2 := hwc.symm
  clear hwc
  subst hwc2
  clear c7 c10
  generalize (u && c) = e at HC HN
  go_upto_if 16 with fail
  go_cut [] from 7 (fun wd => RAfter f w B k jb sb ab j1 wd)
  case first =>
    cases e with
    | false =>
      go_wp2_with fail
      go_meet
      first | exact HN.out rfl | exact HN.out trivial
    | true =>
      go_wp2_with (go_at_call 55; refine (HC.out rfl).mono ?_; rintro en w2 ⟨rfl, hR2⟩)
      go_meet
      exact hR2
  case rest =>
    obtain ⟨f1, hR, hF, hS⟩ := hcut
    clear HC HN
    obtain ⟨b11, b7, b3, z7, z3, hBk⟩ := hR.backTo
    have hlS := hR.lenS
    have hlA := hR.lenA
    have H0 := show Hid (RAfterF f w B k jb (j1.fgt 0 0) ((wc.setCell ⟨jb, 7, none⟩ (.bool false)).setCell ⟨jb, 3, none⟩ (.int .i64 (j1.base : Int)))) from by
      obtain ⟨f2, hR2, hF2, hS2⟩ := hBk
      refine ⟨f2, sb, ab, ?_, hF.trans hS hF2, hS.trans hS2 hF.size⟩
      have e : j1.fgt 0 0 = { j1 with under := false, sent := j1.base } := by simp [JobM.fgt, firstN]
      rw [e]
      exact hR2
    clear hR hF hS hBk
    clear f1
    generalize j1.under = u1 at b7
    go_wp2
    clear b11 b7 b3 z7 z3
    generalize (wc.setCell ⟨jb, 7, none⟩ (.bool false)).setCell ⟨jb, 3, none⟩ (.int .i64 (j1.base : Int)) = w0 at H0 ⊢
    clear wc
    go_loopw [2] (fun i wr => ∃ n : Nat, n ≤ j1.width ∧ i = .int .i64 (n : Int) ∧ RAfterF f w B k jb (j1.fgt n n) wr) (fun i _ => j1.width - (intOf i).toNat)
    case atStart => exact ⟨0, Nat.zero_le _, rfl, H0.out⟩
    case round =>
      obtain ⟨n, hn, rfl, f1, sb1, ab1, hR, hF, hS⟩ := hrel
      clear H0
      have c0 : wr.cell? ⟨jb, 0, none⟩ = some (.int .i64 (j1.width : Int)) := (job_reads hR).1
      by_cases hnl : n < j1.width
      · have hni : (n : Int) < (j1.width : Int) := by omega
        have hn0 : (0 : Int) ≤ (n : Int) := by omega
        have hlS1 := hR.lenS
        have hlA1 := hR.lenA
        have hs1 : n < sb1.length := by have : (j1.fgt n n).width = j1.width := rfl; omega
        have ha1 : n < ab1.length := by have : (j1.fgt n n).width = j1.width := rfl; omega
        have hs2 : n < j1.sorters.length := by omega
        have ha2 : n < j1.adders.length := by omega
        have hs2' : n < (j1.fgt n n).sorters.length := by show n < (firstN forgS j1.sorters n).length; rw [firstN_length]; exact hs2
        obtain ⟨_, k3, _, _⟩ := hR.keepS n hs1 hs2' (by show j1.width ≤ 9; omega)
        obtain ⟨vg, c3, hg, _⟩ := hR.gotS n hs1 hs2' (by show j1.width ≤ 9; omega)
        rw [fgt_sorter n n hs2 hs2'] at k3 hg
        obtain ⟨g1, cs', c4, d1, ne1, ne2⟩ := hR.markWay n hs1 hs2'
        have c4' : wr.cell? ⟨jb, 4, none⟩ = some (.slice (some ⟨g1, 0, none⟩) j1.width cs') := c4
        have hkl := (HP.out.flow.sorters n _ (List.getElem?_eq_getElem hs2)).kept_le
        have hgl := (sorter_got HP.out.flow (List.getElem?_eq_getElem hs2)).2.1
        have hel := HP.out.events
        obtain ⟨ga, gc, rfl⟩ := own_shape hg
        have hcap := own_cap hg
        have hfc := first_cells hg (j1.sorters[n]).kept hkl
        rw [← evCells_take] at hfc
        have hBw : B ≤ wr.heap.size := Nat.le_trans HB.out hF.size
        have HSW := show Hid (∀ (w2 : World) (nb : Nat) (vg : Value), Below wr.heap.size wr w2 → wr.heap.size ≤ nb → w2.heap[nb]? = some (.cells #[vg, .slice none 0 0, .int .i64 ((j1.sorters[n]).kept : Int), .int .i64 ((j1.sorters[n]).kept : Int), .bool false] 94 (0, 0)) → w2.ownsRow B 41 4 vg ((j1.sorters[n]).got.take (j1.sorters[n]).kept).length (evCells ((j1.sorters[n]).got.take (j1.sorters[n]).kept)) → (∀ g, vg.ownBlock = some g → wr.heap.size ≤ g) →
            w2.cell? ⟨g1, n, none⟩ = some (.pointer (some ⟨sb1[n], 0, none⟩)) ∧ w2.frozen? ⟨g1, n, none⟩ = false ∧ g1 ≠ nb ∧ g1 ≠ jb ∧ ∃ f2 sb2, RJob f2 (w2.setCell ⟨g1, n, none⟩ (.pointer (some ⟨nb, 0, none⟩))) B k jb sb2 ab1 (j1.fgt (n + 1) n) ∧ FrmO f (fun _ => True) w (w2.setCell ⟨g1, n, none⟩ (.pointer (some ⟨nb, 0, none⟩))) ∧ Same w.heap.size f f2) from fun w2 nb vg hb2 hnb hblk hrow hvg => by
          obtain ⟨a1, a2, a3, a4, f2, hR2, hF2, hS2⟩ := hR.swapS n hs1 hs2' (by show j1.width ≤ 9; omega) c4 hb2 hnb (forgS j1.sorters[n]) rfl hblk hrow hvg
          rw [fgt_S n hs2] at hR2
          exact ⟨a1, a2, a3, a4, f2, _, hR2, hF.trans hS hF2, hS.trans hS2 hF.size⟩
        have hlt : ((j1.sorters[n]).got.take (j1.sorters[n]).kept).length = (j1.sorters[n]).kept := by rw [List.length_take]; omega
        rw [hlt] at HSW
        obtain ⟨ne3, ne4⟩ : sb1[n] ≠ jb ∧ sb1[n] ≠ g1 := ⟨ne1, ne2⟩
        clear hR hF hS hg c4 ne1 ne2 hlt hlS1 hlA1
        have Hfc := show Hid _ from hfc
        have hnews : (evCells ((j1.sorters[n]).got.take (j1.sorters[n]).kept)).length = (j1.sorters[n]).kept * 4 := by rw [evCells_length, List.length_take]; omega
        have hoc := evs_oneCell ((j1.sorters[n]).got.take (j1.sorters[n]).kept)
        generalize evCells ((j1.sorters[n]).got.take (j1.sorters[n]).kept) = news at Hfc HSW hnews hoc
        have HOC := show Hid (∀ u ∈ news, u.oneCell' = true) from hoc
        clear hfc hoc
        have Hnews := show Hid _ from hnews
        clear hnews
        obtain ⟨b1, hb1⟩ : ∃ b1, sb1[n] = b1 := ⟨_, rfl⟩
        rw [hb1] at k3 c3 d1 HSW ne3 ne4
        clear hb1
        have c3' : wr.cell? ⟨b1, 0, none⟩ = some (.slice ga (j1.sorters[n]).got.length gc) := c3
        clear c3
        generalize (j1.sorters[n]).got.length = N at c3' hkl hgl hcap
        generalize (j1.sorters[n]).kept = kp at k3 hkl HSW Hnews Hfc
        have hkc : (kp : Int) ≤ (gc : Int) := by omega
        have hk0 : (0 : Int) ≤ (kp : Int) := by omega
        go_wp2
        clear c0 d1
        have c3d : wr.drew.cell? ⟨b1, 0, none⟩ = some (.slice ga N gc) := c3'
        have k3d : wr.drew.cell? ⟨b1, 3, none⟩ = some (.int .i64 (kp : Int)) := k3
        have HBd := show Hid (Below wr.heap.size wr wr.drew) from (Below.refl wr.heap.size wr).drew
        have Hfd := show Hid (kp = 0 ∨ ∃ ad, ga = some ad ∧ ∀ j u, news[j]? = some u → wr.drew.cell? (ad.add j) = some u) from Hfc.out
        clear c3' Hfc
        have hBd : B ≤ wr.drew.heap.size := hBw
        refine wp_region_held_drew (S := fun w' : World => w'.cell? ⟨b1, 0, none⟩ = some (.slice ga N gc) ∧ w'.cell? ⟨b1, 3, none⟩ = some (.int .i64 (kp : Int))) (by kernel_rfl) ⟨c3d, k3d⟩ (fun hH => ?_)
        generalize wr.drew = wd at c3d k3d HBd Hfd hBd hH ⊢
        refine wpAnyH_take (i := 0) (v := (.slice none 0 0)) rfl (by kernel_rfl) (by kernel_rfl) (by kernel_rfl) (fun _ _ _ h => h) (Or.inl ⟨by rfl, by intro v hSw; clear hSw; go_simp⟩) hH ?_
        refine wpAnyH_take (i := 1) (v := (.pointer (some ⟨b1, 0, none⟩))) rfl (by kernel_rfl) (by kernel_rfl) (by kernel_rfl) (fun _ _ _ h => h) (Or.inl ⟨by rfl, by intro v hSw; clear hSw; go_simp⟩) hH ?_
        refine wpAnyH_take (i := 2) (v := (.pointer (some ⟨b1, 0, none⟩))) rfl (by kernel_rfl) (by kernel_rfl) (by kernel_rfl) (fun _ _ _ h => h) (Or.inl ⟨by rfl, by intro v hSw; clear hSw; go_simp⟩) hH ?_
        refine wpAnyH_take (i := 3) (v := (.pointer (some ⟨b1, 0, none⟩))) rfl (by kernel_rfl) (by kernel_rfl) (by kernel_rfl) (fun _ _ _ h => h) (Or.inl ⟨by rfl, by intro v hSw; clear hSw; go_simp⟩) hH ?_
        refine wpAnyH_take (i := 4) (v := (.slice ga N gc)) rfl (by kernel_rfl) (by kernel_rfl) (by kernel_rfl) (fun _ _ _ h => h) (Or.inl ⟨by rfl, by intro v hSw; have s0 := hSw.1; clear hSw; go_simp⟩) hH ?_
        refine wpAnyH_take (i := 5) (v := (.pointer (some ⟨b1, 0, none⟩))) rfl (by kernel_rfl) (by kernel_rfl) (by kernel_rfl) (fun _ _ _ h => h) (Or.inl ⟨by rfl, by intro v hSw; clear hSw; go_simp⟩) hH ?_
        refine wpAnyH_take (i := 6) (v := (.pointer (some ⟨b1, 0, none⟩))) rfl (by kernel_rfl) (by kernel_rfl) (by kernel_rfl) (fun _ _ _ h => h) (Or.inl ⟨by rfl, by intro v hSw; clear hSw; go_simp⟩) hH ?_
        refine wpAnyH_take (i := 7) (v := (.pointer (some ⟨b1, 3, none⟩))) rfl (by kernel_rfl) (by kernel_rfl) (by kernel_rfl) (fun _ _ _ h => h) (Or.inl ⟨by rfl, by intro v hSw; clear hSw; go_simp⟩) hH ?_
        refine wpAnyH_take (i := 8) (v := (.int .i64 (kp : Int))) rfl (by kernel_rfl) (by kernel_rfl) (by kernel_rfl) (fun _ _ _ h => h) (Or.inl ⟨by rfl, by intro v hSw; have s0 := hSw.2; clear hSw; go_simp⟩) hH ?_
        refine wpAnyH_take (i := 9) (v := (.slice ga kp gc)) rfl (by kernel_rfl) (by kernel_rfl) (by kernel_rfl) (fun _ _ _ h => h) (Or.inl ⟨by rfl, by intro v hSw; clear hSw; cases ga <;> go_simp⟩) hH ?_
        refine wpAnyH_ready (rs := [10]) (by kernel_rfl) (by simp) ?_
        refine AllReadyH.cons rfl (fun K hK => ?_) AllReadyH.nil
        refine ite_of rfl ?_
        refine wp_append_fresh _ (.tmp 44) (.tmp 53) 35 rfl B hBd 41 i0 (.agg #[.int .u8 0, .string ⟨#[]⟩, .int .u16 0, .int .i16 0]) 4 32 Tryz.underlying35 hi0 hz0 hz1 hz2 rfl (by decide) (by kernel_rfl) ga kp gc (by kernel_rfl) news Hnews.out Hfd.out HOC.out (by unfold maxLen; omega) (by omega) ?_
        intro v' w5 hown hnew hb5
        obtain ⟨va, vc, rfl⟩ := own_shape hown
        refine hK.out _ _ ⟨cell_below c3d hb5, cell_below k3d hb5⟩ (fun hH => ?_)
        clear hK K
        refine wpAnyH_take (i := 11) (v := (.slice va kp vc)) rfl (by kernel_rfl) (by kernel_rfl) (by kernel_rfl) (fun _ _ _ h => h) (Or.inl ⟨by rfl, by intro v hSw; clear hSw; go_simp⟩) hH ?_
        clear hH
        refine wpAnyH_done (by kernel_rfl) ?_ _
        have HO5 := show Hid (w5.ownsRow B 41 4 (.slice va kp vc) kp news ∧ (∀ g, (Value.slice va kp vc).ownBlock = some g → wr.heap.size ≤ g) ∧ Below wr.heap.size wr w5) from ⟨hown, fun g hg => Nat.le_trans HBd.out.size (hnew g hg), HBd.out.trans (hb5.mono HBd.out.size)⟩
        clear hown hnew hb5 c3d k3d HBd Hfd hBd HOC
        go_wp2
        clear Hnews
        have c4d : w5.drew.cell? ⟨jb, 4, none⟩ = some (.slice (some ⟨g1, 0, none⟩) j1.width cs') := cell_below c4' HO5.out.2.2.drew
        have k3d : w5.drew.cell? ⟨b1, 3, none⟩ = some (.int .i64 (kp : Int)) := cell_below k3 HO5.out.2.2.drew
        have HO6 := show Hid (w5.drew.ownsRow B 41 4 (.slice va kp vc) kp news ∧ (∀ g, (Value.slice va kp vc).ownBlock = some g → wr.heap.size ≤ g) ∧ Below wr.heap.size wr w5.drew) from ⟨HO5.out.1, HO5.out.2.1, HO5.out.2.2.drew⟩
        clear HO5 c4' k3
        refine wp_region_held_drew (S := fun w' : World => w'.cell? ⟨jb, 4, none⟩ = some (.slice (some ⟨g1, 0, none⟩) j1.width cs') ∧ w'.cell? ⟨b1, 3, none⟩ = some (.int .i64 (kp : Int))) (by kernel_rfl) ⟨c4d, k3d⟩ (fun hH => ?_)
        generalize w5.drew = wd at c4d k3d HO6 hH ⊢
        clear w5
        refine wpAnyH_take (i := 0) (v := (.pointer (some ⟨jb, 0, none⟩))) rfl (by kernel_rfl) (by kernel_rfl) (by kernel_rfl) (fun _ _ _ h => h) (Or.inl ⟨by rfl, by intro v hSw; clear hSw; go_simp⟩) hH ?_
        refine wpAnyH_take (i := 1) (v := (.pointer (some ⟨jb, 0, none⟩))) rfl (by kernel_rfl) (by kernel_rfl) (by kernel_rfl) (fun _ _ _ h => h) (Or.inl ⟨by rfl, by intro v hSw; clear hSw; go_simp⟩) hH ?_
        refine wpAnyH_take (i := 2) (v := (.pointer (some ⟨jb, 4, none⟩))) rfl (by kernel_rfl) (by kernel_rfl) (by kernel_rfl) (fun _ _ _ h => h) (Or.inl ⟨by rfl, by intro v hSw; clear hSw; go_simp⟩) hH ?_
        refine wpAnyH_take (i := 3) (v := (.slice (some ⟨g1, 0, none⟩) j1.width cs')) rfl (by kernel_rfl) (by kernel_rfl) (by kernel_rfl) (fun _ _ _ h => h) (Or.inl ⟨by rfl, by intro v hSw; have s0 := hSw.1; clear hSw; go_simp⟩) hH ?_
        refine wpAnyH_take (i := 4) (v := (.int .i64 (n : Int))) rfl (by kernel_rfl) (by kernel_rfl) (by kernel_rfl) (fun _ _ _ h => h) (Or.inl ⟨by rfl, by intro v hSw; clear hSw; go_simp⟩) hH ?_
        refine wpAnyH_take (i := 5) (v := (.slice va kp vc)) rfl (by kernel_rfl) (by kernel_rfl) (by kernel_rfl) (fun _ _ _ h => h) (Or.inl ⟨by rfl, by intro v hSw; clear hSw; go_simp⟩) hH ?_
        refine wpAnyH_take (i := 6) (v := (.pointer (some ⟨b1, 0, none⟩))) rfl (by kernel_rfl) (by kernel_rfl) (by kernel_rfl) (fun _ _ _ h => h) (Or.inl ⟨by rfl, by intro v hSw; clear hSw; go_simp⟩) hH ?_
        refine wpAnyH_take (i := 7) (v := (.pointer (some ⟨b1, 0, none⟩))) rfl (by kernel_rfl) (by kernel_rfl) (by kernel_rfl) (fun _ _ _ h => h) (Or.inl ⟨by rfl, by intro v hSw; clear hSw; go_simp⟩) hH ?_
        refine wpAnyH_take (i := 8) (v := (.pointer (some ⟨b1, 3, none⟩))) rfl (by kernel_rfl) (by kernel_rfl) (by kernel_rfl) (fun _ _ _ h => h) (Or.inl ⟨by rfl, by intro v hSw; clear hSw; go_simp⟩) hH ?_
        refine wpAnyH_take (i := 9) (v := (.int .i64 (kp : Int))) rfl (by kernel_rfl) (by kernel_rfl) (by kernel_rfl) (fun _ _ _ h => h) (Or.inl ⟨by rfl, by intro v hSw; have s0 := hSw.2; clear hSw; go_simp⟩) hH ?_
        refine wpAnyH_take (i := 10) (v := (.pointer (some ⟨b1, 0, none⟩))) rfl (by kernel_rfl) (by kernel_rfl) (by kernel_rfl) (fun _ _ _ h => h) (Or.inl ⟨by rfl, by intro v hSw; clear hSw; go_simp⟩) hH ?_
        refine wpAnyH_take (i := 11) (v := (.pointer (some ⟨b1, 0, none⟩))) rfl (by kernel_rfl) (by kernel_rfl) (by kernel_rfl) (fun _ _ _ h => h) (Or.inl ⟨by rfl, by intro v hSw; clear hSw; go_simp⟩) hH ?_
        refine wpAnyH_take (i := 12) (v := (.pointer (some ⟨b1, 3, none⟩))) rfl (by kernel_rfl) (by kernel_rfl) (by kernel_rfl) (fun _ _ _ h => h) (Or.inl ⟨by rfl, by intro v hSw; clear hSw; go_simp⟩) hH ?_
        refine wpAnyH_take (i := 13) (v := (.int .i64 (kp : Int))) rfl (by kernel_rfl) (by kernel_rfl) (by kernel_rfl) (fun _ _ _ h => h) (Or.inl ⟨by rfl, by intro v hSw; have s0 := hSw.2; clear hSw; go_simp⟩) hH ?_
        refine wpAnyH_take (i := 14) (v := (.agg #[.slice va kp vc, .slice none 0 0, .int .i64 (kp : Int), .int .i64 (kp : Int), .bool false])) rfl (by kernel_rfl) (by kernel_rfl) (by kernel_rfl) (fun _ _ _ h => h) (Or.inl ⟨by rfl, by intro v hSw; clear hSw; go_simp⟩) hH ?_
        refine wpAnyH_ready (rs := [15]) (by kernel_rfl) (by simp) ?_
        refine AllReadyH.cons rfl (fun K hK => ?_) AllReadyH.nil
        clear hH
        go_simp
        have hbA := (Below.refl wd.heap.size wd).alloc (Nat.le_refl _) (.cells #[.slice va kp vc, .slice none 0 0, .int .i64 (kp : Int), .int .i64 (kp : Int), .bool false] 94)
        obtain ⟨a1, a2, a3, a4, HX⟩ := HSW.out (wd.alloc (.cells #[.slice va kp vc, .slice none 0 0, .int .i64 (kp : Int), .int .i64 (kp : Int), .bool false] 94)) wd.heap.size (.slice va kp vc) (HO6.out.2.2.trans (hbA.mono HO6.out.2.2.size)) HO6.out.2.2.size (heap_alloc_new wd _) (HO6.out.1.alloc _) HO6.out.2.1
        have c4a := cell_below c4d hbA
        have k3a := cell_below k3d hbA
        have HXX := show Hid _ from HX
        refine hK.out _ _ ⟨c4a, k3a⟩ (fun hH => ?_)
        clear hK K HX HSW HO6 hbA c4d k3d
        generalize wd.heap.size = nb at HXX a3 hH ⊢
        generalize wd.alloc (.cells #[.slice va kp vc, .slice none 0 0, .int .i64 (kp : Int), .int .i64 (kp : Int), .bool false] 94) = w6 at HXX a1 a2 c4a k3a hH ⊢
        refine wpAnyH_take (i := 16) (v := (.pointer (some ⟨g1, n, none⟩))) rfl (by kernel_rfl) (by kernel_rfl) (by kernel_rfl) (fun _ _ _ h => h) (Or.inl ⟨by rfl, by intro v hSw; clear hSw; go_simp⟩) hH ?_
        refine wpAnyH_ready (rs := [17]) (by kernel_rfl) (by simp) ?_
        refine AllReadyH.cons rfl (fun K hK => ?_) AllReadyH.nil
        clear hH
        go_simp
        refine hK.out _ _ ⟨cell_other c4a (.inl a4), cell_other k3a (.inl (Ne.symm ne4))⟩ (fun hH => ?_)
        clear hK K hH c4a k3a a1 a2 a3 a4
        refine wpAnyH_done (by kernel_rfl) ?_ _
        generalize w6.setCell ⟨g1, n, none⟩ (.pointer (some ⟨nb, 0, none⟩)) = w7 at HXX ⊢
        obtain ⟨f2, sb2, hR2, hF2, hS2⟩ := HXX.out
        clear HXX ne3 ne4
        have ha2' : n < (j1.fgt (n + 1) n).adders.length := by show n < (firstN (forgA j1.width) j1.adders n).length; rw [firstN_length]; exact ha2
        obtain ⟨_, k4, _, _⟩ := hR2.keepA n ha1 ha2' (by show j1.width ≤ 9; omega)
        obtain ⟨_, vg, vp, vs, vt, hbk, hg, _⟩ := hR2.adders n ha1 ha2'
        have c3 : w7.cell? ⟨ab1[n], 0, none⟩ = some vg := box_cell hbk 0
        rw [fgt_adder _ n ha2 ha2'] at k4 hg
        obtain ⟨g2, ca, c5, d2⟩ := hR2.adderWay n ha1
        have c5' : w7.cell? ⟨jb, 5, none⟩ = some (.slice (some ⟨g2, 0, none⟩) j1.width ca) := c5
        have c0' : w7.cell? ⟨jb, 0, none⟩ = some (.int .i64 (j1.width : Int)) := (job_reads hR2).1
        have ne5 : ab1[n] ≠ g2 := by
          obtain ⟨_, _, va0, _, hbx0, _, _, _, _, ha0, oa0, _⟩ := hR2.box
          have hc0 : w7.cell? ⟨jb, 5, none⟩ = some va0 := box_cell hbx0 5
          have hv0 : va0 = .slice (some ⟨g2, 0, none⟩) j1.width ca := Option.some.inj (hc0.symm.trans c5)
          exact owner_ne (hR2.adders n ha1 ha2').1 (oa0 g2 (by rw [hv0]; rfl)) (by omega)
        have hkl := (HP.out.flow.adders n _ (List.getElem?_eq_getElem ha2)).kept_le
        have hgl := (HP.out.got (List.getElem?_eq_getElem ha2)).2
        obtain ⟨ga, gc, rfl⟩ := own_shape hg
        have hcap := own_cap hg
        have hfc := first_cells hg (j1.adders[n]).kept hkl
        rw [← chgCells_take] at hfc
        have hBw : B ≤ w7.heap.size := Nat.le_trans HB.out hF2.size
        have HSW := show Hid (∀ (w2 : World) (nb : Nat) (vg vp vt : Value), Below w7.heap.size w7 w2 → w7.heap.size ≤ nb → w2.heap[nb]? = some (.cells #[vg, vp, vt, .int .i64 ((j1.adders[n]).kept : Int), .int .i64 ((j1.adders[n]).kept : Int), .bool false] 100 (0, 0)) → w2.ownsRow B 149 4 vg ((j1.adders[n]).got.take (j1.adders[n]).kept).length (chgCells ((j1.adders[n]).got.take (j1.adders[n]).kept)) → (∀ g, vg.ownBlock = some g → w7.heap.size ≤ g) →
            w2.ownsRow B 98 1 vp j1.width (List.replicate j1.width (.slice none 0 0)) → (∀ g, vp.ownBlock = some g → w7.heap.size ≤ g) → w2.ownsRow B 4 1 vt j1.width (List.replicate j1.width (.bool false)) → (∀ g, vt.ownBlock = some g → w7.heap.size ≤ g) →
            w2.cell? ⟨g2, n, none⟩ = some (.pointer (some ⟨ab1[n], 0, none⟩)) ∧ w2.frozen? ⟨g2, n, none⟩ = false ∧ g2 ≠ nb ∧ g2 ≠ jb ∧ RAfterF f w B k jb (j1.fgt (n + 1) (n + 1)) (w2.setCell ⟨g2, n, none⟩ (.pointer (some ⟨nb, 0, none⟩)))) from fun w2 nb vg vp vt hb2 hnb hblk hrow hvg hrowp hvp hrowt hvt => by
          obtain ⟨a1, a2, a3, a4, f3, hR3, hF3, hS3⟩ := hR2.swapA n ha1 ha2' (by show j1.width ≤ 9; omega) c5 hb2 hnb (forgA j1.width j1.adders[n]) rfl rfl hblk hrow hvg hrowp hvp hrowt hvt
          rw [fgt_A n ha2] at hR3
          exact ⟨a1, a2, a3, a4, f3, _, _, hR3, hF2.trans hS2 hF3, hS2.trans hS3 hF2.size⟩
        have hlt : ((j1.adders[n]).got.take (j1.adders[n]).kept).length = (j1.adders[n]).kept := by rw [List.length_take]; omega
        rw [hlt] at HSW
        clear hR2 hF2 hS2 hg c5 hlt hbk
        have Hfc := show Hid _ from hfc
        have hnews : (chgCells ((j1.adders[n]).got.take (j1.adders[n]).kept)).length = (j1.adders[n]).kept * 4 := by rw [chgCells_length, List.length_take]; omega
        have hoc := chgs_oneCell ((j1.adders[n]).got.take (j1.adders[n]).kept)
        generalize chgCells ((j1.adders[n]).got.take (j1.adders[n]).kept) = news2 at Hfc HSW hnews hoc
        have HOC := show Hid (∀ u ∈ news2, u.oneCell' = true) from hoc
        have Hnews := show Hid _ from hnews
        clear hfc hoc hnews
        obtain ⟨b2, hb2⟩ : ∃ b2, ab1[n] = b2 := ⟨_, rfl⟩
        rw [hb2] at k4 c3 d2 HSW ne5
        clear hb2
        generalize (j1.adders[n]).got.length = N2 at c3 hkl hgl hcap
        generalize (j1.adders[n]).kept = kp2 at k4 hkl HSW Hnews Hfc
        have hkc2 : (kp2 : Int) ≤ (gc : Int) := by omega
        have hk02 : (0 : Int) ≤ (kp2 : Int) := by omega
        go_wp2
        clear d2
        have c3d : w7.drew.cell? ⟨b2, 0, none⟩ = some (.slice ga N2 gc) := c3
        have k4d : w7.drew.cell? ⟨b2, 4, none⟩ = some (.int .i64 (kp2 : Int)) := k4
        have HBd := show Hid (Below w7.heap.size w7 w7.drew) from (Below.refl w7.heap.size w7).drew
        have Hfd := show Hid (kp2 = 0 ∨ ∃ ad, ga = some ad ∧ ∀ j u, news2[j]? = some u → w7.drew.cell? (ad.add j) = some u) from Hfc.out
        clear c3 Hfc
        have hBd : B ≤ w7.drew.heap.size := hBw
        refine wp_region_held_drew (S := fun w' : World => w'.cell? ⟨b2, 0, none⟩ = some (.slice ga N2 gc) ∧ w'.cell? ⟨b2, 4, none⟩ = some (.int .i64 (kp2 : Int))) (by kernel_rfl) ⟨c3d, k4d⟩ (fun hH => ?_)
        generalize w7.drew = wd at c3d k4d HBd Hfd hBd hH ⊢
        refine wpAnyH_take (i := 0) (v := (.slice none 0 0)) rfl (by kernel_rfl) (by kernel_rfl) (by kernel_rfl) (fun _ _ _ h => h) (Or.inl ⟨by rfl, by intro v hSw; clear hSw; go_simp⟩) hH ?_
        refine wpAnyH_take (i := 1) (v := (.pointer (some ⟨b2, 0, none⟩))) rfl (by kernel_rfl) (by kernel_rfl) (by kernel_rfl) (fun _ _ _ h => h) (Or.inl ⟨by rfl, by intro v hSw; clear hSw; go_simp⟩) hH ?_
        refine wpAnyH_take (i := 2) (v := (.pointer (some ⟨b2, 0, none⟩))) rfl (by kernel_rfl) (by kernel_rfl) (by kernel_rfl) (fun _ _ _ h => h) (Or.inl ⟨by rfl, by intro v hSw; clear hSw; go_simp⟩) hH ?_
        refine wpAnyH_take (i := 3) (v := (.pointer (some ⟨b2, 0, none⟩))) rfl (by kernel_rfl) (by kernel_rfl) (by kernel_rfl) (fun _ _ _ h => h) (Or.inl ⟨by rfl, by intro v hSw; clear hSw; go_simp⟩) hH ?_
        refine wpAnyH_take (i := 4) (v := (.slice ga N2 gc)) rfl (by kernel_rfl) (by kernel_rfl) (by kernel_rfl) (fun _ _ _ h => h) (Or.inl ⟨by rfl, by intro v hSw; have s0 := hSw.1; clear hSw; go_simp⟩) hH ?_
        refine wpAnyH_take (i := 5) (v := (.pointer (some ⟨b2, 0, none⟩))) rfl (by kernel_rfl) (by kernel_rfl) (by kernel_rfl) (fun _ _ _ h => h) (Or.inl ⟨by rfl, by intro v hSw; clear hSw; go_simp⟩) hH ?_
        refine wpAnyH_take (i := 6) (v := (.pointer (some ⟨b2, 0, none⟩))) rfl (by kernel_rfl) (by kernel_rfl) (by kernel_rfl) (fun _ _ _ h => h) (Or.inl ⟨by rfl, by intro v hSw; clear hSw; go_simp⟩) hH ?_
        refine wpAnyH_take (i := 7) (v := (.pointer (some ⟨b2, 4, none⟩))) rfl (by kernel_rfl) (by kernel_rfl) (by kernel_rfl) (fun _ _ _ h => h) (Or.inl ⟨by rfl, by intro v hSw; clear hSw; go_simp⟩) hH ?_
        refine wpAnyH_take (i := 8) (v := (.int .i64 (kp2 : Int))) rfl (by kernel_rfl) (by kernel_rfl) (by kernel_rfl) (fun _ _ _ h => h) (Or.inl ⟨by rfl, by intro v hSw; have s0 := hSw.2; clear hSw; go_simp⟩) hH ?_
        refine wpAnyH_take (i := 9) (v := (.slice ga kp2 gc)) rfl (by kernel_rfl) (by kernel_rfl) (by kernel_rfl) (fun _ _ _ h => h) (Or.inl ⟨by rfl, by intro v hSw; clear hSw; cases ga <;> go_simp⟩) hH ?_
        refine wpAnyH_ready (rs := [10]) (by kernel_rfl) (by simp) ?_
        refine AllReadyH.cons rfl (fun K hK => ?_) AllReadyH.nil
        refine ite_of rfl ?_
        refine wp_append_fresh wd (.tmp 79) (.tmp 88) 98 rfl B hBd 149 i1 (.agg #[.int .i64 0, .string ⟨#[]⟩, .int .i64 0, .int .i64 0]) 4 40 Tryz.underlying98 hi1 hy0 hy1 hy2 rfl (by decide) (by kernel_rfl) ga kp2 gc (by kernel_rfl) news2 Hnews.out Hfd.out HOC.out (by unfold maxLen; omega) (by omega) ?_
        intro v' w5 hown hnew hb5
        obtain ⟨va, vc, rfl⟩ := own_shape hown
        refine hK.out _ _ ⟨cell_below c3d hb5, cell_below k4d hb5⟩ (fun hH => ?_)
        clear hK K
        refine wpAnyH_take (i := 11) (v := (.slice va kp2 vc)) rfl (by kernel_rfl) (by kernel_rfl) (by kernel_rfl) (fun _ _ _ h => h) (Or.inl ⟨by rfl, by intro v hSw; clear hSw; go_simp⟩) hH ?_
        clear hH
        refine wpAnyH_done (by kernel_rfl) ?_ _
        have HO5 := show Hid (w5.ownsRow B 149 4 (.slice va kp2 vc) kp2 news2 ∧ (∀ g, (Value.slice va kp2 vc).ownBlock = some g → w7.heap.size ≤ g) ∧ Below w7.heap.size w7 w5) from ⟨hown, fun g hg => Nat.le_trans HBd.out.size (hnew g hg), HBd.out.trans (hb5.mono HBd.out.size)⟩
        clear hown hnew hb5 c3d k4d HBd Hfd hBd HOC
        go_wp2
        clear Hnews
        have c5d : w5.drew.cell? ⟨jb, 5, none⟩ = some (.slice (some ⟨g2, 0, none⟩) j1.width ca) := cell_below c5' HO5.out.2.2.drew
        have c0d : w5.drew.cell? ⟨jb, 0, none⟩ = some (.int .i64 (j1.width : Int)) := cell_below c0' HO5.out.2.2.drew
        have k4d : w5.drew.cell? ⟨b2, 4, none⟩ = some (.int .i64 (kp2 : Int)) := cell_below k4 HO5.out.2.2.drew
        have HO6 := show Hid (w5.drew.ownsRow B 149 4 (.slice va kp2 vc) kp2 news2 ∧ (∀ g, (Value.slice va kp2 vc).ownBlock = some g → w7.heap.size ≤ g) ∧ Below w7.heap.size w7 w5.drew) from ⟨HO5.out.1, HO5.out.2.1, HO5.out.2.2.drew⟩
        clear HO5 c5' c0' k4
        refine wp_region_held_drew (S := fun w' : World => w'.cell? ⟨jb, 5, none⟩ = some (.slice (some ⟨g2, 0, none⟩) j1.width ca) ∧ w'.cell? ⟨jb, 0, none⟩ = some (.int .i64 (j1.width : Int)) ∧ w'.cell? ⟨b2, 4, none⟩ = some (.int .i64 (kp2 : Int))) (by kernel_rfl) ⟨c5d, c0d, k4d⟩ (fun hH => ?_)
        generalize w5.drew = wd at c5d c0d k4d HO6 hH ⊢
        clear w5
        refine wpAnyH_take (i := 0) (v := (.pointer (some ⟨jb, 0, none⟩))) rfl (by kernel_rfl) (by kernel_rfl) (by kernel_rfl) (fun _ _ _ h => h) (Or.inl ⟨by rfl, by intro v hSw; clear hSw; go_simp⟩) hH ?_
        refine wpAnyH_take (i := 1) (v := (.pointer (some ⟨jb, 0, none⟩))) rfl (by kernel_rfl) (by kernel_rfl) (by kernel_rfl) (fun _ _ _ h => h) (Or.inl ⟨by rfl, by intro v hSw; clear hSw; go_simp⟩) hH ?_
        refine wpAnyH_take (i := 2) (v := (.pointer (some ⟨jb, 5, none⟩))) rfl (by kernel_rfl) (by kernel_rfl) (by kernel_rfl) (fun _ _ _ h => h) (Or.inl ⟨by rfl, by intro v hSw; clear hSw; go_simp⟩) hH ?_
        refine wpAnyH_take (i := 3) (v := (.slice (some ⟨g2, 0, none⟩) j1.width ca)) rfl (by kernel_rfl) (by kernel_rfl) (by kernel_rfl) (fun _ _ _ h => h) (Or.inl ⟨by rfl, by intro v hSw; have s0 := hSw.1; clear hSw; go_simp⟩) hH ?_
        refine wpAnyH_take (i := 4) (v := (.int .i64 (n : Int))) rfl (by kernel_rfl) (by kernel_rfl) (by kernel_rfl) (fun _ _ _ h => h) (Or.inl ⟨by rfl, by intro v hSw; clear hSw; go_simp⟩) hH ?_
        refine wpAnyH_take (i := 5) (v := (.slice va kp2 vc)) rfl (by kernel_rfl) (by kernel_rfl) (by kernel_rfl) (fun _ _ _ h => h) (Or.inl ⟨by rfl, by intro v hSw; clear hSw; go_simp⟩) hH ?_
        refine wpAnyH_take (i := 6) (v := (.pointer (some ⟨jb, 0, none⟩))) rfl (by kernel_rfl) (by kernel_rfl) (by kernel_rfl) (fun _ _ _ h => h) (Or.inl ⟨by rfl, by intro v hSw; clear hSw; go_simp⟩) hH ?_
        refine wpAnyH_take (i := 7) (v := (.pointer (some ⟨jb, 0, none⟩))) rfl (by kernel_rfl) (by kernel_rfl) (by kernel_rfl) (fun _ _ _ h => h) (Or.inl ⟨by rfl, by intro v hSw; clear hSw; go_simp⟩) hH ?_
        refine wpAnyH_take (i := 8) (v := (.pointer (some ⟨jb, 0, none⟩))) rfl (by kernel_rfl) (by kernel_rfl) (by kernel_rfl) (fun _ _ _ h => h) (Or.inl ⟨by rfl, by intro v hSw; clear hSw; go_simp⟩) hH ?_
        refine wpAnyH_take (i := 9) (v := (.int .i64 (j1.width : Int))) rfl (by kernel_rfl) (by kernel_rfl) (by kernel_rfl) (fun _ _ _ h => h) (Or.inl ⟨by rfl, by intro v hSw; have s0 := hSw.2.1; clear hSw; go_simp⟩) hH ?_
        refine wpAnyH_act (by go_simp; exact rfl) ?_
        refine wpAnyH_take (i := 11) (v := (.pointer (some ⟨jb, 0, none⟩))) rfl (by kernel_rfl) (by kernel_rfl) (by kernel_rfl) (fun _ _ _ h => h) (Or.inl ⟨by rfl, by intro v hSw; clear hSw; go_simp⟩) hH ?_
        refine wpAnyH_take (i := 12) (v := (.pointer (some ⟨jb, 0, none⟩))) rfl (by kernel_rfl) (by kernel_rfl) (by kernel_rfl) (fun _ _ _ h => h) (Or.inl ⟨by rfl, by intro v hSw; clear hSw; go_simp⟩) hH ?_
        refine wpAnyH_take (i := 13) (v := (.pointer (some ⟨jb, 0, none⟩))) rfl (by kernel_rfl) (by kernel_rfl) (by kernel_rfl) (fun _ _ _ h => h) (Or.inl ⟨by rfl, by intro v hSw; clear hSw; go_simp⟩) hH ?_
        refine wpAnyH_take (i := 14) (v := (.int .i64 (j1.width : Int))) rfl (by kernel_rfl) (by kernel_rfl) (by kernel_rfl) (fun _ _ _ h => h) (Or.inl ⟨by rfl, by intro v hSw; have s0 := hSw.2.1; clear hSw; go_simp⟩) hH ?_
        refine wpAnyH_take (i := 16) (v := (.pointer (some ⟨b2, 0, none⟩))) rfl (by kernel_rfl) (by kernel_rfl) (by kernel_rfl) (fun _ _ _ h => h) (Or.inl ⟨by rfl, by intro v hSw; clear hSw; go_simp⟩) hH ?_
        refine wpAnyH_take (i := 17) (v := (.pointer (some ⟨b2, 0, none⟩))) rfl (by kernel_rfl) (by kernel_rfl) (by kernel_rfl) (fun _ _ _ h => h) (Or.inl ⟨by rfl, by intro v hSw; clear hSw; go_simp⟩) hH ?_
        refine wpAnyH_take (i := 18) (v := (.pointer (some ⟨b2, 4, none⟩))) rfl (by kernel_rfl) (by kernel_rfl) (by kernel_rfl) (fun _ _ _ h => h) (Or.inl ⟨by rfl, by intro v hSw; clear hSw; go_simp⟩) hH ?_
        refine wpAnyH_take (i := 19) (v := (.int .i64 (kp2 : Int))) rfl (by kernel_rfl) (by kernel_rfl) (by kernel_rfl) (fun _ _ _ h => h) (Or.inl ⟨by rfl, by intro v hSw; have s0 := hSw.2.2; clear hSw; go_simp⟩) hH ?_
        refine wpAnyH_take (i := 20) (v := (.pointer (some ⟨b2, 0, none⟩))) rfl (by kernel_rfl) (by kernel_rfl) (by kernel_rfl) (fun _ _ _ h => h) (Or.inl ⟨by rfl, by intro v hSw; clear hSw; go_simp⟩) hH ?_
        refine wpAnyH_take (i := 21) (v := (.pointer (some ⟨b2, 0, none⟩))) rfl (by kernel_rfl) (by kernel_rfl) (by kernel_rfl) (fun _ _ _ h => h) (Or.inl ⟨by rfl, by intro v hSw; clear hSw; go_simp⟩) hH ?_
        refine wpAnyH_take (i := 22) (v := (.pointer (some ⟨b2, 4, none⟩))) rfl (by kernel_rfl) (by kernel_rfl) (by kernel_rfl) (fun _ _ _ h => h) (Or.inl ⟨by rfl, by intro v hSw; clear hSw; go_simp⟩) hH ?_
        refine wpAnyH_take (i := 23) (v := (.int .i64 (kp2 : Int))) rfl (by kernel_rfl) (by kernel_rfl) (by kernel_rfl) (fun _ _ _ h => h) (Or.inl ⟨by rfl, by intro v hSw; have s0 := hSw.2.2; clear hSw; go_simp⟩) hH ?_
        have hBd : B ≤ wd.heap.size := Nat.le_trans hBw HO6.out.2.2.size
        refine wpAnyH_act (by go_simp; exact rfl) ?_
        refine wpAnyH_ready (rs := [10, 15]) (by kernel_rfl) (by simp) ?_
        refine AllReadyH.cons rfl (fun K hK => ?_) (AllReadyH.cons rfl (fun K hK => ?_) AllReadyH.nil)
        focus
          obtain ⟨w8, hmk, hrp, hb8⟩ := make_pipes wd j1.width B (by omega) hBd
          clear hH
          go_simp
          refine hK.out _ _ ⟨cell_below c5d hb8, cell_below c0d hb8, cell_below k4d hb8⟩ (fun hH => ?_)
          clear hK K hmk
          obtain ⟨w9, hmk, hrt, hb9⟩ := make_bools w8 j1.width B (by omega) (Nat.le_trans hBd hb8.size)
          refine wpAnyH_ready (rs := [15]) (by kernel_rfl) (by simp) ?_
          refine AllReadyH.cons rfl (fun K hK => ?_) AllReadyH.nil
          clear hH
          go_simp
          refine hK.out _ _ ⟨cell_below (cell_below c5d hb8) hb9, cell_below (cell_below c0d hb8) hb9, cell_below (cell_below k4d hb8) hb9⟩ (fun hH => ?_)
          clear hK K hmk
          have HM := show Hid (w9.ownsRow B 98 1 (.slice (some ⟨wd.heap.size, 0, none⟩) j1.width j1.width) j1.width (List.replicate j1.width (.slice none 0 0)) ∧ w9.ownsRow B 4 1 (.slice (some ⟨w8.heap.size, 0, none⟩) j1.width j1.width) j1.width (List.replicate j1.width (.bool false)) ∧ w7.heap.size ≤ wd.heap.size ∧ w7.heap.size ≤ w8.heap.size) from ⟨own_below hrp hb9, hrt, HO6.out.2.2.size, Nat.le_trans HO6.out.2.2.size hb8.size⟩
          have HO7 := show Hid (w9.ownsRow B 149 4 (.slice va kp2 vc) kp2 news2 ∧ (∀ g, (Value.slice va kp2 vc).ownBlock = some g → w7.heap.size ≤ g) ∧ Below w7.heap.size w7 w9) from ⟨own_below HO6.out.1 (hb8.trans (hb9.mono hb8.size)), HO6.out.2.1, HO6.out.2.2.trans ((hb8.trans (hb9.mono hb8.size)).mono HO6.out.2.2.size)⟩
          clear hrp hrt hb8 hb9 HO6 hBd
          generalize w8.heap.size = gt at HM hH ⊢
          generalize wd.heap.size = gp at HM hH ⊢
        rotate_left
        focus
          obtain ⟨w8, hmk, hrt, hb8⟩ := make_bools wd j1.width B (by omega) hBd
          clear hH
          go_simp
          refine hK.out _ _ ⟨cell_below c5d hb8, cell_below c0d hb8, cell_below k4d hb8⟩ (fun hH => ?_)
          clear hK K hmk
          obtain ⟨w9, hmk, hrp, hb9⟩ := make_pipes w8 j1.width B (by omega) (Nat.le_trans hBd hb8.size)
          refine wpAnyH_ready (rs := [10]) (by kernel_rfl) (by simp) ?_
          refine AllReadyH.cons rfl (fun K hK => ?_) AllReadyH.nil
          clear hH
          go_simp
          refine hK.out _ _ ⟨cell_below (cell_below c5d hb8) hb9, cell_below (cell_below c0d hb8) hb9, cell_below (cell_below k4d hb8) hb9⟩ (fun hH => ?_)
          clear hK K hmk
          have HM := show Hid (w9.ownsRow B 98 1 (.slice (some ⟨w8.heap.size, 0, none⟩) j1.width j1.width) j1.width (List.replicate j1.width (.slice none 0 0)) ∧ w9.ownsRow B 4 1 (.slice (some ⟨wd.heap.size, 0, none⟩) j1.width j1.width) j1.width (List.replicate j1.width (.bool false)) ∧ w7.heap.size ≤ w8.heap.size ∧ w7.heap.size ≤ wd.heap.size) from ⟨hrp, own_below hrt hb9, Nat.le_trans HO6.out.2.2.size hb8.size, HO6.out.2.2.size⟩
          have HO7 := show Hid (w9.ownsRow B 149 4 (.slice va kp2 vc) kp2 news2 ∧ (∀ g, (Value.slice va kp2 vc).ownBlock = some g → w7.heap.size ≤ g) ∧ Below w7.heap.size w7 w9) from ⟨own_below HO6.out.1 (hb8.trans (hb9.mono hb8.size)), HO6.out.2.1, HO6.out.2.2.trans ((hb8.trans (hb9.mono hb8.size)).mono HO6.out.2.2.size)⟩
          clear hrp hrt hb8 hb9 HO6 hBd
          generalize w8.heap.size = gp at HM hH ⊢
          generalize wd.heap.size = gt at HM hH ⊢
        all_goals
          have c5e : w9.cell? ⟨jb, 5, none⟩ = some (.slice (some ⟨g2, 0, none⟩) j1.width ca) := hH.1
          have c0e : w9.cell? ⟨jb, 0, none⟩ = some (.int .i64 (j1.width : Int)) := hH.2.1
          have k4e : w9.cell? ⟨b2, 4, none⟩ = some (.int .i64 (kp2 : Int)) := hH.2.2
          refine wpAnyH_take (i := 24) (v := (.agg #[.slice va kp2 vc, .slice (some ⟨gp, 0, none⟩) j1.width j1.width, .slice (some ⟨gt, 0, none⟩) j1.width j1.width, .int .i64 (kp2 : Int), .int .i64 (kp2 : Int), .bool false])) rfl (by kernel_rfl) (by kernel_rfl) (by kernel_rfl) (fun _ _ _ h => h) (Or.inl ⟨by rfl, by intro v hSw; clear hSw; go_simp⟩) hH ?_
          refine wpAnyH_ready (rs := [25]) (by kernel_rfl) (by simp) ?_
          refine AllReadyH.cons rfl (fun K hK => ?_) AllReadyH.nil
          clear hH
          go_simp
          have hbA := (Below.refl w9.heap.size w9).alloc (Nat.le_refl _) (.cells #[.slice va kp2 vc, .slice (some ⟨gp, 0, none⟩) j1.width j1.width, .slice (some ⟨gt, 0, none⟩) j1.width j1.width, .int .i64 (kp2 : Int), .int .i64 (kp2 : Int), .bool false] 100)
          obtain ⟨a1, a2, a3, a4, HX⟩ := HSW.out (w9.alloc (.cells #[.slice va kp2 vc, .slice (some ⟨gp, 0, none⟩) j1.width j1.width, .slice (some ⟨gt, 0, none⟩) j1.width j1.width, .int .i64 (kp2 : Int), .int .i64 (kp2 : Int), .bool false] 100)) w9.heap.size (.slice va kp2 vc) (.slice (some ⟨gp, 0, none⟩) j1.width j1.width) (.slice (some ⟨gt, 0, none⟩) j1.width j1.width) (HO7.out.2.2.trans (hbA.mono HO7.out.2.2.size)) HO7.out.2.2.size (heap_alloc_new w9 _) (HO7.out.1.alloc _) HO7.out.2.1 (HM.out.1.alloc _) (fun g hg => by simp only [Value.ownBlock, Option.some.injEq] at hg; rw [← hg]; exact HM.out.2.2.1) (HM.out.2.1.alloc _) (fun g hg => by simp only [Value.ownBlock, Option.some.injEq] at hg; rw [← hg]; exact HM.out.2.2.2)
          have c5a := cell_below c5e hbA
          have c0a := cell_below c0e hbA
          have k4a := cell_below k4e hbA
          have HXX := show Hid _ from HX
          refine hK.out _ _ ⟨c5a, c0a, k4a⟩ (fun hH => ?_)
          clear hK K HX HSW HO7 HM hbA c5e c0e k4e
          generalize w9.heap.size = nb at HXX a3 hH ⊢
          generalize w9.alloc (.cells #[.slice va kp2 vc, .slice (some ⟨gp, 0, none⟩) j1.width j1.width, .slice (some ⟨gt, 0, none⟩) j1.width j1.width, .int .i64 (kp2 : Int), .int .i64 (kp2 : Int), .bool false] 100) = wA at HXX a1 a2 c5a c0a k4a hH ⊢
          refine wpAnyH_take (i := 26) (v := (.pointer (some ⟨g2, n, none⟩))) rfl (by kernel_rfl) (by kernel_rfl) (by kernel_rfl) (fun _ _ _ h => h) (Or.inl ⟨by rfl, by intro v hSw; clear hSw; go_simp⟩) hH ?_
          refine wpAnyH_ready (rs := [27]) (by kernel_rfl) (by simp) ?_
          refine AllReadyH.cons rfl (fun K hK => ?_) AllReadyH.nil
          clear hH
          go_simp
          refine hK.out _ _ ⟨cell_other c5a (.inl a4), cell_other c0a (.inl a4), cell_other k4a (.inl (Ne.symm ne5))⟩ (fun hH => ?_)
          clear hK K hH c5a c0a k4a a1 a2 a3 a4
          refine wpAnyH_done (by kernel_rfl) ?_ _
          generalize wA.setCell ⟨g2, n, none⟩ (.pointer (some ⟨nb, 0, none⟩)) = wB at HXX ⊢
          go_wp2
          go_roundw
          case rel => exact ⟨n + 1, by omega, by go_num, HXX.out⟩
          case measure => simp [intOf]; omega
      · have hni : ¬ (n : Int) < (j1.width : Int) := by omega
        have hnn : n = j1.width := by omega
        have HE := show Hid (RAfterF f w B k jb j1.forget wr) from by
          have e : j1.fgt n n = j1.forget := by
            subst hnn
            unfold JobM.fgt JobM.forget
            rw [firstN_all forgS j1.sorters j1.width (by omega), firstN_all (forgA j1.width) j1.adders j1.width (by omega)]
            rfl
          rw [← e]
          exact ⟨f1, sb1, ab1, hR, hF, hS⟩
        clear hR hF hS hnn
        go_wp2
        go_end0
        exact ⟨rfl, HE.out⟩

end

end Go.Proofs.YthccpacmklhejaaGreatDoor

namespace Go.Proofs.YthccpacmklhejaaGreatDoor
open Go.RowKit

section
variable {f : Owners} {w : World} {B k jb : Nat} {sb ab : List Nat} {j : JobM}

theorem RPl.fit (hp : RPl j) : RFit j :=
  ⟨hp.width, by have := hp.room; omega, by have := hp.events; omega, hp.flow.sent, fun e he => (hp.ev e he).2.2.2, hp.fits.1⟩

theorem rsorts_pl (h : RJob f w B k jb sb ab j) (hB : B ≤ w.heap.size) (hp : RPl j) (i : Nat) (hi : i < j.width) :
    Calls Tryz.prog 45 #[.pointer (some ⟨jb, 0, none⟩), .int .i64 (i : Int)] w fun en w' => en = .returned (.int .i64 ((j.sorts i).1 : Int)) ∧ RAfter f w B k jb sb ab (j.sorts i).2 w' := by
  have hi' : i < j.sorters.length := by rw [hp.flow.lenS]; exact hi
  obtain ⟨s1, s2, s3⟩ := sorter_got hp.flow (List.getElem?_eq_getElem hi')
  have := hp.events
  exact rsorts_any h hB hp.fit hp.fits.2 i hi hi' s3 (by omega) (fun e he => (hp.ev e (s1 e he)).1) fun e he => ⟨(hp.ev e he).1, (hp.ev e he).2.2.1⟩

theorem radds_pl (h : RJob f w B k jb sb ab j) (hB : B ≤ w.heap.size) (hp : RPl j) (i : Nat) (hi : i < j.width) :
    Calls Tryz.prog 46 #[.pointer (some ⟨jb, 0, none⟩), .int .i64 (i : Int)] w fun en w' => en = .returned (.int .i64 ((j.adds i).1 : Int)) ∧ RAfter f w B k jb sb ab (j.adds i).2 w' := by
  have hi' : i < j.adders.length := by rw [hp.flow.lenA]; exact hi
  have := (hp.got (List.getElem?_eq_getElem hi')).2
  exact radds_any h hB hp.width i hi hi' (by omega)

set_option maxRecDepth 100000 in
set_option maxHeartbeats 1500000 in
theorem rstep_any (h : RJob f w B k jb sb ab j) (hB : B ≤ w.heap.size) (hp : RPl j)
    (hcm : (j.under && j.complete) = true → Calls Tryz.prog 55 #[.pointer (some ⟨jb, 0, none⟩)] w fun en w' => en = .returned (.tuple #[]) ∧ RAfter f w B k jb sb ab j.commit w') (t : Int) :
    Calls Tryz.prog 23 #[.pointer (some ⟨jb, 0, none⟩), .int .i64 t] w fun en w' => en = .returned (.int .i64 ((j.step t).1 : Int)) ∧ RAfter f w B k jb sb ab (j.step t).2 w' := by
  have c0 := (job_reads h).1
  have hW := hp.width
  have HS := show Hid (RAfter f w B k jb sb ab j w) from ⟨f, h, FrmO.refl _ _ _, Same.refl _ _⟩
  unfold JobM.step
  by_cases h1 : t < 0 ∨ 2 * (j.width : Int) + 1 < t
  · rw [if_pos h1]
    clear h hcm hp
    rcases h1 with h1 | h1
    · go_enter Tryz.func23, Tryz.ntmps23
      go_wp2
      go_ret
      exact ⟨rfl, HS.out⟩
    · have h2 : ¬ t < 0 := by omega
      go_enter Tryz.func23, Tryz.ntmps23
      go_wp2
      go_ret
      exact ⟨rfl, HS.out⟩
  · rw [if_neg h1]
    have a1 : ¬ t < 0 := fun x => h1 (.inl x)
    have a2 : ¬ 2 * (j.width : Int) + 1 < t := fun x => h1 (.inr x)
    clear h1
    by_cases h2 : t = 0
    · subst h2
      rw [if_pos rfl]
      have HC := show Hid _ from fun (_ : Unit) => rsource_any h hB hp.fit
      clear h hcm hp HS
      go_enter Tryz.func23, Tryz.ntmps23
      go_wp2_with (go_at_call 44; refine (HC.out ()).mono ?_; rintro en w1 ⟨rfl, hA⟩)
      go_ret
      exact ⟨rfl, hA⟩
    · rw [if_neg h2]
      have a3 : (t == 0) = false := by rw [beq_eq_false_iff_ne]; exact h2
      by_cases h3 : t ≤ (j.width : Int)
      · rw [if_pos h3]
        obtain ⟨i, rfl⟩ : ∃ i : Nat, t = (i : Int) + 1 := ⟨(t - 1).toNat, by omega⟩
        rw [show ((i : Int) + 1 - 1).toNat = i from by omega]
        have HC := show Hid _ from fun (_ : Unit) => rsorts_pl h hB hp i (by omega)
        clear h hcm hp HS
        go_enter Tryz.func23, Tryz.ntmps23
        go_wp2_with (go_at_call 45; refine (HC.out ()).mono ?_; rintro en w1 ⟨rfl, hA⟩)
        go_ret
        exact ⟨rfl, hA⟩
      · rw [if_neg h3]
        by_cases h4 : t ≤ 2 * (j.width : Int)
        · rw [if_pos h4]
          obtain ⟨i, hti⟩ : ∃ i : Nat, (i : Int) = t - (j.width : Int) - 1 := ⟨(t - (j.width : Int) - 1).toNat, by omega⟩
          rw [show (t - (j.width : Int) - 1).toNat = i from by omega]
          have HC := show Hid _ from fun (_ : Unit) => radds_pl h hB hp i (by omega)
          rw [hti] at HC
          clear h hcm hp HS hti
          go_enter Tryz.func23, Tryz.ntmps23
          go_wp2_with (go_at_call 46; refine (HC.out ()).mono ?_; rintro en w1 ⟨rfl, hA⟩)
          go_ret
          exact ⟨rfl, hA⟩
        · rw [if_neg h4]
          have HC := show Hid _ from fun (_ : Unit) => rkeeps_any h hW.2 hcm
          clear h hcm hp HS
          go_enter Tryz.func23, Tryz.ntmps23
          go_wp2_with (go_at_call 47; refine (HC.out ()).mono ?_; rintro en w1 ⟨rfl, hA⟩)
          go_ret
          exact ⟨rfl, hA⟩

end

end Go.Proofs.YthccpacmklhejaaGreatDoor
