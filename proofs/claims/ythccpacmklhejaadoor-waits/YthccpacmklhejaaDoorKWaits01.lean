/-
  Several texts in one.
-/
import Derived.Test.YthccpacmklhejaaDoorK13
import Derived.Test.YthccpacmklhejaaDoorK06
import Derived.Test.YthccpacmklhejaaDoorTie
import Derived.Test.YthccpacmklhejaaDoorCards
import Derived.SevenTiedAt
import Derived.SizedLaws
import Derived.ShutString
import Derived.Test.YthccpacmklhejaaDoorK24
namespace Go.Proofs.YthccpacmklhejaaDoor
open Go.RowKit

/-- A run beside which some blocks are kept. -/
structure RunP (CJ : CJT) (B : Nat) (P : Nat → Prop) (xb jb : Nat) (j : JobM) (log : ByteArray) (shown : Nat) (w : World) : Prop where
  job : ∃ X, CJ X w jb j ∧ ¬ X xb ∧ (∀ g, X g → B ≤ g) ∧ ∀ g, P g → ¬ X g
  box : w.heap[xb]? = some (.cells #[.pointer (some ⟨jb, 0, none⟩), .int .i64 (j.width : Int), .string log, .int .i64 (j.events.length : Int), .int .i64 (shown : Int)] 54 (0, 0))
  ge : B ≤ xb
  lt : ∀ g, P g → g < w.heap.size

section
variable {CJ : CJT} {B xb jb : Nat} {P : Nat → Prop} {j : JobM} {log : ByteArray} {shown : Nat} {w w' : World}

theorem RunP.run (h : RunP CJ B P xb jb j log shown w) : RunAt CJ B xb jb j log shown w := by
  obtain ⟨X, h1, h2, h3, _⟩ := h.job
  exact ⟨⟨X, h1, h2, h3⟩, h.box, h.ge⟩

theorem RunP.old (I : JobIface CJ) (h : RunP CJ B P xb jb j log shown w) (hb : Below w.heap.size w w') : RunP CJ B P xb jb j log shown w' := by
  obtain ⟨X, h1, h2, h3, h4⟩ := h.job
  exact ⟨⟨X, After.of_below I h1 hb, h2, h3, h4⟩, (hb.block _ (heap_lt h.box)).trans h.box, h.ge, fun g hg => Nat.lt_of_lt_of_le (h.lt g hg) hb.size⟩

/-- What is made behind a run is kept by its calls. -/
theorem RunP.of (I : JobIface CJ) (h : RunP CJ B P xb jb j log shown w) (hb : Below w.heap.size w w') {Q : Nat → Prop} (hQ : ∀ g, Q g → P g ∨ (w.heap.size ≤ g ∧ g < w'.heap.size)) : RunP CJ B Q xb jb j log shown w' := by
  obtain ⟨X, h1, h2, h3, h4⟩ := h.job
  refine ⟨⟨X, After.of_below I h1 hb, h2, h3, fun g hg hx => ?_⟩, (hb.block _ (heap_lt h.box)).trans h.box, h.ge, fun g hg => ?_⟩
  · rcases hQ g hg with h5 | h5
    · exact h4 g h5 hx
    · have := I.lt h1 g hx
      omega
  · rcases hQ g hg with h5 | h5
    · exact Nat.lt_of_lt_of_le (h.lt g h5) hb.size
    · exact h5.2

theorem RunP.of_run (h : RunAt CJ B xb jb j log shown w) : RunP CJ B (fun _ => False) xb jb j log shown w := by
  obtain ⟨X, h1, h2, h3⟩ := h.job
  exact ⟨⟨X, h1, h2, h3, fun _ h => h.elim⟩, h.box, h.ge, fun _ h => h.elim⟩

theorem RunP.step (I : JobIface CJ) (h : RunP CJ B P xb jb j log shown w) (t : Int) (h1 : -9223372036854775808 ≤ t) (h2 : t ≤ 9223372036854775807) :
    Calls Tryd.prog 21 #[.pointer (some ⟨jb, 0, none⟩), .int .i64 t] w fun en w' => en = .returned (.int .i64 ((j.step t).1 : Int)) ∧ RunP CJ B P xb jb (j.step t).2 log shown w' ∧ Below B w w' ∧ ∀ g, P g → w'.heap[g]? = w.heap[g]? := by
  obtain ⟨X, hX, hx, hB, hP⟩ := h.job
  refine (I.step hX t h1 h2).mono ?_
  rintro en w' ⟨h1, X', a1, a2, a3⟩
  have hxl := heap_lt h.box
  have hBw : B ≤ w.heap.size := Nat.le_trans h.ge (Nat.le_of_lt hxl)
  refine ⟨h1, ⟨⟨X', a1, fun hc => ?_, fun g hg => ?_, fun g hg hc => ?_⟩, ?_, h.ge, fun g hg => Nat.lt_of_lt_of_le (h.lt g hg) a2.size⟩, a2.below hBw hB, fun g hg => a2.keep g (h.lt g hg) (hP g hg)⟩
  · rcases a3 xb hc with h4 | h4
    · exact hx h4
    · omega
  · rcases a3 g hg with h4 | h4
    · exact hB g h4
    · omega
  · rcases a3 g hc with h4 | h4
    · exact hP g hg h4
    · have := h.lt g hg
      omega
  · rw [(same_step j t).width, (same_step j t).events]
    exact a2.block h.box hx

/-- What waits for the first tasks. -/
def JobM.qTo (j : JobM) (n : Nat) : List Int := (List.range n).flatMap (fun t : Nat => (j.queue ((t : Nat) : Int)).1)

theorem qTo_succ (j : JobM) (n : Nat) : j.qTo (n + 1) = j.qTo n ++ (j.queue (n : Int)).1 := by
  unfold JobM.qTo
  rw [List.range_succ, List.flatMap_append]
  simp

theorem queue_ok {j : JobM} (hf : FlowOk j) (t : Nat) (ht : t < 2 * j.width + 2) : (j.queue (t : Int)).2 = 0 ∧ (j.queue (t : Int)).1.length = if j.width < t ∧ t ≤ 2 * j.width then j.width else 1 := by
  unfold JobM.queue
  rw [if_neg (by omega)]
  by_cases h0 : (t : Int) = 0
  · rw [if_pos h0, if_neg (by omega)]
    exact ⟨rfl, rfl⟩
  · rw [if_neg h0]
    by_cases h1 : (t : Int) ≤ (j.width : Int)
    · rw [if_pos h1, if_neg (by omega)]
      exact ⟨rfl, rfl⟩
    · rw [if_neg h1]
      by_cases h2 : (t : Int) ≤ 2 * (j.width : Int)
      · rw [if_pos h2, if_pos (by omega)]
        refine ⟨rfl, ?_⟩
        simp only [List.length_map]
        have hk : ((t : Int) - (j.width : Int) - 1).toNat < j.adders.length := by rw [hf.lenA]; omega
        rw [List.getD_eq_getElem?_getD, List.getElem?_eq_getElem hk]
        exact (hf.adders _ _ (List.getElem?_eq_getElem hk)).lenP
      · rw [if_neg h2, if_neg (show ¬ (j.width < t ∧ t ≤ 2 * j.width) by omega)]
        split <;> exact ⟨rfl, rfl⟩

theorem qTo_length {j : JobM} (hf : FlowOk j) (hw : j.width ≤ 4) : ∀ n, n ≤ 2 * j.width + 2 → (j.qTo n).length ≤ 4 * n
  | 0, _ => by simp [JobM.qTo]
  | n + 1, h => by
    rw [qTo_succ, List.length_append, (queue_ok hf n (by omega)).2]
    have := qTo_length hf hw n (by omega)
    split <;> omega

theorem Tryd.infoInt : (Tryd.prog.info? 3).map (fun i => (i.zero, i.size, i.bytes)) = some (some (.int .i64 0), 1, 8) := by kernel_rfl

set_option maxRecDepth 100000 in
set_option maxHeartbeats 2000000 in
theorem queues_any (I : JobIface CJ) (h : RunP CJ B P xb jb j log shown w) :
    Calls Tryd.prog 20 #[.pointer (some ⟨xb, 0, none⟩)] w fun en w' => ∃ v, en = .returned (.tuple #[v, .bool true]) ∧ w'.ownsRow w.heap.size 3 1 v (j.qTo (2 * j.width + 2)).length ((j.qTo (2 * j.width + 2)).map (Value.int .i64)) ∧ Below w.heap.size w w' := by
  have hw := (h.run.width I).2.1
  have hf := (h.run.width I).1.1
  have HQK := show Hid _ from fun t ht => queue_ok hf t ht
  have HQL := show Hid _ from fun n hn => qTo_length hf hw.2 n hn
  have HR := show Hid _ from h.run
  have hBw := heap_lt h.box
  clear h hf
  obtain ⟨W, hWe⟩ : ∃ W, j.width = W := ⟨_, rfl⟩
  rw [hWe] at hw HQK HQL ⊢
  obtain ⟨i0, hi, hz0, hz1, hz2⟩ := info_parts Tryd.infoInt
  go_enter Tryd.func20, Tryd.ntmps20
  go_wp2
  go_loopw [4, 5] (fun l i wr => ∃ (n : Nat), n ≤ 2 * W + 2 ∧ i = .int .i64 (n : Int) ∧ wr.ownsRow w.heap.size 3 1 l (j.qTo n).length ((j.qTo n).map (Value.int .i64)) ∧ Below w.heap.size w wr) (fun _ i _ => 2 * W + 2 - (intOf i).toNat)
  case atStart => exact ⟨0, Nat.zero_le _, rfl, World.ownsRow_nil _ _ _ _, Below.refl _ _⟩
  case round =>
    obtain ⟨n, hn, rfl, hown, hbn⟩ := hrel
    have hRn := HR.out.old I hbn
    have HT := show Hid _ from fun (_ : Unit) => tasks_any I hRn
    rw [hWe] at HT
    have c0 := hRn.cell0
    have c1 : wr.cell? ⟨xb, 1, none⟩ = some (.int .i64 (W : Int)) := by
      have := row_cell hRn.box 1
      rw [hWe] at this
      exact this
    by_cases hnl : n < 2 * W + 2
    · have hni : (n : Int) < ((2 * W + 2 : Nat) : Int) := by omega
      have HQ := show Hid _ from fun (_ : Unit) => (show Calls Tryd.prog 28 #[.pointer (some ⟨jb, 0, none⟩), .int .i64 (n : Int)] wr fun en w' => ∃ v, en = .returned (.tuple #[v, .int .i64 ((j.queue (n : Int)).2 : Int)]) ∧ w'.ownsRow wr.heap.size 3 1 v (j.queue (n : Int)).1.length ((j.queue (n : Int)).1.map (Value.int .i64)) ∧ Below wr.heap.size wr w' from by
        obtain ⟨X, hX, _, _⟩ := hRn.job
        exact I.queue hX (n : Int) (by omega) (by omega))
      obtain ⟨hq2, hql⟩ := HQK.out n hnl
      rw [hq2] at HQ
      have hqt := HQL.out n hn
      have Hs := show Hid _ from qTo_succ j n
      have Hn := show Hid (_ ∧ _ ∧ _) from And.intro hown (And.intro hbn hRn)
      clear hown hbn hRn hq2 HQK HQL
      generalize (j.queue (n : Int)).1 = ql at HQ hql Hs
      generalize j.qTo n = q1 at Hs Hn hqt
      generalize ((2 * W + 2 : Nat) : Int) = T at HT hni
      go_wp2_with fail
      refine (HT.out ()).mono ?_
      rintro en w1 ⟨rfl, rfl⟩
      go_wp2_with fail
      refine (HQ.out ()).mono ?_
      rintro en v2 ⟨v, rfl, hov, hbv⟩
      obtain ⟨qa, qc, rfl⟩ := own_shape hov
      have c1' : v2.cell? ⟨xb, 1, none⟩ = some (.int .i64 (W : Int)) := (hbv.cell (p := ⟨xb, 1, none⟩) (heap_lt Hn.out.2.2.box)).trans c1
      clear HT HQ c0 c1
      have hlp : 1 ≤ ql.length := by rw [hql]; split <;> omega
      have hq4 : ql.length ≤ 4 := by rw [hql]; split <;> omega
      rcases own_addr hov with ⟨_, h0⟩ | ⟨qg, rfl⟩
      · omega
      have HV := show Hid (_ ∧ _ ∧ _) from And.intro (own_below Hn.out.1 hbv) (And.intro hov (Hn.out.2.1.trans (hbv.mono Hn.out.2.1.size)))
      clear hov hbv Hn
      have hfin : ∀ (v' : Value) (w' : World), w'.ownsRow w.heap.size 3 1 v' (q1.length + ql.length) (q1.map (Value.int .i64) ++ ql.map (Value.int .i64)) → w'.ownsRow w.heap.size 3 1 v' (j.qTo (n + 1)).length ((j.qTo (n + 1)).map (Value.int .i64)) := fun v' w' ho => by
        rw [Hs.out, List.length_append, List.map_append]
        exact ho
      have Hfin := show Hid _ from hfin
      clear hfin Hs
      have hq1 : (q1.map (Value.int .i64)).length = q1.length := by simp
      have hlq : (ql.map (Value.int .i64)).length = ql.length * 1 := by simp
      have hone : ∀ u ∈ ql.map (Value.int .i64), u.oneCell' = true := fun u hu => by
        obtain ⟨x, _, rfl⟩ := List.mem_map.1 hu
        rfl
      have hc : ((W : Int) < (n : Int) ∧ (n : Int) ≤ 2 * (W : Int) ∧ ql.length = W) ∨ ((W : Int) < (n : Int) ∧ ¬ (n : Int) ≤ 2 * (W : Int) ∧ ql.length = 1) ∨ (¬ (W : Int) < (n : Int) ∧ ql.length = 1) := by
        by_cases h1 : W < n
        · by_cases h2 : n ≤ 2 * W
          · exact .inl ⟨by omega, by omega, by rw [hql, if_pos ⟨h1, h2⟩]⟩
          · exact .inr (.inl ⟨by omega, by omega, by rw [hql, if_neg (by omega)]⟩)
        · exact .inr (.inr ⟨by omega, by rw [hql, if_neg (by omega)]⟩)
      clear hql
      generalize q1.map (Value.int .i64) = x1 at HV Hfin hq1
      generalize ql.map (Value.int .i64) = x2 at HV Hfin hlq hone
      generalize q1.length = l1 at HV Hfin hq1 hqt
      generalize ql.length = l2 at HV Hfin hlp hq4 hlq hc
      rcases hc with ⟨h1, h2, h3⟩ | ⟨h1, h2, h3⟩ | ⟨h1, h3⟩
      all_goals
        have hne : ((l2 : Int) != (l2 : Int)) = false := by simp
        (try subst h3)
        go_wp2_with (at_builtin; refine wpList_append_own _ rfl (.tmp 51) (.tmp 52) 49 rfl w.heap.size 3 i0 (.int .i64 0) 1 8 Tryd.underlying49 hi hz0 hz1 hz2 rfl (by decide) _ l1 x1 rfl HV.out.1 ⟨qg, 0, none⟩ _ qc x2 rfl hlq (fun j u hu => HV.out.2.1.cells (g := qg) rfl j u hu) hone (by unfold maxLen; omega) (by omega) HV.out.2.2.size ?_; intro v3 w3 hown3 hgrow3 _)
        go_roundw
        case rel => exact ⟨n + 1, by omega, by go_num, Hfin.out _ _ hown3, HV.out.2.2.grown hgrow3 HV.out.2.2.size (fun k hk => (own_ge HV.out.1 k hk).1)⟩
        case measure => simp [intOf]; omega
    · have hni : ¬ (n : Int) < ((2 * W + 2 : Nat) : Int) := by omega
      have hnn : n = 2 * W + 2 := by omega
      have HF := show Hid (_ ∧ _) from And.intro hown hbn
      rw [hnn] at HF
      clear hRn hown hbn hnn HQK HQL
      generalize ((2 * W + 2 : Nat) : Int) = T at HT hni
      go_wp2_with (go_at_call 19; refine (HT.out ()).mono ?_; rintro en w1 ⟨rfl, rfl⟩)
      go_ret2
      exact ⟨_, rfl, HF.out.1, HF.out.2⟩

end

end Go.Proofs.YthccpacmklhejaaDoor

namespace Go.Proofs.YthccpacmklhejaaDoor
open Go.RowKit

def totI (l : List Int) (lo hi : Nat) : Int := ((l.take hi).drop lo).sum

theorem totI_self (l : List Int) (lo : Nat) : totI l lo lo = 0 := by
  unfold totI
  rw [List.drop_eq_nil_of_le (by rw [List.length_take]; omega)]
  rfl

theorem totI_succ (l : List Int) (lo k : Nat) (h : lo ≤ k) (hk : k < l.length) : totI l lo (k + 1) = totI l lo k + l[k] := by
  unfold totI
  rw [List.take_succ_eq_append_getElem hk, List.drop_append_of_le_length (by rw [List.length_take]; omega), List.sum_append]
  simp

theorem totI_bound (l : List Int) (hb : ∀ x ∈ l, 0 ≤ x ∧ x ≤ 1000) (lo : Nat) : ∀ k, lo ≤ k → k ≤ l.length → 0 ≤ totI l lo k ∧ totI l lo k ≤ 1000 * k
  | 0, h, _ => by
    have : lo = 0 := by omega
    subst this
    rw [totI_self]
    simp
  | k + 1, h, hk => by
    by_cases e : lo = k + 1
    · subst e
      rw [totI_self]
      omega
    · have ih := totI_bound l hb lo k (by omega) (by omega)
      have hx := hb _ (List.getElem_mem (show k < l.length by omega))
      rw [totI_succ l lo k (by omega) (by omega)]
      omega

theorem ints_cell {w : World} {B g c : Nat} {l : List Int} (h : w.ownsRow B 3 1 (.slice (some ⟨g, 0, none⟩) l.length c) l.length (l.map (Value.int .i64))) (k : Nat) (hk : k < l.length) : w.cell? ⟨g, k, none⟩ = some (.int .i64 l[k]) := by
  refine (h.cellAt k (by omega)).trans ?_
  rw [List.getElem?_map, List.getElem?_eq_getElem hk]
  rfl

set_option maxRecDepth 100000 in
set_option maxHeartbeats 1000000 in
theorem total_any (B : Nat) (a : Option Addr) (c : Nat) (l : List Int) (lo hi : Nat) (w : World) (hown : w.ownsRow B 3 1 (.slice a l.length c) l.length (l.map (Value.int .i64))) (h1 : lo ≤ hi) (h2 : hi ≤ l.length) (hl : l.length ≤ 100) (hb : ∀ x ∈ l, 0 ≤ x ∧ x ≤ 1000) :
    Calls Tryd.prog 35 #[.slice a l.length c, .int .i64 (lo : Int), .int .i64 (hi : Int)] w fun en w' => en = .returned (.int .i64 (totI l lo hi)) ∧ w' = w := by
  have HO := show Hid _ from hown
  have HB := show Hid _ from fun k h h' => totI_bound l hb lo k h h'
  have HBx := show Hid _ from hb
  clear hown hb
  go_enter Tryd.func35, Tryd.ntmps35
  go_wp2
  go_loopw [7, 8] (fun s i wr => ∃ k : Nat, lo ≤ k ∧ k ≤ hi ∧ i = .int .i64 (k : Int) ∧ s = .int .i64 (totI l lo k) ∧ wr = w) (fun _ i _ => hi - (intOf i).toNat)
  case atStart => exact ⟨lo, Nat.le_refl _, h1, rfl, by rw [totI_self], rfl⟩
  case round =>
    obtain ⟨k, hk1, hk2, rfl, rfl, rfl⟩ := hrel
    by_cases hkl : k < hi
    · have hki : (k : Int) < (hi : Int) := by omega
      have hkj : (k : Int) < (l.length : Int) := by omega
      have hk0 : (0 : Int) ≤ (k : Int) := by omega
      rcases own_addr HO.out with ⟨_, h0⟩ | ⟨g, rfl⟩
      · omega
      have ck := ints_cell HO.out k (by omega)
      have hs := totI_succ l lo k hk1 (by omega)
      have hb1 := HB.out k hk1 (by omega)
      have hb2 := HBx.out _ (List.getElem_mem (show k < l.length by omega))
      have Hs := show Hid _ from hs
      clear hs
      generalize (l[k]'(by omega)) = x at ck Hs hb2
      generalize totI l lo k = s0 at Hs hb1 ⊢
      have hw : IntKind.i64.wrap (s0 + x) = s0 + x := IntWalk.i64_in _ ⟨by omega, by omega⟩
      go_wp2
      go_roundw
      case rel => exact ⟨k + 1, by omega, by omega, by go_num, by rw [Hs.out], by first | trivial | rfl⟩
      case measure => simp [intOf]; omega
    · have hki : ¬ (k : Int) < (hi : Int) := by omega
      have hkk : k = hi := by omega
      subst hkk
      go_wp2
      go_ret
      exact ⟨rfl, rfl⟩

section
variable {CJ : CJT} {B xb jb : Nat} {P : Nat → Prop} {j : JobM} {log : ByteArray} {shown : Nat} {w w' : World}

set_option maxRecDepth 100000 in
set_option maxHeartbeats 2000000 in
/-- A step that was refused: it is refused again. -/
theorem moved_refused (I : JobIface CJ) {g1 g2 c1 c2 : Nat} {l : List Int} (hP : P g1 ∧ P g2) (h : RunP CJ B P xb jb j log shown w) (B' : Nat) (o1 : w.ownsRow B' 3 1 (.slice (some ⟨g1, 0, none⟩) l.length c1) l.length (l.map (Value.int .i64))) (o2 : w.ownsRow B' 3 1 (.slice (some ⟨g2, 0, none⟩) l.length c2) l.length (l.map (Value.int .i64))) (hl : l.length ≤ 100) (t : Nat) (ht : t ≤ 1000) (e : Nat) (he : j.step (t : Int) = (e, j)) (h89 : e = 8 ∨ e = 9) :
    Calls Tryd.prog 22 #[.pointer (some ⟨xb, 0, none⟩), .int .i64 (t : Int), .int .i64 (e : Int), .slice (some ⟨g1, 0, none⟩) l.length c1, .slice (some ⟨g2, 0, none⟩) l.length c2] w fun en w' => en = .returned (.bool true) ∧ RunP CJ B P xb jb j log shown w' ∧ Below B w w' := by
  have HS := show Hid _ from fun (_ : Unit) => h.step I (t : Int) (by omega) (by omega)
  rw [he] at HS
  simp only at HS
  have cw : w.cell? ⟨xb, 1, none⟩ = some (.int .i64 (j.width : Int)) := row_cell h.box 1
  have c0 : w.cell? ⟨xb, 0, none⟩ = some (.pointer (some ⟨jb, 0, none⟩)) := row_cell h.box 0
  have H12 := show Hid (_ ∧ _) from And.intro (fun k hk => ints_cell o1 k hk) (fun k hk => ints_cell o2 k hk)
  have hne : ((e : Int) != 0) = true := by rcases h89 with rfl | rfl <;> rfl
  clear o1 o2 h he
  go_enter Tryd.func22, Tryd.ntmps22
  go_wp2_with fail
  refine (HS.out ()).mono ?_
  rintro en v1 ⟨rfl, hR, hb, hk⟩
  have HR := show Hid (_ ∧ _) from And.intro hR hb
  have HC := show Hid (∀ k (hk : k < l.length), v1.cell? ⟨g1, k, none⟩ = some (.int .i64 l[k]) ∧ v1.cell? ⟨g2, k, none⟩ = some (.int .i64 l[k])) from fun k hk' => ⟨(World.cell?_of_block (a := ⟨g1, k, none⟩) (hk g1 hP.1)).trans (H12.out.1 k hk'), (World.cell?_of_block (a := ⟨g2, k, none⟩) (hk g2 hP.2)).trans (H12.out.2 k hk')⟩
  clear HS hR hb hk cw c0 H12 hne
  go_wp2
  go_loopw [13] (fun i wr => ∃ k : Nat, k ≤ l.length ∧ i = .int .i64 (k : Int) ∧ (∀ k (hk : k < l.length), wr.cell? ⟨g1, k, none⟩ = some (.int .i64 l[k]) ∧ wr.cell? ⟨g2, k, none⟩ = some (.int .i64 l[k])) ∧ RunP CJ B P xb jb j log shown wr ∧ Below B w wr) (fun i _ => l.length - (intOf i).toNat)
  case atStart => exact ⟨0, Nat.zero_le _, rfl, HC.out, HR.out.1, HR.out.2⟩
  case round =>
    obtain ⟨k, hk, rfl, hcs, hRr, hbr⟩ := hrel
    clear HC HR
    have HH := show Hid (_ ∧ _ ∧ _) from And.intro hcs (And.intro hRr hbr)
    clear hRr hbr
    by_cases hkl : k < l.length
    · have hki : (k : Int) < (l.length : Int) := by omega
      have hk0 : (0 : Int) ≤ (k : Int) := by omega
      obtain ⟨d1, d2⟩ := hcs k hkl
      clear hcs
      generalize l[k]'hkl = x at d1 d2
      have hxx : (x != x) = false := by simp
      go_wp2
      go_quiet (fail)
      go_wp2
      go_roundw
      case rel => exact ⟨k + 1, by omega, by go_num, HH.out.1, HH.out.2.1.old I (below_drewN (Below.refl _ _) nq), below_drewN HH.out.2.2 nq⟩
      case measure => simp [intOf]; omega
    · have hki : ¬ (k : Int) < (l.length : Int) := by omega
      clear hcs
      rcases h89 with rfl | rfl
      all_goals
        go_wp2
        go_ret
        exact ⟨rfl, HH.out.2.1, HH.out.2.2⟩

end

end Go.Proofs.YthccpacmklhejaaDoor

namespace Go.Proofs.YthccpacmklhejaaDoor
open Go.RowKit

/-- What a step of task t may have moved: at the source (x to y), among the sorters, among the adders, at its own place. -/
def MovedOk (W t : Nat) (x y sd ad : Int) (xt yt : Int) : Prop :=
  (t = 0 ∧ ad = 0 ∧ ((x = y + 1 ∧ sd = 1) ∨ (x = y ∧ sd = W))) ∨
  (1 ≤ t ∧ t ≤ W ∧ x = y ∧ sd = -1 ∧ xt = yt + 1 ∧ (ad = 0 ∨ ad = 1 ∨ ad = W)) ∨
  (W < t ∧ t ≤ 2 * W ∧ x = y ∧ sd = 0 ∧ ad = -1) ∨
  (2 * W < t ∧ x = y ∧ sd = 0 ∧ ad = 0)

set_option maxRecDepth 100000 in
set_option maxHeartbeats 4000000 in
theorem moved_taken {xb g1 g2 c1 c2 W : Nat} {l1 l2 : List Int} {w : World} (B' : Nat) (cw : w.cell? ⟨xb, 1, none⟩ = some (.int .i64 (W : Int))) (hW : 1 ≤ W ∧ W ≤ 4)
    (o1 : w.ownsRow B' 3 1 (.slice (some ⟨g1, 0, none⟩) l1.length c1) l1.length (l1.map (Value.int .i64))) (o2 : w.ownsRow B' 3 1 (.slice (some ⟨g2, 0, none⟩) l2.length c2) l2.length (l2.map (Value.int .i64)))
    (hl1 : l1.length = 2 + W + W * W) (hl2 : l2.length = 2 + W + W * W) (hb1 : ∀ x ∈ l1, 0 ≤ x ∧ x ≤ 1000) (hb2 : ∀ x ∈ l2, 0 ≤ x ∧ x ≤ 1000) (t : Nat) (ht : t ≤ 2 * W + 1)
    (hm : MovedOk W t (l1.getD 0 0) (l2.getD 0 0) (totI l2 1 (1 + W) - totI l1 1 (1 + W)) (totI l2 (1 + W) (1 + W + W * W) - totI l1 (1 + W) (1 + W + W * W)) (l1.getD t 0) (l2.getD t 0)) :
    Calls Tryd.prog 22 #[.pointer (some ⟨xb, 0, none⟩), .int .i64 (t : Int), .int .i64 0, .slice (some ⟨g1, 0, none⟩) l1.length c1, .slice (some ⟨g2, 0, none⟩) l2.length c2] w fun en w' => en = .returned (.bool true) ∧ Below w.heap.size w w' := by
  have hWW : W * W ≤ 4 * 4 := Nat.mul_le_mul hW.2 hW.2
  have hWg : W ≤ W * W := Nat.le_mul_of_pos_right W hW.1
  have T1 := show Hid _ from fun (_ : Unit) => total_any B' (some ⟨g2, 0, none⟩) c2 l2 1 (1 + W) w o2 (by omega) (by omega) (by omega) hb2
  have T2 := show Hid _ from fun (_ : Unit) => total_any B' (some ⟨g1, 0, none⟩) c1 l1 1 (1 + W) w o1 (by omega) (by omega) (by omega) hb1
  have T3 := show Hid _ from fun (_ : Unit) => total_any B' (some ⟨g2, 0, none⟩) c2 l2 (1 + W) (1 + W + W * W) w o2 (by omega) (by omega) (by omega) hb2
  have T4 := show Hid _ from fun (_ : Unit) => total_any B' (some ⟨g1, 0, none⟩) c1 l1 (1 + W) (1 + W + W * W) w o1 (by omega) (by omega) (by omega) hb1
  have b1 := totI_bound l2 hb2 1 (1 + W) (by omega) (by omega)
  have b2 := totI_bound l1 hb1 1 (1 + W) (by omega) (by omega)
  have b3 := totI_bound l2 hb2 (1 + W) (1 + W + W * W) (by omega) (by omega)
  have b4 := totI_bound l1 hb1 (1 + W) (1 + W + W * W) (by omega) (by omega)
  have x0 := ints_cell o1 0 (by omega)
  have y0 := ints_cell o2 0 (by omega)
  have xt := ints_cell o1 t (by omega)
  have yt := ints_cell o2 t (by omega)
  have hx0 := hb1 _ (List.getElem_mem (show 0 < l1.length by omega))
  have hy0 := hb2 _ (List.getElem_mem (show 0 < l2.length by omega))
  have hxt := hb1 _ (List.getElem_mem (show t < l1.length by omega))
  have hyt := hb2 _ (List.getElem_mem (show t < l2.length by omega))
  rw [List.getD_eq_getElem?_getD, List.getD_eq_getElem?_getD, List.getD_eq_getElem?_getD, List.getD_eq_getElem?_getD, List.getElem?_eq_getElem (show 0 < l1.length by omega), List.getElem?_eq_getElem (show 0 < l2.length by omega), List.getElem?_eq_getElem (show t < l1.length by omega), List.getElem?_eq_getElem (show t < l2.length by omega)] at hm
  simp only [Option.getD_some] at hm
  have e1 : ((1 + W : Nat) : Int) = 1 + (W : Int) := by omega
  have e2 : ((1 + W + W * W : Nat) : Int) = 1 + (W : Int) + (W : Int) * (W : Int) := by push_cast; rfl
  rw [e1] at T1 T2 T3 T4
  rw [e2] at T3 T4
  have hq1 : (W : Int) * (W : Int) ≤ 16 := by
    have : ((W * W : Nat) : Int) ≤ 16 := by omega
    rw [Int.natCast_mul] at this
    exact this
  have hq0 : 0 ≤ (W : Int) * (W : Int) := Int.mul_nonneg (by omega) (by omega)
  clear hb1 hb2 o1 o2 e1 e2
  generalize totI l2 1 (1 + W) = s2 at T1 hm b1
  generalize totI l1 1 (1 + W) = s1 at T2 hm b2
  generalize totI l2 (1 + W) (1 + W + W * W) = a2 at T3 hm b3
  generalize totI l1 (1 + W) (1 + W + W * W) = a1 at T4 hm b4
  have hn1 : (0 : Int) < (l1.length : Int) := by omega
  have hn2 : (0 : Int) < (l2.length : Int) := by omega
  have ht1 : (t : Int) < (l1.length : Int) := by omega
  have ht2 : (t : Int) < (l2.length : Int) := by omega
  have ht0 : (0 : Int) ≤ (t : Int) := by omega
  obtain ⟨p0, hp0⟩ : ∃ p, l1[0]'(by omega) = p := ⟨_, rfl⟩
  obtain ⟨r0, hr0⟩ : ∃ p, l2[0]'(by omega) = p := ⟨_, rfl⟩
  obtain ⟨pt, hpt⟩ : ∃ p, l1[t]'(by omega) = p := ⟨_, rfl⟩
  obtain ⟨rt, hrt⟩ : ∃ p, l2[t]'(by omega) = p := ⟨_, rfl⟩
  rw [hp0] at x0 hx0 hm
  rw [hr0] at y0 hy0 hm
  rw [hpt] at xt hxt hm
  rw [hrt] at yt hyt hm
  clear hp0 hr0 hpt hrt hl1 hl2
  generalize l1.length = n1 at *
  generalize l2.length = n2 at *
  have hd1 : -100000 ≤ s2 - s1 ∧ s2 - s1 ≤ 100000 := by omega
  have hd2 : -100000 ≤ a2 - a1 ∧ a2 - a1 ≤ 100000 := by omega
  go_enter Tryd.func22, Tryd.ntmps22
  go_wp2_with fail
  refine (T1.out ()).mono ?_
  rintro en v1 ⟨rfl, rfl⟩
  go_wp2_with fail
  refine (T2.out ()).mono ?_
  rintro en v2 ⟨rfl, rfl⟩
  go_wp2_with fail
  refine (T3.out ()).mono ?_
  rintro en v3 ⟨rfl, rfl⟩
  go_wp2_with fail
  refine (T4.out ()).mono ?_
  rintro en v4 ⟨rfl, rfl⟩
  clear T1 T2 T3 T4 b1 b2 b3 b4 hq0 hq1 hWW hWg
  have hbl : ∀ n, Below v4.heap.size v4 (v4.drewN n) := fun n => below_drewN (Below.refl _ _) n
  rcases hm with ⟨rfl, had, hc⟩ | ⟨k1, k2, rfl, hsd, rfl, hc⟩ | ⟨k1, k2, rfl, hsd, had⟩ | ⟨k1, rfl, hsd, had⟩
  · rcases hc with ⟨rfl, hsd⟩ | ⟨rfl, hsd⟩
    · clear xt yt hxt hyt ht1 ht2 ht0 ht
      have h00 : (r0 + 1 == r0 + 1) = true := by simp
      go_wp2
      go_quiet (fail)
      go_wp2
      go_ret
      exact ⟨rfl, hbl _⟩
    · clear xt yt hxt hyt ht1 ht2 ht0 ht
      have h00 : (p0 == p0 + 1) = false := by rw [beq_eq_false_iff_ne]; omega
      have h01 : (p0 == p0) = true := by simp
      have h02 : ((W : Int) == (W : Int)) = true := by simp
      go_wp2
      go_quiet (fail)
      go_wp2
      go_ret
      exact ⟨rfl, hbl _⟩
  · have hz : ((t : Int) == 0) = false := by rw [beq_eq_false_iff_ne]; omega
    have hle : (t : Int) ≤ (W : Int) := by omega
    have h01 : (p0 == p0) = true := by simp
    have h02 : (rt + 1 == rt + 1) = true := by simp
    rcases hc with had | had | had
    · go_wp2
      go_quiet (fail)
      go_wp2
      go_ret
      exact ⟨rfl, hbl _⟩
    · go_wp2
      go_quiet (fail)
      go_wp2
      go_ret
      exact ⟨rfl, hbl _⟩
    · have h03 : ((W : Int) == 0) = false := by rw [beq_eq_false_iff_ne]; omega
      have h05 : ((W : Int) == (W : Int)) = true := by simp
      by_cases hW1 : W = 1
      · subst hW1
        go_wp2
        go_quiet (fail)
        go_wp2
        go_ret
        exact ⟨rfl, hbl _⟩
      · have h04 : ((W : Int) == 1) = false := by rw [beq_eq_false_iff_ne]; omega
        go_wp2
        go_quiet (fail)
        go_wp2
        go_ret
        exact ⟨rfl, hbl _⟩
  · have hz : ((t : Int) == 0) = false := by rw [beq_eq_false_iff_ne]; omega
    have hle : ¬ (t : Int) ≤ (W : Int) := by omega
    have hle2 : (t : Int) ≤ 2 * (W : Int) := by omega
    have h01 : (p0 == p0) = true := by simp
    go_wp2
    go_quiet (fail)
    go_wp2
    go_ret
    exact ⟨rfl, hbl _⟩
  · have hz : ((t : Int) == 0) = false := by rw [beq_eq_false_iff_ne]; omega
    have hle : ¬ (t : Int) ≤ (W : Int) := by omega
    have hle2 : ¬ (t : Int) ≤ 2 * (W : Int) := by omega
    have h01 : (p0 == p0) = true := by simp
    go_wp2
    go_quiet (fail)
    go_wp2
    go_ret
    exact ⟨rfl, hbl _⟩

end Go.Proofs.YthccpacmklhejaaDoor

namespace Go.Proofs.YthccpacmklhejaaDoor

def sLens (j : JobM) (n : Nat) : List Int := (List.range n).map (fun i => ((j.sorterAt i).pipe.length : Int))
def aLens (j : JobM) (n : Nat) : List Int := (List.range n).flatMap (fun k => (j.adderAt k).pipes.map (fun p => (p.length : Int)))

theorem qTo_one (j : JobM) : j.qTo 1 = [(j.events.length : Int) - (j.sent : Int)] := by
  have h : (j.queue ((0 : Nat) : Int)).1 = [(j.events.length : Int) - (j.sent : Int)] := by
    unfold JobM.queue
    rw [if_neg (by omega), if_pos (by simp)]
  rw [qTo_succ, h]
  rfl

theorem qTo_sort (j : JobM) : ∀ n, n ≤ j.width → j.qTo (1 + n) = [(j.events.length : Int) - (j.sent : Int)] ++ sLens j n
  | 0, _ => by rw [qTo_one]; rfl
  | n + 1, h => by
    have hq : (j.queue ((1 + n : Nat) : Int)).1 = [((j.sorterAt n).pipe.length : Int)] := by
      unfold JobM.queue
      rw [if_neg (by omega), if_neg (by omega), if_pos (by omega), show (((1 + n : Nat) : Int) - 1).toNat = n from by omega]
      rfl
    rw [show 1 + (n + 1) = (1 + n) + 1 from by omega, qTo_succ, qTo_sort j n (by omega), hq]
    unfold sLens
    rw [List.range_succ, List.map_append]
    simp

theorem qTo_add (j : JobM) : ∀ n, n ≤ j.width → j.qTo (1 + j.width + n) = [(j.events.length : Int) - (j.sent : Int)] ++ sLens j j.width ++ aLens j n
  | 0, _ => by rw [Nat.add_zero, qTo_sort j _ (Nat.le_refl _)]; simp [aLens]
  | n + 1, h => by
    have hq : (j.queue ((1 + j.width + n : Nat) : Int)).1 = (j.adderAt n).pipes.map (fun p => (p.length : Int)) := by
      unfold JobM.queue
      rw [if_neg (by omega), if_neg (by omega), if_neg (by omega), if_pos (by omega), show (((1 + j.width + n : Nat) : Int) - (j.width : Int) - 1).toNat = n from by omega]
      rfl
    rw [show 1 + j.width + (n + 1) = (1 + j.width + n) + 1 from by omega, qTo_succ, qTo_add j n (by omega), hq]
    unfold aLens
    rw [List.range_succ, List.flatMap_append]
    simp

def keepQ (j : JobM) : Int := if j.passedAll then 1 else 0

theorem qTo_all (j : JobM) : j.qTo (2 * j.width + 2) = [(j.events.length : Int) - (j.sent : Int)] ++ sLens j j.width ++ aLens j j.width ++ [keepQ j] := by
  have hq : (j.queue ((1 + j.width + j.width : Nat) : Int)).1 = [keepQ j] := by
    unfold JobM.queue keepQ
    rw [if_neg (by omega), if_neg (by omega), if_neg (by omega), if_neg (by omega)]
    split <;> rfl
  rw [show 2 * j.width + 2 = (1 + j.width + j.width) + 1 from by omega, qTo_succ, qTo_add j _ (Nat.le_refl _), hq]

theorem sLens_length (j : JobM) (n : Nat) : (sLens j n).length = n := by simp [sLens]

theorem aLens_length {j : JobM} (hf : FlowOk j) : ∀ n, n ≤ j.width → (aLens j n).length = n * j.width
  | 0, _ => by simp [aLens]
  | n + 1, h => by
    have ih := aLens_length hf n (by omega)
    unfold aLens at ih ⊢
    rw [List.range_succ, List.flatMap_append, List.length_append, ih]
    have ha : j.adders[n]? = some (j.adders[n]'(by rw [hf.lenA]; omega)) := List.getElem?_eq_getElem _
    simp only [List.flatMap_cons, List.flatMap_nil, List.append_nil, List.length_map, adderAt_some ha, (hf.adders n _ ha).lenP]
    rw [Nat.add_mul]
    omega

theorem sLens_sum (j : JobM) : ∀ n, (sLens j n).sum = (accN (fun i => (j.sorterAt i).pipe.length) n : Int)
  | 0 => rfl
  | n + 1 => by
    have ih := sLens_sum j n
    unfold sLens at ih ⊢
    rw [List.range_succ, List.map_append, List.sum_append, ih]
    simp [accN]

theorem lens_sum (l : List (List ChgM)) : (l.map (fun p => (p.length : Int))).sum = (accN (fun i => (l.getD i []).length) l.length : Int) := by
  have h : ∀ n, n ≤ l.length → ((l.take n).map (fun p => (p.length : Int))).sum = (accN (fun i => (l.getD i []).length) n : Int) := by
    intro n
    induction n with
    | zero => intro _; rfl
    | succ n ih =>
      intro hn
      rw [List.take_succ_eq_append_getElem (by omega), List.map_append, List.sum_append, ih (by omega)]
      have hg : (l.getD n []).length = (l[n]'(by omega)).length := by rw [List.getD_eq_getElem?_getD, List.getElem?_eq_getElem (by omega)]; rfl
      simp only [accN, hg, List.map_cons, List.map_nil, List.sum_cons, List.sum_nil, Int.add_zero, Int.natCast_add]
  have := h l.length (Nat.le_refl _)
  rw [List.take_length] at this
  exact this

theorem aLens_sum {j : JobM} (hf : FlowOk j) : ∀ n, n ≤ j.width → (aLens j n).sum = (accN (fun k => (j.adderAt k).sumP j.width) n : Int)
  | 0, _ => rfl
  | n + 1, h => by
    have ih := aLens_sum hf n (by omega)
    unfold aLens at ih ⊢
    have ha : j.adders[n]? = some (j.adders[n]'(by rw [hf.lenA]; omega)) := List.getElem?_eq_getElem _
    rw [List.range_succ, List.flatMap_append, List.sum_append, ih]
    simp only [List.flatMap_cons, List.flatMap_nil, List.append_nil, accN, AdderM.sumP]
    rw [lens_sum, adderAt_some ha, (hf.adders n _ ha).lenP]
    simp

theorem totI_mid (A M R : List Int) (lo hi : Nat) (h1 : A.length = lo) (h2 : lo + M.length = hi) : totI (A ++ (M ++ R)) lo hi = M.sum := by
  unfold totI
  subst h1 h2
  rw [← List.append_assoc, List.take_append_of_le_length (by simp), List.take_of_length_le (by simp), List.drop_append_of_le_length (Nat.le_refl _), List.drop_length, List.nil_append]

/-- What a job's numbers are. -/
theorem q_facts {j : JobM} (hf : FlowOk j) : (j.qTo (2 * j.width + 2)).length = 2 + j.width + j.width * j.width ∧ (j.qTo (2 * j.width + 2)).getD 0 0 = (j.events.length : Int) - (j.sent : Int) ∧
    (∀ t, 1 ≤ t → t ≤ j.width → (j.qTo (2 * j.width + 2)).getD t 0 = ((j.sorterAt (t - 1)).pipe.length : Int)) ∧
    totI (j.qTo (2 * j.width + 2)) 1 (1 + j.width) = (j.sumS : Int) ∧ totI (j.qTo (2 * j.width + 2)) (1 + j.width) (1 + j.width + j.width * j.width) = (j.sumA : Int) := by
  rw [qTo_all]
  refine ⟨?_, ?_, fun t h1 h2 => ?_, ?_, ?_⟩
  · simp only [List.length_append, sLens_length, aLens_length hf _ (Nat.le_refl _), List.length_cons, List.length_nil]
    omega
  · simp
  · rw [List.append_assoc, List.append_assoc, List.getD_eq_getElem?_getD, List.getElem?_append_right (by simp; omega), List.getElem?_append_left (by simp [sLens_length]; omega)]
    simp only [List.length_cons, List.length_nil]
    unfold sLens
    rw [List.getElem?_map, List.getElem?_range (by omega)]
    rfl
  · rw [List.append_assoc, List.append_assoc, totI_mid _ (sLens j j.width) _ 1 (1 + j.width) (by simp) (by rw [sLens_length]), sLens_sum]
    rfl
  · rw [List.append_assoc _ (aLens j j.width), totI_mid _ (aLens j j.width) _ (1 + j.width) (1 + j.width + j.width * j.width) (by simp [sLens_length]; omega) (by rw [aLens_length hf _ (Nat.le_refl _)]), aLens_sum hf _ (Nat.le_refl _)]
    rfl

theorem sumA_same {j j' : JobM} (hw : j'.width = j.width) (h : ∀ k, k < j.width → (j'.adderAt k).pipes = (j.adderAt k).pipes) : j'.sumA = j.sumA := by
  unfold JobM.sumA
  rw [hw]
  exact accN_congr fun k hk => by unfold AdderM.sumP; rw [h k hk]

theorem sumS_same {j j' : JobM} (hw : j'.width = j.width) (h : ∀ i, i < j.width → (j'.sorterAt i).pipe = (j.sorterAt i).pipe) : j'.sumS = j.sumS := by
  unfold JobM.sumS
  rw [hw]
  exact accN_congr fun k hk => by rw [h k hk]

theorem moved_math {j : JobM} (hf : FlowOk j) (t : Nat) (ht : t ≤ 2 * j.width + 1) (hok : (j.step (t : Int)).1 = 0) :
    MovedOk j.width t ((j.qTo (2 * j.width + 2)).getD 0 0) (((j.step (t : Int)).2.qTo (2 * j.width + 2)).getD 0 0) (totI ((j.step (t : Int)).2.qTo (2 * j.width + 2)) 1 (1 + j.width) - totI (j.qTo (2 * j.width + 2)) 1 (1 + j.width))
      (totI ((j.step (t : Int)).2.qTo (2 * j.width + 2)) (1 + j.width) (1 + j.width + j.width * j.width) - totI (j.qTo (2 * j.width + 2)) (1 + j.width) (1 + j.width + j.width * j.width)) ((j.qTo (2 * j.width + 2)).getD t 0) (((j.step (t : Int)).2.qTo (2 * j.width + 2)).getD t 0) := by
  have hsm := same_step j (t : Int)
  have hf2 := flow_step hf (t : Int)
  obtain ⟨_, f0, ft, fs, fa⟩ := q_facts hf
  obtain ⟨_, g0, gt, gs, ga⟩ := q_facts hf2
  rw [hsm.width] at g0 gt gs ga
  rw [hsm.events] at g0
  rw [f0, g0, fs, gs, fa, ga]
  unfold MovedOk
  by_cases h0 : t = 0
  · left
    refine ⟨h0, ?_⟩
    have hst : j.step (t : Int) = j.source := by
      unfold JobM.step
      rw [if_neg (by omega), if_pos (by omega)]
    rw [hst] at hok hsm ⊢
    obtain ⟨m1, m2⟩ := moves_source hf hok
    have ha : j.source.2.sumA = j.sumA := sumA_same hsm.width fun k _ => by unfold JobM.adderAt; rw [m1]
    refine ⟨by omega, ?_⟩
    rcases m2 with ⟨m3, m4, m5⟩ | ⟨m3, m4⟩
    · left; omega
    · right; omega
  · right
    by_cases h1 : t ≤ j.width
    · left
      refine ⟨by omega, h1, ?_⟩
      rw [ft t (by omega) h1, gt t (by omega) h1]
      have hst : j.step (t : Int) = j.sorts (t - 1) := by
        unfold JobM.step
        rw [if_neg (by omega), if_neg (by omega), if_pos (by omega), show ((t : Int) - 1).toNat = t - 1 from by omega]
      rw [hst] at hok ⊢
      obtain ⟨m1, m2, m3, m4⟩ := moves_sorts hf (t - 1) hok
      refine ⟨by omega, by omega, by omega, ?_⟩
      rcases m4 with m4 | m4 | m4
      · left; omega
      · right; left; omega
      · right; right; omega
    · right
      by_cases h2 : t ≤ 2 * j.width
      · left
        have hst : j.step (t : Int) = j.adds (t - j.width - 1) := by
          unfold JobM.step
          rw [if_neg (by omega), if_neg (by omega), if_neg (by omega), if_pos (by omega), show ((t : Int) - (j.width : Int) - 1).toNat = t - j.width - 1 from by omega]
        rw [hst] at hok hsm ⊢
        obtain ⟨m1, m2, m3⟩ := moves_adds hf (t - j.width - 1) hok
        have hs : (j.adds (t - j.width - 1)).2.sumS = j.sumS := sumS_same hsm.width fun i _ => by unfold JobM.sorterAt; rw [m2]
        omega
      · right
        have hst : j.step (t : Int) = j.keeps := by
          unfold JobM.step
          rw [if_neg (by omega), if_neg (by omega), if_neg (by omega), if_neg (by omega)]
        rw [hst] at hsm ⊢
        obtain ⟨m1, m2, m3⟩ := moves_keeps hf
        have hs : j.keeps.2.sumS = j.sumS := sumS_same hsm.width m2
        have ha : j.keeps.2.sumA = j.sumA := sumA_same hsm.width m3
        omega

end Go.Proofs.YthccpacmklhejaaDoor

namespace Go.Proofs.YthccpacmklhejaaDoor
open Go.RowKit

theorem SOk.len {E : List Ev} {W i sent off base : Nat} {fl : Bool} {s : SorterM} (h : SOk E W i sent off base fl s) : s.pipe.length ≤ s.waits + 1 := by
  unfold SorterM.waits
  by_cases hc : fl = true → s.passed = true
  · rw [idx_count (h.free hc).1]
    omega
  · have hfl : fl = true := Classical.byContradiction fun c => hc fun h => absurd h c
    have hpa : s.passed = false := by
      cases hh : s.passed with
      | false => rfl
      | true => exact absurd (fun _ => hh) hc
    obtain ⟨p1, p2, e1, e2, e3, _, _⟩ := h.wait hfl hpa
    rw [e1, List.countP_append, List.countP_cons, idx_count e2, idx_count e3]
    simp only [List.length_append, List.length_cons]
    omega

theorem LOk.len {fl sp ap st : Bool} {offO gotO pipe R : List ChgM} (h : LOk fl sp ap st offO gotO pipe R) : pipe.length ≤ gotO.length + 1 := by
  by_cases hc : fl = true ∧ sp = true ∧ ap = false ∧ st = false
  · obtain ⟨q1, q2, e1, _, _, _, e5⟩ := h.mid hc.1 hc.2.1 hc.2.2.1 hc.2.2.2
    rw [← e5, e1]
    simp only [List.length_append, List.length_cons]
    omega
  · obtain ⟨_, o2⟩ := h.free hc
    rw [← o2]
    simp only [List.length_append]
    omega

theorem evs_length (W : Nat) (E : List Ev) (n i : Nat) : (evs W E n i).length ≤ E.length := by
  unfold evs
  exact Nat.le_trans (List.length_filter_le _ _) (by rw [List.length_take]; omega)

theorem q_bounds {j : JobM} (hf : FlowOk j) (hE : j.events.length ≤ 400) : ∀ x ∈ j.qTo (2 * j.width + 2), 0 ≤ x ∧ x ≤ 1000 := by
  intro x hx
  rw [qTo_all] at hx
  have hs := hf.sent
  simp only [List.mem_append, List.mem_cons, List.not_mem_nil, or_false] at hx
  rcases hx with ((h | h) | h) | h
  · omega
  · unfold sLens at h
    obtain ⟨i, hi, rfl⟩ := List.mem_map.1 h
    have hiW : i < j.width := List.mem_range.1 hi
    have hss : j.sorters[i]? = some (j.sorters[i]'(by rw [hf.lenS]; exact hiW)) := List.getElem?_eq_getElem _
    rw [sorterAt_some hss]
    have o := hf.sorters i _ hss
    have h1 := o.len
    have h2 := o.size
    have h3 := evs_length j.width j.events j.sent i
    omega
  · unfold aLens at h
    obtain ⟨k, hk, hx⟩ := List.mem_flatMap.1 h
    have hkW : k < j.width := List.mem_range.1 hk
    have ha : j.adders[k]? = some (j.adders[k]'(by rw [hf.lenA]; exact hkW)) := List.getElem?_eq_getElem _
    rw [adderAt_some ha] at hx
    obtain ⟨p, hp, rfl⟩ := List.mem_map.1 hx
    generalize j.adders[k]'(by rw [hf.lenA]; exact hkW) = a at ha hp
    have o := hf.adders k a ha
    obtain ⟨i, hi, rfl⟩ := List.getElem_of_mem hp
    have hiW : i < j.width := by rw [← o.lenP]; exact hi
    obtain ⟨R, _, hL⟩ := o.links
    have hss : j.sorters[i]? = some (j.sorters[i]'(by rw [hf.lenS]; exact hiW)) := List.getElem?_eq_getElem _
    have hst : a.stopped[i]? = some (a.stopped[i]'(by rw [o.lenS]; exact hiW)) := List.getElem?_eq_getElem _
    have l := (hL i hiW _ _ _ hss hst (List.getElem?_eq_getElem hi)).len
    have h2 := (hf.sorters i _ hss).size
    have h3 := evs_length j.width j.events j.sent i
    have h4 : (toA j.width k (outs (j.sorters[i]'(by rw [hf.lenS]; exact hiW)).got)).length ≤ (j.sorters[i]'(by rw [hf.lenS]; exact hiW)).got.length := Nat.le_trans (List.length_filter_le _ _) (outsFrom_length _ _)
    omega
  · rw [h]
    unfold keepQ
    split <;> omega

theorem own_same {w w' : World} {B n g c : Nat} {e : TypeId} {s : Nat} {xs : List Value} (h : w.ownsRow B e s (.slice (some ⟨g, 0, none⟩) n c) n xs) (hg : w'.heap[g]? = w.heap[g]?) : w'.ownsRow B e s (.slice (some ⟨g, 0, none⟩) n c) n xs := by
  refine ⟨h.1, ?_⟩
  rcases h.2 with ⟨h0, _⟩ | ⟨g', cap, cur, e1, e2, e3, e4⟩
  · simp at h0
  · have : g' = g := by simp at e1; exact e1.1.symm
    subst this
    exact .inr ⟨g', cap, cur, e1, e2, hg.trans e3, e4⟩

theorem own_base {w : World} {B B' n g c : Nat} {e : TypeId} {s : Nat} {xs : List Value} (h : w.ownsRow B e s (.slice (some ⟨g, 0, none⟩) n c) n xs) (hB : B' ≤ B) : w.ownsRow B' e s (.slice (some ⟨g, 0, none⟩) n c) n xs := by
  refine ⟨h.1, ?_⟩
  rcases h.2 with ⟨h0, _⟩ | ⟨g', cap, cur, e1, e2, e4⟩
  · simp at h0
  · exact .inr ⟨g', cap, cur, e1, Nat.le_trans hB e2, e4⟩

set_option maxRecDepth 100000 in
set_option maxHeartbeats 4000000 in
theorem waits_any {CJ : CJT} (I : JobIface CJ) (wide room : Int) (a : Option Addr) (cap : Nat) (rs : List RawV) (a2 : Option Addr) (cap2 : Nat) (ms : List MoveV) (w : World) (hw1 : In64 wide) (hw2 : In64 room) (hlen : rs.length ≤ 9223372036854775807) (hml : ms.length ≤ 4611686018427387903) (hev : IsRaws w a rs) (hmv : IsMoves w a2 ms) (ht : Tab w) :
    Calls Tryd.prog 6 #[.int .i64 wide, .int .i64 room, .slice a rs.length cap, .slice a2 ms.length cap2] w fun en w' => en = .returned (.bool true) ∧ Below w.heap.size w w' := by
  have HRn := show Hid _ from fun (_ : Unit) => run_any I wide room a cap rs ⟨#[]⟩ w hw1 hw2 hlen (by decide) hev
  have HW := show Hid _ from fun (v : World) (hb : Below w.heap.size w v) => works_any I v (ht.old hb)
  have HM := show Hid (IsMoves w a2 ms) from hmv
  clear hev hlen hw1 hw2 ht hmv
  go_enter Tryd.func6, Tryd.ntmps6
  go_wp2_with fail
  refine (HRn.out ()).mono ?_
  rintro en v1 ⟨⟨xb, jb, es, lg, m, rfl, hR, hlg, hpar⟩, hb1⟩
  have H1 := show Hid (_ ∧ _) from And.intro hR hb1
  clear HRn hR hb1 hpar hlg
  go_wp2_with fail
  refine (HW.out v1 H1.out.2).mono ?_
  rintro en v2 ⟨rfl, hb2⟩
  have H2 := show Hid (_ ∧ _) from And.intro (H1.out.1.old I hb2) (H1.out.2.trans (hb2.mono H1.out.2.size))
  clear HW H1 hb2
  go_wp2
  generalize 1 + pickN wide 4 = W at H2
  generalize 1 + pickN room 4 = R at H2
  go_loopw [11] (fun i wr => ∃ (n : Nat) (j : JobM), n ≤ ms.length ∧ i = .int .i64 (n : Int) ∧ RunAt CJ w.heap.size xb jb j lg 0 wr ∧ Hid (j.number ≤ n) ∧ Below w.heap.size w wr) (fun i _ => ms.length - (intOf i).toNat)
  case atStart => exact ⟨0, newJ W R es, Nat.zero_le _, rfl, H2.out.1, Nat.le_refl _, H2.out.2⟩
  case round =>
    obtain ⟨n, j, hn, rfl, hRn, hj, hbn⟩ := hrel
    clear H2
    by_cases hnl : n < ms.length
    · have hni : (n : Int) < (ms.length : Int) := by omega
      have hn0 : (0 : Int) ≤ (n : Int) := by omega
      obtain ⟨hmo, hmc⟩ := HM.out
      rcases hmc with h0 | ⟨b, off, rfl, hbl, hcs⟩
      · rw [h0] at hnl; simp at hnl
      obtain ⟨d0, d1⟩ := hcs n hnl
      have hok := hmo _ (List.getElem_mem hnl)
      have q0 := (hbn.cell (p := ⟨b, off + n * 2, none⟩) hbl).trans d0
      have q1 := (hbn.cell (p := ⟨b, off + n * 2 + 1, none⟩) hbl).trans d1
      obtain ⟨mv, hmv⟩ : ∃ mv, ms[n]'hnl = mv := ⟨_, rfl⟩
      rw [hmv] at q0 q1 hok
      clear hmv hcs hmo d0 d1
      obtain ⟨kind, arg⟩ := mv
      simp only at q0 q1
      by_cases h1 : kind = 1
      · subst h1
        have e1 : ((1 : Int) != 1) = false := rfl
        obtain ⟨hg, hWd, hE⟩ := hRn.width I
        have HJ := show Hid (_ ∧ _ ∧ _ ∧ _) from And.intro hRn (And.intro hbn (And.intro hg hj))
        clear hRn hbn hg hj HM
        go_wp2
        have hS0 : wr.drew.cell? ⟨b, off + n * 2 + 1, none⟩ = some (.int .i64 arg) ∧ RunAt CJ w.heap.size xb jb j lg 0 wr.drew := ⟨q1, HJ.out.1.drewN I 1⟩
        have Hb1 := show Hid (Below w.heap.size w wr.drew) from HJ.out.2.1.drew
        have HTk := show Hid _ from fun (v : World) (h : RunAt CJ w.heap.size xb jb j lg 0 v) => tasks_any I h
        have HPk := show Hid _ from fun (w : World) => pick_any arg (2 * j.width + 2) w hok.2 (by omega)
        have hpk : pickN arg (2 * j.width + 2) < 2 * j.width + 2 := Nat.mod_lt _ (by omega)
        generalize hpe : pickN arg (2 * j.width + 2) = pk at HPk hpk
        clear hpe
        refine wp_region_held_drew (S := fun w' : World => w'.cell? ⟨b, off + n * 2 + 1, none⟩ = some (.int .i64 arg) ∧ RunAt CJ w.heap.size xb jb j lg 0 w') (by kernel_rfl) hS0 (fun hH => ?_)
        generalize wr.drew = wd at hS0 Hb1 hH ⊢
        refine wpAnyH_take (i := 0) (v := (.slice (some ⟨b, off, none⟩) ms.length cap2)) rfl (by kernel_rfl) (by kernel_rfl) (by kernel_rfl) (fun _ _ _ h => h) (Or.inl ⟨by rfl, by intro v hSw; clear hSw; go_simp⟩) hH ?_
        refine wpAnyH_take (i := 1) (v := (.int .i64 (n : Int))) rfl (by kernel_rfl) (by kernel_rfl) (by kernel_rfl) (fun _ _ _ h => h) (Or.inl ⟨by rfl, by intro v hSw; clear hSw; go_simp⟩) hH ?_
        refine wpAnyH_take (i := 2) (v := (.pointer (some ⟨b, off + n * 2, none⟩))) rfl (by kernel_rfl) (by kernel_rfl) (by kernel_rfl) (fun _ _ _ h => h) (Or.inl ⟨by rfl, by intro v hSw; clear hSw; go_simp⟩) hH ?_
        refine wpAnyH_take (i := 3) (v := (.pointer (some ⟨b, off + n * 2 + 1, none⟩))) rfl (by kernel_rfl) (by kernel_rfl) (by kernel_rfl) (fun _ _ _ h => h) (Or.inl ⟨by rfl, by intro v hSw; clear hSw; go_simp⟩) hH ?_
        refine wpAnyH_take (i := 4) (v := (.int .i64 arg)) rfl (by kernel_rfl) (by kernel_rfl) (by kernel_rfl) (fun _ _ _ h => h) (Or.inl ⟨by rfl, by intro v hSw; have s0 := hSw.1; clear hSw; go_simp⟩) hH ?_
        refine wpAnyH_take (i := 5) (v := (.pointer (some ⟨xb, 0, none⟩))) rfl (by kernel_rfl) (by kernel_rfl) (by kernel_rfl) (fun _ _ _ h => h) (Or.inl ⟨by rfl, by intro v hSw; clear hSw; go_simp⟩) hH ?_
        refine wpAnyH_ready (rs := [6]) (by kernel_rfl) (by simp) ?_
        refine AllReadyH.cons rfl (fun K hK => ?_) AllReadyH.nil
        clear hH
        go_simp
        go_wp2_with (go_at_call 19; refine (HTk.out _ hS0.2).mono ?_; rintro en w1 ⟨rfl, rfl⟩)
        refine hK.out _ _ hS0 (fun hH => ?_)
        clear hK K
        refine wpAnyH_ready (rs := [7]) (by kernel_rfl) (by simp) ?_
        refine AllReadyH.cons rfl (fun K hK => ?_) AllReadyH.nil
        clear hH
        go_simp
        go_wp2_with (go_at_call 12; refine (HPk.out _).mono ?_; rintro en w2 ⟨rfl, rfl⟩)
        refine hK.out _ _ hS0 (fun hH => ?_)
        clear hK K
        refine wpAnyH_take (i := 8) (v := (.int .i64 (pk : Int))) rfl (by kernel_rfl) (by kernel_rfl) (by kernel_rfl) (fun _ _ _ h => h) (Or.inl ⟨by rfl, by intro v hSw; clear hSw; go_simp⟩) hH ?_
        clear hH
        refine wpAnyH_done (by kernel_rfl) ?_ _
        have hP0 := RunP.of_run hS0.2
        have HQ1 := show Hid _ from fun (_ : Unit) => queues_any I hP0
        have H0 := show Hid (_ ∧ _ ∧ _ ∧ _) from And.intro hP0 (And.intro Hb1.out HJ.out.2.2)
        clear hS0 hP0 Hb1 HJ HTk HPk q0 q1 hok
        go_wp2_with fail
        refine (HQ1.out ()).mono ?_
        rintro en v3 ⟨lv, rfl, ho1, hb3⟩
        obtain ⟨la, lc, rfl⟩ := own_shape ho1
        have Hqf := show Hid _ from (q_facts H0.out.2.2.1.1).1
        rcases own_addr ho1 with ⟨_, h0⟩ | ⟨g1, rfl⟩
        · rw [Hqf.out] at h0; omega
        have hg1 := own_lt ho1
        have hP1 : RunP CJ w.heap.size (fun g => g = g1) xb jb j lg 0 v3 := H0.out.1.of I hb3 (fun g hg => by subst hg; exact .inr hg1)
        have c3 := hP1.run.cell0
        have HS := show Hid _ from fun (_ : Unit) => hP1.step I (pk : Int) (by omega) (by omega)
        have hBs : w.heap.size ≤ w2.heap.size := H0.out.2.1.size
        have H3 := show Hid (_ ∧ _) from And.intro (own_base ho1 hBs) (H0.out.2.1.trans (hb3.mono hBs))
        clear ho1 hb3 HQ1 hP1 hg1
        go_wp2_with fail
        refine (HS.out ()).mono ?_
        rintro en v4 ⟨rfl, hP4, hb4, hk4⟩
        have ho4 := own_same H3.out.1 (hk4 g1 rfl)
        have HQ2 := show Hid _ from fun (_ : Unit) => queues_any I hP4
        have hsm := same_step j (pk : Int)
        rw [hsm.width] at HQ2
        have H4 := show Hid (_ ∧ _ ∧ _) from And.intro hP4 (And.intro ho4 (H3.out.2.trans hb4))
        clear HS hP4 hb4 hk4 ho4 H3 c3
        go_wp2_with fail
        refine (HQ2.out ()).mono ?_
        rintro en v5 ⟨lv, rfl, ho5, hb5⟩
        obtain ⟨la, lc2, rfl⟩ := own_shape ho5
        have hf2 := flow_step H0.out.2.2.1.1 (pk : Int)
        have hqf2 := (q_facts hf2).1
        rw [hsm.width] at hqf2
        rcases own_addr ho5 with ⟨_, h0⟩ | ⟨g2, rfl⟩
        · rw [hqf2] at h0; omega
        have hg2 := own_lt ho5
        have hP5 : RunP CJ w.heap.size (fun g => g = g1 ∨ g = g2) xb jb (j.step (pk : Int)).2 lg 0 v5 := H4.out.1.of I hb5 (fun g hg => by
          rcases hg with hg | hg
          · exact .inl hg
          · subst hg; exact .inr hg2)
        have hBs5 : w.heap.size ≤ v4.heap.size := H4.out.2.2.size
        have o1 := own_below H4.out.2.1 hb5
        have o2 := own_base ho5 hBs5
        have hb15 := H4.out.2.2.trans (hb5.mono hBs5)
        have Hnum : Hid ((j.step (pk : Int)).2.number ≤ n + 1) := by
          show _ ≤ _
          rw [number_step]
          have := H0.out.2.2.2.out
          omega
        have hqf := Hqf.out
        have hlens : (j.qTo (2 * j.width + 2)).length = ((j.step (pk : Int)).2.qTo (2 * j.width + 2)).length := by rw [hqf, hqf2]
        by_cases hz : (j.step (pk : Int)).1 = 0
        · have hmm := moved_math H0.out.2.2.1.1 pk (by omega) hz
          have cw : v5.cell? ⟨xb, 1, none⟩ = some (.int .i64 (j.width : Int)) := by
            have := row_cell hP5.box 1
            rw [hsm.width] at this
            exact this
          have hbd1 := q_bounds H0.out.2.2.1.1 hE
          have hbd2 := q_bounds hf2 (by rw [hsm.events]; exact hE)
          rw [hsm.width] at hbd2
          have HMo := show Hid _ from fun (_ : Unit) => moved_taken (xb := xb) w.heap.size cw hWd o1 o2 hqf hqf2 hbd1 hbd2 pk (by omega) hmm
          have HF := show Hid (_ ∧ _) from And.intro hP5.run hb15
          rw [hz]
          clear H0 H4 HQ2 hsm ho5 hb5 hf2 hqf hqf2 hg2 hP5 o1 o2 hb15 cw hmm hbd1 hbd2
          generalize (j.step (pk : Int)).2.qTo (2 * j.width + 2) = L2 at HMo hlens ⊢
          generalize j.qTo (2 * j.width + 2) = L1 at HMo hlens ⊢
          have hne : ((L1.length : Int) != (L2.length : Int)) = false := by rw [hlens]; simp
          clear hlens hz
          go_wp2_with fail
          refine (HMo.out ()).mono ?_
          rintro en v6 ⟨rfl, hb6⟩
          have HF6 := show Hid (_ ∧ _) from And.intro (HF.out.1.old I hb6) (HF.out.2.trans (hb6.mono HF.out.2.size))
          clear HMo HF hb6
          go_wp2
          go_roundw
          case rel => exact ⟨n + 1, (j.step (pk : Int)).2, by omega, by go_num, HF6.out.1, Hnum.out, HF6.out.2⟩
          case measure => simp [intOf]; omega
        · have hj2 : (j.step (pk : Int)).2 = j := (step_refused j (pk : Int)).resolve_left hz
          have hcode := (step_code j (pk : Int) (by omega) (by omega)).resolve_left hz
          have hpair : j.step (pk : Int) = ((j.step (pk : Int)).1, j) := Prod.ext rfl hj2
          rw [hj2] at hP5 o2 Hnum
          have hll : (j.qTo (2 * j.width + 2)).length ≤ 100 := by
            rw [hqf]
            have : j.width * j.width ≤ 4 * 4 := Nat.mul_le_mul hWd.2 hWd.2
            omega
          have HMo := show Hid _ from fun (_ : Unit) => moved_refused I (P := fun g => g = g1 ∨ g = g2) (g1 := g1) (g2 := g2) ⟨.inl rfl, .inr rfl⟩ hP5 w.heap.size o1 o2 hll pk (by omega) (j.step (pk : Int)).1 hpair hcode
          rw [hj2]
          have HF := show Hid _ from hb15
          clear H0 H4 HQ2 hsm ho5 hb5 hf2 hqf hqf2 hg2 hP5 o1 o2 hb15 hpair hll hlens
          generalize (j.step (pk : Int)).1 = ec at HMo hcode hz ⊢
          generalize j.qTo (2 * j.width + 2) = L1 at HMo ⊢
          have hne : ((L1.length : Int) != (L1.length : Int)) = false := by simp
          clear hj2
          go_wp2_with fail
          refine (HMo.out ()).mono ?_
          rintro en v6 ⟨rfl, hP6, hb6⟩
          have HF6 := show Hid (_ ∧ _) from And.intro hP6.run (HF.out.trans hb6)
          clear HMo HF hb6 hP6
          go_wp2
          go_roundw
          case rel => exact ⟨n + 1, j, by omega, by go_num, HF6.out.1, Hnum.out, HF6.out.2⟩
          case measure => simp [intOf]; omega
      · have e1 : (kind != 1) = true := by simp [h1]
        have HMv := show Hid _ from fun (_ : Unit) => move_any I hRn kind arg hok.2 (by have := hj.out; omega)
        have Hj := show Hid ((j.moveM kind arg).number ≤ n + 1) from Nat.le_trans (number_move j kind arg) (by have := hj.out; omega)
        have Hb := show Hid _ from hbn
        clear hRn hbn hj hok HM
        generalize j.moveM kind arg = j2 at HMv Hj
        go_wp2_with (go_at_call 18; refine (HMv.out ()).mono ?_; rintro en v3 ⟨rfl, hR3, hb3⟩)
        go_roundw
        case rel => exact ⟨n + 1, j2, by omega, by go_num, hR3, Hj.out, Hb.out.trans hb3⟩
        case measure => simp [intOf]; omega
    · have hni : ¬ (n : Int) < (ms.length : Int) := by omega
      have Hb := show Hid _ from hbn
      clear hRn hbn hj HM
      go_wp2
      go_ret
      exact ⟨rfl, Hb.out⟩

end Go.Proofs.YthccpacmklhejaaDoor

namespace Go.Proofs.YthccpacmklhejaaDoor
open Go.ChangeShapes Go.WideShapes Go.ChangeAt Go.RowKit Go.Deep
open Go.ChangeMaps (open_string shut_string)

set_option maxRecDepth 100000 in
theorem waits_lifted {CJ : CJT} (I : JobIface CJ) (os : Os) (started : os.Started) (H : Type) (enc : TypeId × Value → H) :
    ReturnsInHanded {} Tryd.checked os 6 .any (fun w args => (Rows.waitsSpec.pre enc Tryd.prog Tryd.f6 [] false w args ∧ laidMetH Tryd.prog Rows.waitsRow.laid w) ∧ sizedMet enc Tryd.prog Tryd.f6 (OpenSpec.ofChange Rows.waitsSpec) false w args)
      (Rows.waitsSpec.post enc Tryd.prog Tryd.f6 false true false false) := by
  refine returnsInHanded_of_change_and (C := Tryd.checked) (X := fun w _ => laidMetH Tryd.prog Rows.waitsRow.laid w) (fun _ _ _ hh h => h.of_heap hh) door_own started (by kernel_rfl) Tryd.func6
    (ChangeSpec.witness_shaped (enc := enc) (C := Tryd.checked) (os := os) (X := fun w _ => laidMetH Tryd.prog Rows.waitsRow.laid w) false (World.doorLaid Tryd.prog 24 os) #[.int .i64 0, .int .i64 0, .slice none 0 0, .slice none 0 0] 8 rfl (World.shaped_of_RefB (by kernel_rfl) (by kernel_rfl)) (by kernel_rfl) (by kernel_rfl) (by kernel_rfl) (door_met os _)) ?_
  intro W base args ds gs before hval0 hW hcnd hsized hL _
  have hval : ∀ (j : Nat) t v, Tryd.f6.params[j]? = some t → args[j]? = some v → Value.okWide Tryd.prog W .any base t v := hval0
  have hS : (DataW.weightsEach Tryd.prog (Tryd.f6.params.toList ++ Rows.waitsSpec.plain.varTypes Tryd.prog) (ds ++ gs)).all (· ≤ reachBytes) = true := hsized
  have hW' := hW
  obtain ⟨p, q, hA0, hV, rfl, hfz, hnd⟩ := hW
  have hA : DataW.TrodAll enc Tryd.prog W 0 (fun _ => true) true Tryd.f6.params.toList args.toList ds p := hA0
  rw [Tryd.params6] at hA hval hS
  obtain ⟨v0, vs0, d0, ds0, p0, q0, hargs, rfl, rfl, h0, r0⟩ := trodAll_cons hA
  obtain ⟨v1, vs1, d1, ds1, p1, q1, rfl, rfl, rfl, h1, r1⟩ := trodAll_cons r0
  obtain ⟨v2, vs2, d2, ds2, p2, q2, rfl, rfl, rfl, h2, r2⟩ := trodAll_cons r1
  obtain ⟨v3, vs3, d3, ds3, p3, q3, rfl, rfl, rfl, h3, r3⟩ := trodAll_cons r2
  obtain ⟨rfl, rfl, rfl⟩ := trodAll_nil r3
  obtain rfl : args = #[v0, v1, v2, v3] := by cases args; simp_all
  obtain ⟨rfl, rfl⟩ := trodVars_none hV
  obtain ⟨a2, len2, cap2, rfl⟩ := okWide_slice Tryd.underlying22 (hval 2 22 v2 rfl rfl)
  obtain ⟨am, lenm, capm, rfl⟩ := okWide_slice Tryd.underlying42 (hval 3 42 v3 rfl rfl)
  obtain ⟨x0, rfl, rfl, rfl, w0⟩ := open_int Tryd.underlying3 (hval 0 3 v0 rfl rfl) h0
  obtain ⟨x1, rfl, rfl, rfl, w1⟩ := open_int Tryd.underlying3 (hval 1 3 v1 rfl rfl) h1
  have k2 := h2
  have km := h3
  have lt2 : ∀ x ∈ p2, x.block < W.heap.size := by obtain ⟨m, hm⟩ := k2; exact DataW.trod_lt m _ _ _ hm
  have ltm : ∀ x ∈ p3, x.block < W.heap.size := by obtain ⟨m, hm⟩ := km; exact DataW.trod_lt m _ _ _ hm
  obtain ⟨rs, hl, hmx, hev⟩ : ∃ rs : List RawV, rs.length = len2 ∧ len2 ≤ maxLen ∧ IsRaws W a2 rs := by
    obtain ⟨fuel, hf⟩ := h2
    exact raws_of_trod (by simpa [Value.cells] using hf)
  obtain ⟨ms, hlm, hmm, hmv⟩ : ∃ ms : List MoveV, ms.length = lenm ∧ lenm ≤ 4611686018427387903 ∧ IsMoves W am ms := by
    obtain ⟨fuel, hf⟩ := h3
    refine moves_of_trod (x := (d3, p3)) (by simpa [Value.cells] using hf) fun n hn => ?_
    have := List.all_eq_true.1 hS n (DataW.weights_mem_each (j := 3) (t := 42) (d := d3) rfl rfl n hn)
    simpa using this
  subst hl
  subst hlm
  clear hA0 hval0 hS hsized
  have b0 := bounds_i64 w0
  have b1 := bounds_i64 w1
  refine (waits_any I x0 x1 a2 cap2 rs am capm ms W ⟨b0.1, b0.2⟩ ⟨b1.1, b1.2⟩ (by unfold maxLen at hmx; omega) hmm hev hmv (door_tab hL)).mono fun e W' ⟨he, bel⟩ => ?_
  subst he
  exact ⟨_, rfl, _, _, _, [], _, [], hW', trodAll_mk1 (shut_bool Tryd.underlying4 _), (trodAll_cons_mk (shut_int Tryd.underlying3 w0) (trodAll_cons_mk (shut_int Tryd.underlying3 w1) (trodAll_cons_mk (Below.trod door_laidOut (by kernel_rfl) (of_decide_eq_true (by kernel_rfl)) k2 bel lt2) (trodAll_cons_mk (Below.trod door_laidOut (by kernel_rfl) (of_decide_eq_true (by kernel_rfl)) km bel ltm) trodAll_mk0)))), rfl, bel.frame _, fun h => by cases h⟩

theorem waits_row {CJ : CJT} (I : JobIface CJ) : Rows.WaitsSaid :=
  OpenClaim.holds_of_wide 6 Tryd.f6 rfl rfl rfl rfl rfl rfl rfl ⟨rfl, rfl, rfl, rfl, rfl⟩ rfl rfl rfl rfl rfl (by kernel_rfl) Tryd.func6 (by kernel_rfl)
    (of_decide_eq_true (by kernel_rfl)) (by unfold Func.isWrapper; first | (rw [if_pos (by decide +kernel)]; kernel_rfl) | (rw [if_neg (by decide +kernel)]; exact ⟨rfl, rfl⟩))
    (fun os started H enc _ => waits_lifted I os started H enc)

theorem waits_card {CJ : CJT} (I : JobIface CJ) : Rows.WaitsCardSaid :=
  Claim7.holds_tied_plain_at .later [] [.data, .data, .data] true Rows.waitsCard.stood.harness false
    (waits_row I) (fun _ h => by cases h) (by kernel_rfl) (fun _ h => by cases h) waits_row_tie rfl ⟨rfl, rfl⟩ (by kernel_rfl) rfl
    (fun f fn hf hfn => by
      obtain rfl : f = 6 := Option.some.inj ((show Tryd.prog.funcNamed Rows.waitsRow.func = some 6 by kernel_rfl).symm.trans hf) |>.symm
      obtain rfl : fn = Tryd.f6 := (Option.some.inj (Tryd.func6.symm.trans hfn)).symm
      exact ⟨by kernel_rfl, fun j t ht => by
        rw [Tryd.params6] at ht
        have hm : t ∈ [3, 3, 22, 42] := by simpa using Array.mem_of_getElem? ht
        have hall : ([3, 3, 22, 42].all fun u => !Tryd.prog.wantsStandIn u) = true := by kernel_rfl
        exact (show Tryd.prog.wantsStandIn t = false by simpa using List.all_eq_true.1 hall t hm)⟩)
    (by kernel_rfl)

end Go.Proofs.YthccpacmklhejaaDoor

namespace Go.Proofs.YthccpacmklhejaaDoor

theorem waits_holds : Rows.WaitsCardSaid := waits_card job_iface
#print axioms waits_holds
end Go.Proofs.YthccpacmklhejaaDoor
