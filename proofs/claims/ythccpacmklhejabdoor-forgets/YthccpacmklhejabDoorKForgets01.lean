/-
  Several texts in one.
-/
import Derived.Test.YthccpacmklhejabDoorK13
import Derived.Test.YthccpacmklhejabDoorK06
import Derived.Test.YthccpacmklhejabDoorTie
import Derived.Test.YthccpacmklhejabDoorCards
import Derived.SevenTiedAt
import Derived.SizedLaws
import Derived.ShutString
import Derived.Deep.SlicePairs
import Derived.Test.YthccpacmklhejabDoorK24
namespace Go.Proofs.YthccpacmklhejabDoor
open Go.RowKit

/-- A run beside which some blocks are kept. -/
structure RunP (CJ : CJT) (B : Nat) (P : Nat → Prop) (xb jb : Nat) (j : JobM) (log : ByteArray) (shown : Nat) (w : World) : Prop where
  job : ∃ X, CJ X w jb j ∧ ¬ X xb ∧ (∀ g, X g → B ≤ g) ∧ ∀ g, P g → ¬ X g
  box : w.heap[xb]? = some (.cells #[.pointer (some ⟨jb, 0, none⟩), .int .i64 (j.width : Int), .string log, .int .i64 (j.events.length : Int), .int .i64 (shown : Int)] 32 (0, 0))
  ge : B ≤ xb
  lt : ∀ g, P g → g < w.heap.size

section
variable {CJ : CJT} {B xb jb : Nat} {P : Nat → Prop} {j : JobM} {log : ByteArray} {shown : Nat} {w w' : World}

theorem RunP.run (h : RunP CJ B P xb jb j log shown w) : RunAt CJ B xb jb j log shown w := by
  obtain ⟨X, h1, h2, h3, _⟩ := h.job
  exact ⟨⟨X, h1, h2, h3⟩, h.box, h.ge⟩

theorem RunP.old (I : JobIface CJ) (h : RunP CJ B P xb jb j log shown w) (hb : Below w.heap.size w w') : RunP CJ B P xb jb j log shown w' := by
  obtain ⟨X, h1, h2, h3, h4⟩ := h.job
  exact ⟨⟨X, After.of_below I h1 hb, h2, h3, h4⟩, (hb.block _ (heap_lt h.box)).trans h.box, h.ge, fun g hg => Nat.lt_of_lt_of_le (h.lt g hg) hb.size⟩

/-- What is made behind a run is kept by its calls. -/
theorem RunP.of (I : JobIface CJ) (h : RunP CJ B P xb jb j log shown w) (hb : Below w.heap.size w w') {Q : Nat → Prop} (hQ : ∀ g, Q g → P g ∨ (w.heap.size ≤ g ∧ g < w'.heap.size)) : RunP CJ B Q xb jb j log shown w' := by
  obtain ⟨X, h1, h2, h3, h4⟩ := h.job
  refine ⟨⟨X, After.of_below I h1 hb, h2, h3, fun g hg hx => ?_⟩, (hb.block _ (heap_lt h.box)).trans h.box, h.ge, fun g hg => ?_⟩
  · rcases hQ g hg with h5 | h5
    · exact h4 g h5 hx
    · have := I.lt h1 g hx
      omega
  · rcases hQ g hg with h5 | h5
    · exact Nat.lt_of_lt_of_le (h.lt g h5) hb.size
    · exact h5.2

theorem RunP.of_run (h : RunAt CJ B xb jb j log shown w) : RunP CJ B (fun _ => False) xb jb j log shown w := by
  obtain ⟨X, h1, h2, h3⟩ := h.job
  exact ⟨⟨X, h1, h2, h3, fun _ h => h.elim⟩, h.box, h.ge, fun _ h => h.elim⟩

theorem RunP.step (I : JobIface CJ) (h : RunP CJ B P xb jb j log shown w) (t : Int) (h1 : -9223372036854775808 ≤ t) (h2 : t ≤ 9223372036854775807) :
    Calls Tryd.prog 14 #[.pointer (some ⟨jb, 0, none⟩), .int .i64 t] w fun en w' => en = .returned (.int .i64 ((j.step t).1 : Int)) ∧ RunP CJ B P xb jb (j.step t).2 log shown w' ∧ Below B w w' ∧ ∀ g, P g → w'.heap[g]? = w.heap[g]? := by
  obtain ⟨X, hX, hx, hB, hP⟩ := h.job
  refine (I.step hX t h1 h2).mono ?_
  rintro en w' ⟨h1, X', a1, a2, a3⟩
  have hxl := heap_lt h.box
  have hBw : B ≤ w.heap.size := Nat.le_trans h.ge (Nat.le_of_lt hxl)
  refine ⟨h1, ⟨⟨X', a1, fun hc => ?_, fun g hg => ?_, fun g hg hc => ?_⟩, ?_, h.ge, fun g hg => Nat.lt_of_lt_of_le (h.lt g hg) a2.size⟩, a2.below hBw hB, fun g hg => a2.keep g (h.lt g hg) (hP g hg)⟩
  · rcases a3 xb hc with h4 | h4
    · exact hx h4
    · omega
  · rcases a3 g hg with h4 | h4
    · exact hB g h4
    · omega
  · rcases a3 g hc with h4 | h4
    · exact hP g hg h4
    · have := h.lt g hg
      omega
  · rw [(same_step j t).width, (same_step j t).events]
    exact a2.block h.box hx

/-- What waits for the first tasks. -/
def JobM.qTo (j : JobM) (n : Nat) : List Int := (List.range n).flatMap (fun t : Nat => (j.queue ((t : Nat) : Int)).1)

theorem qTo_succ (j : JobM) (n : Nat) : j.qTo (n + 1) = j.qTo n ++ (j.queue (n : Int)).1 := by
  unfold JobM.qTo
  rw [List.range_succ, List.flatMap_append]
  simp

theorem queue_ok {j : JobM} (hf : FlowOk j) (t : Nat) (ht : t < 2 * j.width + 2) : (j.queue (t : Int)).2 = 0 ∧ (j.queue (t : Int)).1.length = if j.width < t ∧ t ≤ 2 * j.width then j.width else 1 := by
  unfold JobM.queue
  rw [if_neg (by omega)]
  by_cases h0 : (t : Int) = 0
  · rw [if_pos h0, if_neg (by omega)]
    exact ⟨rfl, rfl⟩
  · rw [if_neg h0]
    by_cases h1 : (t : Int) ≤ (j.width : Int)
    · rw [if_pos h1, if_neg (by omega)]
      exact ⟨rfl, rfl⟩
    · rw [if_neg h1]
      by_cases h2 : (t : Int) ≤ 2 * (j.width : Int)
      · rw [if_pos h2, if_pos (by omega)]
        refine ⟨rfl, ?_⟩
        simp only [List.length_map]
        have hk : ((t : Int) - (j.width : Int) - 1).toNat < j.adders.length := by rw [hf.lenA]; omega
        rw [List.getD_eq_getElem?_getD, List.getElem?_eq_getElem hk]
        exact (hf.adders _ _ (List.getElem?_eq_getElem hk)).lenP
      · rw [if_neg h2, if_neg (show ¬ (j.width < t ∧ t ≤ 2 * j.width) by omega)]
        split <;> exact ⟨rfl, rfl⟩

theorem qTo_length {j : JobM} (hf : FlowOk j) (hw : j.width ≤ 4) : ∀ n, n ≤ 2 * j.width + 2 → (j.qTo n).length ≤ 4 * n
  | 0, _ => by simp [JobM.qTo]
  | n + 1, h => by
    rw [qTo_succ, List.length_append, (queue_ok hf n (by omega)).2]
    have := qTo_length hf hw n (by omega)
    split <;> omega

theorem Tryd.infoInt : (Tryd.prog.info? 3).map (fun i => (i.zero, i.size, i.bytes)) = some (some (.int .i64 0), 1, 8) := by kernel_rfl

set_option maxRecDepth 100000 in
set_option maxHeartbeats 2000000 in
theorem queues_any (I : JobIface CJ) (h : RunP CJ B P xb jb j log shown w) :
    Calls Tryd.prog 12 #[.pointer (some ⟨xb, 0, none⟩)] w fun en w' => ∃ v, en = .returned (.tuple #[v, .bool true]) ∧ w'.ownsRow w.heap.size 3 1 v (j.qTo (2 * j.width + 2)).length ((j.qTo (2 * j.width + 2)).map (Value.int .i64)) ∧ Below w.heap.size w w' := by
  have hw := (h.run.width I).2.1
  have hf := (h.run.width I).1.1
  have HQK := show Hid _ from fun t ht => queue_ok hf t ht
  have HQL := show Hid _ from fun n hn => qTo_length hf hw.2 n hn
  have HR := show Hid _ from h.run
  have hBw := heap_lt h.box
  clear h hf
  obtain ⟨W, hWe⟩ : ∃ W, j.width = W := ⟨_, rfl⟩
  rw [hWe] at hw HQK HQL ⊢
  obtain ⟨i0, hi, hz0, hz1, hz2⟩ := info_parts Tryd.infoInt
  go_enter Tryd.func12, Tryd.ntmps12
  go_wp2
  go_loopw [4, 5] (fun l i wr => ∃ (n : Nat), n ≤ 2 * W + 2 ∧ i = .int .i64 (n : Int) ∧ wr.ownsRow w.heap.size 3 1 l (j.qTo n).length ((j.qTo n).map (Value.int .i64)) ∧ Below w.heap.size w wr) (fun _ i _ => 2 * W + 2 - (intOf i).toNat)
  case atStart => exact ⟨0, Nat.zero_le _, rfl, World.ownsRow_nil _ _ _ _, Below.refl _ _⟩
  case round =>
    obtain ⟨n, hn, rfl, hown, hbn⟩ := hrel
    have hRn := HR.out.old I hbn
    have HT := show Hid _ from fun (_ : Unit) => tasks_any I hRn
    rw [hWe] at HT
    have c0 := hRn.cell0
    have c1 : wr.cell? ⟨xb, 1, none⟩ = some (.int .i64 (W : Int)) := by
      have := row_cell hRn.box 1
      rw [hWe] at this
      exact this
    by_cases hnl : n < 2 * W + 2
    · have hni : (n : Int) < ((2 * W + 2 : Nat) : Int) := by omega
      have HQ := show Hid _ from fun (_ : Unit) => (show Calls Tryd.prog 20 #[.pointer (some ⟨jb, 0, none⟩), .int .i64 (n : Int)] wr fun en w' => ∃ v, en = .returned (.tuple #[v, .int .i64 ((j.queue (n : Int)).2 : Int)]) ∧ w'.ownsRow wr.heap.size 3 1 v (j.queue (n : Int)).1.length ((j.queue (n : Int)).1.map (Value.int .i64)) ∧ Below wr.heap.size wr w' from by
        obtain ⟨X, hX, _, _⟩ := hRn.job
        exact I.queue hX (n : Int) (by omega) (by omega))
      obtain ⟨hq2, hql⟩ := HQK.out n hnl
      rw [hq2] at HQ
      have hqt := HQL.out n hn
      have Hs := show Hid _ from qTo_succ j n
      have Hn := show Hid (_ ∧ _ ∧ _) from And.intro hown (And.intro hbn hRn)
      clear hown hbn hRn hq2 HQK HQL
      generalize (j.queue (n : Int)).1 = ql at HQ hql Hs
      generalize j.qTo n = q1 at Hs Hn hqt
      generalize ((2 * W + 2 : Nat) : Int) = T at HT hni
      go_wp2_with fail
      refine (HT.out ()).mono ?_
      rintro en w1 ⟨rfl, rfl⟩
      go_wp2_with fail
      refine (HQ.out ()).mono ?_
      rintro en v2 ⟨v, rfl, hov, hbv⟩
      obtain ⟨qa, qc, rfl⟩ := own_shape hov
      have c1' : v2.cell? ⟨xb, 1, none⟩ = some (.int .i64 (W : Int)) := (hbv.cell (p := ⟨xb, 1, none⟩) (heap_lt Hn.out.2.2.box)).trans c1
      clear HT HQ c0 c1
      have hlp : 1 ≤ ql.length := by rw [hql]; split <;> omega
      have hq4 : ql.length ≤ 4 := by rw [hql]; split <;> omega
      rcases own_addr hov with ⟨_, h0⟩ | ⟨qg, rfl⟩
      · omega
      have HV := show Hid (_ ∧ _ ∧ _) from And.intro (own_below Hn.out.1 hbv) (And.intro hov (Hn.out.2.1.trans (hbv.mono Hn.out.2.1.size)))
      clear hov hbv Hn
      have hfin : ∀ (v' : Value) (w' : World), w'.ownsRow w.heap.size 3 1 v' (q1.length + ql.length) (q1.map (Value.int .i64) ++ ql.map (Value.int .i64)) → w'.ownsRow w.heap.size 3 1 v' (j.qTo (n + 1)).length ((j.qTo (n + 1)).map (Value.int .i64)) := fun v' w' ho => by
        rw [Hs.out, List.length_append, List.map_append]
        exact ho
      have Hfin := show Hid _ from hfin
      clear hfin Hs
      have hq1 : (q1.map (Value.int .i64)).length = q1.length := by simp
      have hlq : (ql.map (Value.int .i64)).length = ql.length * 1 := by simp
      have hone : ∀ u ∈ ql.map (Value.int .i64), u.oneCell' = true := fun u hu => by
        obtain ⟨x, _, rfl⟩ := List.mem_map.1 hu
        rfl
      have hc : ((W : Int) < (n : Int) ∧ (n : Int) ≤ 2 * (W : Int) ∧ ql.length = W) ∨ ((W : Int) < (n : Int) ∧ ¬ (n : Int) ≤ 2 * (W : Int) ∧ ql.length = 1) ∨ (¬ (W : Int) < (n : Int) ∧ ql.length = 1) := by
        by_cases h1 : W < n
        · by_cases h2 : n ≤ 2 * W
          · exact .inl ⟨by omega, by omega, by rw [hql, if_pos ⟨h1, h2⟩]⟩
          · exact .inr (.inl ⟨by omega, by omega, by rw [hql, if_neg (by omega)]⟩)
        · exact .inr (.inr ⟨by omega, by rw [hql, if_neg (by omega)]⟩)
      clear hql
      generalize q1.map (Value.int .i64) = x1 at HV Hfin hq1
      generalize ql.map (Value.int .i64) = x2 at HV Hfin hlq hone
      generalize q1.length = l1 at HV Hfin hq1 hqt
      generalize ql.length = l2 at HV Hfin hlp hq4 hlq hc
      rcases hc with ⟨h1, h2, h3⟩ | ⟨h1, h2, h3⟩ | ⟨h1, h3⟩
      all_goals
        have hne : ((l2 : Int) != (l2 : Int)) = false := by simp
        (try subst h3)
        go_wp2_with (at_builtin; refine wpList_append_own _ rfl (.tmp 51) (.tmp 52) 36 rfl w.heap.size 3 i0 (.int .i64 0) 1 8 Tryd.underlying36 hi hz0 hz1 hz2 rfl (by decide) _ l1 x1 rfl HV.out.1 ⟨qg, 0, none⟩ _ qc x2 rfl hlq (fun j u hu => HV.out.2.1.cells (g := qg) rfl j u hu) hone (by unfold maxLen; omega) (by omega) HV.out.2.2.size ?_; intro v3 w3 hown3 hgrow3 _)
        go_roundw
        case rel => exact ⟨n + 1, by omega, by go_num, Hfin.out _ _ hown3, HV.out.2.2.grown hgrow3 HV.out.2.2.size (fun k hk => (own_ge HV.out.1 k hk).1)⟩
        case measure => simp [intOf]; omega
    · have hni : ¬ (n : Int) < ((2 * W + 2 : Nat) : Int) := by omega
      have hnn : n = 2 * W + 2 := by omega
      have HF := show Hid (_ ∧ _) from And.intro hown hbn
      rw [hnn] at HF
      clear hRn hown hbn hnn HQK HQL
      generalize ((2 * W + 2 : Nat) : Int) = T at HT hni
      go_wp2_with (go_at_call 13; refine (HT.out ()).mono ?_; rintro en w1 ⟨rfl, rfl⟩)
      go_ret2
      exact ⟨_, rfl, HF.out.1, HF.out.2⟩

end

end Go.Proofs.YthccpacmklhejabDoor

namespace Go.Proofs.YthccpacmklhejabDoor
open Go.RowKit

theorem forget_queue (j : JobM) (t : Int) (h : 1 ≤ t) : ∀ x ∈ (j.forget.queue t).1, x = 0 := by
  intro x hx
  unfold JobM.queue at hx
  split at hx
  · cases hx
  · rw [if_neg (by omega)] at hx
    split at hx
    · simp only [List.mem_singleton] at hx
      rw [hx]
      have : ((j.forget.sorters.getD (t - 1).toNat newS).pipe) = [] := by
        rw [List.getD_eq_getElem?_getD]
        simp only [JobM.forget, List.getElem?_map]
        cases j.sorters[(t - 1).toNat]? <;> rfl
      rw [this]
      rfl
    · split at hx
      · obtain ⟨p, hp, rfl⟩ := List.mem_map.1 hx
        have : p = [] := by
          rw [List.getD_eq_getElem?_getD] at hp
          simp only [JobM.forget, List.getElem?_map] at hp
          cases hc : j.adders[(t - (j.width : Int) - 1).toNat]? with
          | none => rw [hc] at hp; simp [newA] at hp
          | some a => rw [hc] at hp; simp only [Option.map_some, Option.getD_some] at hp; exact (List.mem_replicate.1 hp).2
        rw [this]
        rfl
      · have : j.forget.passedAll = false := by unfold JobM.passedAll; rfl
        rw [this] at hx
        simpa using hx

theorem forget_qTo (j : JobM) : ∀ n, ∃ zs, j.forget.qTo (n + 1) = ((j.events.length : Int) - (j.base : Int)) :: zs ∧ ∀ x ∈ zs, x = 0
  | 0 => by
    refine ⟨[], ?_, fun x hx => by cases hx⟩
    rw [qTo_succ]
    have h0 : j.forget.queue ((0 : Nat) : Int) = ([(j.events.length : Int) - (j.base : Int)], 0) := by
      unfold JobM.queue
      rw [if_neg (by show ¬ (((0 : Nat) : Int) < 0 ∨ 2 * (j.width : Int) + 1 < ((0 : Nat) : Int)); omega), if_pos (show ((0 : Nat) : Int) = 0 from rfl)]
      rfl
    rw [h0]
    rfl
  | n + 1 => by
    obtain ⟨zs, h1, h2⟩ := forget_qTo j n
    rw [qTo_succ, h1]
    refine ⟨zs ++ (j.forget.queue ((n + 1 : Nat) : Int)).1, by simp, fun x hx => ?_⟩
    rcases List.mem_append.1 hx with hx | hx
    · exact h2 x hx
    · exact forget_queue j _ (by omega) x hx

theorem fail_twice (j : JobM) : j.fail.fail = j.fail := by
  obtain ⟨j0, e, _⟩ := fail_forget j
  rw [e]
  exact forget_twice j0

/-- What holds behind Fail. -/
theorem fail_facts {j : JobM} (hf : FlowOk j) : (∃ zs, j.fail.qTo (2 * j.fail.width + 2) = ((j.fail.events.length : Int) - (j.fail.base : Int)) :: zs ∧ ∀ x ∈ zs, x = 0) ∧ (∀ t : Int, 1 ≤ t → t ≤ 2 * (j.fail.width : Int) + 1 → j.fail.step t = (8, j.fail)) ∧ j.fail.under = false := by
  obtain ⟨j0, e, h0, h1⟩ := fail_forget j
  rw [e]
  exact ⟨forget_qTo j0 (2 * j0.width + 1), fun t h2 h3 => forget_idle (h1 hf) t h2 h3, rfl⟩

section
variable {CJ : CJT} {B xb jb : Nat} {j : JobM} {log : ByteArray} {shown : Nat} {w : World}

theorem RunAt.offset (I : JobIface CJ) (h : RunAt CJ B xb jb j log shown w) : Calls Tryd.prog 10 #[.pointer (some ⟨jb, 0, none⟩)] w fun en w' => en = .returned (.int .i64 (j.base : Int)) ∧ RunAt CJ B xb jb j log shown w' ∧ Below B w w' := by
  obtain ⟨X, hX, _, _⟩ := h.job
  exact (I.offset hX).mono fun en w' ⟨h1, h2⟩ => ⟨h1, h.old I h2, h2.mono (Nat.le_trans h.ge (Nat.le_of_lt (heap_lt h.box)))⟩

theorem RunAt.view (I : JobIface CJ) (h : RunAt CJ B xb jb j log shown w) (ht : Tab w) : Calls Tryd.prog 8 #[.pointer (some ⟨jb, 0, none⟩)] w fun en w' => en = .returned (.string ⟨(foldB (j.events.take j.base)).toArray⟩) ∧ RunAt CJ B xb jb j log shown w' ∧ Below B w w' := by
  obtain ⟨X, hX, _, _⟩ := h.job
  exact (I.view hX ht).mono fun en w' ⟨h1, h2⟩ => ⟨h1, h.old I h2, h2.mono (Nat.le_trans h.ge (Nat.le_of_lt (heap_lt h.box)))⟩

theorem RunAt.queues (I : JobIface CJ) (h : RunAt CJ B xb jb j log shown w) : Calls Tryd.prog 12 #[.pointer (some ⟨xb, 0, none⟩)] w fun en w' => ∃ v, en = .returned (.tuple #[v, .bool true]) ∧ w'.ownsRow w.heap.size 3 1 v (j.qTo (2 * j.width + 2)).length ((j.qTo (2 * j.width + 2)).map (Value.int .i64)) ∧ RunAt CJ B xb jb j log shown w' ∧ Below B w w' :=
  (queues_any I (RunP.of_run h)).mono fun _ _ ⟨v, h1, h2, h3⟩ => ⟨v, h1, h2, h.old I h3, h3.mono (Nat.le_trans h.ge (Nat.le_of_lt (heap_lt h.box)))⟩
end

end Go.Proofs.YthccpacmklhejabDoor

namespace Go.Proofs.YthccpacmklhejabDoor
open Go.RowKit

set_option maxRecDepth 100000 in
set_option maxHeartbeats 4000000 in
theorem forgets_any {CJ : CJT} (I : JobIface CJ) (wide room : Int) (a : Option Addr) (cap : Nat) (rs : List RawV) (a2 : Option Addr) (cap2 : Nat) (ms : List MoveV) (w : World) (hw1 : In64 wide) (hw2 : In64 room) (hlen : rs.length ≤ 9223372036854775807) (hml : ms.length ≤ 4000000000000000000) (hev : IsRaws w a rs) (hmv : IsMoves w a2 ms) (ht : Tab w) :
    Calls Tryd.prog 4 #[.int .i64 wide, .int .i64 room, .slice a rs.length cap, .slice a2 ms.length cap2] w fun en w' => en = .returned (.bool true) ∧ Below w.heap.size w w' := by
  have HRn := show Hid _ from fun (_ : Unit) => run_any I wide room a cap rs ⟨#[]⟩ w hw1 hw2 hlen (by decide) hev
  have HW := show Hid _ from fun (v : World) (hb : Below w.heap.size w v) => works_any I v (ht.old hb)
  have HT := show Hid (∀ v, Below w.heap.size w v → Tab v) from fun v hb => ht.old hb
  have HM := show Hid (IsMoves w a2 ms) from hmv
  clear hev hlen hw1 hw2 ht hmv
  go_enter Tryd.func4, Tryd.ntmps4
  go_wp2_with fail
  refine (HRn.out ()).mono ?_
  rintro en v1 ⟨⟨xb, jb, es, lg, m, rfl, hR, hlg, hpar⟩, hb1⟩
  have H1 := show Hid (_ ∧ _ ∧ _) from And.intro hR (And.intro hb1 hpar)
  clear HRn hR hb1 hpar
  go_wp2_with fail
  refine (HW.out v1 H1.out.2.1).mono ?_
  rintro en v2 ⟨rfl, hb2⟩
  have H2 := show Hid (_ ∧ _ ∧ _) from And.intro (H1.out.1.old I hb2) (And.intro (H1.out.2.1.trans (hb2.mono H1.out.2.1.size)) H1.out.2.2)
  clear HW H1 hb2
  go_wp2
  generalize 1 + pickN wide 4 = W at H2
  generalize 1 + pickN room 4 = R at H2
  go_loopw [11] (fun i wr => ∃ (n : Nat) (j : JobM), n ≤ ms.length ∧ i = .int .i64 (n : Int) ∧ RunAt CJ w.heap.size xb jb j lg 0 wr ∧ Hid (j.number ≤ n ∧ SameJ (newJ W R es) j) ∧ Below w.heap.size w wr) (fun i _ => ms.length - (intOf i).toNat)
  case atStart => exact ⟨0, newJ W R es, Nat.zero_le _, rfl, H2.out.1, ⟨Nat.le_refl _, SameJ.refl _⟩, H2.out.2.1⟩
  case round =>
    obtain ⟨n, j, hn, rfl, hRn, hj, hbn⟩ := hrel
    have Hpar := show Hid (Parsed lg j.events m) from by rw [hj.out.2.events]; exact H2.out.2.2
    clear H2
    by_cases hnl : n < ms.length
    · have hni : (n : Int) < (ms.length : Int) := by omega
      have hn0 : (0 : Int) ≤ (n : Int) := by omega
      obtain ⟨hmo, hmc⟩ := HM.out
      rcases hmc with h0 | ⟨b, off, rfl, hbl, hcs⟩
      · rw [h0] at hnl; simp at hnl
      obtain ⟨d0, d1⟩ := hcs n hnl
      have hok := hmo _ (List.getElem_mem hnl)
      have q0 := (hbn.cell (p := ⟨b, off + n * 2, none⟩) hbl).trans d0
      have q1 := (hbn.cell (p := ⟨b, off + n * 2 + 1, none⟩) hbl).trans d1
      obtain ⟨mv, hmv⟩ : ∃ mv, ms[n]'hnl = mv := ⟨_, rfl⟩
      rw [hmv] at q0 q1 hok
      clear hmv hcs hmo d0 d1
      obtain ⟨kind, arg⟩ := mv
      simp only at q0 q1
      have HMv := show Hid _ from fun (_ : Unit) => move_any I hRn kind arg hok.2 (by have := hj.out.1; omega)
      have Hj := show Hid ((j.moveM kind arg).number ≤ n + 1 ∧ SameJ (newJ W R es) (j.moveM kind arg)) from ⟨Nat.le_trans (number_move j kind arg) (by have := hj.out.1; omega), hj.out.2.trans (same_move j kind arg)⟩
      have Hb := show Hid _ from hbn
      clear hRn hbn hj Hpar hok HM
      generalize j.moveM kind arg = j2 at HMv Hj
      go_wp2_with (go_at_call 6; refine (HMv.out ()).mono ?_; rintro en v3 ⟨rfl, hR3, hb3⟩)
      go_roundw
      case rel => exact ⟨n + 1, j2, by omega, by go_num, hR3, Hj.out, Hb.out.trans hb3⟩
      case measure => simp [intOf]; omega
    · have hni : ¬ (n : Int) < (ms.length : Int) := by omega
      have hf := (hRn.width I).1.1
      obtain ⟨⟨zs, hq, hzs⟩, hidle, hund⟩ := fail_facts hf
      have hnum : j.fail.number < 4611686018427387903 := by rw [number_fail]; have := hj.out.1; omega
      have Hpar2 := show Hid (Parsed lg j.fail.events m) from by rw [(same_fail j).events]; exact Hpar.out
      have hbf := base_fail hf
      have HO := show Hid _ from fun (_ : Unit) => hRn.offset I
      have Hb0 := show Hid (Below w.heap.size w wr) from hbn
      have c0 := hRn.cell0
      clear hRn hbn hj Hpar HM hf
      go_wp2_with fail
      refine (HO.out ()).mono ?_
      rintro en w1 ⟨rfl, hR1, hb1⟩
      have Hb1 := show Hid (Below w.heap.size w w1) from Hb0.out.trans hb1
      have HF := show Hid _ from fun (_ : Unit) => hR1.fail I
      clear c0
      have c0 := hR1.cell0
      clear HO hR1 hb1 Hb0
      go_wp2_with fail
      refine (HF.out ()).mono ?_
      rintro en w2 ⟨rfl, hR2, hb2⟩
      have Hb2 := show Hid (Below w.heap.size w w2) from Hb1.out.trans hb2
      have htw := fail_twice j
      generalize hjf : j.fail = jf at *
      have HO := show Hid _ from fun (_ : Unit) => hR2.offset I
      clear c0
      have c0 := hR2.cell0
      clear HF hR2 hb2 Hb1
      go_wp2_with fail
      refine (HO.out ()).mono ?_
      rintro en w3 ⟨rfl, hR3, hb3⟩
      have Hb3 := show Hid (Below w.heap.size w w3) from Hb2.out.trans hb3
      have HV := show Hid _ from fun (_ : Unit) => hR3.view I (HT.out w3 Hb3.out)
      clear c0
      have c0 := hR3.cell0
      clear HO hR3 hb3 Hb2
      generalize hFo : (⟨(foldB (jf.events.take jf.base)).toArray⟩ : ByteArray) = FT at HV
      go_wp2_with fail
      refine (HV.out ()).mono ?_
      rintro en w4 ⟨rfl, hR4, hb4⟩
      have Hb4 := show Hid (Below w.heap.size w w4) from Hb3.out.trans hb4
      have HF := show Hid _ from fun (_ : Unit) => hR4.fail I
      rw [htw] at HF
      clear c0
      have c0 := hR4.cell0
      clear HV hR4 hb4 Hb3
      go_wp2_with fail
      refine (HF.out ()).mono ?_
      rintro en w5 ⟨rfl, hR5, hb5⟩
      have Hb5 := show Hid (Below w.heap.size w w5) from Hb4.out.trans hb5
      have HQ := show Hid _ from fun (_ : Unit) => hR5.queues I
      clear c0 HF hR5 hb5 Hb4
      go_wp2_with fail
      refine (HQ.out ()).mono ?_
      rintro en w6 ⟨v6, rfl, ho6, hR6, hb6⟩
      have Hb6 := show Hid (Below w.heap.size w w6) from Hb5.out.trans hb6
      rw [hq] at ho6
      simp only [List.length_cons, List.map_cons] at ho6
      obtain ⟨g6, c6, rfl⟩ := own_slice ho6 (by omega)
      have e0 : w6.cell? ⟨g6, 0, none⟩ = some (.int .i64 ((jf.events.length : Int) - (jf.base : Int))) := ho6.cellAt 0 (by omega)
      have HZ := show Hid (∀ i, 1 ≤ i → i < zs.length + 1 → w6.cell? ⟨g6, i, none⟩ = some (.int .i64 0)) from fun i h1 h2 => by
        rw [ho6.cellAt i (by omega)]
        obtain ⟨i', rfl⟩ : ∃ i', i = i' + 1 := ⟨i - 1, by omega⟩
        have hl : i' < zs.length := by omega
        rw [List.getElem?_cons_succ, List.getElem?_map, List.getElem?_eq_getElem hl]
        simp only [Option.map_some]
        rw [hzs _ (List.getElem_mem hl)]
      have hzl : zs.length ≤ 100 := by
        have h1 := (hR6.width I).2.1
        have h2 := qTo_length (hR6.width I).1.1 h1.2 (2 * jf.width + 2) (Nat.le_refl _)
        rw [hq] at h2
        simp only [List.length_cons] at h2
        omega
      have x3 : w6.cell? ⟨xb, 3, none⟩ = some (.int .i64 (jf.events.length : Int)) := row_cell hR6.box 3
      have hwid := hR6.width I
      have HR6 := show Hid _ from hR6
      have hfb : jf.base ≤ jf.events.length := Nat.le_trans hwid.1.1.base hwid.1.1.sent
      have k1 : (0 : Int) < (zs.length : Int) + 1 := by omega
      have k2 : (j.base : Int) ≤ (jf.base : Int) := by omega
      have k3 : (((jf.events.length : Int) - (jf.base : Int)) == ((jf.events.length : Int) - (jf.base : Int))) = true := by simp
      have k4 : (jf.events.length : Int) ≤ 400 := by have := hwid.2.2; omega
      have k5 : wrap64 ((jf.events.length : Int) - (jf.base : Int)) = (jf.events.length : Int) - (jf.base : Int) := IntWalk.wrap64_in _ ⟨by omega, by omega⟩
      clear HQ hb6 Hb5 hq hzs ho6 hR6 hbf htw
      go_wp2
      go_quiet (fail)
      go_wp2
      clear k1 k2 k3 k4 k5 e0 x3
      have HR7 := show Hid (RunAt CJ w.heap.size xb jb jf lg 0 (w6.drewN nq) ∧ Below w.heap.size w (w6.drewN nq)) from ⟨HR6.out.drewN I nq, below_drewN Hb6.out nq⟩
      have HZ7 := show Hid (∀ i, 1 ≤ i → i < zs.length + 1 → (w6.drewN nq).cell? ⟨g6, i, none⟩ = some (.int .i64 0)) from HZ.out
      clear HR6 Hb6 HZ
      generalize w6.drewN nq = w7 at HR7 HZ7 ⊢
      go_loopw [16, 17] (fun okv iv wr => okv = .bool true ∧ ∃ i : Nat, 1 ≤ i ∧ i ≤ zs.length + 1 ∧ iv = .int .i64 (i : Int) ∧ wr = w7) (fun _ iv _ => zs.length + 1 - (intOf iv).toNat)
      case atStart => exact ⟨rfl, 1, Nat.le_refl _, by omega, rfl, rfl⟩
      case round =>
        obtain ⟨rfl, i, hi1, hi2, rfl, hwr⟩ := hrel
        obtain rfl : w7 = wr := hwr.symm
        by_cases hil : i < zs.length + 1
        · have z0 := HZ7.out i hi1 hil
          have hii : (i : Int) < (zs.length : Int) + 1 := by omega
          have hi0 : (0 : Int) ≤ (i : Int) := by omega
          clear HR7 HZ7 HT Hpar2
          go_wp2
          go_roundw
          case rel => exact ⟨rfl, i + 1, by omega, by omega, by go_num, by first | trivial | rfl⟩
          case measure => simp [intOf]; omega
        · have hii : ¬ (i : Int) < (zs.length : Int) + 1 := by omega
          clear HZ7 hil hi1 hi2
          go_wp2
          go_loopw [16, 18] (fun okv iv wr => okv = .bool true ∧ ∃ t : Nat, 1 ≤ t ∧ t ≤ 2 * jf.width + 2 ∧ iv = .int .i64 (t : Int) ∧ RunAt CJ w.heap.size xb jb jf lg 0 wr ∧ Below w.heap.size w wr) (fun _ iv _ => 2 * jf.width + 2 - (intOf iv).toNat)
          case atStart => exact ⟨rfl, 1, Nat.le_refl _, by omega, rfl, HR7.out.1, HR7.out.2⟩
          case round =>
            obtain ⟨rfl, t, ht1, ht2, rfl, hRt, hbt⟩ := hrel
            clear HR7 hii
            have hw4 := hwid.2.1
            have HTk := show Hid _ from fun (_ : Unit) => tasks_any I hRt
            have c0 := hRt.cell0
            by_cases htl : t < 2 * jf.width + 2
            · have HS := show Hid _ from fun (_ : Unit) => hRt.step I (t : Int) (by omega) (by omega)
              rw [hidle (t : Int) (by omega) (by omega)] at HS
              have Hbt := show Hid (Below w.heap.size w wr) from hbt
              have hti : (t : Int) < (((2 * jf.width + 2 : Nat)) : Int) := by omega
              have ht0 : (0 : Int) ≤ (t : Int) := by omega
              clear hRt hbt HT Hpar2 hidle
              generalize hNN : 2 * jf.width + 2 = NN at HTk hti htl ht2 ⊢
              go_wp2_with (first
                | (go_at_call 13; refine (HTk.out ()).mono ?_; rintro en wt ⟨rfl, hwt⟩; obtain rfl : wr = wt := hwt.symm)
                | (go_at_call 14; refine (HS.out ()).mono ?_; rintro en ws ⟨rfl, hRs, hbs⟩; have HRs := show Hid (RunAt CJ w.heap.size xb jb jf lg 0 ws ∧ Below w.heap.size w ws) from ⟨hRs, Hbt.out.trans hbs⟩; clear hRs hbs))
              go_roundw
              case rel => exact ⟨rfl, t + 1, by omega, by omega, by go_num, HRs.out.1, HRs.out.2⟩
              case measure => simp [intOf]; omega
            · have hti : ¬ (t : Int) < (((2 * jf.width + 2 : Nat)) : Int) := by omega
              have HV := show Hid _ from fun (_ : Unit) => hRt.view I (HT.out wr hbt)
              have Hbt := show Hid (Below w.heap.size w wr) from hbt
              rw [hFo] at HV
              clear hRt hbt hidle
              generalize hNN : 2 * jf.width + 2 = NN at HTk hti htl ht2 ⊢
              clear hNN htl ht2
              go_wp2_with fail
              refine (HTk.out ()).mono ?_
              rintro en wt ⟨rfl, hwt⟩
              obtain rfl : wr = wt := hwt.symm
              go_wp2_with fail
              refine (HV.out ()).mono ?_
              rintro en w8 ⟨rfl, hR8, hb8⟩
              have Hb8 := show Hid (Below w.heap.size w w8) from Hbt.out.trans hb8
              have HTr := show Hid _ from fun (_ : Unit) => hR8.trigger I (by omega)
              have et1 : jf.trigger.1 = jf.number + 1 := by unfold JobM.trigger; rw [hund]; rfl
              have et2 : jf.trigger.2.1 = 0 := by unfold JobM.trigger; rw [hund]; rfl
              have et3 : jf.trigger.2.2.under = true := by unfold JobM.trigger; rw [hund]; rfl
              have et4 : jf.trigger.2.2.number = jf.number + 1 := by unfold JobM.trigger; rw [hund]; rfl
              have et5 : jf.trigger.2.2.base = jf.base := base_trigger jf
              rw [et1, et2] at HTr
              have HP3 := show Hid (Parsed lg jf.trigger.2.2.events m) from by rw [(same_trigger jf).events]; exact Hpar2.out
              clear c0
              have c0 := hR8.cell0
              clear hR8 hb8 HV Hbt HTk et1 et2 et5 Hpar2
              generalize jf.trigger.2.2 = jt at HTr et3 et4 HP3
              go_wp2_with fail
              refine (HTr.out ()).mono ?_
              rintro en w9 ⟨rfl, hR9, hb9⟩
              have Hb9 := show Hid (Below w.heap.size w w9) from Hb8.out.trans hb9
              have HTr := show Hid _ from fun (_ : Unit) => hR9.trigger I (by omega)
              have eb : jt.trigger = (0, 10, jt) := by unfold JobM.trigger; rw [et3]; rfl
              rw [eb] at HTr
              clear c0
              have c0 := hR9.cell0
              clear hR9 hb9 Hb8
              go_wp2_with fail
              refine (HTr.out ()).mono ?_
              rintro en w10 ⟨rfl, hR10, hb10⟩
              have Hb10 := show Hid (Below w.heap.size w w10) from Hb9.out.trans hb10
              have HX := show Hid _ from fun (_ : Unit) => exact_any I hR10 (HT.out w10 Hb10.out) hlg m HP3.out (Nat.zero_le _)
              clear hR10 hb10 Hb9 c0 eb
              have kn : (1 : Int) ≤ (jf.number : Int) + 1 := by omega
              go_wp2_with (go_at_call 16; refine (HX.out ()).mono ?_; rintro en w11 ⟨rfl, hR11, hb11⟩)
              go_ret
              exact ⟨by simp, Hb10.out.trans hb11⟩

end Go.Proofs.YthccpacmklhejabDoor

namespace Go.Proofs.YthccpacmklhejabDoor
open Go.ChangeShapes Go.WideShapes Go.ChangeAt Go.RowKit Go.Deep
open Go.ChangeMaps (open_string shut_string)

theorem moves_of_trodF {H : Type} {enc : TypeId × Value → H} {w : World} {base : Nat} {spare : Nat → Bool} {held : Bool} {fuel : Nat} {a : Option Addr} {len cap : Nat} {x : DataW H × List MemPlace}
    (h : DataW.trod enc Tryd.prog w base spare held fuel 23 [.slice a len cap] = some x) (hz : ∀ n ∈ x.1.weights Tryd.prog 23, n ≤ reachBytes) : ∃ ms : List MoveV, ms.length = len ∧ len ≤ 4000000000000000000 ∧ IsMoves w a ms := by
  have hR := reachBytes_lt
  rcases Deep.open_slice_pairs Tryd.underlying23 Tryd.underlying28 (by kernel_rfl) rfl rfl (by kernel_rfl) (by kernel_rfl) h with ⟨hcs, _⟩ | ⟨ad, len', cap', m, n, V0, V1, D0, D1, P0, P1, hcs, hb, hl, hm, hmm, hx, hel⟩
  · simp at hcs
    obtain ⟨rfl, rfl, rfl⟩ := hcs
    exact ⟨[], rfl, by decide, ⟨by simp, .inl rfl⟩⟩
  · simp at hcs
    obtain ⟨rfl, rfl, rfl⟩ := hcs
    have hle : len ≤ m := by rw [hmm]; split <;> omega
    have hlen : len ≤ 4000000000000000000 := by
      have := hz ((((List.range len).map fun i => DataW.agg [D0 i, D1 i]).length + ((List.range (m - len)).map fun j => DataW.agg [D0 (len + j), D1 (len + j)]).length) * Tryd.prog.bytesOf 28) (by rw [hx]; simp [DataW.weights, Tryd.underlying23])
      rw [Tryd.bytesMove] at this
      simp at this
      omega
    have hex : ∀ i, i < len → ∃ o : MoveV, o.ok ∧ w.cell? (ad.add (i * 2)) = some (.int .i64 o.kind) ∧ w.cell? (ad.add (i * 2 + 1)) = some (.int .i64 o.arg) := by
      intro i hi
      obtain ⟨h1, h2, h3, h4⟩ := hel i (by omega)
      obtain ⟨k, e1, _, w1⟩ := DataW.trod_int Tryd.underlying3 h3
      obtain ⟨r, e2, _, w2⟩ := DataW.trod_int Tryd.underlying3 h4
      simp at e1 e2
      rw [e1] at h1
      rw [e2] at h2
      have b1 := bounds_i64 w1
      have b2 := bounds_i64 w2
      exact ⟨⟨k, r⟩, ⟨⟨b1.1, b1.2⟩, ⟨b2.1, b2.2⟩⟩, h1, h2⟩
    obtain ⟨f, hf⟩ := @Deep.choose_lt MoveV ⟨⟨0, 0⟩⟩ len _ hex
    refine ⟨(List.range len).map f, by simp, hlen, ⟨fun o ho => ?_, ?_⟩⟩
    · simp at ho
      obtain ⟨i, hi, rfl⟩ := ho
      exact (hf i hi).1
    · by_cases h0 : len = 0
      · left; subst h0; rfl
      · right
        obtain ⟨b, off, spot⟩ := ad
        have hc0 := (hf 0 (by omega)).2.1
        have hspot : spot = none := by
          have := World.cell?_spot hc0
          simpa [Addr.add] using this
        subst hspot
        have hblk : b < w.heap.size := by
          have hc := hc0
          simp only [add_plain] at hc
          apply Classical.byContradiction
          intro hn
          have hnone : w.heap[b]? = none := Array.getElem?_eq_none (by omega)
          simp [World.cell?, hnone] at hc
        refine ⟨b, off, rfl, hblk, fun k hk => ?_⟩
        have hk' : k < len := by simpa using hk
        have ek : ((List.range len).map f)[k]'hk = f k := by simp
        rw [ek]
        obtain ⟨_, c0, c1⟩ := hf k hk'
        simp only [add_plain] at c0 c1
        exact ⟨c0, c1⟩

set_option maxRecDepth 100000 in
theorem forgets_lifted {CJ : CJT} (I : JobIface CJ) (os : Os) (started : os.Started) (H : Type) (enc : TypeId × Value → H) :
    ReturnsInHanded {} Tryd.checked os 4 .any (fun w args => (Rows.forgetsSpec.pre enc Tryd.prog Tryd.f4 [] false w args ∧ laidMetH Tryd.prog Rows.forgetsRow.laid w) ∧ sizedMet enc Tryd.prog Tryd.f4 (OpenSpec.ofChange Rows.forgetsSpec) false w args)
      (Rows.forgetsSpec.post enc Tryd.prog Tryd.f4 false true false false) := by
  refine returnsInHanded_of_change_and (C := Tryd.checked) (X := fun w _ => laidMetH Tryd.prog Rows.forgetsRow.laid w) (fun _ _ _ hh h => h.of_heap hh) door_own started (by kernel_rfl) Tryd.func4
    (ChangeSpec.witness_shaped (enc := enc) (C := Tryd.checked) (os := os) (X := fun w _ => laidMetH Tryd.prog Rows.forgetsRow.laid w) false (World.doorLaid Tryd.prog 24 os) #[.int .i64 0, .int .i64 0, .slice none 0 0, .slice none 0 0] 8 rfl (World.shaped_of_RefB (by kernel_rfl) (by kernel_rfl)) (by kernel_rfl) (by kernel_rfl) (by kernel_rfl) (door_met os _)) ?_
  intro W base args ds gs before hval0 hW hcnd hsized hL _
  have hval : ∀ (j : Nat) t v, Tryd.f4.params[j]? = some t → args[j]? = some v → Value.okWide Tryd.prog W .any base t v := hval0
  have hS : (DataW.weightsEach Tryd.prog (Tryd.f4.params.toList ++ Rows.forgetsSpec.plain.varTypes Tryd.prog) (ds ++ gs)).all (· ≤ reachBytes) = true := hsized
  have hW' := hW
  obtain ⟨p, q, hA0, hV, rfl, hfz, hnd⟩ := hW
  have hA : DataW.TrodAll enc Tryd.prog W 0 (fun _ => true) true Tryd.f4.params.toList args.toList ds p := hA0
  rw [Tryd.params4] at hA hval hS
  obtain ⟨v0, vs0, d0, ds0, p0, q0, hargs, rfl, rfl, h0, r0⟩ := trodAll_cons hA
  obtain ⟨v1, vs1, d1, ds1, p1, q1, rfl, rfl, rfl, h1, r1⟩ := trodAll_cons r0
  obtain ⟨v2, vs2, d2, ds2, p2, q2, rfl, rfl, rfl, h2, r2⟩ := trodAll_cons r1
  obtain ⟨v3, vs3, d3, ds3, p3, q3, rfl, rfl, rfl, h3, r3⟩ := trodAll_cons r2
  obtain ⟨rfl, rfl, rfl⟩ := trodAll_nil r3
  obtain rfl : args = #[v0, v1, v2, v3] := by cases args; simp_all
  obtain ⟨rfl, rfl⟩ := trodVars_none hV
  obtain ⟨a2, len2, cap2, rfl⟩ := okWide_slice Tryd.underlying22 (hval 2 22 v2 rfl rfl)
  obtain ⟨am, lenm, capm, rfl⟩ := okWide_slice Tryd.underlying23 (hval 3 23 v3 rfl rfl)
  obtain ⟨x0, rfl, rfl, rfl, w0⟩ := open_int Tryd.underlying3 (hval 0 3 v0 rfl rfl) h0
  obtain ⟨x1, rfl, rfl, rfl, w1⟩ := open_int Tryd.underlying3 (hval 1 3 v1 rfl rfl) h1
  have k2 := h2
  have km := h3
  have lt2 : ∀ x ∈ p2, x.block < W.heap.size := by obtain ⟨m, hm⟩ := k2; exact DataW.trod_lt m _ _ _ hm
  have ltm : ∀ x ∈ p3, x.block < W.heap.size := by obtain ⟨m, hm⟩ := km; exact DataW.trod_lt m _ _ _ hm
  obtain ⟨rs, hl, hmx, hev⟩ : ∃ rs : List RawV, rs.length = len2 ∧ len2 ≤ maxLen ∧ IsRaws W a2 rs := by
    obtain ⟨fuel, hf⟩ := h2
    exact raws_of_trod (by simpa [Value.cells] using hf)
  obtain ⟨ms, hlm, hmm, hmv⟩ : ∃ ms : List MoveV, ms.length = lenm ∧ lenm ≤ 4000000000000000000 ∧ IsMoves W am ms := by
    obtain ⟨fuel, hf⟩ := h3
    refine moves_of_trodF (x := (d3, p3)) (by simpa [Value.cells] using hf) fun n hn => ?_
    have := List.all_eq_true.1 hS n (DataW.weights_mem_each (j := 3) (t := 23) (d := d3) rfl rfl n hn)
    simpa using this
  subst hl
  subst hlm
  clear hA0 hval0 hS hsized
  have b0 := bounds_i64 w0
  have b1 := bounds_i64 w1
  refine (forgets_any I x0 x1 a2 cap2 rs am capm ms W ⟨b0.1, b0.2⟩ ⟨b1.1, b1.2⟩ (by unfold maxLen at hmx; omega) hmm hev hmv (door_tab hL)).mono fun e W' ⟨he, bel⟩ => ?_
  subst he
  exact ⟨_, rfl, _, _, _, [], _, [], hW', trodAll_mk1 (shut_bool Tryd.underlying4 _), (trodAll_cons_mk (shut_int Tryd.underlying3 w0) (trodAll_cons_mk (shut_int Tryd.underlying3 w1) (trodAll_cons_mk (Below.trod door_laidOut (by kernel_rfl) (of_decide_eq_true (by kernel_rfl)) k2 bel lt2) (trodAll_cons_mk (Below.trod door_laidOut (by kernel_rfl) (of_decide_eq_true (by kernel_rfl)) km bel ltm) trodAll_mk0)))), rfl, bel.frame _, fun h => by cases h⟩

theorem forgets_row {CJ : CJT} (I : JobIface CJ) : Rows.ForgetsSaid :=
  OpenClaim.holds_of_wide 4 Tryd.f4 rfl rfl rfl rfl rfl rfl rfl ⟨rfl, rfl, rfl, rfl, rfl⟩ rfl rfl rfl rfl rfl (by kernel_rfl) Tryd.func4 (by kernel_rfl)
    (of_decide_eq_true (by kernel_rfl)) (by unfold Func.isWrapper; first | (rw [if_pos (by decide +kernel)]; kernel_rfl) | (rw [if_neg (by decide +kernel)]; exact ⟨rfl, rfl⟩))
    (fun os started H enc _ => forgets_lifted I os started H enc)

theorem forgets_card {CJ : CJT} (I : JobIface CJ) : Rows.ForgetsCardSaid :=
  Claim7.holds_tied_plain_at .later [] [.data, .data, .data] true Rows.forgetsCard.stood.harness false
    (forgets_row I) (fun _ h => by cases h) (by kernel_rfl) (fun _ h => by cases h) forgets_row_tie rfl ⟨rfl, rfl⟩ (by kernel_rfl) rfl
    (fun f fn hf hfn => by
      obtain rfl : f = 4 := Option.some.inj ((show Tryd.prog.funcNamed Rows.forgetsRow.func = some 4 by kernel_rfl).symm.trans hf) |>.symm
      obtain rfl : fn = Tryd.f4 := (Option.some.inj (Tryd.func4.symm.trans hfn)).symm
      exact ⟨by kernel_rfl, fun j t ht => by
        rw [Tryd.params4] at ht
        have hm : t ∈ [3, 3, 22, 23] := by simpa using Array.mem_of_getElem? ht
        have hall : ([3, 3, 22, 23].all fun u => !Tryd.prog.wantsStandIn u) = true := by kernel_rfl
        exact (show Tryd.prog.wantsStandIn t = false by simpa using List.all_eq_true.1 hall t hm)⟩)
    (by kernel_rfl)

end Go.Proofs.YthccpacmklhejabDoor

namespace Go.Proofs.YthccpacmklhejabDoor

theorem forgets_holds : Rows.ForgetsCardSaid := forgets_card job_iface
#print axioms forgets_holds
end Go.Proofs.YthccpacmklhejabDoor
