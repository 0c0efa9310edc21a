/-
  Several texts in one.
-/
import Derived.Test.YthccpacmklhejabDoorK13
namespace Go.Proofs.YthccpacmklhejabDoor.Al
open Go.RowKit

structure JobCalls (CJ : CJT) : Prop where
  lt : ∀ {X w jb j}, CJ X w jb j → ∀ g, X g → g < w.heap.size
  frm : ∀ {X w jb j}, CJ X w jb j → ∀ {Z : Nat → Prop} {w' : World}, FrmX Z w w' → (∀ g, X g → ¬ Z g) → CJ X w' jb j
  good : ∀ {X w jb j}, CJ X w jb j → Good2 j ∧ (1 ≤ j.width ∧ j.width ≤ 4) ∧ j.events.length ≤ 400
  step : ∀ {X w jb j}, CJ X w jb j → ∀ t : Int, -9223372036854775808 ≤ t → t ≤ 9223372036854775807 →
    Calls Tryd.prog 14 #[.pointer (some ⟨jb, 0, none⟩), .int .i64 t] w fun en w' => en = .returned (.int .i64 ((j.step t).1 : Int)) ∧ After CJ X w jb (j.step t).2 w'
  trigger : ∀ {X w jb j}, CJ X w jb j → j.number < 4611686018427387904 →
    Calls Tryd.prog 15 #[.pointer (some ⟨jb, 0, none⟩)] w fun en w' => en = .returned (.tuple #[.int .i64 (j.trigger.1 : Int), .int .i64 (j.trigger.2.1 : Int)]) ∧ After CJ X w jb j.trigger.2.2 w'
  fail : ∀ {X w jb j}, CJ X w jb j →
    Calls Tryd.prog 11 #[.pointer (some ⟨jb, 0, none⟩)] w fun en w' => en = .returned (.tuple #[]) ∧ After CJ X w jb j.fail w'
  queue : ∀ {X w jb j}, CJ X w jb j → ∀ t : Int, -9223372036854775808 ≤ t → t ≤ 9223372036854775807 →
    Calls Tryd.prog 20 #[.pointer (some ⟨jb, 0, none⟩), .int .i64 t] w fun en w' => ∃ v, en = .returned (.tuple #[v, .int .i64 ((j.queue t).2 : Int)]) ∧ w'.ownsRow w.heap.size 3 1 v (j.queue t).1.length ((j.queue t).1.map (Value.int .i64)) ∧ Below w.heap.size w w'
  offset : ∀ {X w jb j}, CJ X w jb j →
    Calls Tryd.prog 10 #[.pointer (some ⟨jb, 0, none⟩)] w fun en w' => en = .returned (.int .i64 (j.base : Int)) ∧ Below w.heap.size w w'
  view : ∀ {X w jb j}, CJ X w jb j → Tab w →
    Calls Tryd.prog 8 #[.pointer (some ⟨jb, 0, none⟩)] w fun en w' => en = .returned (.string ⟨(foldB (j.events.take j.base)).toArray⟩) ∧ Below w.heap.size w w'

theorem After.of_below {CJ : CJT} (I : JobCalls CJ) {X : Nat → Prop} {w w' : World} {jb : Nat} {j : JobM} (h : CJ X w jb j) (hb : Below w.heap.size w w') : CJ X w' jb j := I.frm h (FrmX.of_below (X := fun _ => False) hb) fun _ _ h => h

/-- A run: its own block, its job. -/
structure RunAt (CJ : CJT) (B xb jb : Nat) (j : JobM) (log : ByteArray) (shown : Nat) (w : World) : Prop where
  job : ∃ X, CJ X w jb j ∧ ¬ X xb ∧ ∀ g, X g → B ≤ g
  box : w.heap[xb]? = some (.cells #[.pointer (some ⟨jb, 0, none⟩), .int .i64 (j.width : Int), .string log, .int .i64 (j.events.length : Int), .int .i64 (shown : Int)] 32 (0, 0))
  ge : B ≤ xb

section
variable {CJ : CJT} {B xb jb : Nat} {j j' : JobM} {log : ByteArray} {shown : Nat} {w w' : World}

theorem RunAt.old (I : JobCalls CJ) (h : RunAt CJ B xb jb j log shown w) (hb : Below w.heap.size w w') : RunAt CJ B xb jb j log shown w' := by
  obtain ⟨X, hX, hx, hB⟩ := h.job
  exact ⟨⟨X, After.of_below I hX hb, hx, hB⟩, (hb.block _ (heap_lt h.box)).trans h.box, h.ge⟩

theorem RunAt.drewN (I : JobCalls CJ) (h : RunAt CJ B xb jb j log shown w) (n : Nat) : RunAt CJ B xb jb j log shown (w.drewN n) := h.old I (below_drewN (Below.refl _ _) n)

/-- Behind a call on its job. -/
theorem RunAt.after (h : RunAt CJ B xb jb j log shown w) (hs : SameJ j j') (ha : ∀ X, CJ X w jb j → ¬ X xb → (∀ g, X g → B ≤ g) → After CJ X w jb j' w') : RunAt CJ B xb jb j' log shown w' ∧ Below B w w' := by
  obtain ⟨X, hX, hx, hB⟩ := h.job
  obtain ⟨X', h1, h2, h3⟩ := ha X hX hx hB
  have hxl := heap_lt h.box
  have hBw : B ≤ w.heap.size := Nat.le_trans h.ge (Nat.le_of_lt hxl)
  refine ⟨⟨⟨X', h1, fun hc => ?_, fun g hg => ?_⟩, ?_, h.ge⟩, h2.below hBw hB⟩
  · rcases h3 xb hc with h4 | h4
    · exact hx h4
    · omega
  · rcases h3 g hg with h4 | h4
    · exact hB g h4
    · omega
  · rw [hs.width, hs.events]
    exact h2.block h.box hx

theorem RunAt.width (I : JobCalls CJ) (h : RunAt CJ B xb jb j log shown w) : Good2 j ∧ (1 ≤ j.width ∧ j.width ≤ 4) ∧ j.events.length ≤ 400 := by
  obtain ⟨X, hX, _⟩ := h.job
  exact I.good hX

set_option maxHeartbeats 400000 in
theorem tasks_any (I : JobCalls CJ) (h : RunAt CJ B xb jb j log shown w) :
    Calls Tryd.prog 13 #[.pointer (some ⟨xb, 0, none⟩)] w fun en w' => en = .returned (.int .i64 ((2 * j.width + 2 : Nat) : Int)) ∧ w' = w := by
  have hw := (h.width I).2.1
  have c1 : w.cell? ⟨xb, 1, none⟩ = some (.int .i64 (j.width : Int)) := row_cell h.box 1
  clear h
  generalize j.width = W at hw c1 ⊢
  go_enter Tryd.func13, Tryd.ntmps13
  go_wp2
  go_ret
  exact ⟨ret_of (congrArg (Value.int .i64) (by push_cast; rfl)), rfl⟩

end

section
variable {CJ : CJT} {B xb jb : Nat} {j j' : JobM} {log : ByteArray} {shown : Nat} {w w' : World}

theorem RunAt.step (I : JobCalls CJ) (h : RunAt CJ B xb jb j log shown w) (t : Int) (h1 : -9223372036854775808 ≤ t) (h2 : t ≤ 9223372036854775807) :
    Calls Tryd.prog 14 #[.pointer (some ⟨jb, 0, none⟩), .int .i64 t] w fun en w' => en = .returned (.int .i64 ((j.step t).1 : Int)) ∧ RunAt CJ B xb jb (j.step t).2 log shown w' ∧ Below B w w' := by
  obtain ⟨X, hX, hx, hB⟩ := h.job
  refine (I.step hX t h1 h2).mono ?_
  rintro en w' ⟨h1, X', a1, a2, a3⟩
  have h0 : RunAt CJ B xb jb j log shown w := ⟨⟨X, hX, hx, hB⟩, h.box, h.ge⟩
  have hxl := heap_lt h.box
  have hBw : B ≤ w.heap.size := Nat.le_trans h.ge (Nat.le_of_lt hxl)
  refine ⟨h1, ⟨⟨X', a1, fun hc => ?_, fun g hg => ?_⟩, ?_, h.ge⟩, a2.below hBw hB⟩
  · rcases a3 xb hc with h4 | h4
    · exact hx h4
    · omega
  · rcases a3 g hg with h4 | h4
    · exact hB g h4
    · omega
  · rw [(same_step j t).width, (same_step j t).events]
    exact a2.block h.box hx

theorem RunAt.put (h : RunAt CJ B xb jb j log shown w) (hs : SameJ j j') {X : Nat → Prop} (hx : ¬ X xb) (hB : ∀ g, X g → B ≤ g) (ha : After CJ X w jb j' w') : RunAt CJ B xb jb j' log shown w' ∧ Below B w w' := by
  obtain ⟨X', a1, a2, a3⟩ := ha
  have hxl := heap_lt h.box
  have hBw : B ≤ w.heap.size := Nat.le_trans h.ge (Nat.le_of_lt hxl)
  refine ⟨⟨⟨X', a1, fun hc => ?_, fun g hg => ?_⟩, ?_, h.ge⟩, a2.below hBw hB⟩
  · rcases a3 xb hc with h4 | h4
    · exact hx h4
    · omega
  · rcases a3 g hg with h4 | h4
    · exact hB g h4
    · omega
  · rw [hs.width, hs.events]
    exact a2.block h.box hx

theorem RunAt.trigger (I : JobCalls CJ) (h : RunAt CJ B xb jb j log shown w) (hn : j.number < 4611686018427387904) :
    Calls Tryd.prog 15 #[.pointer (some ⟨jb, 0, none⟩)] w fun en w' => en = .returned (.tuple #[.int .i64 (j.trigger.1 : Int), .int .i64 (j.trigger.2.1 : Int)]) ∧ RunAt CJ B xb jb j.trigger.2.2 log shown w' ∧ Below B w w' := by
  obtain ⟨X, hX, hx, hB⟩ := h.job
  refine (I.trigger hX hn).mono ?_
  rintro en w' ⟨h1, ha⟩
  exact ⟨h1, h.put (same_trigger j) hx hB ha⟩

theorem RunAt.fail (I : JobCalls CJ) (h : RunAt CJ B xb jb j log shown w) :
    Calls Tryd.prog 11 #[.pointer (some ⟨jb, 0, none⟩)] w fun en w' => en = .returned (.tuple #[]) ∧ RunAt CJ B xb jb j.fail log shown w' ∧ Below B w w' := by
  obtain ⟨X, hX, hx, hB⟩ := h.job
  refine (I.fail hX).mono ?_
  rintro en w' ⟨h1, ha⟩
  exact ⟨h1, h.put (same_fail j) hx hB ha⟩

theorem RunAt.cell0 (h : RunAt CJ B xb jb j log shown w) : w.cell? ⟨xb, 0, none⟩ = some (.pointer (some ⟨jb, 0, none⟩)) := row_cell h.box 0

set_option maxRecDepth 100000 in
set_option maxHeartbeats 1000000 in
theorem round_any (I : JobCalls CJ) (h : RunAt CJ B xb jb j log shown w) :
    Calls Tryd.prog 21 #[.pointer (some ⟨xb, 0, none⟩)] w fun en w' => en = .returned (.tuple #[]) ∧ RunAt CJ B xb jb j.round log shown w' ∧ Below B w w' := by
  have hw := (h.width I).2.1
  have HR := show Hid _ from h
  clear h
  obtain ⟨W, hWe⟩ : ∃ W, j.width = W := ⟨_, rfl⟩
  rw [hWe] at hw
  go_enter Tryd.func21, Tryd.ntmps21
  go_wp2
  go_loopw [2] (fun i wr => ∃ n : Nat, n ≤ 2 * W + 2 ∧ i = .int .i64 (n : Int) ∧ RunAt CJ B xb jb (j.roundTo n) log shown wr ∧ Below B w wr) (fun i _ => 2 * W + 2 - (intOf i).toNat)
  case atStart => exact ⟨0, Nat.zero_le _, rfl, HR.out, Below.refl _ _⟩
  case round =>
    obtain ⟨n, hn, rfl, hRn, hbn⟩ := hrel
    clear HR
    have HT := show Hid _ from fun (_ : Unit) => tasks_any I hRn
    rw [(same_roundTo j n).width, hWe] at HT
    have c0 := hRn.cell0
    by_cases hnl : n < 2 * W + 2
    · have hni : (n : Int) < ((2 * W + 2 : Nat) : Int) := by omega
      have HS := show Hid _ from fun (_ : Unit) => hRn.step I (n : Int) (by omega) (by omega)
      have Hb := show Hid _ from hbn
      clear hRn hbn
      generalize ((2 * W + 2 : Nat) : Int) = T at HT hni
      go_wp2_with (first
        | (go_at_call 13; refine (HT.out ()).mono ?_; rintro en w1 ⟨rfl, rfl⟩)
        | (go_at_call 14; refine (HS.out ()).mono ?_; rintro en w2 ⟨rfl, hR2, hb2⟩))
      go_roundw
      case rel => exact ⟨n + 1, by omega, by go_num, hR2, Hb.out.trans hb2⟩
      case measure => simp [intOf]; omega
    · have hnn : n = 2 * W + 2 := by omega
      have hni : ¬ (n : Int) < ((2 * W + 2 : Nat) : Int) := by omega
      have HF := show Hid (RunAt CJ B xb jb j.round log shown wr ∧ Below B w wr) from ⟨by unfold JobM.round; rw [hWe, ← hnn]; exact hRn, hbn⟩
      clear hRn hbn hnn
      generalize ((2 * W + 2 : Nat) : Int) = T at HT hni
      go_wp2_with (go_at_call 13; refine (HT.out ()).mono ?_; rintro en w1 ⟨rfl, rfl⟩)
      go_end0
      exact ⟨rfl, HF.out.1, HF.out.2⟩

set_option maxRecDepth 100000 in
set_option maxHeartbeats 2000000 in
theorem move_one (I : JobCalls CJ) (h : RunAt CJ B xb jb j log shown w) (arg : Int) (ha : In64 arg) :
    Calls Tryd.prog 6 #[.pointer (some ⟨xb, 0, none⟩), .agg #[.int .i64 1, .int .i64 arg]] w fun en w' => en = .returned (.tuple #[]) ∧ RunAt CJ B xb jb (j.step (pickN arg (2 * j.width + 2) : Int)).2 log shown w' ∧ Below B w w' := by
  have hw := (h.width I).2.1
  have hBw : B ≤ w.heap.size := Nat.le_trans h.ge (Nat.le_of_lt (heap_lt h.box))
  have hxl := heap_lt h.box
  have hRd := ((h.old I ((Below.refl _ _).alloc (Nat.le_refl _) (.cells #[.int .i64 1, .int .i64 arg] 28))).drewN I 1)
  have Hb0 := show Hid _ from (Below.refl B w).alloc hBw (.cells #[.int .i64 1, .int .i64 arg] 28)
  have hmb : (w.alloc (.cells #[.int .i64 1, .int .i64 arg] 28)).heap[w.heap.size]? = some (.cells #[.int .i64 1, .int .i64 arg] 28 (0, 0)) := heap_alloc_new w _
  have hst := same_step j (pickN arg (2 * j.width + 2) : Int)
  have HTk := show Hid _ from fun (w : World) (h : RunAt CJ B xb jb j log shown w) => tasks_any I h
  have HPk := show Hid _ from fun (w : World) => pick_any arg (2 * j.width + 2) w ha (by omega)
  have HSt := show Hid _ from fun (w : World) (h : RunAt CJ B xb jb j log shown w) => h.step I (pickN arg (2 * j.width + 2) : Int) (by omega) (by have : pickN arg (2 * j.width + 2) < 2 * j.width + 2 := Nat.mod_lt _ (by omega); omega)
  have Hsame := show Hid (∀ wx, RunAt CJ B xb jb (j.step (pickN arg (2 * j.width + 2) : Int)).2 log shown wx → wx.heap[xb]? = some (.cells #[.pointer (some ⟨jb, 0, none⟩), .int .i64 (j.width : Int), .string log, .int .i64 (j.events.length : Int), .int .i64 (shown : Int)] 32 (0, 0))) from fun wx hx => by
    have := hx.box
    rw [hst.width, hst.events] at this
    exact this
  clear hst
  generalize (j.step (pickN arg (2 * j.width + 2) : Int)).2 = j2 at HSt Hsame ⊢
  generalize ((j.step (pickN arg (2 * j.width + 2) : Int)).1 : Int) = r2 at HSt
  clear h
  go_enter Tryd.func6, Tryd.ntmps6
  have hk : (w.alloc (.cells #[.int .i64 1, .int .i64 arg] 28)).cell? ⟨w.heap.size, 0, none⟩ = some (.int .i64 1) := row_cell hmb 0
  go_wp2
  clear hk
  have hS0 : (w.alloc (.cells #[.int .i64 1, .int .i64 arg] 28)).drew.heap[xb]? = _ := hRd.box
  have hm1 : (w.alloc (.cells #[.int .i64 1, .int .i64 arg] 28)).drew.cell? ⟨w.heap.size, 1, none⟩ = some (.int .i64 arg) := row_cell hmb 1
  have hRd' : RunAt CJ B xb jb j log shown (w.alloc (.cells #[.int .i64 1, .int .i64 arg] 28)).drew := hRd
  have HR := show Hid _ from hRd'
  have Hb1 := show Hid _ from Hb0.out.drew
  clear hRd hRd' hmb Hb0
  generalize (pickN arg (2 * j.width + 2) : Int) = pk at HSt HPk
  generalize ((2 * j.width + 2 : Nat) : Int) = tk at HPk HTk
  generalize j.width = W at hS0 Hsame
  generalize j.events.length = N at hS0 Hsame
  refine wp_region_held_drew (S := fun w' : World => w'.heap[xb]? = some (.cells #[.pointer (some ⟨jb, 0, none⟩), .int .i64 (W : Int), .string log, .int .i64 (N : Int), .int .i64 (shown : Int)] 32 (0, 0))) (by kernel_rfl) hS0 (fun hH => ?_)
  generalize (w.alloc (.cells #[.int .i64 1, .int .i64 arg] 28)).drew = wd at HR Hb1 hS0 hm1 hH ⊢
  refine wpAnyH_take (i := 0) (v := (.pointer (some ⟨xb, 0, none⟩))) rfl (by kernel_rfl) (by kernel_rfl) (by kernel_rfl) (fun _ _ _ h => h) (Or.inl ⟨by rfl, by intro v hSw; clear hSw; go_simp⟩) hH ?_
  refine wpAnyH_take (i := 1) (v := (.pointer (some ⟨xb, 0, none⟩))) rfl (by kernel_rfl) (by kernel_rfl) (by kernel_rfl) (fun _ _ _ h => h) (Or.inl ⟨by rfl, by intro v hSw; clear hSw; go_simp⟩) hH ?_
  refine wpAnyH_take (i := 2) (v := (.pointer (some ⟨xb, 0, none⟩))) rfl (by kernel_rfl) (by kernel_rfl) (by kernel_rfl) (fun _ _ _ h => h) (Or.inl ⟨by rfl, by intro v hSw; clear hSw; go_simp⟩) hH ?_
  refine wpAnyH_take (i := 3) (v := (.pointer (some ⟨jb, 0, none⟩))) rfl (by kernel_rfl) (by kernel_rfl) (by kernel_rfl) (fun _ _ _ h => h) (Or.inl ⟨by rfl, by intro v hSw; have s0 : v.cell? ⟨xb, 0, none⟩ = some (.pointer (some ⟨jb, 0, none⟩)) := row_cell hSw 0; clear hSw; go_simp⟩) hH ?_
  refine wpAnyH_take (i := 4) (v := (.pointer (some ⟨w.heap.size, 1, none⟩))) rfl (by kernel_rfl) (by kernel_rfl) (by kernel_rfl) (fun _ _ _ h => h) (Or.inl ⟨by rfl, by intro v hSw; clear hSw; go_simp⟩) hH ?_
  refine wpAnyH_take (i := 6) (v := (.pointer (some ⟨xb, 0, none⟩))) rfl (by kernel_rfl) (by kernel_rfl) (by kernel_rfl) (fun _ _ _ h => h) (Or.inl ⟨by rfl, by intro v hSw; clear hSw; go_simp⟩) hH ?_
  refine wpAnyH_ready (rs := [5, 7]) (by kernel_rfl) (by simp) ?_
  refine AllReadyH.cons rfl (fun K hK => ?_) (AllReadyH.cons rfl (fun K hK => ?_) AllReadyH.nil)
  focus
    clear hH
    go_simp
    refine hK.out _ _ hS0 (fun hH => ?_)
    clear hK K
    refine wpAnyH_ready (rs := [7]) (by kernel_rfl) (by simp) ?_
    refine AllReadyH.cons rfl (fun K hK => ?_) AllReadyH.nil
    clear hH
    go_simp
    go_wp2_with (go_at_call 13; refine (HTk.out _ HR.out).mono ?_; rintro en w1 ⟨rfl, rfl⟩)
    refine hK.out _ _ hS0 (fun hH => ?_)
    clear hK K HTk
  rotate_left
  focus
    clear hH
    go_simp
    go_wp2_with (go_at_call 13; refine (HTk.out _ HR.out).mono ?_; rintro en w1 ⟨rfl, rfl⟩)
    refine hK.out _ _ hS0 (fun hH => ?_)
    clear hK K HTk
    refine wpAnyH_ready (rs := [5]) (by kernel_rfl) (by simp) ?_
    refine AllReadyH.cons rfl (fun K hK => ?_) AllReadyH.nil
    clear hH
    go_simp
    refine hK.out _ _ hS0 (fun hH => ?_)
    clear hK K
  all_goals
    refine wpAnyH_ready (rs := [8]) (by kernel_rfl) (by simp) ?_
    refine AllReadyH.cons rfl (fun K hK => ?_) AllReadyH.nil
    clear hH
    go_simp
    go_wp2_with (go_at_call 18; refine (HPk.out _).mono ?_; rintro en w2 ⟨rfl, rfl⟩)
    refine hK.out _ _ hS0 (fun hH => ?_)
    clear hK K HPk
    refine wpAnyH_ready (rs := [9]) (by kernel_rfl) (by simp) ?_
    refine AllReadyH.cons rfl (fun K hK => ?_) AllReadyH.nil
    clear hH
    go_simp
    go_wp2_with (go_at_call 14; refine (HSt.out _ HR.out).mono ?_; rintro en w3 ⟨rfl, hR3, hb3⟩)
    refine hK.out _ _ (Hsame.out w3 hR3) (fun hH => ?_)
    clear hK K hH
    refine wpAnyH_done (by kernel_rfl) ?_ _
    go_wp2
    go_end0
    exact ⟨rfl, hR3, Hb1.out.trans hb3⟩

set_option maxRecDepth 100000 in
set_option maxHeartbeats 2000000 in
theorem move_any (I : JobCalls CJ) (h : RunAt CJ B xb jb j log shown w) (kind arg : Int) (ha : In64 arg) (hn : j.number < 4611686018427387904) :
    Calls Tryd.prog 6 #[.pointer (some ⟨xb, 0, none⟩), .agg #[.int .i64 kind, .int .i64 arg]] w fun en w' => en = .returned (.tuple #[]) ∧ RunAt CJ B xb jb (j.moveM kind arg) log shown w' ∧ Below B w w' := by
  unfold JobM.moveM
  by_cases h1 : kind = 1
  · subst h1
    rw [if_pos rfl]
    exact move_one I h arg ha
  · rw [if_neg h1]
    have hBw : B ≤ w.heap.size := Nat.le_trans h.ge (Nat.le_of_lt (heap_lt h.box))
    have hRa := h.old I ((Below.refl _ _).alloc (Nat.le_refl _) (.cells #[.int .i64 kind, .int .i64 arg] 28))
    have hba := (Below.refl B w).alloc hBw (.cells #[.int .i64 kind, .int .i64 arg] 28)
    have hk : (w.alloc (.cells #[.int .i64 kind, .int .i64 arg] 28)).cell? ⟨w.heap.size, 0, none⟩ = some (.int .i64 kind) := row_cell (heap_alloc_new w _) 0
    have c0 := hRa.cell0
    have HR := show Hid (_ ∧ _) from And.intro hRa hba
    clear hRa hba h
    have e1 : (kind == 1) = false := by rw [beq_eq_false_iff_ne]; exact h1
    by_cases h2 : kind = 2
    · subst h2
      rw [if_pos rfl]
      have HT := show Hid _ from fun (_ : Unit) => HR.out.1.trigger I hn
      generalize (j.trigger.1 : Int) = r1 at HT
      generalize (j.trigger.2.1 : Int) = r2 at HT
      generalize j.trigger.2.2 = j2 at HT ⊢
      go_enter Tryd.func6, Tryd.ntmps6
      go_wp2_with (go_at_call 15; refine (HT.out ()).mono ?_; rintro en w2 ⟨rfl, hR2, hb2⟩)
      go_end0
      exact ⟨rfl, hR2, HR.out.2.trans hb2⟩
    · rw [if_neg h2]
      have e2 : (kind == 2) = false := by rw [beq_eq_false_iff_ne]; exact h2
      by_cases h3 : kind = 3
      · subst h3
        rw [if_pos rfl]
        have HT := show Hid _ from fun (_ : Unit) => HR.out.1.fail I
        generalize j.fail = j2 at HT ⊢
        go_enter Tryd.func6, Tryd.ntmps6
        go_wp2_with (go_at_call 11; refine (HT.out ()).mono ?_; rintro en w2 ⟨rfl, hR2, hb2⟩)
        go_end0
        exact ⟨rfl, hR2, HR.out.2.trans hb2⟩
      · rw [if_neg h3]
        have e3 : (kind == 3) = false := by rw [beq_eq_false_iff_ne]; exact h3
        by_cases h5 : kind = 5
        · subst h5
          rw [if_pos rfl]
          have HT := show Hid _ from fun (_ : Unit) => round_any I HR.out.1
          generalize j.round = j2 at HT ⊢
          go_enter Tryd.func6, Tryd.ntmps6
          go_wp2_with (go_at_call 21; refine (HT.out ()).mono ?_; rintro en w2 ⟨rfl, hR2, hb2⟩)
          go_end0
          exact ⟨rfl, hR2, HR.out.2.trans hb2⟩
        · rw [if_neg h5]
          have e5 : (kind == 5) = false := by rw [beq_eq_false_iff_ne]; exact h5
          go_enter Tryd.func6, Tryd.ntmps6
          go_wp2
          go_end0
          exact ⟨rfl, HR.out.1, HR.out.2⟩

set_option maxRecDepth 100000 in
set_option maxHeartbeats 2000000 in
theorem exact_any (I : JobCalls CJ) (h : RunAt CJ B xb jb j log shown w) (ht : Tab w) (hl : log.size ≤ 400) (m : Nat) (hp : Parsed log j.events m) (hs : shown ≤ j.base) :
    Calls Tryd.prog 16 #[.pointer (some ⟨xb, 0, none⟩)] w fun en w' => en = .returned (.bool true) ∧ RunAt CJ B xb jb j log j.base w' ∧ Below B w w' := by
  have hf := ((h.width I).1).1
  have hbn : j.base ≤ j.events.length := Nat.le_trans hf.base hf.sent
  have hBx := h.ge
  have hxl := heap_lt h.box
  have hBw : B ≤ w.heap.size := Nat.le_trans h.ge (Nat.le_of_lt hxl)
  have HO := show Hid _ from fun (w : World) (h : RunAt CJ B xb jb j log shown w) => (show Calls Tryd.prog 10 #[.pointer (some ⟨jb, 0, none⟩)] w fun en w' => en = .returned (.int .i64 (j.base : Int)) ∧ RunAt CJ B xb jb j log shown w' ∧ Below w.heap.size w w' from by
    obtain ⟨X, hX, _, _⟩ := h.job
    exact (I.offset hX).mono fun en w' ⟨h1, h2⟩ => ⟨h1, h.old I h2, h2⟩)
  have HV := show Hid _ from fun (w : World) (h : RunAt CJ B xb jb j log shown w) (ht : Tab w) => (show Calls Tryd.prog 8 #[.pointer (some ⟨jb, 0, none⟩)] w fun en w' => en = .returned (.string ⟨(foldB (j.events.take j.base)).toArray⟩) ∧ RunAt CJ B xb jb j log shown w' ∧ Below w.heap.size w w' from by
    obtain ⟨X, hX, _, _⟩ := h.job
    exact (I.view hX ht).mono fun en w' ⟨h1, h2⟩ => ⟨h1, h.old I h2, h2⟩)
  have HF := show Hid _ from fun (w : World) (h : RunAt CJ B xb jb j log shown w) (ht : Tab w) => (show Calls Tryd.prog 28 #[.string log, .int .i64 (j.base : Int)] w fun en w' => en = .returned (.tuple #[.string ⟨(foldB (j.events.take j.base)).toArray⟩, .int .i64 0]) ∧ RunAt CJ B xb jb j log shown w' ∧ Below w.heap.size w w' from
    (cfold_of (fold_ok log j.base w hl j.events m hp hbn ht)).mono fun en w' ⟨h1, h2⟩ => ⟨h1, h.old I h2, h2⟩)
  have HR := show Hid (_ ∧ _) from And.intro h ht
  have c0 := h.cell0
  clear h ht hp
  have hsi : (shown : Int) ≤ (j.base : Int) := by omega
  have hbi : (j.base : Int) ≤ (j.events.length : Int) := by omega
  have Hset : Hid (∀ wx, RunAt CJ B xb jb j log shown wx → RunAt CJ B xb jb j log j.base (wx.setCell ⟨xb, 4, none⟩ (.int .i64 (j.base : Int))) ∧ Below B wx (wx.setCell ⟨xb, 4, none⟩ (.int .i64 (j.base : Int)))) := fun wx hx => by
    obtain ⟨X, hX, hxx, hXB⟩ := hx.job
    have hfr : FrmX (fun g => g = xb) wx (wx.setCell ⟨xb, 4, none⟩ (.int .i64 (j.base : Int))) := FrmX.set (X := fun g => g = xb) (FrmX.refl _ wx) (fun _ => rfl) 4 _
    refine ⟨⟨⟨X, I.frm hX hfr (fun g hg e => hxx (e ▸ hg)), hxx, hXB⟩, ?_, hx.ge⟩, hfr.below (Nat.le_trans hx.ge (Nat.le_of_lt (heap_lt hx.box))) (fun g hg => by rw [hg]; exact hx.ge)⟩
    have := row_set (j := 4) hx.box (.int .i64 (j.base : Int))
    exact this
  generalize (⟨(foldB (j.events.take j.base)).toArray⟩ : ByteArray) = F at HV HF
  have Hbox := show Hid (∀ wx, RunAt CJ B xb jb j log shown wx → wx.heap[xb]? = some (.cells #[.pointer (some ⟨jb, 0, none⟩), .int .i64 (j.width : Int), .string log, .int .i64 (j.events.length : Int), .int .i64 (shown : Int)] 32 (0, 0))) from fun wx hx => hx.box
  generalize j.base = bs at *
  go_enter Tryd.func16, Tryd.ntmps16
  go_wp2_with fail
  refine (HO.out w HR.out.1).mono ?_
  rintro en w1 ⟨rfl, hR1, hb1⟩
  have c0' := hR1.cell0
  have HR1 := show Hid (_ ∧ _ ∧ _) from And.intro hR1 (And.intro (HR.out.2.old hb1) (hb1.mono hBw))
  clear hR1 hb1 c0
  go_wp2_with fail
  refine (HV.out w1 HR1.out.1 HR1.out.2.1).mono ?_
  rintro en w2 ⟨rfl, hR2, hb2⟩
  have c2 : w2.cell? ⟨xb, 2, none⟩ = some (.string log) := row_cell hR2.box 2
  have HR2 := show Hid (_ ∧ _ ∧ _) from And.intro hR2 (And.intro (HR1.out.2.1.old hb2) (HR1.out.2.2.trans (hb2.mono (Nat.le_trans hBw HR1.out.2.2.size))))
  clear hR2 hb2 c0'
  go_wp2_with fail
  refine (HF.out w2 HR2.out.1 HR2.out.2.1).mono ?_
  rintro en w3 ⟨rfl, hR3, hb3⟩
  have c4 : w3.cell? ⟨xb, 4, none⟩ = some (.int .i64 (shown : Int)) := row_cell (Hbox.out w3 hR3) 4
  have c3 : w3.cell? ⟨xb, 3, none⟩ = some (.int .i64 (j.events.length : Int)) := row_cell (Hbox.out w3 hR3) 3
  have z4 : w3.frozen? ⟨xb, 4, none⟩ = false := row_frozen (Hbox.out w3 hR3) 4
  have HR3 := show Hid (_ ∧ _) from And.intro (Hset.out w3 hR3) (HR2.out.2.2.trans (hb3.mono (Nat.le_trans hBw HR2.out.2.2.size)))
  clear hR3 hb3 c2 HR HR1 HR2 HO HV HF Hset Hbox
  have hFF : (F.toList == F.toList) = true := by simp
  go_wp2
  go_ret
  exact ⟨rfl, HR3.out.1.1, HR3.out.2.trans HR3.out.1.2⟩
end

set_option maxRecDepth 100000 in
set_option maxHeartbeats 1000000 in
theorem idle_any {CJ : CJT} (I : JobCalls CJ) {B xb jb : Nat} {j : JobM} {log : ByteArray} {shown : Nat} {w : World} (h : RunAt CJ B xb jb j log shown w) (hs : Still j) :
    Calls Tryd.prog 22 #[.pointer (some ⟨xb, 0, none⟩)] w fun en w' => en = .returned (.bool true) ∧ RunAt CJ B xb jb j log shown w' ∧ Below B w w' := by
  have hw := (h.width I).2.1
  have hf := (h.width I).1.1
  have HS0 := show Hid _ from fun (t : Int) (h0 : 0 ≤ t) (h1 : t ≤ 2 * (j.width : Int) + 1) => still_idle hf hs t h0 h1
  have HR := show Hid _ from h
  clear h hs hf
  obtain ⟨W, hWe⟩ : ∃ W, j.width = W := ⟨_, rfl⟩
  rw [hWe] at hw HS0
  go_enter Tryd.func22, Tryd.ntmps22
  go_wp2
  go_loopw [3] (fun i wr => ∃ n : Nat, n ≤ 2 * W + 2 ∧ i = .int .i64 (n : Int) ∧ RunAt CJ B xb jb j log shown wr ∧ Below B w wr) (fun i _ => 2 * W + 2 - (intOf i).toNat)
  case atStart => exact ⟨0, Nat.zero_le _, rfl, HR.out, Below.refl _ _⟩
  case round =>
    obtain ⟨n, hn, rfl, hRn, hbn⟩ := hrel
    clear HR
    have HT := show Hid _ from fun (_ : Unit) => tasks_any I hRn
    rw [hWe] at HT
    have c0 := hRn.cell0
    by_cases hnl : n < 2 * W + 2
    · have hni : (n : Int) < ((2 * W + 2 : Nat) : Int) := by omega
      have HS := show Hid _ from fun (_ : Unit) => hRn.step I (n : Int) (by omega) (by omega)
      rw [HS0.out (n : Int) (by omega) (by omega)] at HS
      have Hb := show Hid _ from hbn
      clear hRn hbn
      generalize ((2 * W + 2 : Nat) : Int) = T at HT hni
      go_wp2_with (first
        | (go_at_call 13; refine (HT.out ()).mono ?_; rintro en w1 ⟨rfl, rfl⟩)
        | (go_at_call 14; refine (HS.out ()).mono ?_; rintro en w2 ⟨rfl, hR2, hb2⟩))
      go_roundw
      case rel => exact ⟨n + 1, by omega, by go_num, hR2, Hb.out.trans hb2⟩
      case measure => simp [intOf]; omega
    · have hni : ¬ (n : Int) < ((2 * W + 2 : Nat) : Int) := by omega
      have HF := show Hid (_ ∧ _) from And.intro hRn hbn
      clear hRn hbn
      generalize ((2 * W + 2 : Nat) : Int) = T at HT hni
      go_wp2_with (go_at_call 13; refine (HT.out ()).mono ?_; rintro en w1 ⟨rfl, rfl⟩)
      go_ret
      exact ⟨rfl, HF.out.1, HF.out.2⟩

set_option maxRecDepth 100000 in
set_option maxHeartbeats 1500000 in
theorem ends_any {CJ : CJT} (I : JobCalls CJ) {B xb jb : Nat} {j : JobM} {log : ByteArray} {shown : Nat} {w : World} (h : RunAt CJ B xb jb j log shown w) (hB : ∀ v, Below B w v → Tab v) (hl : log.size ≤ 400) (m : Nat) (hp : Parsed log j.events m) (hs : shown ≤ j.base) (hn : j.number < 4611686018427387904) :
    Calls Tryd.prog 7 #[.pointer (some ⟨xb, 0, none⟩)] w fun en w' => en = .returned (.bool true) ∧ (∃ j', RunAt CJ B xb jb j' log j'.base w' ∧ j'.base = j.events.length ∧ SameJ j j') ∧ Below B w w' := by
  obtain ⟨hg, hw, hE⟩ := h.width I
  have HS1 := show Hid (Still (j.rounds (50 + 3 * j.events.length))) from ends_idle hg hw.2
  have hge : Good2 (j.rounds (50 + 3 * j.events.length)) := rounds_keep good2_step hg _
  have hsame := rounds_same j (50 + 3 * j.events.length)
  have HS2 := show Hid (_ ∧ _) from ends_last hge (by rw [hsame.width]; exact hw.2) HS1.out
  have hnm : (j.rounds (50 + 3 * j.events.length)).number = j.number := number_rounds _ _
  have hbr := base_rounds hg.1 (50 + 3 * j.events.length)
  have Hnum : Hid ((j.rounds (50 + 3 * j.events.length)).trigger.1 = j.number + 1) := by
    show _ = _
    unfold JobM.trigger
    rw [if_neg (by rw [HS1.out.under]; simp), hnm]
  have Hbase2 : Hid (shown ≤ ((j.rounds (50 + 3 * j.events.length)).trigger.2.2.rounds 30).base) := Nat.le_trans hs (Nat.le_trans hbr (Nat.le_trans (Nat.le_of_eq (base_trigger _).symm) (base_rounds (flow_trigger hge.1) 30)))
  have HR := show Hid _ from h
  have Hp := show Hid (_ ∧ _) from And.intro hp hB
  clear h hp hB hg hs hbr hge
  obtain ⟨N, hN⟩ : ∃ N, j.events.length = N := ⟨_, rfl⟩
  have HE := show Hid (∀ k wx, RunAt CJ B xb jb (j.rounds k) log shown wx → wx.cell? ⟨xb, 3, none⟩ = some (.int .i64 (N : Int))) from fun k wx hx => by
    have := row_cell hx.box 3
    rw [(rounds_same j k).events, hN] at this
    exact this
  rw [hN] at HS1 HS2 hnm Hnum Hbase2 hsame hE
  go_enter Tryd.func7, Tryd.ntmps7
  go_wp2
  go_loopw [3] (fun i wr => ∃ n : Nat, n ≤ 50 + 3 * N ∧ i = .int .i64 (n : Int) ∧ RunAt CJ B xb jb (j.rounds n) log shown wr ∧ Below B w wr) (fun i _ => 50 + 3 * N - (intOf i).toNat)
  case atStart => exact ⟨0, Nat.zero_le _, rfl, HR.out, Below.refl _ _⟩
  case round =>
    obtain ⟨n, hnn, rfl, hRn, hbn⟩ := hrel
    clear HR
    have c3 := HE.out n wr hRn
    by_cases hnl : n < 50 + 3 * N
    · have hni : (n : Int) < 50 + 3 * (N : Int) := by omega
      have HT := show Hid _ from fun (_ : Unit) => round_any I hRn
      have Hb := show Hid _ from hbn
      clear hRn hbn
      go_wp2_with (go_at_call 21; refine (HT.out ()).mono ?_; rintro en w2 ⟨rfl, hR2, hb2⟩)
      go_roundw
      case rel => exact ⟨n + 1, by omega, by go_num, hR2, Hb.out.trans hb2⟩
      case measure => simp [intOf]; omega
    · have hne : n = 50 + 3 * N := by omega
      have hni : ¬ (n : Int) < 50 + 3 * (N : Int) := by omega
      rw [← hne] at HS1 HS2 hnm Hnum Hbase2 hsame
      clear hne HE
      obtain ⟨j1, hj1⟩ : ∃ j1, j.rounds n = j1 := ⟨_, rfl⟩
      rw [hj1] at hRn HS1 HS2 hnm Hnum Hbase2 hsame
      have HI := show Hid _ from fun (_ : Unit) => idle_any I hRn HS1.out
      have Hb := show Hid _ from hbn
      clear hRn hbn
      go_wp2_with fail
      refine (HI.out ()).mono ?_
      rintro en w2 ⟨rfl, hR2, hb2⟩
      have c0 := hR2.cell0
      have HT := show Hid _ from fun (_ : Unit) => hR2.trigger I (by rw [hnm]; exact hn)
      rw [Hnum.out, HS2.out.2] at HT
      have hge : (1 : Int) ≤ ((j.number + 1 : Nat) : Int) := by omega
      generalize ((j.number + 1 : Nat) : Int) = nn at HT hge
      have Hb2 := show Hid _ from Hb.out.trans hb2
      clear HI hR2 hb2 Hb c3 hni
      go_wp2_with fail
      refine (HT.out ()).mono ?_
      rintro en w3 ⟨rfl, hR3, hb3⟩
      have H3 := show Hid (_ ∧ _) from And.intro hR3 (Hb2.out.trans hb3)
      have hs3 := hsame.trans (same_trigger j1)
      obtain ⟨j2, hj2⟩ : ∃ j2, j1.trigger.2.2 = j2 := ⟨_, rfl⟩
      rw [hj2] at H3 HS2 Hbase2 hs3
      have HSB := show Hid ((j2.rounds 30).base = N) from HS2.out.1.trans (by rw [hsame.events, hN])
      have Hs3 := show Hid _ from hs3
      clear HT hR3 hb3 c0 Hb2 HS2 HS1 hsame Hnum hs3
      go_wp2
      go_loopw [7] (fun i wr => ∃ n : Nat, n ≤ 30 ∧ i = .int .i64 (n : Int) ∧ RunAt CJ B xb jb (j2.rounds n) log shown wr ∧ Below B w wr) (fun i _ => 30 - (intOf i).toNat)
      case atStart => exact ⟨0, Nat.zero_le _, rfl, H3.out.1, H3.out.2⟩
      case round =>
        obtain ⟨k, hkk, rfl, hRk, hbk⟩ := hrel
        clear H3
        by_cases hkl : k < 30
        · have hki : (k : Int) < 30 := by omega
          have HT := show Hid _ from fun (_ : Unit) => round_any I hRk
          have Hb := show Hid _ from hbk
          clear hRk hbk
          go_wp2_with (go_at_call 21; refine (HT.out ()).mono ?_; rintro en w4 ⟨rfl, hR4, hb4⟩)
          go_roundw
          case rel => exact ⟨k + 1, by omega, by go_num, hR4, Hb.out.trans hb4⟩
          case measure => simp [intOf]; omega
        · have hke : k = 30 := by omega
          subst hke
          have hs4 := Hs3.out.trans (rounds_same j2 30)
          obtain ⟨j3, hj3⟩ : ∃ j3, j2.rounds 30 = j3 := ⟨_, rfl⟩
          rw [hj3] at hRk HSB Hbase2 hs4
          have c0 := hRk.cell0
          have HO := show Hid _ from fun (_ : Unit) => (show Calls Tryd.prog 10 #[.pointer (some ⟨jb, 0, none⟩)] wr fun en w' => en = .returned (.int .i64 (N : Int)) ∧ RunAt CJ B xb jb j3 log shown w' ∧ Below wr.heap.size wr w' from by
            obtain ⟨X, hX, _, _⟩ := hRk.job
            have := I.offset hX
            rw [HSB.out] at this
            exact this.mono fun en w' ⟨h1, h2⟩ => ⟨h1, hRk.old I h2, h2⟩)
          have hBw : B ≤ wr.heap.size := Nat.le_trans hRk.ge (Nat.le_of_lt (heap_lt hRk.box))
          have Hb := show Hid _ from hbk
          clear hRk hbk
          go_wp2_with fail
          refine (HO.out ()).mono ?_
          rintro en w5 ⟨rfl, hR5, hb5⟩
          have hb5' := Hb.out.trans (hb5.mono hBw)
          have HX := show Hid _ from fun (_ : Unit) => exact_any I hR5 (Hp.out.2 w5 hb5') hl m (by rw [hs4.events]; exact Hp.out.1) Hbase2.out
          have Hb5 := show Hid _ from hb5'
          clear hR5 hb5 HO hb5' Hb c0
          go_wp2_with fail
          refine (HX.out ()).mono ?_
          rintro en w6 ⟨rfl, hR6, hb6⟩
          have c3' : w6.cell? ⟨xb, 3, none⟩ = some (.int .i64 (N : Int)) := by
            have := row_cell hR6.box 3
            rw [hs4.events, hN] at this
            exact this
          have HF := show Hid ((∃ j', RunAt CJ B xb jb j' log j'.base w6 ∧ j'.base = j.events.length ∧ SameJ j j') ∧ Below B w w6) from ⟨⟨j3, hR6, by rw [HSB.out, hN], hs4⟩, Hb5.out.trans hb6⟩
          clear hR6 hb6 Hb5 HX
          clear hN hj1 hj2 hj3 hnm hn hw hE hl hs4 HSB Hbase2 Hs3 Hp hBw
          have hNN : ((N : Int) == (N : Int)) = true := by simp
          go_wp2
          go_ret
          exact ⟨rfl, HF.out.1, HF.out.2⟩

end Go.Proofs.YthccpacmklhejabDoor.Al

namespace Go.Proofs.YthccpacmklhejabDoor
open Go.RowKit

/-- The events that drawn events come to, as many as a log has room for. -/
def Det (rs : List RawV) (es : List Ev) : Prop :=
  ∃ n, es = (recEs rs false).take n ∧ n ≤ rs.length ∧ (recs es).length ≤ 380 ∧ (n = rs.length ∨ 380 < (recs ((recEs rs false).take (n + 1))).length)

theorem recs_mono (l : List Ev) {a b : Nat} (h : a ≤ b) : (recs (l.take a)).length ≤ (recs (l.take b)).length := by
  have e : l.take b = l.take a ++ (l.take b).drop a := by
    have h1 : (l.take b).take a = l.take a := by rw [List.take_take, Nat.min_eq_left h]
    rw [← h1, List.take_append_drop]
  rw [e, recs_append, List.length_append]
  omega

theorem Det.unique {rs : List RawV} {es es' : List Ev} (h : Det rs es) (h' : Det rs es') : es = es' := by
  obtain ⟨n, e1, e2, e3, e4⟩ := h
  obtain ⟨n', d1, d2, d3, d4⟩ := h'
  have key : ∀ {a b : Nat}, a < b → b ≤ rs.length → (recs ((recEs rs false).take b)).length ≤ 380 → (a = rs.length ∨ 380 < (recs ((recEs rs false).take (a + 1))).length) → False := fun {a b} h1 h2 h3 h4 => by
    rcases h4 with h4 | h4
    · omega
    · have := recs_mono (recEs rs false) (show a + 1 ≤ b by omega)
      omega
  rcases Nat.lt_trichotomy n n' with h | h | h
  · exact absurd (key h d2 (by rw [← d1]; exact d3) e4) (fun x => x)
  · rw [e1, d1, h]
  · exact absurd (key h e2 (by rw [← e1]; exact e3) d4) (fun x => x)

def RunNew2 (CJ : CJT) (rs : List RawV) (B : Nat) (W R : Nat) (en : Ending) (w' : World) : Prop :=
  ∃ (xb jb : Nat) (es : List Ev) (lg : ByteArray) (m : Nat), en = .returned (.pointer (some ⟨xb, 0, none⟩)) ∧ RunAt CJ B xb jb (newJ W R es) lg 0 w' ∧ lg.size ≤ 400 ∧ Parsed lg es m ∧ Det rs es

set_option maxRecDepth 100000 in
set_option maxHeartbeats 4000000 in
theorem run_any2 {CJ : CJT} (I : JobIface CJ) (wide room : Int) (a : Option Addr) (cap : Nat) (rs : List RawV) (tail : ByteArray) (w : World) (hw1 : In64 wide) (hw2 : In64 room) (hlen : rs.length ≤ 9223372036854775807) (htl : tail.size ≤ 9223372036854775807) (hev : IsRaws w a rs) :
    Calls Tryd.prog 5 #[.int .i64 wide, .int .i64 room, .slice a rs.length cap, .string tail] w fun en w' => RunNew2 CJ rs w.heap.size (1 + pickN wide 4) (1 + pickN room 4) en w' ∧ Below w.heap.size w w' := by
  have HE := show Hid _ from fun (_ : Unit) => encoded_any a cap rs false 380 w (by decide) hlen hev
  have HP1 := show Hid _ from fun (w : World) => pick_any wide 4 w hw1 (.inl rfl)
  have HP2 := show Hid _ from fun (w : World) => pick_any room 4 w hw2 (.inl rfl)
  have hW : pickN wide 4 < 4 := Nat.mod_lt _ (by decide)
  have hR : pickN room 4 < 4 := Nat.mod_lt _ (by decide)
  clear hev hlen hw1 hw2
  have HN := show Hid (∀ (lg : ByteArray) (es : List Ev) (m : Nat) (w : World), lg.size ≤ 400 → Parsed lg es m → Calls Tryd.prog 19 #[.agg #[.int .i64 (((1 + pickN wide 4 : Nat)) : Int), .int .i64 (((1 + pickN room 4 : Nat)) : Int)], .string lg] w fun en w' => ∃ jb X, en = .returned (.tuple #[.pointer (some ⟨jb, 0, none⟩), .int .i64 0]) ∧ CJ X w' jb (newJ (1 + pickN wide 4) (1 + pickN room 4) es) ∧ (∀ g, X g → w.heap.size ≤ g) ∧ Below w.heap.size w w') from fun lg es m w h1 h2 => I.new w (1 + pickN wide 4) (1 + pickN room 4) lg es m h1 h2 (by omega) (by omega) (by omega) (by omega)
  generalize pickN wide 4 = pw at *
  generalize pickN room 4 = pr at *
  have e1 : ((1 + pw : Nat) : Int) = 1 + (pw : Int) := by omega
  have e2 : ((1 + pr : Nat) : Int) = 1 + (pr : Int) := by omega
  rw [e1, e2] at HN
  go_enter Tryd.func5, Tryd.ntmps5
  go_wp2_with fail
  refine (HE.out ()).mono ?_
  rintro en v1 ⟨⟨n, tx, rfl, hx⟩, hb1⟩
  have hts := hx.out.2.2.1
  have hes : ((recEs rs false).take n).length = n := by rw [List.length_take]; have := hx.out.1; simp [recEs]; omega
  have hgd : ∀ e ∈ (recEs rs false).take n, Good e := fun e he => recEs_good rs false e (List.mem_of_mem_take he)
  have htx := hx.out.2.1
  have hdet : Det rs ((recEs rs false).take n) := ⟨n, rfl, hx.out.1, by rw [← htx]; exact hts, hx.out.2.2.2⟩
  generalize (recEs rs false).take n = es at hes hgd htx hdet
  have HDet := show Hid (Det rs es) from hdet
  clear hdet
  have HX := show Hid (_ ∧ _ ∧ _) from And.intro hes (And.intro hgd htx)
  have Hb1 := show Hid _ from hb1
  clear hx HE hb1 hes hgd htx
  go_wp2_with fail
  refine (HP1.out v1).mono ?_
  rintro en v2 ⟨rfl, rfl⟩
  clear HP1
  have hlg : ∀ t : ByteArray, t.size ≤ 10 → (tx ++ ⟨#[0]⟩ ++ t).size ≤ 400 ∧ ∃ m, Parsed (tx ++ ⟨#[0]⟩ ++ t) es m := fun t ht => by
    refine ⟨?_, _, parsed_zero HX.out.2.1 HX.out.2.2 t⟩
    rw [ByteArray.size_append, ByteArray.size_append]
    have : (⟨#[0]⟩ : ByteArray).size = 1 := rfl
    omega
  by_cases hc1 : 10 < tail.size
  focus
    have hc1i : (10 : Int) < (tail.size : Int) := by omega
    have hc1j : (10 : Int) ≤ (tail.size : Int) := by omega
    have hc2 : (tail.extract 0 10).size = 10 := by rw [ByteArray.size_extract]; omega
    have hc2i : (0 : Int) < ((tail.extract 0 10).size : Int) := by omega
    have HL := show Hid _ from hlg (tail.extract 0 10) (by omega)
    clear hlg
    go_wp2_with fail
    generalize tx ++ ⟨#[0]⟩ ++ tail.extract 0 10 = lg at HL ⊢
    clear hc1 hc1i hc1j hc2 hc2i htl
  rotate_left
  focus
    have hc1i : ¬ (10 : Int) < (tail.size : Int) := by omega
    by_cases hc2 : 0 < tail.size
    focus
      have hc2i : (0 : Int) < (tail.size : Int) := by omega
      have HL := show Hid _ from hlg tail (by omega)
      clear hlg
      go_wp2_with fail
      generalize tx ++ ⟨#[0]⟩ ++ tail = lg at HL ⊢
      clear hc1 hc1i hc2 hc2i htl
    rotate_left
    focus
      have hc2i : ¬ (0 : Int) < (tail.size : Int) := by omega
      have HL := show Hid (tx.size ≤ 400 ∧ ∃ m, Parsed tx es m) from ⟨by omega, _, Parsed.of_recs HX.out.2.1 HX.out.2.2⟩
      clear hlg
      go_wp2_with fail
      generalize tx = lg at HL ⊢
      clear hc1 hc1i hc2 hc2i htl
  all_goals
    refine (HP2.out _).mono ?_
    rintro en v3 ⟨rfl, rfl⟩
    obtain ⟨m, hpm⟩ := HL.out.2
    have HN2 := show Hid _ from fun (v : World) => HN.out lg es m v HL.out.1 hpm
    have HLg := show Hid (_ ∧ _) from And.intro HL.out.1 hpm
    clear hpm HL HN HP2
    go_wp2_with fail
    refine (HN2.out _).mono ?_
    rintro en v4 ⟨jb, X, rfl, hC, hXB, hb4⟩
    have HQ := show Hid _ from fun (_ : Unit) => I.queue hC 0 (by decide) (by decide)
    rw [queue0] at HQ
    have HC := show Hid (_ ∧ _ ∧ _) from And.intro hC (And.intro hXB hb4)
    clear HN2 hC hXB hb4
    go_wp2_with fail
    refine (HQ.out ()).mono ?_
    rintro en v5 ⟨q, rfl, hown, hb5⟩
    obtain ⟨qa, qc, rfl⟩ := own_shape hown
    rcases own_addr hown with ⟨_, h0⟩ | ⟨qg, rfl⟩
    · simp at h0
    have hq0 : v5.cell? ⟨qg, 0, none⟩ = some (.int .i64 (es.length : Int)) := (hown.cellAt 0 (by simp)).trans rfl
    have hnn : es.length = n := HX.out.1
    rw [hnn] at hq0
    have hb15 : Below w.heap.size w v5 := (Hb1.out.trans (HC.out.2.2.mono Hb1.out.size)).trans (hb5.mono (Nat.le_trans Hb1.out.size HC.out.2.2.size))
    have HD := show Hid (_ ∧ _ ∧ _) from And.intro (After.of_below I HC.out.1 hb5) (And.intro (fun g hg => Nat.le_trans Hb1.out.size (HC.out.2.1 g hg) : ∀ g, X g → w.heap.size ≤ g) hb15)
    clear HQ hown hb5 HC hb15 Hb1 HX
    have hne : ((n : Int) != (n : Int)) = false := by simp
    simp only [List.length_cons, List.length_nil]
    go_wp2
    go_ret
    refine ⟨⟨v5.heap.size, jb, es, lg, m, rfl, ⟨⟨X, After.of_below I HD.out.1 ((Below.refl _ _).alloc (Nat.le_refl _) _), fun h => absurd (I.lt HD.out.1 _ h) (Nat.lt_irrefl _), HD.out.2.1⟩, ?_, HD.out.2.2.size⟩, HLg.out.1, HLg.out.2, HDet.out⟩, HD.out.2.2.alloc HD.out.2.2.size _⟩
    have hw' : (((newJ (1 + pw) (1 + pr) es).width : Nat) : Int) = 1 + (pw : Int) := e1
    have hev' : (((newJ (1 + pw) (1 + pr) es).events.length : Nat) : Int) = (n : Int) := by show ((es.length : Nat) : Int) = _; omega
    rw [hw', hev']
    exact heap_alloc_new v5 _

namespace Al

/-- A run's own block. -/
def runBox (jb W : Nat) (lg : ByteArray) (n shown : Nat) : Obj := .cells #[.pointer (some ⟨jb, 0, none⟩), .int .i64 (W : Int), .string lg, .int .i64 (n : Int), .int .i64 (shown : Int)] 32 (0, 0)

/-- A job beside which a run (block yb, job jy) is kept. -/
def CJ2 (CJ : CJT) (yb jy : Nat) (j2 : JobM) (lg : ByteArray) (sh : Nat) : CJT := fun XX w jb j =>
  ∃ X Y : Nat → Prop, XX = (fun g => X g ∨ Y g ∨ g = yb) ∧ CJ X w jb j ∧ CJ Y w jy j2 ∧ w.heap[yb]? = some (runBox jy j2.width lg j2.events.length sh) ∧ ¬ Y yb ∧ ¬ X yb ∧ ∀ g, X g → ¬ Y g

section
variable {CJ : CJT} {yb jy : Nat} {j2 : JobM} {lg : ByteArray} {sh : Nat}

theorem after2 (I : JobIface CJ) {X Y : Nat → Prop} {w w' : World} {jb : Nat} {j' : JobM} (hY : CJ Y w jy j2) (hb : w.heap[yb]? = some (runBox jy j2.width lg j2.events.length sh)) (h1 : ¬ Y yb) (h2 : ¬ X yb) (h3 : ∀ g, X g → ¬ Y g) (ha : After CJ X w jb j' w') : After (CJ2 CJ yb jy j2 lg sh) (fun g => X g ∨ Y g ∨ g = yb) w jb j' w' := by
  obtain ⟨X', a1, a2, a3⟩ := ha
  have hyl := heap_lt hb
  refine ⟨fun g => X' g ∨ Y g ∨ g = yb, ⟨X', Y, rfl, a1, I.frm hY a2 (fun g hg hx => h3 g hx hg), a2.block hb h2, h1, fun hx => ?_, fun g hg hy => ?_⟩, a2.mono (fun g _ hx => .inl hx), fun g hg => ?_⟩
  · rcases a3 yb hx with h | h
    · exact h2 h
    · omega
  · rcases a3 g hg with h | h
    · exact h3 g h hy
    · have := I.lt hY g hy
      omega
  · rcases hg with h | h | h
    · exact (a3 g h).imp .inl id
    · exact .inl (.inr (.inl h))
    · exact .inl (.inr (.inr h))

theorem calls2 (I : JobIface CJ) : JobCalls (CJ2 CJ yb jy j2 lg sh) where
  lt := fun ⟨X, Y, hX, h1, h2, h3, _⟩ g hg => by
    subst hX
    rcases hg with h | h | h
    · exact I.lt h1 g h
    · exact I.lt h2 g h
    · rw [h]; exact heap_lt h3
  frm := fun ⟨X, Y, hX, h1, h2, h3, h4, h5, h6⟩ _ _ hf hz => by
    subst hX
    exact ⟨X, Y, rfl, I.frm h1 hf (fun g hg => hz g (.inl hg)), I.frm h2 hf (fun g hg => hz g (.inr (.inl hg))), hf.block h3 (hz yb (.inr (.inr rfl))), h4, h5, h6⟩
  good := fun ⟨_, _, _, h1, _⟩ => I.good h1
  step := fun ⟨X, Y, hX, h1, h2, h3, h4, h5, h6⟩ t t0 t1 => by
    subst hX
    exact (I.step h1 t t0 t1).mono fun _ _ ⟨e, ha⟩ => ⟨e, after2 I h2 h3 h4 h5 h6 ha⟩
  trigger := fun ⟨X, Y, hX, h1, h2, h3, h4, h5, h6⟩ hn => by
    subst hX
    exact (I.trigger h1 hn).mono fun _ _ ⟨e, ha⟩ => ⟨e, after2 I h2 h3 h4 h5 h6 ha⟩
  fail := fun ⟨X, Y, hX, h1, h2, h3, h4, h5, h6⟩ => by
    subst hX
    exact (I.fail h1).mono fun _ _ ⟨e, ha⟩ => ⟨e, after2 I h2 h3 h4 h5 h6 ha⟩
  queue := fun ⟨_, _, _, h1, _⟩ t t0 t1 => I.queue h1 t t0 t1
  offset := fun ⟨_, _, _, h1, _⟩ => I.offset h1
  view := fun ⟨_, _, _, h1, _⟩ ht => I.view h1 ht

/-- Who is at work, and who is kept: the other way round. -/
theorem swap2 {B xb jx : Nat} {j1 : JobM} {lg' : ByteArray} {sh' : Nat} {w : World} (h : RunAt (CJ2 CJ yb jy j2 lg sh) B xb jx j1 lg' sh' w) : RunAt (CJ2 CJ xb jx j1 lg' sh') B yb jy j2 lg sh w := by
  obtain ⟨⟨XX, ⟨X, Y, hX, h1, h2, h3, h4, h5, h6⟩, hx, hB⟩, hbox, hge⟩ := h
  subst hX
  refine ⟨⟨fun g => Y g ∨ X g ∨ g = xb, ⟨Y, X, rfl, h2, h1, hbox, fun e => hx (.inl e), fun e => hx (.inr (.inl e)), fun g a b => h6 g b a⟩, fun e => ?_, fun g hg => ?_⟩, h3, hB yb (.inr (.inr rfl))⟩
  · rcases e with e | e | e
    · exact h4 e
    · exact h5 e
    · exact hx (.inr (.inr e.symm))
  · rcases hg with h | h | h
    · exact hB g (.inr (.inl h))
    · exact hB g (.inl h)
    · rw [h]; exact hge

/-- The first run, beside the second, which was made behind it. -/
theorem start2 (I : JobIface CJ) {B B2 xb jx : Nat} {j1 : JobM} {lg1 : ByteArray} {sh1 : Nat} {w : World} (hx : YthccpacmklhejabDoor.RunAt CJ B xb jx j1 lg1 sh1 w) (hB : B ≤ B2) {v : World} (hv : Below w.heap.size w v) (hB2 : B2 = w.heap.size) (hy : YthccpacmklhejabDoor.RunAt CJ B2 yb jy j2 lg sh v) : RunAt (CJ2 CJ yb jy j2 lg sh) B xb jx j1 lg1 sh1 v := by
  obtain ⟨⟨X, x1, x2, x3⟩, xbox, xge⟩ := hx
  obtain ⟨⟨Y, y1, y2, y3⟩, ybox, yge⟩ := hy
  have xl := heap_lt xbox
  have hXl : ∀ g, X g → g < w.heap.size := I.lt x1
  refine ⟨⟨fun g => X g ∨ Y g ∨ g = yb, ⟨X, Y, rfl, YthccpacmklhejabDoor.After.of_below I x1 hv, y1, ybox, y2, fun e => ?_, fun g a b => ?_⟩, fun e => ?_, fun g hg => ?_⟩, (hv.block _ xl).trans xbox, xge⟩
  · have := hXl _ e; omega
  · have := hXl g a; have := y3 g b; omega
  · rcases e with e | e | e
    · exact x2 e
    · have := y3 _ e; omega
    · omega
  · rcases hg with h | h | h
    · exact x3 g h
    · have := y3 g h; omega
    · rw [h]; omega
end

end Al

end Go.Proofs.YthccpacmklhejabDoor

namespace Go.Proofs.YthccpacmklhejabDoor
open Go.RowKit

/-- Two runs of one log, at the n-th step of their scripts. -/
def TwoSt (CJ : CJT) (w : World) (xb jx yb jy : Nat) (lg1 lg2 : ByteArray) (W1 R1 W2 R2 : Nat) (es : List Ev) (n : Nat) (wr : World) : Prop :=
  ∃ j1 j2, Al.RunAt (Al.CJ2 CJ yb jy j2 lg2 0) w.heap.size xb jx j1 lg1 0 wr ∧ (j1.number ≤ n ∧ SameJ (newJ W1 R1 es) j1) ∧ (j2.number ≤ n ∧ SameJ (newJ W2 R2 es) j2) ∧ Below w.heap.size w wr

theorem TwoSt.one {CJ : CJT} (I : JobIface CJ) {w : World} {xb jx yb jy : Nat} {lg1 lg2 : ByteArray} {W1 R1 W2 R2 : Nat} {es : List Ev} {wr : World} {n : Nat} {j1 j2 : JobM} (h : Al.RunAt (Al.CJ2 CJ yb jy j2 lg2 0) w.heap.size xb jx j1 lg1 0 wr) (h1 : j1.number ≤ n ∧ SameJ (newJ W1 R1 es) j1) (h2 : j2.number ≤ n ∧ SameJ (newJ W2 R2 es) j2) (hb : Below w.heap.size w wr) (hn : n < 4611686018427387904) (kind arg : Int) (ha : In64 arg) :
    Calls Tryd.prog 6 #[.pointer (some ⟨xb, 0, none⟩), .agg #[.int .i64 kind, .int .i64 arg]] wr fun en w' => en = .returned (.tuple #[]) ∧ ∃ j1', Al.RunAt (Al.CJ2 CJ yb jy j2 lg2 0) w.heap.size xb jx j1' lg1 0 w' ∧ (j1'.number ≤ n + 1 ∧ SameJ (newJ W1 R1 es) j1') ∧ (j2.number ≤ n ∧ SameJ (newJ W2 R2 es) j2) ∧ Below w.heap.size w w' :=
  (Al.move_any (Al.calls2 I) h kind arg ha (by omega)).mono fun _ _ ⟨e, hR, hb'⟩ => ⟨e, _, hR, ⟨Nat.le_trans (number_move j1 kind arg) (by omega), h1.2.trans (same_move j1 kind arg)⟩, h2, hb.trans hb'⟩

theorem TwoSt.two {CJ : CJT} (I : JobIface CJ) {w : World} {xb jx yb jy : Nat} {lg1 lg2 : ByteArray} {W1 R1 W2 R2 : Nat} {es : List Ev} {wr : World} {n : Nat} {j1 j2 : JobM} (h : Al.RunAt (Al.CJ2 CJ yb jy j2 lg2 0) w.heap.size xb jx j1 lg1 0 wr) (h1 : j1.number ≤ n + 1 ∧ SameJ (newJ W1 R1 es) j1) (h2 : j2.number ≤ n ∧ SameJ (newJ W2 R2 es) j2) (hb : Below w.heap.size w wr) (hn : n < 4611686018427387904) (kind arg : Int) (ha : In64 arg) :
    Calls Tryd.prog 6 #[.pointer (some ⟨yb, 0, none⟩), .agg #[.int .i64 kind, .int .i64 arg]] wr fun en w' => en = .returned (.tuple #[]) ∧ TwoSt CJ w xb jx yb jy lg1 lg2 W1 R1 W2 R2 es (n + 1) w' :=
  (Al.move_any (Al.calls2 I) (Al.swap2 h) kind arg ha (by omega)).mono fun _ _ ⟨e, hR, hb'⟩ => ⟨e, j1, _, Al.swap2 hR, h1, ⟨Nat.le_trans (number_move j2 kind arg) (by omega), h2.2.trans (same_move j2 kind arg)⟩, hb.trans hb'⟩

set_option maxRecDepth 100000 in
set_option maxHeartbeats 4000000 in
theorem alike_any {CJ : CJT} (I : JobIface CJ) (wide1 room1 wide2 room2 : Int) (a : Option Addr) (cap : Nat) (rs : List RawV) (a1 : Option Addr) (cap1 : Nat) (ms1 : List MoveV) (a2 : Option Addr) (cap2 : Nat) (ms2 : List MoveV) (w : World) (hw1 : In64 wide1) (hw2 : In64 room1) (hw3 : In64 wide2) (hw4 : In64 room2) (hlen : rs.length ≤ 9223372036854775807) (hml1 : ms1.length ≤ 4611686018427387903) (hml2 : ms2.length ≤ 4611686018427387903) (hev : IsRaws w a rs) (hmv1 : IsMoves w a1 ms1) (hmv2 : IsMoves w a2 ms2) (ht : Tab w) (hevB : ∀ v, Below w.heap.size w v → IsRaws v a rs) :
    Calls Tryd.prog 3 #[.int .i64 wide1, .int .i64 room1, .int .i64 wide2, .int .i64 room2, .slice a rs.length cap, .slice a1 ms1.length cap1, .slice a2 ms2.length cap2] w fun en w' => en = .returned (.bool true) ∧ Below w.heap.size w w' := by
  have HRn := show Hid _ from fun (_ : Unit) => run_any2 I wide1 room1 a cap rs ⟨#[]⟩ w hw1 hw2 hlen (by decide) hev
  have HRn2 := show Hid _ from fun (v : World) (hb : Below w.heap.size w v) => run_any2 I wide2 room2 a cap rs ⟨#[]⟩ v hw3 hw4 hlen (by decide) (hevB v hb)
  have HT := show Hid (∀ v, Below w.heap.size w v → Tab v) from fun v hb => ht.old hb
  have HM1 := show Hid (IsMoves w a1 ms1) from hmv1
  have HM2 := show Hid (IsMoves w a2 ms2) from hmv2
  clear hev hlen hw1 hw2 hw3 hw4 ht hmv1 hmv2 hevB
  go_enter Tryd.func3, Tryd.ntmps3
  go_wp2_with fail
  refine (HRn.out ()).mono ?_
  rintro en v1 ⟨⟨xb, jx, es, lg1, m1, rfl, hR, hlg1, hpar1, hdet1⟩, hb1⟩
  have H1 := show Hid (_ ∧ _) from And.intro hR (And.intro hb1 (And.intro hpar1 hdet1))
  clear HRn hR hpar1 hdet1
  go_wp2_with fail
  refine (HRn2.out v1 hb1).mono ?_
  rintro en v2 ⟨⟨yb, jy, es2, lg2, m2, rfl, hR2, hlg2, hpar2, hdet2⟩, hb2⟩
  obtain rfl : es = es2 := H1.out.2.2.2.unique hdet2
  have Hpar := show Hid (Parsed lg1 es m1 ∧ Parsed lg2 es m2) from ⟨H1.out.2.2.1, hpar2⟩
  have H2 := show Hid (TwoSt CJ w xb jx yb jy lg1 lg2 (1 + pickN wide1 4) (1 + pickN room1 4) (1 + pickN wide2 4) (1 + pickN room2 4) es 0 v2) from ⟨_, _, Al.start2 I H1.out.1 H1.out.2.1.size hb2 rfl hR2, ⟨Nat.le_refl _, SameJ.refl _⟩, ⟨Nat.le_refl _, SameJ.refl _⟩, H1.out.2.1.trans (hb2.mono H1.out.2.1.size)⟩
  clear HRn2 H1 hb1 hb2 hR2 hpar2 hdet2
  go_wp2
  generalize 1 + pickN wide1 4 = W1 at H2
  generalize 1 + pickN room1 4 = R1 at H2
  generalize 1 + pickN wide2 4 = W2 at H2
  generalize 1 + pickN room2 4 = R2 at H2
  go_loopw [17] (fun i wr => ∃ (n : Nat), (n ≤ ms1.length ∨ n ≤ ms2.length) ∧ i = .int .i64 (n : Int) ∧ TwoSt CJ w xb jx yb jy lg1 lg2 W1 R1 W2 R2 es n wr) (fun i _ => ms1.length + ms2.length - (intOf i).toNat)
  case atStart => exact ⟨0, .inl (Nat.zero_le _), rfl, H2.out⟩
  case round =>
    obtain ⟨n, hn, rfl, j1, j2, hR, hj1, hj2, hbn⟩ := hrel
    clear H2
    by_cases c1 : n < ms1.length
    · have c1i : (n : Int) < (ms1.length : Int) := by omega
      have hn0 : (0 : Int) ≤ (n : Int) := by omega
      obtain ⟨hmo, hmc⟩ := HM1.out
      rcases hmc with h0 | ⟨b1, off1, rfl, hbl1, hcs1⟩
      · rw [h0] at c1; simp at c1
      obtain ⟨d0, d1⟩ := hcs1 n c1
      have hok1 := hmo _ (List.getElem_mem c1)
      have q0 := (hbn.cell (p := ⟨b1, off1 + n * 2, none⟩) hbl1).trans d0
      have q1 := (hbn.cell (p := ⟨b1, off1 + n * 2 + 1, none⟩) hbl1).trans d1
      obtain ⟨mv, hmv⟩ : ∃ mv, ms1[n]'c1 = mv := ⟨_, rfl⟩
      rw [hmv] at q0 q1 hok1
      clear hmv hcs1 hmo d0 d1
      obtain ⟨kind, arg⟩ := mv
      simp only at q0 q1
      have HMv := show Hid _ from fun (_ : Unit) => TwoSt.one I hR hj1 hj2 hbn (by omega) kind arg hok1.2
      clear hR hj1 hj2 hbn hok1
      by_cases c2 : n < ms2.length
      · have c2i : (n : Int) < (ms2.length : Int) := by omega
        obtain ⟨hmo2, hmc2⟩ := HM2.out
        rcases hmc2 with h0 | ⟨b2, off2, rfl, hbl2, hcs2⟩
        · rw [h0] at c2; simp at c2
        obtain ⟨d0, d1⟩ := hcs2 n c2
        have hok2 := hmo2 _ (List.getElem_mem c2)
        obtain ⟨mv, hmv⟩ : ∃ mv, ms2[n]'c2 = mv := ⟨_, rfl⟩
        rw [hmv] at d0 d1 hok2
        clear hmv hcs2 hmo2
        obtain ⟨kind2, arg2⟩ := mv
        simp only at d0 d1
        have Hd := show Hid (∀ v, Below w.heap.size w v → v.cell? ⟨b2, off2 + n * 2, none⟩ = some (.int .i64 kind2) ∧ v.cell? ⟨b2, off2 + n * 2 + 1, none⟩ = some (.int .i64 arg2)) from fun v hv => ⟨(hv.cell (p := ⟨b2, off2 + n * 2, none⟩) hbl2).trans d0, (hv.cell (p := ⟨b2, off2 + n * 2 + 1, none⟩) hbl2).trans d1⟩
        clear d0 d1
        go_wp2_with fail
        refine (HMv.out ()).mono ?_
        rintro en v3 ⟨rfl, j1', hR3, hk1, hk2, hb3⟩
        obtain ⟨p0, p1⟩ := Hd.out v3 hb3
        have HMv2 := show Hid _ from fun (_ : Unit) => TwoSt.two I hR3 hk1 hk2 hb3 (by omega) kind2 arg2 hok2.2
        clear HMv hR3 hk1 hk2 hb3 Hd q0 q1 hok2 HM1 HM2
        go_wp2_with (go_at_call 6; refine (HMv2.out ()).mono ?_; rintro en v4 ⟨rfl, hT4⟩)
        go_roundw
        case rel => exact ⟨n + 1, by omega, by go_num, hT4⟩
        case measure => simp [intOf]; omega
      · have c2i : ¬ (n : Int) < (ms2.length : Int) := by omega
        clear HM1 HM2
        go_wp2_with (go_at_call 6; refine (HMv.out ()).mono ?_; rintro en v3 ⟨rfl, j1', hR3, hk1, hk2, hb3⟩)
        go_roundw
        case rel => exact ⟨n + 1, by omega, by go_num, j1', j2, hR3, hk1, ⟨by omega, hk2.2⟩, hb3⟩
        case measure => simp [intOf]; omega
    · have c1i : ¬ (n : Int) < (ms1.length : Int) := by omega
      by_cases c2 : n < ms2.length
      · have c2i : (n : Int) < (ms2.length : Int) := by omega
        have hn0 : (0 : Int) ≤ (n : Int) := by omega
        obtain ⟨hmo2, hmc2⟩ := HM2.out
        rcases hmc2 with h0 | ⟨b2, off2, rfl, hbl2, hcs2⟩
        · rw [h0] at c2; simp at c2
        obtain ⟨d0, d1⟩ := hcs2 n c2
        have hok2 := hmo2 _ (List.getElem_mem c2)
        obtain ⟨mv, hmv⟩ : ∃ mv, ms2[n]'c2 = mv := ⟨_, rfl⟩
        rw [hmv] at d0 d1 hok2
        clear hmv hcs2 hmo2
        obtain ⟨kind2, arg2⟩ := mv
        simp only at d0 d1
        have p0 := (hbn.cell (p := ⟨b2, off2 + n * 2, none⟩) hbl2).trans d0
        have p1 := (hbn.cell (p := ⟨b2, off2 + n * 2 + 1, none⟩) hbl2).trans d1
        have HMv2 := show Hid _ from fun (_ : Unit) => TwoSt.two I hR ⟨by omega, hj1.2⟩ hj2 hbn (by omega) kind2 arg2 hok2.2
        clear hR hj1 hj2 hbn d0 d1 hok2 HM1 HM2
        go_wp2_with (go_at_call 6; refine (HMv2.out ()).mono ?_; rintro en v4 ⟨rfl, hT4⟩)
        go_roundw
        case rel => exact ⟨n + 1, by omega, by go_num, hT4⟩
        case measure => simp [intOf]; omega
      · have c2i : ¬ (n : Int) < (ms2.length : Int) := by omega
        have e1 : j1.events = es := hj1.2.events
        have e2 : j2.events = es := hj2.2.events
        have hnb : n ≤ 4611686018427387903 := by omega
        have HE1 := show Hid _ from fun (_ : Unit) => Al.ends_any (Al.calls2 I) hR (fun v hv => HT.out v (hbn.trans hv)) hlg1 m1 (by rw [e1]; exact Hpar.out.1) (Nat.zero_le _) (by omega)
        have Hbn := show Hid (Below w.heap.size w wr) from hbn
        have HK := show Hid (j2.number ≤ n ∧ j1.events = es ∧ j2.events = es) from ⟨hj2.1, e1, e2⟩
        clear hR hj1 hj2 hbn e1 e2 HM1 HM2 hn
        go_wp2_with fail
        refine (HE1.out ()).mono ?_
        rintro en v3 ⟨rfl, ⟨k1, hR3, hbs1, hs1⟩, hb3⟩
        have Hb3 := show Hid (Below w.heap.size w v3) from Hbn.out.trans hb3
        have HE2 := show Hid _ from fun (_ : Unit) => Al.ends_any (Al.calls2 I) (Al.swap2 hR3) (fun v hv => HT.out v (Hb3.out.trans hv)) hlg2 m2 (by rw [HK.out.2.2]; exact Hpar.out.2) (Nat.zero_le _) (by have := HK.out.1; omega)
        have Hk1 := show Hid (k1.base = es.length ∧ k1.events = es) from ⟨by rw [hbs1, HK.out.2.1], by rw [hs1.events]; exact HK.out.2.1⟩
        clear HE1 hR3 hbs1 hs1 hb3 Hbn
        go_wp2_with fail
        refine (HE2.out ()).mono ?_
        rintro en v4 ⟨rfl, ⟨k2, hR4, hbs2, hs2⟩, hb4⟩
        have Hb4 := show Hid (Below w.heap.size w v4) from Hb3.out.trans hb4
        have Hk2 := show Hid (k2.base = es.length ∧ k2.events = es) from ⟨by rw [hbs2, HK.out.2.2], by rw [hs2.events]; exact HK.out.2.2⟩
        have hR5 := Al.swap2 hR4
        have c0 := hR5.cell0
        obtain ⟨X5, hX5, _, _⟩ := hR5.job
        have HV1 := show Hid _ from fun (_ : Unit) => (Al.calls2 (yb := yb) (jy := jy) (j2 := k2) (lg := lg2) (sh := k2.base) I).view hX5 (HT.out v4 Hb4.out)
        have HR4 := show Hid _ from hR4
        rw [Hk1.out.1, Hk1.out.2, List.take_length] at HV1
        clear HE2 hbs2 hs2 hb4 Hb3 HK hX5 hR5 hR4
        generalize hFF : (⟨(foldB es).toArray⟩ : ByteArray) = FT at HV1
        go_wp2_with fail
        refine (HV1.out ()).mono ?_
        rintro en v5 ⟨rfl, hb5⟩
        have hR6 := HR4.out.old (Al.calls2 I) hb5
        have Hb5 := show Hid (Below w.heap.size w v5) from Hb4.out.trans (hb5.mono Hb4.out.size)
        have c1 := hR6.cell0
        obtain ⟨X6, hX6, _, _⟩ := hR6.job
        have HV2 := show Hid _ from fun (_ : Unit) => (Al.calls2 (yb := xb) (jy := jx) (j2 := k1) (lg := lg1) (sh := k1.base) I).view hX6 (HT.out v5 Hb5.out)
        rw [Hk2.out.1, Hk2.out.2, List.take_length, hFF] at HV2
        clear hX6 hR6 HR4 Hb4 c0 HV1 hb5
        go_wp2_with (go_at_call 8; refine (HV2.out ()).mono ?_; rintro en v6 ⟨rfl, hb6⟩)
        go_ret
        exact ⟨by simp, Hb5.out.trans (hb6.mono Hb5.out.size)⟩

end Go.Proofs.YthccpacmklhejabDoor
