/-
  Several texts in one.
-/
import Derived.Test.YthccpacmklhejabDoorK12
import Derived.Test.YthccpacmklhejabDoorK03
import Derived.ProofKit
import Derived.OpenShut
import Derived.ShutString
import Derived.ChangeOld
import Derived.Below
import Derived.Deep.Slices
import Derived.Lib.SmallJoins
import Derived.Deep.SlicePairs
import Derived.Test.YthccpacmklhejabDoorK05
namespace Go.Proofs.YthccpacmklhejabDoor
open Go.RowKit

section
variable {CJ : CJT}

theorem ListAt.new (I : JobIface CJ) {B jb : Nat} {X : Nat → Prop} {w : World} {j : JobM} (hC : CJ X w jb j) (hXB : ∀ g, X g → B ≤ g) (hB : B ≤ w.heap.size) (ls : List Int) : ListAt CJ B w.heap.size jb j ls (w.alloc (.cells (ls.map (Value.int .i64)).toArray 3)) :=
  ⟨⟨X, After.of_below I hC ((Below.refl _ _).alloc (Nat.le_refl _) _), fun h => absurd (I.lt hC _ h) (Nat.lt_irrefl _), hXB⟩, heap_alloc_new w _, hB⟩

set_option maxRecDepth 100000 in
set_option maxHeartbeats 2000000 in
theorem works_any (I : JobIface CJ) (w : World) (ht : Tab w) :
    Calls Tryd.prog 9 #[] w fun en w' => en = .returned (.bool true) ∧ Below w.heap.size w w' := by
  have HN := show Hid _ from fun (_ : Unit) => I.new w 1 1 logOne evOne 17 (by decide) one_parsed (by decide) (by decide) (by decide) (by decide)
  unfold logOne at HN
  have Ht := show Hid (Tab w) from ht
  clear ht
  go_enter Tryd.func9, Tryd.ntmps9
  go_wp2_with fail
  refine (HN.out ()).mono ?_
  rintro en v1 ⟨jb, X, rfl, hC, hXB, hb1⟩
  have HL := show Hid (_ ∧ _) from And.intro (ListAt.new I hC hXB hb1.size wksA) (hb1.alloc hb1.size (.cells (wksA.map (Value.int .i64)).toArray 3))
  have Hsz := show Hid _ from hb1.size
  clear HN hC hXB hb1
  unfold wksA at HL
  simp only [List.map_cons, List.map_nil] at HL
  go_wp2
  generalize v1.heap.size = tb at HL Hsz ⊢
  go_loopw [5] (fun i wr => ∃ n : Nat, n ≤ 6 ∧ i = .int .i64 (n : Int) ∧ ListAt CJ w.heap.size tb jb (jA n) wksA wr ∧ Below w.heap.size w wr) (fun i _ => 6 - (intOf i).toNat)
  case atStart => exact ⟨0, Nat.zero_le _, rfl, HL.out.1, HL.out.2⟩
  case round =>
    obtain ⟨n, hn, rfl, hLn, hbn⟩ := hrel
    clear HL
    by_cases hnl : n < 6
    · have hni : (n : Int) < 6 := by omega
      have hn0 : (0 : Int) ≤ (n : Int) := by omega
      have hbd : ∀ i : Fin 6, 0 ≤ wksA[i.val]'i.isLt ∧ wksA[i.val]'i.isLt ≤ 3 := by decide
      have hb0 := hbd ⟨n, hnl⟩
      have hok := jA_ok ⟨n, hnl⟩
      have hsu := jA_succ n hnl
      have cn := hLn.cell n hnl
      have HS := show Hid _ from fun (_ : Unit) => hLn.step I (wksA[n]'hnl) (by simp only at hb0; omega) (by simp only at hb0; omega)
      simp only at hok
      rw [hok, ← hsu] at HS
      have Hb := show Hid _ from hbn
      clear hLn hbn hbd hb0 hok hsu
      generalize wksA[n]'hnl = t at cn HS
      go_wp2_with (go_at_call 14; refine (HS.out ()).mono ?_; rintro en v2 ⟨rfl, hL2, hb2⟩)
      go_roundw
      case rel => exact ⟨n + 1, by omega, by go_num, hL2, Hb.out.trans hb2⟩
      case measure => simp [intOf]; omega
    · have hnn : n = 6 := by omega
      subst hnn
      obtain ⟨X, hX, _, hXB⟩ := hLn.job
      have hnum := jA_num
      have HT := show Hid _ from fun (_ : Unit) => I.trigger hX (by rw [hnum.1]; decide)
      rw [hnum.2.1, hnum.2.2] at HT
      have Hb := show Hid (_ ∧ _) from And.intro hbn hXB
      clear hX hLn hbn hnum hXB
      go_wp2_with fail
      refine (HT.out ()).mono ?_
      rintro en v3 ⟨rfl, X', hC3, hF3, hr3⟩
      have hb3 : Below w.heap.size wr v3 := hF3.below Hb.out.1.size Hb.out.2
      have hXB3 : ∀ g, X' g → w.heap.size ≤ g := fun g hg => by
        rcases hr3 g hg with h | h
        · exact Hb.out.2 g h
        · exact Nat.le_trans Hb.out.1.size h
      have hbw := Hb.out.1.trans hb3
      have HL := show Hid (_ ∧ _) from And.intro (ListAt.new I hC3 hXB3 hbw.size wksB) (hbw.alloc hbw.size (.cells (wksB.map (Value.int .i64)).toArray 3))
      clear HT hC3 hF3 hr3 hb3 hXB3 hbw Hb
      unfold wksB at HL
      simp only [List.map_cons, List.map_nil] at HL
      go_wp2
      generalize v3.heap.size = ub at HL ⊢
      go_loopw [9] (fun i wr => ∃ n : Nat, n ≤ 5 ∧ i = .int .i64 (n : Int) ∧ ListAt CJ w.heap.size ub jb (jB n) wksB wr ∧ Below w.heap.size w wr) (fun i _ => 5 - (intOf i).toNat)
      case atStart => exact ⟨0, Nat.zero_le _, rfl, HL.out.1, HL.out.2⟩
      case round =>
        obtain ⟨n, hn, rfl, hLn, hbn⟩ := hrel
        clear HL
        by_cases hnl : n < 5
        · have hni : (n : Int) < 5 := by omega
          have hn0 : (0 : Int) ≤ (n : Int) := by omega
          have hbd : ∀ i : Fin 5, 0 ≤ wksB[i.val]'i.isLt ∧ wksB[i.val]'i.isLt ≤ 3 := by decide
          have hb0 := hbd ⟨n, hnl⟩
          have hok := jB_ok ⟨n, hnl⟩
          have hsu := jB_succ n hnl
          have cn := hLn.cell n hnl
          have HS := show Hid _ from fun (_ : Unit) => hLn.step I (wksB[n]'hnl) (by simp only at hb0; omega) (by simp only at hb0; omega)
          simp only at hok
          rw [hok, ← hsu] at HS
          have Hb := show Hid _ from hbn
          clear hLn hbn hbd hb0 hok hsu
          generalize wksB[n]'hnl = t at cn HS
          go_wp2_with (go_at_call 14; refine (HS.out ()).mono ?_; rintro en v2 ⟨rfl, hL2, hb2⟩)
          go_roundw
          case rel => exact ⟨n + 1, by omega, by go_num, hL2, Hb.out.trans hb2⟩
          case measure => simp [intOf]; omega
        · have hnn : n = 5 := by omega
          subst hnn
          obtain ⟨X5, hX5, _, hXB5⟩ := hLn.job
          have HO := show Hid _ from fun (_ : Unit) => I.offset hX5
          have HV := show Hid _ from fun (v : World) (hb : Below wr.heap.size wr v) (htv : Tab v) => I.view (After.of_below I hX5 hb) htv
          rw [jB_base] at HO HV
          rw [jB_events, show evOne.take 2 = evOne from rfl, one_fold] at HV
          have Hb := show Hid _ from hbn
          clear hLn hbn hX5 hXB5
          go_wp2_with fail
          refine (HO.out ()).mono ?_
          rintro en v5 ⟨rfl, hb5⟩
          go_wp2_with fail
          refine (HV.out v5 hb5 (Ht.out.old (Hb.out.trans (hb5.mono Hb.out.size)))).mono ?_
          rintro en v6 ⟨rfl, hb6⟩
          have Hb6 := show Hid _ from (Hb.out.trans (hb5.mono Hb.out.size)).trans (hb6.mono (Nat.le_trans Hb.out.size hb5.size))
          clear hb5 hb6 HO HV
          go_wp2
          go_ret
          exact ⟨rfl, Hb6.out⟩

set_option maxRecDepth 100000 in
set_option maxHeartbeats 1000000 in
theorem idle_any (I : JobIface CJ) {B xb jb : Nat} {j : JobM} {log : ByteArray} {shown : Nat} {w : World} (h : RunAt CJ B xb jb j log shown w) (hs : Still j) :
    Calls Tryd.prog 22 #[.pointer (some ⟨xb, 0, none⟩)] w fun en w' => en = .returned (.bool true) ∧ RunAt CJ B xb jb j log shown w' ∧ Below B w w' := by
  have hw := (h.width I).2.1
  have hf := (h.width I).1.1
  have HS0 := show Hid _ from fun (t : Int) (h0 : 0 ≤ t) (h1 : t ≤ 2 * (j.width : Int) + 1) => still_idle hf hs t h0 h1
  have HR := show Hid _ from h
  clear h hs hf
  obtain ⟨W, hWe⟩ : ∃ W, j.width = W := ⟨_, rfl⟩
  rw [hWe] at hw HS0
  go_enter Tryd.func22, Tryd.ntmps22
  go_wp2
  go_loopw [3] (fun i wr => ∃ n : Nat, n ≤ 2 * W + 2 ∧ i = .int .i64 (n : Int) ∧ RunAt CJ B xb jb j log shown wr ∧ Below B w wr) (fun i _ => 2 * W + 2 - (intOf i).toNat)
  case atStart => exact ⟨0, Nat.zero_le _, rfl, HR.out, Below.refl _ _⟩
  case round =>
    obtain ⟨n, hn, rfl, hRn, hbn⟩ := hrel
    clear HR
    have HT := show Hid _ from fun (_ : Unit) => tasks_any I hRn
    rw [hWe] at HT
    have c0 := hRn.cell0
    by_cases hnl : n < 2 * W + 2
    · have hni : (n : Int) < ((2 * W + 2 : Nat) : Int) := by omega
      have HS := show Hid _ from fun (_ : Unit) => hRn.step I (n : Int) (by omega) (by omega)
      rw [HS0.out (n : Int) (by omega) (by omega)] at HS
      have Hb := show Hid _ from hbn
      clear hRn hbn
      generalize ((2 * W + 2 : Nat) : Int) = T at HT hni
      go_wp2_with (first
        | (go_at_call 13; refine (HT.out ()).mono ?_; rintro en w1 ⟨rfl, rfl⟩)
        | (go_at_call 14; refine (HS.out ()).mono ?_; rintro en w2 ⟨rfl, hR2, hb2⟩))
      go_roundw
      case rel => exact ⟨n + 1, by omega, by go_num, hR2, Hb.out.trans hb2⟩
      case measure => simp [intOf]; omega
    · have hni : ¬ (n : Int) < ((2 * W + 2 : Nat) : Int) := by omega
      have HF := show Hid (_ ∧ _) from And.intro hRn hbn
      clear hRn hbn
      generalize ((2 * W + 2 : Nat) : Int) = T at HT hni
      go_wp2_with (go_at_call 13; refine (HT.out ()).mono ?_; rintro en w1 ⟨rfl, rfl⟩)
      go_ret
      exact ⟨rfl, HF.out.1, HF.out.2⟩

end

end Go.Proofs.YthccpacmklhejabDoor

namespace Go.Proofs.YthccpacmklhejabDoor
open Go.RowKit

/-- What run gives: a run of a new job, of a log whose events are those. -/
def RunNew (CJ : CJT) (B : Nat) (W R : Nat) (en : Ending) (w' : World) : Prop :=
  ∃ (xb jb : Nat) (es : List Ev) (lg : ByteArray) (m : Nat), en = .returned (.pointer (some ⟨xb, 0, none⟩)) ∧ RunAt CJ B xb jb (newJ W R es) lg 0 w' ∧ lg.size ≤ 400 ∧ Parsed lg es m

theorem queue0 (W R : Nat) (es : List Ev) : (newJ W R es).queue 0 = ([(es.length : Int)], 0) := by
  unfold JobM.queue
  rw [if_neg (by omega), if_pos rfl]
  simp [newJ]

set_option maxRecDepth 100000 in
set_option maxHeartbeats 4000000 in
theorem run_any {CJ : CJT} (I : JobIface CJ) (wide room : Int) (a : Option Addr) (cap : Nat) (rs : List RawV) (tail : ByteArray) (w : World) (hw1 : In64 wide) (hw2 : In64 room) (hlen : rs.length ≤ 9223372036854775807) (htl : tail.size ≤ 9223372036854775807) (hev : IsRaws w a rs) :
    Calls Tryd.prog 5 #[.int .i64 wide, .int .i64 room, .slice a rs.length cap, .string tail] w fun en w' => RunNew CJ w.heap.size (1 + pickN wide 4) (1 + pickN room 4) en w' ∧ Below w.heap.size w w' := by
  have HE := show Hid _ from fun (_ : Unit) => encoded_any a cap rs false 380 w (by decide) hlen hev
  have HP1 := show Hid _ from fun (w : World) => pick_any wide 4 w hw1 (.inl rfl)
  have HP2 := show Hid _ from fun (w : World) => pick_any room 4 w hw2 (.inl rfl)
  have hW : pickN wide 4 < 4 := Nat.mod_lt _ (by decide)
  have hR : pickN room 4 < 4 := Nat.mod_lt _ (by decide)
  clear hev hlen hw1 hw2
  have HN := show Hid (∀ (lg : ByteArray) (es : List Ev) (m : Nat) (w : World), lg.size ≤ 400 → Parsed lg es m → Calls Tryd.prog 19 #[.agg #[.int .i64 (((1 + pickN wide 4 : Nat)) : Int), .int .i64 (((1 + pickN room 4 : Nat)) : Int)], .string lg] w fun en w' => ∃ jb X, en = .returned (.tuple #[.pointer (some ⟨jb, 0, none⟩), .int .i64 0]) ∧ CJ X w' jb (newJ (1 + pickN wide 4) (1 + pickN room 4) es) ∧ (∀ g, X g → w.heap.size ≤ g) ∧ Below w.heap.size w w') from fun lg es m w h1 h2 => I.new w (1 + pickN wide 4) (1 + pickN room 4) lg es m h1 h2 (by omega) (by omega) (by omega) (by omega)
  generalize pickN wide 4 = pw at *
  generalize pickN room 4 = pr at *
  have e1 : ((1 + pw : Nat) : Int) = 1 + (pw : Int) := by omega
  have e2 : ((1 + pr : Nat) : Int) = 1 + (pr : Int) := by omega
  rw [e1, e2] at HN
  go_enter Tryd.func5, Tryd.ntmps5
  go_wp2_with fail
  refine (HE.out ()).mono ?_
  rintro en v1 ⟨⟨n, tx, rfl, hx⟩, hb1⟩
  have hts := hx.out.2.2.1
  have hes : ((recEs rs false).take n).length = n := by rw [List.length_take]; have := hx.out.1; simp [recEs]; omega
  have hgd : ∀ e ∈ (recEs rs false).take n, Good e := fun e he => recEs_good rs false e (List.mem_of_mem_take he)
  have htx := hx.out.2.1
  generalize (recEs rs false).take n = es at hes hgd htx
  have HX := show Hid (_ ∧ _ ∧ _) from And.intro hes (And.intro hgd htx)
  have Hb1 := show Hid _ from hb1
  clear hx HE hb1 hes hgd htx
  go_wp2_with fail
  refine (HP1.out v1).mono ?_
  rintro en v2 ⟨rfl, rfl⟩
  clear HP1
  have hlg : ∀ t : ByteArray, t.size ≤ 10 → (tx ++ ⟨#[0]⟩ ++ t).size ≤ 400 ∧ ∃ m, Parsed (tx ++ ⟨#[0]⟩ ++ t) es m := fun t ht => by
    refine ⟨?_, _, parsed_zero HX.out.2.1 HX.out.2.2 t⟩
    rw [ByteArray.size_append, ByteArray.size_append]
    have : (⟨#[0]⟩ : ByteArray).size = 1 := rfl
    omega
  by_cases hc1 : 10 < tail.size
  focus
    have hc1i : (10 : Int) < (tail.size : Int) := by omega
    have hc1j : (10 : Int) ≤ (tail.size : Int) := by omega
    have hc2 : (tail.extract 0 10).size = 10 := by rw [ByteArray.size_extract]; omega
    have hc2i : (0 : Int) < ((tail.extract 0 10).size : Int) := by omega
    have HL := show Hid _ from hlg (tail.extract 0 10) (by omega)
    clear hlg
    go_wp2_with fail
    generalize tx ++ ⟨#[0]⟩ ++ tail.extract 0 10 = lg at HL ⊢
    clear hc1 hc1i hc1j hc2 hc2i htl
  rotate_left
  focus
    have hc1i : ¬ (10 : Int) < (tail.size : Int) := by omega
    by_cases hc2 : 0 < tail.size
    focus
      have hc2i : (0 : Int) < (tail.size : Int) := by omega
      have HL := show Hid _ from hlg tail (by omega)
      clear hlg
      go_wp2_with fail
      generalize tx ++ ⟨#[0]⟩ ++ tail = lg at HL ⊢
      clear hc1 hc1i hc2 hc2i htl
    rotate_left
    focus
      have hc2i : ¬ (0 : Int) < (tail.size : Int) := by omega
      have HL := show Hid (tx.size ≤ 400 ∧ ∃ m, Parsed tx es m) from ⟨by omega, _, Parsed.of_recs HX.out.2.1 HX.out.2.2⟩
      clear hlg
      go_wp2_with fail
      generalize tx = lg at HL ⊢
      clear hc1 hc1i hc2 hc2i htl
  all_goals
    refine (HP2.out _).mono ?_
    rintro en v3 ⟨rfl, rfl⟩
    obtain ⟨m, hpm⟩ := HL.out.2
    have HN2 := show Hid _ from fun (v : World) => HN.out lg es m v HL.out.1 hpm
    have HLg := show Hid (_ ∧ _) from And.intro HL.out.1 hpm
    clear hpm HL HN HP2
    go_wp2_with fail
    refine (HN2.out _).mono ?_
    rintro en v4 ⟨jb, X, rfl, hC, hXB, hb4⟩
    have HQ := show Hid _ from fun (_ : Unit) => I.queue hC 0 (by decide) (by decide)
    rw [queue0] at HQ
    have HC := show Hid (_ ∧ _ ∧ _) from And.intro hC (And.intro hXB hb4)
    clear HN2 hC hXB hb4
    go_wp2_with fail
    refine (HQ.out ()).mono ?_
    rintro en v5 ⟨q, rfl, hown, hb5⟩
    obtain ⟨qa, qc, rfl⟩ := own_shape hown
    rcases own_addr hown with ⟨_, h0⟩ | ⟨qg, rfl⟩
    · simp at h0
    have hq0 : v5.cell? ⟨qg, 0, none⟩ = some (.int .i64 (es.length : Int)) := (hown.cellAt 0 (by simp)).trans rfl
    have hnn : es.length = n := HX.out.1
    rw [hnn] at hq0
    have hb15 : Below w.heap.size w v5 := (Hb1.out.trans (HC.out.2.2.mono Hb1.out.size)).trans (hb5.mono (Nat.le_trans Hb1.out.size HC.out.2.2.size))
    have HD := show Hid (_ ∧ _ ∧ _) from And.intro (After.of_below I HC.out.1 hb5) (And.intro (fun g hg => Nat.le_trans Hb1.out.size (HC.out.2.1 g hg) : ∀ g, X g → w.heap.size ≤ g) hb15)
    clear HQ hown hb5 HC hb15 Hb1 HX
    have hne : ((n : Int) != (n : Int)) = false := by simp
    simp only [List.length_cons, List.length_nil]
    go_wp2
    go_ret
    refine ⟨⟨v5.heap.size, jb, es, lg, m, rfl, ⟨⟨X, After.of_below I HD.out.1 ((Below.refl _ _).alloc (Nat.le_refl _) _), fun h => absurd (I.lt HD.out.1 _ h) (Nat.lt_irrefl _), HD.out.2.1⟩, ?_, HD.out.2.2.size⟩, HLg.out.1, HLg.out.2⟩, HD.out.2.2.alloc HD.out.2.2.size _⟩
    have hw' : (((newJ (1 + pw) (1 + pr) es).width : Nat) : Int) = 1 + (pw : Int) := e1
    have hev' : (((newJ (1 + pw) (1 + pr) es).events.length : Nat) : Int) = (n : Int) := by show ((es.length : Nat) : Int) = _; omega
    rw [hw', hev']
    exact heap_alloc_new v5 _

theorem rounds_same (j : JobM) : ∀ n, SameJ j (j.rounds n)
  | 0 => SameJ.refl j
  | n + 1 => (rounds_same j n).trans (same_roundTo _ _)
theorem number_rounds (j : JobM) : ∀ n, (j.rounds n).number = j.number
  | 0 => rfl
  | n + 1 => (number_roundTo _ _).trans (number_rounds j n)
theorem base_rounds {j : JobM} (hf : FlowOk j) : ∀ n, j.base ≤ (j.rounds n).base
  | 0 => Nat.le_refl _
  | n + 1 => Nat.le_trans (base_rounds hf n) (base_roundTo (rounds_keep (P := FlowOk) (fun _ t h => flow_step h t) hf n) _)

set_option maxRecDepth 100000 in
set_option maxHeartbeats 1500000 in
theorem ends_any {CJ : CJT} (I : JobIface CJ) {B xb jb : Nat} {j : JobM} {log : ByteArray} {shown : Nat} {w : World} (h : RunAt CJ B xb jb j log shown w) (hB : ∀ v, Below B w v → Tab v) (hl : log.size ≤ 400) (m : Nat) (hp : Parsed log j.events m) (hs : shown ≤ j.base) (hn : j.number < 4611686018427387904) :
    Calls Tryd.prog 7 #[.pointer (some ⟨xb, 0, none⟩)] w fun en w' => en = .returned (.bool true) ∧ (∃ j', RunAt CJ B xb jb j' log j'.base w' ∧ j'.base = j.events.length ∧ SameJ j j') ∧ Below B w w' := by
  obtain ⟨hg, hw, hE⟩ := h.width I
  have HS1 := show Hid (Still (j.rounds (50 + 3 * j.events.length))) from ends_idle hg hw.2
  have hge : Good2 (j.rounds (50 + 3 * j.events.length)) := rounds_keep good2_step hg _
  have hsame := rounds_same j (50 + 3 * j.events.length)
  have HS2 := show Hid (_ ∧ _) from ends_last hge (by rw [hsame.width]; exact hw.2) HS1.out
  have hnm : (j.rounds (50 + 3 * j.events.length)).number = j.number := number_rounds _ _
  have hbr := base_rounds hg.1 (50 + 3 * j.events.length)
  have Hnum : Hid ((j.rounds (50 + 3 * j.events.length)).trigger.1 = j.number + 1) := by
    show _ = _
    unfold JobM.trigger
    rw [if_neg (by rw [HS1.out.under]; simp), hnm]
  have Hbase2 : Hid (shown ≤ ((j.rounds (50 + 3 * j.events.length)).trigger.2.2.rounds 30).base) := Nat.le_trans hs (Nat.le_trans hbr (Nat.le_trans (Nat.le_of_eq (base_trigger _).symm) (base_rounds (flow_trigger hge.1) 30)))
  have HR := show Hid _ from h
  have Hp := show Hid (_ ∧ _) from And.intro hp hB
  clear h hp hB hg hs hbr hge
  obtain ⟨N, hN⟩ : ∃ N, j.events.length = N := ⟨_, rfl⟩
  have HE := show Hid (∀ k wx, RunAt CJ B xb jb (j.rounds k) log shown wx → wx.cell? ⟨xb, 3, none⟩ = some (.int .i64 (N : Int))) from fun k wx hx => by
    have := row_cell hx.box 3
    rw [(rounds_same j k).events, hN] at this
    exact this
  rw [hN] at HS1 HS2 hnm Hnum Hbase2 hsame hE
  go_enter Tryd.func7, Tryd.ntmps7
  go_wp2
  go_loopw [3] (fun i wr => ∃ n : Nat, n ≤ 50 + 3 * N ∧ i = .int .i64 (n : Int) ∧ RunAt CJ B xb jb (j.rounds n) log shown wr ∧ Below B w wr) (fun i _ => 50 + 3 * N - (intOf i).toNat)
  case atStart => exact ⟨0, Nat.zero_le _, rfl, HR.out, Below.refl _ _⟩
  case round =>
    obtain ⟨n, hnn, rfl, hRn, hbn⟩ := hrel
    clear HR
    have c3 := HE.out n wr hRn
    by_cases hnl : n < 50 + 3 * N
    · have hni : (n : Int) < 50 + 3 * (N : Int) := by omega
      have HT := show Hid _ from fun (_ : Unit) => round_any I hRn
      have Hb := show Hid _ from hbn
      clear hRn hbn
      go_wp2_with (go_at_call 21; refine (HT.out ()).mono ?_; rintro en w2 ⟨rfl, hR2, hb2⟩)
      go_roundw
      case rel => exact ⟨n + 1, by omega, by go_num, hR2, Hb.out.trans hb2⟩
      case measure => simp [intOf]; omega
    · have hne : n = 50 + 3 * N := by omega
      have hni : ¬ (n : Int) < 50 + 3 * (N : Int) := by omega
      rw [← hne] at HS1 HS2 hnm Hnum Hbase2 hsame
      clear hne HE
      obtain ⟨j1, hj1⟩ : ∃ j1, j.rounds n = j1 := ⟨_, rfl⟩
      rw [hj1] at hRn HS1 HS2 hnm Hnum Hbase2 hsame
      have HI := show Hid _ from fun (_ : Unit) => idle_any I hRn HS1.out
      have Hb := show Hid _ from hbn
      clear hRn hbn
      go_wp2_with fail
      refine (HI.out ()).mono ?_
      rintro en w2 ⟨rfl, hR2, hb2⟩
      have c0 := hR2.cell0
      have HT := show Hid _ from fun (_ : Unit) => hR2.trigger I (by rw [hnm]; exact hn)
      rw [Hnum.out, HS2.out.2] at HT
      have hge : (1 : Int) ≤ ((j.number + 1 : Nat) : Int) := by omega
      generalize ((j.number + 1 : Nat) : Int) = nn at HT hge
      have Hb2 := show Hid _ from Hb.out.trans hb2
      clear HI hR2 hb2 Hb c3 hni
      go_wp2_with fail
      refine (HT.out ()).mono ?_
      rintro en w3 ⟨rfl, hR3, hb3⟩
      have H3 := show Hid (_ ∧ _) from And.intro hR3 (Hb2.out.trans hb3)
      have hs3 := hsame.trans (same_trigger j1)
      obtain ⟨j2, hj2⟩ : ∃ j2, j1.trigger.2.2 = j2 := ⟨_, rfl⟩
      rw [hj2] at H3 HS2 Hbase2 hs3
      have HSB := show Hid ((j2.rounds 30).base = N) from HS2.out.1.trans (by rw [hsame.events, hN])
      have Hs3 := show Hid _ from hs3
      clear HT hR3 hb3 c0 Hb2 HS2 HS1 hsame Hnum hs3
      go_wp2
      go_loopw [7] (fun i wr => ∃ n : Nat, n ≤ 30 ∧ i = .int .i64 (n : Int) ∧ RunAt CJ B xb jb (j2.rounds n) log shown wr ∧ Below B w wr) (fun i _ => 30 - (intOf i).toNat)
      case atStart => exact ⟨0, Nat.zero_le _, rfl, H3.out.1, H3.out.2⟩
      case round =>
        obtain ⟨k, hkk, rfl, hRk, hbk⟩ := hrel
        clear H3
        by_cases hkl : k < 30
        · have hki : (k : Int) < 30 := by omega
          have HT := show Hid _ from fun (_ : Unit) => round_any I hRk
          have Hb := show Hid _ from hbk
          clear hRk hbk
          go_wp2_with (go_at_call 21; refine (HT.out ()).mono ?_; rintro en w4 ⟨rfl, hR4, hb4⟩)
          go_roundw
          case rel => exact ⟨k + 1, by omega, by go_num, hR4, Hb.out.trans hb4⟩
          case measure => simp [intOf]; omega
        · have hke : k = 30 := by omega
          subst hke
          have hs4 := Hs3.out.trans (rounds_same j2 30)
          obtain ⟨j3, hj3⟩ : ∃ j3, j2.rounds 30 = j3 := ⟨_, rfl⟩
          rw [hj3] at hRk HSB Hbase2 hs4
          have c0 := hRk.cell0
          have HO := show Hid _ from fun (_ : Unit) => (show Calls Tryd.prog 10 #[.pointer (some ⟨jb, 0, none⟩)] wr fun en w' => en = .returned (.int .i64 (N : Int)) ∧ RunAt CJ B xb jb j3 log shown w' ∧ Below wr.heap.size wr w' from by
            obtain ⟨X, hX, _, _⟩ := hRk.job
            have := I.offset hX
            rw [HSB.out] at this
            exact this.mono fun en w' ⟨h1, h2⟩ => ⟨h1, hRk.old I h2, h2⟩)
          have hBw : B ≤ wr.heap.size := Nat.le_trans hRk.ge (Nat.le_of_lt (heap_lt hRk.box))
          have Hb := show Hid _ from hbk
          clear hRk hbk
          go_wp2_with fail
          refine (HO.out ()).mono ?_
          rintro en w5 ⟨rfl, hR5, hb5⟩
          have hb5' := Hb.out.trans (hb5.mono hBw)
          have HX := show Hid _ from fun (_ : Unit) => exact_any I hR5 (Hp.out.2 w5 hb5') hl m (by rw [hs4.events]; exact Hp.out.1) Hbase2.out
          have Hb5 := show Hid _ from hb5'
          clear hR5 hb5 HO hb5' Hb c0
          go_wp2_with fail
          refine (HX.out ()).mono ?_
          rintro en w6 ⟨rfl, hR6, hb6⟩
          have c3' : w6.cell? ⟨xb, 3, none⟩ = some (.int .i64 (N : Int)) := by
            have := row_cell hR6.box 3
            rw [hs4.events, hN] at this
            exact this
          have HF := show Hid ((∃ j', RunAt CJ B xb jb j' log j'.base w6 ∧ j'.base = j.events.length ∧ SameJ j j') ∧ Below B w w6) from ⟨⟨j3, hR6, by rw [HSB.out, hN], hs4⟩, Hb5.out.trans hb6⟩
          clear hR6 hb6 Hb5 HX
          clear hN hj1 hj2 hj3 hnm hn hw hE hl hs4 HSB Hbase2 Hs3 Hp hBw
          have hNN : ((N : Int) == (N : Int)) = true := by simp
          go_wp2
          go_ret
          exact ⟨rfl, HF.out.1, HF.out.2⟩

end Go.Proofs.YthccpacmklhejabDoor

namespace Go.Proofs.YthccpacmklhejabDoor
open Go.RowKit

structure MoveV where
  kind : Int
  arg : Int

def MoveV.ok (m : MoveV) : Prop := In64 m.kind ∧ In64 m.arg

/-- A script of moves that came in. -/
def IsMoves (w : World) (a : Option Addr) (ms : List MoveV) : Prop :=
  (∀ m ∈ ms, m.ok) ∧ (ms = [] ∨ ∃ b off, a = some ⟨b, off, none⟩ ∧ b < w.heap.size ∧ ∀ k (h : k < ms.length),
    w.cell? ⟨b, off + k * 2, none⟩ = some (.int .i64 (ms[k]).kind) ∧ w.cell? ⟨b, off + k * 2 + 1, none⟩ = some (.int .i64 (ms[k]).arg))

end Go.Proofs.YthccpacmklhejabDoor

namespace Go.Proofs.YthccpacmklhejabDoor
open Go.ChangeShapes Go.WideShapes Go.ChangeAt Go.RowKit Go.Deep

theorem Tryd.cellsEv : Tryd.prog.cellsOf 71 = 4 := by kernel_rfl
theorem Tryd.cellsU8 : Tryd.prog.cellsOf 5 = 1 := by kernel_rfl
theorem Tryd.cellsStr : Tryd.prog.cellsOf 9 = 1 := by kernel_rfl
theorem Tryd.cellsU16 : Tryd.prog.cellsOf 68 = 1 := by kernel_rfl
theorem Tryd.cellsI16 : Tryd.prog.cellsOf 69 = 1 := by kernel_rfl

theorem list4 {α : Type} : ∀ {l : List α}, l.length = 4 → ∃ a b c d, l = [a, b, c, d]
  | [a, b, c, d], _ => ⟨a, b, c, d, rfl⟩

theorem trod_four {H : Type} {enc : TypeId × Value → H} {P : Program} {w : World} {base : Nat} {spare : Nat → Bool} {held : Bool} {fuel : Nat} {t : TypeId} {f0 f1 f2 f3 : Field} {c0 c1 c2 c3 : Value} {x : DataW H × List MemPlace}
    (hs : P.underlying t = some (.struct #[f0, f1, f2, f3])) (hone : oneCellFields P #[f0, f1, f2, f3] = true) (h : DataW.trod enc P w base spare held fuel t [c0, c1, c2, c3] = some x) :
    ∃ y0 y1 y2 y3 n, DataW.trod enc P w base spare held n f0.type [c0] = some y0 ∧ DataW.trod enc P w base spare held n f1.type [c1] = some y1 ∧ DataW.trod enc P w base spare held n f2.type [c2] = some y2 ∧ DataW.trod enc P w base spare held n f3.type [c3] = some y3 := by
  obtain ⟨y0, y1, y2, y3, n, _, _, h0, h1, h2, h3⟩ := Joins.trod_struct4 hs h
  obtain ⟨o0, k0⟩ := hone_of hone 0 f0 rfl
  obtain ⟨o1, k1⟩ := hone_of hone 1 f1 rfl
  obtain ⟨o2, k2⟩ := hone_of hone 2 f2 rfl
  obtain ⟨o3, k3⟩ := hone_of hone 3 f3 rfl
  exact ⟨y0, y1, y2, y3, n, by simpa [o0, k0] using h0, by simpa [o1, k1] using h1, by simpa [o2, k2] using h2, by simpa [o3, k3] using h3⟩

/-- An event's four cells. -/
theorem ev_of_trod {H : Type} {enc : TypeId × Value → H} {w : World} {base : Nat} {spare : Nat → Bool} {held : Bool} {fuel : Nat} {cs : List Value} {x : DataW H × List MemPlace}
    (h : DataW.trod enc Tryd.prog w base spare held fuel 71 cs = some x) : ∃ e : Ev, e.ok ∧ cs = evCells1 e := by
  obtain ⟨_, _, _, _, _, _, hl, _⟩ := Joins.trod_struct4 Tryd.underlying71 h
  rw [Tryd.cellsEv] at hl
  obtain ⟨c0, c1, c2, c3, rfl⟩ := list4 hl
  clear hl
  obtain ⟨y0, y1, y2, y3, n, t0, t1, t2, t3⟩ := trod_four Tryd.underlying71 (by kernel_rfl) h
  obtain ⟨op, e0, _, w0⟩ := DataW.trod_int Tryd.underlying5 t0
  obtain ⟨key, e1, _, _⟩ := DataW.trod_string Tryd.underlying9 t1
  obtain ⟨seq, e2, _, w2⟩ := DataW.trod_int Tryd.underlying68 t2
  obtain ⟨val, e3, _, w3⟩ := DataW.trod_int Tryd.underlying69 t3
  simp at e0 e1 e2 e3
  subst e0 e1 e2 e3
  have b0 := bounds_u8 w0
  have b2 := bounds_u16 w2
  have b3 := bounds_i16 w3
  refine ⟨⟨op.toNat, key, seq.toNat, val⟩, ⟨by simp only; omega, by simp only; omega, b3.1, b3.2⟩, ?_⟩
  simp only [evCells1]
  rw [show ((op.toNat : Nat) : Int) = op from by omega, show ((seq.toNat : Nat) : Int) = seq from by omega]

theorem evs_of_trod {H : Type} {enc : TypeId × Value → H} {w : World} {base : Nat} {spare : Nat → Bool} {held : Bool} {fuel : Nat} {a : Option Addr} {len cap : Nat} {x : DataW H × List MemPlace}
    (h : DataW.trod enc Tryd.prog w base spare held fuel 53 [.slice a len cap] = some x) : ∃ evs : List Ev, evs.length = len ∧ len ≤ maxLen ∧ IsEvs w a evs := by
  rcases Deep.open_slice Tryd.underlying53 h with ⟨hcs, _⟩ | ⟨ad, len', cap', m, n, D, Pl, hcs, hb, hl, hm, hmm, _, hel⟩
  · simp at hcs
    obtain ⟨rfl, rfl, rfl⟩ := hcs
    exact ⟨[], rfl, by decide, ⟨by simp, .inl rfl⟩⟩
  · simp at hcs
    obtain ⟨rfl, rfl, rfl⟩ := hcs
    have hle : len ≤ m := by rw [hmm]; split <;> omega
    have hex : ∀ i, i < len → ∃ e : Ev, e.ok ∧ w.cells? base (ad.add (i * 4)) 4 = some (evCells1 e) := by
      intro i hi
      obtain ⟨cs', h1, h2⟩ := hel i (by omega)
      rw [Tryd.cellsEv] at h1
      obtain ⟨e, he, rfl⟩ := ev_of_trod h2
      exact ⟨e, he, h1⟩
    obtain ⟨f, hf⟩ := @Deep.choose_lt Ev ⟨evZero⟩ len _ hex
    refine ⟨(List.range len).map f, by simp, by omega, ⟨fun e he => ?_, ?_⟩⟩
    · simp at he
      obtain ⟨i, hi, rfl⟩ := he
      exact (hf i hi).1
    · by_cases h0 : len = 0
      · left; subst h0; rfl
      · right
        obtain ⟨b, off, spot⟩ := ad
        have hc0 := (World.cells?_some (hf 0 (by omega)).2).2.2 0 (by decide)
        have hspot : spot = none := by
          have := World.cell?_spot (v := .int .u8 ((f 0).op : Int)) (by rw [hc0]; rfl)
          simpa [Addr.add] using this
        subst hspot
        have hblk : b < w.heap.size := by
          have := World.cells?_block (hf 0 (by omega)).2 (by decide)
          simpa [Addr.add] using this
        refine ⟨b, off, rfl, hblk, fun k hk => ?_⟩
        have hk' : k < len := by simpa using hk
        have hc := (World.cells?_some (hf k hk').2).2.2
        have ek : ((List.range len).map f)[k]'hk = f k := by simp
        rw [ek]
        have c0 := hc 0 (by decide)
        have c1 := hc 1 (by decide)
        have c2 := hc 2 (by decide)
        have c3 := hc 3 (by decide)
        simp only [add_plain] at c0 c1 c2 c3
        exact ⟨c0, c1, c2, c3⟩
end Go.Proofs.YthccpacmklhejabDoor

namespace Go.Proofs.YthccpacmklhejabDoor
open Go.ChangeShapes Go.WideShapes Go.ChangeAt Go.RowKit Go.Deep

theorem Tryd.cellsRaw : Tryd.prog.cellsOf 74 = 4 := by kernel_rfl

def rawCells1 (r : RawV) : List Value := [.bool r.drop, .int .i64 r.key, .int .i64 r.seq, .int .i64 r.val]

theorem raw_of_trod {H : Type} {enc : TypeId × Value → H} {w : World} {base : Nat} {spare : Nat → Bool} {held : Bool} {fuel : Nat} {cs : List Value} {x : DataW H × List MemPlace}
    (h : DataW.trod enc Tryd.prog w base spare held fuel 74 cs = some x) : ∃ e : RawV, e.ok ∧ cs = rawCells1 e := by
  obtain ⟨_, _, _, _, _, _, hl, _⟩ := Joins.trod_struct4 Tryd.underlying74 h
  rw [Tryd.cellsRaw] at hl
  obtain ⟨c0, c1, c2, c3, rfl⟩ := list4 hl
  clear hl
  obtain ⟨y0, y1, y2, y3, n, t0, t1, t2, t3⟩ := trod_four Tryd.underlying74 (by kernel_rfl) h
  obtain ⟨dr, e0, _⟩ := DataW.trod_bool Tryd.underlying4 t0
  obtain ⟨k, e1, _, w1⟩ := DataW.trod_int Tryd.underlying3 t1
  obtain ⟨q, e2, _, w2⟩ := DataW.trod_int Tryd.underlying3 t2
  obtain ⟨v, e3, _, w3⟩ := DataW.trod_int Tryd.underlying3 t3
  simp at e0 e1 e2 e3
  subst e0 e1 e2 e3
  have b1 := bounds_i64 w1
  exact ⟨⟨dr, k, q, v⟩, ⟨b1.1, b1.2⟩, rfl⟩

theorem raws_of_trod {H : Type} {enc : TypeId × Value → H} {w : World} {base : Nat} {spare : Nat → Bool} {held : Bool} {fuel : Nat} {a : Option Addr} {len cap : Nat} {x : DataW H × List MemPlace}
    (h : DataW.trod enc Tryd.prog w base spare held fuel 22 [.slice a len cap] = some x) : ∃ evs : List RawV, evs.length = len ∧ len ≤ maxLen ∧ IsRaws w a evs := by
  rcases Deep.open_slice Tryd.underlying22 h with ⟨hcs, _⟩ | ⟨ad, len', cap', m, n, D, Pl, hcs, hb, hl, hm, hmm, _, hel⟩
  · simp at hcs
    obtain ⟨rfl, rfl, rfl⟩ := hcs
    exact ⟨[], rfl, by decide, ⟨by simp, .inl rfl⟩⟩
  · simp at hcs
    obtain ⟨rfl, rfl, rfl⟩ := hcs
    have hle : len ≤ m := by rw [hmm]; split <;> omega
    have hex : ∀ i, i < len → ∃ e : RawV, e.ok ∧ w.cells? base (ad.add (i * 4)) 4 = some (rawCells1 e) := by
      intro i hi
      obtain ⟨cs', h1, h2⟩ := hel i (by omega)
      rw [Tryd.cellsRaw] at h1
      obtain ⟨e, he, rfl⟩ := raw_of_trod h2
      exact ⟨e, he, h1⟩
    obtain ⟨f, hf⟩ := @Deep.choose_lt RawV ⟨⟨false, 0, 0, 0⟩⟩ len _ hex
    refine ⟨(List.range len).map f, by simp, by omega, ⟨fun e he => ?_, ?_⟩⟩
    · simp at he
      obtain ⟨i, hi, rfl⟩ := he
      exact (hf i hi).1
    · by_cases h0 : len = 0
      · left; subst h0; rfl
      · right
        obtain ⟨b, off, spot⟩ := ad
        have hc0 := (World.cells?_some (hf 0 (by omega)).2).2.2 0 (by decide)
        have hspot : spot = none := by
          have := World.cell?_spot (v := .bool (f 0).drop) (by rw [hc0]; rfl)
          simpa [Addr.add] using this
        subst hspot
        have hblk : b < w.heap.size := by
          have := World.cells?_block (hf 0 (by omega)).2 (by decide)
          simpa [Addr.add] using this
        refine ⟨b, off, rfl, hblk, fun k hk => ?_⟩
        have hk' : k < len := by simpa using hk
        have hc := (World.cells?_some (hf k hk').2).2.2
        have ek : ((List.range len).map f)[k]'hk = f k := by simp
        rw [ek]
        have c0 := hc 0 (by decide)
        have c1 := hc 1 (by decide)
        have c2 := hc 2 (by decide)
        have c3 := hc 3 (by decide)
        simp only [add_plain] at c0 c1 c2 c3
        exact ⟨c0, c1, c2, c3⟩
end Go.Proofs.YthccpacmklhejabDoor

namespace Go.Proofs.YthccpacmklhejabDoor
open Go.ChangeShapes Go.WideShapes Go.ChangeAt Go.RowKit Go.Deep

theorem Tryd.bytesMove : Tryd.prog.bytesOf 28 = 16 := by kernel_rfl

theorem moves_of_trod {H : Type} {enc : TypeId × Value → H} {w : World} {base : Nat} {spare : Nat → Bool} {held : Bool} {fuel : Nat} {a : Option Addr} {len cap : Nat} {x : DataW H × List MemPlace}
    (h : DataW.trod enc Tryd.prog w base spare held fuel 23 [.slice a len cap] = some x) (hz : ∀ n ∈ x.1.weights Tryd.prog 23, n ≤ reachBytes) : ∃ ms : List MoveV, ms.length = len ∧ len ≤ 4611686018427387903 ∧ IsMoves w a ms := by
  have hR := reachBytes_lt
  rcases Deep.open_slice_pairs Tryd.underlying23 Tryd.underlying28 (by kernel_rfl) rfl rfl (by kernel_rfl) (by kernel_rfl) h with ⟨hcs, _⟩ | ⟨ad, len', cap', m, n, V0, V1, D0, D1, P0, P1, hcs, hb, hl, hm, hmm, hx, hel⟩
  · simp at hcs
    obtain ⟨rfl, rfl, rfl⟩ := hcs
    exact ⟨[], rfl, by decide, ⟨by simp, .inl rfl⟩⟩
  · simp at hcs
    obtain ⟨rfl, rfl, rfl⟩ := hcs
    have hle : len ≤ m := by rw [hmm]; split <;> omega
    have hlen : len ≤ 4611686018427387903 := by
      have := hz ((((List.range len).map fun i => DataW.agg [D0 i, D1 i]).length + ((List.range (m - len)).map fun j => DataW.agg [D0 (len + j), D1 (len + j)]).length) * Tryd.prog.bytesOf 28) (by rw [hx]; simp [DataW.weights, Tryd.underlying23])
      rw [Tryd.bytesMove] at this
      simp at this
      omega
    have hex : ∀ i, i < len → ∃ o : MoveV, o.ok ∧ w.cell? (ad.add (i * 2)) = some (.int .i64 o.kind) ∧ w.cell? (ad.add (i * 2 + 1)) = some (.int .i64 o.arg) := by
      intro i hi
      obtain ⟨h1, h2, h3, h4⟩ := hel i (by omega)
      obtain ⟨k, e1, _, w1⟩ := DataW.trod_int Tryd.underlying3 h3
      obtain ⟨r, e2, _, w2⟩ := DataW.trod_int Tryd.underlying3 h4
      simp at e1 e2
      rw [e1] at h1
      rw [e2] at h2
      have b1 := bounds_i64 w1
      have b2 := bounds_i64 w2
      exact ⟨⟨k, r⟩, ⟨⟨b1.1, b1.2⟩, ⟨b2.1, b2.2⟩⟩, h1, h2⟩
    obtain ⟨f, hf⟩ := @Deep.choose_lt MoveV ⟨⟨0, 0⟩⟩ len _ hex
    refine ⟨(List.range len).map f, by simp, hlen, ⟨fun o ho => ?_, ?_⟩⟩
    · simp at ho
      obtain ⟨i, hi, rfl⟩ := ho
      exact (hf i hi).1
    · by_cases h0 : len = 0
      · left; subst h0; rfl
      · right
        obtain ⟨b, off, spot⟩ := ad
        have hc0 := (hf 0 (by omega)).2.1
        have hspot : spot = none := by
          have := World.cell?_spot hc0
          simpa [Addr.add] using this
        subst hspot
        have hblk : b < w.heap.size := by
          have hc := hc0
          simp only [add_plain] at hc
          apply Classical.byContradiction
          intro hn
          have hnone : w.heap[b]? = none := Array.getElem?_eq_none (by omega)
          simp [World.cell?, hnone] at hc
        refine ⟨b, off, rfl, hblk, fun k hk => ?_⟩
        have hk' : k < len := by simpa using hk
        have ek : ((List.range len).map f)[k]'hk = f k := by simp
        rw [ek]
        obtain ⟨_, c0, c1⟩ := hf k hk'
        simp only [add_plain] at c0 c1
        exact ⟨c0, c1⟩

end Go.Proofs.YthccpacmklhejabDoor

namespace Go.Proofs.YthccpacmklhejabDoor
open Go.RowKit

/-- A row: its element's type and cells, the slice that names it, how many elements, their cells. -/
structure Rw where
  ty : TypeId
  sz : Nat
  v : Value
  n : Nat
  xs : List Value

structure Lay (w : World) (L : Nat → Rw) : Prop where
  own : ∀ c, w.ownsRow 0 (L c).ty (L c).sz (L c).v (L c).n (L c).xs
  inj : ∀ c c' g, (L c).v.ownBlock = some g → (L c').v.ownBlock = some g → c = c'

/-- The blocks. -/
def LX (L : Nat → Rw) : Nat → Prop := fun g => ∃ c, (L c).v.ownBlock = some g

/-- One cell of row p is another. -/
def setL (L : Nat → Rw) (p o : Nat) (u : Value) : Nat → Rw := fun x => if x = p then { L p with xs := (L p).xs.set o u } else L x
/-- Row c is another, and cell o of row p names it. -/
def putL (L : Nat → Rw) (p o c : Nat) (v : Value) (n : Nat) (xs : List Value) : Nat → Rw := fun x => if x = c then ⟨(L c).ty, (L c).sz, v, n, xs⟩ else if x = p then { L p with xs := (L p).xs.set o v } else L x

theorem putL_c (L : Nat → Rw) (p o c : Nat) (v : Value) (n : Nat) (xs : List Value) : putL L p o c v n xs c = ⟨(L c).ty, (L c).sz, v, n, xs⟩ := if_pos rfl
theorem putL_p {L : Nat → Rw} {p o c : Nat} {v : Value} {n : Nat} {xs : List Value} (h : p ≠ c) : putL L p o c v n xs p = { L p with xs := (L p).xs.set o v } := by unfold putL; rw [if_neg h, if_pos rfl]
theorem putL_x {L : Nat → Rw} {p o c : Nat} {v : Value} {n : Nat} {xs : List Value} {x : Nat} (h : x ≠ c) (h' : x ≠ p) : putL L p o c v n xs x = L x := by unfold putL; rw [if_neg h, if_neg h']
theorem setL_p (L : Nat → Rw) (p o : Nat) (u : Value) : setL L p o u p = { L p with xs := (L p).xs.set o u } := if_pos rfl
theorem setL_x {L : Nat → Rw} {p o : Nat} {u : Value} {x : Nat} (h : x ≠ p) : setL L p o u x = L x := if_neg h

theorem own_frmX {X : Nat → Prop} {w w' : World} {B n : Nat} {e : TypeId} {s : Nat} {v : Value} {xs : List Value} (h : w.ownsRow B e s v n xs) (hf : FrmX X w w') (hx : ∀ g, v.ownBlock = some g → ¬ X g) : w'.ownsRow B e s v n xs := by
  refine ⟨h.1, ?_⟩
  rcases h.2 with h0 | ⟨g, cap, cur, e1, e2, e3, e4⟩
  · exact .inl h0
  · exact .inr ⟨g, cap, cur, e1, e2, hf.block e3 (hx g (by rw [e1]; rfl)), e4⟩

theorem take_set_list {α : Type} (l : List α) (n o : Nat) (u : α) : (l.set o u).take n = (l.take n).set o u := List.take_set

theorem own_setc {w : World} {n cap g o : Nat} {e : TypeId} {s : Nat} {xs : List Value} {cur : Array Value} (h : w.ownsRow 0 e s (.slice (some ⟨g, 0, none⟩) n cap) n xs) (hc : w.heap[g]? = some (.cells cur e (0, 0))) {w' : World} {u : Value} (hc' : w'.heap[g]? = some (.cells (cur.setIfInBounds o u) e (0, 0))) : w'.ownsRow 0 e s (.slice (some ⟨g, 0, none⟩) n cap) n (xs.set o u) := by
  refine ⟨by rw [List.length_set]; exact h.1, ?_⟩
  rcases h.2 with ⟨h0, _⟩ | ⟨g', cap', cur', e1, e2, e3, e4, e5, e6, e7⟩
  · cases h0
  · simp only [Value.slice.injEq, Option.some.injEq, Addr.mk.injEq, and_true, true_and] at e1
    obtain ⟨rfl, rfl⟩ := e1
    rw [hc] at e3
    simp only [Option.some.injEq, Obj.cells.injEq, and_true] at e3
    subst e3
    refine .inr ⟨g, cap, cur.setIfInBounds o u, rfl, Nat.zero_le _, hc', e4, e5, by rw [Array.size_setIfInBounds]; exact e6, ?_⟩
    rw [Array.toList_setIfInBounds, take_set_list, e7]

section
variable {w w' : World} {L : Nat → Rw}

theorem Lay.below (h : Lay w L) (hb : Below w.heap.size w w') : Lay w' L := ⟨fun c => own_below (h.own c) hb, h.inj⟩
theorem Lay.drewN (h : Lay w L) (k : Nat) : Lay (w.drewN k) L := ⟨h.own, h.inj⟩
theorem Lay.drew (h : Lay w L) : Lay w.drew L := ⟨h.own, h.inj⟩
theorem Lay.lt (h : Lay w L) {g : Nat} (hg : LX L g) : g < w.heap.size := by
  obtain ⟨c, hc⟩ := hg
  exact (own_ge (h.own c) g hc).2
theorem Lay.frm {X : Nat → Prop} (h : Lay w L) (hf : FrmX X w w') (hx : ∀ g, LX L g → ¬ X g) : Lay w' L := ⟨fun c => own_frmX (h.own c) hf fun g hg => hx g ⟨c, hg⟩, h.inj⟩

/-- A row that has a cell has a block. -/
theorem Lay.block (h : Lay w L) {p o : Nat} {u : Value} (hp : (L p).xs[o]? = some u) : ∃ g cap cur, (L p).v = .slice (some ⟨g, 0, none⟩) (L p).n cap ∧ w.heap[g]? = some (.cells cur (L p).ty (0, 0)) ∧ cur[o]? = some u := by
  have hl : o < (L p).xs.length := (List.getElem?_eq_some_iff.1 hp).1
  rcases (h.own p).2 with ⟨_, h0⟩ | ⟨g, cap, cur, e1, e2, e3, e4, e5, e6, e7⟩
  · rw [(h.own p).1, h0] at hl
    omega
  · refine ⟨g, cap, cur, e1, e3, ?_⟩
    rw [← e7, List.getElem?_take_of_lt (by rw [(h.own p).1] at hl; exact hl)] at hp
    simpa using hp

theorem Lay.at (h : Lay w L) {p o g n cap : Nat} {u : Value} (hp : (L p).xs[o]? = some u) (hv : (L p).v = .slice (some ⟨g, 0, none⟩) n cap) : w.cell? ⟨g, o, none⟩ = some u ∧ w.frozen? ⟨g, o, none⟩ = false := by
  obtain ⟨g', cap', cur, e1, e2, e3⟩ := h.block hp
  rw [hv] at e1
  simp only [Value.slice.injEq, Option.some.injEq, Addr.mk.injEq, and_true] at e1
  obtain ⟨rfl, _⟩ := e1
  exact ⟨(row_cell e2 o).trans e3, row_frozen e2 o⟩

/-- Row c, told of the cell that names it. -/
theorem Lay.lat (h : Lay w L) {p o c g n cap : Nat} (hp : (L p).xs[o]? = some (L c).v) (hv : (L p).v = .slice (some ⟨g, 0, none⟩) n cap) (hne : (L p).ty ≠ (L c).ty) : ∃ cs a cp, (L c).v = .slice a (L c).n cp ∧ LAt 0 (L c).ty (L c).sz g o (L p).ty cs a (L c).n cp (L c).xs w := by
  obtain ⟨g', cap', cur, e1, e2, e3⟩ := h.block hp
  rw [hv] at e1
  simp only [Value.slice.injEq, Option.some.injEq, Addr.mk.injEq, and_true] at e1
  obtain ⟨rfl, _⟩ := e1
  obtain ⟨a, cp, hs⟩ := own_shape (h.own c)
  refine ⟨cur, a, cp, hs, e2, by rw [e3, hs], hne, ?_⟩
  rw [← hs]
  exact h.own c

/-- One cell is laid over. -/
theorem Lay.set (h : Lay w L) {p o g n cap : Nat} {u0 : Value} (hp : (L p).xs[o]? = some u0) (hv : (L p).v = .slice (some ⟨g, 0, none⟩) n cap) (u : Value) : Lay (w.setCell ⟨g, o, none⟩ u) (setL L p o u) ∧ FrmX (LX L) w (w.setCell ⟨g, o, none⟩ u) ∧ ∀ x, LX (setL L p o u) x → LX L x := by
  obtain ⟨g', cap', cur, e1, e2, e3⟩ := h.block hp
  rw [hv] at e1
  simp only [Value.slice.injEq, Option.some.injEq, Addr.mk.injEq, and_true] at e1
  obtain ⟨rfl, hn, _⟩ := e1
  subst hn
  have hv' : ∀ x, (setL L p o u x).v = (L x).v := fun x => by
    unfold setL
    split
    · rename_i e; subst e; rfl
    · rfl
  refine ⟨⟨fun c => ?_, fun c c' x h1 h2 => h.inj c c' x (by rw [← hv' c]; exact h1) (by rw [← hv' c']; exact h2)⟩, (FrmX.refl _ w).set (fun _ => ⟨p, by rw [hv]; rfl⟩) o u, fun x ⟨c, hc⟩ => ⟨c, by rw [← hv' c]; exact hc⟩⟩
  by_cases e : c = p
  · subst e
    rw [setL_p]
    have hown := h.own c
    rw [hv] at hown
    rw [show ({ L c with xs := (L c).xs.set o u } : Rw).v = .slice (some ⟨g, 0, none⟩) (L c).n cap from hv]
    exact own_setc hown e2 (row_set (j := o) e2 u)
  · rw [setL_x e]
    refine own_kept (h.own c) (grown_set w g o u) fun x hx e' => ?_
    simp only [Option.some.injEq] at e'
    subst e'
    exact e (h.inj c p g hx (by rw [hv]; rfl))

/-- Row c is another one. -/
theorem Lay.put (h : Lay w L) {p o c g n cap : Nat} (hv : (L p).v = .slice (some ⟨g, 0, none⟩) n cap) (hpc : p ≠ c) {cs : Array Value} {a : Option Addr} {cp : Nat} (hc : (L c).v = .slice a (L c).n cp) (hl : LAt 0 (L c).ty (L c).sz g o (L p).ty cs a (L c).n cp (L c).xs w) {a' : Option Addr} {n' c' : Nat} {xs' : List Value}
    (hu : Upd 0 (L c).ty (L c).sz g o (L p).ty cs a (L c).n cp w a' n' c' xs' w') : Lay w' (putL L p o c (.slice a' n' c') n' xs') ∧ FrmX (LX L) w w' ∧ ∀ x, LX (putL L p o c (.slice a' n' c') n' xs') x → LX L x ∨ w.heap.size ≤ x := by
  have hsub : ∀ x, Xs g a (L c).n cp x → LX L x := fun x hx => by
    rcases hx with rfl | hx
    · exact ⟨p, by rw [hv]; rfl⟩
    · exact ⟨c, by rw [hc]; exact hx⟩
  refine ⟨⟨fun x => ?_, fun x x' y h1 h2 => ?_⟩, hu.frm.mono fun x _ hx => hsub x hx, fun x ⟨y, hy⟩ => ?_⟩
  · by_cases e : x = c
    · subst e
      rw [putL_c]
      exact hu.at'.own
    · by_cases e' : x = p
      · subst e'
        rw [putL_p hpc]
        have hown := h.own x
        have hn : n = (L x).n := by
          obtain ⟨a1, c1, h1⟩ := own_shape hown
          rw [hv] at h1
          simp only [Value.slice.injEq] at h1
          exact h1.2.1
        subst hn
        rw [hv] at hown
        rw [show ({ L x with xs := (L x).xs.set o (.slice a' n' c') } : Rw).v = .slice (some ⟨g, 0, none⟩) (L x).n cap from hv]
        exact own_setc hown hl.box hu.at'.box
      · rw [putL_x e e']
        refine own_frmX (h.own x) hu.frm fun y hy hx => ?_
        rcases hx with rfl | hx
        · exact e' (h.inj x p y hy (by rw [hv]; rfl))
        · exact e (h.inj x c y hy (by rw [hc]; exact hx))
  · have key : ∀ z, (putL L p o c (.slice a' n' c') n' xs' z).v.ownBlock = some y → (L z).v.ownBlock = some y ∨ (z = c ∧ w.heap.size ≤ y) := fun z hz => by
      by_cases e : z = c
      · subst e
        rw [putL_c] at hz
        rcases hu.row y hz with h3 | h3
        · exact .inl (by rw [hc]; exact h3)
        · exact .inr ⟨rfl, h3⟩
      · by_cases e' : z = p
        · subst e'
          rw [putL_p hpc] at hz
          exact .inl hz
        · rw [putL_x e e'] at hz
          exact .inl hz
    rcases key x h1 with k1 | ⟨k1, k1'⟩
    · rcases key x' h2 with k2 | ⟨k2, k2'⟩
      · exact h.inj x x' y k1 k2
      · have := h.lt ⟨x, k1⟩
        omega
    · rcases key x' h2 with k2 | ⟨k2, k2'⟩
      · have := h.lt ⟨x', k2⟩
        omega
      · rw [k1, k2]
  · by_cases e : y = c
    · subst e
      rw [putL_c] at hy
      rcases hu.row x hy with h3 | h3
      · exact .inl ⟨y, by rw [hc]; exact h3⟩
      · exact .inr h3
    · by_cases e' : y = p
      · subst e'
        rw [putL_p hpc] at hy
        exact .inl ⟨y, hy⟩
      · rw [putL_x e e'] at hy
        exact .inl ⟨y, hy⟩

end

end Go.Proofs.YthccpacmklhejabDoor

namespace Go.Proofs.YthccpacmklhejabDoor
open Go.RowKit

/-- An item. -/
structure ItemV where
  bar : Bool
  e : Ev
  pt : Int
  live : Int
  sum : Int

def itCells1 (x : ItemV) : List Value := [.bool x.bar, .int .u8 (x.e.op : Int), .string x.e.key, .int .u16 (x.e.seq : Int), .int .i16 x.e.val, .int .i32 x.pt, .int .i64 x.live, .int .i16 x.sum]
def itCells (rs : List ItemV) : List Value := rs.flatMap itCells1

theorem itCells_length (rs : List ItemV) : (itCells rs).length = rs.length * 8 := by
  induction rs with
  | nil => rfl
  | cons r rs ih => simp [itCells, itCells1] at ih ⊢; omega

theorem itCells_append (rs ts : List ItemV) : itCells (rs ++ ts) = itCells rs ++ itCells ts := by simp [itCells]

theorem itCells_at : ∀ (rs : List ItemV) (k : Nat) (h : k < rs.length) (j : Nat), j < 8 → (itCells rs)[k * 8 + j]? = (itCells1 rs[k])[j]?
  | r :: rs, 0, _, j, hj => by
    simp only [itCells, List.flatMap_cons, Nat.zero_mul, Nat.zero_add, List.getElem_cons_zero]
    rw [List.getElem?_append_left (by simp [itCells1]; omega)]
  | r :: rs, k + 1, h, j, hj => by
    have ih := itCells_at rs k (by simpa using h) j hj
    simp only [itCells, List.flatMap_cons, List.getElem_cons_succ] at ih ⊢
    rw [List.getElem?_append_right (by simp [itCells1]; omega), ← ih]
    congr 1
    simp [itCells1]
    omega

theorem itCells_fill (rs : List ItemV) (n : Nat) (h : n < rs.length) (x : ItemV) : (((((((((itCells rs).set (n * 8) (.bool x.bar)).set (n * 8 + 1) (.int .u8 (x.e.op : Int))).set (n * 8 + 2) (.string x.e.key)).set (n * 8 + 3) (.int .u16 (x.e.seq : Int))).set (n * 8 + 4) (.int .i16 x.e.val)).set (n * 8 + 5) (.int .i32 x.pt)).set (n * 8 + 6) (.int .i64 x.live)).set (n * 8 + 7) (.int .i16 x.sum)) = itCells (rs.set n x) := by
  have hs : rs = rs.take n ++ rs[n] :: rs.drop (n + 1) := by rw [← List.drop_eq_getElem_cons h, List.take_append_drop]
  have hset : rs.set n x = rs.take n ++ x :: rs.drop (n + 1) := by rw [List.set_eq_take_append_cons_drop, if_pos h]
  rw [hset]
  generalize rs[n] = r at hs
  generalize hT : rs.take n = T at hs
  generalize rs.drop (n + 1) = D at hs
  have hTl : T.length = n := by rw [← hT, List.length_take]; omega
  have hlen : (itCells T).length = n * 8 := by rw [itCells_length, hTl]
  subst hs
  have hc : ∀ r' : ItemV, itCells (r' :: D) = itCells1 r' ++ itCells D := fun r' => by simp [itCells]
  rw [itCells_append, itCells_append, hc, hc]
  rw [List.set_append_right _ _ (by omega), List.set_append_right _ _ (by omega), List.set_append_right _ _ (by omega), List.set_append_right _ _ (by omega), List.set_append_right _ _ (by omega), List.set_append_right _ _ (by omega), List.set_append_right _ _ (by omega), List.set_append_right _ _ (by omega), hlen]
  rw [show n * 8 - n * 8 = 0 from by omega, show n * 8 + 1 - n * 8 = 1 from by omega, show n * 8 + 2 - n * 8 = 2 from by omega, show n * 8 + 3 - n * 8 = 3 from by omega, show n * 8 + 4 - n * 8 = 4 from by omega, show n * 8 + 5 - n * 8 = 5 from by omega, show n * 8 + 6 - n * 8 = 6 from by omega, show n * 8 + 7 - n * 8 = 7 from by omega]
  rfl

/-- The items' list. -/
abbrev PAt (B kb o : Nat) (t : TypeId) (cs : Array Value) (a : Option Addr) (c : Nat) (rs : List ItemV) (w : World) : Prop := LAt B 110 8 kb o t cs a rs.length c (itCells rs) w
abbrev PUpd (B kb o : Nat) (t : TypeId) (cs : Array Value) (a : Option Addr) (c : Nat) (rs : List ItemV) (w : World) (a' : Option Addr) (c' : Nat) (rs' : List ItemV) (w' : World) : Prop := Upd B 110 8 kb o t cs a rs.length c w a' rs'.length c' (itCells rs') w'

theorem it_row {B kb o : Nat} {t : TypeId} {cs : Array Value} {g c : Nat} {rs : List ItemV} {w : World} (h : PAt B kb o t cs (some ⟨g, 0, none⟩) c rs w) (n : Nat) (hn : n < rs.length) :
    w.cell? ⟨g, n * 8, none⟩ = some (.bool rs[n].bar) ∧ w.cell? ⟨g, n * 8 + 1, none⟩ = some (.int .u8 (rs[n].e.op : Int)) ∧ w.cell? ⟨g, n * 8 + 2, none⟩ = some (.string rs[n].e.key) ∧ w.cell? ⟨g, n * 8 + 3, none⟩ = some (.int .u16 (rs[n].e.seq : Int)) ∧ w.cell? ⟨g, n * 8 + 4, none⟩ = some (.int .i16 rs[n].e.val) ∧ w.cell? ⟨g, n * 8 + 5, none⟩ = some (.int .i32 rs[n].pt) ∧ w.cell? ⟨g, n * 8 + 6, none⟩ = some (.int .i64 rs[n].live) ∧ w.cell? ⟨g, n * 8 + 7, none⟩ = some (.int .i16 rs[n].sum) :=
  ⟨(h.at (n * 8) (by omega)).trans (itCells_at rs n hn 0 (by decide)), (h.at (n * 8 + 1) (by omega)).trans (itCells_at rs n hn 1 (by decide)), (h.at (n * 8 + 2) (by omega)).trans (itCells_at rs n hn 2 (by decide)), (h.at (n * 8 + 3) (by omega)).trans (itCells_at rs n hn 3 (by decide)), (h.at (n * 8 + 4) (by omega)).trans (itCells_at rs n hn 4 (by decide)), (h.at (n * 8 + 5) (by omega)).trans (itCells_at rs n hn 5 (by decide)), (h.at (n * 8 + 6) (by omega)).trans (itCells_at rs n hn 6 (by decide)), (h.at (n * 8 + 7) (by omega)).trans (itCells_at rs n hn 7 (by decide))⟩

/-- One item, laid over: what the walk's eight stores ask and leave. -/
theorem it_fill {B kb o : Nat} {t : TypeId} {cs : Array Value} {a : Option Addr} {c : Nat} {ks : List ItemV} {w0 : World} {g c' : Nat} {rs : List ItemV} {w : World} (h : PUpd B kb o t cs a c ks w0 (some ⟨g, 0, none⟩) c' rs w) (n : Nat) (hn : n < rs.length) (x : ItemV) (w1 w2 w3 w4 w5 w6 w7 w8 : World)
    (e1 : w1 = w.setCell ⟨g, n * 8, none⟩ (.bool x.bar)) (e2 : w2 = w1.setCell ⟨g, n * 8 + 1, none⟩ (.int .u8 (x.e.op : Int))) (e3 : w3 = w2.setCell ⟨g, n * 8 + 2, none⟩ (.string x.e.key)) (e4 : w4 = w3.setCell ⟨g, n * 8 + 3, none⟩ (.int .u16 (x.e.seq : Int))) (e5 : w5 = w4.setCell ⟨g, n * 8 + 4, none⟩ (.int .i16 x.e.val)) (e6 : w6 = w5.setCell ⟨g, n * 8 + 5, none⟩ (.int .i32 x.pt)) (e7 : w7 = w6.setCell ⟨g, n * 8 + 6, none⟩ (.int .i64 x.live)) (e8 : w8 = w7.setCell ⟨g, n * 8 + 7, none⟩ (.int .i16 x.sum)) :
    (w.cell? ⟨g, n * 8, none⟩ = some (.bool rs[n].bar) ∧ w1.cell? ⟨g, n * 8 + 1, none⟩ = some (.int .u8 (rs[n].e.op : Int)) ∧ w2.cell? ⟨g, n * 8 + 2, none⟩ = some (.string rs[n].e.key) ∧ w3.cell? ⟨g, n * 8 + 3, none⟩ = some (.int .u16 (rs[n].e.seq : Int)) ∧ w4.cell? ⟨g, n * 8 + 4, none⟩ = some (.int .i16 rs[n].e.val) ∧ w5.cell? ⟨g, n * 8 + 5, none⟩ = some (.int .i32 rs[n].pt) ∧ w6.cell? ⟨g, n * 8 + 6, none⟩ = some (.int .i64 rs[n].live) ∧ w7.cell? ⟨g, n * 8 + 7, none⟩ = some (.int .i16 rs[n].sum)) ∧
    (w.frozen? ⟨g, n * 8, none⟩ = false ∧ w1.frozen? ⟨g, n * 8 + 1, none⟩ = false ∧ w2.frozen? ⟨g, n * 8 + 2, none⟩ = false ∧ w3.frozen? ⟨g, n * 8 + 3, none⟩ = false ∧ w4.frozen? ⟨g, n * 8 + 4, none⟩ = false ∧ w5.frozen? ⟨g, n * 8 + 5, none⟩ = false ∧ w6.frozen? ⟨g, n * 8 + 6, none⟩ = false ∧ w7.frozen? ⟨g, n * 8 + 7, none⟩ = false) ∧
    PUpd B kb o t cs a c ks w0 (some ⟨g, 0, none⟩) c' (rs.set n x) w8 ∧ w.grownBy w8 (some g) := by
  subst e1 e2 e3 e4 e5 e6 e7 e8
  have hat : ∀ j, j < 8 → (itCells rs)[n * 8 + j]? = (itCells1 rs[n])[j]? := fun j hj => itCells_at rs n hn j hj
  have r0 := h
  have r1 := r0.store (n * 8) (.bool x.bar)
  have r2 := r1.store (n * 8 + 1) (.int .u8 (x.e.op : Int))
  have r3 := r2.store (n * 8 + 2) (.string x.e.key)
  have r4 := r3.store (n * 8 + 3) (.int .u16 (x.e.seq : Int))
  have r5 := r4.store (n * 8 + 4) (.int .i16 x.e.val)
  have r6 := r5.store (n * 8 + 5) (.int .i32 x.pt)
  have r7 := r6.store (n * 8 + 6) (.int .i64 x.live)
  have r8 := r7.store (n * 8 + 7) (.int .i16 x.sum)
  have q0 := (r0.at'.at (n * 8) (by omega)).trans (hat 0 (by decide))
  have q1 := (r1.at'.at (n * 8 + 1) (by omega)).trans ((List.getElem?_set_ne (by omega)).trans (hat 1 (by decide)))
  have q2 := (r2.at'.at (n * 8 + 2) (by omega)).trans ((List.getElem?_set_ne (by omega)).trans ((List.getElem?_set_ne (by omega)).trans (hat 2 (by decide))))
  have q3 := (r3.at'.at (n * 8 + 3) (by omega)).trans ((List.getElem?_set_ne (by omega)).trans ((List.getElem?_set_ne (by omega)).trans ((List.getElem?_set_ne (by omega)).trans (hat 3 (by decide)))))
  have q4 := (r4.at'.at (n * 8 + 4) (by omega)).trans ((List.getElem?_set_ne (by omega)).trans ((List.getElem?_set_ne (by omega)).trans ((List.getElem?_set_ne (by omega)).trans ((List.getElem?_set_ne (by omega)).trans (hat 4 (by decide))))))
  have q5 := (r5.at'.at (n * 8 + 5) (by omega)).trans ((List.getElem?_set_ne (by omega)).trans ((List.getElem?_set_ne (by omega)).trans ((List.getElem?_set_ne (by omega)).trans ((List.getElem?_set_ne (by omega)).trans ((List.getElem?_set_ne (by omega)).trans (hat 5 (by decide)))))))
  have q6 := (r6.at'.at (n * 8 + 6) (by omega)).trans ((List.getElem?_set_ne (by omega)).trans ((List.getElem?_set_ne (by omega)).trans ((List.getElem?_set_ne (by omega)).trans ((List.getElem?_set_ne (by omega)).trans ((List.getElem?_set_ne (by omega)).trans ((List.getElem?_set_ne (by omega)).trans (hat 6 (by decide))))))))
  have q7 := (r7.at'.at (n * 8 + 7) (by omega)).trans ((List.getElem?_set_ne (by omega)).trans ((List.getElem?_set_ne (by omega)).trans ((List.getElem?_set_ne (by omega)).trans ((List.getElem?_set_ne (by omega)).trans ((List.getElem?_set_ne (by omega)).trans ((List.getElem?_set_ne (by omega)).trans ((List.getElem?_set_ne (by omega)).trans (hat 7 (by decide)))))))))
  refine ⟨⟨q0, q1, q2, q3, q4, q5, q6, q7⟩, ⟨r0.at'.frozenAt _, r1.at'.frozenAt _, r2.at'.frozenAt _, r3.at'.frozenAt _, r4.at'.frozenAt _, r5.at'.frozenAt _, r6.at'.frozenAt _, r7.at'.frozenAt _⟩, ?_, grown_trans (grown_trans (grown_trans (grown_trans (grown_trans (grown_trans (grown_trans (grown_set _ g _ _) (grown_set _ g _ _)) (grown_set _ g _ _)) (grown_set _ g _ _)) (grown_set _ g _ _)) (grown_set _ g _ _)) (grown_set _ g _ _)) (grown_set _ g _ _)⟩
  rw [itCells_fill rs n hn x] at r8
  have hl : rs.length = (rs.set n x).length := by rw [List.length_set]
  unfold PUpd
  rw [← hl]
  exact r8

theorem Tryd.infoItem : (Tryd.prog.info? 110).map (fun i => (i.zero, i.size, i.bytes)) = some (some (.agg #[.bool false, .int .u8 0, .string ⟨#[]⟩, .int .u16 0, .int .i16 0, .int .i32 0, .int .i64 0, .int .i16 0]), 8, 64) := by kernel_rfl

theorem it_oneCell (r : ItemV) : ∀ u ∈ itCells1 r, u.oneCell' = true := by
  intro u hu
  simp [itCells1] at hu
  rcases hu with rfl | rfl | rfl | rfl | rfl | rfl | rfl | rfl <;> rfl

set_option maxHeartbeats 400000 in
theorem plen_any (kb o : Nat) (a : Option Addr) (n c : Nat) (w : World) (hc : w.cell? ⟨kb, o + 1, none⟩ = some (.slice a n c)) :
    Calls Tryd.prog 47 #[.pointer (some ⟨kb, o, none⟩)] w fun en w' => en = .returned (.int .i64 (n : Int)) ∧ w' = w := by
  go_enter Tryd.func47, Tryd.ntmps47
  go_wp2
  go_ret
  exact ⟨rfl, rfl⟩

set_option maxHeartbeats 400000 in
theorem pfull_any (kb o : Nat) (a : Option Addr) (n c room : Nat) (w : World) (hc : w.cell? ⟨kb, o + 1, none⟩ = some (.slice a n c)) (hr : w.cell? ⟨kb, o, none⟩ = some (.int .i64 (room : Int))) :
    Calls Tryd.prog 58 #[.pointer (some ⟨kb, o, none⟩)] w fun en w' => en = .returned (.bool (decide (room ≤ n))) ∧ ∃ m, w' = w.drewN m := by
  have hd : decide ((room : Int) ≤ (n : Int)) = decide (room ≤ n) := by rw [decide_eq_decide]; omega
  go_enter Tryd.func58, Tryd.ntmps58
  go_wp2
  go_quiet (fail)
  go_wp2
  go_ret
  exact ⟨by simp, nq, rfl⟩

end Go.Proofs.YthccpacmklhejabDoor
