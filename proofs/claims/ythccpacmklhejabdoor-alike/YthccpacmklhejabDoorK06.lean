/-
  Several texts in one.
-/
import Derived.Test.YthccpacmklhejabDoorK05
import Derived.Test.YthccpacmklhejabDoorShelf
import Derived.Lib.AppendIntMem
import Derived.Test.YthccpacmklhejabDoorK03
import Derived.ProofKit
import Derived.LaidMore
import Derived.OpenShut
import Derived.Stop.Joined
import Derived.Stop.LaidErr
import Derived.Lib.LaidTab
import Derived.Test.YthccpacmklhejabDoorK04
namespace Go.Proofs.YthccpacmklhejabDoor
open Go.RowKit

theorem decDigits_decN : ∀ (k n : Nat), n < 10 ^ (k + 1) → Lib.decDigits n = decN n
  | 0, n, h => by
    rw [decN_small (by omega), Lib.decDigits, dif_pos (by omega)]
    rfl
  | k + 1, n, h => by
    by_cases h10 : n < 10
    · rw [decN_small h10, Lib.decDigits, dif_pos h10]
      rfl
    · rw [decN_big h10, Lib.decDigits, dif_neg h10, decDigits_decN k (n / 10) (by rw [Nat.pow_succ] at h; omega)]
      rfl

theorem itoa_decI (n : Int) (h1 : -1000000 ≤ n) (h2 : n ≤ 1000000) : Lib.itoa n = decI n := by
  unfold Lib.itoa decI
  split
  · rw [decDigits_decN 6 n.natAbs (by omega), show n.natAbs = (-n).toNat by omega]
  · rw [decDigits_decN 6 n.toNat (by omega)]

theorem decI_length (n : Int) (h1 : -1000000 ≤ n) (h2 : n ≤ 1000000) : (decI n).length ≤ 8 := by
  unfold decI
  split
  · have := decN_length 6 (-n).toNat (by omega)
    simp
    omega
  · have := decN_length 6 n.toNat (by omega)
    omega

/-- The table of powers is as the program lays it. -/
def Tab (w : World) : Prop := Lib.TabIs Tryd.prog w "internal/strconv.uint64pow10" .u64 Lib.pow10Tab

theorem Tab.old {w w1 : World} (h : Tab w) (hb : Below w.heap.size w w1) : Tab w1 := Lib.tabBelow_of_tabIs h w1 hb

theorem itoa_any (n : Int) (h1 : -1000000 ≤ n) (h2 : n ≤ 1000000) (w : World) (ht : Tab w) :
    Calls Tryd.prog 73 #[.int .i64 n] w fun en w' => en = .returned (.string ⟨(decI n).toArray⟩) ∧ Below w.heap.size w w' := by
  rw [← itoa_decI n h1 h2]
  refine (Tryd.strconv_Itoa n (by omega) (by omega) w ht).mono ?_
  rintro e w1 ⟨rfl, k, os, rfl⟩
  exact ⟨rfl, Lib.below_grow _ _ (Nat.le_refl _) _ _⟩

/-- The text of a group. -/
def gText (r : GV) : List UInt8 := (Utf8.encode (r.pt : Int)).data.toList ++ [32] ++ decI r.live ++ [32] ++ decI r.sum ++ [32] ++ decI r.ev ++ [59]

set_option maxRecDepth 100000 in
set_option maxHeartbeats 2000000 in
theorem gtext_any (p : Nat) (l s e : Int) (ch : Bool) (w : World) (ht : Tab w) (hl : -100000 ≤ l ∧ l ≤ 100000) (hs : -32768 ≤ s ∧ s ≤ 32767) (he : 0 ≤ e ∧ e ≤ 255) :
    Calls Tryd.prog 50 #[.agg #[.int .i32 (p : Int), .int .i64 l, .int .i16 s, .int .u8 e, .bool ch]] w fun en w' => en = .returned (.string ⟨(gText ⟨p, l, s, e⟩).toArray⟩) ∧ Below w.heap.size w w' := by
  have hE := enc_size (p : Int)
  have hL := decI_length l (by omega) (by omega)
  have hS := decI_length s (by omega) (by omega)
  have hV := decI_length e (by omega) (by omega)
  have h1 := show Hid _ from fun w ht => itoa_any l (by omega) (by omega) w ht
  have h2 := show Hid _ from fun w ht => itoa_any s (by omega) (by omega) w ht
  have h3 := show Hid _ from fun w ht => itoa_any e (by omega) (by omega) w ht
  have hfin : Utf8.encode (p : Int) ++ ⟨#[32]⟩ ++ ⟨(decI l).toArray⟩ ++ ⟨#[32]⟩ ++ ⟨(decI s).toArray⟩ ++ ⟨#[32]⟩ ++ ⟨(decI e).toArray⟩ ++ ⟨#[59]⟩ = (⟨(gText ⟨p, l, s, e⟩).toArray⟩ : ByteArray) := by
    apply ba_ext
    unfold gText
    simp
  have Hfin := show Hid _ from hfin
  clear hfin
  have hw1 : IntKind.i64.wrap s = s := IntWalk.i64_in s ⟨by omega, by omega⟩
  have hw2 : IntKind.i64.wrap e = e := IntWalk.i64_in e ⟨by omega, by omega⟩
  generalize decI l = L at hL h1 Hfin
  generalize decI s = S0 at hS h2 Hfin
  generalize decI e = V at hV h3 Hfin
  have hLs : (⟨L.toArray⟩ : ByteArray).size = L.length := by simp [ByteArray.size]
  have hSs : (⟨S0.toArray⟩ : ByteArray).size = S0.length := by simp [ByteArray.size]
  have hVs : (⟨V.toArray⟩ : ByteArray).size = V.length := by simp [ByteArray.size]
  have h32 : (⟨#[32]⟩ : ByteArray).size = 1 := rfl
  have h59 : (⟨#[59]⟩ : ByteArray).size = 1 := rfl
  generalize (⟨L.toArray⟩ : ByteArray) = BL at hLs h1 Hfin
  generalize (⟨S0.toArray⟩ : ByteArray) = BS at hSs h2 Hfin
  generalize (⟨V.toArray⟩ : ByteArray) = BV at hVs h3 Hfin
  have hH0 : (w.alloc (.cells #[.int .i32 (p : Int), .int .i64 l, .int .i16 s, .int .u8 e, .bool ch] 100)).drew.heap[w.heap.size]? = some (.cells #[.int .i32 (p : Int), .int .i64 l, .int .i16 s, .int .u8 e, .bool ch] 100 (0, 0)) ∧ Tab (w.alloc (.cells #[.int .i32 (p : Int), .int .i64 l, .int .i16 s, .int .u8 e, .bool ch] 100)).drew := ⟨heap_alloc_new w _, ht.old ((Below.refl _ _).alloc (Nat.le_refl _) _).drew⟩
  have hb0 : Below w.heap.size w (w.alloc (.cells #[.int .i32 (p : Int), .int .i64 l, .int .i16 s, .int .u8 e, .bool ch] 100)).drew := ((Below.refl _ _).alloc (Nat.le_refl _) _).drew
  clear ht
  go_enter Tryd.func50, Tryd.ntmps50
  go_wp2
  have henc : ∀ v : World, (convert 21 9 (.int .i32 (p : Int))).run Tryd.prog v = .ok (.string (Utf8.encode (p : Int))) v := by
    intro v
    go_simp
  generalize Utf8.encode (p : Int) = E at hE henc Hfin
  refine wp_region_held_drew (S := fun w' : World => w'.heap[w.heap.size]? = some (.cells #[.int .i32 (p : Int), .int .i64 l, .int .i16 s, .int .u8 e, .bool ch] 100 (0, 0)) ∧ Tab w') (by kernel_rfl) hH0 (fun hH => ?_)
  generalize (w.alloc (.cells #[.int .i32 (p : Int), .int .i64 l, .int .i16 s, .int .u8 e, .bool ch] 100)).drew = wd at hH hb0 ⊢
  clear hH0
  refine wpAnyH_take (i := 0) (v := (.pointer (some ⟨w.heap.size, 0, none⟩))) rfl (by kernel_rfl) (by kernel_rfl) (by kernel_rfl) (fun _ _ _ h => h) (Or.inl ⟨by rfl, by intro v hSw; clear hSw; go_simp⟩) hH ?_
  refine wpAnyH_take (i := 1) (v := (.int .i32 (p : Int))) rfl (by kernel_rfl) (by kernel_rfl) (by kernel_rfl) (fun _ _ _ h => h) (Or.inl ⟨by rfl, by intro v hSw; have s0 : v.cell? ⟨w.heap.size, 0, none⟩ = some (.int .i32 (p : Int)) := row_cell hSw.1 0; clear hSw; go_simp⟩) hH ?_
  refine wpAnyH_take (i := 2) (v := (.string E)) rfl (by kernel_rfl) (by kernel_rfl) (by kernel_rfl) (fun _ _ _ h => h) (Or.inl ⟨by rfl, by intro v hSw; clear hSw; go_simp⟩) hH ?_
  refine wpAnyH_take (i := 3) (v := (.string (E ++ ⟨#[32]⟩))) rfl (by kernel_rfl) (by kernel_rfl) (by kernel_rfl) (fun _ _ _ h => h) (Or.inl ⟨by rfl, by intro v hSw; clear hSw; go_simp; omega⟩) hH ?_
  refine wpAnyH_take (i := 4) (v := (.pointer (some ⟨w.heap.size, 1, none⟩))) rfl (by kernel_rfl) (by kernel_rfl) (by kernel_rfl) (fun _ _ _ h => h) (Or.inl ⟨by rfl, by intro v hSw; clear hSw; go_simp⟩) hH ?_
  refine wpAnyH_take (i := 5) (v := (.int .i64 l)) rfl (by kernel_rfl) (by kernel_rfl) (by kernel_rfl) (fun _ _ _ h => h) (Or.inl ⟨by rfl, by intro v hSw; have s0 : v.cell? ⟨w.heap.size, 1, none⟩ = some (.int .i64 l) := row_cell hSw.1 1; clear hSw; go_simp⟩) hH ?_
  refine wpAnyH_take (i := 9) (v := (.pointer (some ⟨w.heap.size, 2, none⟩))) rfl (by kernel_rfl) (by kernel_rfl) (by kernel_rfl) (fun _ _ _ h => h) (Or.inl ⟨by rfl, by intro v hSw; clear hSw; go_simp⟩) hH ?_
  refine wpAnyH_take (i := 10) (v := (.int .i16 s)) rfl (by kernel_rfl) (by kernel_rfl) (by kernel_rfl) (fun _ _ _ h => h) (Or.inl ⟨by rfl, by intro v hSw; have s0 : v.cell? ⟨w.heap.size, 2, none⟩ = some (.int .i16 s) := row_cell hSw.1 2; clear hSw; go_simp⟩) hH ?_
  refine wpAnyH_take (i := 11) (v := (.int .i64 s)) rfl (by kernel_rfl) (by kernel_rfl) (by kernel_rfl) (fun _ _ _ h => h) (Or.inl ⟨by rfl, by intro v hSw; clear hSw; go_simp⟩) hH ?_
  refine wpAnyH_take (i := 15) (v := (.pointer (some ⟨w.heap.size, 3, none⟩))) rfl (by kernel_rfl) (by kernel_rfl) (by kernel_rfl) (fun _ _ _ h => h) (Or.inl ⟨by rfl, by intro v hSw; clear hSw; go_simp⟩) hH ?_
  refine wpAnyH_take (i := 16) (v := (.int .u8 e)) rfl (by kernel_rfl) (by kernel_rfl) (by kernel_rfl) (fun _ _ _ h => h) (Or.inl ⟨by rfl, by intro v hSw; have s0 : v.cell? ⟨w.heap.size, 3, none⟩ = some (.int .u8 e) := row_cell hSw.1 3; clear hSw; go_simp⟩) hH ?_
  refine wpAnyH_take (i := 17) (v := (.int .i64 e)) rfl (by kernel_rfl) (by kernel_rfl) (by kernel_rfl) (fun _ _ _ h => h) (Or.inl ⟨by rfl, by intro v hSw; clear hSw; go_simp⟩) hH ?_
  refine wpAnyH_ready (rs := [6]) (by kernel_rfl) (by simp) ?_
  refine AllReadyH.cons rfl (fun K hK => ?_) AllReadyH.nil
  have Hw2 := show Hid (_ ∧ _) from hH
  clear hH
  go_simp
  go_wp2_with (go_at_call 73; refine (h1.out _ Hw2.out.2).mono ?_; rintro en w2 ⟨rfl, hbw2⟩)
  refine hK.out _ _ ⟨(hbw2.block _ (heap_lt Hw2.out.1)).trans Hw2.out.1, Hw2.out.2.old hbw2⟩ (fun hH => ?_)
  clear hK K Hw2
  refine wpAnyH_take (i := 7) (v := (.string (E ++ ⟨#[32]⟩ ++ BL))) rfl (by kernel_rfl) (by kernel_rfl) (by kernel_rfl) (fun _ _ _ h => h) (Or.inl ⟨by rfl, by intro v hSw; clear hSw; go_simp; omega⟩) hH ?_
  refine wpAnyH_take (i := 8) (v := (.string (E ++ ⟨#[32]⟩ ++ BL ++ ⟨#[32]⟩))) rfl (by kernel_rfl) (by kernel_rfl) (by kernel_rfl) (fun _ _ _ h => h) (Or.inl ⟨by rfl, by intro v hSw; clear hSw; go_simp; omega⟩) hH ?_
  refine wpAnyH_ready (rs := [12]) (by kernel_rfl) (by simp) ?_
  refine AllReadyH.cons rfl (fun K hK => ?_) AllReadyH.nil
  have Hw3 := show Hid (_ ∧ _) from hH
  clear hH
  go_simp
  go_wp2_with (go_at_call 73; refine (h2.out _ Hw3.out.2).mono ?_; rintro en w3 ⟨rfl, hbw3⟩)
  refine hK.out _ _ ⟨(hbw3.block _ (heap_lt Hw3.out.1)).trans Hw3.out.1, Hw3.out.2.old hbw3⟩ (fun hH => ?_)
  clear hK K Hw3
  refine wpAnyH_take (i := 13) (v := (.string (E ++ ⟨#[32]⟩ ++ BL ++ ⟨#[32]⟩ ++ BS))) rfl (by kernel_rfl) (by kernel_rfl) (by kernel_rfl) (fun _ _ _ h => h) (Or.inl ⟨by rfl, by intro v hSw; clear hSw; go_simp; omega⟩) hH ?_
  refine wpAnyH_take (i := 14) (v := (.string (E ++ ⟨#[32]⟩ ++ BL ++ ⟨#[32]⟩ ++ BS ++ ⟨#[32]⟩))) rfl (by kernel_rfl) (by kernel_rfl) (by kernel_rfl) (fun _ _ _ h => h) (Or.inl ⟨by rfl, by intro v hSw; clear hSw; go_simp; omega⟩) hH ?_
  refine wpAnyH_ready (rs := [18]) (by kernel_rfl) (by simp) ?_
  refine AllReadyH.cons rfl (fun K hK => ?_) AllReadyH.nil
  have Hw4 := show Hid (_ ∧ _) from hH
  clear hH
  go_simp
  go_wp2_with (go_at_call 73; refine (h3.out _ Hw4.out.2).mono ?_; rintro en w4 ⟨rfl, hbw4⟩)
  refine hK.out _ _ ⟨(hbw4.block _ (heap_lt Hw4.out.1)).trans Hw4.out.1, Hw4.out.2.old hbw4⟩ (fun hH => ?_)
  clear hK K Hw4
  refine wpAnyH_take (i := 19) (v := (.string (E ++ ⟨#[32]⟩ ++ BL ++ ⟨#[32]⟩ ++ BS ++ ⟨#[32]⟩ ++ BV))) rfl (by kernel_rfl) (by kernel_rfl) (by kernel_rfl) (fun _ _ _ h => h) (Or.inl ⟨by rfl, by intro v hSw; clear hSw; go_simp; omega⟩) hH ?_
  refine wpAnyH_take (i := 20) (v := (.string (E ++ ⟨#[32]⟩ ++ BL ++ ⟨#[32]⟩ ++ BS ++ ⟨#[32]⟩ ++ BV ++ ⟨#[59]⟩))) rfl (by kernel_rfl) (by kernel_rfl) (by kernel_rfl) (fun _ _ _ h => h) (Or.inl ⟨by rfl, by intro v hSw; clear hSw; go_simp; omega⟩) hH ?_
  refine wpAnyH_take (i := 21) (v := (.string (E ++ ⟨#[32]⟩ ++ BL ++ ⟨#[32]⟩ ++ BS ++ ⟨#[32]⟩ ++ BV ++ ⟨#[59]⟩))) rfl (by kernel_rfl) (by kernel_rfl) (by kernel_rfl) (fun _ _ _ h => h) (Or.inl ⟨by rfl, by intro v hSw; clear hSw; go_simp⟩) hH ?_
  refine wpAnyH_done (by kernel_rfl) ?_ _
  go_wp2
  go_ret
  refine ⟨?_, ?_⟩
  · rw [← Hfin.out]
    rfl
  · exact ((hb0.trans (hbw2.mono hb0.size)).trans (hbw3.mono (Nat.le_trans hb0.size hbw2.size))).trans (hbw4.mono (Nat.le_trans (Nat.le_trans hb0.size hbw2.size) hbw3.size))

end Go.Proofs.YthccpacmklhejabDoor

namespace Go.Proofs.YthccpacmklhejabDoor
open Go.ChangeShapes Go.WideShapes Go.ChangeAt Go.RowKit

theorem door_own : ownKnob Tryd.prog.godebug = none := by kernel_rfl
theorem door_laidOut : laidOutB Tryd.prog = true := by kernel_rfl

theorem door_met (os : Os) (args : Array Value) : laidMetH Tryd.prog Rows.alikeRow.laid ((World.doorLaid Tryd.prog 24 os).forCall (fun _ _ => 0) ⟨#[], args, []⟩).memory :=
  laidMetH_of_parts3 (fuel := 8) (laidMet_of_run' 8 (by kernel_rfl) (by kernel_rfl)) (by kernel_rfl) (by kernel_rfl)

theorem pow_datum : (Rows.laid_internal_strconv_uint64pow10 : DataW Unit) = Lib.tabData .u64 Lib.pow10Tab := by kernel_rfl

theorem door_tab {W : World} (h : laidMetH Tryd.prog Rows.alikeRow.laid W) : Tab W := by
  rw [MakeChecks.laidMetH_plain _ _ _ (by kernel_rfl)] at h
  have h2 : laidMet Tryd.prog [("internal/strconv.uint64pow10", Rows.laid_internal_strconv_uint64pow10)] W := (show laidMet Tryd.prog (_ :: _ :: _) W from h).tail.tail
  rw [pow_datum] at h2
  exact Lib.tabIs_of_head (g := 0) (t := 156) (e := 149) (n := 20) (by kernel_rfl) (by kernel_rfl) Tryd.underlying156 Tryd.underlying149 (by kernel_rfl) (by kernel_rfl) h2
end Go.Proofs.YthccpacmklhejabDoor

namespace Go.Proofs.YthccpacmklhejabDoor

/-- A change; a barrier has the point -1. -/
structure ChgM where
  pt : Int
  tx : ByteArray
  live : Int
  delta : Int

def barM : ChgM := ⟨-1, ⟨#[]⟩, 0, 0⟩

structure SorterM where
  got : List Ev
  pipe : List Int
  marked : Nat
  kept : Nat
  passed : Bool

structure AdderM where
  got : List ChgM
  pipes : List (List ChgM)
  stopped : List Bool
  marked : Nat
  kept : Nat
  passed : Bool

structure RowM where
  pt : Int
  tx : ByteArray
  live : Int
  sum : Int
  ev : Nat

structure JobM where
  width : Nat
  room : Nat
  events : List Ev
  sent : Nat
  sorters : List SorterM
  adders : List AdderM
  number : Nat
  under : Bool
  barriers : Bool
  off : Nat
  complete : Bool
  base : Nat
  rows : List RowM

def newS : SorterM := ⟨[], [], 0, 0, false⟩
def newA (width : Nat) : AdderM := ⟨[], List.replicate width [], List.replicate width false, 0, 0, false⟩
def newJ (width room : Nat) (events : List Ev) : JobM := ⟨width, room, events, 0, List.replicate width newS, List.replicate width (newA width), 0, false, false, 0, false, 0, []⟩

theorem foldl_snoc {g : Nat → UInt8 → Nat} (l : List UInt8) (b : UInt8) (h : Nat) : (l ++ [b]).foldl g h = g (l.foldl g h) b := by
  rw [List.foldl_append]
  rfl

theorem foldl_lt {g : Nat → UInt8 → Nat} {N : Nat} (hg : ∀ h b, g h b < N) (l : List UInt8) (h : Nat) (hh : h < N) : l.foldl g h < N := by
  induction l generalizing h with
  | nil => exact hh
  | cons b l ih => exact ih _ (hg _ _)

/-- One byte's step of a key's hash. -/
def hstep (h b : Nat) : Nat := (h ^^^ b) * 16777619 % 4294967296

theorem hstep_lt (h b : Nat) : hstep h b < 4294967296 := Nat.mod_lt _ (by decide)

def hfun : Nat → UInt8 → Nat := fun h b => hstep h b.toNat
theorem hfun_eq (h : Nat) (b : UInt8) : hfun h b = hstep h b.toNat := by unfold hfun; with_reducible rfl

def hashL (l : List UInt8) (h : Nat) : Nat := l.foldl hfun h
def hashS (key : ByteArray) : Nat := hashL key.data.toList 2166136261

theorem hashL_snoc (l : List UInt8) (b : UInt8) (h : Nat) : hashL (l ++ [b]) h = hstep (hashL l h) b.toNat := by
  unfold hashL
  rw [foldl_snoc, hfun_eq]

theorem hashL_lt (l : List UInt8) (h : Nat) (hh : h < 4294967296) : hashL l h < 4294967296 := by
  unfold hashL
  exact foldl_lt (fun h b => by rw [hfun_eq]; exact hstep_lt _ _) l h hh

/-- Trigger: the number, or busy. -/
def JobM.trigger (j : JobM) : Nat × Nat × JobM :=
  if j.under then (0, 10, j)
  else (j.number + 1, 0, { j with under := true, barriers := false, complete := false, sorters := j.sorters.map (fun s => { s with passed := false }), adders := j.adders.map (fun a => { a with passed := false }), number := j.number + 1 })

/-- The source. -/
def JobM.source (j : JobM) : Nat × JobM :=
  if j.under && !j.barriers then
    if j.sorters.any (fun s => decide (s.pipe.length = j.room)) then (9, j)
    else (0, { j with sorters := j.sorters.map (fun s => { s with pipe := s.pipe ++ [-1] }), barriers := true, off := j.sent })
  else match j.events[j.sent]? with
    | none => (8, j)
    | some e => match j.sorters[hashS e.key % j.width]? with
      | none => (9, j)
      | some s => if s.pipe.length = j.room then (9, j) else (0, { j with sorters := j.sorters.set (hashS e.key % j.width) { s with pipe := s.pipe ++ [(j.sent : Int)] }, sent := j.sent + 1 })

/-- The change that an event that counts makes. -/
def chgOf (k : Kn) (e : Ev) : ChgM :=
  ⟨(grp e.key).1, (grp e.key).2, (if e.op = 1 then 1 else 0) - (if k.there then 1 else 0), (if e.op = 1 then e.val else 0) - (if k.there then k.value else 0)⟩

def AdderM.push (a : AdderM) (i : Nat) (c : ChgM) : AdderM := { a with pipes := a.pipes.modify i (· ++ [c]) }
def AdderM.waits (a : AdderM) (i : Nat) : Nat := (a.pipes.getD i []).length

/-- A sorter. -/
def JobM.sorts (j : JobM) (i : Nat) : Nat × JobM :=
  match j.sorters[i]? with
  | none => (8, j)
  | some s => match s.pipe with
    | [] => (8, j)
    | x :: rest =>
      if x < 0 then
        if j.adders.any (fun a => decide (a.waits i = j.room)) then (9, j)
        else (0, { j with adders := j.adders.map (fun a => a.push i barM), sorters := j.sorters.set i { s with marked := s.got.length, passed := true, pipe := rest } })
      else match j.events[x.toNat]? with
        | none => (8, j)
        | some e =>
          if (knOf e.key s.got).counts e then
            match j.adders[(grp e.key).1 % j.width]? with
            | none => (9, j)
            | some a =>
              if a.waits i = j.room then (9, j)
              else (0, { j with adders := j.adders.set ((grp e.key).1 % j.width) (a.push i (chgOf (knOf e.key s.got) e)), sorters := j.sorters.set i { s with got := s.got ++ [e], pipe := rest } })
          else (0, { j with sorters := j.sorters.set i { s with got := s.got ++ [e], pipe := rest } })

/-- The first pipe of an adder that is open and has an item. -/
def AdderM.firstOpen (a : AdderM) : Nat := (a.stopped.zip a.pipes).findIdx (fun x => !x.1 && !x.2.isEmpty)

/-- An adder takes an item. -/
def AdderM.take (a : AdderM) (width : Nat) : Option AdderM :=
  match a.pipes[a.firstOpen]? with
  | some (c :: rest) =>
    if 0 ≤ c.pt then some { a with pipes := a.pipes.set a.firstOpen rest, got := a.got ++ [c] }
    else if (a.stopped.set a.firstOpen true).all id then some { a with pipes := a.pipes.set a.firstOpen rest, stopped := List.replicate width false, marked := a.got.length, passed := true }
    else some { a with pipes := a.pipes.set a.firstOpen rest, stopped := a.stopped.set a.firstOpen true }
  | _ => none

def JobM.adds (j : JobM) (i : Nat) : Nat × JobM :=
  match j.adders[i]? with
  | none => (8, j)
  | some a => match a.take j.width with
    | none => (8, j)
    | some a' => (0, { j with adders := j.adders.set i a' })

/-- A group's row, behind some changes. -/
def rowM (l : List ChgM) (p : Int) : RowM :=
  l.foldl (fun r c => if c.pt = p then ⟨p, c.tx, r.live + c.live, r.sum + c.delta, r.ev + 1⟩ else r) ⟨0, ⟨#[]⟩, 0, 0, 0⟩

def putRow (rows : List RowM) (r : RowM) : List RowM :=
  if rows.findIdx (fun x => decide (x.pt = r.pt)) = rows.length then rows ++ [r] else rows.set (rows.findIdx (fun x => decide (x.pt = r.pt))) r

/-- What an adder's commit lays over the view. -/
def AdderM.laid (a : AdderM) (rows : List RowM) : List RowM := ((a.got.take a.marked).drop a.kept).foldl (fun rs c => putRow rs (rowM (a.got.take a.marked) c.pt)) rows

def JobM.commit (j : JobM) : JobM :=
  { j with sorters := j.sorters.map (fun s => { s with kept := s.marked }), adders := j.adders.map (fun a => { a with kept := a.marked }), rows := j.adders.foldl (fun rs a => a.laid rs) j.rows, base := j.off, under := false }

def JobM.passedAll (j : JobM) : Bool := j.under && j.barriers && j.sorters.all (·.passed) && j.adders.all (·.passed)

def JobM.keeps (j : JobM) : Nat × JobM :=
  if j.under && j.complete then (0, j.commit) else if j.passedAll then (0, { j with complete := true }) else (8, j)

def JobM.step (j : JobM) (t : Int) : Nat × JobM :=
  if t < 0 ∨ 2 * (j.width : Int) + 1 < t then (7, j)
  else if t = 0 then j.source
  else if t ≤ (j.width : Int) then j.sorts (t - 1).toNat
  else if t ≤ 2 * (j.width : Int) then j.adds (t - (j.width : Int) - 1).toNat
  else j.keeps

def JobM.queue (j : JobM) (t : Int) : List Int × Nat :=
  if t < 0 ∨ 2 * (j.width : Int) + 1 < t then ([], 7)
  else if t = 0 then ([(j.events.length : Int) - (j.sent : Int)], 0)
  else if t ≤ (j.width : Int) then ([(((j.sorters.getD (t - 1).toNat newS).pipe.length : Nat) : Int)], 0)
  else if t ≤ 2 * (j.width : Int) then (((j.adders.getD (t - (j.width : Int) - 1).toNat (newA 0)).pipes.map fun p => (p.length : Int)), 0)
  else if j.passedAll then ([1], 0) else ([0], 0)

end Go.Proofs.YthccpacmklhejabDoor

namespace Go.Proofs.YthccpacmklhejabDoor

/-- The changes that events make, behind others. -/
def outsFrom (pre : List Ev) : List Ev → List ChgM
  | [] => []
  | e :: es => (if (knOf e.key pre).counts e then [chgOf (knOf e.key pre) e] else []) ++ outsFrom (pre ++ [e]) es

def outs (es : List Ev) : List ChgM := outsFrom [] es

def out1 (pre : List Ev) (e : Ev) : List ChgM := if (knOf e.key pre).counts e then [chgOf (knOf e.key pre) e] else []

theorem outsFrom_snoc (es : List Ev) : ∀ (pre : List Ev) (e : Ev), outsFrom pre (es ++ [e]) = outsFrom pre es ++ out1 (pre ++ es) e := by
  induction es with
  | nil => intro pre e; simp [outsFrom, out1]
  | cons x es ih =>
    intro pre e
    simp only [List.cons_append, outsFrom, ih, List.append_assoc, List.nil_append]

theorem outs_snoc (es : List Ev) (e : Ev) : outs (es ++ [e]) = outs es ++ out1 es e := by
  unfold outs
  rw [outsFrom_snoc, List.nil_append]

/-- A sum over the changes of a group. -/
def sumC (g : ChgM → Int) (p : Nat) : List ChgM → Int
  | [] => 0
  | c :: l => (if c.pt = (p : Int) then g c else 0) + sumC g p l

theorem sumC_append (g : ChgM → Int) (p : Nat) (a b : List ChgM) : sumC g p (a ++ b) = sumC g p a + sumC g p b := by
  induction a with
  | nil => simp [sumC]
  | cons c l ih => simp only [List.cons_append, sumC, ih]; omega

theorem sumC_perm {g : ChgM → Int} {p : Nat} {a b : List ChgM} (h : a.Perm b) : sumC g p a = sumC g p b := by
  induction h with
  | nil => rfl
  | cons x _ ih => simp only [sumC, ih]
  | swap x y l => simp only [sumC]; omega
  | trans _ _ h1 h2 => exact h1.trans h2

/-- The changes to an adder. -/
def toA (W k : Nat) (l : List ChgM) : List ChgM := l.filter (fun c => decide (c.pt.toNat % W = k))

theorem toA_append (W k : Nat) (a b : List ChgM) : toA W k (a ++ b) = toA W k a ++ toA W k b := List.filter_append _ _

theorem sumC_toA (g : ChgM → Int) (W p : Nat) (l : List ChgM) : sumC g p (toA W (p % W) l) = sumC g p l := by
  induction l with
  | nil => rfl
  | cons c l ih =>
    unfold toA at ih ⊢
    rw [List.filter_cons]
    split
    · simp only [sumC, ih]
    · rename_i h
      have hne : ¬ c.pt = (p : Int) := fun e => h (by rw [e]; simp)
      simp only [sumC, if_neg hne, ih, Int.zero_add]

/-- The first events of a sorter. -/
def evs (W : Nat) (E : List Ev) (n i : Nat) : List Ev := (E.take n).filter (fun e => decide (hashS e.key % W = i))

theorem evs_succ {W : Nat} {E : List Ev} {n : Nat} (h : n < E.length) (i : Nat) : evs W E (n + 1) i = evs W E n i ++ (if hashS E[n].key % W = i then [E[n]] else []) := by
  unfold evs
  rw [List.take_succ_eq_append_getElem h, List.filter_append]
  congr 1
  by_cases c : hashS E[n].key % W = i
  · rw [if_pos c]; simp [c]
  · rw [if_neg c]; simp [c]

theorem knOf_evs (W : Nat) (E : List Ev) (n : Nat) (key : ByteArray) : knOf key (evs W E n (hashS key % W)) = knOf key (E.take n) := by
  unfold knOf evs
  rw [List.filter_filter]
  congr 1
  apply List.filter_congr
  intro e _
  by_cases h : e.key = key
  · simp [h]
  · simp [h]

/-- A sum over the sorters. -/
def sumI (h : Nat → Int) : Nat → Int
  | 0 => 0
  | n + 1 => sumI h n + h n

theorem sumI_congr {h h' : Nat → Int} {n : Nat} (e : ∀ i, i < n → h i = h' i) : sumI h n = sumI h' n := by
  induction n with
  | zero => rfl
  | succ n ih => simp only [sumI]; rw [ih fun i hi => e i (by omega), e n (by omega)]

theorem sumI_upd {h h' : Nat → Int} {n i0 : Nat} (hi : i0 < n) (e : ∀ i, i < n → i ≠ i0 → h' i = h i) : sumI h' n = sumI h n + (h' i0 - h i0) := by
  induction n with
  | zero => omega
  | succ n ih =>
    simp only [sumI]
    by_cases c : i0 = n
    · subst c
      rw [sumI_congr (h := h') (h' := h) fun i hi => e i (by omega) (by omega)]
      omega
    · rw [ih (by omega) fun i hi' hne => e i (by omega) hne, e n (by omega) (fun x => c x.symm)]
      omega

/-- What a change has to say, and of what: a pair. -/
structure Says (g : ChgM → Int) (f : Kn → Int) : Prop where
  none : f Kn.none = 0
  chg : ∀ (k : Kn) (e : Ev), k.counts e = true → g (chgOf k e) = f (k.step e) - f k

theorem says_live : Says (fun c => c.live) fLive := by
  refine ⟨rfl, fun k e h => ?_⟩
  unfold chgOf Kn.step fLive
  rw [if_pos h]
  by_cases c : e.op = 1 <;> simp [c]

theorem says_sum : Says (fun c => c.delta) fSum := by
  refine ⟨rfl, fun k e h => ?_⟩
  unfold chgOf Kn.step fSum
  rw [if_pos h]
  by_cases c : e.op = 1 <;> simp [c]

theorem says_cnt : Says (fun _ => 1) fCnt := by
  refine ⟨rfl, fun k e h => ?_⟩
  unfold Kn.step fCnt
  rw [if_pos h]
  simp only
  omega

theorem sum_out1 {g : ChgM → Int} {f : Kn → Int} (hs : Says g f) (pre : List Ev) (e : Ev) (p : Nat) : sumC g p (out1 pre e) = if (grp e.key).1 = p then f ((knOf e.key pre).step e) - f (knOf e.key pre) else 0 := by
  unfold out1
  by_cases c : (knOf e.key pre).counts e = true
  · rw [if_pos c]
    simp only [sumC, Int.add_zero, hs.chg _ _ c]
    have : (chgOf (knOf e.key pre) e).pt = ((grp e.key).1 : Int) := rfl
    rw [this]
    by_cases d : (grp e.key).1 = p
    · rw [if_pos d, if_pos (by omega)]
    · rw [if_neg d, if_neg (by omega)]
  · rw [if_neg c]
    have : (knOf e.key pre).step e = knOf e.key pre := by unfold Kn.step; rw [if_neg c]
    rw [this]
    simp [sumC]

/-- The changes of all sorters come to what all events come to. -/
theorem sum_outs {g : ChgM → Int} {f : Kn → Int} (hs : Says g f) {W : Nat} (hW : 0 < W) (E : List Ev) (p : Nat) : ∀ n, n ≤ E.length → sumI (fun i => sumC g p (outs (evs W E n i))) W = tot f (E.take n) p
  | 0, _ => by
    have : ∀ i, i < W → sumC g p (outs (evs W E 0 i)) = 0 := fun i _ => by simp [evs, outs, outsFrom, sumC]
    rw [sumI_congr this]
    have hz : ∀ n, sumI (fun _ => (0 : Int)) n = 0 := fun n => by
      induction n with
      | zero => rfl
      | succ n ih => simp only [sumI, ih]; rfl
    rw [hz]
    simp [tot, keysOf, sumK]
  | n + 1, hn => by
    have ih := sum_outs hs hW E p n (by omega)
    have hl : n < E.length := by omega
    rw [List.take_succ_eq_append_getElem hl, tot_snoc f hs.none, ← ih]
    rw [sumI_upd (i0 := hashS E[n].key % W) (h := fun i => sumC g p (outs (evs W E n i))) (Nat.mod_lt _ hW) (fun i _ hne => by rw [evs_succ hl, if_neg (Ne.symm hne), List.append_nil])]
    congr 1
    rw [evs_succ hl, if_pos rfl, outs_snoc, sumC_append, sum_out1 hs, knOf_evs]
    omega

/-- The changes to an adder, of all sorters. -/
def allTo (W k n : Nat) (E : List Ev) : List ChgM := (List.range W).flatMap (fun i => toA W k (outs (evs W E n i)))

theorem sumC_flat (g : ChgM → Int) (p : Nat) (h : Nat → List ChgM) : ∀ n, sumC g p ((List.range n).flatMap h) = sumI (fun i => sumC g p (h i)) n
  | 0 => rfl
  | n + 1 => by
    rw [List.range_succ, List.flatMap_append, sumC_append, sumC_flat g p h n]
    simp [sumI]

theorem sum_allTo {g : ChgM → Int} {f : Kn → Int} (hs : Says g f) {W : Nat} (hW : 0 < W) (E : List Ev) (p n : Nat) (hn : n ≤ E.length) : sumC g p (allTo W (p % W) n E) = tot f (E.take n) p := by
  unfold allTo
  rw [sumC_flat, ← sum_outs hs hW E p n hn]
  exact sumI_congr fun i _ => sumC_toA g W p _

/-- A change of a group there is, just where an event of it counted. -/
theorem cnt_pos (p : Nat) (es : List Ev) : 0 ≤ tot fCnt es p ∧ (p ∈ ptsOf es ↔ 0 < tot fCnt es p) := by
  induction es using snoc_ind with
  | h0 => simp [ptsOf, tot, keysOf, sumK]
  | h1 l e ih =>
    rw [ptsOf_snoc, mem_ins, tot_snoc fCnt rfl]
    have hstep : fCnt ((knOf e.key l).step e) - fCnt (knOf e.key l) = if (knOf e.key l).counts e then 1 else 0 := by
      unfold Kn.step fCnt
      split
      · simp only; omega
      · omega
    by_cases c : (grp e.key).1 = p
    · rw [if_pos c, hstep]
      by_cases d : (knOf e.key l).counts e = true
      · rw [if_pos d]
        refine ⟨by omega, ⟨fun _ => by omega, fun _ => .inl c.symm⟩⟩
      · rw [if_neg d]
        have hm : e.key ∈ keysOf l := Classical.byContradiction fun x => d (counts_absent x)
        have hp : p ∈ ptsOf l := (mem_ptsOf p l).2 ⟨e.key, hm, c⟩
        have := ih.2.1 hp
        exact ⟨by omega, ⟨fun _ => by omega, fun _ => .inr hp⟩⟩
    · rw [if_neg c]
      refine ⟨by omega, ⟨fun h => ?_, fun h => ?_⟩⟩
      · rcases h with h | h
        · exact absurd h.symm c
        · have := ih.2.1 h; omega
      · exact .inr (ih.2.2 (by omega))

theorem sumC_one_pos (p : Nat) (l : List ChgM) : 0 ≤ sumC (fun _ => 1) p l ∧ (0 < sumC (fun _ => 1) p l ↔ ∃ c ∈ l, c.pt = (p : Int)) := by
  induction l with
  | nil => simp [sumC]
  | cons c l ih =>
    simp only [sumC]
    by_cases d : c.pt = (p : Int)
    · rw [if_pos d]
      exact ⟨by omega, ⟨fun _ => ⟨c, by simp, d⟩, fun _ => by omega⟩⟩
    · rw [if_neg d]
      refine ⟨by omega, ⟨fun h => ?_, fun h => ?_⟩⟩
      · obtain ⟨x, hx, hp⟩ := ih.2.1 (by omega)
        exact ⟨x, by simp [hx], hp⟩
      · obtain ⟨x, hx, hp⟩ := h
        rcases List.mem_cons.1 hx with e | hx
        · exact absurd (e ▸ hp) d
        · have := ih.2.2 ⟨x, hx, hp⟩; omega

end Go.Proofs.YthccpacmklhejabDoor

namespace Go.Proofs.YthccpacmklhejabDoor

def JobM.fl (j : JobM) : Bool := j.under && j.barriers

/-- All tasks forget. -/
def JobM.forget (j : JobM) : JobM :=
  { j with under := false, sent := j.base, sorters := j.sorters.map (fun s => ⟨s.got.take s.kept, [], s.kept, s.kept, false⟩),
           adders := j.adders.map (fun a => ⟨a.got.take a.kept, List.replicate j.width [], List.replicate j.width false, a.kept, a.kept, false⟩) }
def JobM.fail (j : JobM) : JobM := if j.under && j.complete then j.commit.forget else j.forget

def idx (E : List Ev) (l : List Int) : Prop := ∀ x ∈ l, 0 ≤ x ∧ x.toNat < E.length
def evsAt (E : List Ev) (l : List Int) : List Ev := l.flatMap (fun x => (E[x.toNat]?).toList)
def clean (l : List ChgM) : Prop := ∀ c ∈ l, 0 ≤ c.pt

theorem evsAt_append (E : List Ev) (a b : List Int) : evsAt E (a ++ b) = evsAt E a ++ evsAt E b := by simp [evsAt]
theorem idx_append {E : List Ev} {a b : List Int} : idx E (a ++ b) ↔ idx E a ∧ idx E b := by
  unfold idx
  constructor
  · exact fun h => ⟨fun x hx => h x (by simp [hx]), fun x hx => h x (by simp [hx])⟩
  · rintro ⟨h1, h2⟩ x hx
    rcases List.mem_append.1 hx with hx | hx
    · exact h1 x hx
    · exact h2 x hx
theorem clean_append {a b : List ChgM} : clean (a ++ b) ↔ clean a ∧ clean b := by
  unfold clean
  constructor
  · exact fun h => ⟨fun x hx => h x (by simp [hx]), fun x hx => h x (by simp [hx])⟩
  · rintro ⟨h1, h2⟩ x hx
    rcases List.mem_append.1 hx with hx | hx
    · exact h1 x hx
    · exact h2 x hx

/-- Of a sorter. -/
structure SOk (E : List Ev) (W i sent off base : Nat) (fl : Bool) (s : SorterM) : Prop where
  kept_le : s.kept ≤ s.got.length
  kept_eq : s.got.take s.kept = evs W E base i
  wait : fl = true → s.passed = false → ∃ p1 p2, s.pipe = p1 ++ (-1) :: p2 ∧ idx E p1 ∧ idx E p2 ∧ s.got ++ evsAt E p1 = evs W E off i ∧ s.got ++ evsAt E p1 ++ evsAt E p2 = evs W E sent i
  free : (fl = true → s.passed = true) → idx E s.pipe ∧ s.got ++ evsAt E s.pipe = evs W E sent i
  mark : fl = true → s.passed = true → s.kept ≤ s.marked ∧ s.marked ≤ s.got.length ∧ s.got.take s.marked = evs W E off i
  still : (fl = true → s.passed = false) → s.marked = s.kept

/-- Of the pipe from a sorter to an adder; R: what the adder has taken out of it. -/
structure LOk (fl sp ap st : Bool) (offO gotO pipe R : List ChgM) : Prop where
  mid : fl = true → sp = true → ap = false → st = false → ∃ q1 q2, pipe = q1 ++ barM :: q2 ∧ clean q1 ∧ clean q2 ∧ R ++ q1 = offO ∧ R ++ q1 ++ q2 = gotO
  free : ¬ (fl = true ∧ sp = true ∧ ap = false ∧ st = false) → clean pipe ∧ R ++ pipe = gotO
  stop : st = true → fl = true ∧ sp = true ∧ ap = false ∧ R = offO

/-- Of an adder; S: its job's sorters. -/
structure AOk (E : List Ev) (W k off base : Nat) (fl : Bool) (S : List SorterM) (a : AdderM) : Prop where
  lenP : a.pipes.length = W
  lenS : a.stopped.length = W
  kept_le : a.kept ≤ a.got.length
  kept_perm : (a.got.take a.kept).Perm (allTo W k base E)
  still : (fl = true → a.passed = false) → a.marked = a.kept
  mark : fl = true → a.passed = true → a.kept ≤ a.marked ∧ a.marked ≤ a.got.length ∧ (a.got.take a.marked).Perm (allTo W k off E) ∧ ∀ s ∈ S, s.passed = true
  links : ∃ R : Nat → List ChgM, a.got.Perm ((List.range W).flatMap R) ∧ ∀ i, i < W → ∀ s st pipe, S[i]? = some s → a.stopped[i]? = some st → a.pipes[i]? = some pipe → LOk fl s.passed a.passed st (toA W k (outs (evs W E off i))) (toA W k (outs s.got)) pipe (R i)

structure FlowOk (j : JobM) : Prop where
  hW : 0 < j.width
  lenS : j.sorters.length = j.width
  lenA : j.adders.length = j.width
  sent : j.sent ≤ j.events.length
  base : j.base ≤ j.sent
  off : j.fl = true → j.base ≤ j.off ∧ j.off ≤ j.sent
  fresh : j.under = true → j.barriers = false → (∀ s ∈ j.sorters, s.passed = false) ∧ (∀ a ∈ j.adders, a.passed = false)
  comp : j.under = true → j.complete = true → j.barriers = true ∧ (∀ s ∈ j.sorters, s.passed = true) ∧ (∀ a ∈ j.adders, a.passed = true)
  sorters : ∀ i s, j.sorters[i]? = some s → SOk j.events j.width i j.sent j.off j.base j.fl s
  adders : ∀ k a, j.adders[k]? = some a → AOk j.events j.width k j.off j.base j.fl j.sorters a

theorem evs_zero (W : Nat) (E : List Ev) (i : Nat) : evs W E 0 i = [] := by simp [evs]

theorem flat_nil {R : Nat → List ChgM} (h : ∀ i, R i = []) : ∀ n, (List.range n).flatMap R = []
  | 0 => rfl
  | n + 1 => by rw [List.range_succ, List.flatMap_append, flat_nil h n]; simp [h]

theorem allTo_zero (W k : Nat) (E : List Ev) : allTo W k 0 E = [] := flat_nil (fun i => by simp [evs_zero, outs, outsFrom, toA]) W

theorem flow_new (width room : Nat) (events : List Ev) (hW : 0 < width) : FlowOk (newJ width room events) := by
  refine ⟨hW, by simp [newJ], by simp [newJ], Nat.zero_le _, Nat.le_refl _, fun h => by simp [JobM.fl, newJ] at h, fun h => by simp [newJ] at h, fun h => by simp [newJ] at h, fun i s hs => ?_, fun k a ha => ?_⟩
  · simp only [newJ, List.getElem?_replicate] at hs
    split at hs
    · simp only [Option.some.injEq] at hs
      subst hs
      refine ⟨Nat.le_refl _, by simp [newS, newJ, evs_zero], fun h => by simp [JobM.fl, newJ] at h, fun _ => ⟨by simp [idx, newS], by simp [newS, newJ, evsAt, evs_zero]⟩, fun h => by simp [JobM.fl, newJ] at h, fun _ => rfl⟩
    · cases hs
  · simp only [newJ, List.getElem?_replicate] at ha
    split at ha
    · simp only [Option.some.injEq] at ha
      subst ha
      refine ⟨by simp [newA, newJ], by simp [newA, newJ], Nat.le_refl _, by simp [newA, newJ, allTo_zero], fun _ => rfl, fun h => by simp [JobM.fl, newJ] at h, fun _ => [], by rw [flat_nil (fun _ => rfl)]; simp [newA], fun i hi s st pipe h1 h2 h3 => ?_⟩
      simp only [newJ, newA, List.getElem?_replicate] at h1 h2 h3 hi
      rw [if_pos hi] at h1 h2 h3
      simp only [Option.some.injEq] at h1 h2 h3
      subst h1 h2 h3
      exact ⟨fun h => by simp [JobM.fl, newJ] at h, fun _ => ⟨by simp [clean], by simp [newS, outs, outsFrom, toA]⟩, fun h => by cases h⟩
    · cases ha

theorem flow_trigger {j : JobM} (h : FlowOk j) : FlowOk j.trigger.2.2 := by
  unfold JobM.trigger
  by_cases hu : j.under = true
  · rw [if_pos hu]
    exact h
  · rw [if_neg hu]
    have hfl : j.fl = false := by unfold JobM.fl; simp [hu]
    refine ⟨h.hW, by simpa using h.lenS, by simpa using h.lenA, h.sent, h.base, fun h => by simp [JobM.fl] at h, fun _ _ => ⟨by simp, by simp⟩, fun _ h => by simp at h, fun i s hs => ?_, fun k a ha => ?_⟩
    · simp only [List.getElem?_map, Option.map_eq_some_iff] at hs
      obtain ⟨s0, hs0, rfl⟩ := hs
      have o := h.sorters i s0 hs0
      rw [hfl] at o
      exact ⟨o.kept_le, o.kept_eq, fun h => by simp [JobM.fl] at h, fun _ => o.free (by simp), fun h => by simp [JobM.fl] at h, fun _ => o.still (by simp)⟩
    · simp only [List.getElem?_map, Option.map_eq_some_iff] at ha
      obtain ⟨a0, ha0, rfl⟩ := ha
      have o := h.adders k a0 ha0
      rw [hfl] at o
      obtain ⟨R, hR, hL⟩ := o.links
      refine ⟨o.lenP, o.lenS, o.kept_le, o.kept_perm, fun _ => o.still (by simp), fun h => by simp [JobM.fl] at h, R, hR, fun i hi s st pipe h1 h2 h3 => ?_⟩
      simp only [List.getElem?_map, Option.map_eq_some_iff] at h1
      obtain ⟨s0, hs0, rfl⟩ := h1
      have l := hL i hi s0 st pipe hs0 h2 h3
      exact ⟨fun h => by simp [JobM.fl] at h, fun _ => l.free (by simp), fun h => by have := (l.stop h).1; cases this⟩

end Go.Proofs.YthccpacmklhejabDoor

namespace Go.Proofs.YthccpacmklhejabDoor

theorem AOk.congrS {E : List Ev} {W k off base : Nat} {fl : Bool} {S S' : List SorterM} {a : AdderM} (h : AOk E W k off base fl S a) (hS : ∀ (i : Nat) (s' : SorterM), S'[i]? = some s' → ∃ s : SorterM, S[i]? = some s ∧ s.got = s'.got ∧ s.passed = s'.passed) : AOk E W k off base fl S' a := by
  obtain ⟨R, hR, hL⟩ := h.links
  refine ⟨h.lenP, h.lenS, h.kept_le, h.kept_perm, h.still, fun h1 h2 => ?_, R, hR, fun i hi s' st pipe h1 h2 h3 => ?_⟩
  · obtain ⟨m1, m2, m3, m4⟩ := h.mark h1 h2
    refine ⟨m1, m2, m3, fun s' hs' => ?_⟩
    obtain ⟨i, hi, rfl⟩ := List.getElem_of_mem hs'
    obtain ⟨s, hs, _, hp⟩ := hS i _ (List.getElem?_eq_getElem hi)
    rw [← hp]
    exact m4 s (List.mem_of_getElem? hs)
  · obtain ⟨s, hs, hg, hp⟩ := hS i s' h1
    have := hL i hi s st pipe hs h2 h3
    rw [hg, hp] at this
    exact this

theorem set_get {α : Type} {l : List α} {i : Nat} {x y : α} {m : Nat} (h : (l.set i x)[m]? = some y) : (m = i ∧ y = x ∧ i < l.length) ∨ (m ≠ i ∧ l[m]? = some y) := by
  rw [List.getElem?_set] at h
  split at h
  · rename_i e
    split at h
    · rename_i hl
      simp only [Option.some.injEq] at h
      exact .inl ⟨e.symm, h.symm, hl⟩
    · cases h
  · rename_i e
    exact .inr ⟨fun x => e x.symm, h⟩

theorem flow_source {j : JobM} (h : FlowOk j) : FlowOk j.source.2 := by
  unfold JobM.source
  by_cases hu : (j.under && !j.barriers) = true
  · rw [if_pos hu]
    simp only [Bool.and_eq_true, Bool.not_eq_true'] at hu
    have hfl : j.fl = false := by unfold JobM.fl; simp [hu.2]
    obtain ⟨f1, f2⟩ := h.fresh hu.1 hu.2
    split
    · exact h
    · refine ⟨h.hW, by simpa using h.lenS, h.lenA, h.sent, h.base, fun _ => ⟨h.base, Nat.le_refl _⟩, fun _ h => by simp at h, fun h1 h2 => ?_, fun i s hs => ?_, fun k a ha => ?_⟩
      · have := (h.comp h1 h2).1
        rw [hu.2] at this
        cases this
      · simp only [List.getElem?_map, Option.map_eq_some_iff] at hs
        obtain ⟨s0, hs0, rfl⟩ := hs
        have o := h.sorters i s0 hs0
        have hp := f1 s0 (List.mem_of_getElem? hs0)
        rw [hfl] at o
        obtain ⟨o1, o2⟩ := o.free (by simp)
        refine ⟨o.kept_le, o.kept_eq, fun _ _ => ⟨s0.pipe, [], rfl, o1, by simp [idx], o2, by simpa [evsAt] using o2⟩, fun hh => ?_, fun _ h2 => ?_, fun _ => o.still (by simp)⟩
        · have := hh (by simp [JobM.fl, hu.1])
          simp only at this
          rw [hp] at this
          cases this
        · simp only at h2
          rw [hp] at h2
          cases h2
      · have o := h.adders k a ha
        have hp := f2 a (List.mem_of_getElem? ha)
        rw [hfl] at o
        obtain ⟨R, hR, hL⟩ := o.links
        refine ⟨o.lenP, o.lenS, o.kept_le, o.kept_perm, fun _ => o.still (by simp), fun _ h2 => (by rw [hp] at h2; cases h2), R, hR, fun i hi s st pipe h1 h2 h3 => ?_⟩
        simp only [List.getElem?_map, Option.map_eq_some_iff] at h1
        obtain ⟨s0, hs0, rfl⟩ := h1
        have l := hL i hi s0 st pipe hs0 h2 h3
        have hps := f1 s0 (List.mem_of_getElem? hs0)
        exact ⟨fun _ h2 => (by simp only at h2; rw [hps] at h2; cases h2), fun _ => l.free (by simp), fun h => by have := (l.stop h).1; cases this⟩
  · rw [if_neg hu]
    split
    · exact h
    · rename_i e he
      split
      · exact h
      · rename_i s hs
        split
        · exact h
        · obtain ⟨hlt, heq⟩ := List.getElem?_eq_some_iff.1 he
          have hsucc := evs_succ (W := j.width) hlt
          rw [heq] at hsucc
          have hmem : ∀ {P : SorterM → Prop}, (∀ x ∈ j.sorters, P x) → P { s with pipe := s.pipe ++ [(j.sent : Int)] } → ∀ x ∈ j.sorters.set (hashS e.key % j.width) { s with pipe := s.pipe ++ [(j.sent : Int)] }, P x := fun h1 h2 x hx => by
            rcases List.mem_or_eq_of_mem_set hx with hx | hx
            · exact h1 x hx
            · rw [hx]; exact h2
          refine ⟨h.hW, by simpa using h.lenS, h.lenA, hlt, Nat.le_succ_of_le h.base, fun hf => ⟨(h.off hf).1, Nat.le_succ_of_le (h.off hf).2⟩, fun h1 h2 => ⟨hmem (h.fresh h1 h2).1 ((h.fresh h1 h2).1 s (List.mem_of_getElem? hs)), (h.fresh h1 h2).2⟩, fun h1 h2 => ⟨(h.comp h1 h2).1, hmem (h.comp h1 h2).2.1 ((h.comp h1 h2).2.1 s (List.mem_of_getElem? hs)), (h.comp h1 h2).2.2⟩, fun i s' hs' => ?_, fun k a ha => ?_⟩
          · rcases set_get hs' with ⟨rfl, rfl, _⟩ | ⟨hne, hs'⟩
            · have o := h.sorters _ s hs
              have hev : evsAt j.events [(j.sent : Int)] = [e] := by
                unfold evsAt
                simp only [List.flatMap_cons, List.flatMap_nil, Int.toNat_natCast, he, Option.toList_some, List.append_nil]
              have hix : idx j.events [(j.sent : Int)] := fun x hx => by
                simp only [List.mem_cons, List.not_mem_nil, or_false] at hx
                subst hx
                simpa using hlt
              have hs1 := hsucc (hashS e.key % j.width)
              rw [if_pos rfl] at hs1
              refine ⟨o.kept_le, o.kept_eq, fun hf hp => ?_, fun hh => ?_, o.mark, o.still⟩
              · obtain ⟨p1, p2, e1, e2, e3, e4, e5⟩ := o.wait hf hp
                refine ⟨p1, p2 ++ [(j.sent : Int)], by simp only [e1, List.append_assoc, List.cons_append], e2, idx_append.2 ⟨e3, hix⟩, e4, ?_⟩
                rw [evsAt_append, hev, ← List.append_assoc]
                simp only
                rw [e5, hs1]
              · obtain ⟨o1, o2⟩ := o.free hh
                refine ⟨idx_append.2 ⟨o1, hix⟩, ?_⟩
                simp only
                rw [evsAt_append, hev, ← List.append_assoc, o2, hs1]
            · have o := h.sorters i s' hs'
              have hs1 := hsucc i
              rw [if_neg (fun x => hne x.symm), List.append_nil] at hs1
              exact ⟨o.kept_le, o.kept_eq, fun hf hp => by
                obtain ⟨p1, p2, e1, e2, e3, e4, e5⟩ := o.wait hf hp
                exact ⟨p1, p2, e1, e2, e3, e4, by simp only; rw [hs1]; exact e5⟩, fun hh => ⟨(o.free hh).1, by simp only; rw [hs1]; exact (o.free hh).2⟩, o.mark, o.still⟩
          · refine (h.adders k a ha).congrS fun i s' hs' => ?_
            rcases set_get hs' with ⟨rfl, rfl, _⟩ | ⟨_, hs'⟩
            · exact ⟨s, hs, rfl, rfl⟩
            · exact ⟨s', hs', rfl, rfl⟩

theorem get_modify {α : Type} {l : List α} {f : α → α} {i m : Nat} {y : α} (h : (l.modify i f)[m]? = some y) : (m = i ∧ ∃ x, l[i]? = some x ∧ y = f x) ∨ (m ≠ i ∧ l[m]? = some y) := by
  rw [List.getElem?_modify] at h
  by_cases e : i = m
  · subst e
    simp only [if_true] at h
    cases hl : l[i]? with
    | none => rw [hl] at h; simp at h
    | some x => rw [hl] at h; simp at h; exact .inl ⟨rfl, x, rfl, h.symm⟩
  · simp only [if_neg e] at h
    refine .inr ⟨fun x => e x.symm, ?_⟩
    cases hl : l[m]? with
    | none => rw [hl] at h; simp at h
    | some x => rw [hl] at h; simp at h; rw [h]

/-- The front of a sorter's pipe. -/
theorem SOk.bar {E : List Ev} {W i sent off base : Nat} {fl : Bool} {s : SorterM} (h : SOk E W i sent off base fl s) {x : Int} {rest : List Int} (hp : s.pipe = x :: rest) (hx : x < 0) : fl = true ∧ s.passed = false ∧ s.got = evs W E off i ∧ idx E rest ∧ s.got ++ evsAt E rest = evs W E sent i := by
  have hno : ¬ (fl = true → s.passed = true) := fun hh => by
    have := (h.free hh).1 x (by rw [hp]; simp)
    omega
  have hfl : fl = true := Classical.byContradiction fun c => hno fun x => absurd x c
  have hpa : s.passed = false := by
    cases hc : s.passed with
    | false => rfl
    | true => exact absurd (fun _ => hc) hno
  obtain ⟨p1, p2, e1, e2, e3, e4, e5⟩ := h.wait hfl hpa
  rw [hp] at e1
  cases p1 with
  | nil =>
    simp only [List.nil_append, List.cons.injEq] at e1
    simp [evsAt] at e4 e5
    rw [e1.2]
    exact ⟨hfl, hpa, e4, e3, by simpa [evsAt] using e5⟩
  | cons y ys =>
    simp only [List.cons_append, List.cons.injEq] at e1
    have := e2 y (by simp)
    omega

theorem SOk.ev {E : List Ev} {W i sent off base : Nat} {fl : Bool} {s : SorterM} (h : SOk E W i sent off base fl s) {x : Int} {rest : List Int} (hp : s.pipe = x :: rest) (hx : ¬ x < 0) {e : Ev} (he : E[x.toNat]? = some e) : SOk E W i sent off base fl { s with got := s.got ++ [e], pipe := rest } := by
  have hev : ∀ l, evsAt E (x :: l) = e :: evsAt E l := fun l => by
    unfold evsAt
    simp [he]
  refine ⟨by simp only [List.length_append]; have := h.kept_le; omega, ?_, fun hf hpa => ?_, fun hh => ?_, fun hf hpa => ?_, h.still⟩
  · simp only
    rw [List.take_append_of_le_length h.kept_le]
    exact h.kept_eq
  · obtain ⟨p1, p2, e1, e2, e3, e4, e5⟩ := h.wait hf hpa
    rw [hp] at e1
    cases p1 with
    | nil =>
      simp only [List.nil_append, List.cons.injEq] at e1
      omega
    | cons y ys =>
      simp only [List.cons_append, List.cons.injEq] at e1
      obtain ⟨rfl, rfl⟩ := e1
      rw [hev] at e4 e5
      exact ⟨ys, p2, rfl, fun z hz => e2 z (by simp [hz]), e3, by simpa using e4, by simpa using e5⟩
  · obtain ⟨o1, o2⟩ := h.free hh
    rw [hp] at o1 o2
    rw [hev] at o2
    exact ⟨fun z hz => o1 z (by simp [hz]), by simpa using o2⟩
  · obtain ⟨m1, m2, m3⟩ := h.mark hf hpa
    refine ⟨m1, by simp only [List.length_append]; omega, ?_⟩
    simp only
    rw [List.take_append_of_le_length m2]
    exact m3

theorem toA_one (W k : Nat) (c : ChgM) : toA W k [c] = if c.pt.toNat % W = k then [c] else [] := by
  unfold toA
  by_cases h : c.pt.toNat % W = k
  · simp [h]
  · simp [h]

/-- A change goes into the pipe. -/
theorem LOk.push {fl sp ap st : Bool} {offO gotO pipe R : List ChgM} (h : LOk fl sp ap st offO gotO pipe R) {c : ChgM} (hc : 0 ≤ c.pt) : LOk fl sp ap st offO (gotO ++ [c]) (pipe ++ [c]) R := by
  have hcl : clean [c] := fun x hx => by
    simp only [List.mem_cons, List.not_mem_nil, or_false] at hx
    rw [hx]; exact hc
  refine ⟨fun a b c' d => ?_, fun hh => ?_, h.stop⟩
  · obtain ⟨q1, q2, e1, e2, e3, e4, e5⟩ := h.mid a b c' d
    exact ⟨q1, q2 ++ [c], by rw [e1]; simp, e2, clean_append.2 ⟨e3, hcl⟩, e4, by rw [← e5]; simp⟩
  · obtain ⟨o1, o2⟩ := h.free hh
    exact ⟨clean_append.2 ⟨o1, hcl⟩, by rw [← o2]; simp⟩

theorem flow_sorts {j : JobM} (h : FlowOk j) (i : Nat) : FlowOk (j.sorts i).2 := by
  unfold JobM.sorts
  split
  · exact h
  · rename_i s hs
    have o := h.sorters i s hs
    split
    · exact h
    · rename_i x rest hp
      split
      · rename_i hx
        split
        · exact h
        · obtain ⟨hfl, hpa, hgot, hix, hrest⟩ := o.bar hp hx
          have hu : j.under = true ∧ j.barriers = true := by simpa [JobM.fl] using hfl
          have hsm := List.mem_of_getElem? hs
          have hap : ∀ a ∈ j.adders, a.passed = false := fun a ha => by
            obtain ⟨k, hk, rfl⟩ := List.getElem_of_mem ha
            cases hc : (j.adders[k]).passed with
            | false => rfl
            | true =>
              have := ((h.adders k _ (List.getElem?_eq_getElem hk)).mark hfl hc).2.2.2 s hsm
              rw [hpa] at this
              cases this
          refine ⟨h.hW, by simpa using h.lenS, by simpa using h.lenA, h.sent, h.base, h.off, fun _ h2 => ?_, fun h1 h2 => ?_, fun i' s' hs' => ?_, fun k a ha => ?_⟩
          · simp only at h2
            rw [hu.2] at h2
            cases h2
          · have := (h.comp h1 h2).2.1 s hsm
            rw [hpa] at this
            cases this
          · rcases set_get hs' with ⟨rfl, rfl, _⟩ | ⟨_, hs'⟩
            · refine ⟨o.kept_le, o.kept_eq, fun _ h2 => (by cases h2), fun _ => ⟨hix, hrest⟩, fun _ _ => ⟨o.kept_le, Nat.le_refl _, ?_⟩, fun hh => by have := hh hfl; cases this⟩
              simp only
              rw [List.take_length]
              exact hgot
            · exact h.sorters i' s' hs'
          · simp only [List.getElem?_map, Option.map_eq_some_iff] at ha
            obtain ⟨a0, ha0, rfl⟩ := ha
            have oa := h.adders k a0 ha0
            have hpa0 := hap a0 (List.mem_of_getElem? ha0)
            obtain ⟨R, hR, hL⟩ := oa.links
            refine ⟨by simpa [AdderM.push] using oa.lenP, oa.lenS, oa.kept_le, oa.kept_perm, oa.still, fun _ h2 => ?_, R, hR, fun i' hi' s' st pipe h1 h2 h3 => ?_⟩
            · have h2' : a0.passed = true := h2
              rw [hpa0] at h2'
              cases h2'
            · have h3' : (a0.pipes.modify i (· ++ [barM]))[i']? = some pipe := h3
              have hcase : i' ≠ i → LOk j.fl s'.passed a0.passed st (toA j.width k (outs (evs j.width j.events j.off i'))) (toA j.width k (outs s'.got)) pipe (R i') := fun hne => by
                rcases get_modify h3' with ⟨e, _⟩ | ⟨_, hp3⟩
                · exact absurd e hne
                · rcases set_get h1 with ⟨e, _⟩ | ⟨_, hs1⟩
                  · exact absurd e hne
                  · exact hL i' hi' s' st pipe hs1 h2 hp3
              by_cases hii : i' = i
              · subst hii
                rcases get_modify h3' with ⟨_, p0, hp0, rfl⟩ | ⟨hne, _⟩
                · rcases set_get h1 with ⟨_, rfl, _⟩ | ⟨hne, _⟩
                  · have l := hL i' hi' s st p0 hs h2 hp0
                    have hst : st = false := by
                      cases hc : st with
                      | false => rfl
                      | true =>
                        have := (l.stop hc).2.1
                        rw [hpa] at this
                        cases this
                    obtain ⟨l1, l2⟩ := l.free (fun hh => by rw [hpa] at hh; exact absurd hh.2.1 (by simp))
                    refine ⟨fun _ _ _ _ => ⟨p0, [], rfl, l1, by simp [clean], ?_, by simpa using l2⟩, fun hh => absurd ⟨hfl, rfl, hpa0, hst⟩ hh, fun hh => by rw [hst] at hh; cases hh⟩
                    rw [l2, hgot]
                  · exact absurd rfl hne
                · exact absurd rfl hne
              · exact hcase hii
      · rename_i hx
        split
        · exact h
        · rename_i e he
          have hso : SOk j.events j.width i j.sent j.off j.base j.fl { s with got := s.got ++ [e], pipe := rest } := o.ev hp hx he
          have hmem : ∀ {P : SorterM → Prop}, (∀ x ∈ j.sorters, P x) → P { s with got := s.got ++ [e], pipe := rest } → ∀ x ∈ j.sorters.set i { s with got := s.got ++ [e], pipe := rest }, P x := fun h1 h2 x hx => by
            rcases List.mem_or_eq_of_mem_set hx with hx | hx
            · exact h1 x hx
            · rw [hx]; exact h2
          have hsm := List.mem_of_getElem? hs
          have hadd : ∀ (a a' : AdderM) (k : Nat), j.adders[k]? = some a → a'.got = a.got → a'.stopped = a.stopped → a'.marked = a.marked → a'.kept = a.kept → a'.passed = a.passed → a'.pipes.length = a.pipes.length →
              (∀ i' pipe', a'.pipes[i']? = some pipe' → ∃ pipe, a.pipes[i']? = some pipe ∧ ((i' ≠ i ∧ pipe' = pipe) ∨ (i' = i ∧ pipe' = pipe ++ toA j.width k (out1 s.got e)))) → AOk j.events j.width k j.off j.base j.fl (j.sorters.set i { s with got := s.got ++ [e], pipe := rest }) a' := fun a a' k ha e1 e2 e3 e4 e5 e6 e7 => by
            have oa := h.adders k a ha
            obtain ⟨R, hR, hL⟩ := oa.links
            refine ⟨e6.trans oa.lenP, by rw [e2]; exact oa.lenS, by rw [e4, e1]; exact oa.kept_le, by rw [e1, e4]; exact oa.kept_perm, by rw [e5, e3, e4]; exact oa.still, fun h1 h2 => ?_, R, by rw [e1]; exact hR, fun i' hi' s' st pipe h1 h2 h3 => ?_⟩
            · rw [e5] at h2
              obtain ⟨m1, m2, m3, m4⟩ := oa.mark h1 h2
              rw [e3, e4, e1]
              exact ⟨m1, m2, m3, hmem m4 (m4 s hsm)⟩
            · rw [e2] at h2
              rw [e5]
              obtain ⟨p0, hp0, hc⟩ := e7 i' pipe h3
              rcases set_get h1 with ⟨rfl, rfl, _⟩ | ⟨hne, hs1⟩
              · rcases hc with ⟨hne, _⟩ | ⟨_, rfl⟩
                · exact absurd rfl hne
                · have l := hL i' hi' s st p0 hs h2 hp0
                  have hg : toA j.width k (outs (s.got ++ [e])) = toA j.width k (outs s.got) ++ toA j.width k (out1 s.got e) := by rw [outs_snoc, toA_append]
                  simp only
                  rw [hg]
                  unfold out1
                  by_cases c : (knOf e.key s.got).counts e = true
                  · rw [if_pos c, toA_one]
                    split
                    · exact l.push (Int.natCast_nonneg _)
                    · rw [List.append_nil, List.append_nil]
                      exact l
                  · rw [if_neg c]
                    simp only [toA, List.filter_nil, List.append_nil]
                    exact l
              · rcases hc with ⟨_, rfl⟩ | ⟨e, _⟩
                · exact hL i' hi' s' st pipe hs1 h2 hp0
                · exact absurd e hne
          split
          · rename_i hcn
            split
            · exact h
            · rename_i a ha
              split
              · exact h
              · have ho1 : out1 s.got e = [chgOf (knOf e.key s.got) e] := by unfold out1; rw [if_pos hcn]
                have hpt : (chgOf (knOf e.key s.got) e).pt.toNat = (grp e.key).1 := Int.toNat_natCast _
                have hmemA : ∀ {P : AdderM → Prop} (a' : AdderM), (∀ x ∈ j.adders, P x) → P a' → ∀ x ∈ j.adders.set ((grp e.key).1 % j.width) a', P x := fun a' h1 h2 x hx => by
                  rcases List.mem_or_eq_of_mem_set hx with hx | hx
                  · exact h1 x hx
                  · rw [hx]; exact h2
                have ham := List.mem_of_getElem? ha
                refine ⟨h.hW, by simpa using h.lenS, by simpa using h.lenA, h.sent, h.base, h.off, fun h1 h2 => ⟨hmem (h.fresh h1 h2).1 ((h.fresh h1 h2).1 s hsm), hmemA _ (h.fresh h1 h2).2 ((h.fresh h1 h2).2 a ham)⟩, fun h1 h2 => ⟨(h.comp h1 h2).1, hmem (h.comp h1 h2).2.1 ((h.comp h1 h2).2.1 s hsm), hmemA _ (h.comp h1 h2).2.2 ((h.comp h1 h2).2.2 a ham)⟩, fun i' s' hs' => ?_, fun k a' ha' => ?_⟩
                · rcases set_get hs' with ⟨rfl, rfl, _⟩ | ⟨_, hs'⟩
                  · exact hso
                  · exact h.sorters i' s' hs'
                · rcases set_get ha' with ⟨rfl, rfl, _⟩ | ⟨hne, ha'⟩
                  · refine hadd a _ _ ha rfl rfl rfl rfl rfl (by simp [AdderM.push]) fun i' pipe' hp' => ?_
                    rcases get_modify (show (a.pipes.modify i (· ++ [chgOf (knOf e.key s.got) e]))[i']? = some pipe' from hp') with ⟨rfl, p0, hp0, rfl⟩ | ⟨hne, hp0⟩
                    · exact ⟨p0, hp0, .inr ⟨rfl, by rw [ho1, toA_one, hpt, if_pos rfl]⟩⟩
                    · exact ⟨pipe', hp0, .inl ⟨hne, rfl⟩⟩
                  · refine hadd a' a' k ha' rfl rfl rfl rfl rfl rfl fun i' pipe' hp' => ⟨pipe', hp', ?_⟩
                    by_cases hii : i' = i
                    · exact .inr ⟨hii, by rw [ho1, toA_one, hpt, if_neg (fun x => hne x.symm), List.append_nil]⟩
                    · exact .inl ⟨hii, rfl⟩
          · rename_i hcn
            have ho1 : out1 s.got e = [] := by unfold out1; rw [if_neg hcn]
            refine ⟨h.hW, by simpa using h.lenS, h.lenA, h.sent, h.base, h.off, fun h1 h2 => ⟨hmem (h.fresh h1 h2).1 ((h.fresh h1 h2).1 s hsm), (h.fresh h1 h2).2⟩, fun h1 h2 => ⟨(h.comp h1 h2).1, hmem (h.comp h1 h2).2.1 ((h.comp h1 h2).2.1 s hsm), (h.comp h1 h2).2.2⟩, fun i' s' hs' => ?_, fun k a' ha' => ?_⟩
            · rcases set_get hs' with ⟨rfl, rfl, _⟩ | ⟨_, hs'⟩
              · exact hso
              · exact h.sorters i' s' hs'
            · refine hadd a' a' k ha' rfl rfl rfl rfl rfl rfl fun i' pipe' hp' => ⟨pipe', hp', ?_⟩
              by_cases hii : i' = i
              · exact .inr ⟨hii, by rw [ho1]; simp [toA]⟩
              · exact .inl ⟨hii, rfl⟩

end Go.Proofs.YthccpacmklhejabDoor
