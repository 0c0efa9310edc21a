/-
  Events of one key whose Seqs rise one by one; a second key of the group. canalkeep.number.
-/
import Derived.Test.YthccpacmklhejaaDoorLogs
import Derived.Test.YthccpacmklhejaaDoorTwiceMath
namespace Go.Proofs.YthccpacmklhejaaDoor
open Go.RowKit

def kQ : ByteArray := ⟨#[113]⟩
def kQQ : ByteArray := ⟨#[113, 113]⟩

/-- What the walk over the events of one key keeps up. -/
structure QSt (first : Int) (es : List Ev) (there : Bool) (value : Int) (n : Nat) : Prop where
  good : ∀ e ∈ es, Good e ∧ e.key = kQ
  len : es.length = n
  kn : knOf kQ es = if n = 0 then Kn.none else ⟨true, ((first + ((n : Int) - 1)) % 65536).toNat, there, value, n⟩
  zero : there = false → value = 0
  none : n = 0 → there = false
  range : -32768 ≤ value ∧ value ≤ 32767

theorem QSt.new (first : Int) : QSt first [] false 0 0 := ⟨by simp, rfl, rfl, fun _ => rfl, fun _ => rfl, by omega⟩

theorem QSt.step {first : Int} {es : List Ev} {there : Bool} {value : Int} {n : Nat} (h : QSt first es there value n) {op : Nat} {val : Int} (hg : Good ⟨op, kQ, ((first + (n : Int)) % 65536).toNat, val⟩) (hz : ¬ op = 1 → val = 0) :
    QSt first (es ++ [⟨op, kQ, ((first + (n : Int)) % 65536).toNat, val⟩]) (decide (op = 1)) val (n + 1) := by
  refine ⟨?_, by simp [h.len], ?_, fun hd => hz (by simpa using hd), fun h0 => by omega, hg.2.2.2⟩
  · intro e he
    rcases List.mem_append.1 he with he | he
    · exact h.good e he
    · simp at he
      subst he
      exact ⟨hg, rfl⟩
  · rw [knOf_append, if_pos rfl, h.kn, if_neg (show ¬ n + 1 = 0 by omega)]
    by_cases h0 : n = 0
    · subst h0
      rw [if_pos rfl]
      unfold Kn.step Kn.counts Kn.none
      simp
    · rw [if_neg h0]
      have hc : (Kn.mk true ((first + ((n : Int) - 1)) % 65536).toNat there value n).counts ⟨op, kQ, ((first + (n : Int)) % 65536).toNat, val⟩ = true := by
        unfold Kn.counts wrap16
        simp only [Bool.not_true, Bool.false_or, decide_eq_true_eq]
        split <;> omega
      unfold Kn.step
      rw [if_pos hc]
      simp

theorem grpQ : (grp kQ).1 = 113 := by decide +kernel
theorem grpQQ : (grp kQQ).1 = 113 := by decide +kernel

theorem QSt.total {first : Int} {es : List Ev} {there : Bool} {value : Int} {n : Nat} (h : QSt first es there value n) (f : Kn → Int) (h0 : f Kn.none = 0) : tot f es 113 = f (knOf kQ es) := by
  by_cases hn : n = 0
  · have : es = [] := List.length_eq_zero_iff.1 (h.len.trans hn)
    subst this
    rw [knOf_nil, h0]
    rfl
  · unfold tot
    have hm : ∀ k, k ∈ keysOf es ↔ k ∈ [kQ] := by
      intro k
      rw [mem_keysOf]
      constructor
      · rintro ⟨e, he, rfl⟩
        simp [(h.good e he).2]
      · intro hk
        simp at hk
        subst hk
        obtain ⟨e, he⟩ := List.exists_mem_of_ne_nil es (fun x => by subst x; exact hn h.len.symm)
        exact ⟨e, he, (h.good e he).2⟩
    rw [sumK_same (keysOf_nodup es) (by simp) hm]
    simp [sumK, grpQ]

theorem ne_keys : ¬ kQQ = kQ := by decide +kernel

theorem QSt.fold {first : Int} {es : List Ev} {there : Bool} {value : Int} {n : Nat} (h : QSt first es there value n) (hn : n ≤ 30) (sq : Nat) (o : Int) :
    foldB (es ++ [⟨1, kQQ, sq, o⟩]) = [113, 32] ++ decI (if there then 2 else 1) ++ [32] ++ decI (wrap16 (value + o)) ++ [32] ++ decI ((n : Int) + 1) ++ [59] := by
  have hab : kQQ ∉ keysOf es := by
    intro hm
    obtain ⟨e, he, hk⟩ := (mem_keysOf _ _).1 hm
    exact ne_keys (hk.symm.trans (h.good e he).2)
  have hkn : knOf kQQ es = Kn.none := knOf_absent hab
  have hst : Kn.none.step ⟨1, kQQ, sq, o⟩ = ⟨true, sq, true, o, 1⟩ := rfl
  have ht : ∀ f, f Kn.none = 0 → tot f (es ++ [⟨1, kQQ, sq, o⟩]) 113 = f (knOf kQ es) + f ⟨true, sq, true, o, 1⟩ := by
    intro f hf
    rw [tot_snoc f hf, h.total f hf]
    simp only [grpQQ, if_true, hkn, hst, hf]
    omega
  have hp : ptsOf (es ++ [⟨1, kQQ, sq, o⟩]) = [113] := by
    refine sorted_eq (ptsOf_sorted _) (by simp) fun p => ?_
    rw [mem_ptsOf]
    constructor
    · rintro ⟨k, hk, rfl⟩
      obtain ⟨e, he, rfl⟩ := (mem_keysOf _ _).1 hk
      rcases List.mem_append.1 he with he | he
      · rw [(h.good e he).2, grpQ]
        simp
      · simp at he
        subst he
        simp [grpQQ]
    · intro hm
      simp at hm
      subst hm
      exact ⟨kQQ, (mem_keysOf _ _).2 ⟨(⟨1, kQQ, sq, o⟩ : Ev), by simp, rfl⟩, grpQQ⟩
  have hl : tot fLive (es ++ [⟨1, kQQ, sq, o⟩]) 113 = if there then 2 else 1 := by
    rw [ht fLive rfl, h.kn]
    by_cases h0 : n = 0
    · rw [if_pos h0, h.none h0]
      rfl
    · rw [if_neg h0]
      unfold fLive
      cases there <;> rfl
  have hs : tot fSum (es ++ [⟨1, kQQ, sq, o⟩]) 113 = value + o := by
    rw [ht fSum rfl, h.kn]
    by_cases h0 : n = 0
    · rw [if_pos h0, h.zero (h.none h0)]
      rfl
    · rw [if_neg h0]
      unfold fSum
      have := h.zero
      cases there <;> simp_all
  have hc : tot fCnt (es ++ [⟨1, kQQ, sq, o⟩]) 113 = (n : Int) + 1 := by
    rw [ht fCnt rfl, h.kn]
    by_cases h0 : n = 0
    · rw [if_pos h0, h0]
      rfl
    · rw [if_neg h0]
      rfl
  have he : (Utf8.encode ((113 : Nat) : Int)).data.toList = [113] := by decide +kernel
  unfold foldB
  rw [hp]
  simp only [List.flatMap_cons, List.flatMap_nil, List.append_nil, hl, hs, hc]
  unfold textAt
  rw [he, show ((n : Int) + 1) % 256 = (n : Int) + 1 from by omega]
  simp

theorem qq_good (sq : Nat) (o : Int) (h1 : sq < 65536) (h2 : -32768 ≤ o ∧ o ≤ 32767) : Good ⟨1, kQQ, sq, o⟩ := by
  have hv : validB kQQ = true := by decide +kernel
  refine ⟨?_, by unfold Ev.ok; exact ⟨by show 1 < 256; decide, h1, h2.1, h2.2⟩⟩
  unfold refuse
  simp [hv]

theorem q_good (op : Nat) (sq : Nat) (o : Int) (hop : op = 1 ∨ op = 2) (hz : op = 2 → o = 0) (h1 : sq < 65536) (h2 : -32768 ≤ o ∧ o ≤ 32767) : Good ⟨op, kQ, sq, o⟩ := by
  have hv : validB kQ = true := by decide +kernel
  refine ⟨?_, by unfold Ev.ok; exact ⟨by simp only; omega, h1, h2.1, h2.2⟩⟩
  unfold refuse
  rcases hop with rfl | rfl
  · simp [hv]
  · simp [hv, hz rfl]

set_option maxRecDepth 100000 in
set_option maxHeartbeats 200000 in
theorem numberN : ∀ (k n : Nat) (w : World), n < 10 ^ (k + 1) → n ≤ 4611686018427387904 → k ≤ 30 →
    Calls Tryd.prog 15 #[.int .i64 (n : Int)] w fun e w' => e = .returned (.string ⟨(decN n).toArray⟩) ∧ Below w.heap.size w w' := by
  intro k
  induction k with
  | zero =>
    intro n w h hm _
    have hn : n < 10 := by omega
    rw [decN_small hn]
    have q2 : (n : Int).tmod 10 = (n : Int) := by rw [Int.tmod_eq_emod_of_nonneg (by omega)]; omega
    have hc := conv_one (W := w.alloc (.cells #[.int .u8 (48 + (n : Int))] 5)) (B := w.heap.size) (c := 1) (x := 48 + (n : Int)) (by omega) (by omega) (by simp)
    have hby : byteOf (48 + (n : Int)) = dig n := by unfold byteOf dig; congr 1
    rw [hby] at hc
    have hw8 : IntKind.u8.wrap (48 + (n : Int)) = 48 + (n : Int) := by rw [IntKind.wrap_u8]; omega
    clear hby
    go_enter Tryd.func15, Tryd.ntmps15
    go_wp2
    go_ret
    exact ⟨rfl, (Below.refl _ _).alloc (Nat.le_refl _) _⟩
  | succ k ih =>
    intro n w h hm hk
    obtain ⟨d, hd⟩ : ∃ d, n % 10 = d := ⟨_, rfl⟩
    have hd10 : d < 10 := by omega
    have q2 : (n : Int).tmod 10 = (d : Int) := by rw [Int.tmod_eq_emod_of_nonneg (by omega)]; omega
    have hc := conv_one (W := w.alloc (.cells #[.int .u8 (48 + (d : Int))] 5)) (B := w.heap.size) (c := 1) (x := 48 + (d : Int)) (by omega) (by omega) (by simp)
    have hby : byteOf (48 + (d : Int)) = dig d := by unfold byteOf dig; congr 1
    rw [hby] at hc
    have hw8 : IntKind.u8.wrap (48 + (d : Int)) = 48 + (d : Int) := by rw [IntKind.wrap_u8]; omega
    clear hby
    by_cases hn : n < 10
    · rw [decN_small hn]
      have hmn : n = d := by omega
      subst hmn
      clear ih hd
      go_enter Tryd.func15, Tryd.ntmps15
      go_wp2
      go_ret
      exact ⟨rfl, (Below.refl _ _).alloc (Nat.le_refl _) _⟩
    · rw [decN_big hn, hd]
      obtain ⟨u, hu⟩ : ∃ u, n / 10 = u := ⟨_, rfl⟩
      rw [hu]
      have hI : Hid (∀ w, Calls Tryd.prog 15 #[.int .i64 (u : Int)] w fun e w' => e = .returned (.string ⟨(decN u).toArray⟩) ∧ Below w.heap.size w w') := fun w => ih u w (by rw [Nat.pow_succ] at h; omega) (by omega) (by omega)
      clear ih
      have hlen : (decN u).length ≤ 31 := Nat.le_trans (decN_length k u (by rw [Nat.pow_succ] at h; omega)) (by omega)
      have q1 : (n : Int).tdiv 10 = (u : Int) := by rw [Int.tdiv_eq_ediv_of_nonneg (by omega)]; omega
      have q1' : (n : Int) / 10 = (u : Int) := by omega
      have q2' : (n : Int) % 10 = (d : Int) := by omega
      generalize decN u = ds at hI hlen
      have hp := str_push ds (dig d)
      have hn10 : (10 : Int) ≤ (n : Int) := by omega
      have hb0 : Below w.heap.size w (w.alloc (.cells #[.int .u8 (48 + (d : Int))] 5)) := (Below.refl _ _).alloc (Nat.le_refl _) _
      clear hd hu h
      go_enter Tryd.func15, Tryd.ntmps15
      go_wp2_with fail
      refine (hI.out _).mono ?_
      rintro e w1 ⟨rfl, hb1⟩
      go_wp2
      go_ret
      refine ⟨?_, hb0.trans (hb1.mono hb0.size)⟩
      rw [← hp]
      rfl

set_option maxRecDepth 100000 in
set_option maxHeartbeats 400000 in
theorem cnumber_any (n : Int) (w : World) (h1 : -100000 ≤ n) (h2 : n ≤ 100000) :
    Calls Tryd.prog 15 #[.int .i64 n] w fun e w' => e = .returned (.string ⟨(decI n).toArray⟩) ∧ Below w.heap.size w w' := by
  unfold decI
  by_cases hn : n < 0
  · rw [if_pos hn]
    have hI : Hid (∀ w, Calls Tryd.prog 15 #[.int .i64 (((-n).toNat : Nat) : Int)] w fun e w' => e = .returned (.string ⟨(decN (-n).toNat).toArray⟩) ∧ Below w.heap.size w w') := fun w => numberN 6 (-n).toNat w (by omega) (by omega) (by omega)
    have hlen : (decN (-n).toNat).length ≤ 7 := decN_length 6 _ (by omega)
    generalize decN (-n).toNat = ds at hI hlen
    rw [show (((-n).toNat : Nat) : Int) = -n from by omega] at hI
    have hp := str_minus ds
    go_enter Tryd.func15, Tryd.ntmps15
    go_wp2_with (go_at_call 15; refine (hI.out _).mono ?_; rintro e w1 ⟨rfl, hb1⟩)
    go_ret
    exact ⟨rfl, hb1⟩
  · rw [if_neg hn]
    have := numberN 6 n.toNat w (by omega) (by omega) (by omega)
    rw [show ((n.toNat : Nat) : Int) = n from by omega] at this
    exact this
end Go.Proofs.YthccpacmklhejaaDoor
