/-
  canalkeep.encoded, told, one.
-/
import Derived.Test.YthccpacmklhejaaDoorRaw
import Derived.Test.YthccpacmklhejaaDoorFoldC
namespace Go.Proofs.YthccpacmklhejaaDoor
open Go.RowKit

/-- A list of raw numbers that came in. -/
def IsRaws (w : World) (a : Option Addr) (rs : List RawV) : Prop :=
  (∀ r ∈ rs, r.ok) ∧ (rs = [] ∨ ∃ b off, a = some ⟨b, off, none⟩ ∧ b < w.heap.size ∧ ∀ k (h : k < rs.length),
    w.cell? ⟨b, off + k * 4, none⟩ = some (.bool (rs[k]).drop) ∧ w.cell? ⟨b, off + k * 4 + 1, none⟩ = some (.int .i64 (rs[k]).key) ∧ w.cell? ⟨b, off + k * 4 + 2, none⟩ = some (.int .i64 (rs[k]).seq) ∧ w.cell? ⟨b, off + k * 4 + 3, none⟩ = some (.int .i64 (rs[k]).val))

def recEs (rs : List RawV) (low : Bool) : List Ev := rs.map fun r => recE r low

theorem recEs_good (rs : List RawV) (low : Bool) : ∀ e ∈ recEs rs low, Good e := by
  intro e he
  obtain ⟨r, _, rfl⟩ := List.mem_map.1 he
  exact recE_good r low

theorem recs_take_succ (es : List Ev) (k : Nat) (h : k < es.length) : recs (es.take (k + 1)) = recs (es.take k) ++ recB es[k] := by
  rw [List.take_succ_eq_append_getElem h, recs_append, recs_one]

set_option maxRecDepth 100000 in
set_option maxHeartbeats 2000000 in
theorem encoded_any (a : Option Addr) (cap : Nat) (rs : List RawV) (low : Bool) (room : Nat) (w : World) (hr : room ≤ 400) (hlen : rs.length ≤ 9223372036854775807) (hev : IsRaws w a rs) :
    Calls Tryd.prog 10 #[.slice a rs.length cap, .bool low, .int .i64 (room : Int)] w fun en w' => (∃ (n : Nat) (tx : ByteArray), en = .returned (.tuple #[.string tx, .int .i64 (n : Int), .bool true]) ∧
      Hid (n ≤ rs.length ∧ tx.data.toList = recs ((recEs rs low).take n) ∧ tx.size ≤ room ∧ (n = rs.length ∨ room < (recs ((recEs rs low).take (n + 1))).length))) ∧ Below w.heap.size w w' := by
  have Hev := show Hid (IsRaws w a rs) from hev
  clear hev
  have hll : (recEs rs low).length = rs.length := by simp [recEs]
  go_enter Tryd.func10, Tryd.ntmps10
  go_wp2
  go_loopw [9, 10, 11] (fun lg n i wr => ∃ (k : Nat) (tx : ByteArray), k ≤ rs.length ∧ i = .int .i64 (k : Int) ∧ n = .int .i64 (k : Int) ∧ lg = .string tx ∧ Hid (tx.data.toList = recs ((recEs rs low).take k)) ∧ tx.size ≤ room ∧ Below w.heap.size w wr) (fun _ _ i _ => rs.length - (intOf i).toNat)
  case atStart => exact ⟨0, ⟨#[]⟩, Nat.zero_le _, rfl, rfl, rfl, by show _ = _; simp [recs], by simp [ByteArray.size], Below.refl _ _⟩
  case round =>
    obtain ⟨k, tx, hk, rfl, rfl, rfl, htx, hts, hb⟩ := hrel
    by_cases hkl : k < rs.length
    · rcases Hev.out.2 with h0 | ⟨b, off, rfl, hbl, hcs⟩
      · rw [h0] at hkl; simp at hkl
      obtain ⟨d0, d1, d2, d3⟩ := hcs k hkl
      have q0 := (hb.cell (p := ⟨b, off + k * 4, none⟩) hbl).trans d0
      have q1 := (hb.cell (p := ⟨b, off + k * 4 + 1, none⟩) hbl).trans d1
      have q2 := (hb.cell (p := ⟨b, off + k * 4 + 2, none⟩) hbl).trans d2
      have q3 := (hb.cell (p := ⟨b, off + k * 4 + 3, none⟩) hbl).trans d3
      have hok := Hev.out.1 (rs[k]'hkl) (List.getElem_mem hkl)
      have hsu := recs_take_succ (recEs rs low) k (by omega)
      have hek : (recEs rs low)[k]'(by omega) = recE (rs[k]'hkl) low := by simp [recEs]
      rw [hek] at hsu
      have hgd := recE_good (rs[k]'hkl) low
      have HR := show Hid _ from fun (_ : Unit) => record_any (rs[k]'hkl) low wr hok
      have hE := show Hid _ from fun w => cencode_any (recE (rs[k]'hkl) low) w hgd.2.2.1
      have hel := encStr_list hgd.1
      rw [hgd.1] at hE
      clear d0 d1 d2 d3 hcs hok hek
      generalize recE (rs[k]'hkl) low = e at hsu hgd HR hE hel
      generalize rs[k]'hkl = r at q0 q1 q2 q3 HR
      obtain ⟨rd, rk, rq, rv⟩ := r
      unfold RawV.value at HR
      simp only at q0 q1 q2 q3 HR
      have hes := size_list (encStr e)
      rw [hel] at hes
      have hrl := recB_length e
      have hkl8 := key_le hgd.1
      have hsz : (encStr e).size ≤ 15 := by
        rw [← hes, hrl]
        split <;> omega
      have Hel := show Hid _ from hel
      have Hsu := show Hid _ from hsu
      clear hel hsu hgd hes hrl hkl8
      obtain ⟨op, key, seq, val⟩ := e
      unfold Ev.value at HR hE
      simp only at HR hE
      generalize encStr ⟨op, key, seq, val⟩ = t at hE Hel hsz
      have hki : (k : Int) < (rs.length : Int) := by omega
      have hk0 : (0 : Int) ≤ (k : Int) := by omega
      have Hb := show Hid (Below w.heap.size w wr) from hb
      clear hb
      by_cases hrm : room < tx.size + t.size
      · have hrmi : (room : Int) < (tx.size : Int) + (t.size : Int) := by omega
        go_wp2_with (first
          | (go_at_call 13; refine (HR.out ()).mono ?_; rintro en w2 ⟨rfl, hb2⟩)
          | (go_at_call 14; refine (hE.out _).mono ?_; rintro en w3 ⟨rfl, hb3⟩))
        go_ret3
        refine ⟨⟨k, tx, rfl, by omega, htx.out, hts, .inr ?_⟩, (Hb.out.trans (hb2.mono Hb.out.size)).trans (hb3.mono (Nat.le_trans Hb.out.size hb2.size))⟩
        rw [Hsu.out, List.length_append, ← htx.out, ← Hel.out, size_list, size_list]
        exact hrm
      · have hrmi : ¬ ((room : Int) < (tx.size : Int) + (t.size : Int)) := by omega
        go_wp2_with (first
          | (go_at_call 13; refine (HR.out ()).mono ?_; rintro en w2 ⟨rfl, hb2⟩)
          | (go_at_call 14; refine (hE.out _).mono ?_; rintro en w3 ⟨rfl, hb3⟩))
        go_roundw
        case rel => exact ⟨k + 1, tx ++ t, by omega, by go_num, by go_num, rfl, by show _ = _; rw [Hsu.out, ByteArray.data_append, Array.toList_append, htx.out, Hel.out], by rw [ByteArray.size_append]; omega, (Hb.out.trans (hb2.mono Hb.out.size)).trans (hb3.mono (Nat.le_trans Hb.out.size hb2.size))⟩
        case measure => simp [intOf]; omega
    · have hkk : k = rs.length := by omega
      go_wp2
      go_ret3
      exact ⟨⟨k, tx, rfl, hk, htx.out, hts, .inl hkk⟩, hb⟩

set_option maxRecDepth 100000 in
set_option maxHeartbeats 1000000 in
theorem told_any (s : ByteArray) (es : List Ev) (m : Nat) (w : World) (h : s.size ≤ 400) (hp : Parsed s es m) (ht : Tab w) :
    Calls Tryd.prog 11 #[.string s, .int .i64 (es.length : Int)] w fun en w' => en = .returned (.tuple #[.string ⟨(foldB es).toArray⟩, .bool true]) ∧ Below w.heap.size w w' := by
  have h1 := show Hid _ from fun (w : World) (ht : Tab w) => cfold_of (fold_ok s es.length w h es m hp (Nat.le_refl _) ht)
  have h2 := show Hid _ from fun (w : World) => cfold_of (fold_bad s ((es.length : Int) + 1) w h es m hp (.inr (by omega)))
  rw [List.take_length] at h1
  have hf := hp.few
  have hl : (es.length : Int) ≤ 400 := by omega
  have hl0 : (0 : Int) ≤ (es.length : Int) := by omega
  have Ht := show Hid (Tab w) from ht
  clear ht hp hf
  generalize (⟨(foldB es).toArray⟩ : ByteArray) = F at h1 ⊢
  generalize es.length = n at h1 h2 hl hl0 ⊢
  go_enter Tryd.func11, Tryd.ntmps11
  go_wp2_with fail
  refine (h1.out _ Ht.out).mono ?_
  rintro e w1 ⟨rfl, hb1⟩
  go_wp2_with (go_at_call 25; refine (h2.out _).mono ?_; rintro e w2 ⟨rfl, hb2⟩)
  go_ret2
  exact ⟨rfl, hb1.trans (hb2.mono hb1.size)⟩

def evOne : List Ev := [⟨1, ⟨#[97]⟩, 1, 5⟩, ⟨1, ⟨#[97, 98]⟩, 1, 7⟩]
def logOne : ByteArray := ⟨#[1, 1, 97, 0, 1, 0, 5, 105, 1, 2, 97, 98, 0, 1, 0, 7, 206]⟩

theorem one_parsed : Parsed logOne evOne 17 := by
  refine ⟨?_, by decide +kernel, by decide, .inl (by decide +kernel)⟩
  intro e he
  simp [evOne] at he
  rcases he with rfl | rfl
  · exact ⟨by decide +kernel, by unfold Ev.ok; decide⟩
  · exact ⟨by decide +kernel, by unfold Ev.ok; decide⟩

theorem one_fold : foldB evOne = [97, 32, 50, 32, 49, 50, 32, 50, 59] := by
  have h1 : ptsOf evOne = [97] := by decide +kernel
  have h2 : tot fLive evOne 97 = 2 := by decide +kernel
  have h3 : tot fSum evOne 97 = 12 := by decide +kernel
  have h4 : tot fCnt evOne 97 = 2 := by decide +kernel
  have h5 : (Utf8.encode ((97 : Nat) : Int)).data.toList = [97] := by decide +kernel
  unfold foldB
  rw [h1]
  simp only [List.flatMap_cons, List.flatMap_nil, List.append_nil, h2, h3, h4]
  unfold textAt
  rw [h5, show wrap16 12 = 12 from by decide, show (2 : Int) % 256 = 2 from by decide]
  unfold decI
  simp [decN_small, decN_big, dig]

set_option maxRecDepth 100000 in
set_option maxHeartbeats 1000000 in
theorem one_any (w : World) (ht : Tab w) :
    Calls Tryd.prog 9 #[] w fun en w' => en = .returned (.bool true) ∧ Below w.heap.size w w' := by
  have h1 := show Hid _ from fun (_ : Unit) => cfold_of (fold_ok logOne 2 w (by decide) evOne 17 one_parsed (by decide) ht)
  rw [show evOne.take 2 = evOne from rfl, one_fold] at h1
  unfold logOne at h1
  clear ht
  go_enter Tryd.func9, Tryd.ntmps9
  go_wp2_with (go_at_call 25; refine (h1.out ()).mono ?_; rintro e w1 ⟨rfl, hb1⟩)
  go_ret
  exact ⟨rfl, hb1⟩
end Go.Proofs.YthccpacmklhejaaDoor
