/-
  Several texts in one.
-/
import Derived.Test.YthccpacmklhejabDoorK02
import Derived.Lib.DecodeN
import Derived.Laws.RangeAny
import Derived.Deep.QuietTactic
import Derived.BigQuiet
import Derived.Deep.RegionHeld3
namespace Go.Proofs.YthccpacmklhejabDoor

/-- The runes from pos on, each written again. -/
def catFrom (s : ByteArray) : Nat → Nat → List UInt8
  | 0, _ => []
  | f + 1, pos => if pos < s.size then (Utf8.encode (Utf8.decode s pos).1).data.toList ++ catFrom s f (pos + (Utf8.decode s pos).2) else []

theorem catFrom_end (s : ByteArray) (fuel pos : Nat) (h : ¬ pos < s.size) : catFrom s fuel pos = [] := by cases fuel <;> simp [catFrom, h]

def properB (s : ByteArray) : Bool := decide (1 ≤ s.size) && decide (s.size ≤ 8) && (catFrom s s.size 0 == s.data.toList)

theorem get!_gb (s : ByteArray) (i : Nat) : (s.get! i).toNat = gb s i := by
  unfold gb
  cases s with
  | mk d =>
    simp [ByteArray.get!, List.getD_eq_getElem?_getD]
    rw [getElem!_def]
    cases d[i]? <;> rfl

theorem drop_cons (s : ByteArray) (pos : Nat) (h : pos < s.size) : s.data.toList.drop pos = UInt8.ofNat (gb s pos) :: s.data.toList.drop (pos + 1) := by
  rw [List.drop_eq_getElem_cons (by rw [size_list]; exact h)]
  congr 1
  rw [← gb_at s pos h]
  simp
  rfl

theorem ofNat_eq {a b : Nat} (h : a = b) : UInt8.ofNat a = UInt8.ofNat b := by rw [h]

/-- Either the byte opens nothing, or the rune's bytes stand there. -/
theorem rune_cases (s : ByteArray) (pos : Nat) (h : pos < s.size) :
    Utf8.decode s pos = (65533, 1) ∨
    ((Utf8.encode (Utf8.decode s pos).1).data.toList ++ s.data.toList.drop (pos + (Utf8.decode s pos).2) = s.data.toList.drop pos ∧ (Utf8.encode (Utf8.decode s pos).1).data.toList.length = (Utf8.decode s pos).2) := by
  have b0 := gb_lt s pos
  have b1 := gb_lt s (pos + 1)
  have b2 := gb_lt s (pos + 2)
  have b3 := gb_lt s (pos + 3)
  rw [Lib.decode_at]
  simp only [get!_gb]
  unfold Lib.decodeN
  by_cases c1 : gb s pos < 128
  · right
    rw [if_pos c1]
    simp only
    have hv : Utf8.valid (gb s pos : Int) = true := by simp [Utf8.valid]; omega
    have e : (Utf8.encode (gb s pos : Int)).data.toList = [UInt8.ofNat (gb s pos)] := by
      unfold Utf8.encode
      simp only [hv, if_true]
      rw [if_pos (by omega)]
      rfl
    rw [e, drop_cons s pos h]
    simp
  rw [if_neg c1]
  by_cases c2 : gb s pos / 32 = 6 ∧ (1 < s.size - pos ∧ gb s (pos + 1) / 64 = 2)
  · rw [if_pos c2]
    split
    · right
      rename_i c3
      simp only
      generalize hc : gb s pos % 32 * 64 + gb s (pos + 1) % 64 = c at c3
      have hv : Utf8.valid (c : Int) = true := by simp [Utf8.valid]; omega
      have e : (Utf8.encode (c : Int)).data.toList = [UInt8.ofNat (gb s pos), UInt8.ofNat (gb s (pos + 1))] := by
        unfold Utf8.encode
        simp only [hv, if_true, Int.toNat_natCast]
        rw [if_neg (by omega), if_pos (by omega)]
        simp only
        rw [ofNat_eq (show 192 + c / 64 = gb s pos by omega), ofNat_eq (show 128 + c % 64 = gb s (pos + 1) by omega)]
      rw [e, drop_cons s pos h, drop_cons s (pos + 1) (by omega)]
      simp
    · left; rfl
  rw [if_neg c2]
  by_cases c4 : gb s pos / 16 = 14 ∧ (1 < s.size - pos ∧ gb s (pos + 1) / 64 = 2) ∧ (2 < s.size - pos ∧ gb s (pos + 2) / 64 = 2)
  · rw [if_pos c4]
    split
    · right
      rename_i c3
      simp only
      generalize hc : gb s pos % 16 * 4096 + gb s (pos + 1) % 64 * 64 + gb s (pos + 2) % 64 = c at c3
      have hv : Utf8.valid (c : Int) = true := by simp [Utf8.valid]; omega
      have e : (Utf8.encode (c : Int)).data.toList = [UInt8.ofNat (gb s pos), UInt8.ofNat (gb s (pos + 1)), UInt8.ofNat (gb s (pos + 2))] := by
        unfold Utf8.encode
        simp only [hv, if_true, Int.toNat_natCast]
        rw [if_neg (by omega), if_neg (by omega), if_pos (by omega)]
        simp only
        rw [ofNat_eq (show 224 + c / 4096 = gb s pos by omega), ofNat_eq (show 128 + c / 64 % 64 = gb s (pos + 1) by omega), ofNat_eq (show 128 + c % 64 = gb s (pos + 2) by omega)]
      rw [e, drop_cons s pos h, drop_cons s (pos + 1) (by omega), drop_cons s (pos + 1 + 1) (by omega)]
      simp
    · left; rfl
  rw [if_neg c4]
  by_cases c5 : gb s pos / 8 = 30 ∧ (1 < s.size - pos ∧ gb s (pos + 1) / 64 = 2) ∧ (2 < s.size - pos ∧ gb s (pos + 2) / 64 = 2) ∧ (3 < s.size - pos ∧ gb s (pos + 3) / 64 = 2)
  · rw [if_pos c5]
    split
    · right
      rename_i c3
      simp only
      generalize hc : gb s pos % 8 * 262144 + gb s (pos + 1) % 64 * 4096 + gb s (pos + 2) % 64 * 64 + gb s (pos + 3) % 64 = c at c3
      have hv : Utf8.valid (c : Int) = true := by simp [Utf8.valid]; omega
      have e : (Utf8.encode (c : Int)).data.toList = [UInt8.ofNat (gb s pos), UInt8.ofNat (gb s (pos + 1)), UInt8.ofNat (gb s (pos + 2)), UInt8.ofNat (gb s (pos + 3))] := by
        unfold Utf8.encode
        simp only [hv, if_true, Int.toNat_natCast]
        rw [if_neg (by omega), if_neg (by omega), if_neg (by omega)]
        simp only
        rw [ofNat_eq (show 240 + c / 262144 = gb s pos by omega), ofNat_eq (show 128 + c / 4096 % 64 = gb s (pos + 1) by omega), ofNat_eq (show 128 + c / 64 % 64 = gb s (pos + 2) by omega), ofNat_eq (show 128 + c % 64 = gb s (pos + 3) by omega)]
      rw [e, drop_cons s pos h, drop_cons s (pos + 1) (by omega), drop_cons s (pos + 1 + 1) (by omega), drop_cons s (pos + 1 + 1 + 1) (by omega)]
      simp
    · left; rfl
  rw [if_neg c5]
  left; rfl

theorem enc_bad : (Utf8.encode ((65533 : Nat) : Int)).data.toList = [239, 191, 189] := by decide

theorem wide (s : ByteArray) (pos : Nat) (h : pos < s.size) : 1 ≤ (Utf8.decode s pos).2 := by
  by_cases ha : (s[pos]'h).toNat < 128
  · rw [decode_ascii s pos h ha]
    exact Nat.le_refl _
  · exact (decode_high s pos h (by omega)).2

theorem repl_of_drop {s : ByteArray} {pos : Nat} {r : List UInt8} (h : s.data.toList.drop pos = [239, 191, 189] ++ r) : repl s pos = true := by
  have hl := congrArg List.length h
  rw [List.length_drop, size_list] at hl
  simp at hl
  have h3 : pos + 3 ≤ s.size := by omega
  unfold repl
  rw [decide_eq_true h3, Bool.true_and, beq_iff_eq, ByteArray.toList_eq, extract_list, h]
  simp

theorem decode_repl {s : ByteArray} {pos : Nat} (h : repl s pos = true) : Utf8.decode s pos = (65533, 3) := by
  unfold repl at h
  rw [Bool.and_eq_true, decide_eq_true_eq, beq_iff_eq, ByteArray.toList_eq, extract_list] at h
  obtain ⟨h3, h⟩ := h
  have e3 : pos + 3 - pos = 3 := by omega
  rw [e3, drop_cons s pos (by omega), drop_cons s (pos + 1) (by omega), drop_cons s (pos + 1 + 1) (by omega)] at h
  simp at h
  have b0 := gb_lt s pos
  have b1 := gb_lt s (pos + 1)
  have b2 := gb_lt s (pos + 2)
  have g0 : gb s pos = 239 := by have := congrArg UInt8.toNat h.1; simp at this; omega
  have g1 : gb s (pos + 1) = 191 := by have := congrArg UInt8.toNat h.2.1; simp at this; omega
  have g2 : gb s (pos + 2) = 189 := by have := congrArg UInt8.toNat h.2.2; simp at this; have e2 : pos + 1 + 1 = pos + 2 := rfl; rw [e2] at this; omega
  rw [Lib.decode_at]
  simp only [get!_gb, g0, g1, g2]
  unfold Lib.decodeN
  rw [if_neg (by omega), if_neg (by omega), if_pos (by omega), if_pos (by omega)]

theorem cat_ge (s : ByteArray) : ∀ f pos, s.size ≤ pos + f → s.size - pos ≤ (catFrom s f pos).length
  | 0, pos, h => by omega
  | f + 1, pos, h => by
    by_cases hp : pos < s.size
    · have hw := wide s pos hp
      have ih := cat_ge s f (pos + (Utf8.decode s pos).2) (by omega)
      simp only [catFrom, if_pos hp, List.length_append]
      rcases rune_cases s pos hp with hb | ⟨_, hl⟩
      · rw [hb] at ih ⊢
        simp only at ih ⊢
        rw [enc_bad]
        simp
        omega
      · rw [hl]; omega
    · omega

theorem ok_cat (s : ByteArray) : ∀ f pos, s.size ≤ pos + f → (okFrom s f pos = true → catFrom s f pos = s.data.toList.drop pos) ∧ (okFrom s f pos = false → s.size - pos < (catFrom s f pos).length)
  | 0, pos, h => by
    refine ⟨fun _ => ?_, fun h => by simp [okFrom] at h⟩
    rw [List.drop_of_length_le (by rw [size_list]; omega)]
    rfl
  | f + 1, pos, h => by
    by_cases hp : pos < s.size
    · have hw := wide s pos hp
      have ih := ok_cat s f (pos + (Utf8.decode s pos).2) (by omega)
      have hge := cat_ge s f (pos + (Utf8.decode s pos).2) (by omega)
      simp only [catFrom, okFrom, if_pos hp]
      by_cases hc : (Utf8.decode s pos).1 = 65533 ∧ repl s pos = false
      · rw [if_pos hc]
        refine ⟨fun h => (by cases h), fun _ => ?_⟩
        rcases rune_cases s pos hp with hb | ⟨ht, hl⟩
        · rw [hb] at hge ⊢
          simp only at hge ⊢
          rw [List.length_append, enc_bad]
          simp
          omega
        · exfalso
          rw [hc.1, enc_bad] at ht
          rw [repl_of_drop ht.symm] at hc
          cases hc.2
      · rw [if_neg hc]
        rcases rune_cases s pos hp with hb | ⟨ht, hl⟩
        · have hr : repl s pos = true := by
            cases hr : repl s pos with
            | true => rfl
            | false => exact absurd ⟨by rw [hb], hr⟩ hc
          rw [decode_repl hr] at hb
          simp at hb
        · refine ⟨fun hk => ?_, fun hk => ?_⟩
          · rw [ih.1 hk]; exact ht
          · have := ih.2 hk
            rw [List.length_append, hl]
            omega
    · refine ⟨fun _ => ?_, fun hk => ?_⟩
      · rw [catFrom_end s _ pos hp, List.drop_of_length_le (by rw [size_list]; omega)]
      · rw [okFrom_end s _ pos hp] at hk
        cases hk

theorem proper_valid (s : ByteArray) : properB s = validB s := by
  have h := ok_cat s s.size 0 (by omega)
  unfold properB validB
  congr 1
  cases hk : okFrom s s.size 0 with
  | true => rw [h.1 hk]; simp
  | false =>
    have := h.2 hk
    rw [beq_eq_false_iff_ne]
    intro e
    rw [e, size_list] at this
    omega
end Go.Proofs.YthccpacmklhejabDoor

namespace Go.Proofs.YthccpacmklhejabDoor
open Go.RowKit

theorem split_list : ∀ (n : Nat) (l : List UInt8), l.length ≤ n → ∃ es r, l = recs es ++ r ∧ (∀ e ∈ es, Good e) ∧ Stop r
  | 0, l, h => ⟨[], [], by simp at h; simp [recs, h], by simp, .inl rfl⟩
  | n + 1, l, h => by
    cases hf : firstS ⟨l.toArray⟩ with
    | none => exact ⟨[], l, by simp [recs], by simp, .inr hf⟩
    | some x =>
      obtain ⟨e, m⟩ := x
      obtain ⟨f1, f2, f3, f4, f5⟩ := firstS_some hf
      simp at f3
      have hp := recB_pos e
      obtain ⟨es, r, h1, h2, h3⟩ := split_list n (l.drop m) (by rw [List.length_drop]; omega)
      refine ⟨e :: es, r, ?_, ?_, h3⟩
      · rw [recs_cons, List.append_assoc, ← h1, f3, List.take_append_drop]
      · intro x hx
        rcases List.mem_cons.1 hx with rfl | hx
        · exact ⟨f1, f2⟩
        · exact h2 x hx

theorem parsed_exists (s : ByteArray) : ∃ es n, Parsed s es n := by
  obtain ⟨es, r, h1, h2, h3⟩ := split_list s.data.toList.length s.data.toList (Nat.le_refl _)
  refine ⟨es, (recs es).length, h2, ?_, ?_, ?_⟩
  · rw [h1]; simp
  · rw [← size_list, h1, List.length_append]; omega
  · rw [h1]; simpa using h3

theorem own_addr {w : World} {B n cap : Nat} {e : TypeId} {s : Nat} {a : Option Addr} {xs : List Value} (hown : w.ownsRow B e s (.slice a n cap) n xs) : (a = none ∧ n = 0) ∨ ∃ g, a = some ⟨g, 0, none⟩ := by
  rcases hown.2 with ⟨h, h0⟩ | ⟨g, cap', cur, h, _⟩
  · simp at h
    exact .inl ⟨h.1, h0⟩
  · simp at h
    exact .inr ⟨g, h.1⟩

theorem evCells_at : ∀ (es : List Ev) (k : Nat) (h : k < es.length), (evCells es)[k * 4]? = some (.int .u8 ((es[k]).op : Int)) ∧ (evCells es)[k * 4 + 1]? = some (.string (es[k]).key) ∧ (evCells es)[k * 4 + 2]? = some (.int .u16 ((es[k]).seq : Int)) ∧ (evCells es)[k * 4 + 3]? = some (.int .i16 (es[k]).val)
  | e :: es, 0, _ => by simp [evCells, evCells1]
  | e :: es, k + 1, h => by
    have ih := evCells_at es k (by simpa using h)
    have e1 : evCells (e :: es) = evCells1 e ++ evCells es := by simp [evCells]
    rw [e1]
    have l4 : (evCells1 e).length = 4 := rfl
    refine ⟨?_, ?_, ?_, ?_⟩
    · rw [List.getElem?_append_right (by omega), l4, show (k + 1) * 4 - 4 = k * 4 from by omega]; exact ih.1
    · rw [List.getElem?_append_right (by omega), l4, show (k + 1) * 4 + 1 - 4 = k * 4 + 1 from by omega]; exact ih.2.1
    · rw [List.getElem?_append_right (by omega), l4, show (k + 1) * 4 + 2 - 4 = k * 4 + 2 from by omega]; exact ih.2.2.1
    · rw [List.getElem?_append_right (by omega), l4, show (k + 1) * 4 + 3 - 4 = k * 4 + 3 from by omega]; exact ih.2.2.2

theorem own_event {w : World} {B g cap : Nat} {es : List Ev} (hown : w.ownsRow B 71 4 (.slice (some ⟨g, 0, none⟩) es.length cap) es.length (evCells es)) (k : Nat) (h : k < es.length) :
    w.cell? ⟨g, k * 4, none⟩ = some (.int .u8 ((es[k]).op : Int)) ∧ w.cell? ⟨g, k * 4 + 1, none⟩ = some (.string (es[k]).key) ∧ w.cell? ⟨g, k * 4 + 2, none⟩ = some (.int .u16 ((es[k]).seq : Int)) ∧ w.cell? ⟨g, k * 4 + 3, none⟩ = some (.int .i16 (es[k]).val) := by
  have hc := evCells_at es k h
  exact ⟨(hown.cellAt _ (by omega)).trans hc.1, (hown.cellAt _ (by omega)).trans hc.2.1, (hown.cellAt _ (by omega)).trans hc.2.2.1, (hown.cellAt _ (by omega)).trans hc.2.2.2⟩

theorem parsed_head {s : ByteArray} {es : List Ev} {n : Nat} (hp : Parsed s es n) : Parsed (s.extract 0 n) es n ∧ (s.extract 0 n).size = n := by
  have hl : (s.extract 0 n).size = n := by rw [ByteArray.size_extract]; have := hp.le; omega
  refine ⟨?_, hl⟩
  have h := Parsed.of_recs (s := s.extract 0 n) hp.good (by rw [extract_list, hp.text]; simp)
  rw [hl] at h
  exact h
theorem parsed_tail {s : ByteArray} {es : List Ev} {n : Nat} (hp : Parsed s es n) : Parsed (s.extract n s.size) [] 0 := by
  refine ⟨by simp, by simp [recs], Nat.zero_le _, ?_⟩
  have e : (s.extract n s.size).data.toList = s.data.toList.drop n := by
    rw [extract_list, List.take_of_length_le (by rw [List.length_drop, size_list]; omega)]
  rw [List.drop_zero, e]
  exact hp.stop

theorem enc_size (n : Int) : (Utf8.encode n).size ≤ 4 := by
  rw [← size_list]
  unfold Utf8.encode
  simp only
  generalize (if Utf8.valid n = true then n.toNat else Utf8.runeError) = c
  split
  · simp
  · split
    · simp
    · split <;> simp

theorem cat_le (s : ByteArray) : ∀ f pos, (catFrom s f pos).length ≤ 4 * f
  | 0, _ => by simp [catFrom]
  | f + 1, pos => by
    have ih := cat_le s f (pos + (Utf8.decode s pos).2)
    have h4 := enc_size (Utf8.decode s pos).1
    simp only [catFrom]
    split
    · rw [List.length_append, size_list]; omega
    · simp

/-- A list of events that came in. -/
def IsEvs (w : World) (a : Option Addr) (evs : List Ev) : Prop :=
  (∀ e ∈ evs, e.ok) ∧ (evs = [] ∨ ∃ b off, a = some ⟨b, off, none⟩ ∧ b < w.heap.size ∧ ∀ k (h : k < evs.length),
    w.cell? ⟨b, off + k * 4, none⟩ = some (.int .u8 ((evs[k]).op : Int)) ∧ w.cell? ⟨b, off + k * 4 + 1, none⟩ = some (.string (evs[k]).key) ∧ w.cell? ⟨b, off + k * 4 + 2, none⟩ = some (.int .u16 ((evs[k]).seq : Int)) ∧ w.cell? ⟨b, off + k * 4 + 3, none⟩ = some (.int .i16 (evs[k]).val))

theorem own_form {w : World} {B n : Nat} {e : TypeId} {s : Nat} {v : Value} {xs : List Value} (hown : w.ownsRow B e s v n xs) : ∃ a c, v = .slice a n c := by
  rcases hown.2 with ⟨rfl, rfl⟩ | ⟨g, cap, cur, rfl, _⟩
  · exact ⟨none, 0, rfl⟩
  · exact ⟨_, cap, rfl⟩

end Go.Proofs.YthccpacmklhejabDoor

namespace Go.Proofs.YthccpacmklhejabDoor
open Go.RowKit

/-- The six bits of a byte that goes on; -1: it does not. -/
def tl (s : ByteArray) (i : Nat) : Int := if i < s.size ∧ 128 ≤ gb s i ∧ gb s i ≤ 191 then (gb s i : Int) - 128 else -1

/-- What point reckons. -/
def ptF (c a b d : Int) : Int × Int :=
  if c < 128 then (c, 1)
  else if 194 ≤ c ∧ c ≤ 223 ∧ 0 ≤ a then ((c - 192) * 64 + a, 2)
  else if 224 ≤ c ∧ c ≤ 239 ∧ 0 ≤ a ∧ 0 ≤ b then
    (if 2048 ≤ (c - 224) * 4096 + a * 64 + b ∧ ((c - 224) * 4096 + a * 64 + b < 55296 ∨ 57343 < (c - 224) * 4096 + a * 64 + b) then ((c - 224) * 4096 + a * 64 + b, 3) else (0, 0))
  else if 240 ≤ c ∧ c ≤ 244 ∧ 0 ≤ a ∧ 0 ≤ b ∧ 0 ≤ d then
    (if 65536 ≤ (c - 240) * 262144 + a * 4096 + b * 64 + d ∧ (c - 240) * 262144 + a * 4096 + b * 64 + d ≤ 1114111 then ((c - 240) * 262144 + a * 4096 + b * 64 + d, 4) else (0, 0))
  else (0, 0)

end Go.Proofs.YthccpacmklhejabDoor

namespace Go.Proofs.YthccpacmklhejabDoor
open Go.RowKit

theorem tl_cases (s : ByteArray) (i : Nat) : (i < s.size ∧ gb s i / 64 = 2 ∧ tl s i = (gb s i : Int) - 128 ∧ 128 ≤ gb s i ∧ gb s i ≤ 191) ∨ (¬ (i < s.size ∧ gb s i / 64 = 2) ∧ tl s i = -1) := by
  have hb := gb_lt s i
  unfold tl
  by_cases h : i < s.size ∧ 128 ≤ gb s i ∧ gb s i ≤ 191
  · left; rw [if_pos h]; exact ⟨h.1, by omega, rfl, h.2.1, h.2.2⟩
  · right; rw [if_neg h]; exact ⟨by omega, rfl⟩

theorem tl_bounds (s : ByteArray) (i : Nat) : -1 ≤ tl s i ∧ tl s i ≤ 63 := by
  rcases tl_cases s i with ⟨_, _, h, _, _⟩ | ⟨_, h⟩ <;> omega

/-- The rune and its width at i; (0, 0): none. -/
def ptS (s : ByteArray) (i : Nat) : Nat × Nat := if Utf8.decode s i = (65533, 1) then (0, 0) else Utf8.decode s i

set_option maxHeartbeats 1000000 in
theorem ptF_decode (s : ByteArray) (i : Nat) : ptF (gb s i) (tl s (i + 1)) (tl s (i + 2)) (tl s (i + 3)) = (((ptS s i).1 : Int), ((ptS s i).2 : Int)) := by
  have b0 := gb_lt s i
  unfold ptS
  rw [Lib.decode_at]
  simp only [get!_gb]
  have h1 := tl_cases s (i + 1)
  have h2 := tl_cases s (i + 2)
  have h3 := tl_cases s (i + 3)
  generalize tl s (i + 1) = a at h1
  generalize tl s (i + 2) = b at h2
  generalize tl s (i + 3) = d at h3
  generalize gb s i = c at b0
  generalize gb s (i + 1) = x1 at h1
  generalize gb s (i + 2) = x2 at h2
  generalize gb s (i + 3) = x3 at h3
  have q1 : (1 < s.size - i) = (i + 1 < s.size) := propext ⟨fun h => by omega, fun h => by omega⟩
  have q2 : (2 < s.size - i) = (i + 2 < s.size) := propext ⟨fun h => by omega, fun h => by omega⟩
  have q3 : (3 < s.size - i) = (i + 3 < s.size) := propext ⟨fun h => by omega, fun h => by omega⟩
  unfold Lib.decodeN
  simp only [q1, q2, q3]
  clear q1 q2 q3
  unfold ptF
  by_cases c1 : c < 128
  · rw [if_pos (by omega), if_pos c1, if_neg (by simp; omega)]
    rfl
  rw [if_neg (by omega), if_neg c1]
  by_cases c2 : c / 32 = 6 ∧ (i + 1 < s.size ∧ x1 / 64 = 2)
  · rcases h1 with ⟨_, _, ea, _, _⟩ | ⟨hn, _⟩
    · rw [if_pos c2]
      by_cases c3 : c % 32 * 64 + x1 % 64 ≥ 128
      · rw [if_pos (by omega), if_pos c3, if_neg (by simp)]
        simp only [Prod.mk.injEq]
        omega
      · rw [if_neg (by omega), if_neg (by omega), if_neg (by omega), if_neg c3, if_pos rfl]
        rfl
    · exact absurd c2.2 hn
  rw [if_neg c2]
  by_cases c4 : c / 16 = 14 ∧ (i + 1 < s.size ∧ x1 / 64 = 2) ∧ (i + 2 < s.size ∧ x2 / 64 = 2)
  · rcases h1 with ⟨_, _, ea, _, _⟩ | ⟨hn, _⟩
    · rcases h2 with ⟨_, _, eb, _, _⟩ | ⟨hn, _⟩
      · rw [if_pos c4, if_neg (by omega), if_pos (by omega)]
        by_cases c5 : c % 16 * 4096 + x1 % 64 * 64 + x2 % 64 ≥ 2048 ∧ (c % 16 * 4096 + x1 % 64 * 64 + x2 % 64 < 55296 ∨ (57344 ≤ c % 16 * 4096 + x1 % 64 * 64 + x2 % 64 ∧ c % 16 * 4096 + x1 % 64 * 64 + x2 % 64 ≤ 1114111))
        · rw [if_pos c5, if_pos (by omega), if_neg (by simp)]
          simp only [Prod.mk.injEq]
          omega
        · rw [if_neg c5, if_neg (by omega), if_pos rfl]
          rfl
      · exact absurd c4.2.2 hn
    · exact absurd c4.2.1 hn
  rw [if_neg c4]
  by_cases c6 : c / 8 = 30 ∧ (i + 1 < s.size ∧ x1 / 64 = 2) ∧ (i + 2 < s.size ∧ x2 / 64 = 2) ∧ (i + 3 < s.size ∧ x3 / 64 = 2)
  · rcases h1 with ⟨_, _, ea, _, _⟩ | ⟨hn, _⟩
    · rcases h2 with ⟨_, _, eb, _, _⟩ | ⟨hn, _⟩
      · rcases h3 with ⟨_, _, ed, _, _⟩ | ⟨hn, _⟩
        · rw [if_pos c6]
          by_cases c7 : c % 8 * 262144 + x1 % 64 * 4096 + x2 % 64 * 64 + x3 % 64 ≥ 65536 ∧ (c % 8 * 262144 + x1 % 64 * 4096 + x2 % 64 * 64 + x3 % 64 < 55296 ∨ (57344 ≤ c % 8 * 262144 + x1 % 64 * 4096 + x2 % 64 * 64 + x3 % 64 ∧ c % 8 * 262144 + x1 % 64 * 4096 + x2 % 64 * 64 + x3 % 64 ≤ 1114111))
          · rw [if_pos c7, if_neg (by omega), if_neg (by omega), if_pos (by omega), if_pos (by omega), if_neg (by simp)]
            simp only [Prod.mk.injEq]
            omega
          · rw [if_neg c7, if_pos rfl, if_neg (by omega), if_neg (by omega)]
            by_cases c8 : c ≤ 244
            · rw [if_pos (by omega), if_neg (by omega)]; rfl
            · rw [if_neg (by omega)]; rfl
        · exact absurd c6.2.2.2 hn
      · exact absurd c6.2.2.1 hn
    · exact absurd c6.2.1 hn
  rw [if_neg c6, if_pos rfl]
  rcases h1 with ⟨p1, y1, ea, _, _⟩ | ⟨hn1, e1⟩
  · rw [if_neg (fun h => c2 ⟨by omega, p1, y1⟩)]
    rcases h2 with ⟨p2, y2, eb, _, _⟩ | ⟨hn2, e2⟩
    · rw [if_neg (fun h => c4 ⟨by omega, ⟨p1, y1⟩, ⟨p2, y2⟩⟩)]
      rcases h3 with ⟨p3, y3, ed, _, _⟩ | ⟨hn3, e3⟩
      · rw [if_neg (fun h => c6 ⟨by omega, ⟨p1, y1⟩, ⟨p2, y2⟩, ⟨p3, y3⟩⟩)]
        rfl
      · rw [if_neg (by omega)]; rfl
    · rw [if_neg (by omega), if_neg (by omega)]; rfl
  · rw [if_neg (by omega), if_neg (by omega), if_neg (by omega)]; rfl

theorem ok_step (s : ByteArray) (f pos : Nat) (hp : pos < s.size) : ((ptS s pos).2 = 0 → okFrom s (f + 1) pos = false) ∧
    ((ptS s pos).2 ≠ 0 → okFrom s (f + 1) pos = okFrom s f (pos + (ptS s pos).2) ∧ pos + (ptS s pos).2 ≤ s.size) := by
  have hw := wide s pos hp
  unfold ptS
  by_cases hb : Utf8.decode s pos = (65533, 1)
  · rw [if_pos hb]
    refine ⟨fun _ => ?_, fun h => absurd rfl h⟩
    simp only [okFrom, if_pos hp]
    rw [if_pos]
    refine ⟨by rw [hb], ?_⟩
    cases hr : repl s pos with
    | false => rfl
    | true => rw [decode_repl hr] at hb; simp at hb
  · rw [if_neg hb]
    refine ⟨fun h => by omega, fun _ => ?_⟩
    rcases rune_cases s pos hp with hbad | ⟨ht, hl⟩
    · exact absurd hbad hb
    · refine ⟨?_, ?_⟩
      · simp only [okFrom, if_pos hp]
        rw [if_neg]
        rintro ⟨h1, h2⟩
        rw [h1, enc_bad] at ht
        rw [repl_of_drop ht.symm] at h2
        cases h2
      · have := congrArg List.length ht
        rw [List.length_append, hl, List.length_drop, List.length_drop, size_list] at this
        omega

end Go.Proofs.YthccpacmklhejabDoor

namespace Go.Proofs.YthccpacmklhejabDoor
open Go.RowKit

def byteOf (x : Int) : UInt8 := UInt8.ofNat x.toNat

theorem conv_cells {W : World} {B n c : Nat} (l : List UInt8) (hn : l.length = n) (h : ∀ j (hj : j < l.length), W.cell? ⟨B, j, none⟩ = some (.int .u8 (l[j].toNat : Int))) :
    (convert 126 9 (.slice (some ⟨B, 0, none⟩) n c)).run Tryd.prog W = .ok (.string ⟨l.toArray⟩) W := by
  subst hn
  refine run_convert_bytes_back W 126 9 5 ⟨B, 0, none⟩ c l Tryd.underlying126 Tryd.underlying5 Tryd.underlying9 ?_
  intro j hj
  have e : (⟨B, 0, none⟩ : Addr).add j = ⟨B, j, none⟩ := by unfold Addr.add; split <;> simp_all
  rw [e]; exact h j hj

theorem conv_two {W : World} {B c : Nat} {x y : Int} (hx0 : 0 ≤ x) (hx : x < 256) (hy0 : 0 ≤ y) (hy : y < 256) (h0 : W.cell? ⟨B, 0, none⟩ = some (.int .u8 x)) (h1 : W.cell? ⟨B, 1, none⟩ = some (.int .u8 y)) :
    (convert 126 9 (.slice (some ⟨B, 0, none⟩) 2 c)).run Tryd.prog W = .ok (.string ⟨#[byteOf x, byteOf y]⟩) W := by
  refine conv_cells [byteOf x, byteOf y] rfl ?_
  intro j hj
  match j, hj with
  | 0, _ => rw [h0]; simp [byteOf]; omega
  | 1, _ => rw [h1]; simp [byteOf]; omega

theorem conv_one {W : World} {B c : Nat} {x : Int} (hx0 : 0 ≤ x) (hx : x < 256) (h0 : W.cell? ⟨B, 0, none⟩ = some (.int .u8 x)) :
    (convert 126 9 (.slice (some ⟨B, 0, none⟩) 1 c)).run Tryd.prog W = .ok (.string ⟨#[byteOf x]⟩) W := by
  refine conv_cells [byteOf x] rfl ?_
  intro j hj
  match j, hj with
  | 0, _ => rw [h0]; simp [byteOf]; omega

def twoB (v : Nat) : ByteArray := ⟨#[UInt8.ofNat (v / 256), UInt8.ofNat (v % 256)]⟩

theorem sumN_snoc (l : List UInt8) (b : UInt8) : ((l ++ [b]).map UInt8.toNat).sum = (l.map UInt8.toNat).sum + b.toNat := by simp
theorem sumN_le (l : List UInt8) : (l.map UInt8.toNat).sum ≤ 255 * l.length := by
  induction l with
  | nil => simp
  | cons a l ih => have := a.toNat_lt; simp; omega

end Go.Proofs.YthccpacmklhejabDoor

namespace Go.Proofs.YthccpacmklhejabDoor
open Go.RowKit

theorem twoB_size (v : Nat) : (twoB v).size = 2 := rfl

theorem head_list (op : Nat) (key : ByteArray) (seq : Nat) (hk8 : key.size ≤ 8) (hs : seq < 65536) :
    ((⟨#[byteOf (op : Int), byteOf (key.size : Int)]⟩ ++ key ++ twoB (u16 (seq : Int)) : ByteArray).data.toList = [UInt8.ofNat op, UInt8.ofNat key.size] ++ key.data.toList ++ [UInt8.ofNat (seq / 256), UInt8.ofNat (seq % 256)]) ∧
    (⟨#[byteOf (op : Int), byteOf (key.size : Int)]⟩ ++ key ++ twoB (u16 (seq : Int)) : ByteArray).size ≤ 12 := by
  have hu : u16 (seq : Int) = seq := by unfold u16; omega
  refine ⟨?_, ?_⟩
  · rw [ByteArray.data_append, Array.toList_append, ByteArray.data_append, Array.toList_append, hu]
    simp [byteOf, twoB]
  · rw [ByteArray.size_append, ByteArray.size_append, twoB_size]
    have : (⟨#[byteOf (op : Int), byteOf (key.size : Int)]⟩ : ByteArray).size = 2 := rfl
    omega

theorem rec_join (S : ByteArray) (e : Ev) (h : S.data.toList = body e) : S ++ ⟨#[UInt8.ofNat (sumB S.data.toList)]⟩ = ⟨(recB e).toArray⟩ := by
  apply ba_ext
  rw [ByteArray.data_append, Array.toList_append, h]
  simp [recB]

end Go.Proofs.YthccpacmklhejabDoor

namespace Go.Proofs.YthccpacmklhejabDoor
open Go.RowKit

end Go.Proofs.YthccpacmklhejabDoor

namespace Go.Proofs.YthccpacmklhejabDoor
open Go.RowKit

theorem gb_extract (s : ByteArray) (n i : Nat) : gb (s.extract n s.size) i = gb s (n + i) := by
  unfold gb
  rw [extract_list, List.take_of_length_le (by rw [List.length_drop, size_list]; omega), List.getD_eq_getElem?_getD, List.getD_eq_getElem?_getD, List.getElem?_drop]

end Go.Proofs.YthccpacmklhejabDoor

namespace Go.Proofs.YthccpacmklhejabDoor
open Go.RowKit

theorem firstS_inv {s : ByteArray} {x : Ev × Nat} (h : firstS s = some x) : x = (evAt s, szAt s) ∧ 2 ≤ s.size ∧ szAt s ≤ s.size ∧ refuse (evAt s) = 0 ∧ recB (evAt s) = s.data.toList.take (szAt s) := by
  unfold firstS at h
  split at h
  · cases h
  · rename_i h1
    split at h
    · rename_i h2
      exact ⟨(Option.some.inj h).symm, by omega, by omega, h2.1, h2.2⟩
    · cases h

theorem key_size (s : ByteArray) (h : 2 + gb s 1 ≤ s.size) : (evAt s).key.size = gb s 1 := by
  show (s.extract 2 (2 + gb s 1)).size = _
  rw [ByteArray.size_extract]
  omega

theorem szAt_ge (s : ByteArray) : gb s 1 + 5 ≤ szAt s := by unfold szAt; omega

theorem none_of {s : ByteArray} (h : ∀ x, firstS s = some x → False) : firstS s = none := by
  cases hf : firstS s with
  | none => rfl
  | some x => exact absurd (h x hf) id

/-- What begins answers, by the event that stands there. -/
theorem okb_iff (s : ByteArray) (h4 : 4 + gb s 1 ≤ s.size) :
    ((decide (refuse (evAt s) = 0) && decide ((encStr (evAt s)).size ≤ s.size) && ((s.extract 0 (encStr (evAt s)).size).toList == (encStr (evAt s)).toList)) = true → firstS s = some (evAt s, (encStr (evAt s)).size)) ∧
    ((decide (refuse (evAt s) = 0) && decide ((encStr (evAt s)).size ≤ s.size) && ((s.extract 0 (encStr (evAt s)).size).toList == (encStr (evAt s)).toList)) = false → firstS s = none) := by
  have hks := key_size s (by omega)
  have hop : (evAt s).op = gb s 0 := rfl
  have hlen : (recB (evAt s)).length = szAt s := by
    rw [recB_length, hks, hop]
    unfold szAt
    split <;> omega
  refine ⟨fun h => ?_, fun h => ?_⟩
  · rw [Bool.and_eq_true, Bool.and_eq_true, decide_eq_true_eq, decide_eq_true_eq, beq_iff_eq] at h
    obtain ⟨⟨h1, h2⟩, h3⟩ := h
    have hel := encStr_list h1
    have hsz : (encStr (evAt s)).size = szAt s := by rw [← size_list, hel, hlen]
    rw [hsz] at h2 h3 ⊢
    rw [ByteArray.toList_eq, ByteArray.toList_eq, hel, extract_list] at h3
    simp at h3
    unfold firstS
    rw [if_neg (by omega), if_pos ⟨h1, h3.symm⟩]
  · refine none_of fun x hx => ?_
    obtain ⟨_, _, h3, h4, h5⟩ := firstS_inv hx
    have hel := encStr_list h4
    have hsz : (encStr (evAt s)).size = szAt s := by rw [← size_list, hel, hlen]
    rw [hsz, decide_eq_true h4, decide_eq_true h3, Bool.true_and, Bool.true_and, beq_eq_false_iff_ne, ByteArray.toList_eq, ByteArray.toList_eq, hel, extract_list] at h
    apply h
    rw [h5]
    simp

end Go.Proofs.YthccpacmklhejabDoor

namespace Go.Proofs.YthccpacmklhejabDoor

/-- A number as one of 16 bits with a sign. -/
def wrap16 (n : Int) : Int := if 32767 < n % 65536 then n % 65536 - 65536 else n % 65536

theorem wrap16_range (n : Int) : -32768 ≤ wrap16 n ∧ wrap16 n ≤ 32767 := by
  unfold wrap16
  split <;> omega

def dig (n : Nat) : UInt8 := UInt8.ofNat (48 + n)

/-- The digits of a number. -/
def decN (n : Nat) : List UInt8 := if n < 10 then [dig n] else decN (n / 10) ++ [dig (n % 10)]
termination_by n
decreasing_by omega

theorem decN_small {n : Nat} (h : n < 10) : decN n = [dig n] := by rw [decN]; simp [h]
theorem decN_big {n : Nat} (h : ¬ n < 10) : decN n = decN (n / 10) ++ [dig (n % 10)] := by rw [decN]; simp [h]

def decI (n : Int) : List UInt8 := if n < 0 then 45 :: decN (-n).toNat else decN n.toNat

theorem decN_length : ∀ (k n : Nat), n < 10 ^ (k + 1) → (decN n).length ≤ k + 1
  | 0, n, h => by rw [decN_small (by omega)]; simp
  | k + 1, n, h => by
    by_cases h10 : n < 10
    · rw [decN_small h10]; simp
    · rw [decN_big h10, List.length_append]
      have := decN_length k (n / 10) (by rw [Nat.pow_succ] at h; omega)
      simp
      omega

/-- What is known of a key. -/
structure Kn where
  had : Bool
  last : Nat
  there : Bool
  value : Int
  count : Nat

def Kn.none : Kn := ⟨false, 0, false, 0, 0⟩

def Kn.counts (k : Kn) (e : Ev) : Bool := !k.had || decide (0 < wrap16 ((e.seq : Int) - (k.last : Int)))

def Kn.step (k : Kn) (e : Ev) : Kn := if k.counts e then ⟨true, e.seq, decide (e.op = 1), e.val, k.count + 1⟩ else k

/-- Of a key, behind some events. -/
def knOf (key : ByteArray) (es : List Ev) : Kn := (es.filter (fun e => decide (e.key = key))).foldl Kn.step Kn.none

theorem knOf_append (key : ByteArray) (es : List Ev) (e : Ev) : knOf key (es ++ [e]) = if e.key = key then (knOf key es).step e else knOf key es := by
  unfold knOf
  rw [List.filter_append, List.foldl_append]
  by_cases h : e.key = key
  · simp [h]
  · simp [h]

theorem knOf_nil (key : ByteArray) : knOf key [] = Kn.none := rfl

theorem Kn.step_count (k : Kn) (e : Ev) : (k.step e).count ≤ k.count + 1 := by
  unfold Kn.step
  split <;> simp

end Go.Proofs.YthccpacmklhejabDoor

namespace Go.Proofs.YthccpacmklhejabDoor
open Go.RowKit

theorem tmod_facts (n : Int) : ∃ t, n.tmod 65536 = t ∧ -65536 < t ∧ t < 65536 ∧ (t < 0 → t + 65536 = n % 65536) ∧ (0 ≤ t → t = n % 65536) := by
  refine ⟨_, rfl, ?_⟩
  by_cases h : 0 ≤ n
  · rw [Int.tmod_eq_emod_of_nonneg h]
    omega
  · have e : n.tmod 65536 = -((-n) % 65536) := by
      have := Int.neg_tmod (-n) 65536
      rw [Int.neg_neg] at this
      rw [this, Int.tmod_eq_emod_of_nonneg (by omega)]
    rw [e]
    omega

theorem digit_at : ∀ n : Fin 10, ((⟨#[48, 49, 50, 51, 52, 53, 54, 55, 56, 57]⟩ : ByteArray).extract n.val (n.val + 1)) = ⟨#[dig n.val]⟩ := by decide +kernel

theorem str_push (ds : List UInt8) (d : UInt8) : (⟨ds.toArray⟩ : ByteArray) ++ ⟨#[d]⟩ = ⟨(ds ++ [d]).toArray⟩ := by
  apply ByteArray.ext
  simp

theorem str_minus (ds : List UInt8) : (⟨#[45]⟩ : ByteArray) ++ ⟨ds.toArray⟩ = ⟨(45 :: ds).toArray⟩ := by
  apply ByteArray.ext
  simp

def Kn.value' (k : Kn) : Value := .agg #[.bool k.had, .int .i64 (k.last : Int), .bool k.there, .int .i64 k.value, .int .i64 (k.count : Int)]

/-- A row's cells, from its block. -/
theorem row_cell {W : World} {b : Nat} {cs : Array Value} {t : TypeId} (h : W.heap[b]? = some (.cells cs t (0, 0))) (j : Nat) : W.cell? ⟨b, j, none⟩ = cs[j]? := cell_of_row W b j cs t (0, 0) h
theorem row_frozen {W : World} {b : Nat} {cs : Array Value} {t : TypeId} (h : W.heap[b]? = some (.cells cs t (0, 0))) (j : Nat) : W.frozen? ⟨b, j, none⟩ = false := by simp [World.frozen?, h]

theorem step_last : ∀ (es : List Ev) (k : Kn), k.last < 65536 → (∀ e ∈ es, e.seq < 65536) → (es.foldl Kn.step k).last < 65536 ∧ (es.foldl Kn.step k).count ≤ k.count + es.length
  | [], k, hk, _ => by simp [hk]
  | e :: es, k, hk, h => by
    have hs : (k.step e).last < 65536 ∧ (k.step e).count ≤ k.count + 1 := by
      unfold Kn.step
      split
      · exact ⟨h e (by simp), Nat.le_refl _⟩
      · exact ⟨hk, by omega⟩
    have := step_last es (k.step e) hs.1 (fun x hx => h x (by simp [hx]))
    simp only [List.foldl_cons, List.length_cons]
    omega

theorem knOf_last {key : ByteArray} {es : List Ev} (h : ∀ e ∈ es, e.seq < 65536) : (knOf key es).last < 65536 ∧ (knOf key es).count ≤ es.length := by
  have := step_last (es.filter (fun e => decide (e.key = key))) Kn.none (by decide) (fun e he => h e (List.mem_filter.1 he |>.1))
  refine ⟨this.1, Nat.le_trans this.2 ?_⟩
  have := List.length_filter_le (fun e => decide (e.key = key)) es
  simp [Kn.none]
  exact this

theorem str_ne {a b : ByteArray} (h : ¬ a = b) : (!a.toList == b.toList) = true := by
  have : ¬ a.toList = b.toList := fun e => h (by
    apply ByteArray.ext
    apply Array.ext'
    simpa [ByteArray.toList_eq] using e)
  simp [this]

theorem int_one (n : Nat) : ((n : Int) == 1) = decide (n = 1) := by
  by_cases h : n = 1
  · subst h; rfl
  · have : ¬ (n : Int) = 1 := by omega
    simp [h, this]

theorem row_set {W : World} {b j : Nat} {cs : Array Value} {t : TypeId} (h : W.heap[b]? = some (.cells cs t (0, 0))) (u : Value) : (W.setCell ⟨b, j, none⟩ u).heap[b]? = some (.cells (cs.setIfInBounds j u) t (0, 0)) := by
  simp only [World.setCell, Array.getElem?_modify, if_true, h]
  simp

end Go.Proofs.YthccpacmklhejabDoor

namespace Go.Proofs.YthccpacmklhejabDoor
open Go.RowKit

/-- A group's row. -/
structure RowV where
  pt : Nat
  tx : ByteArray
  live : Nat
  sum : Int
  ev : Nat

def rowCells1 (r : RowV) : List Value := [.int .i64 (r.pt : Int), .string r.tx, .int .i64 (r.live : Int), .int .i64 r.sum, .int .i64 (r.ev : Int)]
def rowCells (rs : List RowV) : List Value := rs.flatMap rowCells1

theorem rowCells_length (rs : List RowV) : (rowCells rs).length = rs.length * 5 := by
  induction rs with
  | nil => rfl
  | cons r rs ih => simp [rowCells, rowCells1] at ih ⊢; omega

theorem rowCells_append (rs ts : List RowV) : rowCells (rs ++ ts) = rowCells rs ++ rowCells ts := by simp [rowCells]

theorem rowCells_at : ∀ (rs : List RowV) (k : Nat) (h : k < rs.length) (j : Nat), j < 5 → (rowCells rs)[k * 5 + j]? = (rowCells1 rs[k])[j]?
  | r :: rs, 0, _, j, hj => by
    simp only [rowCells, List.flatMap_cons, Nat.zero_mul, Nat.zero_add, List.getElem_cons_zero]
    rw [List.getElem?_append_left (by simp [rowCells1]; omega)]
  | r :: rs, k + 1, h, j, hj => by
    have ih := rowCells_at rs k (by simpa using h) j hj
    simp only [rowCells, List.flatMap_cons, List.getElem_cons_succ] at ih ⊢
    rw [List.getElem?_append_right (by simp [rowCells1]; omega), ← ih]
    congr 1
    simp [rowCells1]
    omega

/-- The place of a group's row. -/
def placeS (rs : List RowV) (p : Nat) : Nat := rs.findIdx (fun r => decide (r.pt = p))

/-- The group of a key. -/
def grp (key : ByteArray) : Nat × ByteArray := ((ptS key 0).1, key.extract 0 (ptS key 0).2)

theorem ptS_le (s : ByteArray) (h : 0 < s.size) : (ptS s 0).2 ≤ s.size := by
  by_cases h0 : (ptS s 0).2 = 0
  · omega
  · have := ((ok_step s 0 0 h).2 h0).2
    omega

end Go.Proofs.YthccpacmklhejabDoor

namespace Go.Proofs.YthccpacmklhejabDoor
open Go.RowKit

/-- Had a key an event among the first k? -/
def oldTo (es : List Ev) (k : Nat) (key : ByteArray) : Bool := (es.take k).any (fun e => decide (e.key = key))

theorem oldTo_succ (es : List Ev) (k : Nat) (h : k < es.length) (key : ByteArray) : oldTo es (k + 1) key = (oldTo es k key || decide ((es[k]).key = key)) := by
  unfold oldTo
  rw [List.take_succ_eq_append_getElem h, List.any_append]
  simp

def addRow (k : Kn) (r : RowV) : RowV := if k.there then ⟨r.pt, r.tx, r.live + 1, r.sum + k.value, r.ev + k.count⟩ else ⟨r.pt, r.tx, r.live, r.sum, r.ev + k.count⟩

/-- A key's row among the rows, with a new one where there is none. -/
def withRow (out : List RowV) (key : ByteArray) : List RowV := if placeS out (grp key).1 = out.length then out ++ [⟨(grp key).1, (grp key).2, 0, 0, 0⟩] else out

def addKey (es : List Ev) (out : List RowV) (key : ByteArray) : List RowV := (withRow out key).modify (placeS out (grp key).1) (addRow (knOf key es))

def rowsTo (es : List Ev) : Nat → List RowV
  | 0 => []
  | i + 1 => if h : i < es.length then (if oldTo es i (es[i]).key then rowsTo es i else addKey es (rowsTo es i) (es[i]).key) else rowsTo es i

theorem str_eq_dec (a b : ByteArray) : (a.toList == b.toList) = decide (a = b) := by
  by_cases h : a = b
  · subst h; simp
  · have := str_ne h
    simp [h]
    simpa using this

theorem addKey_le (es : List Ev) (out : List RowV) (key : ByteArray) : (addKey es out key).length ≤ out.length + 1 := by
  unfold addKey withRow
  rw [List.length_modify]
  split <;> simp

theorem rowsTo_le (es : List Ev) : ∀ i, (rowsTo es i).length ≤ i
  | 0 => by simp [rowsTo]
  | i + 1 => by
    have ih := rowsTo_le es i
    rw [rowsTo]
    split
    · split
      · omega
      · have := addKey_le es (rowsTo es i) (es[i]).key
        omega
    · omega

theorem rowCells_cons (r : RowV) (rs : List RowV) : rowCells (r :: rs) = rowCells1 r ++ rowCells rs := by simp [rowCells]

/-- One row's numbers, laid over. -/
theorem row_fill3 (rs : List RowV) (n : Nat) (h : n < rs.length) (l : Nat) (u : Int) (e : Nat) :
    (((rowCells rs).set (n * 5 + 2) (.int .i64 (l : Int))).set (n * 5 + 3) (.int .i64 u)).set (n * 5 + 4) (.int .i64 (e : Int)) = rowCells (rs.set n ⟨rs[n].pt, rs[n].tx, l, u, e⟩) := by
  have hs : rs = rs.take n ++ rs[n] :: rs.drop (n + 1) := by rw [← List.drop_eq_getElem_cons h, List.take_append_drop]
  have hset : rs.set n ⟨rs[n].pt, rs[n].tx, l, u, e⟩ = rs.take n ++ ⟨rs[n].pt, rs[n].tx, l, u, e⟩ :: rs.drop (n + 1) := by rw [List.set_eq_take_append_cons_drop, if_pos h]
  rw [hset]
  generalize rs[n] = r at hs
  generalize hT : rs.take n = T at hs
  generalize rs.drop (n + 1) = D at hs
  have hTl : T.length = n := by rw [← hT, List.length_take]; omega
  have hlen : (rowCells T).length = n * 5 := by rw [rowCells_length, hTl]
  subst hs
  rw [rowCells_append, rowCells_append, rowCells_cons, rowCells_cons]
  rw [List.set_append_right _ _ (by omega), List.set_append_right _ _ (by omega), List.set_append_right _ _ (by omega), hlen]
  rw [show n * 5 + 2 - n * 5 = 2 from by omega, show n * 5 + 3 - n * 5 = 3 from by omega, show n * 5 + 4 - n * 5 = 4 from by omega]
  rfl

theorem row_fill1 (rs : List RowV) (n : Nat) (h : n < rs.length) (e : Nat) :
    (rowCells rs).set (n * 5 + 4) (.int .i64 (e : Int)) = rowCells (rs.set n ⟨rs[n].pt, rs[n].tx, rs[n].live, rs[n].sum, e⟩) := by
  have hs : rs = rs.take n ++ rs[n] :: rs.drop (n + 1) := by rw [← List.drop_eq_getElem_cons h, List.take_append_drop]
  have hset : rs.set n ⟨rs[n].pt, rs[n].tx, rs[n].live, rs[n].sum, e⟩ = rs.take n ++ ⟨rs[n].pt, rs[n].tx, rs[n].live, rs[n].sum, e⟩ :: rs.drop (n + 1) := by rw [List.set_eq_take_append_cons_drop, if_pos h]
  rw [hset]
  generalize rs[n] = r at hs
  generalize hT : rs.take n = T at hs
  generalize rs.drop (n + 1) = D at hs
  have hTl : T.length = n := by rw [← hT, List.length_take]; omega
  have hlen : (rowCells T).length = n * 5 := by rw [rowCells_length, hTl]
  subst hs
  rw [rowCells_append, rowCells_append, rowCells_cons, rowCells_cons]
  rw [List.set_append_right _ _ (by omega), hlen, show n * 5 + 4 - n * 5 = 4 from by omega]
  rfl

theorem fillAt (rs : List RowV) (n : Nat) (h : n < rs.length) (x : RowV) (v2 : Nat) (v3 : Int) (v4 : Nat) :
    (rowCells (rs.set n x)).set (n * 5 + 2) (.int .i64 (v2 : Int)) = rowCells (rs.set n ⟨x.pt, x.tx, v2, x.sum, x.ev⟩) ∧ (rowCells (rs.set n x)).set (n * 5 + 3) (.int .i64 v3) = rowCells (rs.set n ⟨x.pt, x.tx, x.live, v3, x.ev⟩) ∧ (rowCells (rs.set n x)).set (n * 5 + 4) (.int .i64 (v4 : Int)) = rowCells (rs.set n ⟨x.pt, x.tx, x.live, x.sum, v4⟩) := by
  have hset : ∀ y : RowV, rs.set n y = rs.take n ++ y :: rs.drop (n + 1) := fun y => by rw [List.set_eq_take_append_cons_drop, if_pos h]
  have hlen : (rowCells (rs.take n)).length = n * 5 := by rw [rowCells_length, List.length_take]; congr 1; omega
  simp only [hset]
  generalize rs.take n = T at hlen
  generalize rs.drop (n + 1) = D
  simp only [rowCells_append, rowCells_cons]
  refine ⟨?_, ?_, ?_⟩
  · rw [List.set_append_right _ _ (by omega), hlen, show n * 5 + 2 - n * 5 = 2 from by omega]
    rfl
  · rw [List.set_append_right _ _ (by omega), hlen, show n * 5 + 3 - n * 5 = 3 from by omega]
    rfl
  · rw [List.set_append_right _ _ (by omega), hlen, show n * 5 + 4 - n * 5 = 4 from by omega]
    rfl

theorem cellOf (rs : List RowV) (n : Nat) (h : n < rs.length) (x : RowV) (k : Nat) (hk : k < 5) : (rowCells (rs.set n x))[n * 5 + k]? = (rowCells1 x)[k]? := by
  rw [rowCells_at (rs.set n x) n (by simpa using h) k hk]
  simp

/-- How great a row's numbers may be. -/
def RB (i : Nat) (r : RowV) : Prop := r.live ≤ i ∧ -(40000 * (i : Int)) ≤ r.sum ∧ r.sum ≤ 40000 * (i : Int) ∧ r.ev ≤ 1000 * i

def KB (k : Kn) : Prop := -32768 ≤ k.value ∧ k.value ≤ 32767 ∧ k.count ≤ 400

theorem step_value : ∀ (es : List Ev) (k : Kn), (-32768 ≤ k.value ∧ k.value ≤ 32767) → (∀ e ∈ es, e.ok) → (-32768 ≤ (es.foldl Kn.step k).value ∧ (es.foldl Kn.step k).value ≤ 32767)
  | [], k, hk, _ => hk
  | e :: es, k, hk, h => by
    have hs : -32768 ≤ (k.step e).value ∧ (k.step e).value ≤ 32767 := by
      unfold Kn.step
      split
      · exact ⟨(h e (by simp)).2.2.1, (h e (by simp)).2.2.2⟩
      · exact hk
    exact step_value es (k.step e) hs (fun x hx => h x (by simp [hx]))

theorem knOf_bounds {key : ByteArray} {es : List Ev} (h : ∀ e ∈ es, e.ok) (hl : es.length ≤ 400) : KB (knOf key es) := by
  have h1 := step_value (es.filter (fun e => decide (e.key = key))) Kn.none (by decide) (fun e he => h e (List.mem_filter.1 he).1)
  have h2 := (knOf_last (key := key) (es := es) fun e he => (h e he).2.1).2
  exact ⟨h1.1, h1.2, Nat.le_trans h2 hl⟩

theorem RB.add {i : Nat} {r : RowV} {k : Kn} (h : RB i r) (hk : KB k) : RB (i + 1) (addRow k r) := by
  obtain ⟨h1, h2, h3, h4⟩ := h
  obtain ⟨k1, k2, k3⟩ := hk
  unfold addRow RB
  split <;> simp only <;> omega

theorem RB.mono {i j : Nat} {r : RowV} (h : RB i r) (hij : i ≤ j) : RB j r := by
  obtain ⟨h1, h2, h3, h4⟩ := h
  unfold RB
  omega

theorem addKey_bounds {es : List Ev} {out : List RowV} {key : ByteArray} {i : Nat} (h : ∀ r ∈ out, RB i r) (hk : KB (knOf key es)) : ∀ r ∈ addKey es out key, RB (i + 1) r := by
  have hw : ∀ r ∈ withRow out key, RB i r := by
    unfold withRow
    split
    · intro r hr
      rcases List.mem_append.1 hr with hr | hr
      · exact h r hr
      · simp at hr
        subst hr
        unfold RB
        simp only
        omega
    · exact h
  intro r hr
  unfold addKey at hr
  obtain ⟨n, hn, rfl⟩ := List.getElem_of_mem hr
  rw [List.getElem_modify]
  have hn' : n < (withRow out key).length := by simpa using hn
  split
  · exact (hw _ (List.getElem_mem hn')).add hk
  · exact (hw _ (List.getElem_mem hn')).mono (by omega)

theorem rowsTo_bounds {es : List Ev} (h : ∀ e ∈ es, e.ok) (hl : es.length ≤ 400) : ∀ i, ∀ r ∈ rowsTo es i, RB i r
  | 0 => by simp [rowsTo]
  | i + 1 => by
    have ih := rowsTo_bounds h hl i
    rw [rowsTo]
    split
    · split
      · exact fun r hr => (ih r hr).mono (by omega)
      · exact addKey_bounds ih (knOf_bounds h hl)
    · exact fun r hr => (ih r hr).mono (by omega)

theorem below_drewN {B : Nat} {a w : World} (h : Below B a w) (n : Nat) : Below B a (w.drewN n) := ⟨h.os, h.tape, h.output, h.size, h.block⟩

theorem addKey_old {es : List Ev} {rs : List RowV} {key : ByteArray} {n : Nat} (hp : placeS rs (grp key).1 = n) (h : n < rs.length) : addKey es rs key = rs.set n (addRow (knOf key es) rs[n]) := by
  unfold addKey withRow
  rw [hp, if_neg (by omega)]
  apply List.ext_getElem
  · simp
  · intro i h1 h2
    rw [List.getElem_modify, List.getElem_set]
    split
    · next e => subst e; rfl
    · rfl

theorem addKey_new {es : List Ev} {rs : List RowV} {key : ByteArray} (hp : placeS rs (grp key).1 = rs.length) : addKey es rs key = (rs ++ [RowV.mk (grp key).1 (grp key).2 0 0 0]).set rs.length (addRow (knOf key es) ⟨(grp key).1, (grp key).2, 0, 0, 0⟩) := by
  unfold addKey withRow
  rw [hp, if_pos rfl]
  apply List.ext_getElem
  · simp
  · intro i h1 h2
    rw [List.getElem_modify, List.getElem_set]
    split
    · next e => subst e; simp
    · rfl

theorem heap_d1 {W : World} {k : Nat} {o : Option Obj} (h : W.heap[k]? = o) : W.drew.heap[k]? = o := h

theorem cell_five_new (w : World) (a b c d e : Value) (t : TypeId) : ∀ j u, [a, b, c, d, e][j]? = some u → (w.alloc (.cells #[a, b, c, d, e] t)).cell? ((⟨w.heap.size, 0, none⟩ : Addr).add j) = some u := by
  intro j u hu
  have h := row_cell (heap_alloc_new w (.cells #[a, b, c, d, e] t)) j
  have ha : (⟨w.heap.size, 0, none⟩ : Addr).add j = ⟨w.heap.size, j, none⟩ := by
    by_cases hj : j = 0
    · subst hj; rfl
    · simp [Addr.add, hj]
  rw [ha, h]
  simpa using hu

theorem row_oneCell (r : RowV) : ∀ u ∈ rowCells1 r, u.oneCell' = true := by
  intro u hu
  simp [rowCells1] at hu
  rcases hu with rfl | rfl | rfl | rfl | rfl <;> rfl

theorem own_obj {W : World} {B n g c : Nat} {e : TypeId} {s : Nat} {xs : List Value} (h : W.ownsRow B e s (.slice (some ⟨g, 0, none⟩) n c) n xs) : ∃ cur, W.heap[g]? = some (.cells cur e (0, 0)) := by
  rcases h.2 with ⟨h', _⟩ | ⟨g', cap', cur, h', _, hg, _⟩
  · simp at h'
  · simp at h'
    obtain ⟨rfl, _⟩ := h'
    exact ⟨cur, hg⟩

theorem own_d1 {W : World} {B n : Nat} {e : TypeId} {s : Nat} {v : Value} {xs : List Value} (h : W.ownsRow B e s v n xs) : W.drew.ownsRow B e s v n xs := h

theorem own_lt {W : World} {B n g c : Nat} {e : TypeId} {s : Nat} {xs : List Value} (h : W.ownsRow B e s (.slice (some ⟨g, 0, none⟩) n c) n xs) : B ≤ g ∧ g < W.heap.size := h.lt g rfl

theorem own_dn {W : World} {B n : Nat} {e : TypeId} {s : Nat} {v : Value} {xs : List Value} (h : W.ownsRow B e s v n xs) (q : Nat) : (W.drewN q).ownsRow B e s v n xs := h

theorem IsEvs.below {w w' : World} {a : Option Addr} {es : List Ev} (h : IsEvs w a es) (hb : Below w.heap.size w w') : IsEvs w' a es := by
  refine ⟨h.1, ?_⟩
  rcases h.2 with h0 | ⟨b, off, ha, hbl, hcs⟩
  · exact .inl h0
  · refine .inr ⟨b, off, ha, Nat.lt_of_lt_of_le hbl hb.size, fun k hk => ?_⟩
    obtain ⟨c0, c1, c2, c3⟩ := hcs k hk
    exact ⟨(hb.cell (p := ⟨b, off + k * 4, none⟩) hbl).trans c0, (hb.cell (p := ⟨b, off + k * 4 + 1, none⟩) hbl).trans c1, (hb.cell (p := ⟨b, off + k * 4 + 2, none⟩) hbl).trans c2, (hb.cell (p := ⟨b, off + k * 4 + 3, none⟩) hbl).trans c3⟩

end Go.Proofs.YthccpacmklhejabDoor
