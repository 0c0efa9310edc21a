/-
  Plain mathematics: a text whose runes, written again, are the text, is one in which U+FFFD stands by its own bytes alone.
-/
import Derived.Test.YthccpacmklhejaaGreatDoorParse
import Derived.Lib.DecodeN
import Derived.Laws.RangeAny
namespace Go.Proofs.YthccpacmklhejaaGreatDoor

/-- The runes from pos on, each written again. -/
def catFrom (s : ByteArray) : Nat → Nat → List UInt8
  | 0, _ => []
  | f + 1, pos => if pos < s.size then (Utf8.encode (Utf8.decode s pos).1).data.toList ++ catFrom s f (pos + (Utf8.decode s pos).2) else []

theorem catFrom_end (s : ByteArray) (fuel pos : Nat) (h : ¬ pos < s.size) : catFrom s fuel pos = [] := by cases fuel <;> simp [catFrom, h]

def properB (s : ByteArray) : Bool := decide (1 ≤ s.size) && decide (s.size ≤ 8) && (catFrom s s.size 0 == s.data.toList)

theorem get!_gb (s : ByteArray) (i : Nat) : (s.get! i).toNat = gb s i := by
  unfold gb
  cases s with
  | mk d =>
    simp [ByteArray.get!, List.getD_eq_getElem?_getD]
    rw [getElem!_def]
    cases d[i]? <;> rfl

theorem drop_cons (s : ByteArray) (pos : Nat) (h : pos < s.size) : s.data.toList.drop pos = UInt8.ofNat (gb s pos) :: s.data.toList.drop (pos + 1) := by
  rw [List.drop_eq_getElem_cons (by rw [size_list]; exact h)]
  congr 1
  rw [← gb_at s pos h]
  simp
  rfl

theorem ofNat_eq {a b : Nat} (h : a = b) : UInt8.ofNat a = UInt8.ofNat b := by rw [h]

/-- Either the byte opens nothing, or the rune's bytes stand there. -/
theorem rune_cases (s : ByteArray) (pos : Nat) (h : pos < s.size) :
    Utf8.decode s pos = (65533, 1) ∨
    ((Utf8.encode (Utf8.decode s pos).1).data.toList ++ s.data.toList.drop (pos + (Utf8.decode s pos).2) = s.data.toList.drop pos ∧ (Utf8.encode (Utf8.decode s pos).1).data.toList.length = (Utf8.decode s pos).2) := by
  have b0 := gb_lt s pos
  have b1 := gb_lt s (pos + 1)
  have b2 := gb_lt s (pos + 2)
  have b3 := gb_lt s (pos + 3)
  rw [Lib.decode_at]
  simp only [get!_gb]
  unfold Lib.decodeN
  by_cases c1 : gb s pos < 128
  · right
    rw [if_pos c1]
    simp only
    have hv : Utf8.valid (gb s pos : Int) = true := by simp [Utf8.valid]; omega
    have e : (Utf8.encode (gb s pos : Int)).data.toList = [UInt8.ofNat (gb s pos)] := by
      unfold Utf8.encode
      simp only [hv, if_true]
      rw [if_pos (by omega)]
      rfl
    rw [e, drop_cons s pos h]
    simp
  rw [if_neg c1]
  by_cases c2 : gb s pos / 32 = 6 ∧ (1 < s.size - pos ∧ gb s (pos + 1) / 64 = 2)
  · rw [if_pos c2]
    split
    · right
      rename_i c3
      simp only
      generalize hc : gb s pos % 32 * 64 + gb s (pos + 1) % 64 = c at c3
      have hv : Utf8.valid (c : Int) = true := by simp [Utf8.valid]; omega
      have e : (Utf8.encode (c : Int)).data.toList = [UInt8.ofNat (gb s pos), UInt8.ofNat (gb s (pos + 1))] := by
        unfold Utf8.encode
        simp only [hv, if_true, Int.toNat_natCast]
        rw [if_neg (by omega), if_pos (by omega)]
        simp only
        rw [ofNat_eq (show 192 + c / 64 = gb s pos by omega), ofNat_eq (show 128 + c % 64 = gb s (pos + 1) by omega)]
      rw [e, drop_cons s pos h, drop_cons s (pos + 1) (by omega)]
      simp
    · left; rfl
  rw [if_neg c2]
  by_cases c4 : gb s pos / 16 = 14 ∧ (1 < s.size - pos ∧ gb s (pos + 1) / 64 = 2) ∧ (2 < s.size - pos ∧ gb s (pos + 2) / 64 = 2)
  · rw [if_pos c4]
    split
    · right
      rename_i c3
      simp only
      generalize hc : gb s pos % 16 * 4096 + gb s (pos + 1) % 64 * 64 + gb s (pos + 2) % 64 = c at c3
      have hv : Utf8.valid (c : Int) = true := by simp [Utf8.valid]; omega
      have e : (Utf8.encode (c : Int)).data.toList = [UInt8.ofNat (gb s pos), UInt8.ofNat (gb s (pos + 1)), UInt8.ofNat (gb s (pos + 2))] := by
        unfold Utf8.encode
        simp only [hv, if_true, Int.toNat_natCast]
        rw [if_neg (by omega), if_neg (by omega), if_pos (by omega)]
        simp only
        rw [ofNat_eq (show 224 + c / 4096 = gb s pos by omega), ofNat_eq (show 128 + c / 64 % 64 = gb s (pos + 1) by omega), ofNat_eq (show 128 + c % 64 = gb s (pos + 2) by omega)]
      rw [e, drop_cons s pos h, drop_cons s (pos + 1) (by omega), drop_cons s (pos + 1 + 1) (by omega)]
      simp
    · left; rfl
  rw [if_neg c4]
  by_cases c5 : gb s pos / 8 = 30 ∧ (1 < s.size - pos ∧ gb s (pos + 1) / 64 = 2) ∧ (2 < s.size - pos ∧ gb s (pos + 2) / 64 = 2) ∧ (3 < s.size - pos ∧ gb s (pos + 3) / 64 = 2)
  · rw [if_pos c5]
    split
    · right
      rename_i c3
      simp only
      generalize hc : gb s pos % 8 * 262144 + gb s (pos + 1) % 64 * 4096 + gb s (pos + 2) % 64 * 64 + gb s (pos + 3) % 64 = c at c3
      have hv : Utf8.valid (c : Int) = true := by simp [Utf8.valid]; omega
      have e : (Utf8.encode (c : Int)).data.toList = [UInt8.ofNat (gb s pos), UInt8.ofNat (gb s (pos + 1)), UInt8.ofNat (gb s (pos + 2)), UInt8.ofNat (gb s (pos + 3))] := by
        unfold Utf8.encode
        simp only [hv, if_true, Int.toNat_natCast]
        rw [if_neg (by omega), if_neg (by omega), if_neg (by omega)]
        simp only
        rw [ofNat_eq (show 240 + c / 262144 = gb s pos by omega), ofNat_eq (show 128 + c / 4096 % 64 = gb s (pos + 1) by omega), ofNat_eq (show 128 + c / 64 % 64 = gb s (pos + 2) by omega), ofNat_eq (show 128 + c % 64 = gb s (pos + 3) by omega)]
      rw [e, drop_cons s pos h, drop_cons s (pos + 1) (by omega), drop_cons s (pos + 1 + 1) (by omega), drop_cons s (pos + 1 + 1 + 1) (by omega)]
      simp
    · left; rfl
  rw [if_neg c5]
  left; rfl

theorem enc_bad : (Utf8.encode ((65533 : Nat) : Int)).data.toList = [239, 191, 189] := by decide

theorem wide (s : ByteArray) (pos : Nat) (h : pos < s.size) : 1 ≤ (Utf8.decode s pos).2 := by
  by_cases ha : (s[pos]'h).toNat < 128
  · rw [decode_ascii s pos h ha]
    exact Nat.le_refl _
  · exact (decode_high s pos h (by omega)).2

theorem repl_of_drop {s : ByteArray} {pos : Nat} {r : List UInt8} (h : s.data.toList.drop pos = [239, 191, 189] ++ r) : repl s pos = true := by
  have hl := congrArg List.length h
  rw [List.length_drop, size_list] at hl
  simp at hl
  have h3 : pos + 3 ≤ s.size := by omega
  unfold repl
  rw [decide_eq_true h3, Bool.true_and, beq_iff_eq, ByteArray.toList_eq, extract_list, h]
  simp

theorem decode_repl {s : ByteArray} {pos : Nat} (h : repl s pos = true) : Utf8.decode s pos = (65533, 3) := by
  unfold repl at h
  rw [Bool.and_eq_true, decide_eq_true_eq, beq_iff_eq, ByteArray.toList_eq, extract_list] at h
  obtain ⟨h3, h⟩ := h
  have e3 : pos + 3 - pos = 3 := by omega
  rw [e3, drop_cons s pos (by omega), drop_cons s (pos + 1) (by omega), drop_cons s (pos + 1 + 1) (by omega)] at h
  simp at h
  have b0 := gb_lt s pos
  have b1 := gb_lt s (pos + 1)
  have b2 := gb_lt s (pos + 2)
  have g0 : gb s pos = 239 := by have := congrArg UInt8.toNat h.1; simp at this; omega
  have g1 : gb s (pos + 1) = 191 := by have := congrArg UInt8.toNat h.2.1; simp at this; omega
  have g2 : gb s (pos + 2) = 189 := by have := congrArg UInt8.toNat h.2.2; simp at this; have e2 : pos + 1 + 1 = pos + 2 := rfl; rw [e2] at this; omega
  rw [Lib.decode_at]
  simp only [get!_gb, g0, g1, g2]
  unfold Lib.decodeN
  rw [if_neg (by omega), if_neg (by omega), if_pos (by omega), if_pos (by omega)]

theorem cat_ge (s : ByteArray) : ∀ f pos, s.size ≤ pos + f → s.size - pos ≤ (catFrom s f pos).length
  | 0, pos, h => by omega
  | f + 1, pos, h => by
    by_cases hp : pos < s.size
    · have hw := wide s pos hp
      have ih := cat_ge s f (pos + (Utf8.decode s pos).2) (by omega)
      simp only [catFrom, if_pos hp, List.length_append]
      rcases rune_cases s pos hp with hb | ⟨_, hl⟩
      · rw [hb] at ih ⊢
        simp only at ih ⊢
        rw [enc_bad]
        simp
        omega
      · rw [hl]; omega
    · omega

theorem ok_cat (s : ByteArray) : ∀ f pos, s.size ≤ pos + f → (okFrom s f pos = true → catFrom s f pos = s.data.toList.drop pos) ∧ (okFrom s f pos = false → s.size - pos < (catFrom s f pos).length)
  | 0, pos, h => by
    refine ⟨fun _ => ?_, fun h => by simp [okFrom] at h⟩
    rw [List.drop_of_length_le (by rw [size_list]; omega)]
    rfl
  | f + 1, pos, h => by
    by_cases hp : pos < s.size
    · have hw := wide s pos hp
      have ih := ok_cat s f (pos + (Utf8.decode s pos).2) (by omega)
      have hge := cat_ge s f (pos + (Utf8.decode s pos).2) (by omega)
      simp only [catFrom, okFrom, if_pos hp]
      by_cases hc : (Utf8.decode s pos).1 = 65533 ∧ repl s pos = false
      · rw [if_pos hc]
        refine ⟨fun h => (by cases h), fun _ => ?_⟩
        rcases rune_cases s pos hp with hb | ⟨ht, hl⟩
        · rw [hb] at hge ⊢
          simp only at hge ⊢
          rw [List.length_append, enc_bad]
          simp
          omega
        · exfalso
          rw [hc.1, enc_bad] at ht
          rw [repl_of_drop ht.symm] at hc
          cases hc.2
      · rw [if_neg hc]
        rcases rune_cases s pos hp with hb | ⟨ht, hl⟩
        · have hr : repl s pos = true := by
            cases hr : repl s pos with
            | true => rfl
            | false => exact absurd ⟨by rw [hb], hr⟩ hc
          rw [decode_repl hr] at hb
          simp at hb
        · refine ⟨fun hk => ?_, fun hk => ?_⟩
          · rw [ih.1 hk]; exact ht
          · have := ih.2 hk
            rw [List.length_append, hl]
            omega
    · refine ⟨fun _ => ?_, fun hk => ?_⟩
      · rw [catFrom_end s _ pos hp, List.drop_of_length_le (by rw [size_list]; omega)]
      · rw [okFrom_end s _ pos hp] at hk
        cases hk

theorem proper_valid (s : ByteArray) : properB s = validB s := by
  have h := ok_cat s s.size 0 (by omega)
  unfold properB validB
  congr 1
  cases hk : okFrom s s.size 0 with
  | true => rw [h.1 hk]; simp
  | false =>
    have := h.2 hk
    rw [beq_eq_false_iff_ne]
    intro e
    rw [e, size_list] at this
    omega
end Go.Proofs.YthccpacmklhejaaGreatDoor
