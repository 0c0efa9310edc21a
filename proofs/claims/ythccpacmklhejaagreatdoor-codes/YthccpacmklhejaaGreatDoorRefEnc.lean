/-
  canalref.two, canalref.sum, canalref.written, canalref.Encode.
-/
import Derived.Test.YthccpacmklhejaaGreatDoorRefKey2
import Derived.Deep.RegionHeld3
namespace Go.Proofs.YthccpacmklhejaaGreatDoor
open Go.RowKit

def byteOf (x : Int) : UInt8 := UInt8.ofNat x.toNat

theorem conv_cells {W : World} {B n c : Nat} (l : List UInt8) (hn : l.length = n) (h : ∀ j (hj : j < l.length), W.cell? ⟨B, j, none⟩ = some (.int .u8 (l[j].toNat : Int))) :
    (convert 128 9 (.slice (some ⟨B, 0, none⟩) n c)).run Tryz.prog W = .ok (.string ⟨l.toArray⟩) W := by
  subst hn
  refine run_convert_bytes_back W 128 9 5 ⟨B, 0, none⟩ c l Tryz.underlying128 Tryz.underlying5 Tryz.underlying9 ?_
  intro j hj
  have e : (⟨B, 0, none⟩ : Addr).add j = ⟨B, j, none⟩ := by unfold Addr.add; split <;> simp_all
  rw [e]; exact h j hj

theorem conv_two {W : World} {B c : Nat} {x y : Int} (hx0 : 0 ≤ x) (hx : x < 256) (hy0 : 0 ≤ y) (hy : y < 256) (h0 : W.cell? ⟨B, 0, none⟩ = some (.int .u8 x)) (h1 : W.cell? ⟨B, 1, none⟩ = some (.int .u8 y)) :
    (convert 128 9 (.slice (some ⟨B, 0, none⟩) 2 c)).run Tryz.prog W = .ok (.string ⟨#[byteOf x, byteOf y]⟩) W := by
  refine conv_cells [byteOf x, byteOf y] rfl ?_
  intro j hj
  match j, hj with
  | 0, _ => rw [h0]; simp [byteOf]; omega
  | 1, _ => rw [h1]; simp [byteOf]; omega

theorem conv_one {W : World} {B c : Nat} {x : Int} (hx0 : 0 ≤ x) (hx : x < 256) (h0 : W.cell? ⟨B, 0, none⟩ = some (.int .u8 x)) :
    (convert 128 9 (.slice (some ⟨B, 0, none⟩) 1 c)).run Tryz.prog W = .ok (.string ⟨#[byteOf x]⟩) W := by
  refine conv_cells [byteOf x] rfl ?_
  intro j hj
  match j, hj with
  | 0, _ => rw [h0]; simp [byteOf]; omega

def twoB (v : Nat) : ByteArray := ⟨#[UInt8.ofNat (v / 256), UInt8.ofNat (v % 256)]⟩

set_option maxHeartbeats 400000 in
theorem two_any (n : Int) (w : World) (h1 : -32768 ≤ n) (h2 : n ≤ 65535) :
    Calls Tryz.prog 63 #[.int .i64 n] w fun e w' => e = .returned (.string (twoB (u16 n))) ∧ Below w.heap.size w w' := by
  by_cases h : n < 0
  · have hq : (n + 65536) / 256 < 256 := by omega
    have hc := conv_two (W := w.alloc (.cells #[.int .u8 ((n + 65536) / 256), .int .u8 ((n + 65536) % 256)] 5)) (B := w.heap.size) (c := 2) (x := (n + 65536) / 256) (y := (n + 65536) % 256) (by omega) (by omega) (by omega) (by omega) (by simp) (by simp)
    have e : (⟨#[byteOf ((n + 65536) / 256), byteOf ((n + 65536) % 256)]⟩ : ByteArray) = twoB (u16 n) := by
      unfold twoB byteOf u16
      rw [show ((n + 65536) / 256).toNat = (n % 65536).toNat / 256 from by omega, show ((n + 65536) % 256).toNat = (n % 65536).toNat % 256 from by omega]
    rw [e] at hc
    clear e
    go_enter Tryz.func63, Tryz.ntmps63
    go_wp2
    go_ret
    exact ⟨rfl, (Below.refl _ _).alloc (Nat.le_refl _) _⟩
  · have hc := conv_two (W := w.alloc (.cells #[.int .u8 (n / 256), .int .u8 (n % 256)] 5)) (B := w.heap.size) (c := 2) (x := n / 256) (y := n % 256) (by omega) (by omega) (by omega) (by omega) (by simp) (by simp)
    have e : (⟨#[byteOf (n / 256), byteOf (n % 256)]⟩ : ByteArray) = twoB (u16 n) := by
      unfold twoB byteOf u16
      rw [show (n / 256).toNat = (n % 65536).toNat / 256 from by omega, show (n % 256).toNat = (n % 65536).toNat % 256 from by omega]
    rw [e] at hc
    clear e
    go_enter Tryz.func63, Tryz.ntmps63
    go_wp2
    go_ret
    exact ⟨rfl, (Below.refl _ _).alloc (Nat.le_refl _) _⟩

theorem sumN_snoc (l : List UInt8) (b : UInt8) : ((l ++ [b]).map UInt8.toNat).sum = (l.map UInt8.toNat).sum + b.toNat := by simp
theorem sumN_le (l : List UInt8) : (l.map UInt8.toNat).sum ≤ 255 * l.length := by
  induction l with
  | nil => simp
  | cons a l ih => have := a.toNat_lt; simp; omega

set_option maxHeartbeats 400000 in
theorem rsum_any (s : ByteArray) (w : World) (hs : s.size ≤ 1000) :
    Calls Tryz.prog 64 #[.string s] w fun e w' => e = .returned (.string ⟨#[UInt8.ofNat (sumB s.data.toList)]⟩) ∧ Below w.heap.size w w' := by
  go_enter Tryz.func64, Tryz.ntmps64
  go_wp2
  go_loop [3, 4] (fun t i => ∃ k : Nat, k ≤ s.size ∧ i = .int .i64 (k : Int) ∧ t = .int .i64 (((s.data.toList.take k).map UInt8.toNat).sum : Int)) (fun _ i => s.size - (intOf i).toNat)
  case atStart => exact ⟨0, Nat.zero_le _, rfl, rfl⟩
  case round =>
    obtain ⟨k, hk, rfl, rfl⟩ := hrel
    have hsm := sumN_le (s.data.toList.take k)
    rw [List.length_take] at hsm
    by_cases hlt : k < s.size
    · have hl : k < s.data.toList.length := by rw [size_list]; exact hlt
      have HS := show Hid (((s.data.toList.take (k + 1)).map UInt8.toNat).sum = ((s.data.toList.take k).map UInt8.toNat).sum + (s[k]'hlt).toNat) from by
        show _ = _
        rw [← List.take_append_getElem hl, sumN_snoc]
        rfl
      have hb := (s[k]'hlt).toNat_lt
      generalize ((s.data.toList.take k).map UInt8.toNat).sum = q at hsm HS
      go_wp2
      go_round
      case rel => exact ⟨k + 1, by omega, by go_num, by rw [HS.out]; go_num⟩
      case measure => simp [intOf]; omega
    · have HS := show Hid (sumB s.data.toList = ((s.data.toList.take k).map UInt8.toNat).sum % 256) from by
        show _ = _
        rw [List.take_of_length_le (by rw [size_list]; omega)]
        rfl
      generalize ((s.data.toList.take k).map UInt8.toNat).sum = q at hsm HS
      have hc := conv_one (W := w.alloc (.cells #[.int .u8 ((q : Int) % 256)] 5)) (B := w.heap.size) (c := 1) (x := (q : Int) % 256) (by omega) (by omega) (by simp)
      have e : byteOf ((q : Int) % 256) = UInt8.ofNat (sumB s.data.toList) := by
        unfold byteOf
        rw [HS.out, show ((q : Int) % 256).toNat = q % 256 from by omega]
      rw [e] at hc
      clear e
      go_wp2
      go_ret
      exact ⟨rfl, (Below.refl _ _).alloc (Nat.le_refl _) _⟩
end Go.Proofs.YthccpacmklhejaaGreatDoor
