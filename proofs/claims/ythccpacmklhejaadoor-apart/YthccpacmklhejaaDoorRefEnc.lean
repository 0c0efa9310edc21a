/-
  canalref.two, canalref.sum, canalref.written, canalref.Encode.
-/
import Derived.Test.YthccpacmklhejaaDoorRefKey2
import Derived.Deep.RegionHeld3
namespace Go.Proofs.YthccpacmklhejaaDoor
open Go.RowKit

def byteOf (x : Int) : UInt8 := UInt8.ofNat x.toNat

theorem conv_cells {W : World} {B n c : Nat} (l : List UInt8) (hn : l.length = n) (h : ∀ j (hj : j < l.length), W.cell? ⟨B, j, none⟩ = some (.int .u8 (l[j].toNat : Int))) :
    (convert 61 9 (.slice (some ⟨B, 0, none⟩) n c)).run Tryd.prog W = .ok (.string ⟨l.toArray⟩) W := by
  subst hn
  refine run_convert_bytes_back W 61 9 5 ⟨B, 0, none⟩ c l Tryd.underlying61 Tryd.underlying5 Tryd.underlying9 ?_
  intro j hj
  have e : (⟨B, 0, none⟩ : Addr).add j = ⟨B, j, none⟩ := by unfold Addr.add; split <;> simp_all
  rw [e]; exact h j hj

theorem conv_two {W : World} {B c : Nat} {x y : Int} (hx0 : 0 ≤ x) (hx : x < 256) (hy0 : 0 ≤ y) (hy : y < 256) (h0 : W.cell? ⟨B, 0, none⟩ = some (.int .u8 x)) (h1 : W.cell? ⟨B, 1, none⟩ = some (.int .u8 y)) :
    (convert 61 9 (.slice (some ⟨B, 0, none⟩) 2 c)).run Tryd.prog W = .ok (.string ⟨#[byteOf x, byteOf y]⟩) W := by
  refine conv_cells [byteOf x, byteOf y] rfl ?_
  intro j hj
  match j, hj with
  | 0, _ => rw [h0]; simp [byteOf]; omega
  | 1, _ => rw [h1]; simp [byteOf]; omega

theorem conv_one {W : World} {B c : Nat} {x : Int} (hx0 : 0 ≤ x) (hx : x < 256) (h0 : W.cell? ⟨B, 0, none⟩ = some (.int .u8 x)) :
    (convert 61 9 (.slice (some ⟨B, 0, none⟩) 1 c)).run Tryd.prog W = .ok (.string ⟨#[byteOf x]⟩) W := by
  refine conv_cells [byteOf x] rfl ?_
  intro j hj
  match j, hj with
  | 0, _ => rw [h0]; simp [byteOf]; omega

def twoB (v : Nat) : ByteArray := ⟨#[UInt8.ofNat (v / 256), UInt8.ofNat (v % 256)]⟩

theorem sumN_snoc (l : List UInt8) (b : UInt8) : ((l ++ [b]).map UInt8.toNat).sum = (l.map UInt8.toNat).sum + b.toNat := by simp
theorem sumN_le (l : List UInt8) : (l.map UInt8.toNat).sum ≤ 255 * l.length := by
  induction l with
  | nil => simp
  | cons a l ih => have := a.toNat_lt; simp; omega

end Go.Proofs.YthccpacmklhejaaDoor
