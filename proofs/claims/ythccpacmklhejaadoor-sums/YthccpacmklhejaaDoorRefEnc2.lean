/-
  canalref.written.
-/
import Derived.Test.YthccpacmklhejaaDoorRefEnc
namespace Go.Proofs.YthccpacmklhejaaDoor
open Go.RowKit

theorem twoB_size (v : Nat) : (twoB v).size = 2 := rfl

theorem head_list (op : Nat) (key : ByteArray) (seq : Nat) (hk8 : key.size ≤ 8) (hs : seq < 65536) :
    ((⟨#[byteOf (op : Int), byteOf (key.size : Int)]⟩ ++ key ++ twoB (u16 (seq : Int)) : ByteArray).data.toList = [UInt8.ofNat op, UInt8.ofNat key.size] ++ key.data.toList ++ [UInt8.ofNat (seq / 256), UInt8.ofNat (seq % 256)]) ∧
    (⟨#[byteOf (op : Int), byteOf (key.size : Int)]⟩ ++ key ++ twoB (u16 (seq : Int)) : ByteArray).size ≤ 12 := by
  have hu : u16 (seq : Int) = seq := by unfold u16; omega
  refine ⟨?_, ?_⟩
  · rw [ByteArray.data_append, Array.toList_append, ByteArray.data_append, Array.toList_append, hu]
    simp [byteOf, twoB]
  · rw [ByteArray.size_append, ByteArray.size_append, twoB_size]
    have : (⟨#[byteOf (op : Int), byteOf (key.size : Int)]⟩ : ByteArray).size = 2 := rfl
    omega

theorem rec_join (S : ByteArray) (e : Ev) (h : S.data.toList = body e) : S ++ ⟨#[UInt8.ofNat (sumB S.data.toList)]⟩ = ⟨(recB e).toArray⟩ := by
  apply ba_ext
  rw [ByteArray.data_append, Array.toList_append, h]
  simp [recB]

end Go.Proofs.YthccpacmklhejaaDoor
