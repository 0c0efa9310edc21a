/-
  groups.Table: Text.
-/
import Derived.Test.YthccpacmklhejaaGreatDoorGText
namespace Go.Proofs.YthccpacmklhejaaGreatDoor
open Go.RowKit

def GB (r : GV) : Prop := (-100000 ≤ r.live ∧ r.live ≤ 100000) ∧ (-32768 ≤ r.sum ∧ r.sum ≤ 32767) ∧ (0 ≤ r.ev ∧ r.ev ≤ 255)

theorem gText_length {r : GV} (h : GB r) : (gText r).length ≤ 32 := by
  unfold gText
  have h1 := enc_size (r.pt : Int)
  have h2 := decI_length r.live (by have := h.1; omega) (by have := h.1; omega)
  have h3 := decI_length r.sum (by have := h.2.1; omega) (by have := h.2.1; omega)
  have h4 := decI_length r.ev (by have := h.2.2; omega) (by have := h.2.2; omega)
  rw [← size_list] at h1
  simp only [List.length_append, List.length_cons, List.length_nil]
  omega

/-- The text of a group as the table has it. -/
def xText (r : GX) : List UInt8 := gText r.v

theorem texts_length : ∀ (rs : List GX), (∀ r ∈ rs, GB r.v) → (rs.flatMap xText).length ≤ 32 * rs.length
  | [], _ => by simp
  | r :: rs, h => by
    have h1 := texts_length rs (fun x hx => h x (by simp [hx]))
    have h2 := gText_length (h r (by simp))
    simp only [List.flatMap_cons, List.length_append, List.length_cons]
    unfold xText at h1 ⊢
    omega

theorem flat_xText (rs : List GX) : rs.flatMap xText = (rs.map (fun x => x.v)).flatMap gText := by
  rw [List.flatMap_map]
  rfl

set_option maxRecDepth 100000 in
set_option maxHeartbeats 1000000 in
theorem ttext_any (B kb o : Nat) (t : TypeId) (cs : Array Value) (a : Option Addr) (c : Nat) (rs : List GX) (w : World) (hlen : rs.length ≤ 1000) (hG : GAt B kb o t cs a c rs w) (ht : Tab w) (hb : ∀ r ∈ rs, GB r.v) :
    Calls Tryz.prog 81 #[.pointer (some ⟨kb, o, none⟩)] w fun en w' => en = .returned (.string ⟨(rs.flatMap xText).toArray⟩) ∧ Below w.heap.size w w' := by
  have HG := show Hid (_ ∧ _) from And.intro hG ht
  clear hG ht
  go_enter Tryz.func81, Tryz.ntmps81
  go_wp2
  go_loopw [3, 4] (fun tv i wr => ∃ (j : Nat) (tx : ByteArray), j ≤ rs.length ∧ i = .int .i64 (j : Int) ∧ tv = .string tx ∧ Hid (tx.data.toList = (rs.take j).flatMap xText) ∧ Below w.heap.size w wr) (fun _ i _ => rs.length - (intOf i).toNat)
  case atStart => exact ⟨0, ⟨#[]⟩, Nat.zero_le _, rfl, rfl, by show _ = _; simp, Below.refl _ _⟩
  case round =>
    obtain ⟨j, tx, hj, rfl, rfl, htx, hbr⟩ := hrel
    have HGr := show Hid (_ ∧ _) from And.intro (HG.out.1.old hbr) (HG.out.2.old hbr)
    have hkc := HGr.out.1.cell
    by_cases hjl : j < rs.length
    · rcases own_addr HGr.out.1.own with ⟨_, h0⟩ | ⟨g, rfl⟩
      · omega
      obtain ⟨r0, r1, r2, r3, r4⟩ := g_row HGr.out.1 j hjl
      have hbj := hb _ (List.getElem_mem hjl)
      have hsz : tx.size ≤ 32 * rs.length := by
        rw [← size_list, htx.out]
        have h1 := texts_length (rs.take j) (fun x hx => hb x (List.mem_of_mem_take hx))
        have h2 := List.length_take_le' j rs
        omega
      have hgl := gText_length hbj
      have hnx : (rs.take (j + 1)).flatMap xText = (rs.take j).flatMap xText ++ gText (rs[j]'hjl).v := by
        rw [List.take_succ_eq_append_getElem hjl, List.flatMap_append]
        rw [List.flatMap_cons, List.flatMap_nil, List.append_nil, xText]
      have Hnx := show Hid _ from hnx
      clear hnx
      generalize rs[j]'hjl = r at r0 r1 r2 r3 r4 hbj hgl Hnx
      obtain ⟨⟨rp, rl, rsm, re⟩, rc⟩ := r
      simp only at r0 r1 r2 r3 r4 Hnx
      obtain ⟨b1, b2, b3⟩ := hbj
      simp only at b1 b2 b3
      have hT := show Hid _ from fun (_ : Unit) => gtext_any rp rl rsm re rc wr HGr.out.2 b1 b2 b3
      generalize gText ⟨rp, rl, rsm, re⟩ = L at hgl Hnx hT
      have hLs : (⟨L.toArray⟩ : ByteArray).size = L.length := by simp [ByteArray.size]
      have hLl : (⟨L.toArray⟩ : ByteArray).data.toList = L := by simp
      have hji : (j : Int) < (rs.length : Int) := by omega
      have hj0 : (0 : Int) ≤ (j : Int) := by omega
      generalize (⟨L.toArray⟩ : ByteArray) = BL at hLs hT hLl
      go_wp2_with (go_at_call 106; refine (hT.out ()).mono ?_; rintro en w2 ⟨rfl, hb2⟩)
      go_roundw
      case rel => exact ⟨j + 1, tx ++ BL, by omega, by go_num, rfl, by show _ = _; rw [Hnx.out, ByteArray.data_append, Array.toList_append, htx.out, hLl], hbr.trans (hb2.mono hbr.size)⟩
      case measure => simp [intOf]; omega
    · have hjj : j = rs.length := by omega
      subst hjj
      have Ht := show Hid (tx = ⟨(rs.flatMap xText).toArray⟩) from by
        show _ = _
        apply ba_ext
        rw [htx.out, List.take_length]
      go_wp2
      go_ret
      exact ⟨by rw [← Ht.out]; rfl, hbr⟩
end Go.Proofs.YthccpacmklhejaaGreatDoor
