/-
  canalref.written.
-/
import Derived.Test.YthccpacmklhejaaGreatDoorRefEnc
namespace Go.Proofs.YthccpacmklhejaaGreatDoor
open Go.RowKit

theorem twoB_size (v : Nat) : (twoB v).size = 2 := rfl

theorem head_list (op : Nat) (key : ByteArray) (seq : Nat) (hk8 : key.size ≤ 8) (hs : seq < 65536) :
    ((⟨#[byteOf (op : Int), byteOf (key.size : Int)]⟩ ++ key ++ twoB (u16 (seq : Int)) : ByteArray).data.toList = [UInt8.ofNat op, UInt8.ofNat key.size] ++ key.data.toList ++ [UInt8.ofNat (seq / 256), UInt8.ofNat (seq % 256)]) ∧
    (⟨#[byteOf (op : Int), byteOf (key.size : Int)]⟩ ++ key ++ twoB (u16 (seq : Int)) : ByteArray).size ≤ 12 := by
  have hu : u16 (seq : Int) = seq := by unfold u16; omega
  refine ⟨?_, ?_⟩
  · rw [ByteArray.data_append, Array.toList_append, ByteArray.data_append, Array.toList_append, hu]
    simp [byteOf, twoB]
  · rw [ByteArray.size_append, ByteArray.size_append, twoB_size]
    have : (⟨#[byteOf (op : Int), byteOf (key.size : Int)]⟩ : ByteArray).size = 2 := rfl
    omega

theorem rec_join (S : ByteArray) (e : Ev) (h : S.data.toList = body e) : S ++ ⟨#[UInt8.ofNat (sumB S.data.toList)]⟩ = ⟨(recB e).toArray⟩ := by
  apply ba_ext
  rw [ByteArray.data_append, Array.toList_append, h]
  simp [recB]

set_option maxRecDepth 100000 in
set_option maxHeartbeats 1000000 in
theorem written_put (key : ByteArray) (seq : Nat) (val : Int) (w : World) (hk8 : key.size ≤ 8) (hs : seq < 65536) (hv : -32768 ≤ val) (hv' : val ≤ 32767) :
    Calls Tryz.prog 37 #[.agg #[.int .u8 1, .string key, .int .u16 (seq : Int), .int .i16 val]] w fun e w' => e = .returned (.string ⟨(recB ⟨1, key, seq, val⟩).toArray⟩) ∧ Below w.heap.size w w' := by
  have hT := show Hid _ from fun w => two_any (seq : Int) w (by omega) (by omega)
  go_enter Tryz.func37, Tryz.ntmps37
  go_wp2
  refine wp_region_held_drew (S := (fun w' : World => w'.cell? ⟨w.heap.size, 0, none⟩ = some (.int .u8 1) ∧ w'.cell? ⟨w.heap.size, 1, none⟩ = some (.string key) ∧ w'.cell? ⟨w.heap.size, 2, none⟩ = some (.int .u16 (seq : Int)) ∧ w'.cell? ⟨w.heap.size, 3, none⟩ = some (.int .i16 val))) (by kernel_rfl) (by simp) (fun hH => ?_)
  refine wpAnyH_take (i := 0) (v := .pointer (some ⟨w.heap.size, 0, none⟩)) rfl (by kernel_rfl) (by kernel_rfl) (by kernel_rfl) (fun _ _ _ h => h) (Or.inl ⟨by rfl, by intro w hSw; obtain ⟨s0, s1, s2, s3⟩ := hSw; go_simp⟩) hH ?_
  refine wpAnyH_take (i := 1) (v := .int .u8 1) rfl (by kernel_rfl) (by kernel_rfl) (by kernel_rfl) (fun _ _ _ h => h) (Or.inl ⟨by rfl, by intro w hSw; obtain ⟨s0, s1, s2, s3⟩ := hSw; go_simp⟩) hH ?_
  refine wpAnyH_take (i := 2) (v := .pointer (some ⟨w.heap.size, 1, none⟩)) rfl (by kernel_rfl) (by kernel_rfl) (by kernel_rfl) (fun _ _ _ h => h) (Or.inl ⟨by rfl, by intro w hSw; obtain ⟨s0, s1, s2, s3⟩ := hSw; go_simp⟩) hH ?_
  refine wpAnyH_take (i := 3) (v := .string key) rfl (by kernel_rfl) (by kernel_rfl) (by kernel_rfl) (fun _ _ _ h => h) (Or.inl ⟨by rfl, by intro w hSw; obtain ⟨s0, s1, s2, s3⟩ := hSw; go_simp⟩) hH ?_
  refine wpAnyH_take (i := 4) (v := .int .i64 (key.size : Int)) rfl (by kernel_rfl) (by kernel_rfl) (by kernel_rfl) (fun _ _ _ h => h) (Or.inl ⟨by rfl, by intro w hSw; obtain ⟨s0, s1, s2, s3⟩ := hSw; go_simp⟩) hH ?_
  refine wpAnyH_take (i := 5) (v := .int .u8 (key.size : Int)) rfl (by kernel_rfl) (by kernel_rfl) (by kernel_rfl) (fun _ _ _ h => h) (Or.inl ⟨by rfl, by intro w hSw; obtain ⟨s0, s1, s2, s3⟩ := hSw; go_simp; rw [IntKind.wrap_u8]; omega⟩) hH ?_
  refine wpAnyH_take (i := 8) (v := .pointer (some ⟨w.heap.size, 1, none⟩)) rfl (by kernel_rfl) (by kernel_rfl) (by kernel_rfl) (fun _ _ _ h => h) (Or.inl ⟨by rfl, by intro w hSw; obtain ⟨s0, s1, s2, s3⟩ := hSw; go_simp⟩) hH ?_
  refine wpAnyH_take (i := 9) (v := .string key) rfl (by kernel_rfl) (by kernel_rfl) (by kernel_rfl) (fun _ _ _ h => h) (Or.inl ⟨by rfl, by intro w hSw; obtain ⟨s0, s1, s2, s3⟩ := hSw; go_simp⟩) hH ?_
  refine wpAnyH_take (i := 11) (v := .pointer (some ⟨w.heap.size, 2, none⟩)) rfl (by kernel_rfl) (by kernel_rfl) (by kernel_rfl) (fun _ _ _ h => h) (Or.inl ⟨by rfl, by intro w hSw; obtain ⟨s0, s1, s2, s3⟩ := hSw; go_simp⟩) hH ?_
  refine wpAnyH_take (i := 12) (v := .int .u16 (seq : Int)) rfl (by kernel_rfl) (by kernel_rfl) (by kernel_rfl) (fun _ _ _ h => h) (Or.inl ⟨by rfl, by intro w hSw; obtain ⟨s0, s1, s2, s3⟩ := hSw; go_simp⟩) hH ?_
  refine wpAnyH_take (i := 13) (v := .int .i64 (seq : Int)) rfl (by kernel_rfl) (by kernel_rfl) (by kernel_rfl) (fun _ _ _ h => h) (Or.inl ⟨by rfl, by intro w hSw; obtain ⟨s0, s1, s2, s3⟩ := hSw; go_simp; exact wrap_small _ (by omega) (by omega)⟩) hH ?_
  refine wpAnyH_ready (rs := [6, 14]) (by kernel_rfl) (by simp) ?_
  refine AllReadyH.cons rfl (fun K hK => ?_) (AllReadyH.cons rfl (fun K hK => ?_) AllReadyH.nil)
  · go_simp
    refine hK.out _ _ (by simp) (fun hH => ?_)
    clear hK K
    refine wpAnyH_ready (rs := [7, 14]) (by kernel_rfl) (by simp) ?_
    refine AllReadyH.cons rfl (fun K hK => ?_) (AllReadyH.cons rfl (fun K hK => ?_) AllReadyH.nil)
    · have hc := conv_two (W := ((w.alloc (.cells #[.int .u8 1, .string key, .int .u16 (seq : Int), .int .i16 val] 41)).alloc (.cells #[.int .u8 1, .int .u8 (key.size : Int)] 5)).drew) (B := w.heap.size + 1) (c := 2) (x := 1) (y := (key.size : Int)) (by omega) (by omega) (by omega) (by omega) (by simp) (by simp)
      go_simp
      refine hK.out _ _ (by simp) (fun hH => ?_)
      clear hK K
      clear hc
      refine wpAnyH_take (i := 10) (v := .string (⟨#[byteOf 1, byteOf (key.size : Int)]⟩ ++ key)) rfl (by kernel_rfl) (by kernel_rfl) (by kernel_rfl) (fun _ _ _ h => h) (Or.inl ⟨by rfl, by intro w hSw; obtain ⟨s0, s1, s2, s3⟩ := hSw; go_simp; omega⟩) hH ?_
      refine wpAnyH_ready (rs := [14]) (by kernel_rfl) (by simp) ?_
      refine AllReadyH.cons rfl (fun K hK => ?_) AllReadyH.nil
      go_simp
      go_wp2_with (go_at_call 63; refine (hT.out _).mono ?_; rintro e w8 ⟨rfl, hb8⟩; obtain ⟨k8, f8⟩ := bcell hb8)
      refine hK.out _ _ ⟨by rw [k8 _ _ (by simp <;> omega)]; simp, by rw [k8 _ _ (by simp <;> omega)]; simp, by rw [k8 _ _ (by simp <;> omega)]; simp, by rw [k8 _ _ (by simp <;> omega)]; simp⟩ (fun hH => ?_)
      clear hK K
      refine wpAnyH_take (i := 15) (v := .string (⟨#[byteOf 1, byteOf (key.size : Int)]⟩ ++ key ++ twoB (u16 (seq : Int)))) rfl (by kernel_rfl) (by kernel_rfl) (by kernel_rfl) (fun _ _ _ h => h) (Or.inl ⟨by rfl, by intro w hSw; obtain ⟨s0, s1, s2, s3⟩ := hSw; go_simp; rw [twoB_size]; omega⟩) hH ?_
      refine wpAnyH_take (i := 16) (v := .string (⟨#[byteOf 1, byteOf (key.size : Int)]⟩ ++ key ++ twoB (u16 (seq : Int)))) rfl (by kernel_rfl) (by kernel_rfl) (by kernel_rfl) (fun _ _ _ h => h) (Or.inl ⟨by rfl, by intro w hSw; obtain ⟨s0, s1, s2, s3⟩ := hSw; go_simp⟩) hH ?_
      refine wpAnyH_done (by kernel_rfl) ?_ _
      have hbx : Below (w.heap.size + 1) (w.alloc (.cells #[.int .u8 1, .string key, .int .u16 (seq : Int), .int .i16 val] 41)) _ := ((Below.refl _ _).alloc (by simp) _).drew.trans (hb8.mono (by simp))
      have hzx := hbx.size
      obtain ⟨z0, z1, z2, z3⟩ := hH
      have HS := show Hid ((⟨#[byteOf 1, byteOf (key.size : Int)]⟩ ++ key ++ twoB (u16 (seq : Int)) : ByteArray).data.toList = [UInt8.ofNat 1, UInt8.ofNat key.size] ++ key.data.toList ++ [UInt8.ofNat (seq / 256), UInt8.ofNat (seq % 256)] ∧ (⟨#[byteOf 1, byteOf (key.size : Int)]⟩ ++ key ++ twoB (u16 (seq : Int)) : ByteArray).size ≤ 12) from head_list 1 key seq hk8 hs
      generalize (⟨#[byteOf 1, byteOf (key.size : Int)]⟩ ++ key ++ twoB (u16 (seq : Int)) : ByteArray) = S1 at HS
      have hS12 := HS.out.2
      skip
      clear hb8 k8 f8 hT
      simp at hzx
      have hc : ∀ o, w8.cell? ⟨w.heap.size, o, none⟩ = (w.alloc (.cells #[.int .u8 1, .string key, .int .u16 (seq : Int), .int .i16 val] 41)).cell? ⟨w.heap.size, o, none⟩ := fun o => hbx.cell (p := ⟨w.heap.size, o, none⟩) (by simp)
      have hT2 := show Hid _ from fun w => two_any val w (by omega) (by omega)
      have hR := show Hid _ from fun w => rsum_any (S1 ++ twoB (u16 val)) w (by rw [ByteArray.size_append, twoB_size]; omega)
      have hjoin := rec_join (S1 ++ twoB (u16 val)) ⟨1, key, seq, val⟩ (by rw [ByteArray.data_append, Array.toList_append, HS.out.1]; simp [body, twoB])
      have hs2 : (S1 ++ twoB (u16 val)).size ≤ 14 := by rw [ByteArray.size_append, twoB_size]; omega
      have hts : (twoB (u16 val)).size ≤ 2 := Nat.le_of_eq (twoB_size _)
      have Hj := show Hid (_ = _) from hjoin
      clear hjoin
      generalize twoB (u16 val) = tv at hT2 hR Hj hs2 hts
      go_wp2_with (first | (go_at_call 63; refine (hT2.out _).mono ?_; rintro e w10 ⟨rfl, hb10⟩) | (go_at_call 64; refine (hR.out _).mono ?_; rintro e w11 ⟨rfl, hb11⟩))
      go_ret
      exact ⟨by rw [← Hj.out]; rfl, ((Below.refl _ w).alloc (Nat.le_refl _) _).trans ((hbx.trans ((hb10.trans (hb11.mono hb10.size)).mono (by omega))).mono (by omega))⟩
    · go_simp
      go_wp2_with (go_at_call 63; refine (hT.out _).mono ?_; rintro e w8 ⟨rfl, hb8⟩; obtain ⟨k8, f8⟩ := bcell hb8)
      have hc := conv_two (W := w8) (B := w.heap.size + 1) (c := 2) (x := 1) (y := (key.size : Int)) (by omega) (by omega) (by omega) (by omega) (by rw [k8 _ _ (by simp)]; simp) (by rw [k8 _ _ (by simp)]; simp)
      refine hK.out _ _ ⟨by rw [k8 _ _ (by simp <;> omega)]; simp, by rw [k8 _ _ (by simp <;> omega)]; simp, by rw [k8 _ _ (by simp <;> omega)]; simp, by rw [k8 _ _ (by simp <;> omega)]; simp⟩ (fun hH => ?_)
      clear hK K
      refine wpAnyH_ready (rs := [7]) (by kernel_rfl) (by simp) ?_
      refine AllReadyH.cons rfl (fun K hK => ?_) AllReadyH.nil
      go_simp
      refine hK.out _ _ hH (fun hH => ?_)
      clear hK K
      clear hc
      refine wpAnyH_take (i := 10) (v := .string (⟨#[byteOf 1, byteOf (key.size : Int)]⟩ ++ key)) rfl (by kernel_rfl) (by kernel_rfl) (by kernel_rfl) (fun _ _ _ h => h) (Or.inl ⟨by rfl, by intro w hSw; obtain ⟨s0, s1, s2, s3⟩ := hSw; go_simp; omega⟩) hH ?_
      refine wpAnyH_take (i := 15) (v := .string (⟨#[byteOf 1, byteOf (key.size : Int)]⟩ ++ key ++ twoB (u16 (seq : Int)))) rfl (by kernel_rfl) (by kernel_rfl) (by kernel_rfl) (fun _ _ _ h => h) (Or.inl ⟨by rfl, by intro w hSw; obtain ⟨s0, s1, s2, s3⟩ := hSw; go_simp; rw [twoB_size]; omega⟩) hH ?_
      refine wpAnyH_take (i := 16) (v := .string (⟨#[byteOf 1, byteOf (key.size : Int)]⟩ ++ key ++ twoB (u16 (seq : Int)))) rfl (by kernel_rfl) (by kernel_rfl) (by kernel_rfl) (fun _ _ _ h => h) (Or.inl ⟨by rfl, by intro w hSw; obtain ⟨s0, s1, s2, s3⟩ := hSw; go_simp⟩) hH ?_
      refine wpAnyH_done (by kernel_rfl) ?_ _
      have hbx : Below (w.heap.size + 1) (w.alloc (.cells #[.int .u8 1, .string key, .int .u16 (seq : Int), .int .i16 val] 41)) _ := ((Below.refl _ _).alloc (by simp) _).drew.trans (hb8.mono (by simp))
      have hzx := hbx.size
      obtain ⟨z0, z1, z2, z3⟩ := hH
      have HS := show Hid ((⟨#[byteOf 1, byteOf (key.size : Int)]⟩ ++ key ++ twoB (u16 (seq : Int)) : ByteArray).data.toList = [UInt8.ofNat 1, UInt8.ofNat key.size] ++ key.data.toList ++ [UInt8.ofNat (seq / 256), UInt8.ofNat (seq % 256)] ∧ (⟨#[byteOf 1, byteOf (key.size : Int)]⟩ ++ key ++ twoB (u16 (seq : Int)) : ByteArray).size ≤ 12) from head_list 1 key seq hk8 hs
      generalize (⟨#[byteOf 1, byteOf (key.size : Int)]⟩ ++ key ++ twoB (u16 (seq : Int)) : ByteArray) = S1 at HS
      have hS12 := HS.out.2
      skip
      clear hb8 k8 f8 hT
      simp at hzx
      have hc : ∀ o, w8.cell? ⟨w.heap.size, o, none⟩ = (w.alloc (.cells #[.int .u8 1, .string key, .int .u16 (seq : Int), .int .i16 val] 41)).cell? ⟨w.heap.size, o, none⟩ := fun o => hbx.cell (p := ⟨w.heap.size, o, none⟩) (by simp)
      have hT2 := show Hid _ from fun w => two_any val w (by omega) (by omega)
      have hR := show Hid _ from fun w => rsum_any (S1 ++ twoB (u16 val)) w (by rw [ByteArray.size_append, twoB_size]; omega)
      have hjoin := rec_join (S1 ++ twoB (u16 val)) ⟨1, key, seq, val⟩ (by rw [ByteArray.data_append, Array.toList_append, HS.out.1]; simp [body, twoB])
      have hs2 : (S1 ++ twoB (u16 val)).size ≤ 14 := by rw [ByteArray.size_append, twoB_size]; omega
      have hts : (twoB (u16 val)).size ≤ 2 := Nat.le_of_eq (twoB_size _)
      have Hj := show Hid (_ = _) from hjoin
      clear hjoin
      generalize twoB (u16 val) = tv at hT2 hR Hj hs2 hts
      go_wp2_with (first | (go_at_call 63; refine (hT2.out _).mono ?_; rintro e w10 ⟨rfl, hb10⟩) | (go_at_call 64; refine (hR.out _).mono ?_; rintro e w11 ⟨rfl, hb11⟩))
      go_ret
      exact ⟨by rw [← Hj.out]; rfl, ((Below.refl _ w).alloc (Nat.le_refl _) _).trans ((hbx.trans ((hb10.trans (hb11.mono hb10.size)).mono (by omega))).mono (by omega))⟩
  · go_simp
    go_wp2_with (go_at_call 63; refine (hT.out _).mono ?_; rintro e w8 ⟨rfl, hb8⟩; obtain ⟨k8, f8⟩ := bcell hb8)
    refine hK.out _ _ ⟨by rw [k8 _ _ (by simp <;> omega)]; simp, by rw [k8 _ _ (by simp <;> omega)]; simp, by rw [k8 _ _ (by simp <;> omega)]; simp, by rw [k8 _ _ (by simp <;> omega)]; simp⟩ (fun hH => ?_)
    clear hK K
    refine wpAnyH_ready (rs := [6]) (by kernel_rfl) (by simp) ?_
    refine AllReadyH.cons rfl (fun K hK => ?_) AllReadyH.nil
    go_simp
    refine hK.out _ _ (by obtain ⟨z0, z1, z2, z3⟩ := hH; have hz8 : w.heap.size < w8.heap.size := by { have := hb8.size; simp at this; omega }; simp [World.cell?_alloc_past, hz8, z0, z1, z2, z3]) (fun hH => ?_)
    clear hK K
    have hc := conv_two (W := w8.alloc (.cells #[.int .u8 1, .int .u8 (key.size : Int)] 5)) (B := w8.heap.size) (c := 2) (x := 1) (y := (key.size : Int)) (by omega) (by omega) (by omega) (by omega) (by simp) (by simp)
    refine wpAnyH_ready (rs := [7]) (by kernel_rfl) (by simp) ?_
    refine AllReadyH.cons rfl (fun K hK => ?_) AllReadyH.nil
    go_simp
    refine hK.out _ _ hH (fun hH => ?_)
    clear hK K
    clear hc
    refine wpAnyH_take (i := 10) (v := .string (⟨#[byteOf 1, byteOf (key.size : Int)]⟩ ++ key)) rfl (by kernel_rfl) (by kernel_rfl) (by kernel_rfl) (fun _ _ _ h => h) (Or.inl ⟨by rfl, by intro w hSw; obtain ⟨s0, s1, s2, s3⟩ := hSw; go_simp; omega⟩) hH ?_
    refine wpAnyH_take (i := 15) (v := .string (⟨#[byteOf 1, byteOf (key.size : Int)]⟩ ++ key ++ twoB (u16 (seq : Int)))) rfl (by kernel_rfl) (by kernel_rfl) (by kernel_rfl) (fun _ _ _ h => h) (Or.inl ⟨by rfl, by intro w hSw; obtain ⟨s0, s1, s2, s3⟩ := hSw; go_simp; rw [twoB_size]; omega⟩) hH ?_
    refine wpAnyH_take (i := 16) (v := .string (⟨#[byteOf 1, byteOf (key.size : Int)]⟩ ++ key ++ twoB (u16 (seq : Int)))) rfl (by kernel_rfl) (by kernel_rfl) (by kernel_rfl) (fun _ _ _ h => h) (Or.inl ⟨by rfl, by intro w hSw; obtain ⟨s0, s1, s2, s3⟩ := hSw; go_simp⟩) hH ?_
    refine wpAnyH_done (by kernel_rfl) ?_ _
    have hbx : Below (w.heap.size + 1) (w.alloc (.cells #[.int .u8 1, .string key, .int .u16 (seq : Int), .int .i16 val] 41)) _ := ((Below.refl _ _).drew.trans (hb8.mono (by simp))).alloc (by have := hb8.size; simp at this; omega) (.cells #[.int .u8 1, .int .u8 (key.size : Int)] 5)
    have hzx := hbx.size
    obtain ⟨z0, z1, z2, z3⟩ := hH
    have HS := show Hid ((⟨#[byteOf 1, byteOf (key.size : Int)]⟩ ++ key ++ twoB (u16 (seq : Int)) : ByteArray).data.toList = [UInt8.ofNat 1, UInt8.ofNat key.size] ++ key.data.toList ++ [UInt8.ofNat (seq / 256), UInt8.ofNat (seq % 256)] ∧ (⟨#[byteOf 1, byteOf (key.size : Int)]⟩ ++ key ++ twoB (u16 (seq : Int)) : ByteArray).size ≤ 12) from head_list 1 key seq hk8 hs
    generalize (⟨#[byteOf 1, byteOf (key.size : Int)]⟩ ++ key ++ twoB (u16 (seq : Int)) : ByteArray) = S1 at HS
    have hS12 := HS.out.2
    generalize w8.alloc (.cells #[.int .u8 1, .int .u8 (key.size : Int)] 5) = w9 at hbx hzx z0 z1 z2 z3
    clear hb8 k8 f8 hT
    simp at hzx
    have hc : ∀ o, w9.cell? ⟨w.heap.size, o, none⟩ = (w.alloc (.cells #[.int .u8 1, .string key, .int .u16 (seq : Int), .int .i16 val] 41)).cell? ⟨w.heap.size, o, none⟩ := fun o => hbx.cell (p := ⟨w.heap.size, o, none⟩) (by simp)
    have hT2 := show Hid _ from fun w => two_any val w (by omega) (by omega)
    have hR := show Hid _ from fun w => rsum_any (S1 ++ twoB (u16 val)) w (by rw [ByteArray.size_append, twoB_size]; omega)
    have hjoin := rec_join (S1 ++ twoB (u16 val)) ⟨1, key, seq, val⟩ (by rw [ByteArray.data_append, Array.toList_append, HS.out.1]; simp [body, twoB])
    have hs2 : (S1 ++ twoB (u16 val)).size ≤ 14 := by rw [ByteArray.size_append, twoB_size]; omega
    have hts : (twoB (u16 val)).size ≤ 2 := Nat.le_of_eq (twoB_size _)
    have Hj := show Hid (_ = _) from hjoin
    clear hjoin
    generalize twoB (u16 val) = tv at hT2 hR Hj hs2 hts
    go_wp2_with (first | (go_at_call 63; refine (hT2.out _).mono ?_; rintro e w10 ⟨rfl, hb10⟩) | (go_at_call 64; refine (hR.out _).mono ?_; rintro e w11 ⟨rfl, hb11⟩))
    go_ret
    exact ⟨by rw [← Hj.out]; rfl, ((Below.refl _ w).alloc (Nat.le_refl _) _).trans ((hbx.trans ((hb10.trans (hb11.mono hb10.size)).mono (by omega))).mono (by omega))⟩

set_option maxRecDepth 100000 in
set_option maxHeartbeats 1000000 in
theorem written_drop (key : ByteArray) (seq : Nat) (w : World) (hk8 : key.size ≤ 8) (hs : seq < 65536) :
    Calls Tryz.prog 37 #[.agg #[.int .u8 2, .string key, .int .u16 (seq : Int), .int .i16 0]] w fun e w' => e = .returned (.string ⟨(recB ⟨2, key, seq, 0⟩).toArray⟩) ∧ Below w.heap.size w w' := by
  have hT := show Hid _ from fun w => two_any (seq : Int) w (by omega) (by omega)
  go_enter Tryz.func37, Tryz.ntmps37
  go_wp2
  refine wp_region_held_drew (S := (fun w' : World => w'.cell? ⟨w.heap.size, 0, none⟩ = some (.int .u8 2) ∧ w'.cell? ⟨w.heap.size, 1, none⟩ = some (.string key) ∧ w'.cell? ⟨w.heap.size, 2, none⟩ = some (.int .u16 (seq : Int)) ∧ w'.cell? ⟨w.heap.size, 3, none⟩ = some (.int .i16 0))) (by kernel_rfl) (by simp) (fun hH => ?_)
  refine wpAnyH_take (i := 0) (v := .pointer (some ⟨w.heap.size, 0, none⟩)) rfl (by kernel_rfl) (by kernel_rfl) (by kernel_rfl) (fun _ _ _ h => h) (Or.inl ⟨by rfl, by intro w hSw; obtain ⟨s0, s1, s2, s3⟩ := hSw; go_simp⟩) hH ?_
  refine wpAnyH_take (i := 1) (v := .int .u8 2) rfl (by kernel_rfl) (by kernel_rfl) (by kernel_rfl) (fun _ _ _ h => h) (Or.inl ⟨by rfl, by intro w hSw; obtain ⟨s0, s1, s2, s3⟩ := hSw; go_simp⟩) hH ?_
  refine wpAnyH_take (i := 2) (v := .pointer (some ⟨w.heap.size, 1, none⟩)) rfl (by kernel_rfl) (by kernel_rfl) (by kernel_rfl) (fun _ _ _ h => h) (Or.inl ⟨by rfl, by intro w hSw; obtain ⟨s0, s1, s2, s3⟩ := hSw; go_simp⟩) hH ?_
  refine wpAnyH_take (i := 3) (v := .string key) rfl (by kernel_rfl) (by kernel_rfl) (by kernel_rfl) (fun _ _ _ h => h) (Or.inl ⟨by rfl, by intro w hSw; obtain ⟨s0, s1, s2, s3⟩ := hSw; go_simp⟩) hH ?_
  refine wpAnyH_take (i := 4) (v := .int .i64 (key.size : Int)) rfl (by kernel_rfl) (by kernel_rfl) (by kernel_rfl) (fun _ _ _ h => h) (Or.inl ⟨by rfl, by intro w hSw; obtain ⟨s0, s1, s2, s3⟩ := hSw; go_simp⟩) hH ?_
  refine wpAnyH_take (i := 5) (v := .int .u8 (key.size : Int)) rfl (by kernel_rfl) (by kernel_rfl) (by kernel_rfl) (fun _ _ _ h => h) (Or.inl ⟨by rfl, by intro w hSw; obtain ⟨s0, s1, s2, s3⟩ := hSw; go_simp; rw [IntKind.wrap_u8]; omega⟩) hH ?_
  refine wpAnyH_take (i := 8) (v := .pointer (some ⟨w.heap.size, 1, none⟩)) rfl (by kernel_rfl) (by kernel_rfl) (by kernel_rfl) (fun _ _ _ h => h) (Or.inl ⟨by rfl, by intro w hSw; obtain ⟨s0, s1, s2, s3⟩ := hSw; go_simp⟩) hH ?_
  refine wpAnyH_take (i := 9) (v := .string key) rfl (by kernel_rfl) (by kernel_rfl) (by kernel_rfl) (fun _ _ _ h => h) (Or.inl ⟨by rfl, by intro w hSw; obtain ⟨s0, s1, s2, s3⟩ := hSw; go_simp⟩) hH ?_
  refine wpAnyH_take (i := 11) (v := .pointer (some ⟨w.heap.size, 2, none⟩)) rfl (by kernel_rfl) (by kernel_rfl) (by kernel_rfl) (fun _ _ _ h => h) (Or.inl ⟨by rfl, by intro w hSw; obtain ⟨s0, s1, s2, s3⟩ := hSw; go_simp⟩) hH ?_
  refine wpAnyH_take (i := 12) (v := .int .u16 (seq : Int)) rfl (by kernel_rfl) (by kernel_rfl) (by kernel_rfl) (fun _ _ _ h => h) (Or.inl ⟨by rfl, by intro w hSw; obtain ⟨s0, s1, s2, s3⟩ := hSw; go_simp⟩) hH ?_
  refine wpAnyH_take (i := 13) (v := .int .i64 (seq : Int)) rfl (by kernel_rfl) (by kernel_rfl) (by kernel_rfl) (fun _ _ _ h => h) (Or.inl ⟨by rfl, by intro w hSw; obtain ⟨s0, s1, s2, s3⟩ := hSw; go_simp; exact wrap_small _ (by omega) (by omega)⟩) hH ?_
  refine wpAnyH_ready (rs := [6, 14]) (by kernel_rfl) (by simp) ?_
  refine AllReadyH.cons rfl (fun K hK => ?_) (AllReadyH.cons rfl (fun K hK => ?_) AllReadyH.nil)
  · go_simp
    refine hK.out _ _ (by simp) (fun hH => ?_)
    clear hK K
    refine wpAnyH_ready (rs := [7, 14]) (by kernel_rfl) (by simp) ?_
    refine AllReadyH.cons rfl (fun K hK => ?_) (AllReadyH.cons rfl (fun K hK => ?_) AllReadyH.nil)
    · have hc := conv_two (W := ((w.alloc (.cells #[.int .u8 2, .string key, .int .u16 (seq : Int), .int .i16 0] 41)).alloc (.cells #[.int .u8 2, .int .u8 (key.size : Int)] 5)).drew) (B := w.heap.size + 1) (c := 2) (x := 2) (y := (key.size : Int)) (by omega) (by omega) (by omega) (by omega) (by simp) (by simp)
      go_simp
      refine hK.out _ _ (by simp) (fun hH => ?_)
      clear hK K
      clear hc
      refine wpAnyH_take (i := 10) (v := .string (⟨#[byteOf 2, byteOf (key.size : Int)]⟩ ++ key)) rfl (by kernel_rfl) (by kernel_rfl) (by kernel_rfl) (fun _ _ _ h => h) (Or.inl ⟨by rfl, by intro w hSw; obtain ⟨s0, s1, s2, s3⟩ := hSw; go_simp; omega⟩) hH ?_
      refine wpAnyH_ready (rs := [14]) (by kernel_rfl) (by simp) ?_
      refine AllReadyH.cons rfl (fun K hK => ?_) AllReadyH.nil
      go_simp
      go_wp2_with (go_at_call 63; refine (hT.out _).mono ?_; rintro e w8 ⟨rfl, hb8⟩; obtain ⟨k8, f8⟩ := bcell hb8)
      refine hK.out _ _ ⟨by rw [k8 _ _ (by simp <;> omega)]; simp, by rw [k8 _ _ (by simp <;> omega)]; simp, by rw [k8 _ _ (by simp <;> omega)]; simp, by rw [k8 _ _ (by simp <;> omega)]; simp⟩ (fun hH => ?_)
      clear hK K
      refine wpAnyH_take (i := 15) (v := .string (⟨#[byteOf 2, byteOf (key.size : Int)]⟩ ++ key ++ twoB (u16 (seq : Int)))) rfl (by kernel_rfl) (by kernel_rfl) (by kernel_rfl) (fun _ _ _ h => h) (Or.inl ⟨by rfl, by intro w hSw; obtain ⟨s0, s1, s2, s3⟩ := hSw; go_simp; rw [twoB_size]; omega⟩) hH ?_
      refine wpAnyH_take (i := 16) (v := .string (⟨#[byteOf 2, byteOf (key.size : Int)]⟩ ++ key ++ twoB (u16 (seq : Int)))) rfl (by kernel_rfl) (by kernel_rfl) (by kernel_rfl) (fun _ _ _ h => h) (Or.inl ⟨by rfl, by intro w hSw; obtain ⟨s0, s1, s2, s3⟩ := hSw; go_simp⟩) hH ?_
      refine wpAnyH_done (by kernel_rfl) ?_ _
      have hbx : Below (w.heap.size + 1) (w.alloc (.cells #[.int .u8 2, .string key, .int .u16 (seq : Int), .int .i16 0] 41)) _ := ((Below.refl _ _).alloc (by simp) _).drew.trans (hb8.mono (by simp))
      have hzx := hbx.size
      obtain ⟨z0, z1, z2, z3⟩ := hH
      have HS := show Hid ((⟨#[byteOf 2, byteOf (key.size : Int)]⟩ ++ key ++ twoB (u16 (seq : Int)) : ByteArray).data.toList = [UInt8.ofNat 2, UInt8.ofNat key.size] ++ key.data.toList ++ [UInt8.ofNat (seq / 256), UInt8.ofNat (seq % 256)] ∧ (⟨#[byteOf 2, byteOf (key.size : Int)]⟩ ++ key ++ twoB (u16 (seq : Int)) : ByteArray).size ≤ 12) from head_list 2 key seq hk8 hs
      generalize (⟨#[byteOf 2, byteOf (key.size : Int)]⟩ ++ key ++ twoB (u16 (seq : Int)) : ByteArray) = S1 at HS
      have hS12 := HS.out.2
      skip
      clear hb8 k8 f8 hT
      simp at hzx
      have hc : ∀ o, w8.cell? ⟨w.heap.size, o, none⟩ = (w.alloc (.cells #[.int .u8 2, .string key, .int .u16 (seq : Int), .int .i16 0] 41)).cell? ⟨w.heap.size, o, none⟩ := fun o => hbx.cell (p := ⟨w.heap.size, o, none⟩) (by simp)
      have hR := show Hid _ from fun w => rsum_any S1 w (by omega)
      have Hj := show Hid (_ = _) from rec_join S1 ⟨2, key, seq, 0⟩ (by rw [HS.out.1]; simp [body])
      go_wp2_with (first | (go_at_call 64; refine (hR.out _).mono ?_; rintro e w11 ⟨rfl, hb11⟩))
      go_ret
      exact ⟨by rw [← Hj.out]; rfl, ((Below.refl _ w).alloc (Nat.le_refl _) _).trans ((hbx.trans (hb11.mono (by omega))).mono (by omega))⟩
    · go_simp
      go_wp2_with (go_at_call 63; refine (hT.out _).mono ?_; rintro e w8 ⟨rfl, hb8⟩; obtain ⟨k8, f8⟩ := bcell hb8)
      have hc := conv_two (W := w8) (B := w.heap.size + 1) (c := 2) (x := 2) (y := (key.size : Int)) (by omega) (by omega) (by omega) (by omega) (by rw [k8 _ _ (by simp)]; simp) (by rw [k8 _ _ (by simp)]; simp)
      refine hK.out _ _ ⟨by rw [k8 _ _ (by simp <;> omega)]; simp, by rw [k8 _ _ (by simp <;> omega)]; simp, by rw [k8 _ _ (by simp <;> omega)]; simp, by rw [k8 _ _ (by simp <;> omega)]; simp⟩ (fun hH => ?_)
      clear hK K
      refine wpAnyH_ready (rs := [7]) (by kernel_rfl) (by simp) ?_
      refine AllReadyH.cons rfl (fun K hK => ?_) AllReadyH.nil
      go_simp
      refine hK.out _ _ hH (fun hH => ?_)
      clear hK K
      clear hc
      refine wpAnyH_take (i := 10) (v := .string (⟨#[byteOf 2, byteOf (key.size : Int)]⟩ ++ key)) rfl (by kernel_rfl) (by kernel_rfl) (by kernel_rfl) (fun _ _ _ h => h) (Or.inl ⟨by rfl, by intro w hSw; obtain ⟨s0, s1, s2, s3⟩ := hSw; go_simp; omega⟩) hH ?_
      refine wpAnyH_take (i := 15) (v := .string (⟨#[byteOf 2, byteOf (key.size : Int)]⟩ ++ key ++ twoB (u16 (seq : Int)))) rfl (by kernel_rfl) (by kernel_rfl) (by kernel_rfl) (fun _ _ _ h => h) (Or.inl ⟨by rfl, by intro w hSw; obtain ⟨s0, s1, s2, s3⟩ := hSw; go_simp; rw [twoB_size]; omega⟩) hH ?_
      refine wpAnyH_take (i := 16) (v := .string (⟨#[byteOf 2, byteOf (key.size : Int)]⟩ ++ key ++ twoB (u16 (seq : Int)))) rfl (by kernel_rfl) (by kernel_rfl) (by kernel_rfl) (fun _ _ _ h => h) (Or.inl ⟨by rfl, by intro w hSw; obtain ⟨s0, s1, s2, s3⟩ := hSw; go_simp⟩) hH ?_
      refine wpAnyH_done (by kernel_rfl) ?_ _
      have hbx : Below (w.heap.size + 1) (w.alloc (.cells #[.int .u8 2, .string key, .int .u16 (seq : Int), .int .i16 0] 41)) _ := ((Below.refl _ _).alloc (by simp) _).drew.trans (hb8.mono (by simp))
      have hzx := hbx.size
      obtain ⟨z0, z1, z2, z3⟩ := hH
      have HS := show Hid ((⟨#[byteOf 2, byteOf (key.size : Int)]⟩ ++ key ++ twoB (u16 (seq : Int)) : ByteArray).data.toList = [UInt8.ofNat 2, UInt8.ofNat key.size] ++ key.data.toList ++ [UInt8.ofNat (seq / 256), UInt8.ofNat (seq % 256)] ∧ (⟨#[byteOf 2, byteOf (key.size : Int)]⟩ ++ key ++ twoB (u16 (seq : Int)) : ByteArray).size ≤ 12) from head_list 2 key seq hk8 hs
      generalize (⟨#[byteOf 2, byteOf (key.size : Int)]⟩ ++ key ++ twoB (u16 (seq : Int)) : ByteArray) = S1 at HS
      have hS12 := HS.out.2
      skip
      clear hb8 k8 f8 hT
      simp at hzx
      have hc : ∀ o, w8.cell? ⟨w.heap.size, o, none⟩ = (w.alloc (.cells #[.int .u8 2, .string key, .int .u16 (seq : Int), .int .i16 0] 41)).cell? ⟨w.heap.size, o, none⟩ := fun o => hbx.cell (p := ⟨w.heap.size, o, none⟩) (by simp)
      have hR := show Hid _ from fun w => rsum_any S1 w (by omega)
      have Hj := show Hid (_ = _) from rec_join S1 ⟨2, key, seq, 0⟩ (by rw [HS.out.1]; simp [body])
      go_wp2_with (first | (go_at_call 64; refine (hR.out _).mono ?_; rintro e w11 ⟨rfl, hb11⟩))
      go_ret
      exact ⟨by rw [← Hj.out]; rfl, ((Below.refl _ w).alloc (Nat.le_refl _) _).trans ((hbx.trans (hb11.mono (by omega))).mono (by omega))⟩
  · go_simp
    go_wp2_with (go_at_call 63; refine (hT.out _).mono ?_; rintro e w8 ⟨rfl, hb8⟩; obtain ⟨k8, f8⟩ := bcell hb8)
    refine hK.out _ _ ⟨by rw [k8 _ _ (by simp <;> omega)]; simp, by rw [k8 _ _ (by simp <;> omega)]; simp, by rw [k8 _ _ (by simp <;> omega)]; simp, by rw [k8 _ _ (by simp <;> omega)]; simp⟩ (fun hH => ?_)
    clear hK K
    refine wpAnyH_ready (rs := [6]) (by kernel_rfl) (by simp) ?_
    refine AllReadyH.cons rfl (fun K hK => ?_) AllReadyH.nil
    go_simp
    refine hK.out _ _ (by obtain ⟨z0, z1, z2, z3⟩ := hH; have hz8 : w.heap.size < w8.heap.size := by { have := hb8.size; simp at this; omega }; simp [World.cell?_alloc_past, hz8, z0, z1, z2, z3]) (fun hH => ?_)
    clear hK K
    have hc := conv_two (W := w8.alloc (.cells #[.int .u8 2, .int .u8 (key.size : Int)] 5)) (B := w8.heap.size) (c := 2) (x := 2) (y := (key.size : Int)) (by omega) (by omega) (by omega) (by omega) (by simp) (by simp)
    refine wpAnyH_ready (rs := [7]) (by kernel_rfl) (by simp) ?_
    refine AllReadyH.cons rfl (fun K hK => ?_) AllReadyH.nil
    go_simp
    refine hK.out _ _ hH (fun hH => ?_)
    clear hK K
    clear hc
    refine wpAnyH_take (i := 10) (v := .string (⟨#[byteOf 2, byteOf (key.size : Int)]⟩ ++ key)) rfl (by kernel_rfl) (by kernel_rfl) (by kernel_rfl) (fun _ _ _ h => h) (Or.inl ⟨by rfl, by intro w hSw; obtain ⟨s0, s1, s2, s3⟩ := hSw; go_simp; omega⟩) hH ?_
    refine wpAnyH_take (i := 15) (v := .string (⟨#[byteOf 2, byteOf (key.size : Int)]⟩ ++ key ++ twoB (u16 (seq : Int)))) rfl (by kernel_rfl) (by kernel_rfl) (by kernel_rfl) (fun _ _ _ h => h) (Or.inl ⟨by rfl, by intro w hSw; obtain ⟨s0, s1, s2, s3⟩ := hSw; go_simp; rw [twoB_size]; omega⟩) hH ?_
    refine wpAnyH_take (i := 16) (v := .string (⟨#[byteOf 2, byteOf (key.size : Int)]⟩ ++ key ++ twoB (u16 (seq : Int)))) rfl (by kernel_rfl) (by kernel_rfl) (by kernel_rfl) (fun _ _ _ h => h) (Or.inl ⟨by rfl, by intro w hSw; obtain ⟨s0, s1, s2, s3⟩ := hSw; go_simp⟩) hH ?_
    refine wpAnyH_done (by kernel_rfl) ?_ _
    have hbx : Below (w.heap.size + 1) (w.alloc (.cells #[.int .u8 2, .string key, .int .u16 (seq : Int), .int .i16 0] 41)) _ := ((Below.refl _ _).drew.trans (hb8.mono (by simp))).alloc (by have := hb8.size; simp at this; omega) (.cells #[.int .u8 2, .int .u8 (key.size : Int)] 5)
    have hzx := hbx.size
    obtain ⟨z0, z1, z2, z3⟩ := hH
    have HS := show Hid ((⟨#[byteOf 2, byteOf (key.size : Int)]⟩ ++ key ++ twoB (u16 (seq : Int)) : ByteArray).data.toList = [UInt8.ofNat 2, UInt8.ofNat key.size] ++ key.data.toList ++ [UInt8.ofNat (seq / 256), UInt8.ofNat (seq % 256)] ∧ (⟨#[byteOf 2, byteOf (key.size : Int)]⟩ ++ key ++ twoB (u16 (seq : Int)) : ByteArray).size ≤ 12) from head_list 2 key seq hk8 hs
    generalize (⟨#[byteOf 2, byteOf (key.size : Int)]⟩ ++ key ++ twoB (u16 (seq : Int)) : ByteArray) = S1 at HS
    have hS12 := HS.out.2
    generalize w8.alloc (.cells #[.int .u8 2, .int .u8 (key.size : Int)] 5) = w9 at hbx hzx z0 z1 z2 z3
    clear hb8 k8 f8 hT
    simp at hzx
    have hc : ∀ o, w9.cell? ⟨w.heap.size, o, none⟩ = (w.alloc (.cells #[.int .u8 2, .string key, .int .u16 (seq : Int), .int .i16 0] 41)).cell? ⟨w.heap.size, o, none⟩ := fun o => hbx.cell (p := ⟨w.heap.size, o, none⟩) (by simp)
    have hR := show Hid _ from fun w => rsum_any S1 w (by omega)
    have Hj := show Hid (_ = _) from rec_join S1 ⟨2, key, seq, 0⟩ (by rw [HS.out.1]; simp [body])
    go_wp2_with (first | (go_at_call 64; refine (hR.out _).mono ?_; rintro e w11 ⟨rfl, hb11⟩))
    go_ret
    exact ⟨by rw [← Hj.out]; rfl, ((Below.refl _ w).alloc (Nat.le_refl _) _).trans ((hbx.trans (hb11.mono (by omega))).mono (by omega))⟩
end Go.Proofs.YthccpacmklhejaaGreatDoor
