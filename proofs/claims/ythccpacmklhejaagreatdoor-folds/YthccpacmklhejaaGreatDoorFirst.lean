/-
  record.first.
-/
import Derived.Test.YthccpacmklhejaaGreatDoorEnc2
import Derived.Deep.RegionWith
import Derived.Deep.RegionHeld3
import Derived.BigRegion
namespace Go.Proofs.YthccpacmklhejaaGreatDoor
open Go.RowKit

def evZero : Ev := ⟨0, ⟨#[]⟩, 0, 0⟩

set_option maxHeartbeats 1000000 in
theorem first_short (s : ByteArray) (w : World) (h : s.size < 2) :
    Calls Tryz.prog 86 #[.string s] w fun en w' => en = .returned (.tuple #[evZero.value, .int .i64 0]) ∧ Below w.heap.size w w' := by
  unfold evZero Ev.value
  go_enter Tryz.func86, Tryz.ntmps86
  go_wp2
  exact bodyPost_ret (v := .tuple #[.agg #[.int .u8 0, .string ⟨#[]⟩, .int .u16 0, .int .i16 0], .int .i64 0]) (by simp [results, Tryz.results86, go_sem]) rfl ⟨rfl, (Below.refl _ _).alloc (Nat.le_refl _) _⟩

theorem below_two {w w1 : World} {o p : Obj} (hb : Below (((w.alloc o).alloc p).drew.drew).heap.size (((w.alloc o).alloc p).drew.drew) w1) : Below w.heap.size w w1 :=
  (((((Below.refl _ w).alloc (Nat.le_refl _) o).alloc (by simp) p).drew).drew).trans (hb.mono (by simp; omega))

theorem below_two' {w w1 : World} {o p : Obj} (hb : Below (((w.alloc o).alloc p).drew).heap.size (((w.alloc o).alloc p).drew) w1) : Below w.heap.size w w1 :=
  ((((Below.refl _ w).alloc (Nat.le_refl _) o).alloc (by simp) p).drew).trans (hb.mono (by simp; omega))

theorem at_int (s : ByteArray) (i : Nat) (j : Int) (hj : j = i) (h : i < s.size) : ∃ h' : j.toNat < s.size, s[j.toNat]'h' = s[i]'h := by
  subst hj
  exact ⟨h, rfl⟩

set_option maxHeartbeats 1000000 in
theorem first_put (s : ByteArray) (w : World) (k a b c d : Nat) (val : Int) (h2 : 2 ≤ s.size) (h0 : (s[0]'(by omega)).toNat = 1) (hk : (s[1]'(by omega)).toNat = k) (hk' : k < 256) (hsz : k + 7 ≤ s.size) (hmx : s.size ≤ 400)
    (ha : (s[2 + k]'(by omega)).toNat = a) (hb : (s[2 + k + 1]'(by omega)).toNat = b) (hc : (s[2 + k + 2]'(by omega)).toNat = c) (hd : (s[2 + k + 2 + 1]'(by omega)).toNat = d) (a' : a < 256) (b' : b < 256) (c' : c < 256) (d' : d < 256)
    (hval : IntKind.i16.wrap ((c : Int) * 256 + d) = val) (t : ByteArray) (r : Nat)
    (hE : ∀ w, Calls Tryz.prog 35 #[.agg #[.int .u8 1, .string (s.extract 2 (2 + k)), .int .u16 ((a : Int) * 256 + b), .int .i16 val]] w fun en w' => en = .returned (.tuple #[.string t, .int .i64 (r : Int)]) ∧ Below w.heap.size w w')
    (out : Value) (Hout : Hid ((r = 0 ∧ t.toList = (s.extract 0 (2 + k + 2 + 1 + 2)).toList → out = .tuple #[.agg #[.int .u8 1, .string (s.extract 2 (2 + k)), .int .u16 ((a : Int) * 256 + b), .int .i16 val], .int .i64 (2 + (k : Int) + 2 + 1 + 2)]) ∧ (¬ (r = 0 ∧ t.toList = (s.extract 0 (2 + k + 2 + 1 + 2)).toList) → out = .tuple #[evZero.value, .int .i64 0]))) :
    Calls Tryz.prog 86 #[.string s] w fun en w' => en = .returned out ∧ Below w.heap.size w w' := by
  have HE := show Hid _ from hE
  clear hE
  have iA : (s[((2 : Int) + (k : Int)).toNat]'(by omega)).toNat = a := by rw [← ha]; exact congrArg UInt8.toNat (at_int s (2 + k) _ (by omega) _).2
  have iB : (s[((2 : Int) + (k : Int) + 1).toNat]'(by omega)).toNat = b := by rw [← hb]; exact congrArg UInt8.toNat (at_int s (2 + k + 1) _ (by omega) _).2
  have iC : (s[((2 : Int) + (k : Int) + 2).toNat]'(by omega)).toNat = c := by rw [← hc]; exact congrArg UInt8.toNat (at_int s (2 + k + 2) _ (by omega) _).2
  have iD : (s[((2 : Int) + (k : Int) + 2 + 1).toNat]'(by omega)).toNat = d := by rw [← hd]; exact congrArg UInt8.toNat (at_int s (2 + k + 2 + 1) _ (by omega) _).2
  clear ha hb hc hd
  go_enter Tryz.func86, Tryz.ntmps86
  go_wp2
  refine wp_region_any (by kernel_rfl) ?_
  try (change wpAny _ _ _ _ _ _ _ (World.drew _))
  refine wpAny_take (i := 0) (v := .string s) rfl (by kernel_rfl) (by kernel_rfl) (by kernel_rfl) (fun _ _ _ h => h) (Or.inl ⟨by rfl, by intro w; go_simp⟩) ?_
  refine wpAny_take (i := 1) (v := .int .u8 1) rfl (by kernel_rfl) (by kernel_rfl) (by kernel_rfl) (fun _ _ _ h => h) (Or.inl ⟨by rfl, by intro w; go_simp; intro h; exfalso; rw [h] at h2; exact absurd h2 (by decide)⟩) ?_
  refine wpAny_take (i := 2) (v := .string s) rfl (by kernel_rfl) (by kernel_rfl) (by kernel_rfl) (fun _ _ _ h => h) (Or.inl ⟨by rfl, by intro w; go_simp⟩) ?_
  refine wpAny_take (i := 3) (v := .int .i64 (2 + k)) rfl (by kernel_rfl) (by kernel_rfl) (by kernel_rfl) (fun _ _ _ h => h) (Or.inl ⟨by rfl, by intro w; go_simp⟩) ?_
  refine wpAny_take (i := 4) (v := .string (s.extract 2 (2 + k))) rfl (by kernel_rfl) (by kernel_rfl) (by kernel_rfl) (fun _ _ _ h => h) (Or.inl ⟨by rfl, by intro w; go_simp; rw [if_pos ⟨by omega, by omega⟩, if_pos (by omega)]; rfl⟩) ?_
  refine wpAny_take (i := 5) (v := .string s) rfl (by kernel_rfl) (by kernel_rfl) (by kernel_rfl) (fun _ _ _ h => h) (Or.inl ⟨by rfl, by intro w; go_simp⟩) ?_
  refine wpAny_take (i := 6) (v := .int .i64 (2 + k)) rfl (by kernel_rfl) (by kernel_rfl) (by kernel_rfl) (fun _ _ _ h => h) (Or.inl ⟨by rfl, by intro w; go_simp⟩) ?_
  refine wpAny_take (i := 7) (v := .int .u8 a) rfl (by kernel_rfl) (by kernel_rfl) (by kernel_rfl) (fun _ _ _ h => h) (Or.inl ⟨by rfl, by intro w; go_simp; intro h; exfalso; omega⟩) ?_
  refine wpAny_take (i := 8) (v := .string s) rfl (by kernel_rfl) (by kernel_rfl) (by kernel_rfl) (fun _ _ _ h => h) (Or.inl ⟨by rfl, by intro w; go_simp⟩) ?_
  refine wpAny_take (i := 9) (v := .int .i64 (2 + k)) rfl (by kernel_rfl) (by kernel_rfl) (by kernel_rfl) (fun _ _ _ h => h) (Or.inl ⟨by rfl, by intro w; go_simp⟩) ?_
  refine wpAny_take (i := 10) (v := .int .i64 (2 + k + 1)) rfl (by kernel_rfl) (by kernel_rfl) (by kernel_rfl) (fun _ _ _ h => h) (Or.inl ⟨by rfl, by intro w; go_simp; exact wrap_small _ (by omega) (by omega)⟩) ?_
  refine wpAny_take (i := 11) (v := .int .u8 b) rfl (by kernel_rfl) (by kernel_rfl) (by kernel_rfl) (fun _ _ _ h => h) (Or.inl ⟨by rfl, by intro w; go_simp; intro h; exfalso; omega⟩) ?_
  refine wpAny_ready (rs := [12, 14]) (by kernel_rfl) (by simp) ?_
  refine AllReady.cons rfl (fun K hK => ?_) (AllReady.cons rfl (fun K hK => ?_) AllReady.nil)
  · go_simp
    go_wp2_with (go_at_call 112; refine (joined_any _ _ _ ?_ ?_ ?_ ?_).mono ?_; omega; omega; omega; omega; rintro e w' ⟨rfl, rfl⟩)
    refine wpAny_take (i := 13) (v := .agg #[.int .u8 1, .string (s.extract 2 (2 + k)), .int .u16 ((a : Int) * 256 + b), .int .i16 0]) rfl (by kernel_rfl) (by kernel_rfl) (by kernel_rfl) (fun _ _ _ h => h) (Or.inl ⟨by rfl, by intro w; go_simp⟩) ?_
    refine wpAny_ready (rs := [14]) (by kernel_rfl) (by simp) ?_
    refine AllReady.cons rfl (fun K hK => ?_) AllReady.nil
    go_simp
    refine hK _ _ ?_; clear hK K
    refine wpAny_ready (rs := [15]) (by kernel_rfl) (by simp) ?_
    refine AllReady.cons rfl (fun K hK => ?_) AllReady.nil
    go_simp
    refine hK _ _ ?_; clear hK K
    refine wpAny_done (by kernel_rfl) ?_ _
    go_wp2
    refine wp_region_any (by kernel_rfl) ?_
    try (change wpAny _ _ _ _ _ _ _ (World.drew _))
    refine wpAny_take (i := 0) (v := .string s) rfl (by kernel_rfl) (by kernel_rfl) (by kernel_rfl) (fun _ _ _ h => h) (Or.inl ⟨by rfl, by intro w; go_simp⟩) ?_
    refine wpAny_take (i := 1) (v := .int .i64 (2 + k)) rfl (by kernel_rfl) (by kernel_rfl) (by kernel_rfl) (fun _ _ _ h => h) (Or.inl ⟨by rfl, by intro w; go_simp⟩) ?_
    refine wpAny_take (i := 2) (v := .int .i64 (2 + k + 2)) rfl (by kernel_rfl) (by kernel_rfl) (by kernel_rfl) (fun _ _ _ h => h) (Or.inl ⟨by rfl, by intro w; go_simp; exact wrap_small _ (by omega) (by omega)⟩) ?_
    refine wpAny_take (i := 3) (v := .int .u8 c) rfl (by kernel_rfl) (by kernel_rfl) (by kernel_rfl) (fun _ _ _ h => h) (Or.inl ⟨by rfl, by intro w; go_simp; intro h; exfalso; omega⟩) ?_
    refine wpAny_take (i := 4) (v := .string s) rfl (by kernel_rfl) (by kernel_rfl) (by kernel_rfl) (fun _ _ _ h => h) (Or.inl ⟨by rfl, by intro w; go_simp⟩) ?_
    refine wpAny_take (i := 5) (v := .int .i64 (2 + k)) rfl (by kernel_rfl) (by kernel_rfl) (by kernel_rfl) (fun _ _ _ h => h) (Or.inl ⟨by rfl, by intro w; go_simp⟩) ?_
    refine wpAny_take (i := 6) (v := .int .i64 (2 + k + 2)) rfl (by kernel_rfl) (by kernel_rfl) (by kernel_rfl) (fun _ _ _ h => h) (Or.inl ⟨by rfl, by intro w; go_simp; exact wrap_small _ (by omega) (by omega)⟩) ?_
    refine wpAny_take (i := 7) (v := .int .i64 (2 + k + 2 + 1)) rfl (by kernel_rfl) (by kernel_rfl) (by kernel_rfl) (fun _ _ _ h => h) (Or.inl ⟨by rfl, by intro w; go_simp; exact wrap_small _ (by omega) (by omega)⟩) ?_
    refine wpAny_take (i := 8) (v := .int .u8 d) rfl (by kernel_rfl) (by kernel_rfl) (by kernel_rfl) (fun _ _ _ h => h) (Or.inl ⟨by rfl, by intro w; go_simp; intro h; exfalso; omega⟩) ?_
    refine wpAny_ready (rs := [9]) (by kernel_rfl) (by simp) ?_
    refine AllReady.cons rfl (fun K hK => ?_) AllReady.nil
    go_simp
    go_wp2_with (go_at_call 112; refine (joined_any _ _ _ ?_ ?_ ?_ ?_).mono ?_; omega; omega; omega; omega; rintro e w' ⟨rfl, rfl⟩)
    refine wpAny_take (i := 10) (v := .int .i16 val) rfl (by kernel_rfl) (by kernel_rfl) (by kernel_rfl) (fun _ _ _ h => h) (Or.inl ⟨by rfl, by intro w; go_simp⟩) ?_
    refine wpAny_take (i := 11) (v := .pointer (some ⟨w.heap.size + 1, 3, none⟩)) rfl (by kernel_rfl) (by kernel_rfl) (by kernel_rfl) (fun _ _ _ h => h) (Or.inl ⟨by rfl, by intro w; go_simp⟩) ?_
    refine wpAny_ready (rs := [12]) (by kernel_rfl) (by simp) ?_
    refine AllReady.cons rfl (fun K hK => ?_) AllReady.nil
    go_simp
    refine hK _ _ ?_; clear hK K
    refine wpAny_done (by kernel_rfl) ?_ _
    go_wp2_with fail
    refine (HE.out _).mono ?_
    rintro e w1 ⟨rfl, hb⟩
    obtain ⟨hc, hf⟩ := bcell hb
    have hz : w.heap.size + 2 ≤ w1.heap.size := by have := hb.size; simp at this; omega
    have hbw := below_two hb
    have c0 : w1.cell? ⟨w.heap.size, 0, none⟩ = some (.int .u8 0) := by rw [hc _ _ (by simp; omega)]; simp
    have c1 : w1.cell? ⟨w.heap.size, 1, none⟩ = some (.string ⟨#[]⟩) := by rw [hc _ _ (by simp; omega)]; simp
    have c2 : w1.cell? ⟨w.heap.size, 2, none⟩ = some (.int .u16 0) := by rw [hc _ _ (by simp; omega)]; simp
    have c3 : w1.cell? ⟨w.heap.size, 3, none⟩ = some (.int .i16 0) := by rw [hc _ _ (by simp; omega)]; simp
    clear hb
    by_cases hr : r = 0
    · subst hr
      by_cases ht : t.toList = (s.extract 0 (2 + k + 2 + 1 + 2)).toList
      · have htb : (t.toList == (s.extract 0 (2 + k + 2 + 1 + 2)).toList) = true := by simpa using ht
        have HO := show Hid (out = _) from Hout.out.1 ⟨rfl, ht⟩
        clear ht
        go_wp2
        exact bodyPost_ret (v := .tuple #[.agg #[.int .u8 1, .string (s.extract 2 (2 + k)), .int .u16 ((a : Int) * 256 + b), .int .i16 val], .int .i64 (2 + (k : Int) + 2 + 1 + 2)]) (by simp [results, Tryz.results86, go_sem, c0, c1, c2, c3]) rfl ⟨by rw [HO.out], (((hbw.setCell (by simp) _).setCell (by simp) _).setCell (by simp) _).setCell (by simp) _⟩
      · have htb : (t.toList == (s.extract 0 (2 + k + 2 + 1 + 2)).toList) = false := by simpa using ht
        have HO := show Hid (out = _) from Hout.out.2 (fun h => ht h.2)
        clear ht
        go_wp2
        exact bodyPost_ret (v := .tuple #[.agg #[.int .u8 0, .string ⟨#[]⟩, .int .u16 0, .int .i16 0], .int .i64 0]) (by simp [results, Tryz.results86, go_sem, c0, c1, c2, c3]) rfl ⟨by rw [HO.out]; rfl, (((hbw.setCell (by simp) _).setCell (by simp) _).setCell (by simp) _).setCell (by simp) _⟩
    · have hrb : ((r : Int) != 0) = true := by rw [bne_iff_ne]; omega
      have HO := show Hid (out = _) from Hout.out.2 (fun h => hr h.1)
      clear hr
      go_wp2
      exact bodyPost_ret (v := .tuple #[.agg #[.int .u8 0, .string ⟨#[]⟩, .int .u16 0, .int .i16 0], .int .i64 0]) (by simp [results, Tryz.results86, go_sem, c0, c1, c2, c3]) rfl ⟨by rw [HO.out]; rfl, (((hbw.setCell (by simp) _).setCell (by simp) _).setCell (by simp) _).setCell (by simp) _⟩
  · go_simp
    refine hK _ _ ?_; clear hK K
    refine wpAny_ready (rs := [12]) (by kernel_rfl) (by simp) ?_
    refine AllReady.cons rfl (fun K hK => ?_) AllReady.nil
    go_simp
    go_wp2_with (go_at_call 112; refine (joined_any _ _ _ ?_ ?_ ?_ ?_).mono ?_; omega; omega; omega; omega; rintro e w' ⟨rfl, rfl⟩)
    refine wpAny_take (i := 13) (v := .agg #[.int .u8 1, .string (s.extract 2 (2 + k)), .int .u16 ((a : Int) * 256 + b), .int .i16 0]) rfl (by kernel_rfl) (by kernel_rfl) (by kernel_rfl) (fun _ _ _ h => h) (Or.inl ⟨by rfl, by intro w; go_simp⟩) ?_
    refine wpAny_ready (rs := [15]) (by kernel_rfl) (by simp) ?_
    refine AllReady.cons rfl (fun K hK => ?_) AllReady.nil
    go_simp
    refine hK _ _ ?_; clear hK K
    refine wpAny_done (by kernel_rfl) ?_ _
    go_wp2
    refine wp_region_any (by kernel_rfl) ?_
    try (change wpAny _ _ _ _ _ _ _ (World.drew _))
    refine wpAny_take (i := 0) (v := .string s) rfl (by kernel_rfl) (by kernel_rfl) (by kernel_rfl) (fun _ _ _ h => h) (Or.inl ⟨by rfl, by intro w; go_simp⟩) ?_
    refine wpAny_take (i := 1) (v := .int .i64 (2 + k)) rfl (by kernel_rfl) (by kernel_rfl) (by kernel_rfl) (fun _ _ _ h => h) (Or.inl ⟨by rfl, by intro w; go_simp⟩) ?_
    refine wpAny_take (i := 2) (v := .int .i64 (2 + k + 2)) rfl (by kernel_rfl) (by kernel_rfl) (by kernel_rfl) (fun _ _ _ h => h) (Or.inl ⟨by rfl, by intro w; go_simp; exact wrap_small _ (by omega) (by omega)⟩) ?_
    refine wpAny_take (i := 3) (v := .int .u8 c) rfl (by kernel_rfl) (by kernel_rfl) (by kernel_rfl) (fun _ _ _ h => h) (Or.inl ⟨by rfl, by intro w; go_simp; intro h; exfalso; omega⟩) ?_
    refine wpAny_take (i := 4) (v := .string s) rfl (by kernel_rfl) (by kernel_rfl) (by kernel_rfl) (fun _ _ _ h => h) (Or.inl ⟨by rfl, by intro w; go_simp⟩) ?_
    refine wpAny_take (i := 5) (v := .int .i64 (2 + k)) rfl (by kernel_rfl) (by kernel_rfl) (by kernel_rfl) (fun _ _ _ h => h) (Or.inl ⟨by rfl, by intro w; go_simp⟩) ?_
    refine wpAny_take (i := 6) (v := .int .i64 (2 + k + 2)) rfl (by kernel_rfl) (by kernel_rfl) (by kernel_rfl) (fun _ _ _ h => h) (Or.inl ⟨by rfl, by intro w; go_simp; exact wrap_small _ (by omega) (by omega)⟩) ?_
    refine wpAny_take (i := 7) (v := .int .i64 (2 + k + 2 + 1)) rfl (by kernel_rfl) (by kernel_rfl) (by kernel_rfl) (fun _ _ _ h => h) (Or.inl ⟨by rfl, by intro w; go_simp; exact wrap_small _ (by omega) (by omega)⟩) ?_
    refine wpAny_take (i := 8) (v := .int .u8 d) rfl (by kernel_rfl) (by kernel_rfl) (by kernel_rfl) (fun _ _ _ h => h) (Or.inl ⟨by rfl, by intro w; go_simp; intro h; exfalso; omega⟩) ?_
    refine wpAny_ready (rs := [9]) (by kernel_rfl) (by simp) ?_
    refine AllReady.cons rfl (fun K hK => ?_) AllReady.nil
    go_simp
    go_wp2_with (go_at_call 112; refine (joined_any _ _ _ ?_ ?_ ?_ ?_).mono ?_; omega; omega; omega; omega; rintro e w' ⟨rfl, rfl⟩)
    refine wpAny_take (i := 10) (v := .int .i16 val) rfl (by kernel_rfl) (by kernel_rfl) (by kernel_rfl) (fun _ _ _ h => h) (Or.inl ⟨by rfl, by intro w; go_simp⟩) ?_
    refine wpAny_take (i := 11) (v := .pointer (some ⟨w.heap.size + 1, 3, none⟩)) rfl (by kernel_rfl) (by kernel_rfl) (by kernel_rfl) (fun _ _ _ h => h) (Or.inl ⟨by rfl, by intro w; go_simp⟩) ?_
    refine wpAny_ready (rs := [12]) (by kernel_rfl) (by simp) ?_
    refine AllReady.cons rfl (fun K hK => ?_) AllReady.nil
    go_simp
    refine hK _ _ ?_; clear hK K
    refine wpAny_done (by kernel_rfl) ?_ _
    go_wp2_with fail
    refine (HE.out _).mono ?_
    rintro e w1 ⟨rfl, hb⟩
    obtain ⟨hc, hf⟩ := bcell hb
    have hz : w.heap.size + 2 ≤ w1.heap.size := by have := hb.size; simp at this; omega
    have hbw := below_two hb
    have c0 : w1.cell? ⟨w.heap.size, 0, none⟩ = some (.int .u8 0) := by rw [hc _ _ (by simp; omega)]; simp
    have c1 : w1.cell? ⟨w.heap.size, 1, none⟩ = some (.string ⟨#[]⟩) := by rw [hc _ _ (by simp; omega)]; simp
    have c2 : w1.cell? ⟨w.heap.size, 2, none⟩ = some (.int .u16 0) := by rw [hc _ _ (by simp; omega)]; simp
    have c3 : w1.cell? ⟨w.heap.size, 3, none⟩ = some (.int .i16 0) := by rw [hc _ _ (by simp; omega)]; simp
    clear hb
    by_cases hr : r = 0
    · subst hr
      by_cases ht : t.toList = (s.extract 0 (2 + k + 2 + 1 + 2)).toList
      · have htb : (t.toList == (s.extract 0 (2 + k + 2 + 1 + 2)).toList) = true := by simpa using ht
        have HO := show Hid (out = _) from Hout.out.1 ⟨rfl, ht⟩
        clear ht
        go_wp2
        exact bodyPost_ret (v := .tuple #[.agg #[.int .u8 1, .string (s.extract 2 (2 + k)), .int .u16 ((a : Int) * 256 + b), .int .i16 val], .int .i64 (2 + (k : Int) + 2 + 1 + 2)]) (by simp [results, Tryz.results86, go_sem, c0, c1, c2, c3]) rfl ⟨by rw [HO.out], (((hbw.setCell (by simp) _).setCell (by simp) _).setCell (by simp) _).setCell (by simp) _⟩
      · have htb : (t.toList == (s.extract 0 (2 + k + 2 + 1 + 2)).toList) = false := by simpa using ht
        have HO := show Hid (out = _) from Hout.out.2 (fun h => ht h.2)
        clear ht
        go_wp2
        exact bodyPost_ret (v := .tuple #[.agg #[.int .u8 0, .string ⟨#[]⟩, .int .u16 0, .int .i16 0], .int .i64 0]) (by simp [results, Tryz.results86, go_sem, c0, c1, c2, c3]) rfl ⟨by rw [HO.out]; rfl, (((hbw.setCell (by simp) _).setCell (by simp) _).setCell (by simp) _).setCell (by simp) _⟩
    · have hrb : ((r : Int) != 0) = true := by rw [bne_iff_ne]; omega
      have HO := show Hid (out = _) from Hout.out.2 (fun h => hr h.1)
      clear hr
      go_wp2
      exact bodyPost_ret (v := .tuple #[.agg #[.int .u8 0, .string ⟨#[]⟩, .int .u16 0, .int .i16 0], .int .i64 0]) (by simp [results, Tryz.results86, go_sem, c0, c1, c2, c3]) rfl ⟨by rw [HO.out]; rfl, (((hbw.setCell (by simp) _).setCell (by simp) _).setCell (by simp) _).setCell (by simp) _⟩
set_option maxHeartbeats 1000000 in
theorem first_other (s : ByteArray) (w : World) (op k a b : Nat) (hne : ((op : Int) == 1) = false) (h2 : 2 ≤ s.size) (h0 : (s[0]'(by omega)).toNat = op) (hk : (s[1]'(by omega)).toNat = k) (hk' : k < 256) (hsz : k + 5 ≤ s.size) (hmx : s.size ≤ 400)
    (ha : (s[2 + k]'(by omega)).toNat = a) (hb : (s[2 + k + 1]'(by omega)).toNat = b) (a' : a < 256) (b' : b < 256)
    (t : ByteArray) (r : Nat)
    (hE : ∀ w, Calls Tryz.prog 35 #[.agg #[.int .u8 op, .string (s.extract 2 (2 + k)), .int .u16 ((a : Int) * 256 + b), .int .i16 0]] w fun en w' => en = .returned (.tuple #[.string t, .int .i64 (r : Int)]) ∧ Below w.heap.size w w')
    (out : Value) (Hout : Hid ((r = 0 ∧ t.toList = (s.extract 0 (2 + k + 2 + 1)).toList → out = .tuple #[.agg #[.int .u8 op, .string (s.extract 2 (2 + k)), .int .u16 ((a : Int) * 256 + b), .int .i16 0], .int .i64 (2 + (k : Int) + 2 + 1)]) ∧ (¬ (r = 0 ∧ t.toList = (s.extract 0 (2 + k + 2 + 1)).toList) → out = .tuple #[evZero.value, .int .i64 0]))) :
    Calls Tryz.prog 86 #[.string s] w fun en w' => en = .returned out ∧ Below w.heap.size w w' := by
  have HE := show Hid _ from hE
  clear hE
  have iA : (s[((2 : Int) + (k : Int)).toNat]'(by omega)).toNat = a := by rw [← ha]; exact congrArg UInt8.toNat (at_int s (2 + k) _ (by omega) _).2
  have iB : (s[((2 : Int) + (k : Int) + 1).toNat]'(by omega)).toNat = b := by rw [← hb]; exact congrArg UInt8.toNat (at_int s (2 + k + 1) _ (by omega) _).2
  clear ha hb
  go_enter Tryz.func86, Tryz.ntmps86
  go_wp2
  refine wp_region_any (by kernel_rfl) ?_
  try (change wpAny _ _ _ _ _ _ _ (World.drew _))
  refine wpAny_take (i := 0) (v := .string s) rfl (by kernel_rfl) (by kernel_rfl) (by kernel_rfl) (fun _ _ _ h => h) (Or.inl ⟨by rfl, by intro w; go_simp⟩) ?_
  refine wpAny_take (i := 1) (v := .int .u8 op) rfl (by kernel_rfl) (by kernel_rfl) (by kernel_rfl) (fun _ _ _ h => h) (Or.inl ⟨by rfl, by intro w; go_simp; intro h; exfalso; rw [h] at h2; exact absurd h2 (by decide)⟩) ?_
  refine wpAny_take (i := 2) (v := .string s) rfl (by kernel_rfl) (by kernel_rfl) (by kernel_rfl) (fun _ _ _ h => h) (Or.inl ⟨by rfl, by intro w; go_simp⟩) ?_
  refine wpAny_take (i := 3) (v := .int .i64 (2 + k)) rfl (by kernel_rfl) (by kernel_rfl) (by kernel_rfl) (fun _ _ _ h => h) (Or.inl ⟨by rfl, by intro w; go_simp⟩) ?_
  refine wpAny_take (i := 4) (v := .string (s.extract 2 (2 + k))) rfl (by kernel_rfl) (by kernel_rfl) (by kernel_rfl) (fun _ _ _ h => h) (Or.inl ⟨by rfl, by intro w; go_simp; rw [if_pos ⟨by omega, by omega⟩, if_pos (by omega)]; rfl⟩) ?_
  refine wpAny_take (i := 5) (v := .string s) rfl (by kernel_rfl) (by kernel_rfl) (by kernel_rfl) (fun _ _ _ h => h) (Or.inl ⟨by rfl, by intro w; go_simp⟩) ?_
  refine wpAny_take (i := 6) (v := .int .i64 (2 + k)) rfl (by kernel_rfl) (by kernel_rfl) (by kernel_rfl) (fun _ _ _ h => h) (Or.inl ⟨by rfl, by intro w; go_simp⟩) ?_
  refine wpAny_take (i := 7) (v := .int .u8 a) rfl (by kernel_rfl) (by kernel_rfl) (by kernel_rfl) (fun _ _ _ h => h) (Or.inl ⟨by rfl, by intro w; go_simp; intro h; exfalso; omega⟩) ?_
  refine wpAny_take (i := 8) (v := .string s) rfl (by kernel_rfl) (by kernel_rfl) (by kernel_rfl) (fun _ _ _ h => h) (Or.inl ⟨by rfl, by intro w; go_simp⟩) ?_
  refine wpAny_take (i := 9) (v := .int .i64 (2 + k)) rfl (by kernel_rfl) (by kernel_rfl) (by kernel_rfl) (fun _ _ _ h => h) (Or.inl ⟨by rfl, by intro w; go_simp⟩) ?_
  refine wpAny_take (i := 10) (v := .int .i64 (2 + k + 1)) rfl (by kernel_rfl) (by kernel_rfl) (by kernel_rfl) (fun _ _ _ h => h) (Or.inl ⟨by rfl, by intro w; go_simp; exact wrap_small _ (by omega) (by omega)⟩) ?_
  refine wpAny_take (i := 11) (v := .int .u8 b) rfl (by kernel_rfl) (by kernel_rfl) (by kernel_rfl) (fun _ _ _ h => h) (Or.inl ⟨by rfl, by intro w; go_simp; intro h; exfalso; omega⟩) ?_
  refine wpAny_ready (rs := [12, 14]) (by kernel_rfl) (by simp) ?_
  refine AllReady.cons rfl (fun K hK => ?_) (AllReady.cons rfl (fun K hK => ?_) AllReady.nil)
  · go_simp
    go_wp2_with (go_at_call 112; refine (joined_any _ _ _ ?_ ?_ ?_ ?_).mono ?_; omega; omega; omega; omega; rintro e w' ⟨rfl, rfl⟩)
    refine wpAny_take (i := 13) (v := .agg #[.int .u8 op, .string (s.extract 2 (2 + k)), .int .u16 ((a : Int) * 256 + b), .int .i16 0]) rfl (by kernel_rfl) (by kernel_rfl) (by kernel_rfl) (fun _ _ _ h => h) (Or.inl ⟨by rfl, by intro w; go_simp⟩) ?_
    refine wpAny_ready (rs := [14]) (by kernel_rfl) (by simp) ?_
    refine AllReady.cons rfl (fun K hK => ?_) AllReady.nil
    go_simp
    refine hK _ _ ?_; clear hK K
    refine wpAny_ready (rs := [15]) (by kernel_rfl) (by simp) ?_
    refine AllReady.cons rfl (fun K hK => ?_) AllReady.nil
    go_simp
    refine hK _ _ ?_; clear hK K
    refine wpAny_done (by kernel_rfl) ?_ _
    go_wp2_with fail
    refine (HE.out _).mono ?_
    rintro e w1 ⟨rfl, hb⟩
    obtain ⟨hc, hf⟩ := bcell hb
    have hz : w.heap.size + 2 ≤ w1.heap.size := by have := hb.size; simp at this; omega
    have hbw := below_two' hb
    have c0 : w1.cell? ⟨w.heap.size, 0, none⟩ = some (.int .u8 0) := by rw [hc _ _ (by simp; omega)]; simp
    have c1 : w1.cell? ⟨w.heap.size, 1, none⟩ = some (.string ⟨#[]⟩) := by rw [hc _ _ (by simp; omega)]; simp
    have c2 : w1.cell? ⟨w.heap.size, 2, none⟩ = some (.int .u16 0) := by rw [hc _ _ (by simp; omega)]; simp
    have c3 : w1.cell? ⟨w.heap.size, 3, none⟩ = some (.int .i16 0) := by rw [hc _ _ (by simp; omega)]; simp
    clear hb
    by_cases hr : r = 0
    · subst hr
      by_cases ht : t.toList = (s.extract 0 (2 + k + 2 + 1)).toList
      · have htb : (t.toList == (s.extract 0 (2 + k + 2 + 1)).toList) = true := by simpa using ht
        have HO := show Hid (out = _) from Hout.out.1 ⟨rfl, ht⟩
        clear ht
        go_wp2
        exact bodyPost_ret (v := .tuple #[.agg #[.int .u8 op, .string (s.extract 2 (2 + k)), .int .u16 ((a : Int) * 256 + b), .int .i16 0], .int .i64 (2 + (k : Int) + 2 + 1)]) (by simp [results, Tryz.results86, go_sem, c0, c1, c2, c3]) rfl ⟨by rw [HO.out], (((hbw.setCell (by simp) _).setCell (by simp) _).setCell (by simp) _).setCell (by simp) _⟩
      · have htb : (t.toList == (s.extract 0 (2 + k + 2 + 1)).toList) = false := by simpa using ht
        have HO := show Hid (out = _) from Hout.out.2 (fun h => ht h.2)
        clear ht
        go_wp2
        exact bodyPost_ret (v := .tuple #[.agg #[.int .u8 0, .string ⟨#[]⟩, .int .u16 0, .int .i16 0], .int .i64 0]) (by simp [results, Tryz.results86, go_sem, c0, c1, c2, c3]) rfl ⟨by rw [HO.out]; rfl, (((hbw.setCell (by simp) _).setCell (by simp) _).setCell (by simp) _).setCell (by simp) _⟩
    · have hrb : ((r : Int) != 0) = true := by rw [bne_iff_ne]; omega
      have HO := show Hid (out = _) from Hout.out.2 (fun h => hr h.1)
      clear hr
      go_wp2
      exact bodyPost_ret (v := .tuple #[.agg #[.int .u8 0, .string ⟨#[]⟩, .int .u16 0, .int .i16 0], .int .i64 0]) (by simp [results, Tryz.results86, go_sem, c0, c1, c2, c3]) rfl ⟨by rw [HO.out]; rfl, (((hbw.setCell (by simp) _).setCell (by simp) _).setCell (by simp) _).setCell (by simp) _⟩
  · go_simp
    refine hK _ _ ?_; clear hK K
    refine wpAny_ready (rs := [12]) (by kernel_rfl) (by simp) ?_
    refine AllReady.cons rfl (fun K hK => ?_) AllReady.nil
    go_simp
    go_wp2_with (go_at_call 112; refine (joined_any _ _ _ ?_ ?_ ?_ ?_).mono ?_; omega; omega; omega; omega; rintro e w' ⟨rfl, rfl⟩)
    refine wpAny_take (i := 13) (v := .agg #[.int .u8 op, .string (s.extract 2 (2 + k)), .int .u16 ((a : Int) * 256 + b), .int .i16 0]) rfl (by kernel_rfl) (by kernel_rfl) (by kernel_rfl) (fun _ _ _ h => h) (Or.inl ⟨by rfl, by intro w; go_simp⟩) ?_
    refine wpAny_ready (rs := [15]) (by kernel_rfl) (by simp) ?_
    refine AllReady.cons rfl (fun K hK => ?_) AllReady.nil
    go_simp
    refine hK _ _ ?_; clear hK K
    refine wpAny_done (by kernel_rfl) ?_ _
    go_wp2_with fail
    refine (HE.out _).mono ?_
    rintro e w1 ⟨rfl, hb⟩
    obtain ⟨hc, hf⟩ := bcell hb
    have hz : w.heap.size + 2 ≤ w1.heap.size := by have := hb.size; simp at this; omega
    have hbw := below_two' hb
    have c0 : w1.cell? ⟨w.heap.size, 0, none⟩ = some (.int .u8 0) := by rw [hc _ _ (by simp; omega)]; simp
    have c1 : w1.cell? ⟨w.heap.size, 1, none⟩ = some (.string ⟨#[]⟩) := by rw [hc _ _ (by simp; omega)]; simp
    have c2 : w1.cell? ⟨w.heap.size, 2, none⟩ = some (.int .u16 0) := by rw [hc _ _ (by simp; omega)]; simp
    have c3 : w1.cell? ⟨w.heap.size, 3, none⟩ = some (.int .i16 0) := by rw [hc _ _ (by simp; omega)]; simp
    clear hb
    by_cases hr : r = 0
    · subst hr
      by_cases ht : t.toList = (s.extract 0 (2 + k + 2 + 1)).toList
      · have htb : (t.toList == (s.extract 0 (2 + k + 2 + 1)).toList) = true := by simpa using ht
        have HO := show Hid (out = _) from Hout.out.1 ⟨rfl, ht⟩
        clear ht
        go_wp2
        exact bodyPost_ret (v := .tuple #[.agg #[.int .u8 op, .string (s.extract 2 (2 + k)), .int .u16 ((a : Int) * 256 + b), .int .i16 0], .int .i64 (2 + (k : Int) + 2 + 1)]) (by simp [results, Tryz.results86, go_sem, c0, c1, c2, c3]) rfl ⟨by rw [HO.out], (((hbw.setCell (by simp) _).setCell (by simp) _).setCell (by simp) _).setCell (by simp) _⟩
      · have htb : (t.toList == (s.extract 0 (2 + k + 2 + 1)).toList) = false := by simpa using ht
        have HO := show Hid (out = _) from Hout.out.2 (fun h => ht h.2)
        clear ht
        go_wp2
        exact bodyPost_ret (v := .tuple #[.agg #[.int .u8 0, .string ⟨#[]⟩, .int .u16 0, .int .i16 0], .int .i64 0]) (by simp [results, Tryz.results86, go_sem, c0, c1, c2, c3]) rfl ⟨by rw [HO.out]; rfl, (((hbw.setCell (by simp) _).setCell (by simp) _).setCell (by simp) _).setCell (by simp) _⟩
    · have hrb : ((r : Int) != 0) = true := by rw [bne_iff_ne]; omega
      have HO := show Hid (out = _) from Hout.out.2 (fun h => hr h.1)
      clear hr
      go_wp2
      exact bodyPost_ret (v := .tuple #[.agg #[.int .u8 0, .string ⟨#[]⟩, .int .u16 0, .int .i16 0], .int .i64 0]) (by simp [results, Tryz.results86, go_sem, c0, c1, c2, c3]) rfl ⟨by rw [HO.out]; rfl, (((hbw.setCell (by simp) _).setCell (by simp) _).setCell (by simp) _).setCell (by simp) _⟩
set_option maxHeartbeats 400000 in
theorem first_little (s : ByteArray) (w : World) (op k : Nat) (h2 : 2 ≤ s.size) (hop : (s[0]'(by omega)).toNat = op) (hk : (s[1]'(by omega)).toNat = k) (hk' : k < 256)
    (hsz : s.size < k + 5 + (if op = 1 then 2 else 0)) :
    Calls Tryz.prog 86 #[.string s] w fun en w' => en = .returned (.tuple #[evZero.value, .int .i64 0]) ∧ Below w.heap.size w w' := by
  by_cases h1 : op = 1
  · subst h1
    have hs : s.size < k + 7 := by simpa using hsz
    clear hsz
    unfold evZero Ev.value
    go_enter Tryz.func86, Tryz.ntmps86
    go_wp2
    exact bodyPost_ret (v := .tuple #[.agg #[.int .u8 0, .string ⟨#[]⟩, .int .u16 0, .int .i16 0], .int .i64 0]) (by simp [results, Tryz.results86, go_sem]) rfl ⟨rfl, (Below.refl _ _).alloc (Nat.le_refl _) _⟩
  · have hs : s.size < k + 5 := by simpa [h1] using hsz
    have hne : ((op : Int) == 1) = false := by simp; omega
    clear hsz h1
    unfold evZero Ev.value
    go_enter Tryz.func86, Tryz.ntmps86
    go_wp2
    exact bodyPost_ret (v := .tuple #[.agg #[.int .u8 0, .string ⟨#[]⟩, .int .u16 0, .int .i16 0], .int .i64 0]) (by simp [results, Tryz.results86, go_sem]) rfl ⟨rfl, (Below.refl _ _).alloc (Nat.le_refl _) _⟩
end Go.Proofs.YthccpacmklhejaaGreatDoor
