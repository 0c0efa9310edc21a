/-
  Several texts in one.
-/
import Derived.Test.YthccpacmklhejabDoorK04
import Derived.Test.YthccpacmklhejabDoorK05
namespace Go.Proofs.YthccpacmklhejabDoor
open Go.RowKit

structure RawV where
  drop : Bool
  key : Int
  seq : Int
  val : Int

def RawV.value (r : RawV) : Value := .agg #[.bool r.drop, .int .i64 r.key, .int .i64 r.seq, .int .i64 r.val]
def In64 (c : Int) : Prop := -9223372036854775808 ≤ c ∧ c ≤ 9223372036854775807
def RawV.ok (r : RawV) : Prop := In64 r.key

def pickS (c : Int) : Nat := (if c < 0 then -(c + 1) else c).toNat % 10

theorem pickS_lt (c : Int) : pickS c < 10 := Nat.mod_lt _ (by decide)

set_option maxHeartbeats 400000 in
theorem pick10 (c : Int) (w : World) (h : In64 c) :
    Calls Tryd.prog 18 #[.int .i64 c, .int .i64 10] w fun e w' => e = .returned (.int .i64 (pickS c : Int)) ∧ w' = w := by
  obtain ⟨h1, h2⟩ := h
  by_cases hc : c < 0
  · have e0 : (pickS c : Int) = -((c + 1).tmod 10) := by
      rw [← Int.neg_tmod, Int.tmod_eq_emod_of_nonneg (by omega)]
      unfold pickS
      rw [if_pos hc]
      omega
    have He := show Hid _ from e0
    clear e0
    go_enter Tryd.func18, Tryd.ntmps18
    go_wp2
    go_ret
    exact ⟨by rw [He.out]; rfl, rfl⟩
  · have e0 : (pickS c : Int) = c.tmod 10 := by
      rw [Int.tmod_eq_emod_of_nonneg (by omega)]
      unfold pickS
      rw [if_neg hc]
      omega
    have He := show Hid _ from e0
    clear e0
    go_enter Tryd.func18, Tryd.ntmps18
    go_wp2
    go_ret
    refine ⟨?_, rfl⟩
    rw [He.out]
    exact ret_of (congrArg (Value.int .i64) (by first | rfl | (rw [Int.tmod_eq_emod_of_nonneg (by omega)])))

def keys10 : List ByteArray := [⟨#[97]⟩, ⟨#[98]⟩, ⟨#[97, 98]⟩, ⟨#[98, 97]⟩, ⟨#[195, 169]⟩, ⟨#[195, 169, 97]⟩, ⟨#[226, 130, 172, 120]⟩, ⟨#[240, 159, 152, 128]⟩, ⟨#[122]⟩, ⟨#[97, 59]⟩]

theorem keys10_valid : ∀ k : Fin 10, validB (keys10.getD k.val ⟨#[]⟩) = true := by decide +kernel

def recE (r : RawV) (low : Bool) : Ev := ⟨if r.drop then 2 else 1, keys10.getD (pickS r.key) ⟨#[]⟩, if low then (r.seq % 65536).toNat / 2 else (r.seq % 65536).toNat, if r.drop then 0 else wrap16 r.val⟩

theorem recE_good (r : RawV) (low : Bool) : Good (recE r low) := by
  have hv : validB (recE r low).key = true := keys10_valid ⟨pickS r.key, pickS_lt _⟩
  refine ⟨?_, ?_⟩
  · unfold refuse
    rw [hv]
    unfold recE
    cases r.drop <;> simp
  · have := wrap16_range r.val
    unfold Ev.ok recE
    simp only
    refine ⟨by split <;> omega, by split <;> omega, by split <;> omega, by split <;> omega⟩

set_option maxRecDepth 100000 in
set_option maxHeartbeats 4000000 in
theorem record_at (dr : Bool) (kk sq vl : Int) (w : World) (h : In64 kk) (low : Bool) (out : Ev) (Ho : Hid (out = recE ⟨dr, kk, sq, vl⟩ low)) :
    Calls Tryd.prog 30 #[.agg #[.bool dr, .int .i64 kk, .int .i64 sq, .int .i64 vl], .bool low] w fun en w' => en = .returned out.value ∧ Below w.heap.size w w' := by
  have hP := show Hid _ from fun w => pick10 kk w h
  have hn10 := pickS_lt kk
  have hky : ∀ v : World, v.heap[w.heap.size + 2]? = some (.cells #[.string ⟨#[97]⟩, .string ⟨#[98]⟩, .string ⟨#[97, 98]⟩, .string ⟨#[98, 97]⟩, .string ⟨#[195, 169]⟩, .string ⟨#[195, 169, 97]⟩, .string ⟨#[226, 130, 172, 120]⟩, .string ⟨#[240, 159, 152, 128]⟩, .string ⟨#[122]⟩, .string ⟨#[97, 59]⟩] 9 (0, 0)) → v.cell? ⟨w.heap.size + 2, pickS kk, none⟩ = some (.string (keys10.getD (pickS kk) ⟨#[]⟩)) := by
    intro v hv
    rw [row_cell hv]
    have hf : ∀ k : Fin 10, (#[.string ⟨#[97]⟩, .string ⟨#[98]⟩, .string ⟨#[97, 98]⟩, .string ⟨#[98, 97]⟩, .string ⟨#[195, 169]⟩, .string ⟨#[195, 169, 97]⟩, .string ⟨#[226, 130, 172, 120]⟩, .string ⟨#[240, 159, 152, 128]⟩, .string ⟨#[122]⟩, .string ⟨#[97, 59]⟩] : Array Value)[k.val]? = some (.string (keys10.getD k.val ⟨#[]⟩)) := by
      intro k
      match k with
      | 0 | 1 | 2 | 3 | 4 | 5 | 6 | 7 | 8 | 9 => rfl
    exact hf ⟨pickS kk, hn10⟩
  have hky2 : (keys10.getD (pickS kk) ⟨#[]⟩) = (recE ⟨dr, kk, sq, vl⟩ low).key := rfl
  rw [← Ho.out] at hky2
  obtain ⟨ky, hkye⟩ : ∃ ky, keys10.getD (pickS kk) ⟨#[]⟩ = ky := ⟨_, rfl⟩
  rw [hkye] at hky hky2
  generalize pickS kk = n at hP hn10 hky hkye
  have Hky := show Hid _ from hky2
  clear hkye hky2 h
  obtain ⟨s16, hs16⟩ : ∃ s16 : Int, IntKind.u16.wrap sq = s16 := ⟨_, rfl⟩
  obtain ⟨v16, hv16⟩ : ∃ v16 : Int, IntKind.i16.wrap vl = v16 := ⟨_, rfl⟩
  have hni : (n : Int) < 10 := by omega
  have hn0 : (0 : Int) ≤ (n : Int) := by omega
  have hout : out.value = .agg #[.int .u8 (if dr then 2 else 1), .string ky, .int .u16 (if low then IntKind.u16.wrap (s16.tdiv 2) else s16), .int .i16 (if dr then 0 else v16)] := by
    have h1 : out = recE ⟨dr, kk, sq, vl⟩ low := Ho.out
    have hs : s16 = (((sq % 65536).toNat : Nat) : Int) := by rw [← hs16, wrap_u16']; omega
    have hl : IntKind.u16.wrap (s16.tdiv 2) = (((sq % 65536).toNat / 2 : Nat) : Int) := by rw [wrap_u16', Int.tdiv_eq_ediv_of_nonneg (by omega)]; omega
    have hk : out.key = ky := Hky.out.symm
    rw [hl, hs, ← hv16, wrap_i16]
    unfold Ev.value
    rw [hk, h1]
    unfold recE
    cases dr <;> cases low <;> simp
  have Hout := show Hid _ from hout
  clear hout Ho Hky
  have hs0 : 0 ≤ s16 ∧ s16 < 65536 := by rw [← hs16, wrap_u16']; omega
  have hb3 : Below w.heap.size w (((w.alloc (.cells #[.bool dr, .int .i64 kk, .int .i64 sq, .int .i64 vl] 74)).alloc (.cells #[.int .u8 0, .string ⟨#[]⟩, .int .u16 0, .int .i16 0] 71)).alloc (.cells #[.string ⟨#[97]⟩, .string ⟨#[98]⟩, .string ⟨#[97, 98]⟩, .string ⟨#[98, 97]⟩, .string ⟨#[195, 169]⟩, .string ⟨#[195, 169, 97]⟩, .string ⟨#[226, 130, 172, 120]⟩, .string ⟨#[240, 159, 152, 128]⟩, .string ⟨#[122]⟩, .string ⟨#[97, 59]⟩] 9)).drew := (((Below.refl _ _).alloc (Nat.le_refl _) _).alloc (by simp) _).alloc (by simp <;> omega) _ |>.drew
  have hX3 : (((w.alloc (.cells #[.bool dr, .int .i64 kk, .int .i64 sq, .int .i64 vl] 74)).alloc (.cells #[.int .u8 0, .string ⟨#[]⟩, .int .u16 0, .int .i16 0] 71)).alloc (.cells #[.string ⟨#[97]⟩, .string ⟨#[98]⟩, .string ⟨#[97, 98]⟩, .string ⟨#[98, 97]⟩, .string ⟨#[195, 169]⟩, .string ⟨#[195, 169, 97]⟩, .string ⟨#[226, 130, 172, 120]⟩, .string ⟨#[240, 159, 152, 128]⟩, .string ⟨#[122]⟩, .string ⟨#[97, 59]⟩] 9)).drew.heap[w.heap.size]? = some (.cells #[.bool dr, .int .i64 kk, .int .i64 sq, .int .i64 vl] 74 (0, 0)) := by
    show (((w.alloc (.cells #[.bool dr, .int .i64 kk, .int .i64 sq, .int .i64 vl] 74)).alloc (.cells #[.int .u8 0, .string ⟨#[]⟩, .int .u16 0, .int .i16 0] 71)).alloc (.cells #[.string ⟨#[97]⟩, .string ⟨#[98]⟩, .string ⟨#[97, 98]⟩, .string ⟨#[98, 97]⟩, .string ⟨#[195, 169]⟩, .string ⟨#[195, 169, 97]⟩, .string ⟨#[226, 130, 172, 120]⟩, .string ⟨#[240, 159, 152, 128]⟩, .string ⟨#[122]⟩, .string ⟨#[97, 59]⟩] 9)).heap[w.heap.size]? = _
    rw [Below.heap_alloc _ _ _ (by simp <;> omega), Below.heap_alloc _ _ _ (by simp)]
    exact heap_alloc_new w _
  have hR3 : (((w.alloc (.cells #[.bool dr, .int .i64 kk, .int .i64 sq, .int .i64 vl] 74)).alloc (.cells #[.int .u8 0, .string ⟨#[]⟩, .int .u16 0, .int .i16 0] 71)).alloc (.cells #[.string ⟨#[97]⟩, .string ⟨#[98]⟩, .string ⟨#[97, 98]⟩, .string ⟨#[98, 97]⟩, .string ⟨#[195, 169]⟩, .string ⟨#[195, 169, 97]⟩, .string ⟨#[226, 130, 172, 120]⟩, .string ⟨#[240, 159, 152, 128]⟩, .string ⟨#[122]⟩, .string ⟨#[97, 59]⟩] 9)).drew.heap[w.heap.size + 1]? = some (.cells #[.int .u8 0, .string ⟨#[]⟩, .int .u16 0, .int .i16 0] 71 (0, 0)) := by
    show (((w.alloc (.cells #[.bool dr, .int .i64 kk, .int .i64 sq, .int .i64 vl] 74)).alloc (.cells #[.int .u8 0, .string ⟨#[]⟩, .int .u16 0, .int .i16 0] 71)).alloc (.cells #[.string ⟨#[97]⟩, .string ⟨#[98]⟩, .string ⟨#[97, 98]⟩, .string ⟨#[98, 97]⟩, .string ⟨#[195, 169]⟩, .string ⟨#[195, 169, 97]⟩, .string ⟨#[226, 130, 172, 120]⟩, .string ⟨#[240, 159, 152, 128]⟩, .string ⟨#[122]⟩, .string ⟨#[97, 59]⟩] 9)).heap[w.heap.size + 1]? = _
    rw [Below.heap_alloc _ _ _ (by simp)]
    have := heap_alloc_new (w.alloc (.cells #[.bool dr, .int .i64 kk, .int .i64 sq, .int .i64 vl] 74)) (.cells #[.int .u8 0, .string ⟨#[]⟩, .int .u16 0, .int .i16 0] 71)
    rw [World.size_alloc] at this
    exact this
  have hK3 : (((w.alloc (.cells #[.bool dr, .int .i64 kk, .int .i64 sq, .int .i64 vl] 74)).alloc (.cells #[.int .u8 0, .string ⟨#[]⟩, .int .u16 0, .int .i16 0] 71)).alloc (.cells #[.string ⟨#[97]⟩, .string ⟨#[98]⟩, .string ⟨#[97, 98]⟩, .string ⟨#[98, 97]⟩, .string ⟨#[195, 169]⟩, .string ⟨#[195, 169, 97]⟩, .string ⟨#[226, 130, 172, 120]⟩, .string ⟨#[240, 159, 152, 128]⟩, .string ⟨#[122]⟩, .string ⟨#[97, 59]⟩] 9)).drew.heap[w.heap.size + 2]? = some (.cells #[.string ⟨#[97]⟩, .string ⟨#[98]⟩, .string ⟨#[97, 98]⟩, .string ⟨#[98, 97]⟩, .string ⟨#[195, 169]⟩, .string ⟨#[195, 169, 97]⟩, .string ⟨#[226, 130, 172, 120]⟩, .string ⟨#[240, 159, 152, 128]⟩, .string ⟨#[122]⟩, .string ⟨#[97, 59]⟩] 9 (0, 0)) := by
    have := heap_alloc_new ((w.alloc (.cells #[.bool dr, .int .i64 kk, .int .i64 sq, .int .i64 vl] 74)).alloc (.cells #[.int .u8 0, .string ⟨#[]⟩, .int .u16 0, .int .i16 0] 71)) (.cells #[.string ⟨#[97]⟩, .string ⟨#[98]⟩, .string ⟨#[97, 98]⟩, .string ⟨#[98, 97]⟩, .string ⟨#[195, 169]⟩, .string ⟨#[195, 169, 97]⟩, .string ⟨#[226, 130, 172, 120]⟩, .string ⟨#[240, 159, 152, 128]⟩, .string ⟨#[122]⟩, .string ⟨#[97, 59]⟩] 9)
    rw [World.size_alloc, World.size_alloc] at this
    exact this
  have hsz : (((w.alloc (.cells #[.bool dr, .int .i64 kk, .int .i64 sq, .int .i64 vl] 74)).alloc (.cells #[.int .u8 0, .string ⟨#[]⟩, .int .u16 0, .int .i16 0] 71)).alloc (.cells #[.string ⟨#[97]⟩, .string ⟨#[98]⟩, .string ⟨#[97, 98]⟩, .string ⟨#[98, 97]⟩, .string ⟨#[195, 169]⟩, .string ⟨#[195, 169, 97]⟩, .string ⟨#[226, 130, 172, 120]⟩, .string ⟨#[240, 159, 152, 128]⟩, .string ⟨#[122]⟩, .string ⟨#[97, 59]⟩] 9)).drew.heap.size = w.heap.size + 3 := by
    show (((w.alloc (.cells #[.bool dr, .int .i64 kk, .int .i64 sq, .int .i64 vl] 74)).alloc (.cells #[.int .u8 0, .string ⟨#[]⟩, .int .u16 0, .int .i16 0] 71)).alloc (.cells #[.string ⟨#[97]⟩, .string ⟨#[98]⟩, .string ⟨#[97, 98]⟩, .string ⟨#[98, 97]⟩, .string ⟨#[195, 169]⟩, .string ⟨#[195, 169, 97]⟩, .string ⟨#[226, 130, 172, 120]⟩, .string ⟨#[240, 159, 152, 128]⟩, .string ⟨#[122]⟩, .string ⟨#[97, 59]⟩] 9)).heap.size = _
    rw [World.size_alloc, World.size_alloc, World.size_alloc]
  go_enter Tryd.func30, Tryd.ntmps30
  go_wp2
  refine wp_region_held_drew (S := fun w' : World => w'.heap[w.heap.size]? = some (.cells #[.bool dr, .int .i64 kk, .int .i64 sq, .int .i64 vl] 74 (0, 0)) ∧ w'.heap[w.heap.size + 2]? = some (.cells #[.string ⟨#[97]⟩, .string ⟨#[98]⟩, .string ⟨#[97, 98]⟩, .string ⟨#[98, 97]⟩, .string ⟨#[195, 169]⟩, .string ⟨#[195, 169, 97]⟩, .string ⟨#[226, 130, 172, 120]⟩, .string ⟨#[240, 159, 152, 128]⟩, .string ⟨#[122]⟩, .string ⟨#[97, 59]⟩] 9 (0, 0))) (by kernel_rfl) ⟨hX3, hK3⟩ (fun hH => ?_)
  generalize (((w.alloc (.cells #[.bool dr, .int .i64 kk, .int .i64 sq, .int .i64 vl] 74)).alloc (.cells #[.int .u8 0, .string ⟨#[]⟩, .int .u16 0, .int .i16 0] 71)).alloc (.cells #[.string ⟨#[97]⟩, .string ⟨#[98]⟩, .string ⟨#[97, 98]⟩, .string ⟨#[98, 97]⟩, .string ⟨#[195, 169]⟩, .string ⟨#[195, 169, 97]⟩, .string ⟨#[226, 130, 172, 120]⟩, .string ⟨#[240, 159, 152, 128]⟩, .string ⟨#[122]⟩, .string ⟨#[97, 59]⟩] 9)).drew = wd at hb3 hX3 hR3 hK3 hsz hH ⊢
  refine wpAnyH_take (i := 0) (v := (.slice (some ⟨w.heap.size + 2, 0, none⟩) 10 10)) rfl (by kernel_rfl) (by kernel_rfl) (by kernel_rfl) (fun _ _ _ h => h) (Or.inl ⟨by rfl, by intro v hSw; clear hSw; go_simp⟩) hH ?_
  refine wpAnyH_take (i := 1) (v := (.pointer (some ⟨w.heap.size, 1, none⟩))) rfl (by kernel_rfl) (by kernel_rfl) (by kernel_rfl) (fun _ _ _ h => h) (Or.inl ⟨by rfl, by intro v hSw; clear hSw; go_simp⟩) hH ?_
  refine wpAnyH_take (i := 2) (v := (.int .i64 kk)) rfl (by kernel_rfl) (by kernel_rfl) (by kernel_rfl) (fun _ _ _ h => h) (Or.inl ⟨by rfl, by intro v hSw; have s0 : v.cell? ⟨w.heap.size, 1, none⟩ = some (.int .i64 kk) := row_cell hSw.1 1; clear hSw; go_simp⟩) hH ?_
  refine wpAnyH_take (i := 3) (v := (.slice (some ⟨w.heap.size + 2, 0, none⟩) 10 10)) rfl (by kernel_rfl) (by kernel_rfl) (by kernel_rfl) (fun _ _ _ h => h) (Or.inl ⟨by rfl, by intro v hSw; clear hSw; go_simp⟩) hH ?_
  refine wpAnyH_take (i := 4) (v := (.int .i64 10)) rfl (by kernel_rfl) (by kernel_rfl) (by kernel_rfl) (fun _ _ _ h => h) (Or.inl ⟨by rfl, by intro v hSw; clear hSw; go_simp⟩) hH ?_
  refine wpAnyH_take (i := 8) (v := (.pointer (some ⟨w.heap.size, 2, none⟩))) rfl (by kernel_rfl) (by kernel_rfl) (by kernel_rfl) (fun _ _ _ h => h) (Or.inl ⟨by rfl, by intro v hSw; clear hSw; go_simp⟩) hH ?_
  refine wpAnyH_take (i := 9) (v := (.int .i64 sq)) rfl (by kernel_rfl) (by kernel_rfl) (by kernel_rfl) (fun _ _ _ h => h) (Or.inl ⟨by rfl, by intro v hSw; have s0 : v.cell? ⟨w.heap.size, 2, none⟩ = some (.int .i64 sq) := row_cell hSw.1 2; clear hSw; go_simp⟩) hH ?_
  refine wpAnyH_take (i := 10) (v := (.int .u16 s16)) rfl (by kernel_rfl) (by kernel_rfl) (by kernel_rfl) (fun _ _ _ h => h) (Or.inl ⟨by rfl, by intro v hSw; clear hSw; go_simp⟩) hH ?_
  refine wpAnyH_take (i := 11) (v := (.pointer (some ⟨w.heap.size, 3, none⟩))) rfl (by kernel_rfl) (by kernel_rfl) (by kernel_rfl) (fun _ _ _ h => h) (Or.inl ⟨by rfl, by intro v hSw; clear hSw; go_simp⟩) hH ?_
  refine wpAnyH_take (i := 12) (v := (.int .i64 vl)) rfl (by kernel_rfl) (by kernel_rfl) (by kernel_rfl) (fun _ _ _ h => h) (Or.inl ⟨by rfl, by intro v hSw; have s0 : v.cell? ⟨w.heap.size, 3, none⟩ = some (.int .i64 vl) := row_cell hSw.1 3; clear hSw; go_simp⟩) hH ?_
  refine wpAnyH_take (i := 13) (v := (.int .i16 v16)) rfl (by kernel_rfl) (by kernel_rfl) (by kernel_rfl) (fun _ _ _ h => h) (Or.inl ⟨by rfl, by intro v hSw; clear hSw; go_simp⟩) hH ?_
  have hX4 : (wd.alloc (.cells #[.int .u8 0, .string ⟨#[]⟩, .int .u16 0, .int .i16 0] 71)).heap[w.heap.size]? = some (.cells #[.bool dr, .int .i64 kk, .int .i64 sq, .int .i64 vl] 74 (0, 0)) := (Below.heap_alloc _ _ _ (by omega)).trans hX3
  have hR4 : (wd.alloc (.cells #[.int .u8 0, .string ⟨#[]⟩, .int .u16 0, .int .i16 0] 71)).heap[w.heap.size + 1]? = some (.cells #[.int .u8 0, .string ⟨#[]⟩, .int .u16 0, .int .i16 0] 71 (0, 0)) := (Below.heap_alloc _ _ _ (by omega)).trans hR3
  have hK4 : (wd.alloc (.cells #[.int .u8 0, .string ⟨#[]⟩, .int .u16 0, .int .i16 0] 71)).heap[w.heap.size + 2]? = some (.cells #[.string ⟨#[97]⟩, .string ⟨#[98]⟩, .string ⟨#[97, 98]⟩, .string ⟨#[98, 97]⟩, .string ⟨#[195, 169]⟩, .string ⟨#[195, 169, 97]⟩, .string ⟨#[226, 130, 172, 120]⟩, .string ⟨#[240, 159, 152, 128]⟩, .string ⟨#[122]⟩, .string ⟨#[97, 59]⟩] 9 (0, 0)) := (Below.heap_alloc _ _ _ (by omega)).trans hK3
  have hE4 := heap_alloc_new wd (.cells #[.int .u8 0, .string ⟨#[]⟩, .int .u16 0, .int .i16 0] 71)
  have hb4 : Below w.heap.size w (wd.alloc (.cells #[.int .u8 0, .string ⟨#[]⟩, .int .u16 0, .int .i16 0] 71)) := hb3.alloc hb3.size _
  refine wpAnyH_ready (rs := [5, 15]) (by kernel_rfl) (by simp) ?_
  refine AllReadyH.cons rfl (fun K hK => ?_) (AllReadyH.cons rfl (fun K hK => ?_) AllReadyH.nil)
  · clear hH
    go_simp
    go_wp2_with (go_at_call 18; refine (hP.out _).mono ?_; rintro en w5 ⟨rfl, rfl⟩)
    refine hK.out _ _ ⟨hX3, hK3⟩ (fun hH => ?_)
    clear hK K
    refine wpAnyH_take (i := 6) (v := (.pointer (some ⟨w.heap.size + 2, n, none⟩))) rfl (by kernel_rfl) (by kernel_rfl) (by kernel_rfl) (fun _ _ _ h => h) (Or.inl ⟨by rfl, by intro v hSw; clear hSw; go_simp⟩) hH ?_
    refine wpAnyH_take (i := 7) (v := (.string ky)) rfl (by kernel_rfl) (by kernel_rfl) (by kernel_rfl) (fun _ _ _ h => h) (Or.inl ⟨by rfl, by intro v hSw; have s0 := hky v hSw.2; clear hSw; go_simp⟩) hH ?_
    refine wpAnyH_take (i := 14) (v := (.agg #[.int .u8 1, .string ky, .int .u16 s16, .int .i16 v16])) rfl (by kernel_rfl) (by kernel_rfl) (by kernel_rfl) (fun _ _ _ h => h) (Or.inl ⟨by rfl, by intro v hSw; clear hSw; go_simp⟩) hH ?_
    refine wpAnyH_ready (rs := [15]) (by kernel_rfl) (by simp) ?_
    refine AllReadyH.cons rfl (fun K hK => ?_) AllReadyH.nil
    clear hH
    go_simp
    refine hK.out _ _ ⟨hX4, hK4⟩ (fun hH => ?_)
    clear hK K
    have ha0 := hX4
    have ha1 := hR4
    have ha2 := hK4
    have hE0 := hE4
    have hba := hb4
    generalize (w5.alloc (.cells #[.int .u8 0, .string ⟨#[]⟩, .int .u16 0, .int .i16 0] 71)) = wa at ha0 ha1 ha2 hE0 hba hH ⊢
    rw [hsz] at hE0
    clear hX4 hR4 hK4 hE4 hb4 hX3 hR3 hK3 hb3 hsz
    refine wpAnyH_ready (rs := [16]) (by kernel_rfl) (by simp) ?_
    refine AllReadyH.cons rfl (fun K hK => ?_) AllReadyH.nil
    clear hH
    have d0 : wa.cell? ⟨w.heap.size + 3, 0, none⟩ = some (.int .u8 0) := row_cell hE0 0
    have d1 : wa.cell? ⟨w.heap.size + 3, 1, none⟩ = some (.string ⟨#[]⟩) := row_cell hE0 1
    have d2 : wa.cell? ⟨w.heap.size + 3, 2, none⟩ = some (.int .u16 0) := row_cell hE0 2
    have d3 : wa.cell? ⟨w.heap.size + 3, 3, none⟩ = some (.int .i16 0) := row_cell hE0 3
    have z0 : wa.frozen? ⟨w.heap.size + 3, 0, none⟩ = false := row_frozen hE0 0
    have z1 : wa.frozen? ⟨w.heap.size + 3, 1, none⟩ = false := row_frozen hE0 1
    have z2 : wa.frozen? ⟨w.heap.size + 3, 2, none⟩ = false := row_frozen hE0 2
    have z3 : wa.frozen? ⟨w.heap.size + 3, 3, none⟩ = false := row_frozen hE0 3
    go_simp
    clear d0 d1 d2 d3 z0 z1 z2 z3
    have hse : ∀ (j : Nat) (o : Obj), wa.heap[j]? = some o → j ≠ w.heap.size + 3 → ((((wa.setCell ⟨w.heap.size + 3, 0, none⟩ (.int .u8 1)).setCell ⟨w.heap.size + 3, 1, none⟩ (.string ky)).setCell ⟨w.heap.size + 3, 2, none⟩ (.int .u16 s16)).setCell ⟨w.heap.size + 3, 3, none⟩ (.int .i16 v16)).heap[j]? = some o := by
      intro j o h hj
      rw [Below.heap_setCell _ _ _ _ hj, Below.heap_setCell _ _ _ _ hj, Below.heap_setCell _ _ _ _ hj, Below.heap_setCell _ _ _ _ hj]
      exact h
    have hE := row_set (j := 3) (row_set (j := 2) (row_set (j := 1) (row_set (j := 0) hE0 (.int .u8 1)) (.string ky)) (.int .u16 s16)) (.int .i16 v16)
    have hE' : _ = some (Obj.cells #[.int .u8 1, .string ky, .int .u16 s16, .int .i16 v16] 71 (0, 0)) := hE
    have hbE : Below w.heap.size w ((((wa.setCell ⟨w.heap.size + 3, 0, none⟩ (.int .u8 1)).setCell ⟨w.heap.size + 3, 1, none⟩ (.string ky)).setCell ⟨w.heap.size + 3, 2, none⟩ (.int .u16 s16)).setCell ⟨w.heap.size + 3, 3, none⟩ (.int .i16 v16)) := (((hba.setCell (p := ⟨w.heap.size + 3, 0, none⟩) (by simp only; omega) _).setCell (p := ⟨w.heap.size + 3, 1, none⟩) (by simp only; omega) _).setCell (p := ⟨w.heap.size + 3, 2, none⟩) (by simp only; omega) _).setCell (p := ⟨w.heap.size + 3, 3, none⟩) (by simp only; omega) _
    have HE := show Hid (_ ∧ _ ∧ _ ∧ _) from And.intro hE' (And.intro (hse _ _ ha1 (by omega)) (And.intro (hse _ _ ha0 (by omega)) hbE))
    refine hK.out _ _ ⟨hse _ _ ha0 (by omega), hse _ _ ha2 (by omega)⟩ (fun hH => ?_)
    clear hK K hH hE hE' hbE hse hE0 ha0 ha1 ha2 hba
    refine wpAnyH_done (by kernel_rfl) ?_ _
    generalize ((((wa.setCell ⟨w.heap.size + 3, 0, none⟩ (.int .u8 1)).setCell ⟨w.heap.size + 3, 1, none⟩ (.string ky)).setCell ⟨w.heap.size + 3, 2, none⟩ (.int .u16 s16)).setCell ⟨w.heap.size + 3, 3, none⟩ (.int .i16 v16)) = wE at HE ⊢
    clear wa
    obtain ⟨hE, hR, hX, hbE⟩ := HE.out
    clear HE
    have x0 : wE.cell? ⟨w.heap.size, 0, none⟩ = some (.bool dr) := row_cell hX 0
    have c0 : wE.cell? ⟨w.heap.size + 3, 0, none⟩ = some (.int .u8 1) := row_cell hE 0
    have c1 : wE.cell? ⟨w.heap.size + 3, 1, none⟩ = some (.string ky) := row_cell hE 1
    have c2 : wE.cell? ⟨w.heap.size + 3, 2, none⟩ = some (.int .u16 s16) := row_cell hE 2
    have c3 : wE.cell? ⟨w.heap.size + 3, 3, none⟩ = some (.int .i16 v16) := row_cell hE 3
    have y0 : wE.frozen? ⟨w.heap.size + 3, 0, none⟩ = false := row_frozen hE 0
    have y2 : wE.frozen? ⟨w.heap.size + 3, 2, none⟩ = false := row_frozen hE 2
    have y3 : wE.frozen? ⟨w.heap.size + 3, 3, none⟩ = false := row_frozen hE 3
    have r0 : wE.cell? ⟨w.heap.size + 1, 0, none⟩ = some (.int .u8 0) := row_cell hR 0
    have r1 : wE.cell? ⟨w.heap.size + 1, 1, none⟩ = some (.string ⟨#[]⟩) := row_cell hR 1
    have r2 : wE.cell? ⟨w.heap.size + 1, 2, none⟩ = some (.int .u16 0) := row_cell hR 2
    have r3 : wE.cell? ⟨w.heap.size + 1, 3, none⟩ = some (.int .i16 0) := row_cell hR 3
    have v0 : wE.frozen? ⟨w.heap.size + 1, 0, none⟩ = false := row_frozen hR 0
    have v1 : wE.frozen? ⟨w.heap.size + 1, 1, none⟩ = false := row_frozen hR 1
    have v2 : wE.frozen? ⟨w.heap.size + 1, 2, none⟩ = false := row_frozen hR 2
    have v3 : wE.frozen? ⟨w.heap.size + 1, 3, none⟩ = false := row_frozen hR 3
    have hbE' := show Hid (Below w.heap.size w wE) from hbE
    have hR' := show Hid _ from hR
    clear hbE hR hE hX
    have HbE := hbE'
    have HR0 := hR'
    clear hbE' hR'
    have hw2 : (2 : Int) ≠ 0 := by decide
    cases low
    · cases dr
      · go_wp2
        have hg := row_set (j := 3) (row_set (j := 2) (row_set (j := 1) (row_set (j := 0) HR0.out (.int .u8 1)) (.string ky)) (.int .u16 s16)) (.int .i16 v16)
        have hg' : _ = some (Obj.cells #[.int .u8 1, .string ky, .int .u16 s16, .int .i16 v16] 71 (0, 0)) := hg
        refine bodyPost_ret (results_cell_row (p := 4) (ty := 71) rfl _ _ (w.heap.size + 1) 71 #[.int .u8 1, .string ky, .int .u16 s16, .int .i16 v16] (0, 0) _ rfl hg' Tryd.underlying71 rfl (by kernel_rfl)) rfl ⟨?_, ?_⟩
        · have h := Hout.out
          simp at h
          rw [h]
        · exact ((((HbE.out.setCell (p := ⟨w.heap.size + 1, 0, none⟩) (by simp) _).setCell (p := ⟨w.heap.size + 1, 1, none⟩) (by simp) _).setCell (p := ⟨w.heap.size + 1, 2, none⟩) (by simp) _).setCell (p := ⟨w.heap.size + 1, 3, none⟩) (by simp) _)
      · go_wp2
        have hg := row_set (j := 3) (row_set (j := 2) (row_set (j := 1) (row_set (j := 0) ((Below.heap_setCell _ ⟨w.heap.size + 3, 3, none⟩ (.int .i16 0) (w.heap.size + 1) (by simp)).trans ((Below.heap_setCell _ ⟨w.heap.size + 3, 0, none⟩ (.int .u8 2) (w.heap.size + 1) (by simp)).trans HR0.out)) (.int .u8 2)) (.string ky)) (.int .u16 s16)) (.int .i16 0)
        have hg' : _ = some (Obj.cells #[.int .u8 2, .string ky, .int .u16 s16, .int .i16 0] 71 (0, 0)) := hg
        refine bodyPost_ret (results_cell_row (p := 4) (ty := 71) rfl _ _ (w.heap.size + 1) 71 #[.int .u8 2, .string ky, .int .u16 s16, .int .i16 0] (0, 0) _ rfl hg' Tryd.underlying71 rfl (by kernel_rfl)) rfl ⟨?_, ?_⟩
        · have h := Hout.out
          simp at h
          rw [h]
        · exact ((((((HbE.out.setCell (p := ⟨w.heap.size + 3, 0, none⟩) (by simp) _).setCell (p := ⟨w.heap.size + 3, 3, none⟩) (by simp) _).setCell (p := ⟨w.heap.size + 1, 0, none⟩) (by simp) _).setCell (p := ⟨w.heap.size + 1, 1, none⟩) (by simp) _).setCell (p := ⟨w.heap.size + 1, 2, none⟩) (by simp) _).setCell (p := ⟨w.heap.size + 1, 3, none⟩) (by simp) _)
    · cases dr
      · go_wp2
        have hg := row_set (j := 3) (row_set (j := 2) (row_set (j := 1) (row_set (j := 0) ((Below.heap_setCell _ ⟨w.heap.size + 3, 2, none⟩ (.int .u16 (IntKind.u16.wrap (s16.tdiv 2))) (w.heap.size + 1) (by simp)).trans HR0.out) (.int .u8 1)) (.string ky)) (.int .u16 (IntKind.u16.wrap (s16.tdiv 2)))) (.int .i16 v16)
        have hg' : _ = some (Obj.cells #[.int .u8 1, .string ky, .int .u16 (IntKind.u16.wrap (s16.tdiv 2)), .int .i16 v16] 71 (0, 0)) := hg
        refine bodyPost_ret (results_cell_row (p := 4) (ty := 71) rfl _ _ (w.heap.size + 1) 71 #[.int .u8 1, .string ky, .int .u16 (IntKind.u16.wrap (s16.tdiv 2)), .int .i16 v16] (0, 0) _ rfl hg' Tryd.underlying71 rfl (by kernel_rfl)) rfl ⟨?_, ?_⟩
        · have h := Hout.out
          simp at h
          rw [h]
        · exact (((((HbE.out.setCell (p := ⟨w.heap.size + 3, 2, none⟩) (by simp) _).setCell (p := ⟨w.heap.size + 1, 0, none⟩) (by simp) _).setCell (p := ⟨w.heap.size + 1, 1, none⟩) (by simp) _).setCell (p := ⟨w.heap.size + 1, 2, none⟩) (by simp) _).setCell (p := ⟨w.heap.size + 1, 3, none⟩) (by simp) _)
      · go_wp2
        have hg := row_set (j := 3) (row_set (j := 2) (row_set (j := 1) (row_set (j := 0) ((Below.heap_setCell _ ⟨w.heap.size + 3, 3, none⟩ (.int .i16 0) (w.heap.size + 1) (by simp)).trans ((Below.heap_setCell _ ⟨w.heap.size + 3, 0, none⟩ (.int .u8 2) (w.heap.size + 1) (by simp)).trans ((Below.heap_setCell _ ⟨w.heap.size + 3, 2, none⟩ (.int .u16 (IntKind.u16.wrap (s16.tdiv 2))) (w.heap.size + 1) (by simp)).trans HR0.out))) (.int .u8 2)) (.string ky)) (.int .u16 (IntKind.u16.wrap (s16.tdiv 2)))) (.int .i16 0)
        have hg' : _ = some (Obj.cells #[.int .u8 2, .string ky, .int .u16 (IntKind.u16.wrap (s16.tdiv 2)), .int .i16 0] 71 (0, 0)) := hg
        refine bodyPost_ret (results_cell_row (p := 4) (ty := 71) rfl _ _ (w.heap.size + 1) 71 #[.int .u8 2, .string ky, .int .u16 (IntKind.u16.wrap (s16.tdiv 2)), .int .i16 0] (0, 0) _ rfl hg' Tryd.underlying71 rfl (by kernel_rfl)) rfl ⟨?_, ?_⟩
        · have h := Hout.out
          simp at h
          rw [h]
        · exact (((((((HbE.out.setCell (p := ⟨w.heap.size + 3, 2, none⟩) (by simp) _).setCell (p := ⟨w.heap.size + 3, 0, none⟩) (by simp) _).setCell (p := ⟨w.heap.size + 3, 3, none⟩) (by simp) _).setCell (p := ⟨w.heap.size + 1, 0, none⟩) (by simp) _).setCell (p := ⟨w.heap.size + 1, 1, none⟩) (by simp) _).setCell (p := ⟨w.heap.size + 1, 2, none⟩) (by simp) _).setCell (p := ⟨w.heap.size + 1, 3, none⟩) (by simp) _)
  · clear hH
    go_simp
    refine hK.out _ _ ⟨hX4, hK4⟩ (fun hH => ?_)
    clear hK K
    have ha0 := hX4
    have ha1 := hR4
    have ha2 := hK4
    have hE0 := hE4
    have hba := hb4
    generalize (wd.alloc (.cells #[.int .u8 0, .string ⟨#[]⟩, .int .u16 0, .int .i16 0] 71)) = wa at ha0 ha1 ha2 hE0 hba hH ⊢
    rw [hsz] at hE0
    clear hX4 hR4 hK4 hE4 hb4 hX3 hR3 hK3 hb3 hsz
    refine wpAnyH_ready (rs := [5]) (by kernel_rfl) (by simp) ?_
    refine AllReadyH.cons rfl (fun K hK => ?_) AllReadyH.nil
    clear hH
    go_simp
    go_wp2_with (go_at_call 18; refine (hP.out _).mono ?_; rintro en w5 ⟨rfl, rfl⟩)
    refine hK.out _ _ ⟨ha0, ha2⟩ (fun hH => ?_)
    clear hK K
    refine wpAnyH_take (i := 6) (v := (.pointer (some ⟨w.heap.size + 2, n, none⟩))) rfl (by kernel_rfl) (by kernel_rfl) (by kernel_rfl) (fun _ _ _ h => h) (Or.inl ⟨by rfl, by intro v hSw; clear hSw; go_simp⟩) hH ?_
    refine wpAnyH_take (i := 7) (v := (.string ky)) rfl (by kernel_rfl) (by kernel_rfl) (by kernel_rfl) (fun _ _ _ h => h) (Or.inl ⟨by rfl, by intro v hSw; have s0 := hky v hSw.2; clear hSw; go_simp⟩) hH ?_
    refine wpAnyH_take (i := 14) (v := (.agg #[.int .u8 1, .string ky, .int .u16 s16, .int .i16 v16])) rfl (by kernel_rfl) (by kernel_rfl) (by kernel_rfl) (fun _ _ _ h => h) (Or.inl ⟨by rfl, by intro v hSw; clear hSw; go_simp⟩) hH ?_
    refine wpAnyH_ready (rs := [16]) (by kernel_rfl) (by simp) ?_
    refine AllReadyH.cons rfl (fun K hK => ?_) AllReadyH.nil
    clear hH
    have d0 : w5.cell? ⟨w.heap.size + 3, 0, none⟩ = some (.int .u8 0) := row_cell hE0 0
    have d1 : w5.cell? ⟨w.heap.size + 3, 1, none⟩ = some (.string ⟨#[]⟩) := row_cell hE0 1
    have d2 : w5.cell? ⟨w.heap.size + 3, 2, none⟩ = some (.int .u16 0) := row_cell hE0 2
    have d3 : w5.cell? ⟨w.heap.size + 3, 3, none⟩ = some (.int .i16 0) := row_cell hE0 3
    have z0 : w5.frozen? ⟨w.heap.size + 3, 0, none⟩ = false := row_frozen hE0 0
    have z1 : w5.frozen? ⟨w.heap.size + 3, 1, none⟩ = false := row_frozen hE0 1
    have z2 : w5.frozen? ⟨w.heap.size + 3, 2, none⟩ = false := row_frozen hE0 2
    have z3 : w5.frozen? ⟨w.heap.size + 3, 3, none⟩ = false := row_frozen hE0 3
    go_simp
    clear d0 d1 d2 d3 z0 z1 z2 z3
    have hse : ∀ (j : Nat) (o : Obj), w5.heap[j]? = some o → j ≠ w.heap.size + 3 → ((((w5.setCell ⟨w.heap.size + 3, 0, none⟩ (.int .u8 1)).setCell ⟨w.heap.size + 3, 1, none⟩ (.string ky)).setCell ⟨w.heap.size + 3, 2, none⟩ (.int .u16 s16)).setCell ⟨w.heap.size + 3, 3, none⟩ (.int .i16 v16)).heap[j]? = some o := by
      intro j o h hj
      rw [Below.heap_setCell _ _ _ _ hj, Below.heap_setCell _ _ _ _ hj, Below.heap_setCell _ _ _ _ hj, Below.heap_setCell _ _ _ _ hj]
      exact h
    have hE := row_set (j := 3) (row_set (j := 2) (row_set (j := 1) (row_set (j := 0) hE0 (.int .u8 1)) (.string ky)) (.int .u16 s16)) (.int .i16 v16)
    have hE' : _ = some (Obj.cells #[.int .u8 1, .string ky, .int .u16 s16, .int .i16 v16] 71 (0, 0)) := hE
    have hbE : Below w.heap.size w ((((w5.setCell ⟨w.heap.size + 3, 0, none⟩ (.int .u8 1)).setCell ⟨w.heap.size + 3, 1, none⟩ (.string ky)).setCell ⟨w.heap.size + 3, 2, none⟩ (.int .u16 s16)).setCell ⟨w.heap.size + 3, 3, none⟩ (.int .i16 v16)) := (((hba.setCell (p := ⟨w.heap.size + 3, 0, none⟩) (by simp only; omega) _).setCell (p := ⟨w.heap.size + 3, 1, none⟩) (by simp only; omega) _).setCell (p := ⟨w.heap.size + 3, 2, none⟩) (by simp only; omega) _).setCell (p := ⟨w.heap.size + 3, 3, none⟩) (by simp only; omega) _
    have HE := show Hid (_ ∧ _ ∧ _ ∧ _) from And.intro hE' (And.intro (hse _ _ ha1 (by omega)) (And.intro (hse _ _ ha0 (by omega)) hbE))
    refine hK.out _ _ ⟨hse _ _ ha0 (by omega), hse _ _ ha2 (by omega)⟩ (fun hH => ?_)
    clear hK K hH hE hE' hbE hse hE0 ha0 ha1 ha2 hba
    refine wpAnyH_done (by kernel_rfl) ?_ _
    generalize ((((w5.setCell ⟨w.heap.size + 3, 0, none⟩ (.int .u8 1)).setCell ⟨w.heap.size + 3, 1, none⟩ (.string ky)).setCell ⟨w.heap.size + 3, 2, none⟩ (.int .u16 s16)).setCell ⟨w.heap.size + 3, 3, none⟩ (.int .i16 v16)) = wE at HE ⊢
    clear w5
    obtain ⟨hE, hR, hX, hbE⟩ := HE.out
    clear HE
    have x0 : wE.cell? ⟨w.heap.size, 0, none⟩ = some (.bool dr) := row_cell hX 0
    have c0 : wE.cell? ⟨w.heap.size + 3, 0, none⟩ = some (.int .u8 1) := row_cell hE 0
    have c1 : wE.cell? ⟨w.heap.size + 3, 1, none⟩ = some (.string ky) := row_cell hE 1
    have c2 : wE.cell? ⟨w.heap.size + 3, 2, none⟩ = some (.int .u16 s16) := row_cell hE 2
    have c3 : wE.cell? ⟨w.heap.size + 3, 3, none⟩ = some (.int .i16 v16) := row_cell hE 3
    have y0 : wE.frozen? ⟨w.heap.size + 3, 0, none⟩ = false := row_frozen hE 0
    have y2 : wE.frozen? ⟨w.heap.size + 3, 2, none⟩ = false := row_frozen hE 2
    have y3 : wE.frozen? ⟨w.heap.size + 3, 3, none⟩ = false := row_frozen hE 3
    have r0 : wE.cell? ⟨w.heap.size + 1, 0, none⟩ = some (.int .u8 0) := row_cell hR 0
    have r1 : wE.cell? ⟨w.heap.size + 1, 1, none⟩ = some (.string ⟨#[]⟩) := row_cell hR 1
    have r2 : wE.cell? ⟨w.heap.size + 1, 2, none⟩ = some (.int .u16 0) := row_cell hR 2
    have r3 : wE.cell? ⟨w.heap.size + 1, 3, none⟩ = some (.int .i16 0) := row_cell hR 3
    have v0 : wE.frozen? ⟨w.heap.size + 1, 0, none⟩ = false := row_frozen hR 0
    have v1 : wE.frozen? ⟨w.heap.size + 1, 1, none⟩ = false := row_frozen hR 1
    have v2 : wE.frozen? ⟨w.heap.size + 1, 2, none⟩ = false := row_frozen hR 2
    have v3 : wE.frozen? ⟨w.heap.size + 1, 3, none⟩ = false := row_frozen hR 3
    have hbE' := show Hid (Below w.heap.size w wE) from hbE
    have hR' := show Hid _ from hR
    clear hbE hR hE hX
    have HbE := hbE'
    have HR0 := hR'
    clear hbE' hR'
    have hw2 : (2 : Int) ≠ 0 := by decide
    cases low
    · cases dr
      · go_wp2
        have hg := row_set (j := 3) (row_set (j := 2) (row_set (j := 1) (row_set (j := 0) HR0.out (.int .u8 1)) (.string ky)) (.int .u16 s16)) (.int .i16 v16)
        have hg' : _ = some (Obj.cells #[.int .u8 1, .string ky, .int .u16 s16, .int .i16 v16] 71 (0, 0)) := hg
        refine bodyPost_ret (results_cell_row (p := 4) (ty := 71) rfl _ _ (w.heap.size + 1) 71 #[.int .u8 1, .string ky, .int .u16 s16, .int .i16 v16] (0, 0) _ rfl hg' Tryd.underlying71 rfl (by kernel_rfl)) rfl ⟨?_, ?_⟩
        · have h := Hout.out
          simp at h
          rw [h]
        · exact ((((HbE.out.setCell (p := ⟨w.heap.size + 1, 0, none⟩) (by simp) _).setCell (p := ⟨w.heap.size + 1, 1, none⟩) (by simp) _).setCell (p := ⟨w.heap.size + 1, 2, none⟩) (by simp) _).setCell (p := ⟨w.heap.size + 1, 3, none⟩) (by simp) _)
      · go_wp2
        have hg := row_set (j := 3) (row_set (j := 2) (row_set (j := 1) (row_set (j := 0) ((Below.heap_setCell _ ⟨w.heap.size + 3, 3, none⟩ (.int .i16 0) (w.heap.size + 1) (by simp)).trans ((Below.heap_setCell _ ⟨w.heap.size + 3, 0, none⟩ (.int .u8 2) (w.heap.size + 1) (by simp)).trans HR0.out)) (.int .u8 2)) (.string ky)) (.int .u16 s16)) (.int .i16 0)
        have hg' : _ = some (Obj.cells #[.int .u8 2, .string ky, .int .u16 s16, .int .i16 0] 71 (0, 0)) := hg
        refine bodyPost_ret (results_cell_row (p := 4) (ty := 71) rfl _ _ (w.heap.size + 1) 71 #[.int .u8 2, .string ky, .int .u16 s16, .int .i16 0] (0, 0) _ rfl hg' Tryd.underlying71 rfl (by kernel_rfl)) rfl ⟨?_, ?_⟩
        · have h := Hout.out
          simp at h
          rw [h]
        · exact ((((((HbE.out.setCell (p := ⟨w.heap.size + 3, 0, none⟩) (by simp) _).setCell (p := ⟨w.heap.size + 3, 3, none⟩) (by simp) _).setCell (p := ⟨w.heap.size + 1, 0, none⟩) (by simp) _).setCell (p := ⟨w.heap.size + 1, 1, none⟩) (by simp) _).setCell (p := ⟨w.heap.size + 1, 2, none⟩) (by simp) _).setCell (p := ⟨w.heap.size + 1, 3, none⟩) (by simp) _)
    · cases dr
      · go_wp2
        have hg := row_set (j := 3) (row_set (j := 2) (row_set (j := 1) (row_set (j := 0) ((Below.heap_setCell _ ⟨w.heap.size + 3, 2, none⟩ (.int .u16 (IntKind.u16.wrap (s16.tdiv 2))) (w.heap.size + 1) (by simp)).trans HR0.out) (.int .u8 1)) (.string ky)) (.int .u16 (IntKind.u16.wrap (s16.tdiv 2)))) (.int .i16 v16)
        have hg' : _ = some (Obj.cells #[.int .u8 1, .string ky, .int .u16 (IntKind.u16.wrap (s16.tdiv 2)), .int .i16 v16] 71 (0, 0)) := hg
        refine bodyPost_ret (results_cell_row (p := 4) (ty := 71) rfl _ _ (w.heap.size + 1) 71 #[.int .u8 1, .string ky, .int .u16 (IntKind.u16.wrap (s16.tdiv 2)), .int .i16 v16] (0, 0) _ rfl hg' Tryd.underlying71 rfl (by kernel_rfl)) rfl ⟨?_, ?_⟩
        · have h := Hout.out
          simp at h
          rw [h]
        · exact (((((HbE.out.setCell (p := ⟨w.heap.size + 3, 2, none⟩) (by simp) _).setCell (p := ⟨w.heap.size + 1, 0, none⟩) (by simp) _).setCell (p := ⟨w.heap.size + 1, 1, none⟩) (by simp) _).setCell (p := ⟨w.heap.size + 1, 2, none⟩) (by simp) _).setCell (p := ⟨w.heap.size + 1, 3, none⟩) (by simp) _)
      · go_wp2
        have hg := row_set (j := 3) (row_set (j := 2) (row_set (j := 1) (row_set (j := 0) ((Below.heap_setCell _ ⟨w.heap.size + 3, 3, none⟩ (.int .i16 0) (w.heap.size + 1) (by simp)).trans ((Below.heap_setCell _ ⟨w.heap.size + 3, 0, none⟩ (.int .u8 2) (w.heap.size + 1) (by simp)).trans ((Below.heap_setCell _ ⟨w.heap.size + 3, 2, none⟩ (.int .u16 (IntKind.u16.wrap (s16.tdiv 2))) (w.heap.size + 1) (by simp)).trans HR0.out))) (.int .u8 2)) (.string ky)) (.int .u16 (IntKind.u16.wrap (s16.tdiv 2)))) (.int .i16 0)
        have hg' : _ = some (Obj.cells #[.int .u8 2, .string ky, .int .u16 (IntKind.u16.wrap (s16.tdiv 2)), .int .i16 0] 71 (0, 0)) := hg
        refine bodyPost_ret (results_cell_row (p := 4) (ty := 71) rfl _ _ (w.heap.size + 1) 71 #[.int .u8 2, .string ky, .int .u16 (IntKind.u16.wrap (s16.tdiv 2)), .int .i16 0] (0, 0) _ rfl hg' Tryd.underlying71 rfl (by kernel_rfl)) rfl ⟨?_, ?_⟩
        · have h := Hout.out
          simp at h
          rw [h]
        · exact (((((((HbE.out.setCell (p := ⟨w.heap.size + 3, 2, none⟩) (by simp) _).setCell (p := ⟨w.heap.size + 3, 0, none⟩) (by simp) _).setCell (p := ⟨w.heap.size + 3, 3, none⟩) (by simp) _).setCell (p := ⟨w.heap.size + 1, 0, none⟩) (by simp) _).setCell (p := ⟨w.heap.size + 1, 1, none⟩) (by simp) _).setCell (p := ⟨w.heap.size + 1, 2, none⟩) (by simp) _).setCell (p := ⟨w.heap.size + 1, 3, none⟩) (by simp) _)

theorem record_any (r : RawV) (low : Bool) (w : World) (h : r.ok) :
    Calls Tryd.prog 30 #[r.value, .bool low] w fun en w' => en = .returned (recE r low).value ∧ Below w.heap.size w w' := record_at r.drop r.key r.seq r.val w h low _ (show Hid (_ = _) from rfl)
end Go.Proofs.YthccpacmklhejabDoor

namespace Go.Proofs.YthccpacmklhejabDoor
open Go.RowKit

/-- The keys' list. -/
abbrev KAt (B kb o : Nat) (t : TypeId) (cs : Array Value) (a : Option Addr) (c : Nat) (rs : List EV) (w : World) : Prop := LAt B 138 4 kb o t cs a rs.length c (entCells rs) w
abbrev KUpd (B kb o : Nat) (t : TypeId) (cs : Array Value) (a : Option Addr) (c : Nat) (rs : List EV) (w : World) (a' : Option Addr) (c' : Nat) (rs' : List EV) (w' : World) : Prop := Upd B 138 4 kb o t cs a rs.length c w a' rs'.length c' (entCells rs') w'

theorem entFill (rs : List EV) (n : Nat) (h : n < rs.length) (x : EV) : ((((entCells rs).set (n * 4) (.string x.name)).set (n * 4 + 1) (.int .u16 (x.seq : Int))).set (n * 4 + 2) (.int .i64 x.live)).set (n * 4 + 3) (.int .i16 x.value) = entCells (rs.set n x) := by
  have hs : rs = rs.take n ++ rs[n] :: rs.drop (n + 1) := by rw [← List.drop_eq_getElem_cons h, List.take_append_drop]
  have hset : rs.set n x = rs.take n ++ x :: rs.drop (n + 1) := by rw [List.set_eq_take_append_cons_drop, if_pos h]
  rw [hset]
  generalize rs[n] = r at hs
  generalize hT : rs.take n = T at hs
  generalize rs.drop (n + 1) = D at hs
  have hTl : T.length = n := by rw [← hT, List.length_take]; omega
  have hlen : (entCells T).length = n * 4 := by rw [entCells_length, hTl]
  subst hs
  have hc : ∀ r' : EV, entCells (r' :: D) = entCells1 r' ++ entCells D := fun r' => by simp [entCells]
  rw [entCells_append, entCells_append, hc, hc]
  rw [List.set_append_right _ _ (by omega), List.set_append_right _ _ (by omega), List.set_append_right _ _ (by omega), List.set_append_right _ _ (by omega), hlen]
  rw [show n * 4 - n * 4 = 0 from by omega, show n * 4 + 1 - n * 4 = 1 from by omega, show n * 4 + 2 - n * 4 = 2 from by omega, show n * 4 + 3 - n * 4 = 3 from by omega]
  rfl

/-- One entry, laid over: what the walk's four stores ask and leave. -/
theorem KUpd.fill {B kb o : Nat} {t : TypeId} {cs : Array Value} {a : Option Addr} {c : Nat} {ks : List EV} {w0 : World} {g c' : Nat} {rs : List EV} {w : World} (h : KUpd B kb o t cs a c ks w0 (some ⟨g, 0, none⟩) c' rs w) (n : Nat) (hn : n < rs.length) (x : EV) :
    (w.cell? ⟨g, n * 4, none⟩ = some (.string rs[n].name) ∧ (w.setCell ⟨g, n * 4, none⟩ (.string x.name)).cell? ⟨g, n * 4 + 1, none⟩ = some (.int .u16 (rs[n].seq : Int)) ∧
      ((w.setCell ⟨g, n * 4, none⟩ (.string x.name)).setCell ⟨g, n * 4 + 1, none⟩ (.int .u16 (x.seq : Int))).cell? ⟨g, n * 4 + 2, none⟩ = some (.int .i64 rs[n].live) ∧
      (((w.setCell ⟨g, n * 4, none⟩ (.string x.name)).setCell ⟨g, n * 4 + 1, none⟩ (.int .u16 (x.seq : Int))).setCell ⟨g, n * 4 + 2, none⟩ (.int .i64 x.live)).cell? ⟨g, n * 4 + 3, none⟩ = some (.int .i16 rs[n].value)) ∧
    (w.frozen? ⟨g, n * 4, none⟩ = false ∧ (w.setCell ⟨g, n * 4, none⟩ (.string x.name)).frozen? ⟨g, n * 4 + 1, none⟩ = false ∧
      ((w.setCell ⟨g, n * 4, none⟩ (.string x.name)).setCell ⟨g, n * 4 + 1, none⟩ (.int .u16 (x.seq : Int))).frozen? ⟨g, n * 4 + 2, none⟩ = false ∧
      (((w.setCell ⟨g, n * 4, none⟩ (.string x.name)).setCell ⟨g, n * 4 + 1, none⟩ (.int .u16 (x.seq : Int))).setCell ⟨g, n * 4 + 2, none⟩ (.int .i64 x.live)).frozen? ⟨g, n * 4 + 3, none⟩ = false) ∧
    KUpd B kb o t cs a c ks w0 (some ⟨g, 0, none⟩) c' (rs.set n x) ((((w.setCell ⟨g, n * 4, none⟩ (.string x.name)).setCell ⟨g, n * 4 + 1, none⟩ (.int .u16 (x.seq : Int))).setCell ⟨g, n * 4 + 2, none⟩ (.int .i64 x.live)).setCell ⟨g, n * 4 + 3, none⟩ (.int .i16 x.value)) ∧
    w.grownBy ((((w.setCell ⟨g, n * 4, none⟩ (.string x.name)).setCell ⟨g, n * 4 + 1, none⟩ (.int .u16 (x.seq : Int))).setCell ⟨g, n * 4 + 2, none⟩ (.int .i64 x.live)).setCell ⟨g, n * 4 + 3, none⟩ (.int .i16 x.value)) (some g) := by
  have hat : ∀ j, j < 4 → (entCells rs)[n * 4 + j]? = (entCells1 rs[n])[j]? := fun j hj => entCells_at rs n hn j hj
  have r1 := h.store (n * 4) (.string x.name)
  have r2 := r1.store (n * 4 + 1) (.int .u16 (x.seq : Int))
  have r3 := r2.store (n * 4 + 2) (.int .i64 x.live)
  have r4 := r3.store (n * 4 + 3) (.int .i16 x.value)
  have q0 := (h.at'.at (n * 4) (by omega)).trans (hat 0 (by decide))
  have q1 := (r1.at'.at (n * 4 + 1) (by omega)).trans ((List.getElem?_set_ne (by omega)).trans (hat 1 (by decide)))
  have q2 := (r2.at'.at (n * 4 + 2) (by omega)).trans ((List.getElem?_set_ne (by omega)).trans ((List.getElem?_set_ne (by omega)).trans (hat 2 (by decide))))
  have q3 := (r3.at'.at (n * 4 + 3) (by omega)).trans ((List.getElem?_set_ne (by omega)).trans ((List.getElem?_set_ne (by omega)).trans ((List.getElem?_set_ne (by omega)).trans (hat 3 (by decide)))))
  have hgrow := grown_trans (grown_trans (grown_trans (grown_set w g (n * 4) (.string x.name)) (grown_set _ g (n * 4 + 1) (.int .u16 (x.seq : Int)))) (grown_set _ g (n * 4 + 2) (.int .i64 x.live))) (grown_set _ g (n * 4 + 3) (.int .i16 x.value))
  refine ⟨⟨q0, q1, q2, q3⟩, ⟨h.at'.frozenAt _, r1.at'.frozenAt _, r2.at'.frozenAt _, r3.at'.frozenAt _⟩, ?_, hgrow⟩
  rw [entFill rs n hn x] at r4
  have hl : rs.length = (rs.set n x).length := by rw [List.length_set]
  unfold KUpd
  rw [← hl]
  exact r4

theorem Tryd.infoEnt : (Tryd.prog.info? 138).map (fun i => (i.zero, i.size, i.bytes)) = some (some (.agg #[.string ⟨#[]⟩, .int .u16 0, .int .i64 0, .int .i16 0]), 4, 40) := by kernel_rfl

theorem ent_oneCell (r : EV) : ∀ u ∈ entCells1 r, u.oneCell' = true := by
  intro u hu
  simp [entCells1] at hu
  rcases hu with rfl | rfl | rfl | rfl <;> rfl

/-- Does an event count, by the keys' list? -/
def cntE (rs : List EV) (e : Ev) : Bool := if h : plcE rs e.key < rs.length then decide (0 < wrap16 ((e.seq : Int) - ((rs[plcE rs e.key]).seq : Int))) else true

theorem plcE_le (rs : List EV) (key : ByteArray) : plcE rs key ≤ rs.length := List.findIdx_le_length

set_option maxRecDepth 100000 in
set_option maxHeartbeats 1000000 in
theorem kcounts_any (B kb o : Nat) (t : TypeId) (cs : Array Value) (a : Option Addr) (c : Nat) (rs : List EV) (e : Ev) (w : World) (hlen : rs.length ≤ 1000) (hK : KAt B kb o t cs a c rs w) :
    Calls Tryd.prog 62 #[.pointer (some ⟨kb, o, none⟩), e.value] w fun en w' => en = .returned (.bool (cntE rs e)) ∧ Below w.heap.size w w' := by
  obtain ⟨op, key, seq, val⟩ := e
  unfold cntE
  simp only
  have HK := show Hid _ from hK.alloc (.cells #[.int .u8 (op : Int), .string key, .int .u16 (seq : Int), .int .i16 val] 71)
  have heb := heap_alloc_new w (.cells #[.int .u8 (op : Int), .string key, .int .u16 (seq : Int), .int .i16 val] 71)
  have Hb := show Hid _ from (Below.refl w.heap.size w).alloc (Nat.le_refl _) (.cells #[.int .u8 (op : Int), .string key, .int .u16 (seq : Int), .int .i16 val] 71)
  clear hK
  have HP := show Hid _ from fun (w : World) (hb : w.cell? ⟨kb, o, none⟩ = some (.slice a rs.length c)) (ho : w.ownsRow B 138 4 (.slice a rs.length c) rs.length (entCells rs)) => kplace_any kb o a c rs key B w hlen hb ho
  unfold Ev.value
  by_cases hm : plcE rs key < rs.length
  · rw [dif_pos hm]
    have hN : Hid (∀ w, Calls Tryd.prog 78 #[.int .u16 (seq : Int), .int .u16 ((rs[plcE rs key]'hm).seq : Int)] w fun en w' => en = .returned (.bool (decide (0 < wrap16 ((seq : Int) - ((rs[plcE rs key]'hm).seq : Int))))) ∧ ∃ m, w' = w.drewN m) := by
      intro w
      exact (newer_any seq (rs[plcE rs key]'hm).seq w).mono fun en w' ⟨h1, h2⟩ => ⟨h1, 0, by rw [h2]; rfl⟩
    have hat := entCells_at rs (plcE rs key) hm 1 (by decide)
    have e1 : (entCells1 (rs[plcE rs key]'hm))[1]? = some (.int .u16 ((rs[plcE rs key]'hm).seq : Int)) := rfl
    rw [e1] at hat
    clear e1
    generalize decide (0 < wrap16 ((seq : Int) - ((rs[plcE rs key]'hm).seq : Int))) = ans at hN
    generalize (rs[plcE rs key]'hm).seq = q at hN hat
    generalize plcE rs key = m at hm hat HP
    rcases own_addr HK.out.own with ⟨_, h0⟩ | ⟨g, rfl⟩
    · omega
    go_enter Tryd.func62, Tryd.ntmps62
    go_wp2_with fail
    generalize (w.alloc (.cells #[.int .u8 (op : Int), .string key, .int .u16 (seq : Int), .int .i16 val] 71)) = w1 at HK heb Hb ⊢
    refine (HP.out w1 HK.out.cell HK.out.own).mono ?_
    rintro en w2 ⟨rfl, rfl⟩
    have hkc := HK.out.cell
    have hsq : w2.cell? ⟨w.heap.size, 2, none⟩ = some (.int .u16 (seq : Int)) := row_cell heb 2
    have hrq : w2.cell? ⟨g, m * 4 + 1, none⟩ = some (.int .u16 (q : Int)) := (HK.out.at (m * 4 + 1) (by omega)).trans hat
    have hne : ((m : Int) == (rs.length : Int)) = false := by rw [beq_eq_false_iff_ne]; omega
    have hmi : (m : Int) < (rs.length : Int) := by omega
    have hm0 : (0 : Int) ≤ (m : Int) := by omega
    clear HP hat heb HK hm
    go_wp2
    go_quiet (first | (go_at_call 78; refine Calls.quiet_of (hN.out _)))
    go_wp2
    go_ret
    exact ⟨rfl, below_drewN Hb.out nq⟩
  · rw [dif_neg hm]
    have hmm : plcE rs key = rs.length := by have := plcE_le rs key; omega
    generalize plcE rs key = m at hmm HP
    go_enter Tryd.func62, Tryd.ntmps62
    go_wp2_with fail
    generalize (w.alloc (.cells #[.int .u8 (op : Int), .string key, .int .u16 (seq : Int), .int .i16 val] 71)) = w1 at HK heb Hb ⊢
    refine (HP.out w1 HK.out.cell HK.out.own).mono ?_
    rintro en w2 ⟨rfl, rfl⟩
    have hkc := HK.out.cell
    have hne : ((m : Int) == (rs.length : Int)) = true := by rw [beq_iff_eq]; omega
    clear HP heb HK hmm hm
    go_wp2
    go_quiet (fail)
    go_wp2
    go_ret
    exact ⟨rfl, below_drewN Hb.out nq⟩

end Go.Proofs.YthccpacmklhejabDoor
