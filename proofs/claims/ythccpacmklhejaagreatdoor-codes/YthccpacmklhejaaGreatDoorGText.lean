/-
  groups: the text of a group, of a table.
-/
import Derived.Test.YthccpacmklhejaaGreatDoorTab
import Derived.Test.YthccpacmklhejaaGreatDoorShelf
import Derived.Lib.AppendIntMem
namespace Go.Proofs.YthccpacmklhejaaGreatDoor
open Go.RowKit

theorem decDigits_decN : ∀ (k n : Nat), n < 10 ^ (k + 1) → Lib.decDigits n = decN n
  | 0, n, h => by
    rw [decN_small (by omega), Lib.decDigits, dif_pos (by omega)]
    rfl
  | k + 1, n, h => by
    by_cases h10 : n < 10
    · rw [decN_small h10, Lib.decDigits, dif_pos h10]
      rfl
    · rw [decN_big h10, Lib.decDigits, dif_neg h10, decDigits_decN k (n / 10) (by rw [Nat.pow_succ] at h; omega)]
      rfl

theorem itoa_decI (n : Int) (h1 : -1000000 ≤ n) (h2 : n ≤ 1000000) : Lib.itoa n = decI n := by
  unfold Lib.itoa decI
  split
  · rw [decDigits_decN 6 n.natAbs (by omega), show n.natAbs = (-n).toNat by omega]
  · rw [decDigits_decN 6 n.toNat (by omega)]

theorem decI_length (n : Int) (h1 : -1000000 ≤ n) (h2 : n ≤ 1000000) : (decI n).length ≤ 8 := by
  unfold decI
  split
  · have := decN_length 6 (-n).toNat (by omega)
    simp
    omega
  · have := decN_length 6 n.toNat (by omega)
    omega

/-- The table of powers is as the program lays it. -/
def Tab (w : World) : Prop := Lib.TabIs Tryz.prog w "internal/strconv.uint64pow10" .u64 Lib.pow10Tab

theorem Tab.old {w w1 : World} (h : Tab w) (hb : Below w.heap.size w w1) : Tab w1 := Lib.tabBelow_of_tabIs h w1 hb

theorem itoa_any (n : Int) (h1 : -1000000 ≤ n) (h2 : n ≤ 1000000) (w : World) (ht : Tab w) :
    Calls Tryz.prog 120 #[.int .i64 n] w fun en w' => en = .returned (.string ⟨(decI n).toArray⟩) ∧ Below w.heap.size w w' := by
  rw [← itoa_decI n h1 h2]
  refine (Tryz.strconv_Itoa n (by omega) (by omega) w ht).mono ?_
  rintro e w1 ⟨rfl, k, os, rfl⟩
  exact ⟨rfl, Lib.below_grow _ _ (Nat.le_refl _) _ _⟩

/-- The text of a group. -/
def gText (r : GV) : List UInt8 := (Utf8.encode (r.pt : Int)).data.toList ++ [32] ++ decI r.live ++ [32] ++ decI r.sum ++ [32] ++ decI r.ev ++ [59]

set_option maxRecDepth 100000 in
set_option maxHeartbeats 2000000 in
theorem gtext_any (p : Nat) (l s e : Int) (ch : Bool) (w : World) (ht : Tab w) (hl : -100000 ≤ l ∧ l ≤ 100000) (hs : -32768 ≤ s ∧ s ≤ 32767) (he : 0 ≤ e ∧ e ≤ 255) :
    Calls Tryz.prog 106 #[.agg #[.int .i32 (p : Int), .int .i64 l, .int .i16 s, .int .u8 e, .bool ch]] w fun en w' => en = .returned (.string ⟨(gText ⟨p, l, s, e⟩).toArray⟩) ∧ Below w.heap.size w w' := by
  have hE := enc_size (p : Int)
  have hL := decI_length l (by omega) (by omega)
  have hS := decI_length s (by omega) (by omega)
  have hV := decI_length e (by omega) (by omega)
  have h1 := show Hid _ from fun w ht => itoa_any l (by omega) (by omega) w ht
  have h2 := show Hid _ from fun w ht => itoa_any s (by omega) (by omega) w ht
  have h3 := show Hid _ from fun w ht => itoa_any e (by omega) (by omega) w ht
  have hfin : Utf8.encode (p : Int) ++ ⟨#[32]⟩ ++ ⟨(decI l).toArray⟩ ++ ⟨#[32]⟩ ++ ⟨(decI s).toArray⟩ ++ ⟨#[32]⟩ ++ ⟨(decI e).toArray⟩ ++ ⟨#[59]⟩ = (⟨(gText ⟨p, l, s, e⟩).toArray⟩ : ByteArray) := by
    apply ba_ext
    unfold gText
    simp
  have Hfin := show Hid _ from hfin
  clear hfin
  have hw1 : IntKind.i64.wrap s = s := IntWalk.i64_in s ⟨by omega, by omega⟩
  have hw2 : IntKind.i64.wrap e = e := IntWalk.i64_in e ⟨by omega, by omega⟩
  generalize decI l = L at hL h1 Hfin
  generalize decI s = S0 at hS h2 Hfin
  generalize decI e = V at hV h3 Hfin
  have hLs : (⟨L.toArray⟩ : ByteArray).size = L.length := by simp [ByteArray.size]
  have hSs : (⟨S0.toArray⟩ : ByteArray).size = S0.length := by simp [ByteArray.size]
  have hVs : (⟨V.toArray⟩ : ByteArray).size = V.length := by simp [ByteArray.size]
  have h32 : (⟨#[32]⟩ : ByteArray).size = 1 := rfl
  have h59 : (⟨#[59]⟩ : ByteArray).size = 1 := rfl
  generalize (⟨L.toArray⟩ : ByteArray) = BL at hLs h1 Hfin
  generalize (⟨S0.toArray⟩ : ByteArray) = BS at hSs h2 Hfin
  generalize (⟨V.toArray⟩ : ByteArray) = BV at hVs h3 Hfin
  have hH0 : (w.alloc (.cells #[.int .i32 (p : Int), .int .i64 l, .int .i16 s, .int .u8 e, .bool ch] 176)).drew.heap[w.heap.size]? = some (.cells #[.int .i32 (p : Int), .int .i64 l, .int .i16 s, .int .u8 e, .bool ch] 176 (0, 0)) ∧ Tab (w.alloc (.cells #[.int .i32 (p : Int), .int .i64 l, .int .i16 s, .int .u8 e, .bool ch] 176)).drew := ⟨heap_alloc_new w _, ht.old ((Below.refl _ _).alloc (Nat.le_refl _) _).drew⟩
  have hb0 : Below w.heap.size w (w.alloc (.cells #[.int .i32 (p : Int), .int .i64 l, .int .i16 s, .int .u8 e, .bool ch] 176)).drew := ((Below.refl _ _).alloc (Nat.le_refl _) _).drew
  clear ht
  go_enter Tryz.func106, Tryz.ntmps106
  go_wp2
  have henc : ∀ v : World, (convert 21 9 (.int .i32 (p : Int))).run Tryz.prog v = .ok (.string (Utf8.encode (p : Int))) v := by
    intro v
    go_simp
  generalize Utf8.encode (p : Int) = E at hE henc Hfin
  refine wp_region_held_drew (S := fun w' : World => w'.heap[w.heap.size]? = some (.cells #[.int .i32 (p : Int), .int .i64 l, .int .i16 s, .int .u8 e, .bool ch] 176 (0, 0)) ∧ Tab w') (by kernel_rfl) hH0 (fun hH => ?_)
  generalize (w.alloc (.cells #[.int .i32 (p : Int), .int .i64 l, .int .i16 s, .int .u8 e, .bool ch] 176)).drew = wd at hH hb0 ⊢
  clear hH0
  refine wpAnyH_take (i := 0) (v := (.pointer (some ⟨w.heap.size, 0, none⟩))) rfl (by kernel_rfl) (by kernel_rfl) (by kernel_rfl) (fun _ _ _ h => h) (Or.inl ⟨by rfl, by intro v hSw; clear hSw; go_simp⟩) hH ?_
  refine wpAnyH_take (i := 1) (v := (.int .i32 (p : Int))) rfl (by kernel_rfl) (by kernel_rfl) (by kernel_rfl) (fun _ _ _ h => h) (Or.inl ⟨by rfl, by intro v hSw; have s0 : v.cell? ⟨w.heap.size, 0, none⟩ = some (.int .i32 (p : Int)) := row_cell hSw.1 0; clear hSw; go_simp⟩) hH ?_
  refine wpAnyH_take (i := 2) (v := (.string E)) rfl (by kernel_rfl) (by kernel_rfl) (by kernel_rfl) (fun _ _ _ h => h) (Or.inl ⟨by rfl, by intro v hSw; clear hSw; go_simp⟩) hH ?_
  refine wpAnyH_take (i := 3) (v := (.string (E ++ ⟨#[32]⟩))) rfl (by kernel_rfl) (by kernel_rfl) (by kernel_rfl) (fun _ _ _ h => h) (Or.inl ⟨by rfl, by intro v hSw; clear hSw; go_simp; omega⟩) hH ?_
  refine wpAnyH_take (i := 4) (v := (.pointer (some ⟨w.heap.size, 1, none⟩))) rfl (by kernel_rfl) (by kernel_rfl) (by kernel_rfl) (fun _ _ _ h => h) (Or.inl ⟨by rfl, by intro v hSw; clear hSw; go_simp⟩) hH ?_
  refine wpAnyH_take (i := 5) (v := (.int .i64 l)) rfl (by kernel_rfl) (by kernel_rfl) (by kernel_rfl) (fun _ _ _ h => h) (Or.inl ⟨by rfl, by intro v hSw; have s0 : v.cell? ⟨w.heap.size, 1, none⟩ = some (.int .i64 l) := row_cell hSw.1 1; clear hSw; go_simp⟩) hH ?_
  refine wpAnyH_take (i := 9) (v := (.pointer (some ⟨w.heap.size, 2, none⟩))) rfl (by kernel_rfl) (by kernel_rfl) (by kernel_rfl) (fun _ _ _ h => h) (Or.inl ⟨by rfl, by intro v hSw; clear hSw; go_simp⟩) hH ?_
  refine wpAnyH_take (i := 10) (v := (.int .i16 s)) rfl (by kernel_rfl) (by kernel_rfl) (by kernel_rfl) (fun _ _ _ h => h) (Or.inl ⟨by rfl, by intro v hSw; have s0 : v.cell? ⟨w.heap.size, 2, none⟩ = some (.int .i16 s) := row_cell hSw.1 2; clear hSw; go_simp⟩) hH ?_
  refine wpAnyH_take (i := 11) (v := (.int .i64 s)) rfl (by kernel_rfl) (by kernel_rfl) (by kernel_rfl) (fun _ _ _ h => h) (Or.inl ⟨by rfl, by intro v hSw; clear hSw; go_simp⟩) hH ?_
  refine wpAnyH_take (i := 15) (v := (.pointer (some ⟨w.heap.size, 3, none⟩))) rfl (by kernel_rfl) (by kernel_rfl) (by kernel_rfl) (fun _ _ _ h => h) (Or.inl ⟨by rfl, by intro v hSw; clear hSw; go_simp⟩) hH ?_
  refine wpAnyH_take (i := 16) (v := (.int .u8 e)) rfl (by kernel_rfl) (by kernel_rfl) (by kernel_rfl) (fun _ _ _ h => h) (Or.inl ⟨by rfl, by intro v hSw; have s0 : v.cell? ⟨w.heap.size, 3, none⟩ = some (.int .u8 e) := row_cell hSw.1 3; clear hSw; go_simp⟩) hH ?_
  refine wpAnyH_take (i := 17) (v := (.int .i64 e)) rfl (by kernel_rfl) (by kernel_rfl) (by kernel_rfl) (fun _ _ _ h => h) (Or.inl ⟨by rfl, by intro v hSw; clear hSw; go_simp⟩) hH ?_
  refine wpAnyH_ready (rs := [6]) (by kernel_rfl) (by simp) ?_
  refine AllReadyH.cons rfl (fun K hK => ?_) AllReadyH.nil
  have Hw2 := show Hid (_ ∧ _) from hH
  clear hH
  go_simp
  go_wp2_with (go_at_call 120; refine (h1.out _ Hw2.out.2).mono ?_; rintro en w2 ⟨rfl, hbw2⟩)
  refine hK.out _ _ ⟨(hbw2.block _ (heap_lt Hw2.out.1)).trans Hw2.out.1, Hw2.out.2.old hbw2⟩ (fun hH => ?_)
  clear hK K Hw2
  refine wpAnyH_take (i := 7) (v := (.string (E ++ ⟨#[32]⟩ ++ BL))) rfl (by kernel_rfl) (by kernel_rfl) (by kernel_rfl) (fun _ _ _ h => h) (Or.inl ⟨by rfl, by intro v hSw; clear hSw; go_simp; omega⟩) hH ?_
  refine wpAnyH_take (i := 8) (v := (.string (E ++ ⟨#[32]⟩ ++ BL ++ ⟨#[32]⟩))) rfl (by kernel_rfl) (by kernel_rfl) (by kernel_rfl) (fun _ _ _ h => h) (Or.inl ⟨by rfl, by intro v hSw; clear hSw; go_simp; omega⟩) hH ?_
  refine wpAnyH_ready (rs := [12]) (by kernel_rfl) (by simp) ?_
  refine AllReadyH.cons rfl (fun K hK => ?_) AllReadyH.nil
  have Hw3 := show Hid (_ ∧ _) from hH
  clear hH
  go_simp
  go_wp2_with (go_at_call 120; refine (h2.out _ Hw3.out.2).mono ?_; rintro en w3 ⟨rfl, hbw3⟩)
  refine hK.out _ _ ⟨(hbw3.block _ (heap_lt Hw3.out.1)).trans Hw3.out.1, Hw3.out.2.old hbw3⟩ (fun hH => ?_)
  clear hK K Hw3
  refine wpAnyH_take (i := 13) (v := (.string (E ++ ⟨#[32]⟩ ++ BL ++ ⟨#[32]⟩ ++ BS))) rfl (by kernel_rfl) (by kernel_rfl) (by kernel_rfl) (fun _ _ _ h => h) (Or.inl ⟨by rfl, by intro v hSw; clear hSw; go_simp; omega⟩) hH ?_
  refine wpAnyH_take (i := 14) (v := (.string (E ++ ⟨#[32]⟩ ++ BL ++ ⟨#[32]⟩ ++ BS ++ ⟨#[32]⟩))) rfl (by kernel_rfl) (by kernel_rfl) (by kernel_rfl) (fun _ _ _ h => h) (Or.inl ⟨by rfl, by intro v hSw; clear hSw; go_simp; omega⟩) hH ?_
  refine wpAnyH_ready (rs := [18]) (by kernel_rfl) (by simp) ?_
  refine AllReadyH.cons rfl (fun K hK => ?_) AllReadyH.nil
  have Hw4 := show Hid (_ ∧ _) from hH
  clear hH
  go_simp
  go_wp2_with (go_at_call 120; refine (h3.out _ Hw4.out.2).mono ?_; rintro en w4 ⟨rfl, hbw4⟩)
  refine hK.out _ _ ⟨(hbw4.block _ (heap_lt Hw4.out.1)).trans Hw4.out.1, Hw4.out.2.old hbw4⟩ (fun hH => ?_)
  clear hK K Hw4
  refine wpAnyH_take (i := 19) (v := (.string (E ++ ⟨#[32]⟩ ++ BL ++ ⟨#[32]⟩ ++ BS ++ ⟨#[32]⟩ ++ BV))) rfl (by kernel_rfl) (by kernel_rfl) (by kernel_rfl) (fun _ _ _ h => h) (Or.inl ⟨by rfl, by intro v hSw; clear hSw; go_simp; omega⟩) hH ?_
  refine wpAnyH_take (i := 20) (v := (.string (E ++ ⟨#[32]⟩ ++ BL ++ ⟨#[32]⟩ ++ BS ++ ⟨#[32]⟩ ++ BV ++ ⟨#[59]⟩))) rfl (by kernel_rfl) (by kernel_rfl) (by kernel_rfl) (fun _ _ _ h => h) (Or.inl ⟨by rfl, by intro v hSw; clear hSw; go_simp; omega⟩) hH ?_
  refine wpAnyH_take (i := 21) (v := (.string (E ++ ⟨#[32]⟩ ++ BL ++ ⟨#[32]⟩ ++ BS ++ ⟨#[32]⟩ ++ BV ++ ⟨#[59]⟩))) rfl (by kernel_rfl) (by kernel_rfl) (by kernel_rfl) (fun _ _ _ h => h) (Or.inl ⟨by rfl, by intro v hSw; clear hSw; go_simp⟩) hH ?_
  refine wpAnyH_done (by kernel_rfl) ?_ _
  go_wp2
  go_ret
  refine ⟨?_, ?_⟩
  · rw [← Hfin.out]
    rfl
  · exact ((hb0.trans (hbw2.mono hb0.size)).trans (hbw3.mono (Nat.le_trans hb0.size hbw2.size))).trans (hbw4.mono (Nat.le_trans (Nat.le_trans hb0.size hbw2.size) hbw3.size))

end Go.Proofs.YthccpacmklhejaaGreatDoor
