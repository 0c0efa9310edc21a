/-
  Several texts in one.
-/
import Derived.Test.YthccpacmklhejabDoorK13
import Derived.Test.YthccpacmklhejabDoorK12
namespace Go.Proofs.YthccpacmklhejabDoor
open Go.RowKit

def itZ : Value := .agg #[.bool false, .int .u8 0, .string ⟨#[]⟩, .int .u16 0, .int .i16 0, .int .i32 0, .int .i64 0, .int .i16 0]
def itV (x : ItemV) : Value := .agg (itCells1 x).toArray

theorem below_set8 {w w1 : World} {B g : Nat} (h : Below B w w1) (hg : B ≤ g) (v0 v1 v2 v3 v4 v5 v6 v7 : Value) : Below B w ((((((((w1.setCell ⟨g, 0, none⟩ v0).setCell ⟨g, 1, none⟩ v1).setCell ⟨g, 2, none⟩ v2).setCell ⟨g, 3, none⟩ v3).setCell ⟨g, 4, none⟩ v4).setCell ⟨g, 5, none⟩ v5).setCell ⟨g, 6, none⟩ v6).setCell ⟨g, 7, none⟩ v7) :=
  (((((((h.setCell (p := ⟨g, 0, none⟩) hg v0).setCell (p := ⟨g, 1, none⟩) hg v1).setCell (p := ⟨g, 2, none⟩) hg v2).setCell (p := ⟨g, 3, none⟩) hg v3).setCell (p := ⟨g, 4, none⟩) hg v4).setCell (p := ⟨g, 5, none⟩) hg v5).setCell (p := ⟨g, 6, none⟩) hg v6).setCell (p := ⟨g, 7, none⟩) hg v7

set_option maxRecDepth 100000 in
set_option maxHeartbeats 1000000 in
theorem pfirst_none (kb o : Nat) (a : Option Addr) (c : Nat) (w : World) (hc : w.cell? ⟨kb, o + 1, none⟩ = some (.slice a 0 c)) (hk : kb < w.heap.size) :
    Calls Tryd.prog 60 #[.pointer (some ⟨kb, o, none⟩)] w fun en w' => en = .returned (.tuple #[itZ, .bool false]) ∧ Below w.heap.size w w' := by
  have hb := (Below.refl w.heap.size w).alloc (Nat.le_refl _) (.cells #[.bool false, .int .u8 0, .string ⟨#[]⟩, .int .u16 0, .int .i16 0, .int .i32 0, .int .i64 0, .int .i16 0] 110)
  have hcb := heap_alloc_new w (.cells #[.bool false, .int .u8 0, .string ⟨#[]⟩, .int .u16 0, .int .i16 0, .int .i32 0, .int .i64 0, .int .i16 0] 110)
  have hc1 := (hb.cell (p := ⟨kb, o + 1, none⟩) hk).trans hc
  clear hc
  have Hb := show Hid _ from hb
  clear hb
  go_enter Tryd.func60, Tryd.ntmps60
  generalize hw1 : w.alloc (.cells #[.bool false, .int .u8 0, .string ⟨#[]⟩, .int .u16 0, .int .i16 0, .int .i32 0, .int .i64 0, .int .i16 0] 110) = w1 at hcb hc1 Hb
  have d0 : w1.cell? ⟨w.heap.size, 0, none⟩ = some (.bool false) := row_cell hcb 0
  have z0 : w1.frozen? ⟨w.heap.size, 0, none⟩ = false := row_frozen hcb 0
  have d1 : w1.cell? ⟨w.heap.size, 1, none⟩ = some (.int .u8 0) := row_cell hcb 1
  have z1 : w1.frozen? ⟨w.heap.size, 1, none⟩ = false := row_frozen hcb 1
  have d2 : w1.cell? ⟨w.heap.size, 2, none⟩ = some (.string ⟨#[]⟩) := row_cell hcb 2
  have z2 : w1.frozen? ⟨w.heap.size, 2, none⟩ = false := row_frozen hcb 2
  have d3 : w1.cell? ⟨w.heap.size, 3, none⟩ = some (.int .u16 0) := row_cell hcb 3
  have z3 : w1.frozen? ⟨w.heap.size, 3, none⟩ = false := row_frozen hcb 3
  have d4 : w1.cell? ⟨w.heap.size, 4, none⟩ = some (.int .i16 0) := row_cell hcb 4
  have z4 : w1.frozen? ⟨w.heap.size, 4, none⟩ = false := row_frozen hcb 4
  have d5 : w1.cell? ⟨w.heap.size, 5, none⟩ = some (.int .i32 0) := row_cell hcb 5
  have z5 : w1.frozen? ⟨w.heap.size, 5, none⟩ = false := row_frozen hcb 5
  have d6 : w1.cell? ⟨w.heap.size, 6, none⟩ = some (.int .i64 0) := row_cell hcb 6
  have z6 : w1.frozen? ⟨w.heap.size, 6, none⟩ = false := row_frozen hcb 6
  have d7 : w1.cell? ⟨w.heap.size, 7, none⟩ = some (.int .i16 0) := row_cell hcb 7
  have z7 : w1.frozen? ⟨w.heap.size, 7, none⟩ = false := row_frozen hcb 7
  go_wp2
  have hg' : _ = some (Obj.cells #[.bool false, .int .u8 0, .string ⟨#[]⟩, .int .u16 0, .int .i16 0, .int .i32 0, .int .i64 0, .int .i16 0] 110 (0, 0)) := row_set (j := 7) (row_set (j := 6) (row_set (j := 5) (row_set (j := 4) (row_set (j := 3) (row_set (j := 2) (row_set (j := 1) (row_set (j := 0) hcb (.bool false)) (.int .u8 0)) (.string ⟨#[]⟩)) (.int .u16 0)) (.int .i16 0)) (.int .i32 0)) (.int .i64 0)) (.int .i16 0)
  exact bodyPost_ret (results_row_tmp (p := 2) (u := 3) (ty := 110) rfl _ _ w.heap.size 110 #[.bool false, .int .u8 0, .string ⟨#[]⟩, .int .u16 0, .int .i16 0, .int .i32 0, .int .i64 0, .int .i16 0] (0, 0) _ rfl hg' Tryd.underlying110 rfl (by kernel_rfl)) rfl ⟨rfl, below_set8 Hb.out (Nat.le_refl _) _ _ _ _ _ _ _ _⟩

set_option maxRecDepth 100000 in
set_option maxHeartbeats 1000000 in
theorem pfirst_some (B kb o : Nat) (t : TypeId) (cs : Array Value) (a : Option Addr) (c : Nat) (x : ItemV) (rs : List ItemV) (w : World) (hP : PAt B kb (o + 1) t cs a c (x :: rs) w) (hlen : rs.length ≤ 1000) :
    Calls Tryd.prog 60 #[.pointer (some ⟨kb, o, none⟩)] w fun en w' => en = .returned (.tuple #[itV x, .bool true]) ∧ Below w.heap.size w w' := by
  have hb := (Below.refl w.heap.size w).alloc (Nat.le_refl _) (.cells #[.bool false, .int .u8 0, .string ⟨#[]⟩, .int .u16 0, .int .i16 0, .int .i32 0, .int .i64 0, .int .i16 0] 110)
  have hcb := heap_alloc_new w (.cells #[.bool false, .int .u8 0, .string ⟨#[]⟩, .int .u16 0, .int .i16 0, .int .i32 0, .int .i64 0, .int .i16 0] 110)
  have hP1 := hP.alloc (.cells #[.bool false, .int .u8 0, .string ⟨#[]⟩, .int .u16 0, .int .i16 0, .int .i32 0, .int .i64 0, .int .i16 0] 110)
  have hc1 := hP1.cell
  rcases own_addr hP.own with ⟨_, h0⟩ | ⟨g, rfl⟩
  · simp at h0
  have hgl := hP.gl.2
  obtain ⟨c0, c1, c2, c3, c4, c5, c6, c7⟩ := it_row hP1 0 (by simp)
  simp only [List.getElem_cons_zero, Nat.zero_mul, Nat.zero_add] at c0 c1 c2 c3 c4 c5 c6 c7
  have Hb := show Hid _ from hb
  clear hb hP hP1
  unfold itV itCells1
  obtain ⟨xb, ⟨xo, xk, xq, xv⟩, xp, xl, xs⟩ := x
  simp only at c0 c1 c2 c3 c4 c5 c6 c7
  have hn0 : ((((⟨xb, ⟨xo, xk, xq, xv⟩, xp, xl, xs⟩ : ItemV) :: rs).length : Nat) : Int) = (rs.length : Int) + 1 := by simp
  rw [show (((⟨xb, ⟨xo, xk, xq, xv⟩, xp, xl, xs⟩ : ItemV) :: rs).length) = rs.length + 1 from rfl] at hc1
  clear hn0
  have hne : (((rs.length : Int) + 1) == 0) = false := by rw [beq_eq_false_iff_ne]; omega
  have hni : (0 : Int) < (rs.length : Int) + 1 := by omega
  go_enter Tryd.func60, Tryd.ntmps60
  generalize hw1 : w.alloc (.cells #[.bool false, .int .u8 0, .string ⟨#[]⟩, .int .u16 0, .int .i16 0, .int .i32 0, .int .i64 0, .int .i16 0] 110) = w1 at hcb hc1 Hb c0 c1 c2 c3 c4 c5 c6 c7
  have d0 : w1.cell? ⟨w.heap.size, 0, none⟩ = some (.bool false) := row_cell hcb 0
  have z0 : w1.frozen? ⟨w.heap.size, 0, none⟩ = false := row_frozen hcb 0
  have d1 : w1.cell? ⟨w.heap.size, 1, none⟩ = some (.int .u8 0) := row_cell hcb 1
  have z1 : w1.frozen? ⟨w.heap.size, 1, none⟩ = false := row_frozen hcb 1
  have d2 : w1.cell? ⟨w.heap.size, 2, none⟩ = some (.string ⟨#[]⟩) := row_cell hcb 2
  have z2 : w1.frozen? ⟨w.heap.size, 2, none⟩ = false := row_frozen hcb 2
  have d3 : w1.cell? ⟨w.heap.size, 3, none⟩ = some (.int .u16 0) := row_cell hcb 3
  have z3 : w1.frozen? ⟨w.heap.size, 3, none⟩ = false := row_frozen hcb 3
  have d4 : w1.cell? ⟨w.heap.size, 4, none⟩ = some (.int .i16 0) := row_cell hcb 4
  have z4 : w1.frozen? ⟨w.heap.size, 4, none⟩ = false := row_frozen hcb 4
  have d5 : w1.cell? ⟨w.heap.size, 5, none⟩ = some (.int .i32 0) := row_cell hcb 5
  have z5 : w1.frozen? ⟨w.heap.size, 5, none⟩ = false := row_frozen hcb 5
  have d6 : w1.cell? ⟨w.heap.size, 6, none⟩ = some (.int .i64 0) := row_cell hcb 6
  have z6 : w1.frozen? ⟨w.heap.size, 6, none⟩ = false := row_frozen hcb 6
  have d7 : w1.cell? ⟨w.heap.size, 7, none⟩ = some (.int .i16 0) := row_cell hcb 7
  have z7 : w1.frozen? ⟨w.heap.size, 7, none⟩ = false := row_frozen hcb 7
  go_wp2
  have hg' : _ = some (Obj.cells #[.bool xb, .int .u8 (xo : Int), .string xk, .int .u16 (xq : Int), .int .i16 xv, .int .i32 xp, .int .i64 xl, .int .i16 xs] 110 (0, 0)) := row_set (j := 7) (row_set (j := 6) (row_set (j := 5) (row_set (j := 4) (row_set (j := 3) (row_set (j := 2) (row_set (j := 1) (row_set (j := 0) hcb (.bool xb)) (.int .u8 (xo : Int))) (.string xk)) (.int .u16 (xq : Int))) (.int .i16 xv)) (.int .i32 xp)) (.int .i64 xl)) (.int .i16 xs)
  exact bodyPost_ret (results_row_tmp (p := 2) (u := 3) (ty := 110) rfl _ _ w.heap.size 110 #[.bool xb, .int .u8 (xo : Int), .string xk, .int .u16 (xq : Int), .int .i16 xv, .int .i32 xp, .int .i64 xl, .int .i16 xs] (0, 0) _ rfl hg' Tryd.underlying110 rfl (by kernel_rfl)) rfl ⟨rfl, below_set8 Hb.out (Nat.le_refl _) _ _ _ _ _ _ _ _⟩

end Go.Proofs.YthccpacmklhejabDoor

namespace Go.Proofs.YthccpacmklhejabDoor
open Go.RowKit

theorem cell_eight_new (w : World) (a b c d e f g h : Value) (t : TypeId) : ∀ j u, [a, b, c, d, e, f, g, h][j]? = some u → (w.alloc (.cells #[a, b, c, d, e, f, g, h] t)).cell? ((⟨w.heap.size, 0, none⟩ : Addr).add j) = some u := by
  intro j u hj
  match j, hj with
  | 0, hj => simp at hj; subst hj; simp [Addr.add]
  | 1, hj => simp at hj; subst hj; simp [Addr.add]
  | 2, hj => simp at hj; subst hj; simp [Addr.add]
  | 3, hj => simp at hj; subst hj; simp [Addr.add]
  | 4, hj => simp at hj; subst hj; simp [Addr.add]
  | 5, hj => simp at hj; subst hj; simp [Addr.add]
  | 6, hj => simp at hj; subst hj; simp [Addr.add]
  | 7, hj => simp at hj; subst hj; simp [Addr.add]
  | j + 8, hj => simp at hj

set_option maxRecDepth 100000 in
set_option maxHeartbeats 4000000 in
theorem psend_any (B kb o : Nat) (t : TypeId) (cs : Array Value) (a : Option Addr) (c : Nat) (rs : List ItemV) (x : ItemV) (w : World) (hB : B ≤ w.heap.size) (hlen : rs.length ≤ 1000) (hP : PAt B kb (o + 1) t cs a c rs w) :
    Calls Tryd.prog 59 #[.pointer (some ⟨kb, o, none⟩), itV x] w fun en w' => en = .returned (.tuple #[]) ∧ ∃ a' c', PUpd B kb (o + 1) t cs a c rs w a' c' (rs ++ [x]) w' := by
  unfold itV itCells1
  obtain ⟨xb, ⟨xo, xk, xq, xv⟩, xp, xl, xs⟩ := x
  simp only
  have hkl : kb < w.heap.size := hP.bl
  have hgl0 : ∀ g, (Value.slice a rs.length c).ownBlock = some g → g < w.heap.size := fun g hg => (own_ge hP.own g hg).2
  have hslot := hP.slot
  obtain ⟨i0, hi, hz0, hz1, hz2⟩ := info_parts Tryd.infoItem
  have HK := show Hid _ from (hP.alloc (.cells #[.bool xb, .int .u8 (xo : Int), .string xk, .int .u16 (xq : Int), .int .i16 xv, .int .i32 xp, .int .i64 xl, .int .i16 xs] 110)).drew
  have HKf := show Hid _ from ((FrmX.refl (Xs kb a rs.length c) w).alloc (.cells #[.bool xb, .int .u8 (xo : Int), .string xk, .int .u16 (xq : Int), .int .i16 xv, .int .i32 xp, .int .i64 xl, .int .i16 xs] 110)).drew
  have heb : (w.alloc (.cells #[.bool xb, .int .u8 (xo : Int), .string xk, .int .u16 (xq : Int), .int .i16 xv, .int .i32 xp, .int .i64 xl, .int .i16 xs] 110)).drew.heap[w.heap.size]? = some (.cells #[.bool xb, .int .u8 (xo : Int), .string xk, .int .u16 (xq : Int), .int .i16 xv, .int .i32 xp, .int .i64 xl, .int .i16 xs] 110 (0, 0)) := heap_alloc_new w _
  have hsz : w.heap.size < (w.alloc (.cells #[.bool xb, .int .u8 (xo : Int), .string xk, .int .u16 (xq : Int), .int .i16 xv, .int .i32 xp, .int .i64 xl, .int .i16 xs] 110)).drew.heap.size := heap_lt heb
  clear hP
  go_enter Tryd.func59, Tryd.ntmps59
  go_wp2
  refine wp_region_held_drew (S := fun w' : World => w'.heap[w.heap.size]? = some (.cells #[.bool xb, .int .u8 (xo : Int), .string xk, .int .u16 (xq : Int), .int .i16 xv, .int .i32 xp, .int .i64 xl, .int .i16 xs] 110 (0, 0))) (by kernel_rfl) heb (fun hH => ?_)
  generalize (w.alloc (.cells #[.bool xb, .int .u8 (xo : Int), .string xk, .int .u16 (xq : Int), .int .i16 xv, .int .i32 xp, .int .i64 xl, .int .i16 xs] 110)).drew = wd at HK HKf heb hH hsz ⊢
  have hkc := HK.out.cell
  have hkc2 := (HK.out.alloc (.cells #[.bool xb, .int .u8 (xo : Int), .string xk, .int .u16 (xq : Int), .int .i16 xv, .int .i32 xp, .int .i64 xl, .int .i16 xs] 110)).cell
  have heb2 : (wd.alloc (.cells #[.bool xb, .int .u8 (xo : Int), .string xk, .int .u16 (xq : Int), .int .i16 xv, .int .i32 xp, .int .i64 xl, .int .i16 xs] 110)).heap[w.heap.size]? = some (.cells #[.bool xb, .int .u8 (xo : Int), .string xk, .int .u16 (xq : Int), .int .i16 xv, .int .i32 xp, .int .i64 xl, .int .i16 xs] 110 (0, 0)) := (Below.heap_alloc _ _ _ (by have := heap_lt heb; omega)).trans heb
  refine wpAnyH_take (i := 0) (v := (.pointer (some ⟨kb, o, none⟩))) rfl (by kernel_rfl) (by kernel_rfl) (by kernel_rfl) (fun _ _ _ h => h) (Or.inl ⟨by rfl, by intro v hSw; clear hSw; go_simp⟩) hH ?_
  refine wpAnyH_take (i := 1) (v := (.pointer (some ⟨kb, o, none⟩))) rfl (by kernel_rfl) (by kernel_rfl) (by kernel_rfl) (fun _ _ _ h => h) (Or.inl ⟨by rfl, by intro v hSw; clear hSw; go_simp⟩) hH ?_
  refine wpAnyH_take (i := 2) (v := (.pointer (some ⟨kb, o, none⟩))) rfl (by kernel_rfl) (by kernel_rfl) (by kernel_rfl) (fun _ _ _ h => h) (Or.inl ⟨by rfl, by intro v hSw; clear hSw; go_simp⟩) hH ?_
  refine wpAnyH_take (i := 3) (v := (.pointer (some ⟨kb, o + 1, none⟩))) rfl (by kernel_rfl) (by kernel_rfl) (by kernel_rfl) (fun _ _ _ h => h) (Or.inl ⟨by rfl, by intro v hSw; clear hSw; go_simp⟩) hH ?_
  refine wpAnyH_take (i := 5) (v := (.agg #[.bool xb, .int .u8 (xo : Int), .string xk, .int .u16 (xq : Int), .int .i16 xv, .int .i32 xp, .int .i64 xl, .int .i16 xs])) rfl (by kernel_rfl) (by kernel_rfl) (by kernel_rfl) (fun _ _ _ h => h) (Or.inl ⟨by rfl, by intro v hSw; have s0 : v.cell? ⟨w.heap.size, 0, none⟩ = some (.bool xb) := row_cell hSw 0; have s1 : v.cell? ⟨w.heap.size, 1, none⟩ = some (.int .u8 (xo : Int)) := row_cell hSw 1; have s2 : v.cell? ⟨w.heap.size, 2, none⟩ = some (.string xk) := row_cell hSw 2; have s3 : v.cell? ⟨w.heap.size, 3, none⟩ = some (.int .u16 (xq : Int)) := row_cell hSw 3; have s4 : v.cell? ⟨w.heap.size, 4, none⟩ = some (.int .i16 xv) := row_cell hSw 4; have s5 : v.cell? ⟨w.heap.size, 5, none⟩ = some (.int .i32 xp) := row_cell hSw 5; have s6 : v.cell? ⟨w.heap.size, 6, none⟩ = some (.int .i64 xl) := row_cell hSw 6; have s7 : v.cell? ⟨w.heap.size, 7, none⟩ = some (.int .i16 xs) := row_cell hSw 7; clear hSw; go_simp⟩) hH ?_
  refine wpAnyH_ready (rs := [4, 6]) (by kernel_rfl) (by simp) ?_
  refine AllReadyH.cons rfl (fun K hK => ?_) (AllReadyH.cons rfl (fun K hK => ?_) AllReadyH.nil)
  focus
    clear hH
    go_simp
    refine hK.out _ _ heb (fun hH => ?_)
    clear hK K
    refine wpAnyH_ready (rs := [6]) (by kernel_rfl) (by simp) ?_
    refine AllReadyH.cons rfl (fun K hK => ?_) AllReadyH.nil
    clear hH
    go_simp
    refine hK.out _ _ heb2 (fun hH => ?_)
    clear hK K
  rotate_left
  focus
    clear hH
    go_simp
    refine hK.out _ _ heb2 (fun hH => ?_)
    clear hK K
    refine wpAnyH_ready (rs := [4]) (by kernel_rfl) (by simp) ?_
    refine AllReadyH.cons rfl (fun K hK => ?_) AllReadyH.nil
    clear hH
    go_simp
    refine hK.out _ _ heb2 (fun hH => ?_)
    clear hK K
  all_goals
    refine wpAnyH_ready (rs := [7]) (by kernel_rfl) (by simp) ?_
    refine AllReadyH.cons rfl (fun K hK => ?_) AllReadyH.nil
    refine ite_of rfl ?_
    refine wp_append_two _ (.tmp 8) (.tmp 10) 84 rfl B 110 i0 (.agg #[.bool false, .int .u8 0, .string ⟨#[]⟩, .int .u16 0, .int .i16 0, .int .i32 0, .int .i64 0, .int .i16 0]) 8 64 Tryd.underlying84 hi hz0 hz1 hz2 rfl (by decide) (.slice a rs.length c) rs.length (itCells rs) rfl (HK.out.own.alloc _) ⟨wd.heap.size, 0, none⟩ 1 1 (itCells1 ⟨xb, ⟨xo, xk, xq, xv⟩, xp, xl, xs⟩) rfl rfl (by have := cell_eight_new wd (.bool xb) (.int .u8 (xo : Int)) (.string xk) (.int .u16 (xq : Int)) (.int .i16 xv) (.int .i32 xp) (.int .i64 xl) (.int .i16 xs) 110; simpa [itCells1] using this) (it_oneCell _) (by unfold maxLen; omega) (by omega) (by simp; omega) (by decide) ?_
    intro v3 w5 hown3 hfr3
    obtain ⟨a3, c3, rfl⟩ := own_shape hown3
    have hgr := grown_either hfr3
    have HA := show Hid (_ ∧ _) from LAt.put_app (HK.out.alloc (.cells #[.bool xb, .int .u8 (xo : Int), .string xk, .int .u16 (xq : Int), .int .i16 xv, .int .i32 xp, .int .i64 xl, .int .i16 xs] 110)) hown3 rfl hfr3
    have HFr := show Hid _ from HKf.out.alloc (.cells #[.bool xb, .int .u8 (xo : Int), .string xk, .int .u16 (xq : Int), .int .i16 xv, .int .i32 xp, .int .i64 xl, .int .i16 xs] 110)
    have heb5 : w5.heap[w.heap.size]? = some (.cells #[.bool xb, .int .u8 (xo : Int), .string xk, .int .u16 (xq : Int), .int .i16 xv, .int .i32 xp, .int .i64 xl, .int .i16 xs] 110 (0, 0)) := (hgr.block _ (heap_lt heb2) (fun e => by have := hgl0 _ e.symm; omega)).trans heb2
    refine hK.out _ _ heb5 (fun hH => ?_)
    clear hK K hown3 hfr3 hgr HK HKf heb heb2 hkc hkc2
    refine wpAnyH_take (i := 8) (v := (.pointer (some ⟨kb, o, none⟩))) rfl (by kernel_rfl) (by kernel_rfl) (by kernel_rfl) (fun _ _ _ h => h) (Or.inl ⟨by rfl, by intro v hSw; clear hSw; go_simp⟩) hH ?_
    refine wpAnyH_take (i := 9) (v := (.pointer (some ⟨kb, o + 1, none⟩))) rfl (by kernel_rfl) (by kernel_rfl) (by kernel_rfl) (fun _ _ _ h => h) (Or.inl ⟨by rfl, by intro v hSw; clear hSw; go_simp⟩) hH ?_
    refine wpAnyH_ready (rs := [10]) (by kernel_rfl) (by simp) ?_
    refine AllReadyH.cons rfl (fun K hK => ?_) AllReadyH.nil
    clear hH
    have b0 : w5.cell? ⟨kb, o + 1, none⟩ = cs[o + 1]? := row_cell HA.out.1 (o + 1)
    have b0' : w5.cell? ⟨kb, o + 1, none⟩ = some (.slice a rs.length c) := b0.trans hslot
    clear b0
    have z0 : w5.frozen? ⟨kb, o + 1, none⟩ = false := row_frozen HA.out.1 (o + 1)
    go_simp
    have heb6 := (Below.heap_setCell w5 ⟨kb, o + 1, none⟩ (.slice a3 (rs.length + 1) c3) w.heap.size (by simp only; omega)).trans heb5
    refine hK.out _ _ heb6 (fun hH => ?_)
    clear hK K hH b0' z0 heb5
    refine wpAnyH_done (by kernel_rfl) ?_ _
    have HUn := show Hid _ from HA.out.2.from HFr.out
    clear HA HFr heb6
    generalize w5.setCell ⟨kb, o + 1, none⟩ (.slice a3 (rs.length + 1) c3) = w3 at HUn ⊢
    have hec : itCells rs ++ itCells1 ⟨xb, ⟨xo, xk, xq, xv⟩, xp, xl, xs⟩ = itCells (rs ++ [⟨xb, ⟨xo, xk, xq, xv⟩, xp, xl, xs⟩]) := by rw [itCells_append]; simp [itCells]
    rw [hec] at HUn
    have hll : rs.length + 1 = (rs ++ [(⟨xb, ⟨xo, xk, xq, xv⟩, xp, xl, xs⟩ : ItemV)]).length := by simp
    have H0 := show Hid (PUpd B kb (o + 1) t cs a c rs w a3 c3 (rs ++ [(⟨xb, ⟨xo, xk, xq, xv⟩, xp, xl, xs⟩ : ItemV)]) w3) from by unfold PUpd; rw [← hll]; exact HUn.out
    clear HUn hec hll
    go_wp2
    go_end0
    exact ⟨rfl, a3, c3, H0.out⟩

end Go.Proofs.YthccpacmklhejabDoor

namespace Go.Proofs.YthccpacmklhejabDoor
open Go.RowKit

/-- The list, its first places moved up. -/
def upK (xs : List ItemV) (k : Nat) : List ItemV := (xs.drop 1).take k ++ xs.drop k

theorem upK_length (xs : List ItemV) (k : Nat) (h : k + 1 ≤ xs.length) : (upK xs k).length = xs.length := by
  unfold upK
  simp
  omega

theorem upK_at (xs : List ItemV) (k m : Nat) (h : k + 1 ≤ xs.length) : (upK xs k)[m]? = if m < k then xs[m + 1]? else xs[m]? := by
  unfold upK
  have hl : ((xs.drop 1).take k).length = k := by simp; omega
  by_cases c : m < k
  · rw [if_pos c, List.getElem?_append_left (by omega), List.getElem?_take, if_pos c, List.getElem?_drop]
    congr 1
    omega
  · rw [if_neg c, List.getElem?_append_right (by omega), hl, List.getElem?_drop]
    congr 1
    omega

theorem upK_step (xs : List ItemV) (k : Nat) (h : k + 2 ≤ xs.length) (hk : k + 1 < (upK xs k).length) : (upK xs k).set k ((upK xs k)[k + 1]) = upK xs (k + 1) ∧ (upK xs (k + 1))[k + 1]? = some ((upK xs k)[k + 1]) := by
  have h1 : (upK xs k)[k + 1]? = xs[k + 1]? := by rw [upK_at xs k _ (by omega), if_neg (by omega)]
  have h2 : xs[k + 1]? = some ((upK xs k)[k + 1]) := by rw [← h1, List.getElem?_eq_getElem hk]
  refine ⟨?_, by rw [upK_at xs _ _ (by omega), if_neg (by omega), h2]⟩
  apply List.ext_getElem?
  intro m
  rw [List.getElem?_set, upK_length xs k (by omega), upK_at xs k m (by omega), upK_at xs (k + 1) m (by omega)]
  by_cases c : k = m
  · subst c
    rw [if_pos rfl, if_pos (by omega), if_pos (by omega), h2]
  · rw [if_neg c]
    by_cases d : m < k
    · rw [if_pos d, if_pos (by omega)]
    · rw [if_neg d, if_neg (by omega)]

theorem upK_end (xs : List ItemV) (k : Nat) (h : k + 1 = xs.length) : (upK xs k).take k = xs.drop 1 := by
  unfold upK
  have hl : ((xs.drop 1).take k).length = k := by simp; omega
  rw [List.take_append_of_le_length (by omega), List.take_of_length_le (by omega), List.take_of_length_le (by simp; omega)]

theorem own_cut {w : World} {B n g c : Nat} {e : TypeId} {s : Nat} {xs : List Value} (h : w.ownsRow B e s (.slice (some ⟨g, 0, none⟩) (n + 1) c) (n + 1) xs) : w.ownsRow B e s (.slice (some ⟨g, 0, none⟩) n c) n (xs.take (n * s)) := by
  have hl : n * s ≤ (n + 1) * s := Nat.mul_le_mul_right _ (by omega)
  refine ⟨by rw [List.length_take, h.1]; omega, ?_⟩
  rcases h.2 with ⟨h0, _⟩ | ⟨g', cap, cur, e1, e2, e3, e4, e5, e6, e7⟩
  · simp at h0
  · simp only [Value.slice.injEq, Option.some.injEq, Addr.mk.injEq] at e1
    obtain ⟨⟨rfl, _, _⟩, _, rfl⟩ := e1
    refine .inr ⟨g, c, cur, rfl, e2, e3, by omega, e5, e6, ?_⟩
    rw [← e7, List.take_take]
    congr 1
    omega

theorem own_cap' {w : World} {B c n : Nat} {a : Option Addr} {e : TypeId} {s : Nat} {xs : List Value} (h : w.ownsRow B e s (.slice a n c) n xs) : n ≤ c := by
  rcases h.2 with ⟨h0, h1⟩ | ⟨g, cap, cur, h0, _, _, h3, _⟩
  · omega
  · simp at h0
    omega

theorem itCells_take (rs : List ItemV) (n : Nat) (h : n ≤ rs.length) : (itCells rs).take (n * 8) = itCells (rs.take n) := by
  have hs : rs = rs.take n ++ rs.drop n := (List.take_append_drop n rs).symm
  conv => lhs; rw [hs]
  rw [itCells_append, List.take_append_of_le_length (by rw [itCells_length, List.length_take]; omega), List.take_of_length_le (by rw [itCells_length, List.length_take]; omega)]

set_option maxRecDepth 100000 in
set_option maxHeartbeats 1500000 in
theorem ptake_any (B kb o : Nat) (t : TypeId) (cs : Array Value) (a : Option Addr) (c : Nat) (x : ItemV) (rs : List ItemV) (w : World) (hlen : rs.length ≤ 1000) (hP : PAt B kb (o + 1) t cs a c (x :: rs) w) :
    Calls Tryd.prog 63 #[.pointer (some ⟨kb, o, none⟩)] w fun en w' => en = .returned (.tuple #[]) ∧ ∃ a' c', PUpd B kb (o + 1) t cs a c (x :: rs) w a' c' rs w' := by
  rcases own_addr hP.own with ⟨_, h0⟩ | ⟨g, rfl⟩
  · simp at h0
  have hkl : kb < w.heap.size := hP.bl
  have hgk := hP.g_ne
  have hkc : w.cell? ⟨kb, o + 1, none⟩ = some (.slice (some ⟨g, 0, none⟩) (rs.length + 1) c) := hP.cell
  have H0 := show Hid (PUpd B kb (o + 1) t cs (some ⟨g, 0, none⟩) c (x :: rs) w (some ⟨g, 0, none⟩) c (upK (x :: rs) 0) w) from Upd.refl hP
  have hxl : (x :: rs).length = rs.length + 1 := rfl
  clear hP
  have hne : (((rs.length : Int) + 1) == 0) = false := by rw [beq_eq_false_iff_ne]; omega
  generalize hxs : x :: rs = xs at H0 hxl ⊢
  have Hxs := show Hid (xs.drop 1 = rs) from by rw [← hxs]; rfl
  clear hxs
  go_enter Tryd.func63, Tryd.ntmps63
  go_wp2
  clear hkc hne
  go_loopw [2] (fun i wr => ∃ k : Nat, k + 1 ≤ rs.length + 1 ∧ i = .int .i64 ((k : Int) + 1) ∧ PUpd B kb (o + 1) t cs (some ⟨g, 0, none⟩) c xs w (some ⟨g, 0, none⟩) c (upK xs k) wr) (fun i _ => rs.length + 1 - (intOf i).toNat)
  case atStart => exact ⟨0, by omega, rfl, H0.out⟩
  case round =>
    obtain ⟨k, hk, rfl, hU⟩ := hrel
    clear H0
    have hul := upK_length xs k (by omega)
    have hkc : wr.cell? ⟨kb, o + 1, none⟩ = some (.slice (some ⟨g, 0, none⟩) (rs.length + 1) c) := by
      have := hU.at'.cell
      rw [hul, hxl] at this
      exact this
    by_cases hkl2 : k + 1 < rs.length + 1
    · have hki : (k : Int) + 1 < (rs.length : Int) + 1 := by omega
      have hki0 : (0 : Int) ≤ (k : Int) := by omega
      have hki1 : (0 : Int) ≤ (k : Int) + 1 := by omega
      have hki2 : (k : Int) < (rs.length : Int) + 1 := by omega
      have hk1 : k + 1 < (upK xs k).length := by omega
      have hk0 : k < (upK xs k).length := by omega
      obtain ⟨hst, hsame⟩ := upK_step xs k (by omega) hk1
      have HS := show Hid _ from hU.drew
      have hkc' := show wr.drew.cell? ⟨kb, o + 1, none⟩ = _ from hkc
      clear hU
      go_wp2
      obtain ⟨wd, hwd⟩ : ∃ wd, wr.drew = wd := ⟨_, rfl⟩
      rw [hwd] at HS hkc'
      obtain ⟨y0, y1, y2, y3, y4, y5, y6, y7⟩ := it_row HS.out.at' (k + 1) hk1
      have HF := show Hid _ from it_fill (w := wd) HS.out k hk0 ((upK xs k)[k + 1]) _ _ _ _ _ _ _ _ rfl rfl rfl rfl rfl rfl rfl rfl
      rw [hst] at HF
      obtain ⟨y, hy⟩ : ∃ y, (upK xs k)[k + 1] = y := ⟨_, rfl⟩
      rw [hy] at y0 y1 y2 y3 y4 y5 y6 y7 HF hsame
      obtain ⟨u, hu⟩ : ∃ u, (upK xs k)[k] = u := ⟨_, rfl⟩
      rw [hu] at HF
      obtain ⟨yb, ⟨yo, yk, yq, yv⟩, yp, yl, ys⟩ := y
      obtain ⟨ub, ⟨uo, uk, uq, uv⟩, up, ul, us⟩ := u
      simp only at y0 y1 y2 y3 y4 y5 y6 y7 HF
      clear hy hu hst
      have hS0 : wd.cell? ⟨kb, o + 1, none⟩ = some (.slice (some ⟨g, 0, none⟩) (rs.length + 1) c) ∧ wd.cell? ⟨g, (k + 1) * 8, none⟩ = some (.bool yb) ∧ wd.cell? ⟨g, (k + 1) * 8 + 1, none⟩ = some (.int .u8 (yo : Int)) ∧ wd.cell? ⟨g, (k + 1) * 8 + 2, none⟩ = some (.string yk) ∧ wd.cell? ⟨g, (k + 1) * 8 + 3, none⟩ = some (.int .u16 (yq : Int)) ∧ wd.cell? ⟨g, (k + 1) * 8 + 4, none⟩ = some (.int .i16 yv) ∧ wd.cell? ⟨g, (k + 1) * 8 + 5, none⟩ = some (.int .i32 yp) ∧ wd.cell? ⟨g, (k + 1) * 8 + 6, none⟩ = some (.int .i64 yl) ∧ wd.cell? ⟨g, (k + 1) * 8 + 7, none⟩ = some (.int .i16 ys) := ⟨hkc', y0, y1, y2, y3, y4, y5, y6, y7⟩
      clear y0 y1 y2 y3 y4 y5 y6 y7 hkc' hkc
      refine wp_region_held_drew (S := fun w' : World => w'.cell? ⟨kb, o + 1, none⟩ = some (.slice (some ⟨g, 0, none⟩) (rs.length + 1) c) ∧ w'.cell? ⟨g, (k + 1) * 8, none⟩ = some (.bool yb) ∧ w'.cell? ⟨g, (k + 1) * 8 + 1, none⟩ = some (.int .u8 (yo : Int)) ∧ w'.cell? ⟨g, (k + 1) * 8 + 2, none⟩ = some (.string yk) ∧ w'.cell? ⟨g, (k + 1) * 8 + 3, none⟩ = some (.int .u16 (yq : Int)) ∧ w'.cell? ⟨g, (k + 1) * 8 + 4, none⟩ = some (.int .i16 yv) ∧ w'.cell? ⟨g, (k + 1) * 8 + 5, none⟩ = some (.int .i32 yp) ∧ w'.cell? ⟨g, (k + 1) * 8 + 6, none⟩ = some (.int .i64 yl) ∧ w'.cell? ⟨g, (k + 1) * 8 + 7, none⟩ = some (.int .i16 ys)) (by kernel_rfl) (hwd ▸ hS0) (fun hH => ?_)
      rw [hwd] at hH ⊢
      refine wpAnyH_take (i := 0) (v := (.pointer (some ⟨kb, o, none⟩))) rfl (by kernel_rfl) (by kernel_rfl) (by kernel_rfl) (fun _ _ _ h => h) (Or.inl ⟨by rfl, by intro v hSw; clear hSw; go_simp⟩) hH ?_
      refine wpAnyH_take (i := 1) (v := (.pointer (some ⟨kb, o, none⟩))) rfl (by kernel_rfl) (by kernel_rfl) (by kernel_rfl) (fun _ _ _ h => h) (Or.inl ⟨by rfl, by intro v hSw; clear hSw; go_simp⟩) hH ?_
      refine wpAnyH_take (i := 2) (v := (.pointer (some ⟨kb, o + 1, none⟩))) rfl (by kernel_rfl) (by kernel_rfl) (by kernel_rfl) (fun _ _ _ h => h) (Or.inl ⟨by rfl, by intro v hSw; clear hSw; go_simp⟩) hH ?_
      refine wpAnyH_take (i := 3) (v := (.slice (some ⟨g, 0, none⟩) (rs.length + 1) c)) rfl (by kernel_rfl) (by kernel_rfl) (by kernel_rfl) (fun _ _ _ h => h) (Or.inl ⟨by rfl, by intro v hSw; have s0 : v.cell? ⟨kb, o + 1, none⟩ = some (.slice (some ⟨g, 0, none⟩) (rs.length + 1) c) := hSw.1; clear hSw; go_simp⟩) hH ?_
      refine wpAnyH_take (i := 4) (v := (.int .i64 ((k : Int) + 1))) rfl (by kernel_rfl) (by kernel_rfl) (by kernel_rfl) (fun _ _ _ h => h) (Or.inl ⟨by rfl, by intro v hSw; clear hSw; go_simp⟩) hH ?_
      refine wpAnyH_take (i := 5) (v := (.int .i64 (k : Int))) rfl (by kernel_rfl) (by kernel_rfl) (by kernel_rfl) (fun _ _ _ h => h) (Or.inl ⟨by rfl, by intro v hSw; clear hSw; go_simp; first | done | (rw [IntWalk.i64_in _ ⟨by omega, by omega⟩]; first | done | (congr 2; omega))⟩) hH ?_
      refine wpAnyH_take (i := 6) (v := (.pointer (some ⟨kb, o, none⟩))) rfl (by kernel_rfl) (by kernel_rfl) (by kernel_rfl) (fun _ _ _ h => h) (Or.inl ⟨by rfl, by intro v hSw; clear hSw; go_simp⟩) hH ?_
      refine wpAnyH_take (i := 7) (v := (.pointer (some ⟨kb, o, none⟩))) rfl (by kernel_rfl) (by kernel_rfl) (by kernel_rfl) (fun _ _ _ h => h) (Or.inl ⟨by rfl, by intro v hSw; clear hSw; go_simp⟩) hH ?_
      refine wpAnyH_take (i := 8) (v := (.pointer (some ⟨kb, o + 1, none⟩))) rfl (by kernel_rfl) (by kernel_rfl) (by kernel_rfl) (fun _ _ _ h => h) (Or.inl ⟨by rfl, by intro v hSw; clear hSw; go_simp⟩) hH ?_
      refine wpAnyH_take (i := 9) (v := (.slice (some ⟨g, 0, none⟩) (rs.length + 1) c)) rfl (by kernel_rfl) (by kernel_rfl) (by kernel_rfl) (fun _ _ _ h => h) (Or.inl ⟨by rfl, by intro v hSw; have s0 : v.cell? ⟨kb, o + 1, none⟩ = some (.slice (some ⟨g, 0, none⟩) (rs.length + 1) c) := hSw.1; clear hSw; go_simp⟩) hH ?_
      refine wpAnyH_take (i := 10) (v := (.int .i64 ((k : Int) + 1))) rfl (by kernel_rfl) (by kernel_rfl) (by kernel_rfl) (fun _ _ _ h => h) (Or.inl ⟨by rfl, by intro v hSw; clear hSw; go_simp⟩) hH ?_
      refine wpAnyH_take (i := 11) (v := (.pointer (some ⟨g, (k + 1) * 8, none⟩))) rfl (by kernel_rfl) (by kernel_rfl) (by kernel_rfl) (fun _ _ _ h => h) (Or.inl ⟨by rfl, by intro v hSw; clear hSw; go_simp⟩) hH ?_
      refine wpAnyH_take (i := 12) (v := (.agg #[.bool yb, .int .u8 (yo : Int), .string yk, .int .u16 (yq : Int), .int .i16 yv, .int .i32 yp, .int .i64 yl, .int .i16 ys])) rfl (by kernel_rfl) (by kernel_rfl) (by kernel_rfl) (fun _ _ _ h => h) (Or.inl ⟨by rfl, by intro v hSw; have t0 := hSw.2.1; have t1 := hSw.2.2.1; have t2 := hSw.2.2.2.1; have t3 := hSw.2.2.2.2.1; have t4 := hSw.2.2.2.2.2.1; have t5 := hSw.2.2.2.2.2.2.1; have t6 := hSw.2.2.2.2.2.2.2.1; have t7 := hSw.2.2.2.2.2.2.2.2; clear hSw; go_simp⟩) hH ?_
      refine wpAnyH_take (i := 13) (v := (.pointer (some ⟨g, k * 8, none⟩))) rfl (by kernel_rfl) (by kernel_rfl) (by kernel_rfl) (fun _ _ _ h => h) (Or.inl ⟨by rfl, by intro v hSw; clear hSw; go_simp⟩) hH ?_
      refine wpAnyH_ready (rs := [14]) (by kernel_rfl) (by simp) ?_
      refine AllReadyH.cons rfl (fun K hK => ?_) AllReadyH.nil
      have f0 := HF.out.1.1
      have f1 := HF.out.1.2.1
      have f2 := HF.out.1.2.2.1
      have f3 := HF.out.1.2.2.2.1
      have f4 := HF.out.1.2.2.2.2.1
      have f5 := HF.out.1.2.2.2.2.2.1
      have f6 := HF.out.1.2.2.2.2.2.2.1
      have f7 := HF.out.1.2.2.2.2.2.2.2
      have z0 := HF.out.2.1.1
      have z1 := HF.out.2.1.2.1
      have z2 := HF.out.2.1.2.2.1
      have z3 := HF.out.2.1.2.2.2.1
      have z4 := HF.out.2.1.2.2.2.2.1
      have z5 := HF.out.2.1.2.2.2.2.2.1
      have z6 := HF.out.2.1.2.2.2.2.2.2.1
      have z7 := HF.out.2.1.2.2.2.2.2.2.2
      clear hH hS0
      go_simp
      have HF2 := show Hid (_ ∧ _) from HF.out.2.2
      clear HF f0 f1 f2 f3 f4 f5 f6 f7 z0 z1 z2 z3 z4 z5 z6 z7
      have hul2 := upK_length xs (k + 1) (by omega)
      obtain ⟨t0, t1, t2, t3, t4, t5, t6, t7⟩ := it_row HF2.out.1.at' (k + 1) (by omega)
      have hsame' : (upK xs (k + 1))[k + 1]'(by omega) = ⟨yb, ⟨yo, yk, yq, yv⟩, yp, yl, ys⟩ := by
        rw [List.getElem?_eq_getElem (by omega)] at hsame
        exact Option.some.inj hsame
      rw [hsame'] at t0 t1 t2 t3 t4 t5 t6 t7
      have hkb6 := HF2.out.1.at'.cell
      rw [hul2, hxl] at hkb6
      have HK6 := show Hid _ from HF2.out.1
      clear HF2
      refine hK.out _ _ ⟨hkb6, t0, t1, t2, t3, t4, t5, t6, t7⟩ (fun hH => ?_)
      clear hK K hH hkb6 t0 t1 t2 t3 t4 t5 t6 t7 hsame hsame' HS hul2
      refine wpAnyH_done (by kernel_rfl) ?_ _
      generalize ((((((((wd.setCell ⟨g, k * 8, none⟩ (.bool yb)).setCell ⟨g, k * 8 + 1, none⟩ (.int .u8 (yo : Int))).setCell ⟨g, k * 8 + 2, none⟩ (.string yk)).setCell ⟨g, k * 8 + 3, none⟩ (.int .u16 (yq : Int))).setCell ⟨g, k * 8 + 4, none⟩ (.int .i16 yv)).setCell ⟨g, k * 8 + 5, none⟩ (.int .i32 yp)).setCell ⟨g, k * 8 + 6, none⟩ (.int .i64 yl)).setCell ⟨g, k * 8 + 7, none⟩ (.int .i16 ys)) = w7 at HK6 ⊢
      go_wp2
      go_roundw
      case rel => exact ⟨k + 1, by omega, by go_num, HK6.out⟩
      case measure => simp [intOf]; omega
    · have hke : k = rs.length := by omega
      have hki : ¬ (k : Int) + 1 < (rs.length : Int) + 1 := by omega
      have hkc' : wr.drew.cell? ⟨kb, o + 1, none⟩ = some (.slice (some ⟨g, 0, none⟩) (rs.length + 1) c) := hkc
      have hfz : wr.drew.frozen? ⟨kb, o + 1, none⟩ = false := hU.at'.drew.frozen
      have HU := show Hid _ from hU.drew
      clear hU
      go_wp2
      have hr0 : (0 : Int) ≤ (rs.length : Int) := by omega
      have hcap : rs.length + 1 ≤ c := by
        have := own_cap' HU.out.at'.own
        omega
      have hcapi : (rs.length : Int) ≤ (c : Int) := by omega
      refine wp_region_held_drew (S := fun _ : World => True) (by kernel_rfl) trivial (fun hH => ?_)
      generalize wr.drew = wd at HU hkc' hfz hH ⊢
      refine wpAnyH_take (i := 0) (v := (.pointer (some ⟨kb, o, none⟩))) rfl (by kernel_rfl) (by kernel_rfl) (by kernel_rfl) (fun _ _ _ h => h) (Or.inl ⟨by rfl, by intro v hSw; clear hSw; go_simp⟩) hH ?_
      refine wpAnyH_take (i := 1) (v := (.pointer (some ⟨kb, o, none⟩))) rfl (by kernel_rfl) (by kernel_rfl) (by kernel_rfl) (fun _ _ _ h => h) (Or.inl ⟨by rfl, by intro v hSw; clear hSw; go_simp⟩) hH ?_
      refine wpAnyH_take (i := 2) (v := (.pointer (some ⟨kb, o, none⟩))) rfl (by kernel_rfl) (by kernel_rfl) (by kernel_rfl) (fun _ _ _ h => h) (Or.inl ⟨by rfl, by intro v hSw; clear hSw; go_simp⟩) hH ?_
      refine wpAnyH_take (i := 3) (v := (.pointer (some ⟨kb, o + 1, none⟩))) rfl (by kernel_rfl) (by kernel_rfl) (by kernel_rfl) (fun _ _ _ h => h) (Or.inl ⟨by rfl, by intro v hSw; clear hSw; go_simp⟩) hH ?_
      refine wpAnyH_take (i := 5) (v := (.pointer (some ⟨kb, o, none⟩))) rfl (by kernel_rfl) (by kernel_rfl) (by kernel_rfl) (fun _ _ _ h => h) (Or.inl ⟨by rfl, by intro v hSw; clear hSw; go_simp⟩) hH ?_
      refine wpAnyH_take (i := 6) (v := (.pointer (some ⟨kb, o, none⟩))) rfl (by kernel_rfl) (by kernel_rfl) (by kernel_rfl) (fun _ _ _ h => h) (Or.inl ⟨by rfl, by intro v hSw; clear hSw; go_simp⟩) hH ?_
      refine wpAnyH_take (i := 7) (v := (.pointer (some ⟨kb, o + 1, none⟩))) rfl (by kernel_rfl) (by kernel_rfl) (by kernel_rfl) (fun _ _ _ h => h) (Or.inl ⟨by rfl, by intro v hSw; clear hSw; go_simp⟩) hH ?_
      refine wpAnyH_ready (rs := [4, 8]) (by kernel_rfl) (by simp) ?_
      refine AllReadyH.cons rfl (fun K hK => ?_) (AllReadyH.cons rfl (fun K hK => ?_) AllReadyH.nil)
      focus
        clear hH
        go_simp
        refine hK.out _ _ trivial (fun hH => ?_)
        clear hK K
        refine wpAnyH_ready (rs := [8]) (by kernel_rfl) (by simp) ?_
        refine AllReadyH.cons rfl (fun K hK => ?_) AllReadyH.nil
        clear hH
        go_simp
        refine hK.out _ _ trivial (fun hH => ?_)
        clear hK K
        refine wpAnyH_take (i := 9) (v := (.int .i64 (((rs.length + 1 : Nat)) : Int))) rfl (by kernel_rfl) (by kernel_rfl) (by kernel_rfl) (fun _ _ _ h => h) (Or.inl ⟨by rfl, by intro v hSw; clear hSw; go_simp⟩) hH ?_
        refine wpAnyH_take (i := 10) (v := (.int .i64 (rs.length : Int))) rfl (by kernel_rfl) (by kernel_rfl) (by kernel_rfl) (fun _ _ _ h => h) (Or.inl ⟨by rfl, by intro v hSw; clear hSw; go_simp; first | done | (rw [IntWalk.i64_in _ ⟨by omega, by omega⟩]; first | done | (congr 2; omega))⟩) hH ?_
      rotate_left
      focus
        clear hH
        go_simp
        refine hK.out _ _ trivial (fun hH => ?_)
        clear hK K
        refine wpAnyH_take (i := 9) (v := (.int .i64 (((rs.length + 1 : Nat)) : Int))) rfl (by kernel_rfl) (by kernel_rfl) (by kernel_rfl) (fun _ _ _ h => h) (Or.inl ⟨by rfl, by intro v hSw; clear hSw; go_simp⟩) hH ?_
        refine wpAnyH_take (i := 10) (v := (.int .i64 (rs.length : Int))) rfl (by kernel_rfl) (by kernel_rfl) (by kernel_rfl) (fun _ _ _ h => h) (Or.inl ⟨by rfl, by intro v hSw; clear hSw; go_simp; first | done | (rw [IntWalk.i64_in _ ⟨by omega, by omega⟩]; first | done | (congr 2; omega))⟩) hH ?_
        refine wpAnyH_ready (rs := [4]) (by kernel_rfl) (by simp) ?_
        refine AllReadyH.cons rfl (fun K hK => ?_) AllReadyH.nil
        clear hH
        go_simp
        refine hK.out _ _ trivial (fun hH => ?_)
        clear hK K
      all_goals
        refine wpAnyH_take (i := 11) (v := (.slice (some ⟨g, 0, none⟩) rs.length c)) rfl (by kernel_rfl) (by kernel_rfl) (by kernel_rfl) (fun _ _ _ h => h) (Or.inl ⟨by rfl, by intro v hSw; clear hSw; go_simp⟩) hH ?_
        refine wpAnyH_take (i := 12) (v := (.pointer (some ⟨kb, o, none⟩))) rfl (by kernel_rfl) (by kernel_rfl) (by kernel_rfl) (fun _ _ _ h => h) (Or.inl ⟨by rfl, by intro v hSw; clear hSw; go_simp⟩) hH ?_
        refine wpAnyH_take (i := 13) (v := (.pointer (some ⟨kb, o + 1, none⟩))) rfl (by kernel_rfl) (by kernel_rfl) (by kernel_rfl) (fun _ _ _ h => h) (Or.inl ⟨by rfl, by intro v hSw; clear hSw; go_simp⟩) hH ?_
        refine wpAnyH_ready (rs := [14]) (by kernel_rfl) (by simp) ?_
        refine AllReadyH.cons rfl (fun K hK => ?_) AllReadyH.nil
        clear hH
        go_simp
        have hcut := own_cut (n := rs.length) (by
          have := HU.out.at'.own
          rw [hul, hxl] at this
          exact this)
        rw [itCells_take _ _ (by omega), ← hke, upK_end xs k (by omega), Hxs.out, hke] at hcut
        have hput := LAt.put HU.out.at' (a' := some ⟨g, 0, none⟩) (n' := rs.length) (c' := c) hcut ⟨rfl, rfl, rfl, Nat.le_refl _, fun _ _ _ => rfl⟩ (fun _ hg => .inl hg)
        have HFin := show Hid _ from HU.out.trans hput.2
        refine hK.out _ _ trivial (fun hH => ?_)
        clear hK K hH hput hcut HU
        refine wpAnyH_done (by kernel_rfl) ?_ _
        generalize wd.setCell ⟨kb, o + 1, none⟩ (.slice (some ⟨g, 0, none⟩) rs.length c) = w9 at HFin ⊢
        go_wp2
        go_end0
        exact ⟨rfl, some ⟨g, 0, none⟩, c, HFin.out⟩

end Go.Proofs.YthccpacmklhejabDoor

namespace Go.Proofs.YthccpacmklhejabDoor
open Go.RowKit

/-- What lies there. -/
structure CM where
  W : Nat
  R : Nat
  evs : List Ev
  sent : Nat
  sp : Nat → List ItemV
  sk : Nat → List EV
  ap : Nat → Nat → List ItemV
  st : Nat → Nat → Bool
  tb : Nat → List GX
  state : Nat
  off : Nat
  laid : Nat
  ready : List GX
  last : Nat
  view : List GX
  offset : Nat

/-- Blocks that never change their place. -/
structure Fx where
  jb : Nat
  sb : Nat
  ab : Nat
  cS : Nat
  cA : Nat
  ib : Nat → Nat
  cI : Nat → Nat

def updF {α : Type} (f : Nat → α) (i : Nat) (x : α) : Nat → α := fun y => if y = i then x else f y
def updF2 {α : Type} (f : Nat → Nat → α) (i q : Nat) (x : α) : Nat → Nat → α := fun y z => if y = i ∧ z = q then x else f y z
theorem updF_same {α : Type} (f : Nat → α) (i : Nat) (x : α) : updF f i x i = x := if_pos rfl
theorem updF_ne {α : Type} {f : Nat → α} {i y : Nat} {x : α} (h : y ≠ i) : updF f i x y = f y := if_neg h
theorem updF2_same {α : Type} (f : Nat → Nat → α) (i q : Nat) (x : α) : updF2 f i q x i q = x := if_pos ⟨rfl, rfl⟩
theorem updF2_ne {α : Type} {f : Nat → Nat → α} {i q y z : Nat} {x : α} (h : y ≠ i ∨ z ≠ q) : updF2 f i q x y z = f y z := if_neg (by omega)

def Leaf (r : Rw) (ty : TypeId) (sz n : Nat) (xs : List Value) : Prop := r.ty = ty ∧ r.sz = sz ∧ r.n = n ∧ r.xs = xs

def jobXs (m : CM) (v3 v1 v2 v4 v5 : Value) : List Value := [v3, .int .i64 (m.sent : Int), v1, v2, .int .i64 (m.state : Int), .int .i64 (m.off : Int), .int .i64 (m.laid : Int), v4, .int .i64 (m.last : Int), v5, .int .i64 (m.offset : Int)]

structure Spec (L : Nat → Rw) (F : Fx) (m : CM) : Prop where
  w4 : 1 ≤ m.W ∧ m.W ≤ 4
  job : (L 0).ty = 64 ∧ (L 0).v = .slice (some ⟨F.jb, 0, none⟩) 1 1 ∧ (L 0).xs = jobXs m (L 3).v (L 1).v (L 2).v (L 4).v (L 5).v
  sr : (L 1).ty = 92 ∧ (L 1).v = .slice (some ⟨F.sb, 0, none⟩) m.W F.cS ∧ ∀ i, i < m.W → (L 1).xs[i * 3]? = some (.int .i64 (m.R : Int)) ∧ (L 1).xs[i * 3 + 1]? = some (L (10 + i)).v ∧ (L 1).xs[i * 3 + 2]? = some (L (20 + i)).v
  ar : (L 2).ty = 96 ∧ (L 2).v = .slice (some ⟨F.ab, 0, none⟩) m.W F.cA ∧ ∀ i, i < m.W → (L 2).xs[i * 2]? = some (L (30 + i)).v ∧ (L 2).xs[i * 2 + 1]? = some (L (40 + i)).v
  ev : Leaf (L 3) 71 4 m.evs.length (evCells m.evs)
  rd : Leaf (L 4) 100 5 m.ready.length (gCells m.ready)
  vw : Leaf (L 5) 100 5 m.view.length (gCells m.view)
  sp : ∀ i, i < m.W → Leaf (L (10 + i)) 110 8 (m.sp i).length (itCells (m.sp i))
  sk : ∀ i, i < m.W → Leaf (L (20 + i)) 138 4 (m.sk i).length (entCells (m.sk i))
  il : ∀ i, i < m.W → (L (30 + i)).ty = 121 ∧ (L (30 + i)).v = .slice (some ⟨F.ib i, 0, none⟩) m.W (F.cI i) ∧ ∀ q, q < m.W → (L (30 + i)).xs[q * 3]? = some (.int .i64 (m.R : Int)) ∧ (L (30 + i)).xs[q * 3 + 1]? = some (L (100 + 10 * i + q)).v ∧ (L (30 + i)).xs[q * 3 + 2]? = some (.bool (m.st i q))
  tb : ∀ i, i < m.W → Leaf (L (40 + i)) 100 5 (m.tb i).length (gCells (m.tb i))
  ap : ∀ i q, i < m.W → q < m.W → Leaf (L (100 + 10 * i + q)) 110 8 (m.ap i q).length (itCells (m.ap i q))

/-- The job's blocks X, in world w: what lies there is m. -/
def CLX (F : Fx) (X : Nat → Prop) (w : World) (m : CM) : Prop := ∃ L, Lay w L ∧ Spec L F m ∧ X = LX L

/-- What is left behind a call that changes the job alone. -/
def Aft (F : Fx) (X : Nat → Prop) (w : World) (m' : CM) (w' : World) : Prop := ∃ X' : Nat → Prop, CLX F X' w' m' ∧ FrmX X w w' ∧ ∀ g, X' g → X g ∨ w.heap.size ≤ g

section
variable {F : Fx} {X : Nat → Prop} {w w1 w2 : World} {m m1 m2 : CM}

theorem CLX.lt (h : CLX F X w m) : ∀ g, X g → g < w.heap.size := by
  obtain ⟨L, hl, _, rfl⟩ := h
  exact fun g hg => hl.lt hg
theorem CLX.frm {Z : Nat → Prop} (h : CLX F X w m) (hf : FrmX Z w w1) (hz : ∀ g, X g → ¬ Z g) : CLX F X w1 m := by
  obtain ⟨L, hl, hs, rfl⟩ := h
  exact ⟨L, hl.frm hf hz, hs, rfl⟩
theorem CLX.below (h : CLX F X w m) (hb : Below w.heap.size w w1) : CLX F X w1 m := h.frm (FrmX.of_below (X := fun _ => False) hb) fun _ _ h => h
theorem CLX.drewN (h : CLX F X w m) (k : Nat) : CLX F X (w.drewN k) m := by
  obtain ⟨L, hl, hs, rfl⟩ := h
  exact ⟨L, hl.drewN k, hs, rfl⟩
theorem CLX.drew (h : CLX F X w m) : CLX F X w.drew m := by
  obtain ⟨L, hl, hs, rfl⟩ := h
  exact ⟨L, hl.drew, hs, rfl⟩
theorem CLX.w4 (h : CLX F X w m) : 1 ≤ m.W ∧ m.W ≤ 4 := by
  obtain ⟨L, hl, hs, rfl⟩ := h
  exact hs.w4
theorem CLX.aft (h : CLX F X w m) : Aft F X w m w := ⟨X, h, FrmX.refl _ _, fun _ h => .inl h⟩
theorem Aft.below (h : Aft F X w m w1) (hb : Below w1.heap.size w1 w2) : Aft F X w m w2 := by
  obtain ⟨X', h1, h2, h3⟩ := h
  exact ⟨X', h1.below hb, h2.old hb, h3⟩
theorem Aft.drewN (h : Aft F X w m w1) (k : Nat) : Aft F X w m (w1.drewN k) := by
  obtain ⟨X', h1, h2, h3⟩ := h
  exact ⟨X', h1.drewN k, h2.drewN k, h3⟩
theorem Aft.drew (h : Aft F X w m w1) : Aft F X w m w1.drew := by
  obtain ⟨X', h1, h2, h3⟩ := h
  exact ⟨X', h1.drew, h2.drew, h3⟩
theorem Aft.next (h : Aft F X w m1 w1) (k : ∀ X', CLX F X' w1 m1 → Aft F X' w1 m2 w2) : Aft F X w m2 w2 := by
  obtain ⟨X1, h1, h2, h3⟩ := h
  obtain ⟨X2, k1, k2, k3⟩ := k X1 h1
  refine ⟨X2, k1, h2.trans k2 (fun g hg hx => (h3 g hx).resolve_right (by omega)), fun g hg => ?_⟩
  rcases k3 g hg with a | a
  · exact h3 g a
  · exact .inr (Nat.le_trans h2.size a)
theorem Aft.from (h : Aft F X w1 m1 w2) (hb : Below w.heap.size w w1) : Aft F X w m1 w2 := by
  obtain ⟨X', h1, h2, h3⟩ := h
  exact ⟨X', h1, (FrmX.of_below hb).trans h2 fun _ _ h => h, fun g hg => (h3 g hg).imp id (Nat.le_trans hb.size)⟩
theorem Aft.then {X1 : Nat → Prop} (h2 : FrmX X w w1) (h3 : ∀ g, X1 g → X g ∨ w.heap.size ≤ g) (k : Aft F X1 w1 m2 w2) : Aft F X w m2 w2 := by
  obtain ⟨X2, k1, k2, k3⟩ := k
  refine ⟨X2, k1, h2.trans k2 (fun g hg hx => (h3 g hx).resolve_right (by omega)), fun g hg => ?_⟩
  rcases k3 g hg with a | a
  · exact h3 g a
  · exact .inr (Nat.le_trans h2.size a)
/-- The job's own cells. -/
theorem CLX.jobCells (h : CLX F X w m) : ∃ v3 v4 v5, w.cell? ⟨F.jb, 0, none⟩ = some v3 ∧ w.cell? ⟨F.jb, 1, none⟩ = some (.int .i64 (m.sent : Int)) ∧ w.cell? ⟨F.jb, 2, none⟩ = some (.slice (some ⟨F.sb, 0, none⟩) m.W F.cS) ∧ w.cell? ⟨F.jb, 3, none⟩ = some (.slice (some ⟨F.ab, 0, none⟩) m.W F.cA) ∧ w.cell? ⟨F.jb, 4, none⟩ = some (.int .i64 (m.state : Int)) ∧ w.cell? ⟨F.jb, 5, none⟩ = some (.int .i64 (m.off : Int)) ∧ w.cell? ⟨F.jb, 6, none⟩ = some (.int .i64 (m.laid : Int)) ∧ w.cell? ⟨F.jb, 7, none⟩ = some v4 ∧ w.cell? ⟨F.jb, 8, none⟩ = some (.int .i64 (m.last : Int)) ∧ w.cell? ⟨F.jb, 9, none⟩ = some v5 ∧ w.cell? ⟨F.jb, 10, none⟩ = some (.int .i64 (m.offset : Int)) ∧ w.ownsRow 0 71 4 v3 m.evs.length (evCells m.evs) := by
  obtain ⟨L, hl, hs, rfl⟩ := h
  obtain ⟨_, j2, j3⟩ := hs.job
  have key : ∀ o u, (jobXs m (L 3).v (L 1).v (L 2).v (L 4).v (L 5).v)[o]? = some u → w.cell? ⟨F.jb, o, none⟩ = some u := fun o u ho => (hl.at (by rw [j3]; exact ho) j2).1
  have ho := hl.own 3
  rw [hs.ev.1, hs.ev.2.1, hs.ev.2.2.1, hs.ev.2.2.2] at ho
  exact ⟨(L 3).v, (L 4).v, (L 5).v, key 0 _ rfl, key 1 _ rfl, by rw [← hs.sr.2.1]; exact key 2 _ rfl, by rw [← hs.ar.2.1]; exact key 3 _ rfl, key 4 _ rfl, key 5 _ rfl, key 6 _ rfl, key 7 _ rfl, key 8 _ rfl, key 9 _ rfl, key 10 _ rfl, ho⟩

theorem CLX.jobFrozen (h : CLX F X w m) (o : Nat) (ho : o < 11) : w.frozen? ⟨F.jb, o, none⟩ = false := by
  obtain ⟨L, hl, hs, rfl⟩ := h
  obtain ⟨_, j2, j3⟩ := hs.job
  have hlen : o < (L 0).xs.length := by rw [j3]; exact ho
  exact (hl.at (List.getElem?_eq_getElem hlen) j2).2

theorem CLX.rows (h : CLX F X w m) : F.jb < w.heap.size ∧ F.sb < w.heap.size ∧ F.ab < w.heap.size ∧ (∀ i, i < m.W → F.ib i < w.heap.size) := by
  obtain ⟨L, hl, hs, rfl⟩ := h
  refine ⟨hl.lt ⟨0, by rw [hs.job.2.1]; rfl⟩, hl.lt ⟨1, by rw [hs.sr.2.1]; rfl⟩, hl.lt ⟨2, by rw [hs.ar.2.1]; rfl⟩, fun i hi => hl.lt ⟨30 + i, by rw [(hs.il i hi).2.1]; rfl⟩⟩

/-- A sorter's cells. -/
theorem CLX.sorterCells (h : CLX F X w m) (i : Nat) (hi : i < m.W) : w.cell? ⟨F.sb, i * 3, none⟩ = some (.int .i64 (m.R : Int)) ∧ w.frozen? ⟨F.sb, i * 3, none⟩ = false ∧ w.frozen? ⟨F.sb, i * 3 + 1, none⟩ = false ∧ w.frozen? ⟨F.sb, i * 3 + 2, none⟩ = false := by
  obtain ⟨L, hl, hs, rfl⟩ := h
  obtain ⟨s1, s2, s3⟩ := hs.sr.2.2 i hi
  exact ⟨(hl.at s1 hs.sr.2.1).1, (hl.at s1 hs.sr.2.1).2, (hl.at s2 hs.sr.2.1).2, (hl.at s3 hs.sr.2.1).2⟩

/-- An adder's cells. -/
theorem CLX.adderCells (h : CLX F X w m) (i : Nat) (hi : i < m.W) : w.cell? ⟨F.ab, i * 2, none⟩ = some (.slice (some ⟨F.ib i, 0, none⟩) m.W (F.cI i)) ∧ w.frozen? ⟨F.ab, i * 2 + 1, none⟩ = false := by
  obtain ⟨L, hl, hs, rfl⟩ := h
  obtain ⟨s1, s2⟩ := hs.ar.2.2 i hi
  rw [(hs.il i hi).2.1] at s1
  exact ⟨(hl.at s1 hs.ar.2.1).1, (hl.at s2 hs.ar.2.1).2⟩

/-- An inlet's cells. -/
theorem CLX.inletCells (h : CLX F X w m) (i q : Nat) (hi : i < m.W) (hq : q < m.W) : w.cell? ⟨F.ib i, q * 3, none⟩ = some (.int .i64 (m.R : Int)) ∧ w.cell? ⟨F.ib i, q * 3 + 2, none⟩ = some (.bool (m.st i q)) ∧ w.frozen? ⟨F.ib i, q * 3 + 2, none⟩ = false := by
  obtain ⟨L, hl, hs, rfl⟩ := h
  obtain ⟨s1, s2, s3⟩ := (hs.il i hi).2.2 q hq
  exact ⟨(hl.at s1 (hs.il i hi).2.1).1, (hl.at s3 (hs.il i hi).2.1).1, (hl.at s3 (hs.il i hi).2.1).2⟩
end

end Go.Proofs.YthccpacmklhejabDoor
