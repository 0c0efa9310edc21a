/-
  canalref.Fold.
-/
import Derived.Test.YthccpacmklhejaaGreatDoorRefText
import Derived.Test.YthccpacmklhejaaGreatDoorFoldC
namespace Go.Proofs.YthccpacmklhejaaGreatDoor
open Go.RowKit

theorem rows_TB {es : List Ev} (hok : ∀ e ∈ es, e.ok) (hk : ∀ e ∈ es, 0 < e.key.size ∧ e.key.size ≤ 1000) (hl : es.length ≤ 400) : ∀ r ∈ rowsTo es es.length, TB r := by
  intro r hr
  obtain ⟨h1, _, _, h4⟩ := rowsTo_bounds hok hl es.length r hr
  obtain ⟨_, _, hA⟩ := rowsTo_are es es.length (Nat.le_refl _)
  obtain ⟨_, _, _, k, hkm, hg⟩ := hA r hr
  rw [List.take_length] at hkm
  obtain ⟨e, he, rfl⟩ := (mem_keysOf _ _).1 hkm
  refine ⟨by omega, by omega, ?_⟩
  have ht : r.tx = (grp e.key).2 := by rw [hg]
  rw [ht]
  unfold grp
  simp only
  rw [← size_list, extract_list, List.length_take, List.length_drop, size_list]
  have := hk e he
  omega

set_option maxHeartbeats 400000 in
theorem rfold_long (s : ByteArray) (n : Int) (w : World) (h : 400 < s.size) :
    Calls Tryz.prog 20 #[.string s, .int .i64 n] w fun en w' => en = .returned (.tuple #[.string ⟨#[]⟩, .int .i64 1]) ∧ Below w.heap.size w w' := by
  go_enter Tryz.func20, Tryz.ntmps20
  go_wp2_with (go_at_call 34; refine (rdecode_long s _ h).mono ?_; rintro e w1 ⟨rfl, hb⟩)
  go_ret2
  exact ⟨rfl, hb⟩

set_option maxRecDepth 100000 in
set_option maxHeartbeats 1000000 in
theorem rfold_bad (s : ByteArray) (n : Int) (w : World) (h : s.size ≤ 400) (es : List Ev) (m : Nat) (hp : Parsed s es m) (hn : n < 0 ∨ (es.length : Int) < n) :
    Calls Tryz.prog 20 #[.string s, .int .i64 n] w fun en w' => en = .returned (.tuple #[.string ⟨#[]⟩, .int .i64 3]) ∧ Below w.heap.size w w' := by
  have hD := show Hid _ from fun w => rdecode_short s w h
  by_cases h0 : n < 0
  · have h0d : decide (n < 0) = true := decide_eq_true h0
    clear hn
    go_enter Tryz.func20, Tryz.ntmps20
    go_wp2_with (go_at_call 34; refine (hD.out _).mono ?_; rintro e w1 ⟨v, es', m', r, rfl, hP, hown, hb⟩; obtain ⟨rfl, rfl⟩ := Parsed.unique hp hP.out.1; have hr : ((r : Int) == 1) = false := (by rw [hP.out.2]; exact errOf_ne s m); obtain ⟨a, c, rfl⟩ := own_shape hown)
    go_ret2
    exact ⟨rfl, hb⟩
  · have h1 : (es.length : Int) < n := by omega
    clear hn
    go_enter Tryz.func20, Tryz.ntmps20
    go_wp2_with (go_at_call 34; refine (hD.out _).mono ?_; rintro e w1 ⟨v, es', m', r, rfl, hP, hown, hb⟩; obtain ⟨rfl, rfl⟩ := Parsed.unique hp hP.out.1; have hr : ((r : Int) == 1) = false := (by rw [hP.out.2]; exact errOf_ne s m); obtain ⟨a, c, rfl⟩ := own_shape hown)
    go_ret2
    exact ⟨rfl, hb⟩

set_option maxRecDepth 100000 in
set_option maxHeartbeats 1000000 in
theorem rfold_ok (s : ByteArray) (k : Nat) (w : World) (h : s.size ≤ 400) (es : List Ev) (m : Nat) (hp : Parsed s es m) (hk : k ≤ es.length) :
    Calls Tryz.prog 20 #[.string s, .int .i64 (k : Int)] w fun en w' => en = .returned (.tuple #[.string ⟨(foldB (es.take k)).toArray⟩, .int .i64 0]) ∧ Below w.heap.size w w' := by
  have hD := show Hid _ from fun w => rdecode_short s w h
  have h0 : ¬ ((k : Int) < 0) := by omega
  have h1 : ¬ ((es.length : Int) < (k : Int)) := by omega
  have hf := hp.few
  have hg := good_facts hp.good
  have hlk : (es.take k).length = k := by rw [List.length_take]; omega
  have hga : ∀ e ∈ es.take k, e.ok := fun e he => hg.1 e (List.mem_of_mem_take he)
  have hgk : ∀ e ∈ es.take k, 0 < e.key.size ∧ e.key.size ≤ 1000 := fun e he => hg.2.2 e (List.mem_of_mem_take he)
  have hTB := rows_TB hga hgk (by omega)
  have hrl : (rowsTo (es.take k) (es.take k).length).length ≤ 1000 := by
    have := rowsTo_le (es.take k) (es.take k).length
    omega
  have HR : Hid (∀ (a : Option Addr) (c : Nat) (w1 : World), w1.ownsRow w.heap.size 41 4 (.slice a es.length c) es.length (evCells es) → Calls Tryz.prog 42 #[.slice a k c] w1 fun en w' => ∃ (v : Value), en = .returned v ∧ w'.ownsRow w1.heap.size 137 5 v (rowsTo (es.take k) (es.take k).length).length (rowCells (rowsTo (es.take k) (es.take k).length)) ∧ Below w1.heap.size w1 w') := by
    intro a c w1 ho
    have := rows_any a c (es.take k) w1 (by omega) (isEvs_of_own ho hg.1 k hk) hgk
    rw [hlk] at this ⊢
    exact this
  have hfo := placed_fold (es := es.take k) (fun e he => hg.2.1 e (List.mem_of_mem_take he))
  obtain ⟨F, hF⟩ : ∃ F : ByteArray, ⟨(foldB (es.take k)).toArray⟩ = F := ⟨_, rfl⟩
  rw [hF]
  rw [← hfo] at hF
  generalize rowsTo (es.take k) (es.take k).length = rs at HR hTB hrl hF
  have HT : Hid (∀ (B : Nat) (a : Option Addr) (c : Nat) (w : World), w.ownsRow B 137 5 (.slice a rs.length c) rs.length (rowCells rs) → Calls Tryz.prog 41 #[.slice a rs.length c] w fun en w' => en = .returned (.string F) ∧ Below w.heap.size w w') := by
    intro B a c w ho
    have := rtext_any B a c rs w hrl ho hTB
    rw [hF] at this
    exact this
  clear hg hf hfo hF hTB hga hgk hlk hrl
  go_enter Tryz.func20, Tryz.ntmps20
  go_wp2_with (first
    | (go_at_call 34; refine (hD.out _).mono ?_; rintro e w1 ⟨v, es', m', r, rfl, hP, hown, hb⟩; obtain ⟨rfl, rfl⟩ := Parsed.unique hp hP.out.1; have hr : ((r : Int) == 1) = false := (by rw [hP.out.2]; exact errOf_ne s m); obtain ⟨a, c, rfl⟩ := own_shape hown; have hcp := own_cap hown; have hkc : (k : Int) ≤ (c : Int) := (by omega); have hk0 : (0 : Int) ≤ (k : Int) := (by omega); have Ho := show Hid (_ ∧ _) from And.intro hown hb; clear hown hb hP)
    | (go_at_call 42; refine (HR.out a c w1 Ho.out.1).mono ?_; rintro e w2 ⟨v2, rfl, ho2, hb2⟩; obtain ⟨a2, c2, rfl⟩ := own_shape ho2)
    | (go_at_call 41; refine (HT.out _ a2 c2 w2 ho2).mono ?_; rintro e w3 ⟨rfl, hb3⟩))
  all_goals go_ret2
  all_goals exact ⟨rfl, (Ho.out.2.trans (hb2.mono Ho.out.2.size)).trans (hb3.mono (Nat.le_trans Ho.out.2.size hb2.size))⟩
end Go.Proofs.YthccpacmklhejaaGreatDoor
