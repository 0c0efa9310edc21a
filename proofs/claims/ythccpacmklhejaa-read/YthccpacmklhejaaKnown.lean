/-
  canalkeep.known.
-/
import Derived.Test.YthccpacmklhejaaCDec
namespace Go.Proofs.Ythccpacmklhejaa
open Go.RowKit

def evA : Ev := ⟨1, ⟨#[97]⟩, 1, 5⟩
theorem evA_refuse : refuse evA = 0 := by decide +kernel
theorem evA_rec : recB evA = [1, 1, 97, 0, 1, 0, 5, 105] := by decide +kernel
theorem evA_enc : encStr evA = ⟨#[1, 1, 97, 0, 1, 0, 5, 105]⟩ := by
  unfold encStr
  rw [if_pos evA_refuse, evA_rec]
def nine : ByteArray := ⟨#[1, 1, 97, 0, 1, 0, 5, 105, 0]⟩
theorem nine_parsed : Parsed nine [evA] 8 := by
  refine ⟨?_, ?_, by decide, ?_⟩
  · intro e he
    simp at he
    subst he
    exact ⟨evA_refuse, by unfold Ev.ok evA; decide⟩
  · rw [recs_one, evA_rec]; rfl
  · right
    decide +kernel

set_option maxHeartbeats 1000000 in
theorem known_any (w : World) :
    Calls Try.prog 6 #[] w fun en w' => en = .returned (.bool true) ∧ Below w.heap.size w w' := by
  have hE := show Hid _ from fun w => cencode_any evA w (by decide)
  rw [evA_enc, evA_refuse] at hE
  unfold evA Ev.value at hE
  simp only at hE
  have hD := show Hid (∀ w, Calls Try.prog 9 #[.string ⟨#[1, 1, 97, 0, 1, 0, 5, 105, 0]⟩] w fun en w' => ∃ (g cap : Nat), en = .returned (.tuple #[.slice (some ⟨g, 0, none⟩) 1 cap, .int .i64 8, .int .i64 6]) ∧ (w'.cell? ⟨g, 0, none⟩ = some (.int .u8 1) ∧ w'.cell? ⟨g, 1, none⟩ = some (.string ⟨#[97]⟩) ∧ w'.cell? ⟨g, 2, none⟩ = some (.int .u16 1) ∧ w'.cell? ⟨g, 3, none⟩ = some (.int .i16 5)) ∧ Below w.heap.size w w') from by
    intro w
    refine (cdecode_short nine w (by decide)).mono ?_
    rintro e w1 ⟨v, es, n, r, rfl, hP, hown, hb⟩
    obtain ⟨hp, hr⟩ := hP.out
    obtain ⟨rfl, rfl⟩ := hp.unique nine_parsed
    have hr6 : r = 6 := by rw [hr]; decide
    subst hr6
    obtain ⟨g, cap, rfl⟩ := own_slice hown (by decide)
    exact ⟨g, cap, rfl, ⟨hown.cellAt 0 (by decide), hown.cellAt 1 (by decide), hown.cellAt 2 (by decide), hown.cellAt 3 (by decide)⟩, hb⟩
  go_enter Try.func6, Try.ntmps6
  go_wp2_with (first | (go_at_call 7; refine (hE.out _).mono ?_; rintro e w1 ⟨rfl, hb⟩) | (go_at_call 9; refine (hD.out _).mono ?_; rintro e w2 ⟨g, cap, rfl, ⟨k0, k1, k2, k3⟩, hb2⟩))
  go_ret
  exact ⟨rfl, hb.trans (hb2.mono hb.size)⟩
end Go.Proofs.Ythccpacmklhejaa
