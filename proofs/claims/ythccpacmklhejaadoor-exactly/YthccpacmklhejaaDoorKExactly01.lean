/-
  Several texts in one.
-/
import Derived.Test.YthccpacmklhejaaDoorK13
import Derived.Test.YthccpacmklhejaaDoorK06
import Derived.Test.YthccpacmklhejaaDoorTie
import Derived.Test.YthccpacmklhejaaDoorCards
import Derived.SevenTiedAt
import Derived.SizedLaws
import Derived.ShutString
import Derived.Test.YthccpacmklhejaaDoorK24
namespace Go.Proofs.YthccpacmklhejaaDoor
open Go.ChangeShapes Go.WideShapes Go.ChangeAt Go.RowKit Go.Deep
open Go.ChangeMaps (open_string shut_string)

set_option maxRecDepth 100000 in
theorem exactly_lifted {CJ : CJT} (I : JobIface CJ) (os : Os) (started : os.Started) (H : Type) (enc : TypeId × Value → H) :
    ReturnsInHanded {} Tryd.checked os 7 .any (fun w args => (Rows.exactlySpec.pre enc Tryd.prog Tryd.f7 [] false w args ∧ laidMetH Tryd.prog Rows.exactlyRow.laid w) ∧ sizedMet enc Tryd.prog Tryd.f7 (OpenSpec.ofChange Rows.exactlySpec) false w args)
      (Rows.exactlySpec.post enc Tryd.prog Tryd.f7 false true false false) := by
  refine returnsInHanded_of_change_and (C := Tryd.checked) (X := fun w _ => laidMetH Tryd.prog Rows.exactlyRow.laid w) (fun _ _ _ hh h => h.of_heap hh) door_own started (by kernel_rfl) Tryd.func7
    (ChangeSpec.witness_shaped (enc := enc) (C := Tryd.checked) (os := os) (X := fun w _ => laidMetH Tryd.prog Rows.exactlyRow.laid w) false (World.doorLaid Tryd.prog 24 os) #[.int .i64 0, .int .i64 0, .slice none 0 0, .string ⟨#[]⟩, .slice none 0 0] 8 rfl (World.shaped_of_RefB (by kernel_rfl) (by kernel_rfl)) (by kernel_rfl) (by kernel_rfl) (by kernel_rfl) (door_met os _)) ?_
  intro W base args ds gs before hval0 hW hcnd hsized hL _
  have hval : ∀ (j : Nat) t v, Tryd.f7.params[j]? = some t → args[j]? = some v → Value.okWide Tryd.prog W .any base t v := hval0
  have hS : (DataW.weightsEach Tryd.prog (Tryd.f7.params.toList ++ Rows.exactlySpec.plain.varTypes Tryd.prog) (ds ++ gs)).all (· ≤ reachBytes) = true := hsized
  have hW' := hW
  obtain ⟨p, q, hA0, hV, rfl, hfz, hnd⟩ := hW
  have hA : DataW.TrodAll enc Tryd.prog W 0 (fun _ => true) true Tryd.f7.params.toList args.toList ds p := hA0
  rw [Tryd.params7] at hA hval hS
  obtain ⟨v0, vs0, d0, ds0, p0, q0, hargs, rfl, rfl, h0, r0⟩ := trodAll_cons hA
  obtain ⟨v1, vs1, d1, ds1, p1, q1, rfl, rfl, rfl, h1, r1⟩ := trodAll_cons r0
  obtain ⟨v2, vs2, d2, ds2, p2, q2, rfl, rfl, rfl, h2, r2⟩ := trodAll_cons r1
  obtain ⟨v3, vs3, d3, ds3, p3, q3, rfl, rfl, rfl, h3, r3⟩ := trodAll_cons r2
  obtain ⟨v4, vs4, d4, ds4, p4, q4, rfl, rfl, rfl, h4, r4⟩ := trodAll_cons r3
  obtain ⟨rfl, rfl, rfl⟩ := trodAll_nil r4
  obtain rfl : args = #[v0, v1, v2, v3, v4] := by cases args; simp_all
  obtain ⟨rfl, rfl⟩ := trodVars_none hV
  obtain ⟨a2, len2, cap2, rfl⟩ := okWide_slice Tryd.underlying22 (hval 2 22 v2 rfl rfl)
  obtain ⟨am, lenm, capm, rfl⟩ := okWide_slice Tryd.underlying42 (hval 4 42 v4 rfl rfl)
  obtain ⟨x0, rfl, rfl, rfl, w0⟩ := open_int Tryd.underlying3 (hval 0 3 v0 rfl rfl) h0
  obtain ⟨x1, rfl, rfl, rfl, w1⟩ := open_int Tryd.underlying3 (hval 1 3 v1 rfl rfl) h1
  obtain ⟨tl, rfl, rfl, rfl, w3⟩ := open_string Tryd.underlying9 (hval 3 9 v3 rfl rfl) h3
  have k2 := h2
  have km := h4
  have lt2 : ∀ x ∈ p2, x.block < W.heap.size := by obtain ⟨m, hm⟩ := k2; exact DataW.trod_lt m _ _ _ hm
  have ltm : ∀ x ∈ p4, x.block < W.heap.size := by obtain ⟨m, hm⟩ := km; exact DataW.trod_lt m _ _ _ hm
  obtain ⟨rs, hl, hmx, hev⟩ : ∃ rs : List RawV, rs.length = len2 ∧ len2 ≤ maxLen ∧ IsRaws W a2 rs := by
    obtain ⟨fuel, hf⟩ := h2
    exact raws_of_trod (by simpa [Value.cells] using hf)
  obtain ⟨ms, hlm, hmm, hmv⟩ : ∃ ms : List MoveV, ms.length = lenm ∧ lenm ≤ 4611686018427387903 ∧ IsMoves W am ms := by
    obtain ⟨fuel, hf⟩ := h4
    refine moves_of_trod (x := (d4, p4)) (by simpa [Value.cells] using hf) fun n hn => ?_
    have := List.all_eq_true.1 hS n (DataW.weights_mem_each (j := 4) (t := 42) (d := d4) rfl rfl n hn)
    simpa using this
  subst hl
  subst hlm
  clear hA0 hval0 hS hsized
  have b0 := bounds_i64 w0
  have b1 := bounds_i64 w1
  refine (exactly_any I x0 x1 a2 cap2 rs tl am capm ms W ⟨b0.1, b0.2⟩ ⟨b1.1, b1.2⟩ (by unfold maxLen at hmx; omega) (by unfold maxLen at w3; omega) hmm hev hmv (door_tab hL)).mono fun e W' ⟨he, bel⟩ => ?_
  subst he
  exact ⟨_, rfl, _, _, _, [], _, [], hW', trodAll_mk1 (shut_bool Tryd.underlying4 _), (trodAll_cons_mk (shut_int Tryd.underlying3 w0) (trodAll_cons_mk (shut_int Tryd.underlying3 w1) (trodAll_cons_mk (Below.trod door_laidOut (by kernel_rfl) (of_decide_eq_true (by kernel_rfl)) k2 bel lt2) (trodAll_cons_mk (shut_string Tryd.underlying9 w3) (trodAll_cons_mk (Below.trod door_laidOut (by kernel_rfl) (of_decide_eq_true (by kernel_rfl)) km bel ltm) trodAll_mk0))))), rfl, bel.frame _, fun h => by cases h⟩

theorem exactly_row {CJ : CJT} (I : JobIface CJ) : Rows.ExactlySaid :=
  OpenClaim.holds_of_wide 7 Tryd.f7 rfl rfl rfl rfl rfl rfl rfl ⟨rfl, rfl, rfl, rfl, rfl⟩ rfl rfl rfl rfl rfl (by kernel_rfl) Tryd.func7 (by kernel_rfl)
    (of_decide_eq_true (by kernel_rfl)) (by unfold Func.isWrapper; first | (rw [if_pos (by decide +kernel)]; kernel_rfl) | (rw [if_neg (by decide +kernel)]; exact ⟨rfl, rfl⟩))
    (fun os started H enc _ => exactly_lifted I os started H enc)

theorem exactly_card {CJ : CJT} (I : JobIface CJ) : Rows.ExactlyCardSaid :=
  Claim7.holds_tied_plain_at .later [] [.data, .data, .data] true Rows.exactlyCard.stood.harness false
    (exactly_row I) (fun _ h => by cases h) (by kernel_rfl) (fun _ h => by cases h) exactly_row_tie rfl ⟨rfl, rfl⟩ (by kernel_rfl) rfl
    (fun f fn hf hfn => by
      obtain rfl : f = 7 := Option.some.inj ((show Tryd.prog.funcNamed Rows.exactlyRow.func = some 7 by kernel_rfl).symm.trans hf) |>.symm
      obtain rfl : fn = Tryd.f7 := (Option.some.inj (Tryd.func7.symm.trans hfn)).symm
      exact ⟨by kernel_rfl, fun j t ht => by
        rw [Tryd.params7] at ht
        have hm : t ∈ [3, 3, 22, 9, 42] := by simpa using Array.mem_of_getElem? ht
        have hall : ([3, 3, 22, 9, 42].all fun u => !Tryd.prog.wantsStandIn u) = true := by kernel_rfl
        exact (show Tryd.prog.wantsStandIn t = false by simpa using List.all_eq_true.1 hall t hm)⟩)
    (by kernel_rfl)

end Go.Proofs.YthccpacmklhejaaDoor

namespace Go.Proofs.YthccpacmklhejaaDoor

theorem exactly_holds : Rows.ExactlyCardSaid := exactly_card job_iface
#print axioms exactly_holds
end Go.Proofs.YthccpacmklhejaaDoor
