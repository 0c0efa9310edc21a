/-
  canallaw.Codes: a script that came in, opened; the row.
-/
import Derived.Test.YthlcmaagjpdimaaTalks
import Derived.Test.YthlcmaagjpdimaaOpen
import Derived.SizedLaws
namespace Go.Proofs.Ythlcmaagjpdimaa
open Go.ChangeShapes Go.WideShapes Go.ChangeAt Go.RowKit Go.Deep

theorem Try.cellsOp : Try.prog.cellsOf 53 = 10 := by kernel_rfl
theorem Try.cellsInt : Try.prog.cellsOf 3 = 1 := by kernel_rfl
theorem Try.cellsCfg : Try.prog.cellsOf 51 = 2 := by kernel_rfl
theorem Try.bytesOp : Try.prog.bytesOf 53 = 88 := by kernel_rfl

theorem list10 {α : Type} : ∀ {l : List α}, l.length = 10 → ∃ a b c d e f g h i j, l = [a, b, c, d, e, f, g, h, i, j]
  | [a, b, c, d, e, f, g, h, i, j], _ => ⟨a, b, c, d, e, f, g, h, i, j, rfl⟩

theorem trod_struct6 {H : Type} {enc : TypeId × Value → H} {P : Program} {w : World} {base : Nat} {spare : Nat → Bool} {held : Bool} {t : TypeId} {f0 f1 f2 f3 f4 f5 : Field} {fuel : Nat} {cs : List Value} {x : DataW H × List MemPlace} (ht : P.underlying t = some (.struct #[f0, f1, f2, f3, f4, f5])) (h : DataW.trod enc P w base spare held fuel t cs = some x) :
    ∃ y0 y1 y2 y3 y4 y5 n, x.1 = .agg [y0.1, y1.1, y2.1, y3.1, y4.1, y5.1] ∧ cs.length = P.cellsOf t ∧ DataW.trod enc P w base spare held n f0.type ((cs.drop f0.offset).take (P.cellsOf f0.type)) = some y0 ∧
      DataW.trod enc P w base spare held n f1.type ((cs.drop f1.offset).take (P.cellsOf f1.type)) = some y1 ∧ DataW.trod enc P w base spare held n f2.type ((cs.drop f2.offset).take (P.cellsOf f2.type)) = some y2 ∧
      DataW.trod enc P w base spare held n f3.type ((cs.drop f3.offset).take (P.cellsOf f3.type)) = some y3 ∧ DataW.trod enc P w base spare held n f4.type ((cs.drop f4.offset).take (P.cellsOf f4.type)) = some y4 ∧ DataW.trod enc P w base spare held n f5.type ((cs.drop f5.offset).take (P.cellsOf f5.type)) = some y5 := by
  obtain ⟨xs, n, _, rfl, hl, hlen, hf⟩ := DataW.trod_struct ht h
  match xs, hlen with
  | [y0, y1, y2, y3, y4, y5], _ => exact ⟨y0, y1, y2, y3, y4, y5, n, by simp, hl, by simpa using hf 0 f0 rfl, by simpa using hf 1 f1 rfl, by simpa using hf 2 f2 rfl, by simpa using hf 3 f3 rfl, by simpa using hf 4 f4 rfl, by simpa using hf 5 f5 rfl⟩

/-- An event's four cells; its key is among what is weighed. -/
theorem ev_weight {H : Type} {enc : TypeId × Value → H} {w : World} {base : Nat} {spare : Nat → Bool} {held : Bool} {fuel : Nat} {c0 c1 c2 c3 : Value} {x : DataW H × List MemPlace}
    (h : DataW.trod enc Try.prog w base spare held fuel 33 [c0, c1, c2, c3] = some x) : ∃ e : Ev, e.ok ∧ [c0, c1, c2, c3] = evCells1 e ∧ e.key.size ∈ x.1.weights Try.prog 33 := by
  obtain ⟨e, he, hc⟩ := ev_of_trod h
  refine ⟨e, he, hc, ?_⟩
  obtain ⟨z0, z1, z2, z3, m, hx, _⟩ := Joins.trod_struct4 Try.underlying33 h
  obtain ⟨y0, y1, y2, y3, n, hx', _, t0, t1, _⟩ := Joins.trod_struct4 Try.underlying33 h
  simp only [Try.cellsStr, List.drop_succ_cons, List.drop_zero, List.take_succ_cons, List.take_zero] at t1
  obtain ⟨key, e1, hy1, _⟩ := DataW.trod_string Try.underlying9 t1
  simp at e1
  simp [evCells1] at hc
  have hk : key = e.key := by
    have := hc.2.1
    rw [e1] at this
    simpa using this
  subst hk
  rw [hx', hy1]
  simp [DataW.weights, DataW.weightsEach, Try.underlying33]

theorem op_of_trod {H : Type} {enc : TypeId × Value → H} {w : World} {base : Nat} {spare : Nat → Bool} {held : Bool} {fuel : Nat} {cs : List Value} {x : DataW H × List MemPlace}
    (h : DataW.trod enc Try.prog w base spare held fuel 53 cs = some x) : ∃ o : OpV, o.e.ok ∧ cs = o.cells ∧ o.e.key.size ∈ x.1.weights Try.prog 53 := by
  obtain ⟨y0, y1, y2, y3, y4, y5, n, hx, hl, t0, t1, t2, t3, t4, t5⟩ := trod_struct6 Try.underlying53 h
  rw [Try.cellsOp] at hl
  obtain ⟨a0, a1, a2, a3, a4, a5, a6, a7, a8, a9, rfl⟩ := list10 hl
  clear hl h
  simp only [Try.cellsInt, Try.cellsStr, Try.cellsEv, Try.cellsCfg, List.drop_succ_cons, List.drop_zero, List.take_succ_cons, List.take_zero] at t0 t1 t2 t3 t4 t5
  obtain ⟨i0, e0, _, _⟩ := DataW.trod_int Try.underlying3 t0
  obtain ⟨i1, e1, _, _⟩ := DataW.trod_int Try.underlying3 t1
  obtain ⟨i2, e2, _, _⟩ := DataW.trod_int Try.underlying3 t2
  obtain ⟨s3, e3, _, _⟩ := DataW.trod_string Try.underlying9 t3
  obtain ⟨ev, hev, e4, hw⟩ := ev_weight t4
  obtain ⟨z0, z1, m, _, _, g0, g1⟩ := trod_struct2 Try.underlying51 t5
  simp only [Try.cellsInt, List.drop_succ_cons, List.drop_zero, List.take_succ_cons, List.take_zero] at g0 g1
  obtain ⟨i8, e8, _, _⟩ := DataW.trod_int Try.underlying3 g0
  obtain ⟨i9, e9, _, _⟩ := DataW.trod_int Try.underlying3 g1
  simp at e0 e1 e2 e3 e8 e9
  subst e0 e1 e2 e3 e8 e9
  refine ⟨⟨i0, i1, i2, s3, ev, i8, i9⟩, hev, ?_, ?_⟩
  · simp only [evCells1, List.cons.injEq, and_true] at e4
    simp [OpV.cells, e4.1, e4.2.1, e4.2.2.1, e4.2.2.2]
  · rw [hx]
    simp only [DataW.weights, Try.underlying53, List.map_cons, List.map_nil, DataW.weightsEach, List.mem_append]
    simp [hw]

theorem weightsAll_mem {H : Type} {P : Program} {e : TypeId} {n : Nat} : ∀ {ds : List (DataW H)} {d : DataW H}, d ∈ ds → n ∈ d.weights P e → n ∈ DataW.weightsAll P e ds
  | x :: r, d, hd, hn => by
    simp only [DataW.weightsAll, List.mem_append]
    rcases List.mem_cons.1 hd with rfl | h
    · exact .inl hn
    · exact .inr (weightsAll_mem h hn)

theorem ops_of_trod {H : Type} {enc : TypeId × Value → H} {w : World} {base : Nat} {spare : Nat → Bool} {held : Bool} {fuel : Nat} {a : Option Addr} {len cap : Nat} {x : DataW H × List MemPlace}
    (h : DataW.trod enc Try.prog w base spare held fuel 22 [.slice a len cap] = some x) (hz : ∀ n ∈ x.1.weights Try.prog 22, n ≤ reachBytes) : ∃ ops : List OpV, ops.length = len ∧ len ≤ 1600000000000 ∧ IsOps w a ops := by
  have hR := reachBytes_lt
  rcases Deep.open_slice Try.underlying22 h with ⟨hcs, _⟩ | ⟨ad, len', cap', m, n, D, Pl, hcs, hb, hl, hm, hmm, hx, hel⟩
  · simp at hcs
    obtain ⟨rfl, rfl, rfl⟩ := hcs
    exact ⟨[], rfl, by decide, ⟨by simp, .inl rfl⟩⟩
  · simp at hcs
    obtain ⟨rfl, rfl, rfl⟩ := hcs
    have hle : len ≤ m := by rw [hmm]; split <;> omega
    have hlen : len ≤ 1600000000000 := by
      have := hz ((((List.range len).map D).length + ((List.range (m - len)).map fun j => D (len + j)).length) * Try.prog.bytesOf 53) (by rw [hx]; simp [DataW.weights, Try.underlying22])
      rw [Try.bytesOp] at this
      simp at this
      omega
    have hex : ∀ i, i < len → ∃ o : OpV, (o.e.ok ∧ o.e.key.size ≤ 9223372036854775800) ∧ w.cells? base (ad.add (i * 10)) 10 = some o.cells := by
      intro i hi
      obtain ⟨cs', h1, h2⟩ := hel i (by omega)
      rw [Try.cellsOp] at h1
      obtain ⟨o, ho, rfl, hw⟩ := op_of_trod h2
      refine ⟨o, ⟨ho, ?_⟩, h1⟩
      have := hz o.e.key.size (by
        rw [hx]
        simp only [DataW.weights, Try.underlying22, List.mem_cons, List.mem_append]
        right; left
        exact weightsAll_mem (List.mem_map.2 ⟨i, List.mem_range.2 hi, rfl⟩) hw)
      omega
    obtain ⟨f, hf⟩ := @Deep.choose_lt OpV ⟨⟨0, 0, 0, ⟨#[]⟩, evZero, 0, 0⟩⟩ len _ hex
    refine ⟨(List.range len).map f, by simp, hlen, ⟨fun o ho => ?_, ?_⟩⟩
    · simp at ho
      obtain ⟨i, hi, rfl⟩ := ho
      exact (hf i hi).1
    · by_cases h0 : len = 0
      · left; subst h0; rfl
      · right
        obtain ⟨b, off, spot⟩ := ad
        have hc0 := (World.cells?_some (hf 0 (by omega)).2).2.2 0 (by decide)
        have hspot : spot = none := by
          have := World.cell?_spot (v := .int .i64 (f 0).kind) (by rw [hc0]; rfl)
          simpa [Addr.add] using this
        subst hspot
        have hblk : b < w.heap.size := by
          have := World.cells?_block (hf 0 (by omega)).2 (by decide)
          simpa [Addr.add] using this
        refine ⟨b, off, rfl, hblk, fun k hk j hj => ?_⟩
        have hk' : k < len := by simpa using hk
        have hc := (World.cells?_some (hf k hk').2).2.2 j hj
        have ek : ((List.range len).map f)[k]'hk = f k := by simp
        rw [ek]
        simp only [add_plain] at hc
        exact hc

theorem codes_own : ownKnob Try.prog.godebug = none := by kernel_rfl
theorem codes_laid : laidOutB Try.prog = true := by kernel_rfl

set_option maxRecDepth 100000 in
theorem codes_lifted (os : Os) (started : os.Started) (H : Type) (enc : TypeId × Value → H) :
    ReturnsInHanded {} Try.checked os 3 .any (Rows.codesSpec.pre6 enc Try.prog Try.f3 Rows.codesRow.domain false) (Rows.codesSpec.post enc Try.prog Try.f3 false true false false) := by
  refine returnsInHanded_of_change_sized (C := Try.checked) codes_own started (by kernel_rfl) Try.func3
    (ChangeSpec.witness6 (enc := enc) (C := Try.checked) false ⟨#[], #[.slice none 0 0], []⟩ 8 (by kernel_rfl) (by kernel_rfl) (by kernel_rfl) (by kernel_rfl)) ?_
  intro W base args ds gs before hval0 hW hcnd hsized _
  have hval : ∀ (j : Nat) t v, Try.f3.params[j]? = some t → args[j]? = some v → Value.okWide Try.prog W .any base t v := hval0
  have hS : (DataW.weightsEach Try.prog (Try.f3.params.toList ++ Rows.codesSpec.plain.varTypes Try.prog) (ds ++ gs)).all (· ≤ reachBytes) = true := hsized
  have hW' := hW
  obtain ⟨p, q, hA0, hV, rfl, hfz, hnd⟩ := hW
  have hA : DataW.TrodAll enc Try.prog W 0 (fun _ => true) true Try.f3.params.toList args.toList ds p := hA0
  rw [Try.params3] at hA hval hS
  obtain ⟨v0, vs0, d0, ds0, p0, q0, hargs, rfl, rfl, h0, r0⟩ := trodAll_cons hA
  obtain ⟨rfl, rfl, rfl⟩ := trodAll_nil r0
  obtain rfl : args = #[v0] := by cases args; simp_all
  obtain ⟨rfl, rfl⟩ := trodVars_none hV
  obtain ⟨a0, len0, cap0, rfl⟩ := okWide_slice Try.underlying22 (hval 0 22 v0 rfl rfl)
  have k0 := h0
  have lt0 : ∀ x ∈ p0, x.block < W.heap.size := by obtain ⟨m, hm⟩ := k0; exact DataW.trod_lt m _ _ _ hm
  obtain ⟨ops, hl, hmx, hev⟩ : ∃ ops : List OpV, ops.length = len0 ∧ len0 ≤ 1600000000000 ∧ IsOps W a0 ops := by
    obtain ⟨fuel, hf⟩ := h0
    refine ops_of_trod (x := (d0, p0)) (by simpa [Value.cells] using hf) fun n hn => ?_
    have := List.all_eq_true.1 hS n (DataW.weights_mem_each (j := 0) (t := 22) (d := d0) rfl rfl n hn)
    simpa using this
  subst hl
  clear hA0 hval0
  refine (codes_any a0 cap0 ops W hmx hev).mono fun e W' ⟨he, bel⟩ => ?_
  subst he
  exact ⟨_, rfl, _, _, _, [], _, [], hW', trodAll_mk1 (shut_bool Try.underlying4 _), (trodAll_cons_mk (Below.trod codes_laid (by kernel_rfl) (of_decide_eq_true (by kernel_rfl)) k0 bel lt0) trodAll_mk0), rfl, bel.frame _, fun h => by cases h⟩

theorem codes_over : Rows.codesRow.holds Try.pinned (OpenSpec.ofChange Rows.codesSpec) :=
  OpenClaim.holds_of_wide 3 Try.f3 rfl rfl rfl rfl rfl rfl rfl ⟨rfl, rfl, rfl, rfl, rfl⟩ rfl rfl rfl rfl rfl (by kernel_rfl) Try.func3 (by kernel_rfl)
    (of_decide_eq_true (by kernel_rfl)) (by unfold Func.isWrapper; first | (rw [if_pos (by decide +kernel)]; kernel_rfl) | (rw [if_neg (by decide +kernel)]; exact ⟨rfl, rfl⟩))
    (fun os started H enc _ => codes_lifted os started H enc)

theorem codes_holds : Rows.CodesSaid := codes_over
#print axioms codes_holds
end Go.Proofs.Ythlcmaagjpdimaa
