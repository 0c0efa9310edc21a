/-
  canallaw.Codes: a script that came in, opened; the row.
-/
import Derived.Test.YthccpacmklhejaaGreatDoorTalks
import Derived.Test.YthccpacmklhejaaGreatDoorOpen
import Derived.SizedLaws
namespace Go.Proofs.YthccpacmklhejaaGreatDoor
open Go.ChangeShapes Go.WideShapes Go.ChangeAt Go.RowKit Go.Deep

theorem Tryz.cellsOp : Tryz.prog.cellsOf 43 = 10 := by kernel_rfl
theorem Tryz.cellsInt : Tryz.prog.cellsOf 3 = 1 := by kernel_rfl
theorem Tryz.cellsCfg : Tryz.prog.cellsOf 26 = 2 := by kernel_rfl
theorem Tryz.bytesOp : Tryz.prog.bytesOf 43 = 88 := by kernel_rfl

theorem list10 {α : Type} : ∀ {l : List α}, l.length = 10 → ∃ a b c d e f g h i j, l = [a, b, c, d, e, f, g, h, i, j]
  | [a, b, c, d, e, f, g, h, i, j], _ => ⟨a, b, c, d, e, f, g, h, i, j, rfl⟩

theorem trod_struct6 {H : Type} {enc : TypeId × Value → H} {P : Program} {w : World} {base : Nat} {spare : Nat → Bool} {held : Bool} {t : TypeId} {f0 f1 f2 f3 f4 f5 : Field} {fuel : Nat} {cs : List Value} {x : DataW H × List MemPlace} (ht : P.underlying t = some (.struct #[f0, f1, f2, f3, f4, f5])) (h : DataW.trod enc P w base spare held fuel t cs = some x) :
    ∃ y0 y1 y2 y3 y4 y5 n, x.1 = .agg [y0.1, y1.1, y2.1, y3.1, y4.1, y5.1] ∧ cs.length = P.cellsOf t ∧ DataW.trod enc P w base spare held n f0.type ((cs.drop f0.offset).take (P.cellsOf f0.type)) = some y0 ∧
      DataW.trod enc P w base spare held n f1.type ((cs.drop f1.offset).take (P.cellsOf f1.type)) = some y1 ∧ DataW.trod enc P w base spare held n f2.type ((cs.drop f2.offset).take (P.cellsOf f2.type)) = some y2 ∧
      DataW.trod enc P w base spare held n f3.type ((cs.drop f3.offset).take (P.cellsOf f3.type)) = some y3 ∧ DataW.trod enc P w base spare held n f4.type ((cs.drop f4.offset).take (P.cellsOf f4.type)) = some y4 ∧ DataW.trod enc P w base spare held n f5.type ((cs.drop f5.offset).take (P.cellsOf f5.type)) = some y5 := by
  obtain ⟨xs, n, _, rfl, hl, hlen, hf⟩ := DataW.trod_struct ht h
  match xs, hlen with
  | [y0, y1, y2, y3, y4, y5], _ => exact ⟨y0, y1, y2, y3, y4, y5, n, by simp, hl, by simpa using hf 0 f0 rfl, by simpa using hf 1 f1 rfl, by simpa using hf 2 f2 rfl, by simpa using hf 3 f3 rfl, by simpa using hf 4 f4 rfl, by simpa using hf 5 f5 rfl⟩

/-- An event's four cells; its key is among what is weighed. -/
theorem ev_weight {H : Type} {enc : TypeId × Value → H} {w : World} {base : Nat} {spare : Nat → Bool} {held : Bool} {fuel : Nat} {c0 c1 c2 c3 : Value} {x : DataW H × List MemPlace}
    (h : DataW.trod enc Tryz.prog w base spare held fuel 41 [c0, c1, c2, c3] = some x) : ∃ e : Ev, e.ok ∧ [c0, c1, c2, c3] = evCells1 e ∧ e.key.size ∈ x.1.weights Tryz.prog 41 := by
  obtain ⟨e, he, hc⟩ := ev_of_trod h
  refine ⟨e, he, hc, ?_⟩
  obtain ⟨z0, z1, z2, z3, m, hx, _⟩ := Joins.trod_struct4 Tryz.underlying41 h
  obtain ⟨y0, y1, y2, y3, n, hx', _, t0, t1, _⟩ := Joins.trod_struct4 Tryz.underlying41 h
  simp only [Tryz.cellsStr, List.drop_succ_cons, List.drop_zero, List.take_succ_cons, List.take_zero] at t1
  obtain ⟨key, e1, hy1, _⟩ := DataW.trod_string Tryz.underlying9 t1
  simp at e1
  simp [evCells1] at hc
  have hk : key = e.key := by
    have := hc.2.1
    rw [e1] at this
    simpa using this
  subst hk
  rw [hx', hy1]
  simp [DataW.weights, DataW.weightsEach, Tryz.underlying41]

theorem op_of_trod {H : Type} {enc : TypeId × Value → H} {w : World} {base : Nat} {spare : Nat → Bool} {held : Bool} {fuel : Nat} {cs : List Value} {x : DataW H × List MemPlace}
    (h : DataW.trod enc Tryz.prog w base spare held fuel 43 cs = some x) : ∃ o : OpV, o.e.ok ∧ cs = o.cells ∧ o.e.key.size ∈ x.1.weights Tryz.prog 43 := by
  obtain ⟨y0, y1, y2, y3, y4, y5, n, hx, hl, t0, t1, t2, t3, t4, t5⟩ := trod_struct6 Tryz.underlying43 h
  rw [Tryz.cellsOp] at hl
  obtain ⟨a0, a1, a2, a3, a4, a5, a6, a7, a8, a9, rfl⟩ := list10 hl
  clear hl h
  simp only [Tryz.cellsInt, Tryz.cellsStr, Tryz.cellsEv, Tryz.cellsCfg, List.drop_succ_cons, List.drop_zero, List.take_succ_cons, List.take_zero] at t0 t1 t2 t3 t4 t5
  obtain ⟨i0, e0, _, _⟩ := DataW.trod_int Tryz.underlying3 t0
  obtain ⟨i1, e1, _, _⟩ := DataW.trod_int Tryz.underlying3 t1
  obtain ⟨i2, e2, _, _⟩ := DataW.trod_int Tryz.underlying3 t2
  obtain ⟨s3, e3, _, _⟩ := DataW.trod_string Tryz.underlying9 t3
  obtain ⟨ev, hev, e4, hw⟩ := ev_weight t4
  obtain ⟨z0, z1, m, _, _, g0, g1⟩ := trod_struct2 Tryz.underlying26 t5
  simp only [Tryz.cellsInt, List.drop_succ_cons, List.drop_zero, List.take_succ_cons, List.take_zero] at g0 g1
  obtain ⟨i8, e8, _, _⟩ := DataW.trod_int Tryz.underlying3 g0
  obtain ⟨i9, e9, _, _⟩ := DataW.trod_int Tryz.underlying3 g1
  simp at e0 e1 e2 e3 e8 e9
  subst e0 e1 e2 e3 e8 e9
  refine ⟨⟨i0, i1, i2, s3, ev, i8, i9⟩, hev, ?_, ?_⟩
  · simp only [evCells1, List.cons.injEq, and_true] at e4
    simp [OpV.cells, e4.1, e4.2.1, e4.2.2.1, e4.2.2.2]
  · rw [hx]
    simp only [DataW.weights, Tryz.underlying43, List.map_cons, List.map_nil, DataW.weightsEach, List.mem_append]
    simp [hw]

theorem weightsAll_mem {H : Type} {P : Program} {e : TypeId} {n : Nat} : ∀ {ds : List (DataW H)} {d : DataW H}, d ∈ ds → n ∈ d.weights P e → n ∈ DataW.weightsAll P e ds
  | x :: r, d, hd, hn => by
    simp only [DataW.weightsAll, List.mem_append]
    rcases List.mem_cons.1 hd with rfl | h
    · exact .inl hn
    · exact .inr (weightsAll_mem h hn)

theorem ops_of_trod {H : Type} {enc : TypeId × Value → H} {w : World} {base : Nat} {spare : Nat → Bool} {held : Bool} {fuel : Nat} {a : Option Addr} {len cap : Nat} {x : DataW H × List MemPlace}
    (h : DataW.trod enc Tryz.prog w base spare held fuel 22 [.slice a len cap] = some x) (hz : ∀ n ∈ x.1.weights Tryz.prog 22, n ≤ reachBytes) : ∃ ops : List OpV, ops.length = len ∧ len ≤ 1600000000000 ∧ IsOps w a ops := by
  have hR := reachBytes_lt
  rcases Deep.open_slice Tryz.underlying22 h with ⟨hcs, _⟩ | ⟨ad, len', cap', m, n, D, Pl, hcs, hb, hl, hm, hmm, hx, hel⟩
  · simp at hcs
    obtain ⟨rfl, rfl, rfl⟩ := hcs
    exact ⟨[], rfl, by decide, ⟨by simp, .inl rfl⟩⟩
  · simp at hcs
    obtain ⟨rfl, rfl, rfl⟩ := hcs
    have hle : len ≤ m := by rw [hmm]; split <;> omega
    have hlen : len ≤ 1600000000000 := by
      have := hz ((((List.range len).map D).length + ((List.range (m - len)).map fun j => D (len + j)).length) * Tryz.prog.bytesOf 43) (by rw [hx]; simp [DataW.weights, Tryz.underlying22])
      rw [Tryz.bytesOp] at this
      simp at this
      omega
    have hex : ∀ i, i < len → ∃ o : OpV, (o.e.ok ∧ o.e.key.size ≤ 9223372036854775800) ∧ w.cells? base (ad.add (i * 10)) 10 = some o.cells := by
      intro i hi
      obtain ⟨cs', h1, h2⟩ := hel i (by omega)
      rw [Tryz.cellsOp] at h1
      obtain ⟨o, ho, rfl, hw⟩ := op_of_trod h2
      refine ⟨o, ⟨ho, ?_⟩, h1⟩
      have := hz o.e.key.size (by
        rw [hx]
        simp only [DataW.weights, Tryz.underlying22, List.mem_cons, List.mem_append]
        right; left
        exact weightsAll_mem (List.mem_map.2 ⟨i, List.mem_range.2 hi, rfl⟩) hw)
      omega
    obtain ⟨f, hf⟩ := @Deep.choose_lt OpV ⟨⟨0, 0, 0, ⟨#[]⟩, evZero, 0, 0⟩⟩ len _ hex
    refine ⟨(List.range len).map f, by simp, hlen, ⟨fun o ho => ?_, ?_⟩⟩
    · simp at ho
      obtain ⟨i, hi, rfl⟩ := ho
      exact (hf i hi).1
    · by_cases h0 : len = 0
      · left; subst h0; rfl
      · right
        obtain ⟨b, off, spot⟩ := ad
        have hc0 := (World.cells?_some (hf 0 (by omega)).2).2.2 0 (by decide)
        have hspot : spot = none := by
          have := World.cell?_spot (v := .int .i64 (f 0).kind) (by rw [hc0]; rfl)
          simpa [Addr.add] using this
        subst hspot
        have hblk : b < w.heap.size := by
          have := World.cells?_block (hf 0 (by omega)).2 (by decide)
          simpa [Addr.add] using this
        refine ⟨b, off, rfl, hblk, fun k hk j hj => ?_⟩
        have hk' : k < len := by simpa using hk
        have hc := (World.cells?_some (hf k hk').2).2.2 j hj
        have ek : ((List.range len).map f)[k]'hk = f k := by simp
        rw [ek]
        simp only [add_plain] at hc
        exact hc
end Go.Proofs.YthccpacmklhejaaGreatDoor
