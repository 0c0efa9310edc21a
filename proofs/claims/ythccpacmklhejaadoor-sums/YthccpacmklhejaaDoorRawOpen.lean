/-
  A list of raw numbers that came in, opened.
-/
import Derived.Test.YthccpacmklhejaaDoorLogs
import Derived.Test.YthccpacmklhejaaDoorOpen
namespace Go.Proofs.YthccpacmklhejaaDoor
open Go.ChangeShapes Go.WideShapes Go.ChangeAt Go.RowKit Go.Deep

theorem Tryd.cellsRaw : Tryd.prog.cellsOf 31 = 4 := by kernel_rfl

def rawCells1 (r : RawV) : List Value := [.bool r.drop, .int .i64 r.key, .int .i64 r.seq, .int .i64 r.val]

theorem raw_of_trod {H : Type} {enc : TypeId × Value → H} {w : World} {base : Nat} {spare : Nat → Bool} {held : Bool} {fuel : Nat} {cs : List Value} {x : DataW H × List MemPlace}
    (h : DataW.trod enc Tryd.prog w base spare held fuel 31 cs = some x) : ∃ e : RawV, e.ok ∧ cs = rawCells1 e := by
  obtain ⟨_, _, _, _, _, _, hl, _⟩ := Joins.trod_struct4 Tryd.underlying31 h
  rw [Tryd.cellsRaw] at hl
  obtain ⟨c0, c1, c2, c3, rfl⟩ := list4 hl
  clear hl
  obtain ⟨y0, y1, y2, y3, n, t0, t1, t2, t3⟩ := trod_four Tryd.underlying31 (by kernel_rfl) h
  obtain ⟨dr, e0, _⟩ := DataW.trod_bool Tryd.underlying4 t0
  obtain ⟨k, e1, _, w1⟩ := DataW.trod_int Tryd.underlying3 t1
  obtain ⟨q, e2, _, w2⟩ := DataW.trod_int Tryd.underlying3 t2
  obtain ⟨v, e3, _, w3⟩ := DataW.trod_int Tryd.underlying3 t3
  simp at e0 e1 e2 e3
  subst e0 e1 e2 e3
  have b1 := bounds_i64 w1
  exact ⟨⟨dr, k, q, v⟩, ⟨b1.1, b1.2⟩, rfl⟩

theorem raws_of_trod {H : Type} {enc : TypeId × Value → H} {w : World} {base : Nat} {spare : Nat → Bool} {held : Bool} {fuel : Nat} {a : Option Addr} {len cap : Nat} {x : DataW H × List MemPlace}
    (h : DataW.trod enc Tryd.prog w base spare held fuel 22 [.slice a len cap] = some x) : ∃ evs : List RawV, evs.length = len ∧ len ≤ maxLen ∧ IsRaws w a evs := by
  rcases Deep.open_slice Tryd.underlying22 h with ⟨hcs, _⟩ | ⟨ad, len', cap', m, n, D, Pl, hcs, hb, hl, hm, hmm, _, hel⟩
  · simp at hcs
    obtain ⟨rfl, rfl, rfl⟩ := hcs
    exact ⟨[], rfl, by decide, ⟨by simp, .inl rfl⟩⟩
  · simp at hcs
    obtain ⟨rfl, rfl, rfl⟩ := hcs
    have hle : len ≤ m := by rw [hmm]; split <;> omega
    have hex : ∀ i, i < len → ∃ e : RawV, e.ok ∧ w.cells? base (ad.add (i * 4)) 4 = some (rawCells1 e) := by
      intro i hi
      obtain ⟨cs', h1, h2⟩ := hel i (by omega)
      rw [Tryd.cellsRaw] at h1
      obtain ⟨e, he, rfl⟩ := raw_of_trod h2
      exact ⟨e, he, h1⟩
    obtain ⟨f, hf⟩ := @Deep.choose_lt RawV ⟨⟨false, 0, 0, 0⟩⟩ len _ hex
    refine ⟨(List.range len).map f, by simp, by omega, ⟨fun e he => ?_, ?_⟩⟩
    · simp at he
      obtain ⟨i, hi, rfl⟩ := he
      exact (hf i hi).1
    · by_cases h0 : len = 0
      · left; subst h0; rfl
      · right
        obtain ⟨b, off, spot⟩ := ad
        have hc0 := (World.cells?_some (hf 0 (by omega)).2).2.2 0 (by decide)
        have hspot : spot = none := by
          have := World.cell?_spot (v := .bool (f 0).drop) (by rw [hc0]; rfl)
          simpa [Addr.add] using this
        subst hspot
        have hblk : b < w.heap.size := by
          have := World.cells?_block (hf 0 (by omega)).2 (by decide)
          simpa [Addr.add] using this
        refine ⟨b, off, rfl, hblk, fun k hk => ?_⟩
        have hk' : k < len := by simpa using hk
        have hc := (World.cells?_some (hf k hk').2).2.2
        have ek : ((List.range len).map f)[k]'hk = f k := by simp
        rw [ek]
        have c0 := hc 0 (by decide)
        have c1 := hc 1 (by decide)
        have c2 := hc 2 (by decide)
        have c3 := hc 3 (by decide)
        simp only [add_plain] at c0 c1 c2 c3
        exact ⟨c0, c1, c2, c3⟩
end Go.Proofs.YthccpacmklhejaaDoor
