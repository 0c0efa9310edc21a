/-
  A list of events that came in, opened.
-/
import Derived.Test.YthccpacmklhejaaGreatDoorBase
import Derived.ProofKit
import Derived.OpenShut
import Derived.ShutString
import Derived.ChangeOld
import Derived.Below
import Derived.Deep.Slices
import Derived.Lib.SmallJoins
namespace Go.Proofs.YthccpacmklhejaaGreatDoor
open Go.ChangeShapes Go.WideShapes Go.ChangeAt Go.RowKit Go.Deep

theorem Tryz.cellsEv : Tryz.prog.cellsOf 41 = 4 := by kernel_rfl
theorem Tryz.cellsU8 : Tryz.prog.cellsOf 5 = 1 := by kernel_rfl
theorem Tryz.cellsStr : Tryz.prog.cellsOf 9 = 1 := by kernel_rfl
theorem Tryz.cellsU16 : Tryz.prog.cellsOf 38 = 1 := by kernel_rfl
theorem Tryz.cellsI16 : Tryz.prog.cellsOf 39 = 1 := by kernel_rfl

theorem list4 {α : Type} : ∀ {l : List α}, l.length = 4 → ∃ a b c d, l = [a, b, c, d]
  | [a, b, c, d], _ => ⟨a, b, c, d, rfl⟩

theorem trod_four {H : Type} {enc : TypeId × Value → H} {P : Program} {w : World} {base : Nat} {spare : Nat → Bool} {held : Bool} {fuel : Nat} {t : TypeId} {f0 f1 f2 f3 : Field} {c0 c1 c2 c3 : Value} {x : DataW H × List MemPlace}
    (hs : P.underlying t = some (.struct #[f0, f1, f2, f3])) (hone : oneCellFields P #[f0, f1, f2, f3] = true) (h : DataW.trod enc P w base spare held fuel t [c0, c1, c2, c3] = some x) :
    ∃ y0 y1 y2 y3 n, DataW.trod enc P w base spare held n f0.type [c0] = some y0 ∧ DataW.trod enc P w base spare held n f1.type [c1] = some y1 ∧ DataW.trod enc P w base spare held n f2.type [c2] = some y2 ∧ DataW.trod enc P w base spare held n f3.type [c3] = some y3 := by
  obtain ⟨y0, y1, y2, y3, n, _, _, h0, h1, h2, h3⟩ := Joins.trod_struct4 hs h
  obtain ⟨o0, k0⟩ := hone_of hone 0 f0 rfl
  obtain ⟨o1, k1⟩ := hone_of hone 1 f1 rfl
  obtain ⟨o2, k2⟩ := hone_of hone 2 f2 rfl
  obtain ⟨o3, k3⟩ := hone_of hone 3 f3 rfl
  exact ⟨y0, y1, y2, y3, n, by simpa [o0, k0] using h0, by simpa [o1, k1] using h1, by simpa [o2, k2] using h2, by simpa [o3, k3] using h3⟩

/-- An event's four cells. -/
theorem ev_of_trod {H : Type} {enc : TypeId × Value → H} {w : World} {base : Nat} {spare : Nat → Bool} {held : Bool} {fuel : Nat} {cs : List Value} {x : DataW H × List MemPlace}
    (h : DataW.trod enc Tryz.prog w base spare held fuel 41 cs = some x) : ∃ e : Ev, e.ok ∧ cs = evCells1 e := by
  obtain ⟨_, _, _, _, _, _, hl, _⟩ := Joins.trod_struct4 Tryz.underlying41 h
  rw [Tryz.cellsEv] at hl
  obtain ⟨c0, c1, c2, c3, rfl⟩ := list4 hl
  clear hl
  obtain ⟨y0, y1, y2, y3, n, t0, t1, t2, t3⟩ := trod_four Tryz.underlying41 (by kernel_rfl) h
  obtain ⟨op, e0, _, w0⟩ := DataW.trod_int Tryz.underlying5 t0
  obtain ⟨key, e1, _, _⟩ := DataW.trod_string Tryz.underlying9 t1
  obtain ⟨seq, e2, _, w2⟩ := DataW.trod_int Tryz.underlying38 t2
  obtain ⟨val, e3, _, w3⟩ := DataW.trod_int Tryz.underlying39 t3
  simp at e0 e1 e2 e3
  subst e0 e1 e2 e3
  have b0 := bounds_u8 w0
  have b2 := bounds_u16 w2
  have b3 := bounds_i16 w3
  refine ⟨⟨op.toNat, key, seq.toNat, val⟩, ⟨by simp only; omega, by simp only; omega, b3.1, b3.2⟩, ?_⟩
  simp only [evCells1]
  rw [show ((op.toNat : Nat) : Int) = op from by omega, show ((seq.toNat : Nat) : Int) = seq from by omega]

theorem evs_of_trod {H : Type} {enc : TypeId × Value → H} {w : World} {base : Nat} {spare : Nat → Bool} {held : Bool} {fuel : Nat} {a : Option Addr} {len cap : Nat} {x : DataW H × List MemPlace}
    (h : DataW.trod enc Tryz.prog w base spare held fuel 35 [.slice a len cap] = some x) : ∃ evs : List Ev, evs.length = len ∧ len ≤ maxLen ∧ IsEvs w a evs := by
  rcases Deep.open_slice Tryz.underlying35 h with ⟨hcs, _⟩ | ⟨ad, len', cap', m, n, D, Pl, hcs, hb, hl, hm, hmm, _, hel⟩
  · simp at hcs
    obtain ⟨rfl, rfl, rfl⟩ := hcs
    exact ⟨[], rfl, by decide, ⟨by simp, .inl rfl⟩⟩
  · simp at hcs
    obtain ⟨rfl, rfl, rfl⟩ := hcs
    have hle : len ≤ m := by rw [hmm]; split <;> omega
    have hex : ∀ i, i < len → ∃ e : Ev, e.ok ∧ w.cells? base (ad.add (i * 4)) 4 = some (evCells1 e) := by
      intro i hi
      obtain ⟨cs', h1, h2⟩ := hel i (by omega)
      rw [Tryz.cellsEv] at h1
      obtain ⟨e, he, rfl⟩ := ev_of_trod h2
      exact ⟨e, he, h1⟩
    obtain ⟨f, hf⟩ := @Deep.choose_lt Ev ⟨evZero⟩ len _ hex
    refine ⟨(List.range len).map f, by simp, by omega, ⟨fun e he => ?_, ?_⟩⟩
    · simp at he
      obtain ⟨i, hi, rfl⟩ := he
      exact (hf i hi).1
    · by_cases h0 : len = 0
      · left; subst h0; rfl
      · right
        obtain ⟨b, off, spot⟩ := ad
        have hc0 := (World.cells?_some (hf 0 (by omega)).2).2.2 0 (by decide)
        have hspot : spot = none := by
          have := World.cell?_spot (v := .int .u8 ((f 0).op : Int)) (by rw [hc0]; rfl)
          simpa [Addr.add] using this
        subst hspot
        have hblk : b < w.heap.size := by
          have := World.cells?_block (hf 0 (by omega)).2 (by decide)
          simpa [Addr.add] using this
        refine ⟨b, off, rfl, hblk, fun k hk => ?_⟩
        have hk' : k < len := by simpa using hk
        have hc := (World.cells?_some (hf k hk').2).2.2
        have ek : ((List.range len).map f)[k]'hk = f k := by simp
        rw [ek]
        have c0 := hc 0 (by decide)
        have c1 := hc 1 (by decide)
        have c2 := hc 2 (by decide)
        have c3 := hc 3 (by decide)
        simp only [add_plain] at c0 c1 c2 c3
        exact ⟨c0, c1, c2, c3⟩
end Go.Proofs.YthccpacmklhejaaGreatDoor
