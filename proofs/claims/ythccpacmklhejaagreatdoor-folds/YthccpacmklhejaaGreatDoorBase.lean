/-
  What decoding gives, and lists of events.
-/
import Derived.Test.YthccpacmklhejaaGreatDoorCDec
import Derived.Test.YthccpacmklhejaaGreatDoorUtf
import Derived.Deep.QuietTactic
import Derived.BigQuiet
namespace Go.Proofs.YthccpacmklhejaaGreatDoor
open Go.RowKit

theorem split_list : ∀ (n : Nat) (l : List UInt8), l.length ≤ n → ∃ es r, l = recs es ++ r ∧ (∀ e ∈ es, Good e) ∧ Stop r
  | 0, l, h => ⟨[], [], by simp at h; simp [recs, h], by simp, .inl rfl⟩
  | n + 1, l, h => by
    cases hf : firstS ⟨l.toArray⟩ with
    | none => exact ⟨[], l, by simp [recs], by simp, .inr hf⟩
    | some x =>
      obtain ⟨e, m⟩ := x
      obtain ⟨f1, f2, f3, f4, f5⟩ := firstS_some hf
      simp at f3
      have hp := recB_pos e
      obtain ⟨es, r, h1, h2, h3⟩ := split_list n (l.drop m) (by rw [List.length_drop]; omega)
      refine ⟨e :: es, r, ?_, ?_, h3⟩
      · rw [recs_cons, List.append_assoc, ← h1, f3, List.take_append_drop]
      · intro x hx
        rcases List.mem_cons.1 hx with rfl | hx
        · exact ⟨f1, f2⟩
        · exact h2 x hx

theorem parsed_exists (s : ByteArray) : ∃ es n, Parsed s es n := by
  obtain ⟨es, r, h1, h2, h3⟩ := split_list s.data.toList.length s.data.toList (Nat.le_refl _)
  refine ⟨es, (recs es).length, h2, ?_, ?_, ?_⟩
  · rw [h1]; simp
  · rw [← size_list, h1, List.length_append]; omega
  · rw [h1]; simpa using h3

/-- Decode at a text whose records are known. -/
theorem cdecode_at (s : ByteArray) (w : World) (h : s.size ≤ 400) {es : List Ev} {n : Nat} (hp : Parsed s es n) :
    Calls Tryz.prog 38 #[.string s] w fun en w' => ∃ (a : Option Addr) (cap : Nat), en = .returned (.tuple #[.slice a es.length cap, .int .i64 (n : Int), .int .i64 (errOf s n : Int)]) ∧
      w'.ownsRow w.heap.size 41 4 (.slice a es.length cap) es.length (evCells es) ∧ Below w.heap.size w w' := by
  refine (cdecode_short s w h).mono ?_
  rintro e w1 ⟨v, es', n', r, rfl, hP, hown, hb⟩
  obtain ⟨hp', hr⟩ := hP.out
  obtain ⟨rfl, rfl⟩ := hp'.unique hp
  subst hr
  rcases hown.2 with ⟨rfl, h0⟩ | ⟨g, cap, cur, rfl, _⟩
  · rw [h0] at hown ⊢
    exact ⟨none, 0, rfl, hown, hb⟩
  · exact ⟨some ⟨g, 0, none⟩, cap, rfl, hown, hb⟩

theorem own_addr {w : World} {B n cap : Nat} {e : TypeId} {s : Nat} {a : Option Addr} {xs : List Value} (hown : w.ownsRow B e s (.slice a n cap) n xs) : (a = none ∧ n = 0) ∨ ∃ g, a = some ⟨g, 0, none⟩ := by
  rcases hown.2 with ⟨h, h0⟩ | ⟨g, cap', cur, h, _⟩
  · simp at h
    exact .inl ⟨h.1, h0⟩
  · simp at h
    exact .inr ⟨g, h.1⟩

theorem evCells_at : ∀ (es : List Ev) (k : Nat) (h : k < es.length), (evCells es)[k * 4]? = some (.int .u8 ((es[k]).op : Int)) ∧ (evCells es)[k * 4 + 1]? = some (.string (es[k]).key) ∧ (evCells es)[k * 4 + 2]? = some (.int .u16 ((es[k]).seq : Int)) ∧ (evCells es)[k * 4 + 3]? = some (.int .i16 (es[k]).val)
  | e :: es, 0, _ => by simp [evCells, evCells1]
  | e :: es, k + 1, h => by
    have ih := evCells_at es k (by simpa using h)
    have e1 : evCells (e :: es) = evCells1 e ++ evCells es := by simp [evCells]
    rw [e1]
    have l4 : (evCells1 e).length = 4 := rfl
    refine ⟨?_, ?_, ?_, ?_⟩
    · rw [List.getElem?_append_right (by omega), l4, show (k + 1) * 4 - 4 = k * 4 from by omega]; exact ih.1
    · rw [List.getElem?_append_right (by omega), l4, show (k + 1) * 4 + 1 - 4 = k * 4 + 1 from by omega]; exact ih.2.1
    · rw [List.getElem?_append_right (by omega), l4, show (k + 1) * 4 + 2 - 4 = k * 4 + 2 from by omega]; exact ih.2.2.1
    · rw [List.getElem?_append_right (by omega), l4, show (k + 1) * 4 + 3 - 4 = k * 4 + 3 from by omega]; exact ih.2.2.2

theorem own_event {w : World} {B g cap : Nat} {es : List Ev} (hown : w.ownsRow B 41 4 (.slice (some ⟨g, 0, none⟩) es.length cap) es.length (evCells es)) (k : Nat) (h : k < es.length) :
    w.cell? ⟨g, k * 4, none⟩ = some (.int .u8 ((es[k]).op : Int)) ∧ w.cell? ⟨g, k * 4 + 1, none⟩ = some (.string (es[k]).key) ∧ w.cell? ⟨g, k * 4 + 2, none⟩ = some (.int .u16 ((es[k]).seq : Int)) ∧ w.cell? ⟨g, k * 4 + 3, none⟩ = some (.int .i16 (es[k]).val) := by
  have hc := evCells_at es k h
  exact ⟨(hown.cellAt _ (by omega)).trans hc.1, (hown.cellAt _ (by omega)).trans hc.2.1, (hown.cellAt _ (by omega)).trans hc.2.2.1, (hown.cellAt _ (by omega)).trans hc.2.2.2⟩

theorem parsed_head {s : ByteArray} {es : List Ev} {n : Nat} (hp : Parsed s es n) : Parsed (s.extract 0 n) es n ∧ (s.extract 0 n).size = n := by
  have hl : (s.extract 0 n).size = n := by rw [ByteArray.size_extract]; have := hp.le; omega
  refine ⟨?_, hl⟩
  have h := Parsed.of_recs (s := s.extract 0 n) hp.good (by rw [extract_list, hp.text]; simp)
  rw [hl] at h
  exact h
theorem parsed_tail {s : ByteArray} {es : List Ev} {n : Nat} (hp : Parsed s es n) : Parsed (s.extract n s.size) [] 0 := by
  refine ⟨by simp, by simp [recs], Nat.zero_le _, ?_⟩
  have e : (s.extract n s.size).data.toList = s.data.toList.drop n := by
    rw [extract_list, List.take_of_length_le (by rw [List.length_drop, size_list]; omega)]
  rw [List.drop_zero, e]
  exact hp.stop

theorem enc_size (n : Int) : (Utf8.encode n).size ≤ 4 := by
  rw [← size_list]
  unfold Utf8.encode
  simp only
  generalize (if Utf8.valid n = true then n.toNat else Utf8.runeError) = c
  split
  · simp
  · split
    · simp
    · split <;> simp

theorem cat_le (s : ByteArray) : ∀ f pos, (catFrom s f pos).length ≤ 4 * f
  | 0, _ => by simp [catFrom]
  | f + 1, pos => by
    have ih := cat_le s f (pos + (Utf8.decode s pos).2)
    have h4 := enc_size (Utf8.decode s pos).1
    simp only [catFrom]
    split
    · rw [List.length_append, size_list]; omega
    · simp

/-- A list of events that came in. -/
def IsEvs (w : World) (a : Option Addr) (evs : List Ev) : Prop :=
  (∀ e ∈ evs, e.ok) ∧ (evs = [] ∨ ∃ b off, a = some ⟨b, off, none⟩ ∧ b < w.heap.size ∧ ∀ k (h : k < evs.length),
    w.cell? ⟨b, off + k * 4, none⟩ = some (.int .u8 ((evs[k]).op : Int)) ∧ w.cell? ⟨b, off + k * 4 + 1, none⟩ = some (.string (evs[k]).key) ∧ w.cell? ⟨b, off + k * 4 + 2, none⟩ = some (.int .u16 ((evs[k]).seq : Int)) ∧ w.cell? ⟨b, off + k * 4 + 3, none⟩ = some (.int .i16 (evs[k]).val))

theorem own_form {w : World} {B n : Nat} {e : TypeId} {s : Nat} {v : Value} {xs : List Value} (hown : w.ownsRow B e s v n xs) : ∃ a c, v = .slice a n c := by
  rcases hown.2 with ⟨rfl, rfl⟩ | ⟨g, cap, cur, rfl, _⟩
  · exact ⟨none, 0, rfl⟩
  · exact ⟨_, cap, rfl⟩

end Go.Proofs.YthccpacmklhejaaGreatDoor
