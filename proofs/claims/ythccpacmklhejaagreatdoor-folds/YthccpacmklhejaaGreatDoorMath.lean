/-
  Plain mathematics: events, records, what begins with one; no program in it.
-/
import GoSem.Core.Utf8
import Derived.Laws.Strings
namespace Go.Proofs.YthccpacmklhejaaGreatDoor

/-- An event. -/
structure Ev where
  op : Nat
  key : ByteArray
  seq : Nat
  val : Int

def Ev.ok (e : Ev) : Prop := e.op < 256 ∧ e.seq < 65536 ∧ -32768 ≤ e.val ∧ e.val ≤ 32767

/-- Do the three bytes of U+FFFD stand in s from k on? -/
def repl (s : ByteArray) (k : Nat) : Bool := decide (k + 3 ≤ s.size) && (s.extract k (k + 3)).toList == [239, 191, 189]

/-- From pos on no rune is U+FFFD but by its own bytes. -/
def okFrom (s : ByteArray) : Nat → Nat → Bool
  | 0, _ => true
  | f + 1, pos => if pos < s.size then (if (Utf8.decode s pos).1 = 65533 ∧ repl s pos = false then false else okFrom s f (pos + (Utf8.decode s pos).2)) else true

theorem okFrom_end (s : ByteArray) (fuel pos : Nat) (h : ¬ pos < s.size) : okFrom s fuel pos = true := by cases fuel <;> simp [okFrom, h]

def validB (s : ByteArray) : Bool := decide (1 ≤ s.size) && decide (s.size ≤ 8) && okFrom s s.size 0

/-- The error of an event; 0: it has a record. -/
def refuse (e : Ev) : Nat :=
  if e.op ≠ 1 ∧ e.op ≠ 2 then 5 else if validB e.key = false then 4 else if e.op = 2 ∧ e.val ≠ 0 then 3 else 0

/-- The sum of bytes, modulo 256. -/
def sumB (l : List UInt8) : Nat := (l.map UInt8.toNat).sum % 256

def u16 (v : Int) : Nat := (v % 65536).toNat
def body (e : Ev) : List UInt8 :=
  [UInt8.ofNat e.op, UInt8.ofNat e.key.size] ++ e.key.data.toList ++ [UInt8.ofNat (e.seq / 256), UInt8.ofNat (e.seq % 256)] ++
    (if e.op = 1 then [UInt8.ofNat (u16 e.val / 256), UInt8.ofNat (u16 e.val % 256)] else [])
def recB (e : Ev) : List UInt8 := body e ++ [UInt8.ofNat (sumB (body e))]

theorem key_le {e : Ev} (h : refuse e = 0) : 1 ≤ e.key.size ∧ e.key.size ≤ 8 ∧ (e.op = 1 ∨ e.op = 2) ∧ validB e.key = true ∧ (e.op = 2 → e.val = 0) := by
  unfold refuse at h
  split at h
  · omega
  · split at h
    · omega
    · split at h
      · omega
      · rename_i h1 h2 h3
        have hv : validB e.key = true := by simpa using h2
        have := hv
        simp [validB] at this
        refine ⟨this.1.1, this.1.2, by omega, hv, fun h => ?_⟩
        exact Classical.byContradiction fun hn => h3 ⟨h, hn⟩

theorem recB_length (e : Ev) : (recB e).length = e.key.size + (if e.op = 1 then 7 else 5) := by
  simp [recB, body]
  split <;> simp <;> omega

theorem sumB_snoc (l : List UInt8) (b : UInt8) : sumB (l ++ [b]) = (sumB l + b.toNat) % 256 := by
  simp [sumB]
theorem sumB_lt (l : List UInt8) : sumB l < 256 := Nat.mod_lt _ (by decide)

theorem or_join (a b : Nat) (hb : b < 256) : a * 256 ||| b = a * 256 + b := by
  have := Nat.two_pow_add_eq_or_of_lt (i := 8) (show b < 2 ^ 8 from hb) a
  rw [Nat.mul_comm a 256]
  exact this.symm
end Go.Proofs.YthccpacmklhejaaGreatDoor
