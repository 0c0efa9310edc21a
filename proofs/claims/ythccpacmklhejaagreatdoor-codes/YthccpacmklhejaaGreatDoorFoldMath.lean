/-
  What events make: numbers in tens, what is known of a key.
-/
import Derived.Test.YthccpacmklhejaaGreatDoorParse
namespace Go.Proofs.YthccpacmklhejaaGreatDoor

/-- A number as one of 16 bits with a sign. -/
def wrap16 (n : Int) : Int := if 32767 < n % 65536 then n % 65536 - 65536 else n % 65536

theorem wrap16_range (n : Int) : -32768 ≤ wrap16 n ∧ wrap16 n ≤ 32767 := by
  unfold wrap16
  split <;> omega

def dig (n : Nat) : UInt8 := UInt8.ofNat (48 + n)

/-- The digits of a number. -/
def decN (n : Nat) : List UInt8 := if n < 10 then [dig n] else decN (n / 10) ++ [dig (n % 10)]
termination_by n
decreasing_by omega

theorem decN_small {n : Nat} (h : n < 10) : decN n = [dig n] := by rw [decN]; simp [h]
theorem decN_big {n : Nat} (h : ¬ n < 10) : decN n = decN (n / 10) ++ [dig (n % 10)] := by rw [decN]; simp [h]

def decI (n : Int) : List UInt8 := if n < 0 then 45 :: decN (-n).toNat else decN n.toNat

theorem decN_length : ∀ (k n : Nat), n < 10 ^ (k + 1) → (decN n).length ≤ k + 1
  | 0, n, h => by rw [decN_small (by omega)]; simp
  | k + 1, n, h => by
    by_cases h10 : n < 10
    · rw [decN_small h10]; simp
    · rw [decN_big h10, List.length_append]
      have := decN_length k (n / 10) (by rw [Nat.pow_succ] at h; omega)
      simp
      omega

/-- What is known of a key. -/
structure Kn where
  had : Bool
  last : Nat
  there : Bool
  value : Int
  count : Nat

def Kn.none : Kn := ⟨false, 0, false, 0, 0⟩

def Kn.counts (k : Kn) (e : Ev) : Bool := !k.had || decide (0 < wrap16 ((e.seq : Int) - (k.last : Int)))

def Kn.step (k : Kn) (e : Ev) : Kn := if k.counts e then ⟨true, e.seq, decide (e.op = 1), e.val, k.count + 1⟩ else k

/-- Of a key, behind some events. -/
def knOf (key : ByteArray) (es : List Ev) : Kn := (es.filter (fun e => decide (e.key = key))).foldl Kn.step Kn.none

theorem knOf_append (key : ByteArray) (es : List Ev) (e : Ev) : knOf key (es ++ [e]) = if e.key = key then (knOf key es).step e else knOf key es := by
  unfold knOf
  rw [List.filter_append, List.foldl_append]
  by_cases h : e.key = key
  · simp [h]
  · simp [h]

theorem knOf_nil (key : ByteArray) : knOf key [] = Kn.none := rfl

theorem Kn.step_count (k : Kn) (e : Ev) : (k.step e).count ≤ k.count + 1 := by
  unfold Kn.step
  split <;> simp

end Go.Proofs.YthccpacmklhejaaGreatDoor
