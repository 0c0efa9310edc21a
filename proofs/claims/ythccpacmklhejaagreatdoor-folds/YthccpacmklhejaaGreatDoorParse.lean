/-
  Plain mathematics: what begins with a record; lists of records.
-/
import Derived.Test.YthccpacmklhejaaGreatDoorMath
namespace Go.Proofs.YthccpacmklhejaaGreatDoor

def gb (s : ByteArray) (i : Nat) : Nat := (s.data.toList.getD i 0).toNat
def sg (v : Nat) : Int := if v < 32768 then (v : Int) else (v : Int) - 65536
def evAt (s : ByteArray) : Ev :=
  ⟨gb s 0, s.extract 2 (2 + gb s 1), gb s (2 + gb s 1) * 256 + gb s (2 + gb s 1 + 1), if gb s 0 = 1 then sg (gb s (2 + gb s 1 + 2) * 256 + gb s (2 + gb s 1 + 2 + 1)) else 0⟩
def szAt (s : ByteArray) : Nat := gb s 1 + 5 + (if gb s 0 = 1 then 2 else 0)
def firstS (s : ByteArray) : Option (Ev × Nat) :=
  if s.size < 2 ∨ s.size < szAt s then none
  else if refuse (evAt s) = 0 ∧ recB (evAt s) = s.data.toList.take (szAt s) then some (evAt s, szAt s) else none

theorem gb_lt (s : ByteArray) (i : Nat) : gb s i < 256 := (s.data.toList.getD i 0).toNat_lt
theorem size_list (s : ByteArray) : s.data.toList.length = s.size := by cases s; rfl
theorem gb_at (s : ByteArray) (i : Nat) (h : i < s.size) : (s[i]'h).toNat = gb s i := by
  unfold gb
  have hl : i < s.data.toList.length := by rw [size_list]; exact h
  rw [List.getD_eq_getElem?_getD, List.getElem?_eq_getElem hl]
  rfl
theorem extract_list (s : ByteArray) (a b : Nat) : (s.extract a b).data.toList = (s.data.toList.drop a).take (b - a) := by
  rw [ByteArray.data_extract, Array.toList_extract]
theorem ba_ext {s t : ByteArray} (h : s.data.toList = t.data.toList) : s = t := by
  cases s; cases t
  congr
  exact Array.toList_inj.1 h

theorem evAt_ok (s : ByteArray) : (evAt s).ok := by
  have := gb_lt s
  unfold evAt Ev.ok
  have h0 := this 0
  have h1 := this (2 + gb s 1)
  have h2 := this (2 + gb s 1 + 1)
  have h3 := this (2 + gb s 1 + 2)
  have h4 := this (2 + gb s 1 + 2 + 1)
  refine ⟨h0, ?_, ?_, ?_⟩
  · simp only; omega
  · simp only [sg]; split
    · split <;> omega
    · omega
  · simp only [sg]; split
    · split <;> omega
    · omega

theorem firstS_some {s : ByteArray} {e : Ev} {n : Nat} (h : firstS s = some (e, n)) : refuse e = 0 ∧ e.ok ∧ recB e = s.data.toList.take n ∧ n = (recB e).length ∧ n ≤ s.size := by
  unfold firstS at h
  split at h
  · cases h
  · rename_i h1
    split at h
    · rename_i h2
      simp only [Option.some.injEq, Prod.mk.injEq] at h
      obtain ⟨rfl, rfl⟩ := h
      have hl : szAt s ≤ s.size := by omega
      refine ⟨h2.1, evAt_ok s, h2.2, ?_, hl⟩
      rw [h2.2, List.length_take, size_list]
      omega
    · cases h

theorem sg_u16 (v : Int) (h1 : -32768 ≤ v) (h2 : v ≤ 32767) : sg (u16 v / 256 * 256 + u16 v % 256) = v := by
  unfold sg u16
  split <;> omega

/-- A record is read as its event, whatever stands behind it. -/
theorem firstS_rec (e : Ev) (h : refuse e = 0) (hok : e.ok) (rest : List UInt8) (s : ByteArray) (hs : s.data.toList = recB e ++ rest) : firstS s = some (e, (recB e).length) := by
  obtain ⟨k1, k8, hop, _, hv⟩ := key_le h
  obtain ⟨o1, o2, o3, o4⟩ := hok
  have hkl := size_list e.key
  have hlen := recB_length e
  have hsz : s.size = (recB e).length + rest.length := by rw [← size_list, hs, List.length_append]
  -- the list, laid out
  have hx : s.data.toList = UInt8.ofNat e.op :: UInt8.ofNat e.key.size :: (e.key.data.toList ++ (UInt8.ofNat (e.seq / 256) :: UInt8.ofNat (e.seq % 256) :: ((if e.op = 1 then [UInt8.ofNat (u16 e.val / 256), UInt8.ofNat (u16 e.val % 256)] else []) ++ [UInt8.ofNat (sumB (body e))] ++ rest))) := by
    rw [hs]
    simp [recB, body]
  have g0 : gb s 0 = e.op := by unfold gb; rw [hx]; simp; omega
  have g1 : gb s 1 = e.key.size := by unfold gb; rw [hx]; simp; omega
  have gk : ∀ i, gb s (2 + e.key.size + i) = ((UInt8.ofNat (e.seq / 256) :: UInt8.ofNat (e.seq % 256) :: ((if e.op = 1 then [UInt8.ofNat (u16 e.val / 256), UInt8.ofNat (u16 e.val % 256)] else []) ++ [UInt8.ofNat (sumB (body e))] ++ rest)).getD i 0).toNat := by
    intro i
    unfold gb
    rw [hx]
    have : 2 + e.key.size + i = (e.key.data.toList.length + i) + 1 + 1 := by omega
    rw [this, List.getD_cons_succ, List.getD_cons_succ]
    simp [List.getD_eq_getElem?_getD, List.getElem?_append_right]
  have gs0 : gb s (2 + e.key.size) = e.seq / 256 := by have := gk 0; simp at this; rw [this]; omega
  have gs1 : gb s (2 + e.key.size + 1) = e.seq % 256 := by rw [gk 1]; simp
  have hu : u16 e.val < 65536 := by unfold u16; omega
  have hev : evAt s = e := by
    unfold evAt
    rw [g1, g0, gs0, gs1]
    have hkey : s.extract 2 (2 + e.key.size) = e.key := by
      apply ba_ext
      rw [extract_list, hx]
      simp [hkl]
    rw [hkey]
    have hval : (if e.op = 1 then sg (gb s (2 + e.key.size + 2) * 256 + gb s (2 + e.key.size + 2 + 1)) else 0) = e.val := by
      split
      · rename_i h1
        have a := gk 2
        have b := gk 3
        rw [show 2 + e.key.size + 2 + 1 = 2 + e.key.size + 3 from by omega, a, b]
        simp [h1]
        rw [Nat.mod_eq_of_lt (show u16 e.val / 256 < 256 by omega)]
        exact sg_u16 e.val o3 o4
      · exact (hv (by omega)).symm
    rw [hval, show e.seq / 256 * 256 + e.seq % 256 = e.seq from by omega]
  have hszA : szAt s = (recB e).length := by
    unfold szAt
    rw [g0, g1, hlen]
    split <;> omega
  have h5 : 5 ≤ (recB e).length := by rw [hlen]; split <;> omega
  unfold firstS
  rw [hev, hszA, if_neg (by omega), if_pos]
  refine ⟨h, ?_⟩
  rw [hs]
  simp

/-- An event that may be written. -/
def Good (e : Ev) : Prop := refuse e = 0 ∧ e.ok
def recs (es : List Ev) : List UInt8 := es.flatMap recB
theorem recs_append (a b : List Ev) : recs (a ++ b) = recs a ++ recs b := by simp [recs]
theorem recs_one (e : Ev) : recs [e] = recB e := by simp [recs]
theorem recs_cons (e : Ev) (es : List Ev) : recs (e :: es) = recB e ++ recs es := by simp [recs]
theorem recB_pos (e : Ev) : 5 ≤ (recB e).length := by rw [recB_length]; split <;> omega
theorem recs_length (es : List Ev) : 5 * es.length ≤ (recs es).length := by
  induction es with
  | nil => simp
  | cons e es ih => rw [recs_cons, List.length_append, List.length_cons]; have := recB_pos e; omega

/-- No record begins with r, or r is empty. -/
def Stop (r : List UInt8) : Prop := r = [] ∨ firstS ⟨r.toArray⟩ = none

theorem recs_unique : ∀ (es es' : List Ev) (r r' : List UInt8), (∀ e ∈ es, Good e) → (∀ e ∈ es', Good e) → Stop r → Stop r' → recs es ++ r = recs es' ++ r' → es = es' ∧ r = r'
  | [], [], r, r', _, _, _, _, h => ⟨rfl, by simpa [recs] using h⟩
  | [], e :: es, r, r', _, g, hr, _, h => by
    exfalso
    have ge := g e (by simp)
    have h' : r = recB e ++ (recs es ++ r') := by simpa [recs] using h
    rcases hr with hr | hr
    · have := congrArg List.length h'
      rw [hr] at this
      have := recB_pos e
      simp at *
      omega
    · rw [firstS_rec e ge.1 ge.2 (recs es ++ r') ⟨r.toArray⟩ (by simpa using h')] at hr
      cases hr
  | e :: es, [], r, r', g, _, _, hr', h => by
    exfalso
    have ge := g e (by simp)
    have h' : r' = recB e ++ (recs es ++ r) := by simpa [recs] using h.symm
    rcases hr' with hr | hr
    · have := congrArg List.length h'
      rw [hr] at this
      have := recB_pos e
      simp at *
      omega
    · rw [firstS_rec e ge.1 ge.2 (recs es ++ r) ⟨r'.toArray⟩ (by simpa using h')] at hr
      cases hr
  | e :: es, e' :: es', r, r', g, g', hr, hr', h => by
    have ge := g e (by simp)
    have ge' := g' e' (by simp)
    have h1 : recB e ++ (recs es ++ r) = recB e' ++ (recs es' ++ r') := by simpa [recs] using h
    have a := firstS_rec e ge.1 ge.2 (recs es ++ r) ⟨(recB e ++ (recs es ++ r)).toArray⟩ (by simp)
    have b := firstS_rec e' ge'.1 ge'.2 (recs es' ++ r') ⟨(recB e ++ (recs es ++ r)).toArray⟩ (by simpa using h1)
    rw [a] at b
    simp only [Option.some.injEq, Prod.mk.injEq] at b
    obtain ⟨rfl, _⟩ := b
    have h2 := List.append_cancel_left h1
    obtain ⟨rfl, rfl⟩ := recs_unique es es' r r' (fun x hx => g x (by simp [hx])) (fun x hx => g' x (by simp [hx])) hr hr' h2
    exact ⟨rfl, rfl⟩

/-- What Decode gives of s. -/
structure Parsed (s : ByteArray) (es : List Ev) (n : Nat) : Prop where
  good : ∀ e ∈ es, Good e
  text : recs es = s.data.toList.take n
  le : n ≤ s.size
  stop : Stop (s.data.toList.drop n)

theorem Parsed.unique {s : ByteArray} {es es' : List Ev} {n n' : Nat} (h : Parsed s es n) (h' : Parsed s es' n') : es = es' ∧ n = n' := by
  have e : recs es ++ s.data.toList.drop n = recs es' ++ s.data.toList.drop n' := by
    rw [h.text, h'.text, List.take_append_drop, List.take_append_drop]
  obtain ⟨rfl, hd⟩ := recs_unique es es' _ _ h.good h'.good h.stop h'.stop e
  refine ⟨rfl, ?_⟩
  have := congrArg List.length hd
  have a := h.le
  have b := h'.le
  simp only [List.length_drop, size_list] at this
  omega

theorem Parsed.length {s : ByteArray} {es : List Ev} {n : Nat} (h : Parsed s es n) : (recs es).length = n := by
  rw [h.text, List.length_take, size_list]
  have := h.le
  omega

theorem Parsed.few {s : ByteArray} {es : List Ev} {n : Nat} (h : Parsed s es n) : 5 * es.length ≤ s.size := by
  have a := h.length
  have b := recs_length es
  have c := h.le
  omega

/-- Records alone are read whole. -/
theorem Parsed.of_recs {s : ByteArray} {es : List Ev} (g : ∀ e ∈ es, Good e) (h : s.data.toList = recs es) : Parsed s es s.size :=
  ⟨g, by rw [← h, ← size_list, List.take_length], Nat.le_refl _, .inl (by rw [← size_list, List.drop_length])⟩

theorem stop_of {s : ByteArray} {n : Nat} (h : firstS (s.extract n s.size) = none) : Stop (s.data.toList.drop n) := by
  right
  have e : (⟨(s.data.toList.drop n).toArray⟩ : ByteArray) = s.extract n s.size := by
    apply ba_ext
    rw [extract_list, List.take_of_length_le (by rw [List.length_drop, size_list]; omega)]
  rw [e]
  exact h
end Go.Proofs.YthccpacmklhejaaGreatDoor
