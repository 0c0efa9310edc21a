/-
  Several texts in one.
-/
import Derived.Test.YthccpacmklhejabDoorK14
import Derived.Test.YthccpacmklhejabDoorK08
import Derived.Test.YthccpacmklhejabDoorK11
namespace Go.Proofs.YthccpacmklhejabDoor
open Go.RowKit

theorem set_at {α : Type} {l : List α} {o : Nat} {u x : α} (h : l[o]? = some x) : (l.set o u)[o]? = some u := by
  rw [List.getElem?_set_self (List.getElem?_eq_some_iff.1 h).1]

/-- A list's cell is laid over with nothing. -/
theorem Upd.nil {e : TypeId} {s kb o : Nat} {t : TypeId} {cs : Array Value} {a : Option Addr} {n c : Nat} {xs : List Value} {w : World} (h : LAt 0 e s kb o t cs a n c xs w) : Upd 0 e s kb o t cs a n c w none 0 0 [] (w.setCell ⟨kb, o, none⟩ (.slice none 0 0)) := by
  refine ⟨⟨row_set (j := o) h.box _, ?_, h.ne, by simp, .inl ⟨rfl, rfl⟩⟩, (FrmX.refl _ w).set (fun _ => .inl rfl) o _, fun g hg => by cases hg⟩
  rw [Array.getElem?_setIfInBounds, if_pos rfl, if_pos h.ol]

section
variable {F : Fx} {X : Nat → Prop} {w w' : World} {m : CM}


theorem CLX.spipe (h : CLX F X w m) (i : Nat) (hi : i < m.W) : ∃ cs a cp, PAt 0 F.sb (i * 3 + 1) 92 cs a cp (m.sp i) w ∧ ∀ (w' : World) (a' : Option Addr) (c' : Nat) (rs : List ItemV), PUpd 0 F.sb (i * 3 + 1) 92 cs a cp (m.sp i) w a' c' rs w' → Aft F X w { m with sp := updF m.sp i rs } w' := by
  obtain ⟨L, hl, hs, rfl⟩ := h
  obtain ⟨w1, w4⟩ := hs.w4
  obtain ⟨t1, t2, t3, t4⟩ := hs.sp i hi
  obtain ⟨cs, a, cp, hv, hla⟩ := hl.lat (o := i * 3 + 1) (c := 10 + i) (hs.sr.2.2 i hi).2.1 hs.sr.2.1 (by rw [hs.sr.1, t1]; decide)
  have hla' := hla
  rw [hs.sr.1, t1, t2, t3, t4] at hla'
  refine ⟨cs, a, cp, hla', fun w' a' c' rs hu => ?_⟩
  obtain ⟨hlay, hf, hx⟩ := hl.put (p := 1) (c := 10 + i) (o := i * 3 + 1) (a' := a') (n' := rs.length) (c' := c') (xs' := itCells rs) hs.sr.2.1 (by omega) hv hla (by rw [hs.sr.1, t1, t2, t3]; exact hu)
  refine ⟨_, ⟨_, hlay, ?_, rfl⟩, hf, hx⟩
  generalize hL : putL L (1) (i * 3 + 1) (10 + i) (.slice a' rs.length c') rs.length (itCells rs) = L'
  have fv : ∀ x, x ≠ 10 + i → (L' x).v = (L x).v := fun x hx => by
    rw [← hL]; unfold putL; rw [if_neg hx]; split
    · rename_i e; rw [e]
    · rfl
  have ft : ∀ x, (L' x).ty = (L x).ty := fun x => by
    rw [← hL]; unfold putL; split
    · rename_i e; rw [e]
    · split
      · rename_i e; rw [e]
      · rfl
  have fx : ∀ x, x ≠ 10 + i → x ≠ 1 → L' x = L x := fun x h1 h2 => by rw [← hL]; exact putL_x h1 h2
  have fp : (L' (1)).xs = (L (1)).xs.set (i * 3 + 1) (.slice a' rs.length c') := by rw [← hL, putL_p (by omega)]
  have fc : L' (10 + i) = ⟨(L (10 + i)).ty, (L (10 + i)).sz, .slice a' rs.length c', rs.length, itCells rs⟩ := by rw [← hL]; exact putL_c _ _ _ _ _ _ _
  have fcv : (L' (10 + i)).v = .slice a' rs.length c' := by rw [fc]
  refine ⟨⟨w1, w4⟩, ⟨(ft 0).trans hs.job.1, (fv 0 (by omega)).trans hs.job.2.1, by rw [fx 0 (by omega) (by omega), fv 3 (by omega), fv 1 (by omega), fv 2 (by omega), fv 4 (by omega), fv 5 (by omega)]; exact hs.job.2.2⟩, ⟨(ft 1).trans hs.sr.1, (fv 1 (by omega)).trans hs.sr.2.1, fun i2 hi2 => ?_⟩, ⟨(ft 2).trans hs.ar.1, (fv 2 (by omega)).trans hs.ar.2.1, fun i2 hi2 => ?_⟩, by rw [fx 3 (by omega) (by omega)]; exact hs.ev, ?_, ?_, fun i2 hi2 => ?_, fun i2 hi2 => ?_, fun i2 hi2 => ⟨(ft _).trans (hs.il i2 hi2).1, (fv _ (by have hi3 : i2 < 4 := Nat.lt_of_lt_of_le hi2 w4; omega)).trans (hs.il i2 hi2).2.1, fun q2 hq2 => ?_⟩, fun i2 hi2 => ?_, fun i2 q2 hi2 hq2 => ?_⟩
  · obtain ⟨s1, s2, s3⟩ := hs.sr.2.2 i2 hi2
    have hi3 : i2 < 4 := Nat.lt_of_lt_of_le hi2 w4
    rw [fp, List.getElem?_set_ne (by omega)]
    refine ⟨s1, ?_, by rw [List.getElem?_set_ne (by omega), fv _ (by omega)]; exact s3⟩
    by_cases e : i2 = i
    · subst e; rw [set_at s2, fcv]
    · rw [List.getElem?_set_ne (by omega), fv _ (by omega)]; exact s2
  · obtain ⟨s1, s2⟩ := hs.ar.2.2 i2 hi2
    have hi3 : i2 < 4 := Nat.lt_of_lt_of_le hi2 w4
    rw [fx 2 (by omega) (by omega), fv (30 + i2) (by omega), fv (40 + i2) (by omega)]
    exact ⟨s1, s2⟩
  · rw [fx 4 (by omega) (by omega)]; exact hs.rd
  · rw [fx 5 (by omega) (by omega)]; exact hs.vw
  · have hi3 : i2 < 4 := Nat.lt_of_lt_of_le hi2 w4
    simp only
    by_cases e : i2 = i
    · subst e; rw [updF_same]; exact ⟨by rw [fc]; exact t1, by rw [fc]; exact t2, by rw [fc], by rw [fc]⟩
    · rw [updF_ne e, fx _ (by omega) (by omega)]; exact hs.sp i2 hi2
  · have hi3 : i2 < 4 := Nat.lt_of_lt_of_le hi2 w4
    rw [fx _ (by omega) (by omega)]; exact hs.sk i2 hi2
  · obtain ⟨s1, s2, s3⟩ := (hs.il i2 hi2).2.2 q2 hq2
    have hi3 : i2 < 4 := Nat.lt_of_lt_of_le hi2 w4
    rw [fx _ (by omega) (by omega), fv _ (by omega)]
    exact ⟨s1, s2, s3⟩
  · have hi3 : i2 < 4 := Nat.lt_of_lt_of_le hi2 w4
    rw [fx _ (by omega) (by omega)]; exact hs.tb i2 hi2
  · have hi3 : i2 < 4 := Nat.lt_of_lt_of_le hi2 w4
    have hq3 : q2 < 4 := Nat.lt_of_lt_of_le hq2 w4
    rw [fx _ (by omega) (by omega)]; exact hs.ap i2 q2 hi2 hq2

theorem CLX.skeys (h : CLX F X w m) (i : Nat) (hi : i < m.W) : ∃ cs a cp, KAt 0 F.sb (i * 3 + 2) 92 cs a cp (m.sk i) w ∧ ∀ (w' : World) (a' : Option Addr) (c' : Nat) (rs : List EV), KUpd 0 F.sb (i * 3 + 2) 92 cs a cp (m.sk i) w a' c' rs w' → Aft F X w { m with sk := updF m.sk i rs } w' := by
  obtain ⟨L, hl, hs, rfl⟩ := h
  obtain ⟨w1, w4⟩ := hs.w4
  obtain ⟨t1, t2, t3, t4⟩ := hs.sk i hi
  obtain ⟨cs, a, cp, hv, hla⟩ := hl.lat (o := i * 3 + 2) (c := 20 + i) (hs.sr.2.2 i hi).2.2 hs.sr.2.1 (by rw [hs.sr.1, t1]; decide)
  have hla' := hla
  rw [hs.sr.1, t1, t2, t3, t4] at hla'
  refine ⟨cs, a, cp, hla', fun w' a' c' rs hu => ?_⟩
  obtain ⟨hlay, hf, hx⟩ := hl.put (p := 1) (c := 20 + i) (o := i * 3 + 2) (a' := a') (n' := rs.length) (c' := c') (xs' := entCells rs) hs.sr.2.1 (by omega) hv hla (by rw [hs.sr.1, t1, t2, t3]; exact hu)
  refine ⟨_, ⟨_, hlay, ?_, rfl⟩, hf, hx⟩
  generalize hL : putL L (1) (i * 3 + 2) (20 + i) (.slice a' rs.length c') rs.length (entCells rs) = L'
  have fv : ∀ x, x ≠ 20 + i → (L' x).v = (L x).v := fun x hx => by
    rw [← hL]; unfold putL; rw [if_neg hx]; split
    · rename_i e; rw [e]
    · rfl
  have ft : ∀ x, (L' x).ty = (L x).ty := fun x => by
    rw [← hL]; unfold putL; split
    · rename_i e; rw [e]
    · split
      · rename_i e; rw [e]
      · rfl
  have fx : ∀ x, x ≠ 20 + i → x ≠ 1 → L' x = L x := fun x h1 h2 => by rw [← hL]; exact putL_x h1 h2
  have fp : (L' (1)).xs = (L (1)).xs.set (i * 3 + 2) (.slice a' rs.length c') := by rw [← hL, putL_p (by omega)]
  have fc : L' (20 + i) = ⟨(L (20 + i)).ty, (L (20 + i)).sz, .slice a' rs.length c', rs.length, entCells rs⟩ := by rw [← hL]; exact putL_c _ _ _ _ _ _ _
  have fcv : (L' (20 + i)).v = .slice a' rs.length c' := by rw [fc]
  refine ⟨⟨w1, w4⟩, ⟨(ft 0).trans hs.job.1, (fv 0 (by omega)).trans hs.job.2.1, by rw [fx 0 (by omega) (by omega), fv 3 (by omega), fv 1 (by omega), fv 2 (by omega), fv 4 (by omega), fv 5 (by omega)]; exact hs.job.2.2⟩, ⟨(ft 1).trans hs.sr.1, (fv 1 (by omega)).trans hs.sr.2.1, fun i2 hi2 => ?_⟩, ⟨(ft 2).trans hs.ar.1, (fv 2 (by omega)).trans hs.ar.2.1, fun i2 hi2 => ?_⟩, by rw [fx 3 (by omega) (by omega)]; exact hs.ev, ?_, ?_, fun i2 hi2 => ?_, fun i2 hi2 => ?_, fun i2 hi2 => ⟨(ft _).trans (hs.il i2 hi2).1, (fv _ (by have hi3 : i2 < 4 := Nat.lt_of_lt_of_le hi2 w4; omega)).trans (hs.il i2 hi2).2.1, fun q2 hq2 => ?_⟩, fun i2 hi2 => ?_, fun i2 q2 hi2 hq2 => ?_⟩
  · obtain ⟨s1, s2, s3⟩ := hs.sr.2.2 i2 hi2
    have hi3 : i2 < 4 := Nat.lt_of_lt_of_le hi2 w4
    rw [fp, List.getElem?_set_ne (by omega)]
    refine ⟨s1, by rw [List.getElem?_set_ne (by omega), fv _ (by omega)]; exact s2, ?_⟩
    by_cases e : i2 = i
    · subst e; rw [set_at s3, fcv]
    · rw [List.getElem?_set_ne (by omega), fv _ (by omega)]; exact s3
  · obtain ⟨s1, s2⟩ := hs.ar.2.2 i2 hi2
    have hi3 : i2 < 4 := Nat.lt_of_lt_of_le hi2 w4
    rw [fx 2 (by omega) (by omega), fv (30 + i2) (by omega), fv (40 + i2) (by omega)]
    exact ⟨s1, s2⟩
  · rw [fx 4 (by omega) (by omega)]; exact hs.rd
  · rw [fx 5 (by omega) (by omega)]; exact hs.vw
  · have hi3 : i2 < 4 := Nat.lt_of_lt_of_le hi2 w4
    rw [fx _ (by omega) (by omega)]; exact hs.sp i2 hi2
  · have hi3 : i2 < 4 := Nat.lt_of_lt_of_le hi2 w4
    simp only
    by_cases e : i2 = i
    · subst e; rw [updF_same]; exact ⟨by rw [fc]; exact t1, by rw [fc]; exact t2, by rw [fc], by rw [fc]⟩
    · rw [updF_ne e, fx _ (by omega) (by omega)]; exact hs.sk i2 hi2
  · obtain ⟨s1, s2, s3⟩ := (hs.il i2 hi2).2.2 q2 hq2
    have hi3 : i2 < 4 := Nat.lt_of_lt_of_le hi2 w4
    rw [fx _ (by omega) (by omega), fv _ (by omega)]
    exact ⟨s1, s2, s3⟩
  · have hi3 : i2 < 4 := Nat.lt_of_lt_of_le hi2 w4
    rw [fx _ (by omega) (by omega)]; exact hs.tb i2 hi2
  · have hi3 : i2 < 4 := Nat.lt_of_lt_of_le hi2 w4
    have hq3 : q2 < 4 := Nat.lt_of_lt_of_le hq2 w4
    rw [fx _ (by omega) (by omega)]; exact hs.ap i2 q2 hi2 hq2

theorem CLX.atab (h : CLX F X w m) (i : Nat) (hi : i < m.W) : ∃ cs a cp, GAt 0 F.ab (i * 2 + 1) 96 cs a cp (m.tb i) w ∧ ∀ (w' : World) (a' : Option Addr) (c' : Nat) (rs : List GX), GUpd 0 F.ab (i * 2 + 1) 96 cs a cp (m.tb i) w a' c' rs w' → Aft F X w { m with tb := updF m.tb i rs } w' := by
  obtain ⟨L, hl, hs, rfl⟩ := h
  obtain ⟨w1, w4⟩ := hs.w4
  obtain ⟨t1, t2, t3, t4⟩ := hs.tb i hi
  obtain ⟨cs, a, cp, hv, hla⟩ := hl.lat (o := i * 2 + 1) (c := 40 + i) (hs.ar.2.2 i hi).2 hs.ar.2.1 (by rw [hs.ar.1, t1]; decide)
  have hla' := hla
  rw [hs.ar.1, t1, t2, t3, t4] at hla'
  refine ⟨cs, a, cp, hla', fun w' a' c' rs hu => ?_⟩
  obtain ⟨hlay, hf, hx⟩ := hl.put (p := 2) (c := 40 + i) (o := i * 2 + 1) (a' := a') (n' := rs.length) (c' := c') (xs' := gCells rs) hs.ar.2.1 (by omega) hv hla (by rw [hs.ar.1, t1, t2, t3]; exact hu)
  refine ⟨_, ⟨_, hlay, ?_, rfl⟩, hf, hx⟩
  generalize hL : putL L (2) (i * 2 + 1) (40 + i) (.slice a' rs.length c') rs.length (gCells rs) = L'
  have fv : ∀ x, x ≠ 40 + i → (L' x).v = (L x).v := fun x hx => by
    rw [← hL]; unfold putL; rw [if_neg hx]; split
    · rename_i e; rw [e]
    · rfl
  have ft : ∀ x, (L' x).ty = (L x).ty := fun x => by
    rw [← hL]; unfold putL; split
    · rename_i e; rw [e]
    · split
      · rename_i e; rw [e]
      · rfl
  have fx : ∀ x, x ≠ 40 + i → x ≠ 2 → L' x = L x := fun x h1 h2 => by rw [← hL]; exact putL_x h1 h2
  have fp : (L' (2)).xs = (L (2)).xs.set (i * 2 + 1) (.slice a' rs.length c') := by rw [← hL, putL_p (by omega)]
  have fc : L' (40 + i) = ⟨(L (40 + i)).ty, (L (40 + i)).sz, .slice a' rs.length c', rs.length, gCells rs⟩ := by rw [← hL]; exact putL_c _ _ _ _ _ _ _
  have fcv : (L' (40 + i)).v = .slice a' rs.length c' := by rw [fc]
  refine ⟨⟨w1, w4⟩, ⟨(ft 0).trans hs.job.1, (fv 0 (by omega)).trans hs.job.2.1, by rw [fx 0 (by omega) (by omega), fv 3 (by omega), fv 1 (by omega), fv 2 (by omega), fv 4 (by omega), fv 5 (by omega)]; exact hs.job.2.2⟩, ⟨(ft 1).trans hs.sr.1, (fv 1 (by omega)).trans hs.sr.2.1, fun i2 hi2 => ?_⟩, ⟨(ft 2).trans hs.ar.1, (fv 2 (by omega)).trans hs.ar.2.1, fun i2 hi2 => ?_⟩, by rw [fx 3 (by omega) (by omega)]; exact hs.ev, ?_, ?_, fun i2 hi2 => ?_, fun i2 hi2 => ?_, fun i2 hi2 => ⟨(ft _).trans (hs.il i2 hi2).1, (fv _ (by have hi3 : i2 < 4 := Nat.lt_of_lt_of_le hi2 w4; omega)).trans (hs.il i2 hi2).2.1, fun q2 hq2 => ?_⟩, fun i2 hi2 => ?_, fun i2 q2 hi2 hq2 => ?_⟩
  · obtain ⟨s1, s2, s3⟩ := hs.sr.2.2 i2 hi2
    have hi3 : i2 < 4 := Nat.lt_of_lt_of_le hi2 w4
    rw [fx 1 (by omega) (by omega), fv (10 + i2) (by omega), fv (20 + i2) (by omega)]
    exact ⟨s1, s2, s3⟩
  · obtain ⟨s1, s2⟩ := hs.ar.2.2 i2 hi2
    have hi3 : i2 < 4 := Nat.lt_of_lt_of_le hi2 w4
    rw [fp, List.getElem?_set_ne (by omega)]
    refine ⟨by rw [fv _ (by omega)]; exact s1, ?_⟩
    by_cases e : i2 = i
    · subst e; rw [set_at s2, fcv]
    · rw [List.getElem?_set_ne (by omega), fv _ (by omega)]; exact s2
  · rw [fx 4 (by omega) (by omega)]; exact hs.rd
  · rw [fx 5 (by omega) (by omega)]; exact hs.vw
  · have hi3 : i2 < 4 := Nat.lt_of_lt_of_le hi2 w4
    rw [fx _ (by omega) (by omega)]; exact hs.sp i2 hi2
  · have hi3 : i2 < 4 := Nat.lt_of_lt_of_le hi2 w4
    rw [fx _ (by omega) (by omega)]; exact hs.sk i2 hi2
  · obtain ⟨s1, s2, s3⟩ := (hs.il i2 hi2).2.2 q2 hq2
    have hi3 : i2 < 4 := Nat.lt_of_lt_of_le hi2 w4
    rw [fx _ (by omega) (by omega), fv _ (by omega)]
    exact ⟨s1, s2, s3⟩
  · have hi3 : i2 < 4 := Nat.lt_of_lt_of_le hi2 w4
    simp only
    by_cases e : i2 = i
    · subst e; rw [updF_same]; exact ⟨by rw [fc]; exact t1, by rw [fc]; exact t2, by rw [fc], by rw [fc]⟩
    · rw [updF_ne e, fx _ (by omega) (by omega)]; exact hs.tb i2 hi2
  · have hi3 : i2 < 4 := Nat.lt_of_lt_of_le hi2 w4
    have hq3 : q2 < 4 := Nat.lt_of_lt_of_le hq2 w4
    rw [fx _ (by omega) (by omega)]; exact hs.ap i2 q2 hi2 hq2

theorem CLX.apipe (h : CLX F X w m) (i q : Nat) (hi : i < m.W) (hq : q < m.W) : ∃ cs a cp, PAt 0 (F.ib i) (q * 3 + 1) 121 cs a cp (m.ap i q) w ∧ ∀ (w' : World) (a' : Option Addr) (c' : Nat) (rs : List ItemV), PUpd 0 (F.ib i) (q * 3 + 1) 121 cs a cp (m.ap i q) w a' c' rs w' → Aft F X w { m with ap := updF2 m.ap i q rs } w' := by
  obtain ⟨L, hl, hs, rfl⟩ := h
  obtain ⟨w1, w4⟩ := hs.w4
  obtain ⟨t1, t2, t3, t4⟩ := hs.ap i q hi hq
  obtain ⟨cs, a, cp, hv, hla⟩ := hl.lat (o := q * 3 + 1) (c := 100 + 10 * i + q) ((hs.il i hi).2.2 q hq).2.1 (hs.il i hi).2.1 (by rw [(hs.il i hi).1, t1]; decide)
  have hla' := hla
  rw [(hs.il i hi).1, t1, t2, t3, t4] at hla'
  refine ⟨cs, a, cp, hla', fun w' a' c' rs hu => ?_⟩
  obtain ⟨hlay, hf, hx⟩ := hl.put (p := 30 + i) (c := 100 + 10 * i + q) (o := q * 3 + 1) (a' := a') (n' := rs.length) (c' := c') (xs' := itCells rs) (hs.il i hi).2.1 (by omega) hv hla (by rw [(hs.il i hi).1, t1, t2, t3]; exact hu)
  refine ⟨_, ⟨_, hlay, ?_, rfl⟩, hf, hx⟩
  generalize hL : putL L (30 + i) (q * 3 + 1) (100 + 10 * i + q) (.slice a' rs.length c') rs.length (itCells rs) = L'
  have fv : ∀ x, x ≠ 100 + 10 * i + q → (L' x).v = (L x).v := fun x hx => by
    rw [← hL]; unfold putL; rw [if_neg hx]; split
    · rename_i e; rw [e]
    · rfl
  have ft : ∀ x, (L' x).ty = (L x).ty := fun x => by
    rw [← hL]; unfold putL; split
    · rename_i e; rw [e]
    · split
      · rename_i e; rw [e]
      · rfl
  have fx : ∀ x, x ≠ 100 + 10 * i + q → x ≠ 30 + i → L' x = L x := fun x h1 h2 => by rw [← hL]; exact putL_x h1 h2
  have fp : (L' (30 + i)).xs = (L (30 + i)).xs.set (q * 3 + 1) (.slice a' rs.length c') := by rw [← hL, putL_p (by omega)]
  have fc : L' (100 + 10 * i + q) = ⟨(L (100 + 10 * i + q)).ty, (L (100 + 10 * i + q)).sz, .slice a' rs.length c', rs.length, itCells rs⟩ := by rw [← hL]; exact putL_c _ _ _ _ _ _ _
  have fcv : (L' (100 + 10 * i + q)).v = .slice a' rs.length c' := by rw [fc]
  refine ⟨⟨w1, w4⟩, ⟨(ft 0).trans hs.job.1, (fv 0 (by omega)).trans hs.job.2.1, by rw [fx 0 (by omega) (by omega), fv 3 (by omega), fv 1 (by omega), fv 2 (by omega), fv 4 (by omega), fv 5 (by omega)]; exact hs.job.2.2⟩, ⟨(ft 1).trans hs.sr.1, (fv 1 (by omega)).trans hs.sr.2.1, fun i2 hi2 => ?_⟩, ⟨(ft 2).trans hs.ar.1, (fv 2 (by omega)).trans hs.ar.2.1, fun i2 hi2 => ?_⟩, by rw [fx 3 (by omega) (by omega)]; exact hs.ev, ?_, ?_, fun i2 hi2 => ?_, fun i2 hi2 => ?_, fun i2 hi2 => ⟨(ft _).trans (hs.il i2 hi2).1, (fv _ (by have hi3 : i2 < 4 := Nat.lt_of_lt_of_le hi2 w4; omega)).trans (hs.il i2 hi2).2.1, fun q2 hq2 => ?_⟩, fun i2 hi2 => ?_, fun i2 q2 hi2 hq2 => ?_⟩
  · obtain ⟨s1, s2, s3⟩ := hs.sr.2.2 i2 hi2
    have hi3 : i2 < 4 := Nat.lt_of_lt_of_le hi2 w4
    rw [fx 1 (by omega) (by omega), fv (10 + i2) (by omega), fv (20 + i2) (by omega)]
    exact ⟨s1, s2, s3⟩
  · obtain ⟨s1, s2⟩ := hs.ar.2.2 i2 hi2
    have hi3 : i2 < 4 := Nat.lt_of_lt_of_le hi2 w4
    rw [fx 2 (by omega) (by omega), fv (30 + i2) (by omega), fv (40 + i2) (by omega)]
    exact ⟨s1, s2⟩
  · rw [fx 4 (by omega) (by omega)]; exact hs.rd
  · rw [fx 5 (by omega) (by omega)]; exact hs.vw
  · have hi3 : i2 < 4 := Nat.lt_of_lt_of_le hi2 w4
    rw [fx _ (by omega) (by omega)]; exact hs.sp i2 hi2
  · have hi3 : i2 < 4 := Nat.lt_of_lt_of_le hi2 w4
    rw [fx _ (by omega) (by omega)]; exact hs.sk i2 hi2
  · obtain ⟨s1, s2, s3⟩ := (hs.il i2 hi2).2.2 q2 hq2
    have hi3 : i2 < 4 := Nat.lt_of_lt_of_le hi2 w4
    have hq3 : q2 < 4 := Nat.lt_of_lt_of_le hq2 w4
    have hq4 : q < 4 := Nat.lt_of_lt_of_le hq w4
    by_cases e : i2 = i
    · subst e
      rw [fp, List.getElem?_set_ne (by omega)]
      refine ⟨s1, ?_, by rw [List.getElem?_set_ne (by omega)]; exact s3⟩
      by_cases e : q2 = q
      · subst e; rw [set_at s2, fcv]
      · rw [List.getElem?_set_ne (by omega), fv _ (by omega)]; exact s2
    · rw [fx _ (by omega) (by omega), fv _ (by omega)]
      exact ⟨s1, s2, s3⟩
  · have hi3 : i2 < 4 := Nat.lt_of_lt_of_le hi2 w4
    rw [fx _ (by omega) (by omega)]; exact hs.tb i2 hi2
  · have hi3 : i2 < 4 := Nat.lt_of_lt_of_le hi2 w4
    have hq3 : q2 < 4 := Nat.lt_of_lt_of_le hq2 w4
    have hq4 : q < 4 := Nat.lt_of_lt_of_le hq w4
    simp only
    by_cases e : i2 = i ∧ q2 = q
    · obtain ⟨rfl, rfl⟩ := e
      rw [updF2_same]; exact ⟨by rw [fc]; exact t1, by rw [fc]; exact t2, by rw [fc], by rw [fc]⟩
    · rw [updF2_ne (by omega), fx _ (by omega) (by omega)]; exact hs.ap i2 q2 hi2 hq2

theorem CLX.ready (h : CLX F X w m)  : ∃ cs a cp, GAt 0 F.jb (7) 64 cs a cp (m.ready) w ∧ ∀ (w' : World) (a' : Option Addr) (c' : Nat) (rs : List GX), GUpd 0 F.jb (7) 64 cs a cp (m.ready) w a' c' rs w' → Aft F X w { m with ready := rs } w' := by
  obtain ⟨L, hl, hs, rfl⟩ := h
  obtain ⟨w1, w4⟩ := hs.w4
  obtain ⟨t1, t2, t3, t4⟩ := hs.rd
  obtain ⟨cs, a, cp, hv, hla⟩ := hl.lat (o := 7) (c := 4) (by rw [hs.job.2.2]; rfl) hs.job.2.1 (by rw [hs.job.1, t1]; decide)
  have hla' := hla
  rw [hs.job.1, t1, t2, t3, t4] at hla'
  refine ⟨cs, a, cp, hla', fun w' a' c' rs hu => ?_⟩
  obtain ⟨hlay, hf, hx⟩ := hl.put (p := 0) (c := 4) (o := 7) (a' := a') (n' := rs.length) (c' := c') (xs' := gCells rs) hs.job.2.1 (by omega) hv hla (by rw [hs.job.1, t1, t2, t3]; exact hu)
  refine ⟨_, ⟨_, hlay, ?_, rfl⟩, hf, hx⟩
  generalize hL : putL L (0) (7) (4) (.slice a' rs.length c') rs.length (gCells rs) = L'
  have fv : ∀ x, x ≠ 4 → (L' x).v = (L x).v := fun x hx => by
    rw [← hL]; unfold putL; rw [if_neg hx]; split
    · rename_i e; rw [e]
    · rfl
  have ft : ∀ x, (L' x).ty = (L x).ty := fun x => by
    rw [← hL]; unfold putL; split
    · rename_i e; rw [e]
    · split
      · rename_i e; rw [e]
      · rfl
  have fx : ∀ x, x ≠ 4 → x ≠ 0 → L' x = L x := fun x h1 h2 => by rw [← hL]; exact putL_x h1 h2
  have fp : (L' (0)).xs = (L (0)).xs.set (7) (.slice a' rs.length c') := by rw [← hL, putL_p (by omega)]
  have fc : L' (4) = ⟨(L (4)).ty, (L (4)).sz, .slice a' rs.length c', rs.length, gCells rs⟩ := by rw [← hL]; exact putL_c _ _ _ _ _ _ _
  have fcv : (L' (4)).v = .slice a' rs.length c' := by rw [fc]
  refine ⟨⟨w1, w4⟩, ⟨(ft 0).trans hs.job.1, (fv 0 (by omega)).trans hs.job.2.1, by rw [fp, hs.job.2.2, fv 3 (by omega), fv 1 (by omega), fv 2 (by omega), fcv, fv 5 (by omega)]; rfl⟩, ⟨(ft 1).trans hs.sr.1, (fv 1 (by omega)).trans hs.sr.2.1, fun i2 hi2 => ?_⟩, ⟨(ft 2).trans hs.ar.1, (fv 2 (by omega)).trans hs.ar.2.1, fun i2 hi2 => ?_⟩, by rw [fx 3 (by omega) (by omega)]; exact hs.ev, ?_, ?_, fun i2 hi2 => ?_, fun i2 hi2 => ?_, fun i2 hi2 => ⟨(ft _).trans (hs.il i2 hi2).1, (fv _ (by have hi3 : i2 < 4 := Nat.lt_of_lt_of_le hi2 w4; omega)).trans (hs.il i2 hi2).2.1, fun q2 hq2 => ?_⟩, fun i2 hi2 => ?_, fun i2 q2 hi2 hq2 => ?_⟩
  · obtain ⟨s1, s2, s3⟩ := hs.sr.2.2 i2 hi2
    have hi3 : i2 < 4 := Nat.lt_of_lt_of_le hi2 w4
    rw [fx 1 (by omega) (by omega), fv (10 + i2) (by omega), fv (20 + i2) (by omega)]
    exact ⟨s1, s2, s3⟩
  · obtain ⟨s1, s2⟩ := hs.ar.2.2 i2 hi2
    have hi3 : i2 < 4 := Nat.lt_of_lt_of_le hi2 w4
    rw [fx 2 (by omega) (by omega), fv (30 + i2) (by omega), fv (40 + i2) (by omega)]
    exact ⟨s1, s2⟩
  · exact ⟨by rw [fc]; exact t1, by rw [fc]; exact t2, by rw [fc], by rw [fc]⟩
  · rw [fx 5 (by omega) (by omega)]; exact hs.vw
  · have hi3 : i2 < 4 := Nat.lt_of_lt_of_le hi2 w4
    rw [fx _ (by omega) (by omega)]; exact hs.sp i2 hi2
  · have hi3 : i2 < 4 := Nat.lt_of_lt_of_le hi2 w4
    rw [fx _ (by omega) (by omega)]; exact hs.sk i2 hi2
  · obtain ⟨s1, s2, s3⟩ := (hs.il i2 hi2).2.2 q2 hq2
    have hi3 : i2 < 4 := Nat.lt_of_lt_of_le hi2 w4
    rw [fx _ (by omega) (by omega), fv _ (by omega)]
    exact ⟨s1, s2, s3⟩
  · have hi3 : i2 < 4 := Nat.lt_of_lt_of_le hi2 w4
    rw [fx _ (by omega) (by omega)]; exact hs.tb i2 hi2
  · have hi3 : i2 < 4 := Nat.lt_of_lt_of_le hi2 w4
    have hq3 : q2 < 4 := Nat.lt_of_lt_of_le hq2 w4
    rw [fx _ (by omega) (by omega)]; exact hs.ap i2 q2 hi2 hq2

theorem CLX.vw (h : CLX F X w m)  : ∃ cs a cp, GAt 0 F.jb (9) 64 cs a cp (m.view) w ∧ ∀ (w' : World) (a' : Option Addr) (c' : Nat) (rs : List GX), GUpd 0 F.jb (9) 64 cs a cp (m.view) w a' c' rs w' → Aft F X w { m with view := rs } w' := by
  obtain ⟨L, hl, hs, rfl⟩ := h
  obtain ⟨w1, w4⟩ := hs.w4
  obtain ⟨t1, t2, t3, t4⟩ := hs.vw
  obtain ⟨cs, a, cp, hv, hla⟩ := hl.lat (o := 9) (c := 5) (by rw [hs.job.2.2]; rfl) hs.job.2.1 (by rw [hs.job.1, t1]; decide)
  have hla' := hla
  rw [hs.job.1, t1, t2, t3, t4] at hla'
  refine ⟨cs, a, cp, hla', fun w' a' c' rs hu => ?_⟩
  obtain ⟨hlay, hf, hx⟩ := hl.put (p := 0) (c := 5) (o := 9) (a' := a') (n' := rs.length) (c' := c') (xs' := gCells rs) hs.job.2.1 (by omega) hv hla (by rw [hs.job.1, t1, t2, t3]; exact hu)
  refine ⟨_, ⟨_, hlay, ?_, rfl⟩, hf, hx⟩
  generalize hL : putL L (0) (9) (5) (.slice a' rs.length c') rs.length (gCells rs) = L'
  have fv : ∀ x, x ≠ 5 → (L' x).v = (L x).v := fun x hx => by
    rw [← hL]; unfold putL; rw [if_neg hx]; split
    · rename_i e; rw [e]
    · rfl
  have ft : ∀ x, (L' x).ty = (L x).ty := fun x => by
    rw [← hL]; unfold putL; split
    · rename_i e; rw [e]
    · split
      · rename_i e; rw [e]
      · rfl
  have fx : ∀ x, x ≠ 5 → x ≠ 0 → L' x = L x := fun x h1 h2 => by rw [← hL]; exact putL_x h1 h2
  have fp : (L' (0)).xs = (L (0)).xs.set (9) (.slice a' rs.length c') := by rw [← hL, putL_p (by omega)]
  have fc : L' (5) = ⟨(L (5)).ty, (L (5)).sz, .slice a' rs.length c', rs.length, gCells rs⟩ := by rw [← hL]; exact putL_c _ _ _ _ _ _ _
  have fcv : (L' (5)).v = .slice a' rs.length c' := by rw [fc]
  refine ⟨⟨w1, w4⟩, ⟨(ft 0).trans hs.job.1, (fv 0 (by omega)).trans hs.job.2.1, by rw [fp, hs.job.2.2, fv 3 (by omega), fv 1 (by omega), fv 2 (by omega), fcv, fv 4 (by omega)]; rfl⟩, ⟨(ft 1).trans hs.sr.1, (fv 1 (by omega)).trans hs.sr.2.1, fun i2 hi2 => ?_⟩, ⟨(ft 2).trans hs.ar.1, (fv 2 (by omega)).trans hs.ar.2.1, fun i2 hi2 => ?_⟩, by rw [fx 3 (by omega) (by omega)]; exact hs.ev, ?_, ?_, fun i2 hi2 => ?_, fun i2 hi2 => ?_, fun i2 hi2 => ⟨(ft _).trans (hs.il i2 hi2).1, (fv _ (by have hi3 : i2 < 4 := Nat.lt_of_lt_of_le hi2 w4; omega)).trans (hs.il i2 hi2).2.1, fun q2 hq2 => ?_⟩, fun i2 hi2 => ?_, fun i2 q2 hi2 hq2 => ?_⟩
  · obtain ⟨s1, s2, s3⟩ := hs.sr.2.2 i2 hi2
    have hi3 : i2 < 4 := Nat.lt_of_lt_of_le hi2 w4
    rw [fx 1 (by omega) (by omega), fv (10 + i2) (by omega), fv (20 + i2) (by omega)]
    exact ⟨s1, s2, s3⟩
  · obtain ⟨s1, s2⟩ := hs.ar.2.2 i2 hi2
    have hi3 : i2 < 4 := Nat.lt_of_lt_of_le hi2 w4
    rw [fx 2 (by omega) (by omega), fv (30 + i2) (by omega), fv (40 + i2) (by omega)]
    exact ⟨s1, s2⟩
  · rw [fx 4 (by omega) (by omega)]; exact hs.rd
  · exact ⟨by rw [fc]; exact t1, by rw [fc]; exact t2, by rw [fc], by rw [fc]⟩
  · have hi3 : i2 < 4 := Nat.lt_of_lt_of_le hi2 w4
    rw [fx _ (by omega) (by omega)]; exact hs.sp i2 hi2
  · have hi3 : i2 < 4 := Nat.lt_of_lt_of_le hi2 w4
    rw [fx _ (by omega) (by omega)]; exact hs.sk i2 hi2
  · obtain ⟨s1, s2, s3⟩ := (hs.il i2 hi2).2.2 q2 hq2
    have hi3 : i2 < 4 := Nat.lt_of_lt_of_le hi2 w4
    rw [fx _ (by omega) (by omega), fv _ (by omega)]
    exact ⟨s1, s2, s3⟩
  · have hi3 : i2 < 4 := Nat.lt_of_lt_of_le hi2 w4
    rw [fx _ (by omega) (by omega)]; exact hs.tb i2 hi2
  · have hi3 : i2 < 4 := Nat.lt_of_lt_of_le hi2 w4
    have hq3 : q2 < 4 := Nat.lt_of_lt_of_le hq2 w4
    rw [fx _ (by omega) (by omega)]; exact hs.ap i2 q2 hi2 hq2

/-- A number of the job's own block. -/
theorem CLX.setJob (h : CLX F X w m) (o : Nat) (u : Value) (s a b l t f : Nat) (ho : o < 11) (hj : ∀ v3 v1 v2 v4 v5, (jobXs m v3 v1 v2 v4 v5).set o u = jobXs { m with sent := s, state := a, off := b, laid := l, last := t, offset := f } v3 v1 v2 v4 v5) : Aft F X w { m with sent := s, state := a, off := b, laid := l, last := t, offset := f } (w.setCell ⟨F.jb, o, none⟩ u) := by
  obtain ⟨L, hl, hs, rfl⟩ := h
  obtain ⟨w1, w4⟩ := hs.w4
  have hlen : o < (L 0).xs.length := by rw [hs.job.2.2]; exact ho
  obtain ⟨hlay, hf, hx⟩ := hl.set (p := 0) (o := o) (List.getElem?_eq_getElem hlen) hs.job.2.1 u
  refine ⟨_, ⟨_, hlay, ?_, rfl⟩, hf, fun g hg => .inl (hx g hg)⟩
  generalize hL : setL L 0 o u = L'
  have fx : ∀ x, x ≠ 0 → L' x = L x := fun x h1 => by rw [← hL]; exact setL_x h1
  have fp : L' 0 = { L 0 with xs := (L 0).xs.set o u } := by rw [← hL]; exact setL_p _ _ _ _
  refine ⟨⟨w1, w4⟩, ⟨by rw [fp]; exact hs.job.1, by rw [fp]; exact hs.job.2.1, ?_⟩, by rw [fx 1 (by omega)]; exact ⟨hs.sr.1, hs.sr.2.1, fun i2 hi2 => by rw [fx _ (by omega), fx _ (by omega)]; exact hs.sr.2.2 i2 hi2⟩, by rw [fx 2 (by omega)]; exact ⟨hs.ar.1, hs.ar.2.1, fun i2 hi2 => by rw [fx _ (by omega), fx _ (by omega)]; exact hs.ar.2.2 i2 hi2⟩, by rw [fx 3 (by omega)]; exact hs.ev, by rw [fx 4 (by omega)]; exact hs.rd, by rw [fx 5 (by omega)]; exact hs.vw, fun i2 hi2 => by rw [fx _ (by omega)]; exact hs.sp i2 hi2, fun i2 hi2 => by rw [fx _ (by omega)]; exact hs.sk i2 hi2, fun i2 hi2 => by rw [fx (30 + i2) (by omega)]; exact ⟨(hs.il i2 hi2).1, (hs.il i2 hi2).2.1, fun q2 hq2 => by rw [fx _ (by omega)]; exact (hs.il i2 hi2).2.2 q2 hq2⟩, fun i2 hi2 => by rw [fx _ (by omega)]; exact hs.tb i2 hi2, fun i2 q2 hi2 hq2 => by rw [fx _ (by omega)]; exact hs.ap i2 q2 hi2 hq2⟩
  rw [fp, fx 3 (by omega), fx 1 (by omega), fx 2 (by omega), fx 4 (by omega), fx 5 (by omega), ← hj, ← hs.job.2.2]

/-- Whether an inlet is stopped. -/
theorem CLX.setStop (h : CLX F X w m) (i q : Nat) (hi : i < m.W) (hq : q < m.W) (b : Bool) : Aft F X w { m with st := updF2 m.st i q b } (w.setCell ⟨F.ib i, q * 3 + 2, none⟩ (.bool b)) := by
  obtain ⟨L, hl, hs, rfl⟩ := h
  obtain ⟨w1, w4⟩ := hs.w4
  have hi4 : i < 4 := Nat.lt_of_lt_of_le hi w4
  have hq4 : q < 4 := Nat.lt_of_lt_of_le hq w4
  obtain ⟨hlay, hf, hx⟩ := hl.set (p := 30 + i) (o := q * 3 + 2) ((hs.il i hi).2.2 q hq).2.2 (hs.il i hi).2.1 (.bool b)
  refine ⟨_, ⟨_, hlay, ?_, rfl⟩, hf, fun g hg => .inl (hx g hg)⟩
  generalize hL : setL L (30 + i) (q * 3 + 2) (.bool b) = L'
  have fx : ∀ x, x ≠ 30 + i → L' x = L x := fun x h1 => by rw [← hL]; exact setL_x h1
  have fp : L' (30 + i) = { L (30 + i) with xs := (L (30 + i)).xs.set (q * 3 + 2) (.bool b) } := by rw [← hL]; exact setL_p _ _ _ _
  have fv : ∀ x, (L' x).v = (L x).v := fun x => by
    by_cases e : x = 30 + i
    · rw [e, fp]
    · rw [fx x e]
  refine ⟨⟨w1, w4⟩, by rw [fx 0 (by omega), fx 3 (by omega), fx 1 (by omega), fx 2 (by omega), fx 4 (by omega), fx 5 (by omega)]; exact hs.job, by rw [fx 1 (by omega)]; exact ⟨hs.sr.1, hs.sr.2.1, fun i2 hi2 => by rw [fv, fv]; exact hs.sr.2.2 i2 hi2⟩, by rw [fx 2 (by omega)]; exact ⟨hs.ar.1, hs.ar.2.1, fun i2 hi2 => by rw [fv, fv]; exact hs.ar.2.2 i2 hi2⟩, by rw [fx 3 (by omega)]; exact hs.ev, by rw [fx 4 (by omega)]; exact hs.rd, by rw [fx 5 (by omega)]; exact hs.vw, fun i2 hi2 => ?_, fun i2 hi2 => ?_, fun i2 hi2 => ?_, fun i2 hi2 => ?_, fun i2 q2 hi2 hq2 => ?_⟩
  · have hi3 : i2 < 4 := Nat.lt_of_lt_of_le hi2 w4
    rw [fx _ (by omega)]; exact hs.sp i2 hi2
  · have hi3 : i2 < 4 := Nat.lt_of_lt_of_le hi2 w4
    rw [fx _ (by omega)]; exact hs.sk i2 hi2
  · by_cases e : i2 = i
    · subst e
      refine ⟨by rw [fp]; exact (hs.il i2 hi2).1, by rw [fp]; exact (hs.il i2 hi2).2.1, fun q2 hq2 => ?_⟩
      obtain ⟨s1, s2, s3⟩ := (hs.il i2 hi2).2.2 q2 hq2
      rw [fp, fv]
      simp only
      rw [List.getElem?_set_ne (by omega), List.getElem?_set_ne (by omega)]
      refine ⟨s1, s2, ?_⟩
      by_cases e : q2 = q
      · subst e; rw [set_at s3, updF2_same]
      · rw [List.getElem?_set_ne (by omega), updF2_ne (by omega)]; exact s3
    · rw [fx (30 + i2) (by omega)]
      refine ⟨(hs.il i2 hi2).1, (hs.il i2 hi2).2.1, fun q2 hq2 => ?_⟩
      rw [fv]
      simp only
      rw [updF2_ne (by omega)]
      exact (hs.il i2 hi2).2.2 q2 hq2
  · have hi3 : i2 < 4 := Nat.lt_of_lt_of_le hi2 w4
    rw [fx _ (by omega)]; exact hs.tb i2 hi2
  · rw [fx _ (by omega)]; exact hs.ap i2 q2 hi2 hq2
end

end Go.Proofs.YthccpacmklhejabDoor

namespace Go.Proofs.YthccpacmklhejabDoor

theorem toA_mem {W k : Nat} {l : List ChgM} {c : ChgM} (h : c ∈ toA W k l) : c ∈ l ∧ c.pt.toNat % W = k := by
  unfold toA at h
  rw [List.mem_filter] at h
  exact ⟨h.1, by simpa using h.2⟩

theorem outsFrom_pt (es : List Ev) : ∀ pre, ∀ c ∈ outsFrom pre es, ∃ e ∈ es, c.pt = ((grp e.key).1 : Int) ∧ c.tx = (grp e.key).2 := by
  induction es with
  | nil => intro pre c hc; simp [outsFrom] at hc
  | cons e es ih =>
    intro pre c hc
    simp only [outsFrom, List.mem_append] at hc
    rcases hc with hc | hc
    · split at hc
      · simp only [List.mem_cons, List.not_mem_nil, or_false] at hc
        exact ⟨e, by simp, by rw [hc]; rfl, by rw [hc]; rfl⟩
      · simp at hc
    · obtain ⟨e', h1, h2⟩ := ih _ c hc
      exact ⟨e', by simp [h1], h2⟩

theorem allTo_mem {W k n : Nat} {E : List Ev} {c : ChgM} (h : c ∈ allTo W k n E) : 0 ≤ c.pt ∧ c.pt.toNat % W = k ∧ ∃ e ∈ E, c.pt = ((grp e.key).1 : Int) ∧ c.tx = (grp e.key).2 := by
  unfold allTo at h
  obtain ⟨i, _, hc⟩ := List.mem_flatMap.1 h
  obtain ⟨h1, h2⟩ := toA_mem hc
  obtain ⟨e, he, hp, ht⟩ := outsFrom_pt _ _ c h1
  unfold evs at he
  exact ⟨by rw [hp]; exact Int.natCast_nonneg _, h2, e, List.mem_of_mem_take (List.mem_filter.1 he).1, hp, ht⟩

/-- The sums of an adder's group, of the changes that it had taken at a mark. -/
theorem mark_sums {j : JobM} (hf : FlowOk j) (p n : Nat) (hn : n ≤ j.events.length) {l : List ChgM} (h : l.Perm (allTo j.width (p % j.width) n j.events)) :
    sumC (fun c => c.live) p l = tot fLive (j.events.take n) p ∧ sumC (fun c => c.delta) p l = tot fSum (j.events.take n) p ∧ sumC (fun _ => 1) p l = tot fCnt (j.events.take n) p := by
  rw [sumC_perm h, sumC_perm h, sumC_perm h]
  exact ⟨sum_allTo says_live hf.hW _ _ _ hn, sum_allTo says_sum hf.hW _ _ _ hn, sum_allTo says_cnt hf.hW _ _ _ hn⟩

/-- A group's value out of the changes of its adder. -/
def gvC (l : List ChgM) (p : Nat) : GV := ⟨p, sumC (fun c => c.live) p l, wrap16 (sumC (fun c => c.delta) p l), sumC (fun _ => 1) p l % 256⟩

theorem gvC_mark {j : JobM} (hf : FlowOk j) (p n : Nat) (hn : n ≤ j.events.length) {l : List ChgM} (h : l.Perm (allTo j.width (p % j.width) n j.events)) : gvC l p = gvOf (j.events.take n) p := by
  obtain ⟨h1, h2, h3⟩ := mark_sums hf p n hn h
  unfold gvC gvOf
  rw [h1, h2, h3]

theorem shown_mark {j : JobM} (hf : FlowOk j) (p n : Nat) (hn : n ≤ j.events.length) {l : List ChgM} (h : l.Perm (allTo j.width (p % j.width) n j.events)) : p ∈ ptsOf (j.events.take n) ↔ ∃ c ∈ l, c.pt = (p : Int) := by
  rw [(cnt_pos p (j.events.take n)).2, ← (mark_sums hf p n hn h).2.2, (sumC_one_pos p l).2]

theorem sumC_none {g : ChgM → Int} {p : Nat} {l : List ChgM} (h : ∀ c ∈ l, c.pt ≠ (p : Int)) : sumC g p l = 0 := by
  induction l with
  | nil => rfl
  | cons c l ih =>
    simp only [sumC]
    rw [if_neg (h c (by simp)), ih fun x hx => h x (by simp [hx])]
    rfl

/-- Did an adder take a change of a group between the last commit and its mark? -/
def AdderM.chgd (a : AdderM) (p : Nat) : Prop := ∃ c ∈ (a.got.take a.marked).drop a.kept, c.pt = (p : Int)

/-- What is laid over the view at a commit is what the first events make, as many as the checkpoint says; what isn't changed is as it was. -/
theorem commit_exact {j : JobM} (hf : FlowOk j) (hfl : j.fl = true) {p : Nat} {a : AdderM} (ha : j.adders[p % j.width]? = some a) (hp : a.passed = true) :
    (a.chgd p → p ∈ ptsOf (j.events.take j.off) ∧ gvC (a.got.take a.marked) p = gvOf (j.events.take j.off) p) ∧
    (¬ a.chgd p → gvOf (j.events.take j.off) p = gvOf (j.events.take j.base) p ∧ (p ∈ ptsOf (j.events.take j.off) ↔ p ∈ ptsOf (j.events.take j.base))) := by
  have o := hf.adders _ a ha
  obtain ⟨m1, m2, m3, _⟩ := o.mark hfl hp
  have hoff := hf.off hfl
  have hno : j.off ≤ j.events.length := Nat.le_trans hoff.2 hf.sent
  have hnb : j.base ≤ j.events.length := Nat.le_trans hf.base hf.sent
  refine ⟨fun h => ?_, fun h => ?_⟩
  · obtain ⟨c, hc, hcp⟩ := h
    exact ⟨(shown_mark hf p _ hno m3).2 ⟨c, List.mem_of_mem_drop hc, hcp⟩, gvC_mark hf p _ hno m3⟩
  · have hspl : a.got.take a.marked = a.got.take a.kept ++ (a.got.take a.marked).drop a.kept := by
      have h1 : (a.got.take a.marked).take a.kept = a.got.take a.kept := by rw [List.take_take, Nat.min_eq_left m1]
      rw [← h1, List.take_append_drop]
    have hz : ∀ g : ChgM → Int, sumC g p (a.got.take a.marked) = sumC g p (a.got.take a.kept) := fun g => by
      rw [hspl, sumC_append, sumC_none (l := (a.got.take a.marked).drop a.kept) (fun c hc e => h ⟨c, hc, e⟩)]
      omega
    have hg : gvC (a.got.take a.marked) p = gvC (a.got.take a.kept) p := by
      unfold gvC
      rw [hz, hz, hz]
    refine ⟨by rw [← gvC_mark hf p _ hno m3, hg, gvC_mark hf p _ hnb o.kept_perm], ?_⟩
    rw [shown_mark hf p _ hno m3, shown_mark hf p _ hnb o.kept_perm, ← (sumC_one_pos p _).2, ← (sumC_one_pos p _).2, hz]

/-- Rows in their order, none twice, are known by their members. -/
theorem sorted_ext {l1 l2 : List GV} (h1 : (l1.map (fun r => r.pt)).Pairwise (· < ·)) (h2 : (l2.map (fun r => r.pt)).Pairwise (· < ·)) (h : ∀ r, r ∈ l1 ↔ r ∈ l2) : l1 = l2 := by
  induction l1 generalizing l2 with
  | nil =>
    cases l2 with
    | nil => rfl
    | cons r l2 => exact absurd ((h r).2 (by simp)) (by simp)
  | cons a l1 ih =>
    cases l2 with
    | nil => exact absurd ((h a).1 (by simp)) (by simp)
    | cons b l2 =>
      simp only [List.map_cons, List.pairwise_cons] at h1 h2
      have hlt1 : ∀ r ∈ l1, a.pt < r.pt := fun r hr => h1.1 r.pt (List.mem_map.2 ⟨r, hr, rfl⟩)
      have hlt2 : ∀ r ∈ l2, b.pt < r.pt := fun r hr => h2.1 r.pt (List.mem_map.2 ⟨r, hr, rfl⟩)
      have hab : a = b := by
        rcases List.mem_cons.1 ((h a).1 (by simp)) with e | ha
        · exact e
        · rcases List.mem_cons.1 ((h b).2 (by simp)) with e | hb
          · exact e.symm
          · have := hlt2 a ha
            have := hlt1 b hb
            omega
      subst hab
      congr 1
      refine ih h1.2 h2.2 fun r => ⟨fun hr => ?_, fun hr => ?_⟩
      · rcases List.mem_cons.1 ((h r).1 (by simp [hr])) with e | hr2
        · subst e; have := hlt1 r hr; omega
        · exact hr2
      · rcases List.mem_cons.1 ((h r).2 (by simp [hr])) with e | hr2
        · subst e; have := hlt2 r hr; omega
        · exact hr2

theorem tabOf_sorted (es : List Ev) : ((tabOf es).map (fun r => r.pt)).Pairwise (· < ·) := by
  unfold tabOf
  rw [List.map_map]
  have : (ptsOf es).map ((fun r : GV => r.pt) ∘ gvOf es) = ptsOf es := by
    conv => rhs; rw [← List.map_id (ptsOf es)]
    exact List.map_congr_left fun p _ => rfl
  rw [this]
  exact ptsOf_sorted es

theorem mem_tabOf (es : List Ev) (r : GV) : r ∈ tabOf es ↔ r.pt ∈ ptsOf es ∧ r = gvOf es r.pt := by
  unfold tabOf
  rw [List.mem_map]
  constructor
  · rintro ⟨p, hp, rfl⟩
    exact ⟨hp, rfl⟩
  · rintro ⟨h1, h2⟩
    exact ⟨r.pt, h1, h2.symm⟩

/-- The view behind a commit. -/
theorem view_exact {j : JobM} (hf : FlowOk j) (hfl : j.fl = true) (hp : ∀ a ∈ j.adders, a.passed = true) {view : List GV} (hs : (view.map (fun r => r.pt)).Pairwise (· < ·))
    (hv : ∀ r, r ∈ view ↔ ∃ a, j.adders[r.pt % j.width]? = some a ∧ ((a.chgd r.pt ∧ r = gvC (a.got.take a.marked) r.pt) ∨ (¬ a.chgd r.pt ∧ r ∈ tabOf (j.events.take j.base)))) : view = tabOf (j.events.take j.off) := by
  refine sorted_ext hs (tabOf_sorted _) fun r => ?_
  rw [hv]
  refine Iff.trans ?_ (mem_tabOf _ _).symm
  have hk : r.pt % j.width < j.adders.length := by rw [hf.lenA]; exact Nat.mod_lt _ hf.hW
  have ha : j.adders[r.pt % j.width]? = some (j.adders[r.pt % j.width]) := List.getElem?_eq_getElem hk
  obtain ⟨c1, c2⟩ := commit_exact hf hfl ha (hp _ (List.getElem_mem hk))
  constructor
  · rintro ⟨a, ha', h⟩
    rw [ha] at ha'
    simp only [Option.some.injEq] at ha'
    subst ha'
    rcases h with ⟨h1, h2⟩ | ⟨h1, h2⟩
    · exact ⟨(c1 h1).1, h2.trans (c1 h1).2⟩
    · obtain ⟨d1, d2⟩ := (mem_tabOf _ _).1 h2
      exact ⟨(c2 h1).2.2 d1, d2.trans (c2 h1).1.symm⟩
  · rintro ⟨h1, h2⟩
    refine ⟨_, ha, ?_⟩
    by_cases hc : (j.adders[r.pt % j.width]).chgd r.pt
    · exact .inl ⟨hc, h2.trans (c1 hc).2.symm⟩
    · exact .inr ⟨hc, (mem_tabOf _ _).2 ⟨(c2 hc).2.1 h1, h2.trans (c2 hc).1⟩⟩

end Go.Proofs.YthccpacmklhejabDoor

namespace Go.Proofs.YthccpacmklhejabDoor

abbrev sortedX (t : List GX) : Prop := (t.map (fun x => x.v.pt)).Pairwise (· < ·)

theorem sortedX_cons {r : GX} {t : List GX} : sortedX (r :: t) ↔ (∀ x ∈ t, r.v.pt < x.v.pt) ∧ sortedX t := by
  unfold sortedX
  rw [List.map_cons, List.pairwise_cons]
  simp

theorem sortedX_eq {t : List GX} (h : sortedX t) : ∀ {x y : GX}, x ∈ t → y ∈ t → x.v.pt = y.v.pt → x = y := by
  induction t with
  | nil => intro x y hx; cases hx
  | cons r t ih =>
    obtain ⟨h1, h2⟩ := sortedX_cons.1 h
    intro x y hx hy he
    rcases List.mem_cons.1 hx with e1 | hx'
    · rcases List.mem_cons.1 hy with e2 | hy'
      · rw [e1, e2]
      · have := h1 y hy'
        rw [e1] at he
        omega
    · rcases List.mem_cons.1 hy with e2 | hy'
      · have := h1 x hx'
        rw [e2] at he
        omega
      · exact ih h2 hx' hy' he

/-- A group, laid over a table. -/
def putX (x : GX) : List GX → List GX
  | [] => [x]
  | r :: rs => if r.v.pt < x.v.pt then r :: putX x rs else if r.v.pt = x.v.pt then x :: rs else x :: r :: rs

theorem home_put (x : GX) : ∀ rs : List GX, (homeX x.v.pt rs).set (plcX x.v.pt rs) x = putX x rs
  | [] => by simp [homeX, plcX, putX]
  | r :: rs => by
    by_cases c : r.v.pt < x.v.pt
    · have e : plcX x.v.pt (r :: rs) = plcX x.v.pt rs + 1 := by simp [plcX, c]
      have e2 : homeX x.v.pt (r :: rs) = r :: homeX x.v.pt rs := by
        unfold homeX
        rw [e]
        simp only [List.getElem?_cons_succ, List.take_succ_cons, List.drop_succ_cons]
        split <;> simp
      rw [e, e2, List.set_cons_succ, home_put x rs]
      conv => rhs; unfold putX
      rw [if_pos c]
    · have e : plcX x.v.pt (r :: rs) = 0 := by simp [plcX, c]
      by_cases d : r.v.pt = x.v.pt
      · have e2 : homeX x.v.pt (r :: rs) = r :: rs := by
          unfold homeX
          rw [e]
          simp [d]
        rw [e, e2, List.set_cons_zero]
        unfold putX
        rw [if_neg c, if_pos d]
      · have e2 : homeX x.v.pt (r :: rs) = ⟨⟨x.v.pt, 0, 0, 0⟩, false⟩ :: r :: rs := by
          unfold homeX
          rw [e]
          simp [d]
        rw [e, e2, List.set_cons_zero]
        unfold putX
        rw [if_neg c, if_neg d]

theorem mem_putX {x : GX} : ∀ {t : List GX}, sortedX t → ∀ y, y ∈ putX x t ↔ y = x ∨ (y ∈ t ∧ y.v.pt ≠ x.v.pt)
  | [], _, y => by simp [putX]
  | r :: t, h, y => by
    obtain ⟨h1, h2⟩ := sortedX_cons.1 h
    unfold putX
    by_cases c : r.v.pt < x.v.pt
    · rw [if_pos c, List.mem_cons, mem_putX h2 y, List.mem_cons]
      constructor
      · rintro (rfl | h | ⟨h3, h4⟩)
        · exact .inr ⟨.inl rfl, by omega⟩
        · exact .inl h
        · exact .inr ⟨.inr h3, h4⟩
      · rintro (h | ⟨h3 | h3, h4⟩)
        · exact .inr (.inl h)
        · exact .inl h3
        · exact .inr (.inr ⟨h3, h4⟩)
    · rw [if_neg c]
      by_cases d : r.v.pt = x.v.pt
      · rw [if_pos d, List.mem_cons, List.mem_cons]
        constructor
        · rintro (h | h)
          · exact .inl h
          · have := h1 y h
            exact .inr ⟨.inr h, by omega⟩
        · rintro (h | ⟨h3 | h3, h4⟩)
          · exact .inl h
          · subst h3
            exact absurd d h4
          · exact .inr h3
      · rw [if_neg d, List.mem_cons]
        constructor
        · rintro (h | h)
          · exact .inl h
          · refine .inr ⟨h, ?_⟩
            rcases List.mem_cons.1 h with rfl | h
            · exact d
            · have := h1 y h
              omega
        · rintro (h | ⟨h3, h4⟩)
          · exact .inl h
          · exact .inr h3

theorem putX_sorted {x : GX} : ∀ {t : List GX}, sortedX t → sortedX (putX x t)
  | [], _ => by simp [putX, sortedX]
  | r :: t, h => by
    obtain ⟨h1, h2⟩ := sortedX_cons.1 h
    unfold putX
    by_cases c : r.v.pt < x.v.pt
    · rw [if_pos c, sortedX_cons]
      refine ⟨fun y hy => ?_, putX_sorted h2⟩
      rcases (mem_putX h2 y).1 hy with rfl | ⟨h3, _⟩
      · exact c
      · exact h1 y h3
    · rw [if_neg c]
      by_cases d : r.v.pt = x.v.pt
      · rw [if_pos d, sortedX_cons]
        exact ⟨fun y hy => by have := h1 y hy; omega, h2⟩
      · rw [if_neg d, sortedX_cons]
        refine ⟨fun y hy => ?_, h⟩
        rcases List.mem_cons.1 hy with rfl | hy
        · omega
        · have := h1 y hy
          omega

def layX (over t : List GX) : List GX := over.foldl (fun t x => putX x t) t

theorem layX_facts : ∀ (over t : List GX), sortedX t → sortedX over → sortedX (layX over t) ∧ ∀ y, y ∈ layX over t ↔ y ∈ over ∨ (y ∈ t ∧ ∀ z ∈ over, z.v.pt ≠ y.v.pt)
  | [], t, h, _ => ⟨h, fun y => by simp [layX]⟩
  | x :: over, t, h, ho => by
    obtain ⟨h1, h2⟩ := sortedX_cons.1 ho
    obtain ⟨i1, i2⟩ := layX_facts over (putX x t) (putX_sorted h) h2
    refine ⟨i1, fun y => ?_⟩
    rw [show layX (x :: over) t = layX over (putX x t) from rfl, i2, mem_putX h]
    simp only [List.mem_cons]
    constructor
    · rintro (h3 | ⟨rfl | ⟨h3, h4⟩, h5⟩)
      · exact .inl (.inr h3)
      · exact .inl (.inl rfl)
      · refine .inr ⟨h3, fun z hz => ?_⟩
        rcases hz with rfl | hz
        · exact fun e => h4 e.symm
        · exact h5 z hz
    · rintro ((rfl | h3) | ⟨h3, h4⟩)
      · exact .inr ⟨.inl rfl, fun z hz => by have := h1 z hz; omega⟩
      · exact .inl h3
      · exact .inr ⟨.inr ⟨h3, fun e => h4 x (.inl rfl) e.symm⟩, fun z hz => h4 z (.inr hz)⟩

theorem layX_length (over : List GX) : ∀ t : List GX, (layX over t).length ≤ t.length + over.length := by
  have hp : ∀ (x : GX) (t : List GX), (putX x t).length ≤ t.length + 1 := by
    intro x t
    induction t with
    | nil => simp [putX]
    | cons r t ih =>
      unfold putX
      split
      · simp only [List.length_cons]; omega
      · split <;> simp only [List.length_cons] <;> omega
  induction over with
  | nil => intro t; exact Nat.le_refl _
  | cons x over ih =>
    intro t
    have := ih (putX x t)
    have h2 := hp x t
    rw [show layX (x :: over) t = layX over (putX x t) from rfl]
    simp only [List.length_cons]
    omega

/-- The groups without their flags. -/
def calmX (x : GX) : GX := ⟨x.v, false⟩
def takenX (t : List GX) : List GX := (t.filter (fun x => x.ch)).map calmX

theorem calm_sorted {t : List GX} (h : sortedX t) : sortedX (t.map calmX) := by
  unfold sortedX
  rw [List.map_map]
  exact h

theorem taken_sorted {t : List GX} (h : sortedX t) : sortedX (takenX t) := by
  unfold takenX
  refine calm_sorted ?_
  exact List.Pairwise.sublist (List.Sublist.map _ List.filter_sublist) h

theorem mem_taken {t : List GX} (x : GX) : x ∈ takenX t ↔ ∃ y ∈ t, y.ch = true ∧ x = calmX y := by
  unfold takenX
  simp only [List.mem_map, List.mem_filter]
  constructor
  · rintro ⟨y, ⟨h1, h2⟩, rfl⟩
    exact ⟨y, h1, h2, rfl⟩
  · rintro ⟨y, h1, h2, rfl⟩
    exact ⟨y, ⟨h1, h2⟩, rfl⟩

/-- A table of changes; chg: those since the last TakeChanged. -/
structure TabIs (t : List GX) (got chg : List ChgM) : Prop where
  sorted : sortedX t
  mem : ∀ x, x ∈ t ↔ (∃ c ∈ got, c.pt = (x.v.pt : Int)) ∧ x.v = gvC got x.v.pt ∧ (x.ch = true ↔ ∃ c ∈ chg, c.pt = (x.v.pt : Int))

theorem TabIs.nil : TabIs [] [] [] := ⟨by simp [sortedX], fun x => by simp⟩

theorem TabIs.perm {t : List GX} {got got' chg chg' : List ChgM} (h : TabIs t got chg) (hp : got.Perm got') (hc : ∀ c, c ∈ chg ↔ c ∈ chg') : TabIs t got' chg' := by
  refine ⟨h.sorted, fun x => (h.mem x).trans ?_⟩
  have hg : gvC got x.v.pt = gvC got' x.v.pt := by
    unfold gvC
    rw [sumC_perm hp, sumC_perm hp, sumC_perm hp]
  rw [hg]
  constructor
  · rintro ⟨⟨c, h1, h2⟩, h3, h4⟩
    refine ⟨⟨c, hp.mem_iff.1 h1, h2⟩, h3, h4.trans ?_⟩
    exact ⟨fun ⟨c, a, b⟩ => ⟨c, (hc c).1 a, b⟩, fun ⟨c, a, b⟩ => ⟨c, (hc c).2 a, b⟩⟩
  · rintro ⟨⟨c, h1, h2⟩, h3, h4⟩
    refine ⟨⟨c, hp.mem_iff.2 h1, h2⟩, h3, h4.trans ?_⟩
    exact ⟨fun ⟨c, a, b⟩ => ⟨c, (hc c).2 a, b⟩, fun ⟨c, a, b⟩ => ⟨c, (hc c).1 a, b⟩⟩

theorem add_put (p : Nat) (l s : Int) : ∀ (t : List GX), sortedX t → ∃ x : GX, x.v.pt = p ∧ x.ch = true ∧ addX p l s t = putX x t ∧ ((∃ y ∈ t, y.v.pt = p ∧ x.v = y.v.plus l s) ∨ ((∀ y ∈ t, y.v.pt ≠ p) ∧ x.v = (GV.mk p 0 0 0).plus l s))
  | [], _ => ⟨⟨(GV.mk p 0 0 0).plus l s, true⟩, rfl, rfl, rfl, .inr ⟨by simp, rfl⟩⟩
  | r :: t, h => by
    obtain ⟨h1, h2⟩ := sortedX_cons.1 h
    by_cases c : r.v.pt < p
    · obtain ⟨x, e1, e2, e3, e4⟩ := add_put p l s t h2
      refine ⟨x, e1, e2, ?_, ?_⟩
      · unfold addX putX
        rw [if_pos c, e1, if_pos c, e3]
      · rcases e4 with ⟨y, a, b⟩ | ⟨a, b⟩
        · exact .inl ⟨y, by simp [a], b⟩
        · refine .inr ⟨fun y hy => ?_, b⟩
          rcases List.mem_cons.1 hy with rfl | hy
          · omega
          · exact a y hy
    · by_cases d : r.v.pt = p
      · refine ⟨⟨r.v.plus l s, true⟩, d, rfl, ?_, .inl ⟨r, by simp, d, rfl⟩⟩
        have e : (GX.mk (r.v.plus l s) true).v.pt = r.v.pt := rfl
        have c2 : ¬ r.v.pt < (GX.mk (r.v.plus l s) true).v.pt := by rw [e]; omega
        unfold addX putX
        rw [if_neg c, if_pos d, if_neg c2, if_pos e.symm]
      · refine ⟨⟨(GV.mk p 0 0 0).plus l s, true⟩, rfl, rfl, ?_, .inr ⟨fun y hy => ?_, rfl⟩⟩
        · have e : (GX.mk ((GV.mk p 0 0 0).plus l s) true).v.pt = p := rfl
          have c2 : ¬ r.v.pt < (GX.mk ((GV.mk p 0 0 0).plus l s) true).v.pt := by rw [e]; exact c
          have d2 : ¬ r.v.pt = (GX.mk ((GV.mk p 0 0 0).plus l s) true).v.pt := by rw [e]; exact d
          unfold addX putX
          rw [if_neg c, if_neg d, if_neg c2, if_neg d2]
        · rcases List.mem_cons.1 hy with rfl | hy
          · exact d
          · have := h1 y hy
            omega

theorem gvC_snoc {got : List ChgM} {c : ChgM} {p : Nat} (h : c.pt = (p : Int)) : gvC (got ++ [c]) p = (gvC got p).plus c.live (wrap16 c.delta) := by
  unfold gvC GV.plus
  rw [sumC_append, sumC_append, sumC_append]
  simp only [sumC, if_pos h, Int.add_zero, GV.mk.injEq, true_and]
  refine ⟨?_, ?_⟩
  · rw [wrap16_add', wrap16_add]
  · omega

theorem gvC_other {got : List ChgM} {c : ChgM} {p : Nat} (h : c.pt ≠ (p : Int)) : gvC (got ++ [c]) p = gvC got p := by
  unfold gvC
  rw [sumC_append, sumC_append, sumC_append]
  simp only [sumC, if_neg h, Int.add_zero]

theorem gvC_none {got : List ChgM} {p : Nat} (h : ∀ c ∈ got, c.pt ≠ (p : Int)) : gvC got p = ⟨p, 0, 0, 0⟩ := by
  unfold gvC
  rw [sumC_none h, sumC_none h, sumC_none h]
  rfl

theorem TabIs.add {t : List GX} {got chg : List ChgM} (h : TabIs t got chg) {c : ChgM} {p : Nat} (hp : c.pt = (p : Int)) : TabIs (addX p c.live (wrap16 c.delta) t) (got ++ [c]) (chg ++ [c]) := by
  obtain ⟨x, e1, e2, e3, e4⟩ := add_put p c.live (wrap16 c.delta) t h.sorted
  have ex : x.v = gvC (got ++ [c]) p := by
    rw [gvC_snoc hp]
    rcases e4 with ⟨y, a, b, d⟩ | ⟨a, b⟩
    · rw [d, ((h.mem y).1 a).2.1, b]
    · rw [b]
      rw [gvC_none fun c' hc' e => ?_]
      have hm : (⟨gvC got p, decide (∃ c ∈ chg, c.pt = (p : Int))⟩ : GX) ∈ t := (h.mem _).2 ⟨⟨c', hc', e⟩, rfl, by simp [gvC]⟩
      exact a _ hm rfl
  rw [e3]
  refine ⟨putX_sorted h.sorted, fun y => (mem_putX h.sorted y).trans ?_⟩
  by_cases hy : y.v.pt = p
  · have hcp : c.pt = (y.v.pt : Int) := by rw [hy]; exact hp
    constructor
    · rintro (rfl | ⟨_, hne⟩)
      · refine ⟨⟨c, by simp, hcp⟩, by rw [hy]; exact ex, by rw [e2]; exact ⟨fun _ => ⟨c, by simp, hcp⟩, fun _ => rfl⟩⟩
      · exact absurd (hy.trans e1.symm) hne
    · rintro ⟨_, h2, h3⟩
      left
      have hch : y.ch = true := h3.2 ⟨c, by simp, hcp⟩
      have hv : y.v = x.v := by rw [h2, hy, ex]
      cases y
      cases x
      simp only at hch hv e2
      rw [hv, hch, e2]
  · have hcp : c.pt ≠ (y.v.pt : Int) := fun e => hy (by omega)
    have hm1 : ∀ l : List ChgM, (∃ c' ∈ l ++ [c], c'.pt = (y.v.pt : Int)) ↔ ∃ c' ∈ l, c'.pt = (y.v.pt : Int) := fun l => by
      constructor
      · rintro ⟨c', h1, h2⟩
        rcases List.mem_append.1 h1 with h1 | h1
        · exact ⟨c', h1, h2⟩
        · simp only [List.mem_singleton] at h1
          subst h1
          exact absurd h2 hcp
      · rintro ⟨c', h1, h2⟩
        exact ⟨c', by simp [h1], h2⟩
    rw [hm1, hm1, gvC_other hcp, ← h.mem y]
    constructor
    · rintro (rfl | ⟨h1, _⟩)
      · exact absurd e1 hy
      · exact h1
    · intro h1
      exact .inr ⟨h1, fun e => hy (e.trans e1)⟩

theorem TabIs.calmed {t : List GX} {got chg : List ChgM} (h : TabIs t got chg) : TabIs (t.map calmX) got [] := by
  refine ⟨calm_sorted h.sorted, fun x => ?_⟩
  simp only [List.mem_map]
  constructor
  · rintro ⟨y, hy, rfl⟩
    obtain ⟨a, b, _⟩ := (h.mem y).1 hy
    exact ⟨a, b, by simp [calmX]⟩
  · rintro ⟨a, b, d⟩
    refine ⟨⟨x.v, decide (∃ c ∈ chg, c.pt = (x.v.pt : Int))⟩, (h.mem _).2 ⟨a, b, by simp⟩, ?_⟩
    have hf : x.ch = false := by
      cases e : x.ch with
      | false => rfl
      | true => obtain ⟨c, hc, _⟩ := d.1 e; cases hc
    cases x
    simp only at hf
    rw [hf]
    rfl

theorem TabIs.taken {t : List GX} {got chg : List ChgM} (h : TabIs t got chg) (hsub : ∀ c ∈ chg, c ∈ got) (x : GX) : x ∈ takenX t ↔ (∃ c ∈ chg, c.pt = (x.v.pt : Int)) ∧ x.v = gvC got x.v.pt ∧ x.ch = false := by
  rw [mem_taken]
  constructor
  · rintro ⟨y, hy, hc, rfl⟩
    obtain ⟨a, b, d⟩ := (h.mem y).1 hy
    exact ⟨d.1 hc, b, rfl⟩
  · rintro ⟨⟨c, hc, hp⟩, b, d⟩
    refine ⟨⟨x.v, true⟩, (h.mem _).2 ⟨⟨c, hsub c hc, hp⟩, b, ?_⟩, rfl, ?_⟩
    · simp only [true_iff]
      exact ⟨c, hc, hp⟩
    · cases x
      simp only at d
      rw [d]
      rfl

end Go.Proofs.YthccpacmklhejabDoor
