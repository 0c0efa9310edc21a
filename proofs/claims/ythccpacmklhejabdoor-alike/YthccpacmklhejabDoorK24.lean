/-
  Several texts in one.
-/
import Derived.Test.YthccpacmklhejabDoorK23
namespace Go.Proofs.YthccpacmklhejabDoor
open Go.RowKit

theorem AdderM.openC (a : AdderM) (W : Nat) (hp : a.pipes.length = W) (hs : a.stopped.length = W) :
    (a.take W = none ∧ ∀ (q : Nat) (p : List ChgM), a.pipes[q]? = some p → ∀ b, a.stopped[q]? = some b → b = true ∨ p = []) ∨
    ∃ c rest, a.pipes[a.firstOpen]? = some (c :: rest) ∧ a.stopped[a.firstOpen]? = some false ∧ a.firstOpen < W ∧
      ∀ (q : Nat), q < a.firstOpen → ∀ (p : List ChgM), a.pipes[q]? = some p → ∀ b, a.stopped[q]? = some b → b = true ∨ p = [] := by
  have hz : (a.stopped.zip a.pipes).length = W := by simp [hp, hs]
  have closed : ∀ (q : Nat), q < a.firstOpen → ∀ (p : List ChgM), a.pipes[q]? = some p → ∀ b, a.stopped[q]? = some b → b = true ∨ p = [] := fun q hq p h1 b h2 => by
    obtain ⟨l1, e1⟩ := List.getElem?_eq_some_iff.1 h1
    obtain ⟨l2, e2⟩ := List.getElem?_eq_some_iff.1 h2
    have := List.not_of_lt_findIdx (p := fun x : Bool × List ChgM => !x.1 && !x.2.isEmpty) (xs := a.stopped.zip a.pipes) (i := q) hq
    simp only [List.getElem_zip, e1, e2] at this
    cases b with
    | true => exact .inl rfl
    | false =>
      have h5 : p.isEmpty = true := by simpa using this
      exact .inr (List.isEmpty_iff.1 h5)
  by_cases hlt : a.firstOpen < W
  · have h1 : a.firstOpen < a.pipes.length := by omega
    have h2 : a.firstOpen < a.stopped.length := by omega
    have hf := List.findIdx_getElem (p := fun x : Bool × List ChgM => !x.1 && !x.2.isEmpty) (xs := a.stopped.zip a.pipes) (w := by show a.firstOpen < _; omega)
    simp only [List.getElem_zip, Bool.and_eq_true, Bool.not_eq_true'] at hf
    have hf1 : a.stopped[a.firstOpen] = false := hf.1
    have hf2 : (a.pipes[a.firstOpen]).isEmpty = false := hf.2
    refine .inr ?_
    cases hpp : a.pipes[a.firstOpen] with
    | nil => rw [hpp] at hf2; cases hf2
    | cons c rest => exact ⟨c, rest, by rw [List.getElem?_eq_getElem h1, hpp], by rw [List.getElem?_eq_getElem h2, hf1], hlt, closed⟩
  · refine .inl ⟨?_, fun q p h1 b h2 => closed q (by have := (List.getElem?_eq_some_iff.1 h1).1; omega) p h1 b h2⟩
    unfold AdderM.take
    rw [List.getElem?_eq_none (by omega)]

section
variable {F : Fx} {X : Nat → Prop} {w : World} {m : CM} {j : JobM}

theorem Abs.blocked (h : Abs m j) {k : Nat} {a : AdderM} (ha : j.adders[k]? = some a) {q : Nat} (hq : q < j.width) (hb : ∀ (p : List ChgM), a.pipes[q]? = some p → ∀ b, a.stopped[q]? = some b → b = true ∨ p = []) : m.st k q = true ∨ m.ap k q = [] := by
  have o := h.flow.adders k a ha
  have hp : a.pipes[q]? = some (a.pipes[q]'(by rw [o.lenP]; exact hq)) := List.getElem?_eq_getElem _
  have hs : a.stopped[q]? = some (a.stopped[q]'(by rw [o.lenS]; exact hq)) := List.getElem?_eq_getElem _
  rcases hb _ hp _ hs with e | e
  · exact .inl ((h.st k a ha q _ hs).trans e)
  · refine .inr ?_
    rw [h.ap k a ha q _ hp, e]
    rfl

theorem marked_le (h : Abs m j) {k : Nat} {a : AdderM} (ha : j.adders[k]? = some a) : a.marked ≤ a.got.length := by
  have o := h.flow.adders k a ha
  by_cases hp : j.fl = true → a.passed = false
  · rw [o.still hp]; exact o.kept_le
  · have h1 : j.fl = true := Classical.byContradiction fun y => hp fun z => absurd z y
    have h2 : a.passed = true := by
      cases hh : a.passed with
      | true => rfl
      | false => exact absurd (fun _ => hh) hp
    exact (o.mark h1 h2).2.1

theorem set_key {l : List AdderM} {k : Nat} {a a' : AdderM} (ha : l[k]? = some a) (hk : keyA a' = keyA a) (x : Nat) : ((l.set k a')[x]?).map keyA = (l[x]?).map keyA := by
  by_cases e : x = k
  · subst e
    rw [List.getElem?_set_self (List.getElem?_eq_some_iff.1 ha).1, ha]
    simp [hk]
  · rw [List.getElem?_set_ne (fun y => e y.symm)]

theorem abs_add (h : Abs m j) {k : Nat} {a : AdderM} (ha : j.adders[k]? = some a) {c : ChgM} {rest : List ChgM} (hp : a.pipes[a.firstOpen]? = some (c :: rest)) (hc : 0 ≤ c.pt) : Abs { m with ap := updF2 m.ap k a.firstOpen (rest.map itA), tb := updF m.tb k (addX c.pt.toNat c.live (wrap16 c.delta) (m.tb k)) } { j with adders := j.adders.set k { a with pipes := a.pipes.set a.firstOpen rest, got := a.got ++ [c] } } := by
  have hfl := flow_adds h.flow k
  have hop := open_adds h.flow h.opn k
  have ht : a.take j.width = some { a with pipes := a.pipes.set a.firstOpen rest, got := a.got ++ [c] } := by
    unfold AdderM.take
    simp only [hp, if_pos hc]
  have hs2 : j.adds k = (0, { j with adders := j.adders.set k { a with pipes := a.pipes.set a.firstOpen rest, got := a.got ++ [c] } }) := by
    unfold JobM.adds
    simp only [ha, ht]
  rw [hs2] at hfl hop
  have hml := marked_le h ha
  have hk : keyA { a with pipes := a.pipes.set a.firstOpen rest, got := a.got ++ [c] } = keyA a := by
    unfold keyA
    simp only
    rw [List.take_append_of_le_length hml]
  refine ⟨h.W, h.R, h.w4, h.r4, h.evs, h.len, h.ev, hfl, hop, h.sent, h.sp, h.spl, fun k' a' ha' q p hq => ?_, fun k' a' ha' q p hq => ?_, fun k' a' ha' q b hq => ?_, fun k' a' ha' => ?_, h.state, h.off, ?_, h.ready.congr rfl rfl (fun x => set_key ha hk x), h.last, h.view, h.offset⟩
  · show updF2 m.ap k a.firstOpen (rest.map itA) k' q = _
    rcases set_get ha' with ⟨e1, e2, _⟩ | ⟨e1, e2⟩
    · subst e1
      subst e2
      rcases set_get hq with ⟨d1, d2, _⟩ | ⟨d1, d2⟩
      · subst d1
        subst d2
        rw [updF2_same]
      · rw [updF2_ne (.inr d1)]
        exact h.ap _ a ha q p d2
    · rw [updF2_ne (.inl e1)]
      exact h.ap k' a' e2 q p hq
  · rcases set_get ha' with ⟨e1, e2, _⟩ | ⟨e1, e2⟩
    · subst e1
      subst e2
      rcases set_get hq with ⟨d1, d2, _⟩ | ⟨d1, d2⟩
      · subst d2
        have := h.apl _ a ha _ _ hp
        simp only [List.length_cons] at this
        show p.length ≤ j.room
        omega
      · exact h.apl _ a ha q p d2
    · exact h.apl k' a' e2 q p hq
  · rcases set_get ha' with ⟨e1, e2, _⟩ | ⟨e1, e2⟩
    · subst e1
      subst e2
      exact h.st _ a ha q b hq
    · exact h.st k' a' e2 q b hq
  · show TabIs (updF m.tb k (addX c.pt.toNat c.live (wrap16 c.delta) (m.tb k)) k') _ _
    rcases set_get ha' with ⟨e1, e2, _⟩ | ⟨e1, e2⟩
    · subst e1
      subst e2
      rw [updF_same]
      simp only
      rw [List.drop_append_of_le_length hml]
      exact (h.tb _ a ha).add (by omega)
    · rw [updF_ne e1]
      exact h.tb k' a' e2
  · have := h.laid
    unfold laidOf at this ⊢
    show m.laid = if j.under then cntP (j.adders.set k { a with pipes := a.pipes.set a.firstOpen rest, got := a.got ++ [c] }) else 0
    rw [cntP_same (a' := { a with pipes := a.pipes.set a.firstOpen rest, got := a.got ++ [c] }) ha rfl]
    exact this

theorem abs_stop (h : Abs m j) {k : Nat} {a : AdderM} (ha : j.adders[k]? = some a) {c : ChgM} {rest : List ChgM} (hp : a.pipes[a.firstOpen]? = some (c :: rest)) (hc : ¬ 0 ≤ c.pt) (hna : (a.stopped.set a.firstOpen true).all id = false) : Abs { m with ap := updF2 m.ap k a.firstOpen (rest.map itA), st := updF2 m.st k a.firstOpen true } { j with adders := j.adders.set k { a with pipes := a.pipes.set a.firstOpen rest, stopped := a.stopped.set a.firstOpen true } } := by
  have hfl := flow_adds h.flow k
  have hop := open_adds h.flow h.opn k
  have ht : a.take j.width = some { a with pipes := a.pipes.set a.firstOpen rest, stopped := a.stopped.set a.firstOpen true } := by
    unfold AdderM.take
    simp only [hp, if_neg hc, hna]
    rfl
  have hs2 : j.adds k = (0, { j with adders := j.adders.set k { a with pipes := a.pipes.set a.firstOpen rest, stopped := a.stopped.set a.firstOpen true } }) := by
    unfold JobM.adds
    simp only [ha, ht]
  rw [hs2] at hfl hop
  refine ⟨h.W, h.R, h.w4, h.r4, h.evs, h.len, h.ev, hfl, hop, h.sent, h.sp, h.spl, fun k' a' ha' q p hq => ?_, fun k' a' ha' q p hq => ?_, fun k' a' ha' q b hq => ?_, fun k' a' ha' => ?_, h.state, h.off, ?_, h.ready.congr rfl rfl (fun x => set_key (a' := { a with pipes := a.pipes.set a.firstOpen rest, stopped := a.stopped.set a.firstOpen true }) ha rfl x), h.last, h.view, h.offset⟩
  · show updF2 m.ap k a.firstOpen (rest.map itA) k' q = _
    rcases set_get ha' with ⟨e1, e2, _⟩ | ⟨e1, e2⟩
    · subst e1
      subst e2
      rcases set_get hq with ⟨d1, d2, _⟩ | ⟨d1, d2⟩
      · subst d1
        subst d2
        rw [updF2_same]
      · rw [updF2_ne (.inr d1)]
        exact h.ap _ a ha q p d2
    · rw [updF2_ne (.inl e1)]
      exact h.ap k' a' e2 q p hq
  · rcases set_get ha' with ⟨e1, e2, _⟩ | ⟨e1, e2⟩
    · subst e1
      subst e2
      rcases set_get hq with ⟨d1, d2, _⟩ | ⟨d1, d2⟩
      · subst d2
        have := h.apl _ a ha _ _ hp
        simp only [List.length_cons] at this
        show p.length ≤ j.room
        omega
      · exact h.apl _ a ha q p d2
    · exact h.apl k' a' e2 q p hq
  · show updF2 m.st k a.firstOpen true k' q = b
    rcases set_get ha' with ⟨e1, e2, _⟩ | ⟨e1, e2⟩
    · subst e1
      subst e2
      rcases set_get hq with ⟨d1, d2, _⟩ | ⟨d1, d2⟩
      · subst d1
        subst d2
        rw [updF2_same]
      · rw [updF2_ne (.inr d1)]
        exact h.st _ a ha q b d2
    · rw [updF2_ne (.inl e1)]
      exact h.st k' a' e2 q b hq
  · rcases set_get ha' with ⟨e1, e2, _⟩ | ⟨e1, e2⟩
    · subst e1
      subst e2
      exact h.tb _ a ha
    · exact h.tb k' a' e2
  · have := h.laid
    unfold laidOf at this ⊢
    show m.laid = if j.under then cntP (j.adders.set k { a with pipes := a.pipes.set a.firstOpen rest, stopped := a.stopped.set a.firstOpen true }) else 0
    rw [cntP_same (a' := { a with pipes := a.pipes.set a.firstOpen rest, stopped := a.stopped.set a.firstOpen true }) ha rfl]
    exact this

theorem abs_lay (h : Abs m j) {k : Nat} {a : AdderM} (ha : j.adders[k]? = some a) {c : ChgM} {rest : List ChgM} (hp : a.pipes[a.firstOpen]? = some (c :: rest)) (hc : ¬ 0 ≤ c.pt) (hst : a.stopped[a.firstOpen]? = some false) (hall : (a.stopped.set a.firstOpen true).all id = true) :
    Abs { m with ap := updF2 m.ap k a.firstOpen (rest.map itA), st := clrTo (updF2 m.st k a.firstOpen true) k m.W, tb := updF m.tb k ((m.tb k).map calmX), ready := layX (takenX (m.tb k)) m.ready, laid := m.laid + 1 } { j with adders := j.adders.set k { a with pipes := a.pipes.set a.firstOpen rest, stopped := List.replicate j.width false, marked := a.got.length, passed := true } } := by
  have hfl := flow_adds h.flow k
  have hop := open_adds h.flow h.opn k
  have ht : a.take j.width = some { a with pipes := a.pipes.set a.firstOpen rest, stopped := List.replicate j.width false, marked := a.got.length, passed := true } := by
    unfold AdderM.take
    simp only [hp, if_neg hc, hall, if_true]
  have hs2 : j.adds k = (0, { j with adders := j.adders.set k { a with pipes := a.pipes.set a.firstOpen rest, stopped := List.replicate j.width false, marked := a.got.length, passed := true } }) := by
    unfold JobM.adds
    simp only [ha, ht]
  rw [hs2] at hfl hop
  have o := h.flow.adders k a ha
  have hfo : a.firstOpen < j.width := by have := (List.getElem?_eq_some_iff.1 hp).1; rw [o.lenP] at this; exact this
  obtain ⟨R, _, hL⟩ := o.links
  have hsg : j.sorters[a.firstOpen]? = some (j.sorters[a.firstOpen]'(by rw [h.flow.lenS]; exact hfo)) := List.getElem?_eq_getElem _
  obtain ⟨g1, g2, g3, _⟩ := (hL _ hfo _ _ _ hsg hst hp).bar hc
  have hu : j.under = true := by unfold JobM.fl at g1; simp only [Bool.and_eq_true] at g1; exact g1.1
  have hmk : a.marked = a.kept := o.still (fun _ => g3)
  have hklt : k < j.adders.length := (List.getElem?_eq_some_iff.1 ha).1
  have hnew : (j.adders.set k { a with pipes := a.pipes.set a.firstOpen rest, stopped := List.replicate j.width false, marked := a.got.length, passed := true })[k]? = some { a with pipes := a.pipes.set a.firstOpen rest, stopped := List.replicate j.width false, marked := a.got.length, passed := true } := List.getElem?_set_self hklt
  have hmod : ∀ c ∈ a.got, c.pt.toNat % j.width = k := fun c hc => by
    have o' := hfl.adders k _ hnew
    have hpm := (o'.mark g1 rfl).2.2.1
    simp only at hpm
    rw [List.take_length] at hpm
    exact (allTo_mem (hpm.mem_iff.1 hc)).2.1
  have htk := (h.tb k a ha).taken (fun c hc => List.mem_of_mem_drop hc)
  have hlay := layX_facts (takenX (m.tb k)) m.ready h.ready.1 (taken_sorted (h.tb k a ha).sorted)
  have hpk : ∀ x ∈ takenX (m.tb k), x.v.pt % j.width = k := fun x hx => by
    obtain ⟨⟨c, hc, hcp⟩, _⟩ := (htk x).1 hx
    have := hmod c (List.mem_of_mem_drop hc)
    rw [hcp, Int.toNat_natCast] at this
    exact this
  refine ⟨h.W, h.R, h.w4, h.r4, h.evs, h.len, h.ev, hfl, hop, h.sent, h.sp, h.spl, fun k' a' ha' q p hq => ?_, fun k' a' ha' q p hq => ?_, fun k' a' ha' q b hq => ?_, fun k' a' ha' => ?_, h.state, h.off, ?_, ⟨hlay.1, fun x => (hlay.2 x).trans ?_⟩, h.last, h.view, h.offset⟩
  · show updF2 m.ap k a.firstOpen (rest.map itA) k' q = _
    rcases set_get ha' with ⟨e1, e2, _⟩ | ⟨e1, e2⟩
    · subst e1
      subst e2
      rcases set_get hq with ⟨d1, d2, _⟩ | ⟨d1, d2⟩
      · subst d1
        subst d2
        rw [updF2_same]
      · rw [updF2_ne (.inr d1)]
        exact h.ap _ a ha q p d2
    · rw [updF2_ne (.inl e1)]
      exact h.ap k' a' e2 q p hq
  · rcases set_get ha' with ⟨e1, e2, _⟩ | ⟨e1, e2⟩
    · subst e1
      subst e2
      rcases set_get hq with ⟨d1, d2, _⟩ | ⟨d1, d2⟩
      · subst d2
        have := h.apl _ a ha _ _ hp
        simp only [List.length_cons] at this
        show p.length ≤ j.room
        omega
      · exact h.apl _ a ha q p d2
    · exact h.apl k' a' e2 q p hq
  · show clrTo (updF2 m.st k a.firstOpen true) k m.W k' q = b
    rcases set_get ha' with ⟨e1, e2, _⟩ | ⟨e1, e2⟩
    · subst e1
      subst e2
      simp only [List.getElem?_replicate] at hq
      split at hq
      · rename_i hqW
        unfold clrTo
        rw [if_pos ⟨rfl, by rw [h.W]; exact hqW⟩]
        exact Option.some.inj hq
      · cases hq
    · unfold clrTo
      rw [if_neg (fun y => e1 y.1), updF2_ne (.inl e1)]
      exact h.st k' a' e2 q b hq
  · show TabIs (updF m.tb k ((m.tb k).map calmX) k') _ _
    rcases set_get ha' with ⟨e1, e2, _⟩ | ⟨e1, e2⟩
    · subst e1
      subst e2
      rw [updF_same]
      simp only
      rw [List.drop_length]
      exact (h.tb _ a ha).calmed
    · rw [updF_ne e1]
      exact h.tb k' a' e2
  · have := h.laid
    unfold laidOf at this ⊢
    show m.laid + 1 = if j.under then cntP (j.adders.set k { a with pipes := a.pipes.set a.firstOpen rest, stopped := List.replicate j.width false, marked := a.got.length, passed := true }) else 0
    rw [if_pos hu] at this ⊢
    rw [cntP_more (a' := { a with pipes := a.pipes.set a.firstOpen rest, stopped := List.replicate j.width false, marked := a.got.length, passed := true }) ha g3 rfl, this]
  · show _ ↔ j.under = true ∧ ∃ b, (j.adders.set k { a with pipes := a.pipes.set a.firstOpen rest, stopped := List.replicate j.width false, marked := a.got.length, passed := true })[x.v.pt % j.width]? = some b ∧ b.passed = true ∧ b.chgd x.v.pt ∧ x.v = gvC (b.got.take b.marked) x.v.pt ∧ x.ch = false
    have hch : ∀ p, AdderM.chgd { a with pipes := a.pipes.set a.firstOpen rest, stopped := List.replicate j.width false, marked := a.got.length, passed := true } p ↔ ∃ c ∈ a.got.drop a.marked, c.pt = (p : Int) := fun p => by
      unfold AdderM.chgd
      simp only
      rw [List.take_length, hmk]
    constructor
    · rintro (hx | ⟨hx, hno⟩)
      · refine ⟨hu, _, by rw [hpk x hx]; exact hnew, rfl, ?_⟩
        obtain ⟨t1, t2, t3⟩ := (htk x).1 hx
        refine ⟨(hch _).2 t1, ?_, t3⟩
        simp only
        rw [List.take_length]
        exact t2
      · obtain ⟨_, b, hb, hbp, hrest⟩ := (h.ready.2 x).1 hx
        have hne : x.v.pt % j.width ≠ k := fun e => by
          rw [e, ha] at hb
          simp only [Option.some.injEq] at hb
          rw [← hb, g3] at hbp
          cases hbp
        exact ⟨hu, b, by rw [List.getElem?_set_ne (fun y => hne y.symm)]; exact hb, hbp, hrest⟩
    · rintro ⟨_, b, hb, hbp, b1, b2, b3⟩
      by_cases hne : x.v.pt % j.width = k
      · rw [hne, hnew] at hb
        simp only [Option.some.injEq] at hb
        subst hb
        refine .inl ((htk x).2 ⟨(hch _).1 b1, ?_, b3⟩)
        simp only at b2
        rw [List.take_length] at b2
        exact b2
      · rw [List.getElem?_set_ne (fun y => hne y.symm)] at hb
        refine .inr ⟨(h.ready.2 x).2 ⟨hu, b, hb, hbp, b1, b2, b3⟩, fun z hz e => hne ?_⟩
        rw [← e]
        exact hpk z hz

theorem job_adder (hC : CLX F X w m) (hA : Abs m j) (k : Nat) (hk : k < j.width) : Calls Tryd.prog 40 #[.pointer (some ⟨F.jb, 0, none⟩), .int .i64 (k : Int)] w fun en w' => ∃ r : Int, en = .returned (.int .i64 r) ∧ StepP X w F.jb (j.adds k) r w' := by
  have hr := hA.r4
  have hWW := hA.W
  have hw4 := hA.w4
  have hkW : k < m.W := by omega
  have ha : j.adders[k]? = some (j.adders[k]'(by rw [hA.flow.lenA]; exact hk)) := List.getElem?_eq_getElem _
  generalize j.adders[k]'(by rw [hA.flow.lenA]; exact hk) = a at ha
  have o := hA.flow.adders k a ha
  have hlen : ∀ q, q < m.W → (m.ap k q).length ≤ 1000 := fun q hq => by
    have := hA.apw ha (i := q) (by omega)
    omega
  rcases a.openC j.width o.lenP o.lenS with ⟨hn, hcl⟩ | ⟨c, rest, hp, hs, hfo, hcl⟩
  · have hs2 : j.adds k = (8, j) := by unfold JobM.adds; simp only [ha, hn]
    rw [hs2]
    exact (cadder_idle hC k hkW hlen fun q hq => hA.blocked ha (by omega) (fun p h1 b h2 => hcl q p h1 b h2)).mono fun en w' ⟨h1, h2⟩ => ⟨8, h1, rfl, After.ofB hC hA h2⟩
  · have hprev : ∀ q, q < a.firstOpen → m.st k q = true ∨ m.ap k q = [] := fun q hq => hA.blocked ha (by omega) (fun p h1 b h2 => hcl q hq p h1 b h2)
    have hst0 := hA.st k a ha _ _ hs
    have hap := hA.ap k a ha _ _ hp
    simp only [List.map_cons] at hap
    have htb := hA.tabBounds ha
    have hcm := (got_ok hA.flow ha).2.2 _ _ hp c (by simp)
    by_cases hc : 0 ≤ c.pt
    · have hs2 : j.adds k = (0, { j with adders := j.adders.set k { a with pipes := a.pipes.set a.firstOpen rest, got := a.got ++ [c] } }) := by
        have ht : a.take j.width = some { a with pipes := a.pipes.set a.firstOpen rest, got := a.got ++ [c] } := by
          unfold AdderM.take
          simp only [hp, if_pos hc]
        unfold JobM.adds
        simp only [ha, ht]
      rw [hs2]
      have hok : ChOk j.events c := by
        rcases hcm with e | e
        · rw [e] at hc; exact absurd hc (by decide)
        · exact e.2
      have hia : itA c = chI c.pt.toNat c.live (wrap16 c.delta) := by unfold itA; rw [if_neg (by omega)]
      rw [hia] at hap
      exact (cadder_chg hC k hkW hlen a.firstOpen (by omega) hprev hst0 hap rfl (p := c.pt.toNat) rfl (by omega) hok.2 htb.2).mono fun en w' ⟨h1, h2⟩ => ⟨0, h1, rfl, After.of h2 (abs_add hA ha hp hc)⟩
    · have hib : itA c = barI := by unfold itA; rw [if_pos (by omega)]
      rw [hib] at hap
      cases hall : (a.stopped.set a.firstOpen true).all id with
      | true =>
        have hs2 : j.adds k = (0, { j with adders := j.adders.set k { a with pipes := a.pipes.set a.firstOpen rest, stopped := List.replicate j.width false, marked := a.got.length, passed := true } }) := by
          have ht : a.take j.width = some { a with pipes := a.pipes.set a.firstOpen rest, stopped := List.replicate j.width false, marked := a.got.length, passed := true } := by
            unfold AdderM.take
            simp only [hp, if_neg hc, hall, if_true]
          unfold JobM.adds
          simp only [ha, ht]
        rw [hs2]
        have hrl := hA.readyLen
        have hla : m.laid ≤ 1000 := by
          rw [hA.laid]
          unfold laidOf
          have := cntP_le j.adders
          have := hA.flow.lenA
          split <;> omega
        exact (cadder_bar hC k hkW hlen a.firstOpen (by omega) hprev hst0 hap rfl (fun X' w' h' => clay_all h' k hkW (fun q hq => by
          show updF2 m.st k a.firstOpen true k q = true
          by_cases e : q = a.firstOpen
          · subst e; rw [updF2_same]
          · rw [updF2_ne (.inr e)]
            have hq2 : q < m.W := hq
            have hq' : q < a.stopped.length := by rw [o.lenS]; omega
            have hsq : a.stopped[q]? = some (a.stopped[q]) := List.getElem?_eq_getElem hq'
            rw [hA.st k a ha q _ hsq]
            rw [List.all_eq_true] at hall
            have := hall _ (List.mem_of_getElem? (show (a.stopped.set a.firstOpen true)[q]? = some (a.stopped[q]) from by rw [List.getElem?_set_ne (fun y => e y.symm)]; exact hsq))
            exact this) (by simp only; omega) (by simp only; exact hla))).mono fun en w' ⟨h1, h2⟩ => ⟨0, h1, rfl, After.of h2 (abs_lay hA ha hp hc hs hall)⟩
      | false =>
        have hs2 : j.adds k = (0, { j with adders := j.adders.set k { a with pipes := a.pipes.set a.firstOpen rest, stopped := a.stopped.set a.firstOpen true } }) := by
          have ht : a.take j.width = some { a with pipes := a.pipes.set a.firstOpen rest, stopped := a.stopped.set a.firstOpen true } := by
            unfold AdderM.take
            simp only [hp, if_neg hc, hall]
            rfl
          unfold JobM.adds
          simp only [ha, ht]
        rw [hs2]
        rw [List.all_eq_false] at hall
        obtain ⟨b, hbm, hbf⟩ := hall
        obtain ⟨q1, hq1, hqe⟩ := List.getElem_of_mem hbm
        have hq1' : q1 < a.stopped.length := by simpa using hq1
        have hqn : q1 ≠ a.firstOpen := fun e => by
          subst e
          rw [List.getElem_set_self] at hqe
          rw [← hqe] at hbf
          exact hbf rfl
        have hbf' : b = false := by cases b with | false => rfl | true => exact absurd rfl hbf
        rw [List.getElem_set_ne (fun y => hqn y.symm)] at hqe
        have hsq : a.stopped[q1]? = some b := by rw [List.getElem?_eq_getElem hq1', hqe]
        have hna : (a.stopped.set a.firstOpen true).all id = false := by
          rw [List.all_eq_false]
          exact ⟨b, hbm, hbf⟩
        exact (cadder_bar hC k hkW hlen a.firstOpen (by omega) hprev hst0 hap rfl (m' := { m with ap := updF2 m.ap k a.firstOpen (rest.map itA), st := updF2 m.st k a.firstOpen true }) (fun X' w' h' => (clay_not h' k hkW q1 (by rw [o.lenS] at hq1'; show q1 < m.W; omega) (by
          show updF2 m.st k a.firstOpen true k q1 = false
          rw [updF2_ne (.inr hqn), hA.st k a ha q1 _ hsq, hbf'])).mono fun en w'' ⟨h1, h2⟩ => ⟨h1, by rw [h2]; exact h'.aft⟩)).mono fun en w' ⟨h1, h2⟩ => ⟨0, h1, rfl, After.of h2 (abs_stop hA ha hp hc hna)⟩
end

end Go.Proofs.YthccpacmklhejabDoor

namespace Go.Proofs.YthccpacmklhejabDoor
open Go.RowKit

theorem stateOf_three {j : JobM} : stateOf j = 3 ↔ (j.under = true ∧ j.barriers = true ∧ j.complete = true) := by
  unfold stateOf
  cases j.under <;> cases j.barriers <;> cases j.complete <;> simp

section
variable {F : Fx} {X : Nat → Prop} {w : World} {m : CM} {j : JobM}

theorem abs_commit (h : Abs m j) (hu : j.under = true) (hc : j.complete = true) : Abs m.committed j.commit := by
  have hfl := flow_commit h.flow hu hc
  have hop := open_commit h.opn
  obtain ⟨hb, _, hpa⟩ := h.flow.comp hu hc
  have hf : j.fl = true := by unfold JobM.fl; rw [hu, hb]; rfl
  obtain ⟨l1, l2⟩ := layX_facts m.ready m.view h.view.1 h.ready.1
  have hmemV : ∀ r, r ∈ tabOf (j.events.take j.base) ↔ ∃ y ∈ m.view, y.v = r := fun r => by
    rw [← h.view.2]
    simp only [List.mem_map]
  have hadd : ∀ p : Nat, ∃ a, j.adders[p % j.width]? = some a := fun p => ⟨_, List.getElem?_eq_getElem (by rw [h.flow.lenA]; exact Nat.mod_lt _ h.flow.hW)⟩
  have hview : (layX m.ready m.view).map (fun x => x.v) = tabOf (j.events.take j.off) := by
    refine view_exact h.flow hf hpa (by rw [List.map_map]; exact l1) fun r => ?_
    simp only [List.mem_map]
    constructor
    · rintro ⟨y, hy, rfl⟩
      rcases (l2 y).1 hy with hy | ⟨hy, hno⟩
      · obtain ⟨_, a, ha, _, c1, c2, _⟩ := (h.ready.2 y).1 hy
        exact ⟨a, ha, .inl ⟨c1, c2⟩⟩
      · obtain ⟨a, ha⟩ := hadd y.v.pt
        refine ⟨a, ha, .inr ⟨fun hcg => ?_, (hmemV _).2 ⟨y, hy, rfl⟩⟩⟩
        have hz : (⟨gvC (a.got.take a.marked) y.v.pt, false⟩ : GX) ∈ m.ready := (h.ready.2 _).2 ⟨hu, a, ha, hpa a (List.mem_of_getElem? ha), hcg, rfl, rfl⟩
        exact hno _ hz rfl
    · rintro ⟨a, ha, ⟨c1, c2⟩ | ⟨c1, c2⟩⟩
      · refine ⟨⟨r, false⟩, (l2 _).2 (.inl ((h.ready.2 _).2 ⟨hu, a, ha, hpa a (List.mem_of_getElem? ha), c1, c2, rfl⟩)), rfl⟩
      · obtain ⟨y, hy, rfl⟩ := (hmemV r).1 c2
        refine ⟨y, (l2 y).2 (.inr ⟨hy, fun z hz e => c1 ?_⟩), rfl⟩
        obtain ⟨_, a', ha', _, d1, _⟩ := (h.ready.2 z).1 hz
        rw [e] at ha' d1
        rw [ha] at ha'
        simp only [Option.some.injEq] at ha'
        rw [ha']
        exact d1
  refine ⟨h.W, h.R, h.w4, h.r4, h.evs, h.len, h.ev, hfl, hop, h.sent, fun i s hs => ?_, fun i s hs => ?_, fun k a ha q p hp => ?_, fun k a ha q p hp => ?_, fun k a ha q b hb => ?_, fun k a ha => ?_, rfl, (fun x => by cases x), rfl, ⟨by simp [CM.committed, sortedX], fun x => ?_⟩, h.last, ⟨l1, hview⟩, h.off hf⟩
  · simp only [JobM.commit, List.getElem?_map, Option.map_eq_some_iff] at hs
    obtain ⟨s0, hs0, rfl⟩ := hs
    exact h.sp i s0 hs0
  · simp only [JobM.commit, List.getElem?_map, Option.map_eq_some_iff] at hs
    obtain ⟨s0, hs0, rfl⟩ := hs
    exact h.spl i s0 hs0
  · simp only [JobM.commit, List.getElem?_map, Option.map_eq_some_iff] at ha
    obtain ⟨a0, ha0, rfl⟩ := ha
    exact h.ap k a0 ha0 q p hp
  · simp only [JobM.commit, List.getElem?_map, Option.map_eq_some_iff] at ha
    obtain ⟨a0, ha0, rfl⟩ := ha
    exact h.apl k a0 ha0 q p hp
  · simp only [JobM.commit, List.getElem?_map, Option.map_eq_some_iff] at ha
    obtain ⟨a0, ha0, rfl⟩ := ha
    exact h.st k a0 ha0 q b hb
  · simp only [JobM.commit, List.getElem?_map, Option.map_eq_some_iff] at ha
    obtain ⟨a0, ha0, rfl⟩ := ha
    exact h.tb k a0 ha0
  · simp only [CM.committed, List.not_mem_nil, false_iff]
    rintro ⟨hx, _⟩
    cases hx

theorem abs_complete (h : Abs m j) (hp : j.passedAll = true) : Abs { m with state := 3 } { j with complete := true } := by
  have hfl := flow_keeps h.flow
  have hop := open_keeps h.opn
  have hp' := hp
  unfold JobM.passedAll at hp'
  simp only [Bool.and_eq_true, List.all_eq_true] at hp'
  obtain ⟨⟨⟨hu, hb⟩, _⟩, _⟩ := hp'
  have hflow : FlowOk { j with complete := true } := by
    by_cases hc : j.complete = true
    · have : ({ j with complete := true } : JobM) = j := by rw [← hc]
      rw [this]
      exact h.flow
    · have hk : j.keeps = (0, { j with complete := true }) := by
        unfold JobM.keeps
        rw [if_neg (by simp [hc]), if_pos hp]
      rw [hk] at hfl
      exact hfl
  exact ⟨h.W, h.R, h.w4, h.r4, h.evs, h.len, h.ev, hflow, h.opn, h.sent, h.sp, h.spl, h.ap, h.apl, h.st, h.tb, by unfold stateOf; simp [hu, hb], h.off, h.laid, h.ready, h.last, h.view, h.offset⟩

theorem comp_passed (h : Abs m j) (hu : j.under = true) (hc : j.complete = true) : j.passedAll = true := by
  obtain ⟨hb, h1, h2⟩ := h.flow.comp hu hc
  unfold JobM.passedAll
  simp only [Bool.and_eq_true, List.all_eq_true]
  exact ⟨⟨⟨hu, hb⟩, h1⟩, h2⟩

theorem job_keeper (hC : CLX F X w m) (hA : Abs m j) : Calls Tryd.prog 41 #[.pointer (some ⟨F.jb, 0, none⟩)] w fun en w' => ∃ r : Int, en = .returned (.int .i64 r) ∧ StepP X w F.jb j.keeps r w' := by
  have hwk := work_passed hA
  by_cases hp : j.passedAll = true
  · rw [if_pos hp] at hwk
    have hw1 : workN m = 1 := by omega
    by_cases hc : j.under = true ∧ j.complete = true
    · have hk : j.keeps = (0, j.commit) := by unfold JobM.keeps; rw [hc.1, hc.2]; rfl
      rw [hk]
      have h3 : m.state = 3 := by rw [hA.state]; exact stateOf_three.2 ⟨hc.1, (hA.flow.comp hc.1 hc.2).1, hc.2⟩
      have l1 := hA.viewLen
      have l2 := hA.readyLen
      exact (ckeeper_commit hC hw1 h3 (by omega)).mono fun en w' ⟨h1, h2⟩ => ⟨0, h1, rfl, After.of h2 (abs_commit hA hc.1 hc.2)⟩
    · have hk : j.keeps = (0, { j with complete := true }) := by
        unfold JobM.keeps
        rw [if_neg (by simpa using hc), if_pos hp]
      rw [hk]
      have h3 : m.state ≠ 3 := by rw [hA.state]; exact fun x => hc ⟨(stateOf_three.1 x).1, (stateOf_three.1 x).2.2⟩
      exact (ckeeper_complete hC hw1 h3).mono fun en w' ⟨h1, h2⟩ => ⟨0, h1, rfl, After.of h2 (abs_complete hA hp)⟩
  · rw [if_neg hp] at hwk
    have hc : ¬ (j.under = true ∧ j.complete = true) := fun x => hp (comp_passed hA x.1 x.2)
    have hk : j.keeps = (8, j) := by
      unfold JobM.keeps
      rw [if_neg (by simpa using hc), if_neg hp]
    rw [hk]
    exact (ckeeper_idle hC (by omega)).mono fun en w' ⟨h1, h2⟩ => ⟨8, h1, rfl, After.ofB hC hA h2⟩

theorem abs_forget (h : Abs m j) {tb : Nat → List GX} (htb : ∀ k, k < m.W → TabIs (tb k) (allTo m.W k m.offset m.evs) []) : Abs { m with sent := m.offset, sp := nilTo m.sp m.W, sk := skTo { m with sk := nilTo m.sk m.W } m.offset, ap := nilAll m.ap m.W m.W, st := clrAll m.st m.W m.W, tb := tb, state := 0, off := 0, laid := 0, ready := [] } j.forget := by
  have hfl := flow_forget h.flow
  have hop := open_forget h.flow.hW h.opn
  have hiS : ∀ (i : Nat) (s : SorterM), j.sorters[i]? = some s → i < m.W := fun i s hs => by rw [h.W, ← h.flow.lenS]; exact (List.getElem?_eq_some_iff.1 hs).1
  have hkA : ∀ (k : Nat) (a : AdderM), j.adders[k]? = some a → k < m.W := fun k a ha => by rw [h.W, ← h.flow.lenA]; exact (List.getElem?_eq_some_iff.1 ha).1
  refine ⟨h.W, h.R, h.w4, h.r4, h.evs, h.len, h.ev, hfl, hop, h.offset, fun i s hs => ?_, fun i s hs => ?_, fun k a ha q p hp => ?_, fun k a ha q p hp => ?_, fun k a ha q b hb => ?_, fun k a ha => ?_, rfl, (fun x => by cases x), rfl, ⟨by simp [sortedX], fun x => ?_⟩, h.last, h.view, h.offset⟩
  · simp only [JobM.forget, List.getElem?_map, Option.map_eq_some_iff] at hs
    obtain ⟨s0, hs0, rfl⟩ := hs
    have hi := hiS i s0 hs0
    refine ⟨show nilTo m.sp m.W i = [] from if_pos hi, ?_⟩
    show skTo { m with sk := nilTo m.sk m.W } m.offset i = entsOf (s0.got.take s0.kept)
    unfold skTo
    simp only
    rw [if_pos hi, (h.flow.sorters i s0 hs0).kept_eq, h.W, h.evs, h.offset]
  · simp only [JobM.forget, List.getElem?_map, Option.map_eq_some_iff] at hs
    obtain ⟨s0, hs0, rfl⟩ := hs
    exact Nat.zero_le _
  · simp only [JobM.forget, List.getElem?_map, Option.map_eq_some_iff] at ha
    obtain ⟨a0, ha0, rfl⟩ := ha
    simp only [List.getElem?_replicate] at hp
    split at hp
    · rename_i hq
      have : p = [] := (Option.some.inj hp).symm
      rw [this]
      exact if_pos ⟨hkA k a0 ha0, by rw [h.W]; exact hq⟩
    · cases hp
  · simp only [JobM.forget, List.getElem?_map, Option.map_eq_some_iff] at ha
    obtain ⟨a0, ha0, rfl⟩ := ha
    simp only [List.getElem?_replicate] at hp
    split at hp
    · have : p = [] := (Option.some.inj hp).symm
      rw [this]
      exact Nat.zero_le _
    · cases hp
  · simp only [JobM.forget, List.getElem?_map, Option.map_eq_some_iff] at ha
    obtain ⟨a0, ha0, rfl⟩ := ha
    simp only [List.getElem?_replicate] at hb
    split at hb
    · rename_i hq
      have : b = false := (Option.some.inj hb).symm
      rw [this]
      exact if_pos ⟨hkA k a0 ha0, by rw [h.W]; exact hq⟩
    · cases hb
  · simp only [JobM.forget, List.getElem?_map, Option.map_eq_some_iff] at ha
    obtain ⟨a0, ha0, rfl⟩ := ha
    have h1 := htb k (hkA k a0 ha0)
    have h2 := (h.flow.adders k a0 ha0).kept_perm
    rw [h.W, h.offset, h.evs] at h1
    simp only
    refine h1.perm h2.symm (fun c => ?_)
    rw [List.drop_eq_nil_of_le (by rw [List.length_take]; omega)]
  · simp only [List.not_mem_nil, false_iff]
    rintro ⟨hx, _⟩
    cases hx

theorem job_fail (h : CJob X w F.jb j) : Calls Tryd.prog 11 #[.pointer (some ⟨F.jb, 0, none⟩)] w fun en w' => en = .returned (.tuple #[]) ∧ After CJob X w F.jb j.fail w' := by
  obtain ⟨F', m, hF, hC, hA⟩ := h
  rw [← hF]
  refine wFail ?_
  have hE : m.evs.length ≤ 400 := by rw [hA.evs]; exact hA.len
  have hev : ∀ e ∈ m.evs, validB e.key = true ∧ 0 < e.key.size ∧ e.key.size ≤ 1000 := by rw [hA.evs]; exact hA.ev
  by_cases hc : j.under = true ∧ j.complete = true
  · have hk : j.fail = j.commit.forget := by unfold JobM.fail; rw [hc.1, hc.2]; rfl
    rw [hk]
    obtain ⟨hb, _⟩ := hA.flow.comp hc.1 hc.2
    have h3 : m.state = 3 := by rw [hA.state]; exact stateOf_three.2 ⟨hc.1, hb, hc.2⟩
    have hf : j.fl = true := by unfold JobM.fl; rw [hc.1, hb]; rfl
    have l1 := hA.viewLen
    have l2 := hA.readyLen
    refine (cfail_commit hC h3 (by omega) hE (by rw [hA.evs, hA.off hf]; exact Nat.le_trans (hA.flow.off hf).2 hA.flow.sent) hev).mono fun en w' ⟨h1, X1, w1, f1, f2, tb, ha, ht⟩ => ⟨h1, ?_⟩
    exact After.of (Aft.then f1 f2 ha) (abs_forget (abs_commit hA hc.1 hc.2) ht)
  · have hk : j.fail = j.forget := by unfold JobM.fail; rw [if_neg (by simpa using hc)]
    rw [hk]
    have h3 : m.state ≠ 3 := by rw [hA.state]; exact fun x => hc ⟨(stateOf_three.1 x).1, (stateOf_three.1 x).2.2⟩
    exact (cfail_tail hC h3 hE (by rw [hA.offset, hA.evs]; exact Nat.le_trans hA.flow.base hA.flow.sent) hev).mono fun en w' ⟨h1, tb, ha, ht⟩ => ⟨h1, After.of ha (abs_forget hA ht)⟩

theorem job_step (h : CJob X w F.jb j) (t : Int) (h0 : -9223372036854775808 ≤ t) (h1 : t ≤ 9223372036854775807) : Calls Tryd.prog 14 #[.pointer (some ⟨F.jb, 0, none⟩), .int .i64 t] w fun en w' => en = .returned (.int .i64 ((j.step t).1 : Int)) ∧ After CJob X w F.jb (j.step t).2 w' := by
  obtain ⟨F', m, hF, hC, hA⟩ := h
  rw [← hF]
  refine (wStep (P := fun r w' => StepP X w F'.jb (j.step t) r w') ?_).mono fun en w' ⟨r, h1, h2, h3⟩ => ⟨by rw [h1, h2], h3⟩
  have hw := hA.w4
  have hWW := hA.W
  unfold JobM.step
  by_cases c1 : t < 0 ∨ 2 * (j.width : Int) + 1 < t
  · rw [if_pos c1]
    exact (cstep_none hC t h0 h1 (by rw [hWW]; exact c1)).mono fun en w' ⟨h1, h2⟩ => ⟨7, h1, rfl, by rw [h2]; exact After.of hC.aft hA⟩
  · rw [if_neg c1]
    by_cases c2 : t = 0
    · subst c2
      rw [if_pos rfl]
      exact cstep_source hC (job_source hC hA)
    · rw [if_neg c2]
      by_cases c3 : t ≤ (j.width : Int)
      · rw [if_pos c3]
        obtain ⟨i, rfl⟩ : ∃ i : Nat, t = (i : Int) + 1 := ⟨(t - 1).toNat, by omega⟩
        have ei : ((i : Int) + 1 - 1).toNat = i := by omega
        rw [ei]
        exact cstep_sorter hC i (by omega) (job_sorter hC hA i (by omega))
      · rw [if_neg c3]
        by_cases c4 : t ≤ 2 * (j.width : Int)
        · rw [if_pos c4]
          obtain ⟨k, rfl⟩ : ∃ k : Nat, t = (j.width : Int) + 1 + (k : Int) := ⟨(t - (j.width : Int) - 1).toNat, by omega⟩
          have ek : ((j.width : Int) + 1 + (k : Int) - (j.width : Int) - 1).toNat = k := by omega
          rw [ek]
          have := cstep_adder hC k (by omega) (job_adder hC hA k (by omega))
          rw [hWW] at this
          exact this
        · rw [if_neg c4]
          have et : t = 2 * (j.width : Int) + 1 := by omega
          subst et
          have := cstep_keeper hC (job_keeper hC hA)
          rw [hWW] at this
          exact this
end

theorem job_iface : JobIface CJob where
  lt := fun ⟨_, _, _, hC, _⟩ => hC.lt
  frm := fun ⟨F, m, hF, hC, hA⟩ _ _ hf hz => ⟨F, m, hF, hC.frm hf hz, hA⟩
  good := fun ⟨_, _, _, _, hA⟩ => ⟨⟨hA.flow, hA.opn⟩, hA.w4, hA.len⟩
  step := fun h t h0 h1 => by
    obtain ⟨F, m, rfl, hC, hA⟩ := h
    exact job_step ⟨F, m, rfl, hC, hA⟩ t h0 h1
  trigger := fun h hn => job_trigger h hn
  fail := fun h => by
    obtain ⟨F, m, rfl, hC, hA⟩ := h
    exact job_fail ⟨F, m, rfl, hC, hA⟩
  queue := fun h t h0 h1 => job_queue h t h0 h1
  offset := fun h => job_offset h
  view := fun h ht => job_view h ht
  new := job_new

end Go.Proofs.YthccpacmklhejabDoor
