/-
  Several texts in one.
-/
import Derived.Test.YthccpacmklhejaaGreatDoorK16
namespace Go.Proofs.YthccpacmklhejaaGreatDoor

theorem getD_modify {α : Type} (l : List α) (g : α → α) (i m : Nat) (d : α) (hi : i < l.length) : (l.modify i g).getD m d = if m = i then g (l.getD m d) else l.getD m d := by
  rw [List.getD_eq_getElem?_getD, List.getElem?_modify, List.getD_eq_getElem?_getD]
  by_cases c : i = m
  · subst c
    rw [if_pos rfl, List.getElem?_eq_getElem hi]
    simp
  · rw [if_neg (fun x => c x.symm)]
    cases l[m]? <;> simp [c]

theorem chs_append (a b : List ChgM) : chs (a ++ b) = chs a + chs b := by unfold chs; rw [List.countP_append]

theorem push_waits {a : AdderM} {W i : Nat} (hl : a.pipes.length = W) (hi : i < W) (c : ChgM) : (a.push i c).waitsAll W = a.waitsAll W + (if 0 ≤ c.pt then 1 else 0) := by
  unfold AdderM.waitsAll AdderM.push
  simp only
  have hg : ∀ m, (a.pipes.modify i (· ++ [c])).getD m [] = if m = i then a.pipes.getD m [] ++ [c] else a.pipes.getD m [] := fun m => getD_modify _ _ _ _ _ (by omega)
  have hw : accN (fun m => chs ((a.pipes.modify i (· ++ [c])).getD m [])) W + chs (a.pipes.getD i []) = accN (fun m => chs (a.pipes.getD m [])) W + chs ((a.pipes.modify i (· ++ [c])).getD i []) := accN_upd (f := fun m => chs (a.pipes.getD m [])) (g := fun m => chs ((a.pipes.modify i (· ++ [c])).getD m [])) hi (fun m _ hne => by simp only [hg, if_neg hne])
  have h1 : chs [c] = if 0 ≤ c.pt then 1 else 0 := by
    unfold chs
    by_cases d : 0 ≤ c.pt <;> simp [d]
  have hgi : chs ((a.pipes.modify i (· ++ [c])).getD i []) = chs (a.pipes.getD i []) + (if 0 ≤ c.pt then 1 else 0) := by rw [hg, if_pos rfl, chs_append, h1]
  rw [hgi] at hw
  omega

theorem push_owes (a : AdderM) (i : Nat) (c : ChgM) : (a.push i c).owes = a.owes := rfl

theorem phi_sorts {j : JobM} (h : FlowOk j) (i : Nat) (hok : (j.sorts i).1 = 0) : (j.sorts i).2.phi < j.phi := by
  unfold JobM.sorts at hok ⊢
  revert hok
  split
  · intro hok
    cases hok
  · rename_i s hs
    have hsl := (List.getElem?_eq_some_iff.1 hs).1
    have hiW : i < j.width := by rw [← h.lenS]; exact hsl
    have o := h.sorters i s hs
    split
    · intro hok
      cases hok
    · rename_i x rest hp
      split
      · rename_i hx
        split
        · intro hok
          cases hok
        · intro _
          obtain ⟨hfl, hpa, _, _, _⟩ := o.bar hp hx
          have hu : j.under = true ∧ j.barriers = true := by simpa [JobM.fl] using hfl
          generalize hj : ({ j with adders := j.adders.map (fun a => a.push i barM), sorters := j.sorters.set i { s with marked := s.got.length, passed := true, pipe := rest } } : JobM) = j'
          have e1 : ∀ m, j'.sorterAt m = if m = i then { s with marked := s.got.length, passed := true, pipe := rest } else j.sorterAt m := fun m => by
            rw [← hj]
            unfold JobM.sorterAt
            exact getD_set _ _ _ _ _ hsl
          have e2 : ∀ k, k < j.width → j'.adderAt k = (j.adderAt k).push i barM := fun k hk => by
            rw [← hj]
            unfold JobM.adderAt
            exact getD_map _ _ _ _ _ (by rw [h.lenA]; exact hk)
          have e3 : accN (fun m => (j'.sorterAt m).waits) j.width = accN (fun m => (j.sorterAt m).waits) j.width := accN_congr fun m _ => by
            rw [e1]
            by_cases c : m = i
            · subst c
              rw [if_pos rfl, sorterAt_some hs]
              unfold SorterM.waits
              rw [hp]
              have hx' : ¬ 0 ≤ x := by omega
              simp [hx']
            · rw [if_neg c]
          have e4 : accN (fun k => (j'.adderAt k).waitsAll j.width) j.width = accN (fun k => (j.adderAt k).waitsAll j.width) j.width := accN_congr fun k hk => by
            rw [e2 k hk]
            have ha : j.adders[k]? = some (j.adders[k]'(by rw [h.lenA]; exact hk)) := List.getElem?_eq_getElem _
            rw [adderAt_some ha, push_waits (h.adders k _ ha).lenP hiW]
            simp [barM]
          have e5 : accN (fun k => (j'.adderAt k).owes) j.width = accN (fun k => (j.adderAt k).owes) j.width := accN_congr fun k hk => by
            rw [e2 k hk, push_owes]
          have e6 := accN_upd (f := fun m => (j.sorterAt m).owes) (g := fun m => (j'.sorterAt m).owes) hiW (fun m _ hne => by simp only [e1, if_neg hne])
          have e7 : (j'.sorterAt i).owes = 0 := by rw [e1, if_pos rfl]; rfl
          have e8 : (j.sorterAt i).owes = 1 := by rw [sorterAt_some hs]; unfold SorterM.owes; rw [hpa]; rfl
          have hw' : j'.width = j.width := by rw [← hj]
          have hc' : j'.complete = j.complete := by rw [← hj]
          have hs' : j'.sent = j.sent := by rw [← hj]
          rw [e7, e8] at e6
          rw [phi_of hw' (by rw [← hj]), phi_of (j' := j) rfl rfl, ck_fl hu.1 hu.2, ck_fl (j := j') (by rw [← hj]; exact hu.1) (by rw [← hj]; exact hu.2), hw', hc', hs', e3, e4, e5]
          omega
      · rename_i hx
        split
        · intro hok
          cases hok
        · rename_i e he
          have hwt : ∀ s' : SorterM, s'.pipe = rest → s.waits = s'.waits + 1 := fun s' hs' => by
            unfold SorterM.waits
            rw [hp, hs']
            have hx' : 0 ≤ x := by omega
            simp [hx']
          split
          · split
            · intro hok
              cases hok
            · rename_i a ha
              split
              · intro hok
                cases hok
              · intro _
                have hal := (List.getElem?_eq_some_iff.1 ha).1
                have hkW : (grp e.key).1 % j.width < j.width := Nat.mod_lt _ h.hW
                have hpt : 0 ≤ (chgOf (knOf e.key s.got) e).pt := Int.natCast_nonneg _
                generalize (grp e.key).1 % j.width = k0 at ha hal hkW
                generalize chgOf (knOf e.key s.got) e = c at hpt
                generalize hj : ({ j with adders := j.adders.set k0 (a.push i c), sorters := j.sorters.set i { s with got := s.got ++ [e], pipe := rest } } : JobM) = j'
                have e1 : ∀ m, j'.sorterAt m = if m = i then { s with got := s.got ++ [e], pipe := rest } else j.sorterAt m := fun m => by
                  rw [← hj]
                  unfold JobM.sorterAt
                  exact getD_set _ _ _ _ _ hsl
                have e2 : ∀ k, j'.adderAt k = if k = k0 then a.push i c else j.adderAt k := fun k => by
                  rw [← hj]
                  unfold JobM.adderAt
                  exact getD_set _ _ _ _ _ hal
                have e3 := accN_upd (f := fun m => (j.sorterAt m).waits) (g := fun m => (j'.sorterAt m).waits) hiW (fun m _ hne => by simp only [e1, if_neg hne])
                have e4 := accN_upd (f := fun k => (j.adderAt k).waitsAll j.width) (g := fun k => (j'.adderAt k).waitsAll j.width) hkW (fun m _ hne => by simp only [e2, if_neg hne])
                have hw' : j'.width = j.width := by rw [← hj]
                have e5 : j'.ck = j.ck := ck_same hw' (by rw [← hj]) (by rw [← hj]) (by rw [← hj]) (fun m _ => by
                  rw [e1]
                  by_cases d : m = i
                  · subst d
                    rw [if_pos rfl, sorterAt_some hs]
                    rfl
                  · rw [if_neg d]) (fun k _ => by
                  rw [e2]
                  by_cases d : k = k0
                  · subst d
                    rw [if_pos rfl, adderAt_some ha, push_owes]
                  · rw [if_neg d])
                have e6 := hwt (j'.sorterAt i) (by rw [e1, if_pos rfl])
                have e7 : (j'.adderAt k0).waitsAll j.width = (j.adderAt k0).waitsAll j.width + 1 := by
                  rw [e2, if_pos rfl, push_waits (h.adders k0 a ha).lenP hiW, if_pos hpt, adderAt_some ha]
                have hs' : j'.sent = j.sent := by rw [← hj]
                rw [← sorterAt_some hs] at e6
                rw [e6] at e3
                rw [e7] at e4
                rw [phi_of hw' (by rw [← hj]), phi_of (j' := j) rfl rfl, e5, hs']
                omega
          · intro _
            generalize hj : ({ j with sorters := j.sorters.set i { s with got := s.got ++ [e], pipe := rest } } : JobM) = j'
            have e1 : ∀ m, j'.sorterAt m = if m = i then { s with got := s.got ++ [e], pipe := rest } else j.sorterAt m := fun m => by
              rw [← hj]
              unfold JobM.sorterAt
              exact getD_set _ _ _ _ _ hsl
            have e3 := accN_upd (f := fun m => (j.sorterAt m).waits) (g := fun m => (j'.sorterAt m).waits) hiW (fun m _ hne => by simp only [e1, if_neg hne])
            have hw' : j'.width = j.width := by rw [← hj]
            have e4 : accN (fun k => (j'.adderAt k).waitsAll j.width) j.width = accN (fun k => (j.adderAt k).waitsAll j.width) j.width := by rw [← hj]; rfl
            have e5 : j'.ck = j.ck := ck_same hw' (by rw [← hj]) (by rw [← hj]) (by rw [← hj]) (fun m _ => by
              rw [e1]
              by_cases d : m = i
              · subst d
                rw [if_pos rfl, sorterAt_some hs]
                rfl
              · rw [if_neg d]) (fun k _ => by rw [← hj]; rfl)
            have e6 := hwt (j'.sorterAt i) (by rw [e1, if_pos rfl])
            have hs' : j'.sent = j.sent := by rw [← hj]
            rw [← sorterAt_some hs] at e6
            rw [e6] at e3
            rw [phi_of hw' (by rw [← hj]), phi_of (j' := j) rfl rfl, e4, e5, hs']
            omega

theorem count_set {l : List Bool} {f : Nat} (h : l[f]? = some false) : (l.set f true).countP (fun b => !b) + 1 = l.countP (fun b => !b) := by
  obtain ⟨hl, he⟩ := List.getElem?_eq_some_iff.1 h
  have hs : l = l.take f ++ false :: l.drop (f + 1) := by rw [← he, ← List.drop_eq_getElem_cons hl, List.take_append_drop]
  have h2 : l.set f true = l.take f ++ true :: l.drop (f + 1) := by rw [List.set_eq_take_append_cons_drop, if_pos hl]
  rw [h2]
  conv => rhs; rw [hs]
  rw [List.countP_append, List.countP_append, List.countP_cons, List.countP_cons]
  simp only [Bool.not_true, Bool.false_eq_true, if_false, Bool.not_false, if_true]
  omega

/-- What an adder's step makes of it. -/
theorem take_phi {E : List Ev} {W k off base : Nat} {fl : Bool} {S : List SorterM} {a a' : AdderM} (h : AOk E W k off base fl S a) (hS : S.length = W) (ht : a.take W = some a') : (a'.waitsAll W + 1 = a.waitsAll W ∧ a'.owes = a.owes) ∨ (a'.waitsAll W = a.waitsAll W ∧ a'.owes + 1 ≤ a.owes ∧ fl = true) := by
  unfold AdderM.take at ht
  split at ht
  · rename_i c rest hp
    have hpl := (List.getElem?_eq_some_iff.1 hp).1
    have hlt : a.firstOpen < W := by rw [h.lenP] at hpl; exact hpl
    have hst := firstOpen_open (h.lenS.trans h.lenP.symm) hp
    obtain ⟨R, hR, hL⟩ := h.links
    generalize a.firstOpen = f at *
    obtain ⟨s, hs⟩ : ∃ s, S[f]? = some s := ⟨_, List.getElem?_eq_getElem (by omega)⟩
    have l := hL f hlt s false (c :: rest) hs hst hp
    have hg : ∀ m, (a.pipes.set f rest).getD m [] = if m = f then rest else a.pipes.getD m [] := fun m => getD_set _ _ _ _ _ hpl
    have hw : accN (fun m => chs ((a.pipes.set f rest).getD m [])) W + chs (a.pipes.getD f []) = accN (fun m => chs (a.pipes.getD m [])) W + chs ((a.pipes.set f rest).getD f []) := accN_upd (f := fun m => chs (a.pipes.getD m [])) (g := fun m => chs ((a.pipes.set f rest).getD m [])) hlt (fun m _ hne => by simp only [hg, if_neg hne])
    have h0 : a.pipes.getD f [] = c :: rest := by rw [List.getD_eq_getElem?_getD, hp]; rfl
    have h2 : (a.pipes.set f rest).getD f [] = rest := by rw [hg, if_pos rfl]
    have hcons : chs (c :: rest) = chs rest + (if 0 ≤ c.pt then 1 else 0) := by
      unfold chs
      by_cases d : 0 ≤ c.pt <;> simp [d]
    rw [h0, h2, hcons] at hw
    split at ht
    · rename_i hc
      rw [if_pos hc] at hw
      simp only [Option.some.injEq] at ht
      subst ht
      left
      unfold AdderM.waitsAll
      exact ⟨by simp only; omega, rfl⟩
    · rename_i hc
      rw [if_neg hc] at hw
      obtain ⟨b1, b2, b3, b4, b5, b6⟩ := l.bar hc
      have hcs := count_set hst
      have ho : a.owes = a.stopped.countP (fun b => !b) := by unfold AdderM.owes; rw [b3]; rfl
      right
      split at ht
      · simp only [Option.some.injEq] at ht
        subst ht
        refine ⟨by unfold AdderM.waitsAll; simp only; omega, ?_, b1⟩
        rw [ho]
        unfold AdderM.owes
        simp only [if_true]
        omega
      · simp only [Option.some.injEq] at ht
        subst ht
        refine ⟨by unfold AdderM.waitsAll; simp only; omega, ?_, b1⟩
        rw [ho]
        unfold AdderM.owes
        simp only
        rw [b3]
        simp only [Bool.false_eq_true, if_false]
        omega
  · cases ht

theorem phi_adds {j : JobM} (h : FlowOk j) (k : Nat) (hok : (j.adds k).1 = 0) : (j.adds k).2.phi < j.phi := by
  unfold JobM.adds at hok ⊢
  revert hok
  split
  · intro hok
    cases hok
  · rename_i a ha
    split
    · intro hok
      cases hok
    · rename_i a' ht
      intro _
      have hal := (List.getElem?_eq_some_iff.1 ha).1
      have hkW : k < j.width := by rw [← h.lenA]; exact hal
      have hp := take_phi (h.adders k a ha) h.lenS ht
      generalize hj : ({ j with adders := j.adders.set k a' } : JobM) = j'
      have e2 : ∀ m, j'.adderAt m = if m = k then a' else j.adderAt m := fun m => by
        rw [← hj]
        unfold JobM.adderAt
        exact getD_set _ _ _ _ _ hal
      have hw' : j'.width = j.width := by rw [← hj]
      have hs' : j'.sent = j.sent := by rw [← hj]
      have e1 : accN (fun m => (j'.sorterAt m).waits) j.width = accN (fun m => (j.sorterAt m).waits) j.width := by rw [← hj]; rfl
      have e4 := accN_upd (f := fun m => (j.adderAt m).waitsAll j.width) (g := fun m => (j'.adderAt m).waitsAll j.width) hkW (fun m _ hne => by simp only [e2, if_neg hne])
      have e6 : j'.adderAt k = a' := by rw [e2, if_pos rfl]
      rw [e6, adderAt_some ha] at e4
      rw [phi_of hw' (by rw [← hj]), phi_of (j' := j) rfl rfl, e1, hs']
      rcases hp with ⟨p1, p2⟩ | ⟨p1, p2, p3⟩
      · have e5 : j'.ck = j.ck := ck_same hw' (by rw [← hj]) (by rw [← hj]) (by rw [← hj]) (fun m _ => by rw [← hj]; rfl) (fun m _ => by
          rw [e2]
          by_cases d : m = k
          · subst d
            rw [if_pos rfl, adderAt_some ha, p2]
          · rw [if_neg d])
        rw [e5]
        omega
      · have hu : j.under = true ∧ j.barriers = true := by simpa [JobM.fl] using p3
        have e5 := accN_upd (f := fun m => (j.adderAt m).owes) (g := fun m => (j'.adderAt m).owes) hkW (fun m _ hne => by simp only [e2, if_neg hne])
        rw [e6, adderAt_some ha] at e5
        have e7 : accN (fun m => (j'.sorterAt m).owes) j.width = accN (fun m => (j.sorterAt m).owes) j.width := by rw [← hj]; rfl
        have hc' : j'.complete = j.complete := by rw [← hj]
        rw [ck_fl hu.1 hu.2, ck_fl (j := j') (by rw [← hj]; exact hu.1) (by rw [← hj]; exact hu.2), hw', hc', e7]
        omega

theorem phi_commit {j : JobM} (h : FlowOk j) (hu : j.under = true) (hc : j.complete = true) : j.commit.phi < j.phi := by
  generalize hj : j.commit = j'
  have hw' : j'.width = j.width := by rw [← hj]; rfl
  have hs' : j'.sent = j.sent := by rw [← hj]; rfl
  have e1 : accN (fun m => (j'.sorterAt m).waits) j.width = accN (fun m => (j.sorterAt m).waits) j.width := accN_congr fun m hm => by
    rw [← hj]
    unfold JobM.sorterAt JobM.commit
    simp only
    rw [getD_map _ _ _ _ newS (by rw [h.lenS]; exact hm)]
    rfl
  have e2 : accN (fun m => (j'.adderAt m).waitsAll j.width) j.width = accN (fun m => (j.adderAt m).waitsAll j.width) j.width := accN_congr fun m hm => by
    rw [← hj]
    unfold JobM.adderAt JobM.commit
    simp only
    rw [getD_map _ _ _ _ (newA 0) (by rw [h.lenA]; exact hm)]
    rfl
  have hb := (h.comp hu hc).1
  rw [phi_of hw' (by rw [← hj]; rfl), phi_of (j' := j) rfl rfl, e1, e2, hs', ck_none (by rw [← hj]; rfl), ck_fl hu hb, hc]
  simp only [if_true]
  omega

theorem phi_keeps {j : JobM} (h : FlowOk j) (hok : j.keeps.1 = 0) : j.keeps.2.phi < j.phi := by
  unfold JobM.keeps at hok ⊢
  by_cases h1 : (j.under && j.complete) = true
  · rw [if_pos h1]
    simp only [Bool.and_eq_true] at h1
    exact phi_commit h h1.1 h1.2
  · rw [if_neg h1] at hok ⊢
    by_cases h2 : j.passedAll = true
    · rw [if_pos h2]
      simp only [JobM.passedAll, Bool.and_eq_true] at h2
      have hu := h2.1.1
      have hc : j.complete = false := by
        cases hcc : j.complete with
        | false => rfl
        | true => exact absurd (by rw [hu.1, hcc]; rfl) h1
      simp only
      rw [phi_of (j := j) (j' := { j with complete := true }) rfl rfl, phi_of (j := j) (j' := j) rfl rfl, ck_fl hu.1 hu.2, ck_fl (j := { j with complete := true }) hu.1 hu.2, hc]
      simp only [if_true, Bool.false_eq_true, if_false]
      have e1 : accN (fun i => (({ j with complete := true } : JobM).sorterAt i).waits) j.width = accN (fun i => (j.sorterAt i).waits) j.width := rfl
      have e2 : accN (fun i => (({ j with complete := true } : JobM).sorterAt i).owes) j.width = accN (fun i => (j.sorterAt i).owes) j.width := rfl
      have e3 : accN (fun k => (({ j with complete := true } : JobM).adderAt k).waitsAll j.width) j.width = accN (fun k => (j.adderAt k).waitsAll j.width) j.width := rfl
      have e4 : accN (fun k => (({ j with complete := true } : JobM).adderAt k).owes) j.width = accN (fun k => (j.adderAt k).owes) j.width := rfl
      rw [e1, e2, e3, e4]
      omega
    · rw [if_neg h2] at hok
      cases hok

theorem phi_step {j : JobM} (h : FlowOk j) (t : Int) (hok : (j.step t).1 = 0) : (j.step t).2.phi < j.phi := by
  unfold JobM.step at hok ⊢
  revert hok
  split
  · intro hok
    cases hok
  · split
    · exact phi_source h
    · split
      · exact phi_sorts h _
      · split
        · exact phi_adds h _
        · exact phi_keeps h

end Go.Proofs.YthccpacmklhejaaGreatDoor

namespace Go.Proofs.YthccpacmklhejaaGreatDoor

/-- There is room, and no adder has all its pipes stopped. -/
def OpenJ (j : JobM) : Prop := 0 < j.room ∧ ∀ a ∈ j.adders, ∃ i : Nat, a.stopped[i]? = some false

theorem open_new (width room : Nat) (events : List Ev) (hW : 0 < width) (hR : 0 < room) : OpenJ (newJ width room events) := by
  refine ⟨hR, fun a ha => ?_⟩
  simp only [newJ, List.mem_replicate] at ha
  rw [ha.2]
  exact ⟨0, by simp [newA, hW]⟩

theorem open_mem {j j' : JobM} (h : OpenJ j) (hr : j'.room = j.room) (hm : ∀ a' ∈ j'.adders, (∃ a ∈ j.adders, a'.stopped = a.stopped) ∨ ∃ i : Nat, a'.stopped[i]? = some false) : OpenJ j' := by
  refine ⟨by rw [hr]; exact h.1, fun a' ha' => ?_⟩
  rcases hm a' ha' with ⟨a, ha, e⟩ | h2
  · rw [e]
    exact h.2 a ha
  · exact h2

theorem open_trigger {j : JobM} (h : OpenJ j) : OpenJ j.trigger.2.2 := by
  unfold JobM.trigger
  split
  · exact h
  · refine open_mem h rfl fun a' ha' => ?_
    simp only [List.mem_map] at ha'
    obtain ⟨a, ha, rfl⟩ := ha'
    exact .inl ⟨a, ha, rfl⟩

theorem open_source {j : JobM} (h : OpenJ j) : OpenJ j.source.2 := by
  unfold JobM.source
  split
  · split
    · exact h
    · exact open_mem h rfl fun a' ha' => .inl ⟨a', ha', rfl⟩
  · split
    · exact h
    · split
      · exact h
      · split
        · exact h
        · exact open_mem h rfl fun a' ha' => .inl ⟨a', ha', rfl⟩

theorem open_sorts {j : JobM} (h : OpenJ j) (i : Nat) : OpenJ (j.sorts i).2 := by
  unfold JobM.sorts
  split
  · exact h
  · split
    · exact h
    · split
      · split
        · exact h
        · refine open_mem h rfl fun a' ha' => ?_
          simp only [List.mem_map] at ha'
          obtain ⟨a, ha, rfl⟩ := ha'
          exact .inl ⟨a, ha, rfl⟩
      · split
        · exact h
        · split
          · split
            · exact h
            · rename_i a ha
              split
              · exact h
              · refine open_mem h rfl fun a' ha' => ?_
                rcases List.mem_or_eq_of_mem_set ha' with hx | hx
                · exact .inl ⟨a', hx, rfl⟩
                · exact .inl ⟨a, List.mem_of_getElem? ha, by rw [hx]; rfl⟩
          · exact open_mem h rfl fun a' ha' => .inl ⟨a', ha', rfl⟩

theorem open_adds {j : JobM} (hf : FlowOk j) (h : OpenJ j) (k : Nat) : OpenJ (j.adds k).2 := by
  unfold JobM.adds
  split
  · exact h
  · rename_i a ha
    split
    · exact h
    · rename_i a' ht
      refine open_mem h rfl fun x hx => ?_
      rcases List.mem_or_eq_of_mem_set hx with hx | hx
      · exact .inl ⟨x, hx, rfl⟩
      · subst hx
        unfold AdderM.take at ht
        split at ht
        · split at ht
          · simp only [Option.some.injEq] at ht
            exact .inl ⟨a, List.mem_of_getElem? ha, by rw [← ht]⟩
          · split at ht
            · simp only [Option.some.injEq] at ht
              refine .inr ⟨0, ?_⟩
              rw [← ht]
              simp [hf.hW]
            · rename_i hall
              simp only [Option.some.injEq] at ht
              right
              rw [← ht]
              simp only
              have : ∃ b ∈ a.stopped.set a.firstOpen true, b = false := by
                apply Classical.byContradiction
                intro hc
                apply hall
                rw [List.all_eq_true]
                intro b hb
                cases hbb : b with
                | true => rfl
                | false => exact absurd ⟨b, hb, hbb⟩ hc
              obtain ⟨b, hb, rfl⟩ := this
              obtain ⟨i, hi, he⟩ := List.getElem_of_mem hb
              exact ⟨i, by rw [List.getElem?_eq_getElem hi, he]⟩
        · cases ht

theorem open_commit {j : JobM} (h : OpenJ j) : OpenJ j.commit := by
  refine open_mem h rfl fun a' ha' => ?_
  simp only [JobM.commit, List.mem_map] at ha'
  obtain ⟨a, ha, rfl⟩ := ha'
  exact .inl ⟨a, ha, rfl⟩

theorem open_keeps {j : JobM} (h : OpenJ j) : OpenJ j.keeps.2 := by
  unfold JobM.keeps
  split
  · exact open_commit h
  · split
    · exact open_mem h rfl fun a' ha' => .inl ⟨a', ha', rfl⟩
    · exact h

theorem open_step {j : JobM} (hf : FlowOk j) (h : OpenJ j) (t : Int) : OpenJ (j.step t).2 := by
  unfold JobM.step
  split
  · exact h
  · split
    · exact open_source h
    · split
      · exact open_sorts h _
      · split
        · exact open_adds hf h _
        · exact open_keeps h

theorem open_forget {j : JobM} (hW : 0 < j.width) (h : OpenJ j) : OpenJ j.forget := by
  refine open_mem h rfl fun a' ha' => ?_
  simp only [JobM.forget, List.mem_map] at ha'
  obtain ⟨a, ha, rfl⟩ := ha'
  exact .inr ⟨0, by simp [hW]⟩

theorem open_fail {j : JobM} (hf : FlowOk j) (h : OpenJ j) : OpenJ j.fail := by
  unfold JobM.fail
  split
  · exact open_forget (show 0 < j.commit.width from hf.hW) (open_commit h)
  · exact open_forget hf.hW h

/-- Nothing is to be done. -/
structure Still (j : JobM) : Prop where
  under : j.under = false
  sent : j.sent = j.events.length
  sorters : ∀ (i : Nat) (s : SorterM), j.sorters[i]? = some s → s.pipe = []
  adders : ∀ (k : Nat) (a : AdderM) (i : Nat) (p : List ChgM), j.adders[k]? = some a → a.pipes[i]? = some p → p = []

/-- An adder that is refused has nothing in its open pipes. -/
theorem adds_empty {j : JobM} (hf : FlowOk j) {k : Nat} {a : AdderM} (ha : j.adders[k]? = some a) (hr : (j.adds k).1 ≠ 0) {i : Nat} {p : List ChgM} (hs : a.stopped[i]? = some false) (hp : a.pipes[i]? = some p) : p = [] := by
  apply Classical.byContradiction
  intro hne
  apply hr
  unfold JobM.adds
  rw [ha]
  simp only
  have o := hf.adders k a ha
  have hi : i < j.width := by rw [← o.lenP]; exact (List.getElem?_eq_some_iff.1 hp).1
  have hlz : (a.stopped.zip a.pipes).length = j.width := by rw [List.length_zip, o.lenS, o.lenP]; exact Nat.min_self _
  have hex : ∃ x ∈ a.stopped.zip a.pipes, (!x.1 && !x.2.isEmpty) = true := by
    refine ⟨(false, p), ?_, ?_⟩
    · have : (a.stopped.zip a.pipes)[i]? = some (false, p) := by
        rw [List.getElem?_zip_eq_some]
        exact ⟨hs, hp⟩
      exact List.mem_of_getElem? this
    · cases p with
      | nil => exact absurd rfl hne
      | cons x xs => rfl
  have hlt : List.findIdx (fun x : Bool × List ChgM => !x.1 && !x.2.isEmpty) (a.stopped.zip a.pipes) < (a.stopped.zip a.pipes).length := List.findIdx_lt_length_of_exists hex
  have hsat := List.findIdx_getElem (p := fun x : Bool × List ChgM => !x.1 && !x.2.isEmpty) (w := hlt)
  rw [List.getElem_zip] at hsat
  simp only [Bool.and_eq_true, Bool.not_eq_true'] at hsat
  unfold AdderM.take
  have hpl : a.firstOpen < a.pipes.length := by rw [o.lenP, ← hlz]; exact hlt
  rw [List.getElem?_eq_getElem hpl]
  have hne2 : a.pipes[a.firstOpen] ≠ [] := fun e => by
    have h2 : (a.pipes[a.firstOpen]).isEmpty = false := hsat.2
    rw [e] at h2
    cases h2
  generalize a.pipes[a.firstOpen] = q at hne2
  cases q with
  | nil => exact absurd rfl hne2
  | cons c rest =>
    simp only
    split
    · rename_i h
      split at h
      · cases h
      · split at h <;> cases h
    · rfl

theorem waits_pos {a : AdderM} {i room : Nat} (hr : 0 < room) (h : a.waits i = room) : ∃ p, a.pipes[i]? = some p ∧ p ≠ [] := by
  unfold AdderM.waits at h
  rw [List.getD_eq_getElem?_getD] at h
  cases hp : a.pipes[i]? with
  | none => rw [hp] at h; simp at h; omega
  | some p =>
    rw [hp] at h
    refine ⟨p, rfl, fun e => ?_⟩
    subst e
    simp at h
    omega

/-- A sorter that is refused has nothing, or something waits behind it. -/
theorem sorts_full {j : JobM} (hf : FlowOk j) (ho : 0 < j.room) {i : Nat} {s : SorterM} (hs : j.sorters[i]? = some s) (hr : (j.sorts i).1 ≠ 0) (hp : s.pipe ≠ []) : ∃ (k : Nat) (a : AdderM) (p : List ChgM), j.adders[k]? = some a ∧ a.pipes[i]? = some p ∧ p ≠ [] := by
  unfold JobM.sorts at hr
  rw [hs] at hr
  simp only at hr
  have o := hf.sorters i s hs
  cases hq : s.pipe with
  | nil => exact absurd hq hp
  | cons x rest =>
    rw [hq] at hr
    simp only at hr
    by_cases hx : x < 0
    · rw [if_pos hx] at hr
      split at hr
      · rename_i hany
        rw [List.any_eq_true] at hany
        obtain ⟨a, ha, hw⟩ := hany
        simp only [decide_eq_true_eq] at hw
        obtain ⟨p, hp1, hp2⟩ := waits_pos ho hw
        obtain ⟨k, hk, rfl⟩ := List.getElem_of_mem ha
        exact ⟨k, _, p, List.getElem?_eq_getElem hk, hp1, hp2⟩
      · exact absurd rfl hr
    · rw [if_neg hx] at hr
      have hix : x.toNat < j.events.length := by
        by_cases hc : j.fl = true → s.passed = true
        · exact ((o.free hc).1 x (by rw [hq]; simp)).2
        · have hfl : j.fl = true := Classical.byContradiction fun c => hc fun h => absurd h c
          have hpa : s.passed = false := by
            cases hh : s.passed with
            | false => rfl
            | true => exact absurd (fun _ => hh) hc
          obtain ⟨p1, p2, e1, e2, e3, _, _⟩ := o.wait hfl hpa
          rw [hq] at e1
          cases p1 with
          | nil =>
            simp only [List.nil_append, List.cons.injEq] at e1
            omega
          | cons y ys =>
            simp only [List.cons_append, List.cons.injEq] at e1
            rw [e1.1]
            exact (e2 y (by simp)).2
      rw [List.getElem?_eq_getElem hix] at hr
      simp only at hr
      split at hr
      · have hk : (grp j.events[x.toNat].key).1 % j.width < j.adders.length := by rw [hf.lenA]; exact Nat.mod_lt _ hf.hW
        rw [List.getElem?_eq_getElem hk] at hr
        simp only at hr
        split at hr
        · rename_i hw
          obtain ⟨p, hp1, hp2⟩ := waits_pos ho hw
          exact ⟨_, _, p, List.getElem?_eq_getElem hk, hp1, hp2⟩
        · exact absurd rfl hr
      · exact absurd rfl hr

theorem all_refused {j : JobM} (hf : FlowOk j) (ho : OpenJ j) (h0 : j.source.1 ≠ 0) (hS : ∀ i, i < j.width → (j.sorts i).1 ≠ 0) (hA : ∀ k, k < j.width → (j.adds k).1 ≠ 0) (hK : j.keeps.1 ≠ 0) : Still j := by
  have hE : ∀ (k : Nat) (a : AdderM) (i : Nat) (p : List ChgM), j.adders[k]? = some a → a.stopped[i]? = some false → a.pipes[i]? = some p → p = [] := fun k a i p ha hs hp => adds_empty hf ha (hA k (by rw [← hf.lenA]; exact (List.getElem?_eq_some_iff.1 ha).1)) hs hp
  have hst : ∀ (k : Nat) (a : AdderM) (i : Nat) (p : List ChgM) (s : SorterM), j.adders[k]? = some a → a.pipes[i]? = some p → j.sorters[i]? = some s → (j.fl = true → s.passed = false) → p = [] := fun k a i p s ha hp hs hc => by
    have o := hf.adders k a ha
    have hi : i < j.width := by rw [← o.lenP]; exact (List.getElem?_eq_some_iff.1 hp).1
    obtain ⟨R, _, hL⟩ := o.links
    obtain ⟨st, hst⟩ : ∃ st, a.stopped[i]? = some st := ⟨_, List.getElem?_eq_getElem (by rw [o.lenS]; exact hi)⟩
    cases st with
    | false => exact hE k a i p ha hst hp
    | true =>
      obtain ⟨x1, x2, _, _⟩ := (hL i hi s true p hs hst hp).stop rfl
      rw [hc x1] at x2
      cases x2
  have c1 : ∀ (i : Nat) (s : SorterM), j.sorters[i]? = some s → (j.fl = true → s.passed = false) → s.pipe = [] := fun i s hs hc => by
    apply Classical.byContradiction
    intro hne
    obtain ⟨k, a, p, ha, hp, hpn⟩ := sorts_full hf ho.1 hs (hS i (by rw [← hf.lenS]; exact (List.getElem?_eq_some_iff.1 hs).1)) hne
    exact hpn (hst k a i p s ha hp hs hc)
  have c2 : j.fl = true → ∀ (i : Nat) (s : SorterM), j.sorters[i]? = some s → s.passed = true := fun hfl i s hs => by
    cases hp : s.passed with
    | true => rfl
    | false =>
      obtain ⟨p1, p2, e1, _⟩ := (hf.sorters i s hs).wait hfl hp
      rw [c1 i s hs (fun _ => hp)] at e1
      simp at e1
  have c3 : j.fl = true → ∀ a ∈ j.adders, a.passed = true := fun hfl a ham => by
    obtain ⟨k, hk, rfl⟩ := List.getElem_of_mem ham
    have ha : j.adders[k]? = some j.adders[k] := List.getElem?_eq_getElem hk
    generalize j.adders[k] = a at ha ham
    have o := hf.adders k a ha
    cases hp : a.passed with
    | true => rfl
    | false =>
      obtain ⟨i, hi⟩ := ho.2 a ham
      have hiW : i < j.width := by rw [← o.lenS]; exact (List.getElem?_eq_some_iff.1 hi).1
      obtain ⟨p, hpp⟩ : ∃ p, a.pipes[i]? = some p := ⟨_, List.getElem?_eq_getElem (by rw [o.lenP]; exact hiW)⟩
      obtain ⟨s, hs⟩ : ∃ s, j.sorters[i]? = some s := ⟨_, List.getElem?_eq_getElem (by rw [hf.lenS]; exact hiW)⟩
      obtain ⟨R, _, hL⟩ := o.links
      obtain ⟨q1, q2, e1, _⟩ := (hL i hiW s false p hs hi hpp).mid hfl (c2 hfl i s hs) hp rfl
      rw [hE k a i p ha hi hpp] at e1
      simp at e1
  have c4 : j.fl = false := by
    cases hfl : j.fl with
    | false => rfl
    | true =>
      exfalso
      apply hK
      unfold JobM.keeps
      have hpa : j.passedAll = true := by
        unfold JobM.passedAll
        unfold JobM.fl at hfl
        rw [hfl]
        simp only [Bool.true_and, Bool.and_eq_true, List.all_eq_true]
        refine ⟨fun s hs => ?_, c3 (by unfold JobM.fl; exact hfl)⟩
        obtain ⟨i, hi, rfl⟩ := List.getElem_of_mem hs
        exact c2 (by unfold JobM.fl; exact hfl) i _ (List.getElem?_eq_getElem hi)
      split
      · rfl
      · first | rfl | rw [if_pos hpa]
  have c5 : ∀ (i : Nat) (s : SorterM), j.sorters[i]? = some s → s.pipe = [] := fun i s hs => c1 i s hs (fun h => by rw [c4] at h; cases h)
  have c6 : ∀ (k : Nat) (a : AdderM) (i : Nat) (p : List ChgM), j.adders[k]? = some a → a.pipes[i]? = some p → p = [] := fun k a i p ha hp => by
    have hi : i < j.width := by rw [← (hf.adders k a ha).lenP]; exact (List.getElem?_eq_some_iff.1 hp).1
    obtain ⟨s, hs⟩ : ∃ s, j.sorters[i]? = some s := ⟨_, List.getElem?_eq_getElem (by rw [hf.lenS]; exact hi)⟩
    exact hst k a i p s ha hp hs (fun h => by rw [c4] at h; cases h)
  have c7 : ¬ (j.under && !j.barriers) = true := fun hu => by
    unfold JobM.source at h0
    rw [if_pos hu] at h0
    split at h0
    · rename_i hany
      rw [List.any_eq_true] at hany
      obtain ⟨s, hs, hw⟩ := hany
      obtain ⟨i, hi, rfl⟩ := List.getElem_of_mem hs
      simp only [decide_eq_true_eq] at hw
      rw [c5 i _ (List.getElem?_eq_getElem hi)] at hw
      have := ho.1
      simp at hw
      omega
    · exact h0 rfl
  have hu : j.under = false := by
    cases hc : j.under with
    | false => rfl
    | true =>
      exfalso
      unfold JobM.fl at c4
      rw [hc] at c4 c7
      simp only [Bool.true_and] at c4 c7
      rw [c4] at c7
      exact c7 rfl
  refine ⟨hu, ?_, c5, c6⟩
  unfold JobM.source at h0
  rw [if_neg c7] at h0
  cases he : j.events[j.sent]? with
  | none =>
    have := List.getElem?_eq_none_iff.1 he
    have := hf.sent
    omega
  | some e =>
    exfalso
    rw [he] at h0
    simp only at h0
    have hk : hashS e.key % j.width < j.sorters.length := by rw [hf.lenS]; exact Nat.mod_lt _ hf.hW
    rw [List.getElem?_eq_getElem hk] at h0
    simp only at h0
    rw [c5 _ _ (List.getElem?_eq_getElem hk)] at h0
    have := ho.1
    rw [if_neg (by simp; omega)] at h0
    exact h0 rfl

/-- Where nothing is to be done each task tells so. -/
theorem still_idle {j : JobM} (hf : FlowOk j) (h : Still j) (t : Int) (h0 : 0 ≤ t) (h1 : t ≤ 2 * (j.width : Int) + 1) : j.step t = (8, j) := by
  unfold JobM.step
  rw [if_neg (by omega)]
  split
  · unfold JobM.source
    rw [if_neg (by rw [h.under]; simp), h.sent, List.getElem?_eq_none (Nat.le_refl _)]
  · rename_i ht0
    split
    · rename_i ht
      have hi : (t - 1).toNat < j.sorters.length := by rw [hf.lenS]; omega
      unfold JobM.sorts
      rw [List.getElem?_eq_getElem hi]
      simp only
      rw [h.sorters _ _ (List.getElem?_eq_getElem hi)]
    · split
      · rename_i ht1 ht2
        have hk : (t - (j.width : Int) - 1).toNat < j.adders.length := by rw [hf.lenA]; omega
        unfold JobM.adds
        rw [List.getElem?_eq_getElem hk]
        simp only
        have htk : (j.adders[(t - (j.width : Int) - 1).toNat]).take j.width = none := by
          unfold AdderM.take
          split
          · rename_i c rest hp
            have := h.adders _ _ _ _ (List.getElem?_eq_getElem hk) hp
            cases this
          · rfl
        rw [htk]
      · unfold JobM.keeps
        rw [if_neg (by rw [h.under]; simp), if_neg (by unfold JobM.passedAll; rw [h.under]; simp)]

end Go.Proofs.YthccpacmklhejaaGreatDoor

namespace Go.Proofs.YthccpacmklhejaaGreatDoor

structure SameJ (j j' : JobM) : Prop where
  width : j'.width = j.width
  room : j'.room = j.room
  events : j'.events = j.events

theorem SameJ.refl (j : JobM) : SameJ j j := ⟨rfl, rfl, rfl⟩
theorem SameJ.trans {a b c : JobM} (h : SameJ a b) (h' : SameJ b c) : SameJ a c := ⟨h'.width.trans h.width, h'.room.trans h.room, h'.events.trans h.events⟩

theorem same_source (j : JobM) : SameJ j j.source.2 := by
  unfold JobM.source
  split
  · split <;> exact ⟨rfl, rfl, rfl⟩
  · split
    · exact ⟨rfl, rfl, rfl⟩
    · split
      · exact ⟨rfl, rfl, rfl⟩
      · split <;> exact ⟨rfl, rfl, rfl⟩

theorem same_sorts (j : JobM) (i : Nat) : SameJ j (j.sorts i).2 := by
  unfold JobM.sorts
  split
  · exact ⟨rfl, rfl, rfl⟩
  · split
    · exact ⟨rfl, rfl, rfl⟩
    · split
      · split <;> exact ⟨rfl, rfl, rfl⟩
      · split
        · exact ⟨rfl, rfl, rfl⟩
        · split
          · split
            · exact ⟨rfl, rfl, rfl⟩
            · split <;> exact ⟨rfl, rfl, rfl⟩
          · exact ⟨rfl, rfl, rfl⟩

theorem same_adds (j : JobM) (k : Nat) : SameJ j (j.adds k).2 := by
  unfold JobM.adds
  split
  · exact ⟨rfl, rfl, rfl⟩
  · split <;> exact ⟨rfl, rfl, rfl⟩

theorem same_keeps (j : JobM) : SameJ j j.keeps.2 := by
  unfold JobM.keeps
  split
  · exact ⟨rfl, rfl, rfl⟩
  · split <;> exact ⟨rfl, rfl, rfl⟩

theorem same_step (j : JobM) (t : Int) : SameJ j (j.step t).2 := by
  unfold JobM.step
  split
  · exact ⟨rfl, rfl, rfl⟩
  · split
    · exact same_source j
    · split
      · exact same_sorts j _
      · split
        · exact same_adds j _
        · exact same_keeps j

theorem same_trigger (j : JobM) : SameJ j j.trigger.2.2 := by
  unfold JobM.trigger
  split <;> exact ⟨rfl, rfl, rfl⟩

theorem same_fail (j : JobM) : SameJ j j.fail := by
  unfold JobM.fail
  split <;> exact ⟨rfl, rfl, rfl⟩

/-- The first steps of a round. -/
def JobM.roundTo (j : JobM) : Nat → JobM
  | 0 => j
  | n + 1 => ((j.roundTo n).step (n : Int)).2
def JobM.round (j : JobM) : JobM := j.roundTo (2 * j.width + 2)
def JobM.rounds (j : JobM) : Nat → JobM
  | 0 => j
  | n + 1 => (j.rounds n).round

theorem roundTo_keep {P : JobM → Prop} (hP : ∀ j t, P j → P (j.step t).2) {j : JobM} (h : P j) : ∀ n, P (j.roundTo n)
  | 0 => h
  | n + 1 => hP _ _ (roundTo_keep hP h n)

theorem rounds_keep {P : JobM → Prop} (hP : ∀ j t, P j → P (j.step t).2) {j : JobM} (h : P j) : ∀ n, P (j.rounds n)
  | 0 => h
  | n + 1 => roundTo_keep hP (rounds_keep hP h n) _

def Good2 (j : JobM) : Prop := FlowOk j ∧ OpenJ j
theorem good2_step (j : JobM) (t : Int) (h : Good2 j) : Good2 (j.step t).2 := ⟨flow_step h.1 t, open_step h.1 h.2 t⟩

theorem round_less {j : JobM} (h : Good2 j) : ∀ n, (j.roundTo n = j ∧ ∀ t, t < n → (j.step ((t : Nat) : Int)).1 ≠ 0) ∨ (j.roundTo n).phi < j.phi
  | 0 => .inl ⟨rfl, fun t ht => by omega⟩
  | n + 1 => by
    have hg := roundTo_keep good2_step h n
    rcases round_less h n with ⟨h1, h2⟩ | h1
    · by_cases h0 : (j.step ((n : Nat) : Int)).1 = 0
      · right
        show ((j.roundTo n).step (n : Int)).2.phi < j.phi
        rw [h1]
        exact phi_step h.1 _ h0
      · left
        refine ⟨?_, fun t ht => ?_⟩
        · show ((j.roundTo n).step (n : Int)).2 = j
          rw [h1]
          exact (step_refused j _).resolve_left h0
        · by_cases e : t = n
          · subst e; exact h0
          · exact h2 t (by omega)
    · right
      show ((j.roundTo n).step (n : Int)).2.phi < j.phi
      rcases step_refused (j.roundTo n) (n : Int) with h3 | h3
      · exact Nat.lt_trans (phi_step hg.1 _ h3) h1
      · rw [h3]; exact h1

theorem still_of_refused {j : JobM} (h : Good2 j) (hr : ∀ t, t < 2 * j.width + 2 → (j.step ((t : Nat) : Int)).1 ≠ 0) : Still j := by
  refine all_refused h.1 h.2 ?_ (fun i hi => ?_) (fun k hk => ?_) ?_
  · have := hr 0 (by omega)
    unfold JobM.step at this
    rw [if_neg (by simp; omega), if_pos (by simp)] at this
    exact this
  · have := hr (i + 1) (by omega)
    unfold JobM.step at this
    rw [if_neg (by omega), if_neg (by omega), if_pos (by omega), show (((i + 1 : Nat) : Int) - 1).toNat = i from by omega] at this
    exact this
  · have := hr (j.width + k + 1) (by omega)
    unfold JobM.step at this
    rw [if_neg (by omega), if_neg (by omega), if_neg (by omega), if_pos (by omega), show (((j.width + k + 1 : Nat) : Int) - (j.width : Int) - 1).toNat = k from by omega] at this
    exact this
  · have := hr (2 * j.width + 1) (by omega)
    unfold JobM.step at this
    have hW := h.1.hW
    rw [if_neg (by omega), if_neg (by omega), if_neg (by omega), if_neg (by omega)] at this
    exact this

theorem still_round {j : JobM} (h : Good2 j) (hs : Still j) : j.round = j := by
  have : ∀ n, n ≤ 2 * j.width + 2 → j.roundTo n = j := by
    intro n
    induction n with
    | zero => intro _; rfl
    | succ n ih =>
      intro hn
      show ((j.roundTo n).step (n : Int)).2 = j
      rw [ih (by omega), still_idle h.1 hs _ (by omega) (by omega)]
  exact this _ (Nat.le_refl _)

theorem rounds_less {j : JobM} (h : Good2 j) : ∀ n, Still (j.rounds n) ∨ (j.rounds n).phi + n ≤ j.phi
  | 0 => .inr (by simp [JobM.rounds])
  | n + 1 => by
    have hg := rounds_keep good2_step h n
    rcases rounds_less h n with h1 | h1
    · left
      show Still ((j.rounds n).round)
      rw [still_round hg h1]
      exact h1
    · rcases round_less hg (2 * (j.rounds n).width + 2) with ⟨h2, h3⟩ | h2
      · left
        have hs := still_of_refused hg h3
        show Still ((j.rounds n).round)
        rw [still_round hg hs]
        exact hs
      · right
        have : ((j.rounds n).round).phi < (j.rounds n).phi := h2
        show ((j.rounds n).round).phi + (n + 1) ≤ j.phi
        omega

theorem rounds_still {j : JobM} (h : Good2 j) {n : Nat} (hn : j.phi < n) : Still (j.rounds n) := by
  rcases rounds_less h n with h1 | h1
  · exact h1
  · omega

/-- The whole is what its parts are. -/
theorem part_length {α : Type} (g : α → Nat) (W : Nat) (l : List α) (h : ∀ x ∈ l, g x < W) : accN (fun k => (l.filter (fun x => decide (g x = k))).length) W = l.length := by
  induction l with
  | nil =>
    have : accN (fun k => (([] : List α).filter (fun x => decide (g x = k))).length) W = accN (fun _ => 0) W := accN_congr fun _ _ => rfl
    rw [this, accN_const]
    simp
  | cons x l ih =>
    have ih := ih fun y hy => h y (by simp [hy])
    have hx := h x (by simp)
    have := accN_upd (f := fun k => (l.filter (fun x => decide (g x = k))).length) (g := fun k => ((x :: l).filter (fun x => decide (g x = k))).length) hx (fun i _ hne => by simp [Ne.symm hne])
    simp only [List.filter_cons, decide_true, if_true, List.length_cons] at this ⊢
    omega

theorem outsFrom_length (es : List Ev) : ∀ pre, (outsFrom pre es).length ≤ es.length := by
  induction es with
  | nil => intro pre; simp [outsFrom]
  | cons e es ih =>
    intro pre
    have := ih (pre ++ [e])
    simp only [outsFrom, List.length_append, List.length_cons]
    split <;> simp <;> omega

theorem evsAt_length {E : List Ev} {l : List Int} (h : idx E l) : (evsAt E l).length = l.length := by
  induction l with
  | nil => rfl
  | cons x l ih =>
    have := ih fun y hy => h y (by simp [hy])
    have hx := (h x (by simp)).2
    unfold evsAt at this ⊢
    simp only [List.flatMap_cons, List.length_append, this, List.getElem?_eq_getElem hx, Option.toList_some, List.length_cons, List.length_nil]
    omega

theorem idx_count {E : List Ev} {l : List Int} (h : idx E l) : l.countP (fun x => decide (0 ≤ x)) = l.length := by
  rw [List.countP_eq_length]
  intro x hx
  simpa using (h x hx).1

theorem clean_chs {l : List ChgM} (h : clean l) : chs l = l.length := by
  unfold chs
  rw [List.countP_eq_length]
  intro x hx
  simpa using h x hx

theorem SOk.size {E : List Ev} {W i sent off base : Nat} {fl : Bool} {s : SorterM} (h : SOk E W i sent off base fl s) : s.waits + s.got.length = (evs W E sent i).length := by
  unfold SorterM.waits
  by_cases hc : fl = true → s.passed = true
  · obtain ⟨h1, h2⟩ := h.free hc
    rw [← h2, List.length_append, evsAt_length h1, idx_count h1]
    omega
  · have hfl : fl = true := Classical.byContradiction fun c => hc fun h => absurd h c
    have hpa : s.passed = false := by
      cases hh : s.passed with
      | false => rfl
      | true => exact absurd (fun _ => hh) hc
    obtain ⟨p1, p2, e1, e2, e3, e4, e5⟩ := h.wait hfl hpa
    rw [← e5, e1, List.countP_append, List.countP_cons, idx_count e2, idx_count e3]
    simp only [List.length_append, evsAt_length e2, evsAt_length e3]
    have : (decide (0 ≤ (-1 : Int))) = false := rfl
    rw [this]
    simp only [Bool.false_eq_true, if_false]
    omega

theorem LOk.size {fl sp ap st : Bool} {offO gotO pipe R : List ChgM} (h : LOk fl sp ap st offO gotO pipe R) : chs pipe ≤ gotO.length := by
  by_cases hc : fl = true ∧ sp = true ∧ ap = false ∧ st = false
  · obtain ⟨q1, q2, e1, e2, e3, e4, e5⟩ := h.mid hc.1 hc.2.1 hc.2.2.1 hc.2.2.2
    rw [← e5, e1, chs_append]
    have hb : chs (barM :: q2) = chs q2 := by unfold chs; simp [barM]
    rw [hb, clean_chs e2, clean_chs e3]
    simp only [List.length_append]
    omega
  · obtain ⟨o1, o2⟩ := h.free hc
    rw [← o2, clean_chs o1]
    simp

theorem phi_bound {j : JobM} (h : FlowOk j) (hW : j.width ≤ 4) : j.phi ≤ 3 * j.events.length + 23 := by
  have hck : j.ck ≤ 23 := by
    have hww : j.width * j.width ≤ 4 * 4 := Nat.mul_le_mul hW hW
    cases hu : j.under with
    | false => rw [ck_none hu]; omega
    | true =>
      cases hb : j.barriers with
      | false => rw [ck_wait hu hb]; omega
      | true =>
        rw [ck_fl hu hb]
        have e3 : accN (fun i => (j.sorterAt i).owes) j.width ≤ accN (fun _ => 1) j.width := accN_le fun i _ => by
          unfold SorterM.owes
          split <;> omega
        have e4 : accN (fun k => (j.adderAt k).owes) j.width ≤ accN (fun _ => j.width) j.width := accN_le fun k hk => adder_owes_le h k hk
        rw [accN_const] at e3 e4
        have e7 : (if j.complete = true then 1 else 2) ≤ 2 := by split <;> omega
        omega
  have hs : ∀ i, i < j.width → (j.sorterAt i).waits + (j.sorterAt i).got.length = (evs j.width j.events j.sent i).length := fun i hi => by
    have hss : j.sorters[i]? = some (j.sorters[i]'(by rw [h.lenS]; exact hi)) := List.getElem?_eq_getElem _
    rw [sorterAt_some hss]
    exact (h.sorters i _ hss).size
  have hev : accN (fun i => (evs j.width j.events j.sent i).length) j.width = j.sent := by
    unfold evs
    rw [part_length (fun e => hashS e.key % j.width) j.width (j.events.take j.sent) (fun e _ => Nat.mod_lt _ h.hW), List.length_take]
    exact Nat.min_eq_left h.sent
  have hch : ∀ i, i < j.width → accN (fun k => chs ((j.adderAt k).pipes.getD i [])) j.width ≤ (j.sorterAt i).got.length := fun i hi => by
    have hss : j.sorters[i]? = some (j.sorters[i]'(by rw [h.lenS]; exact hi)) := List.getElem?_eq_getElem _
    rw [sorterAt_some hss]
    generalize j.sorters[i]'(by rw [h.lenS]; exact hi) = s at hss
    refine Nat.le_trans (accN_le (g := fun k => (toA j.width k (outs s.got)).length) fun k hk => ?_) ?_
    · have ha : j.adders[k]? = some (j.adders[k]'(by rw [h.lenA]; exact hk)) := List.getElem?_eq_getElem _
      rw [adderAt_some ha]
      generalize j.adders[k]'(by rw [h.lenA]; exact hk) = a at ha
      have o := h.adders k a ha
      obtain ⟨R, _, hL⟩ := o.links
      have hp : a.pipes[i]? = some (a.pipes[i]'(by rw [o.lenP]; exact hi)) := List.getElem?_eq_getElem _
      have hst : a.stopped[i]? = some (a.stopped[i]'(by rw [o.lenS]; exact hi)) := List.getElem?_eq_getElem _
      rw [List.getD_eq_getElem?_getD, hp]
      exact (hL i hi s _ _ hss hst hp).size
    · unfold toA
      rw [part_length (fun c : ChgM => c.pt.toNat % j.width) j.width (outs s.got) (fun c _ => Nat.mod_lt _ h.hW)]
      exact outsFrom_length _ _
  have e1 : accN (fun k => (j.adderAt k).waitsAll j.width) j.width ≤ accN (fun i => (j.sorterAt i).got.length) j.width := by
    unfold AdderM.waitsAll
    rw [accN_comm]
    exact accN_le hch
  have e2 : accN (fun i => (j.sorterAt i).waits) j.width + accN (fun i => (j.sorterAt i).got.length) j.width = j.sent := by
    rw [← accN_add, ← hev]
    exact accN_congr hs
  unfold JobM.phi
  have := h.sent
  omega

/-- All is sent; the checkpoint that is under way is the whole log's, or the last that was committed is. -/
structure Last (j : JobM) : Prop where
  sent : j.sent = j.events.length
  off : j.under = true → j.barriers = true → j.off = j.events.length
  base : j.under = false → j.base = j.events.length

theorem last_step (j : JobM) (t : Int) (h : Last j ∧ Good2 j) : Last (j.step t).2 ∧ Good2 (j.step t).2 := by
  refine ⟨?_, good2_step j t h.2⟩
  obtain ⟨h, hg, _⟩ := h
  unfold JobM.step
  split
  · exact h
  · split
    · unfold JobM.source
      split
      · rename_i hu
        simp only [Bool.and_eq_true] at hu
        split
        · exact h
        · exact ⟨h.sent, fun _ _ => h.sent, fun x => by simp only at x; rw [hu.1] at x; cases x⟩
      · split
        · exact h
        · rename_i e he
          exfalso
          rw [h.sent, List.getElem?_eq_none (Nat.le_refl _)] at he
          cases he
    · split
      · unfold JobM.sorts
        split
        · exact h
        · split
          · exact h
          · split
            · split
              · exact h
              · exact ⟨h.sent, h.off, h.base⟩
            · split
              · exact h
              · split
                · split
                  · exact h
                  · split
                    · exact h
                    · exact ⟨h.sent, h.off, h.base⟩
                · exact ⟨h.sent, h.off, h.base⟩
      · split
        · unfold JobM.adds
          split
          · exact h
          · split
            · exact h
            · exact ⟨h.sent, h.off, h.base⟩
        · unfold JobM.keeps
          split
          · rename_i hu
            simp only [Bool.and_eq_true] at hu
            exact ⟨h.sent, fun x => (by cases x), fun _ => h.off hu.1 (hg.comp hu.1 hu.2).1⟩
          · split
            · exact ⟨h.sent, h.off, h.base⟩
            · exact h

/-- Ends, in plain Lean. -/
theorem ends_idle {j : JobM} (h : Good2 j) (hW : j.width ≤ 4) : Still (j.rounds (50 + 3 * j.events.length)) := rounds_still h (by have := phi_bound h.1 hW; omega)

theorem ends_last {j : JobM} (h : Good2 j) (hW : j.width ≤ 4) (hs : Still j) : (j.trigger.2.2.rounds 30).base = j.events.length ∧ j.trigger.2.1 = 0 := by
  have ht : j.trigger = (j.number + 1, 0, { j with under := true, barriers := false, complete := false, sorters := j.sorters.map (fun s => { s with passed := false }), adders := j.adders.map (fun a => { a with passed := false }), number := j.number + 1 }) := by
    unfold JobM.trigger
    rw [if_neg (by rw [hs.under]; simp)]
  have hg : Good2 j.trigger.2.2 := ⟨flow_trigger h.1, open_trigger h.2⟩
  have hl : Last j.trigger.2.2 := by
    rw [ht]
    exact ⟨hs.sent, fun _ x => (by cases x), fun x => (by cases x)⟩
  refine ⟨?_, by rw [ht]⟩
  have hk := rounds_keep last_step ⟨hl, hg⟩ 30
  have hsame : SameJ j (j.trigger.2.2.rounds 30) := rounds_keep (P := fun x => SameJ j x) (fun x t hx => hx.trans (same_step x t)) (same_trigger j) 30
  have hphi : j.trigger.2.2.phi < 30 := by
    rw [phi_of (j := j) (by rw [ht]) (by rw [ht])]
    have e1 : accN (fun i => (j.trigger.2.2.sorterAt i).waits) j.width = accN (fun _ => 0) j.width := accN_congr fun i hi => by
      rw [ht]
      unfold JobM.sorterAt
      simp only
      rw [getD_map _ _ _ _ newS (by rw [h.1.lenS]; exact hi)]
      have hss : j.sorters[i]? = some (j.sorters[i]'(by rw [h.1.lenS]; exact hi)) := List.getElem?_eq_getElem _
      rw [List.getD_eq_getElem?_getD, hss]
      unfold SorterM.waits
      simp only [Option.getD_some]
      rw [hs.sorters i _ hss]
      rfl
    have e2 : accN (fun k => (j.trigger.2.2.adderAt k).waitsAll j.width) j.width = accN (fun _ => 0) j.width := accN_congr fun k hk => by
      rw [ht]
      unfold JobM.adderAt
      simp only
      rw [getD_map _ _ _ _ (newA 0) (by rw [h.1.lenA]; exact hk)]
      have ha : j.adders[k]? = some (j.adders[k]'(by rw [h.1.lenA]; exact hk)) := List.getElem?_eq_getElem _
      rw [List.getD_eq_getElem?_getD, ha]
      unfold AdderM.waitsAll
      simp only [Option.getD_some]
      rw [accN_congr (g := fun _ => 0) fun i hi => ?_, accN_const]
      · simp
      · have hp : (j.adders[k]'(by rw [h.1.lenA]; exact hk)).pipes[i]? = some _ := List.getElem?_eq_getElem (by rw [(h.1.adders k _ ha).lenP]; exact hi)
        rw [List.getD_eq_getElem?_getD, hp, Option.getD_some, hs.adders k _ i _ ha hp]
        rfl
    have e3 : j.trigger.2.2.ck = 1 + j.width + j.width * j.width + 2 := by
      have := ck_wait (j := j.trigger.2.2) (by rw [ht]) (by rw [ht])
      rw [this, ht]
    have e4 : j.trigger.2.2.sent = j.events.length := by rw [ht]; exact hs.sent
    have hww : j.width * j.width ≤ 4 * 4 := Nat.mul_le_mul hW hW
    rw [e1, e2, e3, e4, accN_const]
    omega
  have hst := rounds_still hg hphi
  have := hk.1.base hst.under
  rw [this, hsame.events]

end Go.Proofs.YthccpacmklhejaaGreatDoor
