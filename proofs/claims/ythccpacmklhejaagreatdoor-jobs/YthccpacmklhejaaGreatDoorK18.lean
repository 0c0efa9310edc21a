/-
  Several texts in one.
-/
import Derived.Test.YthccpacmklhejaaGreatDoorK17
import Derived.Test.YthccpacmklhejaaGreatDoorK13
namespace Go.Proofs.YthccpacmklhejaaGreatDoor

def JobM.sumS (j : JobM) : Nat := accN (fun i => (j.sorterAt i).pipe.length) j.width
def AdderM.sumP (a : AdderM) (W : Nat) : Nat := accN (fun i => (a.pipes.getD i []).length) W
def JobM.sumA (j : JobM) : Nat := accN (fun k => (j.adderAt k).sumP j.width) j.width

theorem moves_source {j : JobM} (h : FlowOk j) (hok : j.source.1 = 0) : j.source.2.adders = j.adders ∧ ((j.source.2.sent = j.sent + 1 ∧ j.sent < j.events.length ∧ j.source.2.sumS = j.sumS + 1) ∨ (j.source.2.sent = j.sent ∧ j.source.2.sumS = j.sumS + j.width)) := by
  unfold JobM.source at hok ⊢
  by_cases hu : (j.under && !j.barriers) = true
  · rw [if_pos hu] at hok ⊢
    split at hok
    · cases hok
    · rename_i hfull
      rw [if_neg hfull]
      refine ⟨rfl, .inr ⟨rfl, ?_⟩⟩
      have e1 : ∀ i, i < j.width → (({ j with sorters := j.sorters.map (fun s => { s with pipe := s.pipe ++ [-1] }), barriers := true, off := j.sent } : JobM).sorterAt i).pipe.length = (j.sorterAt i).pipe.length + 1 := fun i hi => by
        unfold JobM.sorterAt
        simp only
        rw [getD_map _ _ _ _ newS (by rw [h.lenS]; exact hi)]
        simp
      show accN _ j.width = _
      rw [accN_congr e1, accN_add, accN_const]
      unfold JobM.sumS
      omega
  · rw [if_neg hu] at hok ⊢
    revert hok
    split
    · intro hok
      cases hok
    · rename_i e he
      split
      · intro hok
        cases hok
      · rename_i s hs
        split
        · intro hok
          cases hok
        · intro _
          have hlt := (List.getElem?_eq_some_iff.1 he).1
          have hsl := (List.getElem?_eq_some_iff.1 hs).1
          have hW : hashS e.key % j.width < j.width := Nat.mod_lt _ h.hW
          generalize hashS e.key % j.width = i0 at hs hsl hW
          refine ⟨rfl, .inl ⟨rfl, hlt, ?_⟩⟩
          generalize hj : ({ j with sorters := j.sorters.set i0 { s with pipe := s.pipe ++ [(j.sent : Int)] }, sent := j.sent + 1 } : JobM) = j'
          have e1 : ∀ i, j'.sorterAt i = if i = i0 then { s with pipe := s.pipe ++ [(j.sent : Int)] } else j.sorterAt i := fun i => by
            rw [← hj]
            unfold JobM.sorterAt
            exact getD_set _ _ _ _ _ hsl
          have hw' : j'.width = j.width := by rw [← hj]
          have e2 := accN_upd (f := fun i => (j.sorterAt i).pipe.length) (g := fun i => (j'.sorterAt i).pipe.length) hW (fun i _ hne => by simp only [e1, if_neg hne])
          have e4 : (j'.sorterAt i0).pipe.length = (j.sorterAt i0).pipe.length + 1 := by
            rw [e1, if_pos rfl, sorterAt_some hs]
            simp
          show j'.sumS = j.sumS + 1
          unfold JobM.sumS
          rw [hw']
          rw [e4] at e2
          omega

theorem push_sum {a : AdderM} {W i : Nat} (hl : a.pipes.length = W) (hi : i < W) (c : ChgM) : (a.push i c).sumP W = a.sumP W + 1 := by
  unfold AdderM.sumP AdderM.push
  simp only
  have hg : ∀ m, (a.pipes.modify i (· ++ [c])).getD m [] = if m = i then a.pipes.getD m [] ++ [c] else a.pipes.getD m [] := fun m => getD_modify _ _ _ _ _ (by omega)
  have hw : accN (fun m => ((a.pipes.modify i (· ++ [c])).getD m []).length) W + (a.pipes.getD i []).length = accN (fun m => (a.pipes.getD m []).length) W + ((a.pipes.modify i (· ++ [c])).getD i []).length := accN_upd (f := fun m => (a.pipes.getD m []).length) (g := fun m => ((a.pipes.modify i (· ++ [c])).getD m []).length) hi (fun m _ hne => by simp only [hg, if_neg hne])
  have hgi : ((a.pipes.modify i (· ++ [c])).getD i []).length = (a.pipes.getD i []).length + 1 := by rw [hg, if_pos rfl]; simp
  rw [hgi] at hw
  omega

theorem moves_sorts {j : JobM} (h : FlowOk j) (i : Nat) (hok : (j.sorts i).1 = 0) : (j.sorts i).2.sent = j.sent ∧ (j.sorts i).2.sumS + 1 = j.sumS ∧ ((j.sorts i).2.sorterAt i).pipe.length + 1 = (j.sorterAt i).pipe.length ∧ ((j.sorts i).2.sumA = j.sumA ∨ (j.sorts i).2.sumA = j.sumA + 1 ∨ (j.sorts i).2.sumA = j.sumA + j.width) := by
  unfold JobM.sorts at hok ⊢
  revert hok
  split
  · intro hok
    cases hok
  · rename_i s hs
    have hsl := (List.getElem?_eq_some_iff.1 hs).1
    have hiW : i < j.width := by rw [← h.lenS]; exact hsl
    split
    · intro hok
      cases hok
    · rename_i x rest hp
      have key : ∀ (j' : JobM) (s' : SorterM), j'.width = j.width → j'.sorters = j.sorters.set i s' → s'.pipe = rest → j'.sumS + 1 = j.sumS ∧ (j'.sorterAt i).pipe.length + 1 = (j.sorterAt i).pipe.length := fun j' s' hw hss hpp => by
        have e1 : ∀ m, j'.sorterAt m = if m = i then s' else j.sorterAt m := fun m => by
          unfold JobM.sorterAt
          rw [hss]
          exact getD_set _ _ _ _ _ hsl
        have e2 := accN_upd (f := fun m => (j.sorterAt m).pipe.length) (g := fun m => (j'.sorterAt m).pipe.length) hiW (fun m _ hne => by simp only [e1, if_neg hne])
        have e3 : (j'.sorterAt i).pipe.length + 1 = (j.sorterAt i).pipe.length := by
          rw [e1, if_pos rfl, sorterAt_some hs, hp, hpp]
          simp
        refine ⟨?_, e3⟩
        unfold JobM.sumS
        rw [hw]
        omega
      split
      · split
        · intro hok
          cases hok
        · intro _
          obtain ⟨k1, k2⟩ := key { j with adders := j.adders.map (fun a => a.push i barM), sorters := j.sorters.set i { s with marked := s.got.length, passed := true, pipe := rest } } { s with marked := s.got.length, passed := true, pipe := rest } rfl rfl rfl
          refine ⟨rfl, k1, k2, .inr (.inr ?_)⟩
          show accN _ j.width = _
          have e1 : ∀ k, k < j.width → (({ j with adders := j.adders.map (fun a => a.push i barM), sorters := j.sorters.set i { s with marked := s.got.length, passed := true, pipe := rest } } : JobM).adderAt k).sumP j.width = (j.adderAt k).sumP j.width + 1 := fun k hk => by
            have ha : j.adders[k]? = some (j.adders[k]'(by rw [h.lenA]; exact hk)) := List.getElem?_eq_getElem _
            unfold JobM.adderAt
            simp only
            rw [getD_map _ _ _ _ (newA 0) (by rw [h.lenA]; exact hk), List.getD_eq_getElem?_getD, ha, Option.getD_some]
            exact push_sum (h.adders k _ ha).lenP hiW _
          rw [accN_congr e1, accN_add, accN_const]
          unfold JobM.sumA
          omega
      · split
        · intro hok
          cases hok
        · rename_i e he
          split
          · split
            · intro hok
              cases hok
            · rename_i a ha
              split
              · intro hok
                cases hok
              · intro _
                have hal := (List.getElem?_eq_some_iff.1 ha).1
                have hkW : (grp e.key).1 % j.width < j.width := Nat.mod_lt _ h.hW
                generalize (grp e.key).1 % j.width = k0 at ha hal hkW
                generalize chgOf (knOf e.key s.got) e = c
                generalize hj : ({ j with adders := j.adders.set k0 (a.push i c), sorters := j.sorters.set i { s with got := s.got ++ [e], pipe := rest } } : JobM) = j'
                obtain ⟨k1, k2⟩ := key j' { s with got := s.got ++ [e], pipe := rest } (by rw [← hj]) (by rw [← hj]) rfl
                refine ⟨by rw [← hj], k1, k2, .inr (.inl ?_)⟩
                have e2 : ∀ k, j'.adderAt k = if k = k0 then a.push i c else j.adderAt k := fun k => by
                  rw [← hj]
                  unfold JobM.adderAt
                  exact getD_set _ _ _ _ _ hal
                have e4 := accN_upd (f := fun k => (j.adderAt k).sumP j.width) (g := fun k => (j'.adderAt k).sumP j.width) hkW (fun m _ hne => by simp only [e2, if_neg hne])
                have e7 : (j'.adderAt k0).sumP j.width = (j.adderAt k0).sumP j.width + 1 := by
                  rw [e2, if_pos rfl, push_sum (h.adders k0 a ha).lenP hiW, adderAt_some ha]
                have hw' : j'.width = j.width := by rw [← hj]
                show j'.sumA = j.sumA + 1
                unfold JobM.sumA
                rw [hw']
                rw [e7] at e4
                omega
          · intro _
            obtain ⟨k1, k2⟩ := key { j with sorters := j.sorters.set i { s with got := s.got ++ [e], pipe := rest } } { s with got := s.got ++ [e], pipe := rest } rfl rfl rfl
            exact ⟨rfl, k1, k2, .inl rfl⟩

theorem take_sum {a a' : AdderM} {W : Nat} (hl : a.pipes.length = W) (ht : a.take W = some a') : a'.sumP W + 1 = a.sumP W := by
  unfold AdderM.take at ht
  split at ht
  · rename_i c rest hp
    have hpl := (List.getElem?_eq_some_iff.1 hp).1
    generalize a.firstOpen = f at hp hpl ht
    have hg : ∀ m, (a.pipes.set f rest).getD m [] = if m = f then rest else a.pipes.getD m [] := fun m => getD_set _ _ _ _ _ hpl
    have hw : accN (fun m => ((a.pipes.set f rest).getD m []).length) W + (a.pipes.getD f []).length = accN (fun m => (a.pipes.getD m []).length) W + ((a.pipes.set f rest).getD f []).length := accN_upd (f := fun m => (a.pipes.getD m []).length) (g := fun m => ((a.pipes.set f rest).getD m []).length) (by omega) (fun m _ hne => by simp only [hg, if_neg hne])
    have h0 : a.pipes.getD f [] = c :: rest := by rw [List.getD_eq_getElem?_getD, hp]; rfl
    have h2 : (a.pipes.set f rest).getD f [] = rest := by rw [hg, if_pos rfl]
    rw [h0, h2, List.length_cons] at hw
    have key : ∀ x : AdderM, x.pipes = a.pipes.set f rest → x.sumP W + 1 = a.sumP W := fun x hx => by
      unfold AdderM.sumP
      rw [hx]
      omega
    split at ht
    · simp only [Option.some.injEq] at ht
      exact key a' (by rw [← ht])
    · split at ht
      · simp only [Option.some.injEq] at ht
        exact key a' (by rw [← ht])
      · simp only [Option.some.injEq] at ht
        exact key a' (by rw [← ht])
  · cases ht

theorem moves_adds {j : JobM} (h : FlowOk j) (k : Nat) (hok : (j.adds k).1 = 0) : (j.adds k).2.sent = j.sent ∧ (j.adds k).2.sorters = j.sorters ∧ (j.adds k).2.sumA + 1 = j.sumA := by
  unfold JobM.adds at hok ⊢
  revert hok
  split
  · intro hok
    cases hok
  · rename_i a ha
    split
    · intro hok
      cases hok
    · rename_i a' ht
      intro _
      have hal := (List.getElem?_eq_some_iff.1 ha).1
      have hkW : k < j.width := by rw [← h.lenA]; exact hal
      refine ⟨rfl, rfl, ?_⟩
      generalize hj : ({ j with adders := j.adders.set k a' } : JobM) = j'
      have e2 : ∀ m, j'.adderAt m = if m = k then a' else j.adderAt m := fun m => by
        rw [← hj]
        unfold JobM.adderAt
        exact getD_set _ _ _ _ _ hal
      have e4 := accN_upd (f := fun m => (j.adderAt m).sumP j.width) (g := fun m => (j'.adderAt m).sumP j.width) hkW (fun m _ hne => by simp only [e2, if_neg hne])
      have e5 := take_sum (h.adders k a ha).lenP ht
      have e6 : j'.adderAt k = a' := by rw [e2, if_pos rfl]
      have hw' : j'.width = j.width := by rw [← hj]
      rw [e6, adderAt_some ha] at e4
      show j'.sumA + 1 = j.sumA
      unfold JobM.sumA
      rw [hw']
      omega

theorem commit_pipes {j : JobM} (h : FlowOk j) : j.commit.sent = j.sent ∧ (∀ i, i < j.width → (j.commit.sorterAt i).pipe = (j.sorterAt i).pipe) ∧ ∀ k, k < j.width → (j.commit.adderAt k).pipes = (j.adderAt k).pipes := by
  refine ⟨rfl, fun i hi => ?_, fun k hk => ?_⟩
  · unfold JobM.sorterAt JobM.commit
    simp only
    rw [getD_map _ _ _ _ newS (by rw [h.lenS]; exact hi)]
  · unfold JobM.adderAt JobM.commit
    simp only
    rw [getD_map _ _ _ _ (newA 0) (by rw [h.lenA]; exact hk)]

theorem moves_keeps {j : JobM} (h : FlowOk j) : j.keeps.2.sent = j.sent ∧ (∀ i, i < j.width → (j.keeps.2.sorterAt i).pipe = (j.sorterAt i).pipe) ∧ ∀ k, k < j.width → (j.keeps.2.adderAt k).pipes = (j.adderAt k).pipes := by
  unfold JobM.keeps
  split
  · exact commit_pipes h
  · split
    · exact ⟨rfl, fun _ _ => rfl, fun _ _ => rfl⟩
    · exact ⟨rfl, fun _ _ => rfl, fun _ _ => rfl⟩

/-- How a step is refused. -/
theorem source_code (j : JobM) : j.source.1 = 0 ∨ j.source.1 = 8 ∨ j.source.1 = 9 := by
  unfold JobM.source
  split
  · split <;> simp
  · split
    · simp
    · split
      · simp
      · split <;> simp
theorem sorts_code (j : JobM) (i : Nat) : (j.sorts i).1 = 0 ∨ (j.sorts i).1 = 8 ∨ (j.sorts i).1 = 9 := by
  unfold JobM.sorts
  split
  · simp
  · split
    · simp
    · split
      · split <;> simp
      · split
        · simp
        · split
          · split
            · simp
            · split <;> simp
          · simp
theorem adds_code (j : JobM) (k : Nat) : (j.adds k).1 = 0 ∨ (j.adds k).1 = 8 ∨ (j.adds k).1 = 9 := by
  unfold JobM.adds
  split
  · simp
  · split <;> simp
theorem keeps_code (j : JobM) : j.keeps.1 = 0 ∨ j.keeps.1 = 8 ∨ j.keeps.1 = 9 := by
  unfold JobM.keeps
  split
  · simp
  · split <;> simp

theorem step_code (j : JobM) (t : Int) (h0 : 0 ≤ t) (h1 : t ≤ 2 * (j.width : Int) + 1) : (j.step t).1 = 0 ∨ (j.step t).1 = 8 ∨ (j.step t).1 = 9 := by
  unfold JobM.step
  rw [if_neg (by omega)]
  split
  · exact source_code j
  · split
    · exact sorts_code j _
    · split
      · exact adds_code j _
      · exact keeps_code j

/-- Behind Fail nothing waits but the events behind the offset, at the source. -/
theorem forget_idle {j : JobM} (hf : FlowOk j) (t : Int) (h0 : 1 ≤ t) (h1 : t ≤ 2 * (j.width : Int) + 1) : j.forget.step t = (8, j.forget) := by
  unfold JobM.step
  have hw : j.forget.width = j.width := rfl
  rw [hw, if_neg (by omega), if_neg (by omega)]
  split
  · rename_i ht
    have hi : (t - 1).toNat < j.sorters.length := by rw [hf.lenS]; omega
    unfold JobM.sorts
    have : j.forget.sorters[(t - 1).toNat]? = some ⟨(j.sorters[(t - 1).toNat]).got.take (j.sorters[(t - 1).toNat]).kept, [], (j.sorters[(t - 1).toNat]).kept, (j.sorters[(t - 1).toNat]).kept, false⟩ := by
      unfold JobM.forget
      simp only [List.getElem?_map, List.getElem?_eq_getElem hi]
      rfl
    rw [this]
  · split
    · rename_i ht1 ht2
      have hk : (t - (j.width : Int) - 1).toNat < j.adders.length := by rw [hf.lenA]; omega
      unfold JobM.adds
      generalize (t - (j.width : Int) - 1).toNat = k at hk
      have : j.forget.adders[k]? = some ⟨(j.adders[k]).got.take (j.adders[k]).kept, List.replicate j.width [], List.replicate j.width false, (j.adders[k]).kept, (j.adders[k]).kept, false⟩ := by
        unfold JobM.forget
        simp only [List.getElem?_map, List.getElem?_eq_getElem hk]
        rfl
      rw [this]
      simp only
      have htk : (AdderM.mk ((j.adders[k]).got.take (j.adders[k]).kept) (List.replicate j.width []) (List.replicate j.width false) (j.adders[k]).kept (j.adders[k]).kept false).take j.forget.width = none := by
        unfold AdderM.take
        split
        · rename_i c rest hp
          simp only [List.getElem?_replicate] at hp
          split at hp <;> cases hp
        · rfl
      rw [htk]
    · unfold JobM.keeps
      rw [if_neg (by unfold JobM.forget; simp), if_neg (by unfold JobM.passedAll JobM.forget; simp)]

/-- Fail, and once more. -/
theorem forget_twice (j : JobM) : j.forget.fail = j.forget := by
  unfold JobM.fail
  have hu : (j.forget.under && j.forget.complete) = false := by unfold JobM.forget; rfl
  rw [hu]
  simp only [Bool.false_eq_true, if_false]
  unfold JobM.forget
  simp only [List.map_map]
  congr 1
  · apply List.map_congr_left
    intro s hs
    simp only [Function.comp, List.take_take, Nat.min_self]
  · apply List.map_congr_left
    intro a ha
    simp only [Function.comp, List.take_take, Nat.min_self]

theorem fail_forget (j : JobM) : ∃ j0 : JobM, j.fail = j0.forget ∧ (j0 = j ∨ j0 = j.commit) ∧ (FlowOk j → FlowOk j0) := by
  unfold JobM.fail
  by_cases h : (j.under && j.complete) = true
  · rw [if_pos h]
    simp only [Bool.and_eq_true] at h
    exact ⟨j.commit, rfl, .inr rfl, fun hf => flow_commit hf h.1 h.2⟩
  · rw [if_neg h]
    exact ⟨j, rfl, .inl rfl, id⟩

/-- The offset never goes down. -/
theorem base_step {j : JobM} (hf : FlowOk j) (t : Int) : j.base ≤ (j.step t).2.base := by
  have hk : j.base ≤ j.keeps.2.base := by
    unfold JobM.keeps
    split
    · rename_i h
      simp only [Bool.and_eq_true] at h
      have := (hf.comp h.1 h.2).1
      exact (hf.off (by unfold JobM.fl; rw [h.1, this]; rfl)).1
    · split <;> exact Nat.le_refl _
  unfold JobM.step
  split
  · exact Nat.le_refl _
  · split
    · unfold JobM.source
      split
      · split <;> exact Nat.le_refl _
      · split
        · exact Nat.le_refl _
        · split
          · exact Nat.le_refl _
          · split <;> exact Nat.le_refl _
    · split
      · unfold JobM.sorts
        split
        · exact Nat.le_refl _
        · split
          · exact Nat.le_refl _
          · split
            · split <;> exact Nat.le_refl _
            · split
              · exact Nat.le_refl _
              · split
                · split
                  · exact Nat.le_refl _
                  · split <;> exact Nat.le_refl _
                · exact Nat.le_refl _
      · split
        · unfold JobM.adds
          split
          · exact Nat.le_refl _
          · split <;> exact Nat.le_refl _
        · exact hk

theorem base_fail {j : JobM} (hf : FlowOk j) : j.base ≤ j.fail.base := by
  unfold JobM.fail
  split
  · rename_i h
    simp only [Bool.and_eq_true] at h
    have := (hf.comp h.1 h.2).1
    exact (hf.off (by unfold JobM.fl; rw [h.1, this]; rfl)).1
  · exact Nat.le_refl _

end Go.Proofs.YthccpacmklhejaaGreatDoor

namespace Go.Proofs.YthccpacmklhejaaGreatDoor

theorem toA_mem {W k : Nat} {l : List ChgM} {c : ChgM} (h : c ∈ toA W k l) : c ∈ l ∧ c.pt.toNat % W = k := by
  unfold toA at h
  rw [List.mem_filter] at h
  exact ⟨h.1, by simpa using h.2⟩

theorem outsFrom_pt (es : List Ev) : ∀ pre, ∀ c ∈ outsFrom pre es, ∃ e ∈ es, c.pt = ((grp e.key).1 : Int) ∧ c.tx = (grp e.key).2 := by
  induction es with
  | nil => intro pre c hc; simp [outsFrom] at hc
  | cons e es ih =>
    intro pre c hc
    simp only [outsFrom, List.mem_append] at hc
    rcases hc with hc | hc
    · split at hc
      · simp only [List.mem_cons, List.not_mem_nil, or_false] at hc
        exact ⟨e, by simp, by rw [hc]; rfl, by rw [hc]; rfl⟩
      · simp at hc
    · obtain ⟨e', h1, h2⟩ := ih _ c hc
      exact ⟨e', by simp [h1], h2⟩

theorem allTo_mem {W k n : Nat} {E : List Ev} {c : ChgM} (h : c ∈ allTo W k n E) : 0 ≤ c.pt ∧ c.pt.toNat % W = k ∧ ∃ e ∈ E, c.pt = ((grp e.key).1 : Int) ∧ c.tx = (grp e.key).2 := by
  unfold allTo at h
  obtain ⟨i, _, hc⟩ := List.mem_flatMap.1 h
  obtain ⟨h1, h2⟩ := toA_mem hc
  obtain ⟨e, he, hp, ht⟩ := outsFrom_pt _ _ c h1
  unfold evs at he
  exact ⟨by rw [hp]; exact Int.natCast_nonneg _, h2, e, List.mem_of_mem_take (List.mem_filter.1 he).1, hp, ht⟩

/-- The sums of an adder's group, of the changes that it had taken at a mark. -/
theorem mark_sums {j : JobM} (hf : FlowOk j) (p n : Nat) (hn : n ≤ j.events.length) {l : List ChgM} (h : l.Perm (allTo j.width (p % j.width) n j.events)) :
    sumC (fun c => c.live) p l = tot fLive (j.events.take n) p ∧ sumC (fun c => c.delta) p l = tot fSum (j.events.take n) p ∧ sumC (fun _ => 1) p l = tot fCnt (j.events.take n) p := by
  rw [sumC_perm h, sumC_perm h, sumC_perm h]
  exact ⟨sum_allTo says_live hf.hW _ _ _ hn, sum_allTo says_sum hf.hW _ _ _ hn, sum_allTo says_cnt hf.hW _ _ _ hn⟩

/-- A group's value out of the changes of its adder. -/
def gvC (l : List ChgM) (p : Nat) : GV := ⟨p, sumC (fun c => c.live) p l, wrap16 (sumC (fun c => c.delta) p l), sumC (fun _ => 1) p l % 256⟩

theorem gvC_mark {j : JobM} (hf : FlowOk j) (p n : Nat) (hn : n ≤ j.events.length) {l : List ChgM} (h : l.Perm (allTo j.width (p % j.width) n j.events)) : gvC l p = gvOf (j.events.take n) p := by
  obtain ⟨h1, h2, h3⟩ := mark_sums hf p n hn h
  unfold gvC gvOf
  rw [h1, h2, h3]

theorem shown_mark {j : JobM} (hf : FlowOk j) (p n : Nat) (hn : n ≤ j.events.length) {l : List ChgM} (h : l.Perm (allTo j.width (p % j.width) n j.events)) : p ∈ ptsOf (j.events.take n) ↔ ∃ c ∈ l, c.pt = (p : Int) := by
  rw [(cnt_pos p (j.events.take n)).2, ← (mark_sums hf p n hn h).2.2, (sumC_one_pos p l).2]

theorem sumC_none {g : ChgM → Int} {p : Nat} {l : List ChgM} (h : ∀ c ∈ l, c.pt ≠ (p : Int)) : sumC g p l = 0 := by
  induction l with
  | nil => rfl
  | cons c l ih =>
    simp only [sumC]
    rw [if_neg (h c (by simp)), ih fun x hx => h x (by simp [hx])]
    rfl

/-- Did an adder take a change of a group between the last commit and its mark? -/
def AdderM.chgd (a : AdderM) (p : Nat) : Prop := ∃ c ∈ (a.got.take a.marked).drop a.kept, c.pt = (p : Int)

/-- What is laid over the view at a commit is what the first events make, as many as the checkpoint says; what isn't changed is as it was. -/
theorem commit_exact {j : JobM} (hf : FlowOk j) (hfl : j.fl = true) {p : Nat} {a : AdderM} (ha : j.adders[p % j.width]? = some a) (hp : a.passed = true) :
    (a.chgd p → p ∈ ptsOf (j.events.take j.off) ∧ gvC (a.got.take a.marked) p = gvOf (j.events.take j.off) p) ∧
    (¬ a.chgd p → gvOf (j.events.take j.off) p = gvOf (j.events.take j.base) p ∧ (p ∈ ptsOf (j.events.take j.off) ↔ p ∈ ptsOf (j.events.take j.base))) := by
  have o := hf.adders _ a ha
  obtain ⟨m1, m2, m3, _⟩ := o.mark hfl hp
  have hoff := hf.off hfl
  have hno : j.off ≤ j.events.length := Nat.le_trans hoff.2 hf.sent
  have hnb : j.base ≤ j.events.length := Nat.le_trans hf.base hf.sent
  refine ⟨fun h => ?_, fun h => ?_⟩
  · obtain ⟨c, hc, hcp⟩ := h
    exact ⟨(shown_mark hf p _ hno m3).2 ⟨c, List.mem_of_mem_drop hc, hcp⟩, gvC_mark hf p _ hno m3⟩
  · have hspl : a.got.take a.marked = a.got.take a.kept ++ (a.got.take a.marked).drop a.kept := by
      have h1 : (a.got.take a.marked).take a.kept = a.got.take a.kept := by rw [List.take_take, Nat.min_eq_left m1]
      rw [← h1, List.take_append_drop]
    have hz : ∀ g : ChgM → Int, sumC g p (a.got.take a.marked) = sumC g p (a.got.take a.kept) := fun g => by
      rw [hspl, sumC_append, sumC_none (l := (a.got.take a.marked).drop a.kept) (fun c hc e => h ⟨c, hc, e⟩)]
      omega
    have hg : gvC (a.got.take a.marked) p = gvC (a.got.take a.kept) p := by
      unfold gvC
      rw [hz, hz, hz]
    refine ⟨by rw [← gvC_mark hf p _ hno m3, hg, gvC_mark hf p _ hnb o.kept_perm], ?_⟩
    rw [shown_mark hf p _ hno m3, shown_mark hf p _ hnb o.kept_perm, ← (sumC_one_pos p _).2, ← (sumC_one_pos p _).2, hz]

/-- Rows in their order, none twice, are known by their members. -/
theorem sorted_ext {l1 l2 : List GV} (h1 : (l1.map (fun r => r.pt)).Pairwise (· < ·)) (h2 : (l2.map (fun r => r.pt)).Pairwise (· < ·)) (h : ∀ r, r ∈ l1 ↔ r ∈ l2) : l1 = l2 := by
  induction l1 generalizing l2 with
  | nil =>
    cases l2 with
    | nil => rfl
    | cons r l2 => exact absurd ((h r).2 (by simp)) (by simp)
  | cons a l1 ih =>
    cases l2 with
    | nil => exact absurd ((h a).1 (by simp)) (by simp)
    | cons b l2 =>
      simp only [List.map_cons, List.pairwise_cons] at h1 h2
      have hlt1 : ∀ r ∈ l1, a.pt < r.pt := fun r hr => h1.1 r.pt (List.mem_map.2 ⟨r, hr, rfl⟩)
      have hlt2 : ∀ r ∈ l2, b.pt < r.pt := fun r hr => h2.1 r.pt (List.mem_map.2 ⟨r, hr, rfl⟩)
      have hab : a = b := by
        rcases List.mem_cons.1 ((h a).1 (by simp)) with e | ha
        · exact e
        · rcases List.mem_cons.1 ((h b).2 (by simp)) with e | hb
          · exact e.symm
          · have := hlt2 a ha
            have := hlt1 b hb
            omega
      subst hab
      congr 1
      refine ih h1.2 h2.2 fun r => ⟨fun hr => ?_, fun hr => ?_⟩
      · rcases List.mem_cons.1 ((h r).1 (by simp [hr])) with e | hr2
        · subst e; have := hlt1 r hr; omega
        · exact hr2
      · rcases List.mem_cons.1 ((h r).2 (by simp [hr])) with e | hr2
        · subst e; have := hlt2 r hr; omega
        · exact hr2

theorem tabOf_sorted (es : List Ev) : ((tabOf es).map (fun r => r.pt)).Pairwise (· < ·) := by
  unfold tabOf
  rw [List.map_map]
  have : (ptsOf es).map ((fun r : GV => r.pt) ∘ gvOf es) = ptsOf es := by
    conv => rhs; rw [← List.map_id (ptsOf es)]
    exact List.map_congr_left fun p _ => rfl
  rw [this]
  exact ptsOf_sorted es

theorem mem_tabOf (es : List Ev) (r : GV) : r ∈ tabOf es ↔ r.pt ∈ ptsOf es ∧ r = gvOf es r.pt := by
  unfold tabOf
  rw [List.mem_map]
  constructor
  · rintro ⟨p, hp, rfl⟩
    exact ⟨hp, rfl⟩
  · rintro ⟨h1, h2⟩
    exact ⟨r.pt, h1, h2.symm⟩

/-- The view behind a commit. -/
theorem view_exact {j : JobM} (hf : FlowOk j) (hfl : j.fl = true) (hp : ∀ a ∈ j.adders, a.passed = true) {view : List GV} (hs : (view.map (fun r => r.pt)).Pairwise (· < ·))
    (hv : ∀ r, r ∈ view ↔ ∃ a, j.adders[r.pt % j.width]? = some a ∧ ((a.chgd r.pt ∧ r = gvC (a.got.take a.marked) r.pt) ∨ (¬ a.chgd r.pt ∧ r ∈ tabOf (j.events.take j.base)))) : view = tabOf (j.events.take j.off) := by
  refine sorted_ext hs (tabOf_sorted _) fun r => ?_
  rw [hv]
  refine Iff.trans ?_ (mem_tabOf _ _).symm
  have hk : r.pt % j.width < j.adders.length := by rw [hf.lenA]; exact Nat.mod_lt _ hf.hW
  have ha : j.adders[r.pt % j.width]? = some (j.adders[r.pt % j.width]) := List.getElem?_eq_getElem hk
  obtain ⟨c1, c2⟩ := commit_exact hf hfl ha (hp _ (List.getElem_mem hk))
  constructor
  · rintro ⟨a, ha', h⟩
    rw [ha] at ha'
    simp only [Option.some.injEq] at ha'
    subst ha'
    rcases h with ⟨h1, h2⟩ | ⟨h1, h2⟩
    · exact ⟨(c1 h1).1, h2.trans (c1 h1).2⟩
    · obtain ⟨d1, d2⟩ := (mem_tabOf _ _).1 h2
      exact ⟨(c2 h1).2.2 d1, d2.trans (c2 h1).1.symm⟩
  · rintro ⟨h1, h2⟩
    refine ⟨_, ha, ?_⟩
    by_cases hc : (j.adders[r.pt % j.width]).chgd r.pt
    · exact .inl ⟨hc, h2.trans (c1 hc).2.symm⟩
    · exact .inr ⟨hc, (mem_tabOf _ _).2 ⟨(c2 hc).2.1 h1, h2.trans (c2 hc).1⟩⟩

end Go.Proofs.YthccpacmklhejaaGreatDoor

namespace Go.Proofs.YthccpacmklhejaaGreatDoor

abbrev sortedX (t : List GX) : Prop := (t.map (fun x => x.v.pt)).Pairwise (· < ·)

theorem sortedX_cons {r : GX} {t : List GX} : sortedX (r :: t) ↔ (∀ x ∈ t, r.v.pt < x.v.pt) ∧ sortedX t := by
  unfold sortedX
  rw [List.map_cons, List.pairwise_cons]
  simp

theorem sortedX_eq {t : List GX} (h : sortedX t) : ∀ {x y : GX}, x ∈ t → y ∈ t → x.v.pt = y.v.pt → x = y := by
  induction t with
  | nil => intro x y hx; cases hx
  | cons r t ih =>
    obtain ⟨h1, h2⟩ := sortedX_cons.1 h
    intro x y hx hy he
    rcases List.mem_cons.1 hx with e1 | hx'
    · rcases List.mem_cons.1 hy with e2 | hy'
      · rw [e1, e2]
      · have := h1 y hy'
        rw [e1] at he
        omega
    · rcases List.mem_cons.1 hy with e2 | hy'
      · have := h1 x hx'
        rw [e2] at he
        omega
      · exact ih h2 hx' hy' he

/-- A group, laid over a table. -/
def putX (x : GX) : List GX → List GX
  | [] => [x]
  | r :: rs => if r.v.pt < x.v.pt then r :: putX x rs else if r.v.pt = x.v.pt then x :: rs else x :: r :: rs

theorem home_put (x : GX) : ∀ rs : List GX, (homeX x.v.pt rs).set (plcX x.v.pt rs) x = putX x rs
  | [] => by simp [homeX, plcX, putX]
  | r :: rs => by
    by_cases c : r.v.pt < x.v.pt
    · have e : plcX x.v.pt (r :: rs) = plcX x.v.pt rs + 1 := by simp [plcX, c]
      have e2 : homeX x.v.pt (r :: rs) = r :: homeX x.v.pt rs := by
        unfold homeX
        rw [e]
        simp only [List.getElem?_cons_succ, List.take_succ_cons, List.drop_succ_cons]
        split <;> simp
      rw [e, e2, List.set_cons_succ, home_put x rs]
      conv => rhs; unfold putX
      rw [if_pos c]
    · have e : plcX x.v.pt (r :: rs) = 0 := by simp [plcX, c]
      by_cases d : r.v.pt = x.v.pt
      · have e2 : homeX x.v.pt (r :: rs) = r :: rs := by
          unfold homeX
          rw [e]
          simp [d]
        rw [e, e2, List.set_cons_zero]
        unfold putX
        rw [if_neg c, if_pos d]
      · have e2 : homeX x.v.pt (r :: rs) = ⟨⟨x.v.pt, 0, 0, 0⟩, false⟩ :: r :: rs := by
          unfold homeX
          rw [e]
          simp [d]
        rw [e, e2, List.set_cons_zero]
        unfold putX
        rw [if_neg c, if_neg d]

theorem mem_putX {x : GX} : ∀ {t : List GX}, sortedX t → ∀ y, y ∈ putX x t ↔ y = x ∨ (y ∈ t ∧ y.v.pt ≠ x.v.pt)
  | [], _, y => by simp [putX]
  | r :: t, h, y => by
    obtain ⟨h1, h2⟩ := sortedX_cons.1 h
    unfold putX
    by_cases c : r.v.pt < x.v.pt
    · rw [if_pos c, List.mem_cons, mem_putX h2 y, List.mem_cons]
      constructor
      · rintro (rfl | h | ⟨h3, h4⟩)
        · exact .inr ⟨.inl rfl, by omega⟩
        · exact .inl h
        · exact .inr ⟨.inr h3, h4⟩
      · rintro (h | ⟨h3 | h3, h4⟩)
        · exact .inr (.inl h)
        · exact .inl h3
        · exact .inr (.inr ⟨h3, h4⟩)
    · rw [if_neg c]
      by_cases d : r.v.pt = x.v.pt
      · rw [if_pos d, List.mem_cons, List.mem_cons]
        constructor
        · rintro (h | h)
          · exact .inl h
          · have := h1 y h
            exact .inr ⟨.inr h, by omega⟩
        · rintro (h | ⟨h3 | h3, h4⟩)
          · exact .inl h
          · subst h3
            exact absurd d h4
          · exact .inr h3
      · rw [if_neg d, List.mem_cons]
        constructor
        · rintro (h | h)
          · exact .inl h
          · refine .inr ⟨h, ?_⟩
            rcases List.mem_cons.1 h with rfl | h
            · exact d
            · have := h1 y h
              omega
        · rintro (h | ⟨h3, h4⟩)
          · exact .inl h
          · exact .inr h3

theorem putX_sorted {x : GX} : ∀ {t : List GX}, sortedX t → sortedX (putX x t)
  | [], _ => by simp [putX, sortedX]
  | r :: t, h => by
    obtain ⟨h1, h2⟩ := sortedX_cons.1 h
    unfold putX
    by_cases c : r.v.pt < x.v.pt
    · rw [if_pos c, sortedX_cons]
      refine ⟨fun y hy => ?_, putX_sorted h2⟩
      rcases (mem_putX h2 y).1 hy with rfl | ⟨h3, _⟩
      · exact c
      · exact h1 y h3
    · rw [if_neg c]
      by_cases d : r.v.pt = x.v.pt
      · rw [if_pos d, sortedX_cons]
        exact ⟨fun y hy => by have := h1 y hy; omega, h2⟩
      · rw [if_neg d, sortedX_cons]
        refine ⟨fun y hy => ?_, h⟩
        rcases List.mem_cons.1 hy with rfl | hy
        · omega
        · have := h1 y hy
          omega

def layX (over t : List GX) : List GX := over.foldl (fun t x => putX x t) t

theorem layX_facts : ∀ (over t : List GX), sortedX t → sortedX over → sortedX (layX over t) ∧ ∀ y, y ∈ layX over t ↔ y ∈ over ∨ (y ∈ t ∧ ∀ z ∈ over, z.v.pt ≠ y.v.pt)
  | [], t, h, _ => ⟨h, fun y => by simp [layX]⟩
  | x :: over, t, h, ho => by
    obtain ⟨h1, h2⟩ := sortedX_cons.1 ho
    obtain ⟨i1, i2⟩ := layX_facts over (putX x t) (putX_sorted h) h2
    refine ⟨i1, fun y => ?_⟩
    rw [show layX (x :: over) t = layX over (putX x t) from rfl, i2, mem_putX h]
    simp only [List.mem_cons]
    constructor
    · rintro (h3 | ⟨rfl | ⟨h3, h4⟩, h5⟩)
      · exact .inl (.inr h3)
      · exact .inl (.inl rfl)
      · refine .inr ⟨h3, fun z hz => ?_⟩
        rcases hz with rfl | hz
        · exact fun e => h4 e.symm
        · exact h5 z hz
    · rintro ((rfl | h3) | ⟨h3, h4⟩)
      · exact .inr ⟨.inl rfl, fun z hz => by have := h1 z hz; omega⟩
      · exact .inl h3
      · exact .inr ⟨.inr ⟨h3, fun e => h4 x (.inl rfl) e.symm⟩, fun z hz => h4 z (.inr hz)⟩

theorem layX_length (over : List GX) : ∀ t : List GX, (layX over t).length ≤ t.length + over.length := by
  have hp : ∀ (x : GX) (t : List GX), (putX x t).length ≤ t.length + 1 := by
    intro x t
    induction t with
    | nil => simp [putX]
    | cons r t ih =>
      unfold putX
      split
      · simp only [List.length_cons]; omega
      · split <;> simp only [List.length_cons] <;> omega
  induction over with
  | nil => intro t; exact Nat.le_refl _
  | cons x over ih =>
    intro t
    have := ih (putX x t)
    have h2 := hp x t
    rw [show layX (x :: over) t = layX over (putX x t) from rfl]
    simp only [List.length_cons]
    omega

/-- The groups without their flags. -/
def calmX (x : GX) : GX := ⟨x.v, false⟩
def takenX (t : List GX) : List GX := (t.filter (fun x => x.ch)).map calmX

theorem calm_sorted {t : List GX} (h : sortedX t) : sortedX (t.map calmX) := by
  unfold sortedX
  rw [List.map_map]
  exact h

theorem taken_sorted {t : List GX} (h : sortedX t) : sortedX (takenX t) := by
  unfold takenX
  refine calm_sorted ?_
  exact List.Pairwise.sublist (List.Sublist.map _ List.filter_sublist) h

theorem mem_taken {t : List GX} (x : GX) : x ∈ takenX t ↔ ∃ y ∈ t, y.ch = true ∧ x = calmX y := by
  unfold takenX
  simp only [List.mem_map, List.mem_filter]
  constructor
  · rintro ⟨y, ⟨h1, h2⟩, rfl⟩
    exact ⟨y, h1, h2, rfl⟩
  · rintro ⟨y, h1, h2, rfl⟩
    exact ⟨y, ⟨h1, h2⟩, rfl⟩

/-- A table of changes; chg: those since the last TakeChanged. -/
structure TabIs (t : List GX) (got chg : List ChgM) : Prop where
  sorted : sortedX t
  mem : ∀ x, x ∈ t ↔ (∃ c ∈ got, c.pt = (x.v.pt : Int)) ∧ x.v = gvC got x.v.pt ∧ (x.ch = true ↔ ∃ c ∈ chg, c.pt = (x.v.pt : Int))

theorem TabIs.nil : TabIs [] [] [] := ⟨by simp [sortedX], fun x => by simp⟩

theorem TabIs.perm {t : List GX} {got got' chg chg' : List ChgM} (h : TabIs t got chg) (hp : got.Perm got') (hc : ∀ c, c ∈ chg ↔ c ∈ chg') : TabIs t got' chg' := by
  refine ⟨h.sorted, fun x => (h.mem x).trans ?_⟩
  have hg : gvC got x.v.pt = gvC got' x.v.pt := by
    unfold gvC
    rw [sumC_perm hp, sumC_perm hp, sumC_perm hp]
  rw [hg]
  constructor
  · rintro ⟨⟨c, h1, h2⟩, h3, h4⟩
    refine ⟨⟨c, hp.mem_iff.1 h1, h2⟩, h3, h4.trans ?_⟩
    exact ⟨fun ⟨c, a, b⟩ => ⟨c, (hc c).1 a, b⟩, fun ⟨c, a, b⟩ => ⟨c, (hc c).2 a, b⟩⟩
  · rintro ⟨⟨c, h1, h2⟩, h3, h4⟩
    refine ⟨⟨c, hp.mem_iff.2 h1, h2⟩, h3, h4.trans ?_⟩
    exact ⟨fun ⟨c, a, b⟩ => ⟨c, (hc c).2 a, b⟩, fun ⟨c, a, b⟩ => ⟨c, (hc c).1 a, b⟩⟩

theorem add_put (p : Nat) (l s : Int) : ∀ (t : List GX), sortedX t → ∃ x : GX, x.v.pt = p ∧ x.ch = true ∧ addX p l s t = putX x t ∧ ((∃ y ∈ t, y.v.pt = p ∧ x.v = y.v.plus l s) ∨ ((∀ y ∈ t, y.v.pt ≠ p) ∧ x.v = (GV.mk p 0 0 0).plus l s))
  | [], _ => ⟨⟨(GV.mk p 0 0 0).plus l s, true⟩, rfl, rfl, rfl, .inr ⟨by simp, rfl⟩⟩
  | r :: t, h => by
    obtain ⟨h1, h2⟩ := sortedX_cons.1 h
    by_cases c : r.v.pt < p
    · obtain ⟨x, e1, e2, e3, e4⟩ := add_put p l s t h2
      refine ⟨x, e1, e2, ?_, ?_⟩
      · unfold addX putX
        rw [if_pos c, e1, if_pos c, e3]
      · rcases e4 with ⟨y, a, b⟩ | ⟨a, b⟩
        · exact .inl ⟨y, by simp [a], b⟩
        · refine .inr ⟨fun y hy => ?_, b⟩
          rcases List.mem_cons.1 hy with rfl | hy
          · omega
          · exact a y hy
    · by_cases d : r.v.pt = p
      · refine ⟨⟨r.v.plus l s, true⟩, d, rfl, ?_, .inl ⟨r, by simp, d, rfl⟩⟩
        have e : (GX.mk (r.v.plus l s) true).v.pt = r.v.pt := rfl
        have c2 : ¬ r.v.pt < (GX.mk (r.v.plus l s) true).v.pt := by rw [e]; omega
        unfold addX putX
        rw [if_neg c, if_pos d, if_neg c2, if_pos e.symm]
      · refine ⟨⟨(GV.mk p 0 0 0).plus l s, true⟩, rfl, rfl, ?_, .inr ⟨fun y hy => ?_, rfl⟩⟩
        · have e : (GX.mk ((GV.mk p 0 0 0).plus l s) true).v.pt = p := rfl
          have c2 : ¬ r.v.pt < (GX.mk ((GV.mk p 0 0 0).plus l s) true).v.pt := by rw [e]; exact c
          have d2 : ¬ r.v.pt = (GX.mk ((GV.mk p 0 0 0).plus l s) true).v.pt := by rw [e]; exact d
          unfold addX putX
          rw [if_neg c, if_neg d, if_neg c2, if_neg d2]
        · rcases List.mem_cons.1 hy with rfl | hy
          · exact d
          · have := h1 y hy
            omega

theorem gvC_snoc {got : List ChgM} {c : ChgM} {p : Nat} (h : c.pt = (p : Int)) : gvC (got ++ [c]) p = (gvC got p).plus c.live (wrap16 c.delta) := by
  unfold gvC GV.plus
  rw [sumC_append, sumC_append, sumC_append]
  simp only [sumC, if_pos h, Int.add_zero, GV.mk.injEq, true_and]
  refine ⟨?_, ?_⟩
  · rw [wrap16_add', wrap16_add]
  · omega

theorem gvC_other {got : List ChgM} {c : ChgM} {p : Nat} (h : c.pt ≠ (p : Int)) : gvC (got ++ [c]) p = gvC got p := by
  unfold gvC
  rw [sumC_append, sumC_append, sumC_append]
  simp only [sumC, if_neg h, Int.add_zero]

theorem gvC_none {got : List ChgM} {p : Nat} (h : ∀ c ∈ got, c.pt ≠ (p : Int)) : gvC got p = ⟨p, 0, 0, 0⟩ := by
  unfold gvC
  rw [sumC_none h, sumC_none h, sumC_none h]
  rfl

theorem TabIs.add {t : List GX} {got chg : List ChgM} (h : TabIs t got chg) {c : ChgM} {p : Nat} (hp : c.pt = (p : Int)) : TabIs (addX p c.live (wrap16 c.delta) t) (got ++ [c]) (chg ++ [c]) := by
  obtain ⟨x, e1, e2, e3, e4⟩ := add_put p c.live (wrap16 c.delta) t h.sorted
  have ex : x.v = gvC (got ++ [c]) p := by
    rw [gvC_snoc hp]
    rcases e4 with ⟨y, a, b, d⟩ | ⟨a, b⟩
    · rw [d, ((h.mem y).1 a).2.1, b]
    · rw [b]
      rw [gvC_none fun c' hc' e => ?_]
      have hm : (⟨gvC got p, decide (∃ c ∈ chg, c.pt = (p : Int))⟩ : GX) ∈ t := (h.mem _).2 ⟨⟨c', hc', e⟩, rfl, by simp [gvC]⟩
      exact a _ hm rfl
  rw [e3]
  refine ⟨putX_sorted h.sorted, fun y => (mem_putX h.sorted y).trans ?_⟩
  by_cases hy : y.v.pt = p
  · have hcp : c.pt = (y.v.pt : Int) := by rw [hy]; exact hp
    constructor
    · rintro (rfl | ⟨_, hne⟩)
      · refine ⟨⟨c, by simp, hcp⟩, by rw [hy]; exact ex, by rw [e2]; exact ⟨fun _ => ⟨c, by simp, hcp⟩, fun _ => rfl⟩⟩
      · exact absurd (hy.trans e1.symm) hne
    · rintro ⟨_, h2, h3⟩
      left
      have hch : y.ch = true := h3.2 ⟨c, by simp, hcp⟩
      have hv : y.v = x.v := by rw [h2, hy, ex]
      cases y
      cases x
      simp only at hch hv e2
      rw [hv, hch, e2]
  · have hcp : c.pt ≠ (y.v.pt : Int) := fun e => hy (by omega)
    have hm1 : ∀ l : List ChgM, (∃ c' ∈ l ++ [c], c'.pt = (y.v.pt : Int)) ↔ ∃ c' ∈ l, c'.pt = (y.v.pt : Int) := fun l => by
      constructor
      · rintro ⟨c', h1, h2⟩
        rcases List.mem_append.1 h1 with h1 | h1
        · exact ⟨c', h1, h2⟩
        · simp only [List.mem_singleton] at h1
          subst h1
          exact absurd h2 hcp
      · rintro ⟨c', h1, h2⟩
        exact ⟨c', by simp [h1], h2⟩
    rw [hm1, hm1, gvC_other hcp, ← h.mem y]
    constructor
    · rintro (rfl | ⟨h1, _⟩)
      · exact absurd e1 hy
      · exact h1
    · intro h1
      exact .inr ⟨h1, fun e => hy (e.trans e1)⟩

theorem TabIs.calmed {t : List GX} {got chg : List ChgM} (h : TabIs t got chg) : TabIs (t.map calmX) got [] := by
  refine ⟨calm_sorted h.sorted, fun x => ?_⟩
  simp only [List.mem_map]
  constructor
  · rintro ⟨y, hy, rfl⟩
    obtain ⟨a, b, _⟩ := (h.mem y).1 hy
    exact ⟨a, b, by simp [calmX]⟩
  · rintro ⟨a, b, d⟩
    refine ⟨⟨x.v, decide (∃ c ∈ chg, c.pt = (x.v.pt : Int))⟩, (h.mem _).2 ⟨a, b, by simp⟩, ?_⟩
    have hf : x.ch = false := by
      cases e : x.ch with
      | false => rfl
      | true => obtain ⟨c, hc, _⟩ := d.1 e; cases hc
    cases x
    simp only at hf
    rw [hf]
    rfl

theorem TabIs.taken {t : List GX} {got chg : List ChgM} (h : TabIs t got chg) (hsub : ∀ c ∈ chg, c ∈ got) (x : GX) : x ∈ takenX t ↔ (∃ c ∈ chg, c.pt = (x.v.pt : Int)) ∧ x.v = gvC got x.v.pt ∧ x.ch = false := by
  rw [mem_taken]
  constructor
  · rintro ⟨y, hy, hc, rfl⟩
    obtain ⟨a, b, d⟩ := (h.mem y).1 hy
    exact ⟨d.1 hc, b, rfl⟩
  · rintro ⟨⟨c, hc, hp⟩, b, d⟩
    refine ⟨⟨x.v, true⟩, (h.mem _).2 ⟨⟨c, hsub c hc, hp⟩, b, ?_⟩, rfl, ?_⟩
    · simp only [true_iff]
      exact ⟨c, hc, hp⟩
    · cases x
      simp only at d
      rw [d]
      rfl

end Go.Proofs.YthccpacmklhejaaGreatDoor
