/-
  Raw events, key by key.
-/
import Derived.Test.YthccpacmklhejaaDoorLogs
import Derived.Test.YthccpacmklhejaaDoorTwiceMath
namespace Go.Proofs.YthccpacmklhejaaDoor

def grp10 (rs : List RawV) (i : Nat) : List RawV := rs.filter (fun r => decide (pickS r.key = i))
def sortTo (rs : List RawV) (j : Nat) : List RawV := (List.range j).flatMap (grp10 rs)

theorem sortTo_succ (rs : List RawV) (j : Nat) : sortTo rs (j + 1) = sortTo rs j ++ grp10 rs j := by
  unfold sortTo
  rw [List.range_succ, List.flatMap_append]
  simp

theorem grp10_length (rs : List RawV) (i : Nat) : (grp10 rs i).length ≤ rs.length := List.length_filter_le _ _

theorem sortTo_length (rs : List RawV) : ∀ j, (sortTo rs j).length ≤ j * rs.length
  | 0 => by simp [sortTo]
  | j + 1 => by
    have := sortTo_length rs j
    have := grp10_length rs j
    rw [sortTo_succ, List.length_append, Nat.add_mul]
    omega

theorem grp10_succ (rs : List RawV) (i k : Nat) (h : k < rs.length) : grp10 (rs.take (k + 1)) i = if pickS (rs[k]).key = i then grp10 (rs.take k) i ++ [rs[k]] else grp10 (rs.take k) i := by
  unfold grp10
  rw [List.take_succ_eq_append_getElem h, List.filter_append]
  by_cases hp : pickS (rs[k]).key = i
  · simp [hp]
  · simp [hp]

theorem flat_one {X : List RawV} : ∀ i : Nat, i < 10 → (List.range 10).flatMap (fun j => if j = i then X else []) = X
  | 0, _ => by simp [List.range, List.range.loop]
  | 1, _ => by simp [List.range, List.range.loop]
  | 2, _ => by simp [List.range, List.range.loop]
  | 3, _ => by simp [List.range, List.range.loop]
  | 4, _ => by simp [List.range, List.range.loop]
  | 5, _ => by simp [List.range, List.range.loop]
  | 6, _ => by simp [List.range, List.range.loop]
  | 7, _ => by simp [List.range, List.range.loop]
  | 8, _ => by simp [List.range, List.range.loop]
  | 9, _ => by simp [List.range, List.range.loop]
  | n + 10, h => by omega

theorem keys10_inj : ∀ i j : Fin 10, keys10.getD i.val ⟨#[]⟩ = keys10.getD j.val ⟨#[]⟩ → i = j := by decide +kernel

theorem sort_filter (rs : List RawV) (k : ByteArray) : (sortTo rs 10).filter (fun r => decide (keys10.getD (pickS r.key) ⟨#[]⟩ = k)) = rs.filter (fun r => decide (keys10.getD (pickS r.key) ⟨#[]⟩ = k)) := by
  by_cases hex : ∃ i : Fin 10, keys10.getD i.val ⟨#[]⟩ = k
  · obtain ⟨i, hi⟩ := hex
    have hq : ∀ r : RawV, decide (keys10.getD (pickS r.key) ⟨#[]⟩ = k) = decide (pickS r.key = i.val) := by
      intro r
      congr 1
      refine propext ⟨fun h => ?_, fun h => by rw [h]; exact hi⟩
      have := keys10_inj ⟨pickS r.key, pickS_lt _⟩ i (h.trans hi.symm)
      exact congrArg Fin.val this
    have hf : (fun r : RawV => decide (keys10.getD (pickS r.key) ⟨#[]⟩ = k)) = fun r => decide (pickS r.key = i.val) := funext hq
    rw [hf]
    unfold sortTo
    rw [List.filter_flatMap]
    have hg : (fun j => (grp10 rs j).filter (fun r => decide (pickS r.key = i.val))) = fun j => if j = i.val then grp10 rs i.val else [] := by
      funext j
      unfold grp10
      rw [List.filter_filter]
      by_cases hj : j = i.val
      · rw [if_pos hj]
        congr 1
        funext r
        simp [hj]
      · rw [if_neg hj, List.filter_eq_nil_iff]
        intro r _
        simp
        omega
    rw [hg]
    exact flat_one i.val i.isLt
  · have hno : ∀ r : RawV, ¬ keys10.getD (pickS r.key) ⟨#[]⟩ = k := fun r h => hex ⟨⟨pickS r.key, pickS_lt _⟩, h⟩
    rw [List.filter_eq_nil_iff.2, List.filter_eq_nil_iff.2]
    · intro r _
      simpa using hno r
    · intro r _
      simpa using hno r

theorem grps_perm (r : RawV) (rs : List RawV) : ∀ (js : List Nat), js.Nodup → pickS r.key ∈ js → (js.flatMap (grp10 (r :: rs))).Perm (r :: js.flatMap (grp10 rs))
  | [], _, h => by simp at h
  | j :: js, hn, h => by
    rw [List.nodup_cons] at hn
    simp only [List.flatMap_cons]
    by_cases e : pickS r.key = j
    · have h1 : grp10 (r :: rs) j = r :: grp10 rs j := by simp [grp10, e]
      have h2 : js.flatMap (grp10 (r :: rs)) = js.flatMap (grp10 rs) := by
        have : ∀ x ∈ js, grp10 (r :: rs) x = grp10 rs x := by
          intro x hx
          have hne : ¬ pickS r.key = x := fun e' => hn.1 (by rw [← e, e']; exact hx)
          simp [grp10, hne]
        clear h hn
        induction js with
        | nil => rfl
        | cons y ys ih =>
          simp only [List.flatMap_cons]
          rw [this y (by simp), ih fun x hx => this x (by simp [hx])]
      rw [h1, h2]
      exact List.Perm.refl _
    · have h1 : grp10 (r :: rs) j = grp10 rs j := by simp [grp10, e]
      rw [h1]
      have ih := grps_perm r rs js hn.2 (by
        rcases List.mem_cons.1 h with h | h
        · exact absurd h e
        · exact h)
      exact (List.Perm.append_left _ ih).trans List.perm_middle

theorem sort_perm : ∀ rs : List RawV, (sortTo rs 10).Perm rs
  | [] => by
    have : sortTo [] 10 = [] := by
      unfold sortTo
      simp [grp10, List.range, List.range.loop]
    rw [this]
  | r :: rs => (grps_perm r rs (List.range 10) List.nodup_range (List.mem_range.2 (pickS_lt _))).trans ((sort_perm rs).cons r)

theorem sort_recs (rs : List RawV) (low : Bool) : (recs (recEs (sortTo rs 10) low)).length = (recs (recEs rs low)).length := by
  unfold recs recEs
  exact (List.Perm.flatMap_right _ ((sort_perm rs).map _)).length_eq

theorem sort_fold (rs : List RawV) (low : Bool) : foldB (recEs (sortTo rs 10) low) = foldB (recEs rs low) := by
  refine foldB_same (fun k => ?_) (fun k => ?_)
  · rw [mem_keysOf, mem_keysOf]
    have hp : ∀ e, e ∈ recEs (sortTo rs 10) low ↔ e ∈ recEs rs low := fun e => ((sort_perm rs).map _).mem_iff
    constructor
    · rintro ⟨e, he, hk⟩
      exact ⟨e, (hp e).1 he, hk⟩
    · rintro ⟨e, he, hk⟩
      exact ⟨e, (hp e).2 he, hk⟩
  · unfold knOf
    congr 1
    unfold recEs
    rw [List.filter_map, List.filter_map]
    congr 1
    exact sort_filter rs k

end Go.Proofs.YthccpacmklhejaaDoor
