/-
  The document's own rows and their text: what events make.
-/
import Derived.Test.YthccpacmklhejaaGreatDoorFoldMath2
namespace Go.Proofs.YthccpacmklhejaaGreatDoor

def valK (f : Kn → Int) (es : List Ev) (ks : List ByteArray) (p : Nat) : Int := sumK (fun k => if (grp k).1 = p then f (knOf k es) else 0) ks

theorem valK_snoc (f : Kn → Int) (es : List Ev) (ks : List ByteArray) (key : ByteArray) (p : Nat) : valK f es (ks ++ [key]) p = valK f es ks p + (if (grp key).1 = p then f (knOf key es) else 0) := by
  unfold valK
  rw [sumK_append]
  simp [sumK]

/-- What a row of the document's holds, behind some keys. -/
def RowIs (es : List Ev) (ks : List ByteArray) (r : RowV) : Prop :=
  (r.live : Int) = valK fLive es ks r.pt ∧ r.sum = valK fSum es ks r.pt ∧ (r.ev : Int) = valK fCnt es ks r.pt ∧ ∃ k ∈ ks, grp k = (r.pt, r.tx)

def RowsAre (es : List Ev) (ks : List ByteArray) (rs : List RowV) : Prop :=
  (rs.map (·.pt)).Nodup ∧ (∀ k ∈ ks, (grp k).1 ∈ rs.map (·.pt)) ∧ ∀ r ∈ rs, RowIs es ks r

theorem RowIs.other {es : List Ev} {ks : List ByteArray} {r : RowV} {key : ByteArray} (h : RowIs es ks r) (hp : ¬ (grp key).1 = r.pt) : RowIs es (ks ++ [key]) r := by
  obtain ⟨h1, h2, h3, k, hk, hg⟩ := h
  refine ⟨?_, ?_, ?_, k, by simp [hk], hg⟩
  · rw [valK_snoc, if_neg hp, Int.add_zero]; exact h1
  · rw [valK_snoc, if_neg hp, Int.add_zero]; exact h2
  · rw [valK_snoc, if_neg hp, Int.add_zero]; exact h3

theorem addRow_is {es : List Ev} {ks : List ByteArray} {r : RowV} {key : ByteArray} (h1 : (r.live : Int) = valK fLive es ks r.pt) (h2 : r.sum = valK fSum es ks r.pt) (h3 : (r.ev : Int) = valK fCnt es ks r.pt) (hp : (grp key).1 = r.pt) (ht : ∃ k ∈ ks ++ [key], grp k = (r.pt, r.tx)) :
    RowIs es (ks ++ [key]) (addRow (knOf key es) r) := by
  have hpt : (addRow (knOf key es) r).pt = r.pt := by unfold addRow; split <;> rfl
  have htx : (addRow (knOf key es) r).tx = r.tx := by unfold addRow; split <;> rfl
  unfold RowIs
  rw [hpt, htx, valK_snoc, valK_snoc, valK_snoc, if_pos hp, if_pos hp, if_pos hp, ← h1, ← h2, ← h3]
  refine ⟨?_, ?_, ?_, ht⟩
  · unfold addRow fLive
    split <;> simp
  · unfold addRow fSum
    split <;> simp
  · unfold addRow fCnt
    split <;> simp

theorem placeS_mem {rs : List RowV} {p : Nat} (h : placeS rs p < rs.length) : (rs[placeS rs p]).pt = p := by
  have := List.findIdx_getElem (xs := rs) (p := fun r : RowV => decide (r.pt = p)) (w := h)
  exact of_decide_eq_true this

theorem placeS_not {rs : List RowV} {p : Nat} (h : ¬ placeS rs p < rs.length) : p ∉ rs.map (·.pt) := by
  intro hm
  obtain ⟨r, hr, rfl⟩ := List.mem_map.1 hm
  exact h (List.findIdx_lt_length.2 ⟨r, hr, by simp⟩)

theorem map_set_same {rs : List RowV} {n : Nat} (h : n < rs.length) {x : RowV} (hx : x.pt = rs[n].pt) : (rs.set n x).map (·.pt) = rs.map (·.pt) := by
  rw [List.map_set]
  apply List.ext_getElem?
  intro i
  rw [List.getElem?_set]
  split
  · rename_i e
    subst e
    rw [if_pos (by simpa using h), List.getElem?_map, List.getElem?_eq_getElem h, hx]
    rfl
  · rfl

theorem addKey_are {es : List Ev} {ks : List ByteArray} {rs : List RowV} {key : ByteArray} (h : RowsAre es ks rs) : RowsAre es (ks ++ [key]) (addKey es rs key) := by
  obtain ⟨hn, hc, hr⟩ := h
  by_cases hl : placeS rs (grp key).1 < rs.length
  · obtain ⟨n, hnn⟩ : ∃ n, placeS rs (grp key).1 = n := ⟨_, rfl⟩
    have hp := placeS_mem hl
    simp only [hnn] at hp
    have hl2 : n < rs.length := by omega
    rw [addKey_old hnn hl2]
    have hpt : (addRow (knOf key es) rs[n]).pt = rs[n].pt := by unfold addRow; split <;> rfl
    have hm := map_set_same hl2 hpt
    refine ⟨by rw [hm]; exact hn, ?_, ?_⟩
    · intro k hk
      rw [hm]
      rcases List.mem_append.1 hk with hk | hk
      · exact hc k hk
      · simp at hk
        subst hk
        exact List.mem_map.2 ⟨rs[n], List.getElem_mem hl2, hp⟩
    · intro r hr2
      obtain ⟨i, hi, rfl⟩ := List.getElem_of_mem hr2
      have hi' : i < rs.length := by simpa using hi
      rw [List.getElem_set]
      split
      · obtain ⟨a1, a2, a3, k, hk, hg⟩ := hr _ (List.getElem_mem hl2)
        exact addRow_is a1 a2 a3 hp.symm ⟨k, by simp [hk], hg⟩
      · rename_i hne
        refine (hr _ (List.getElem_mem hi')).other fun e => hne ?_
        have hn2 : (rs.map (·.pt))[n]'(by simpa using hl2) = (rs.map (·.pt))[i]'(by simpa using hi') := by simp [hp, e]
        exact (List.getElem_inj hn).1 hn2
  · have hle : placeS rs (grp key).1 = rs.length := Nat.le_antisymm (List.findIdx_le_length) (by omega)
    have hno := placeS_not hl
    rw [addKey_new hle]
    have hset : (rs ++ [RowV.mk (grp key).1 (grp key).2 0 0 0]).set rs.length (addRow (knOf key es) ⟨(grp key).1, (grp key).2, 0, 0, 0⟩) = rs ++ [addRow (knOf key es) ⟨(grp key).1, (grp key).2, 0, 0, 0⟩] := by simp
    rw [hset]
    have hpt : (addRow (knOf key es) ⟨(grp key).1, (grp key).2, 0, 0, 0⟩).pt = (grp key).1 := by unfold addRow; split <;> rfl
    have hz : ∀ f, valK f es ks (grp key).1 = 0 := fun f => sumK_zero fun k hk => by rw [if_neg fun e => hno (by rw [← e]; exact hc k hk)]
    refine ⟨?_, ?_, ?_⟩
    · rw [List.map_append, List.nodup_append]
      refine ⟨hn, by simp, ?_⟩
      intro x hx y hy e
      simp only [List.map_cons, List.map_nil, List.mem_singleton, hpt] at hy
      subst hy
      subst e
      exact hno hx
    · intro k hk
      rw [List.map_append]
      rcases List.mem_append.1 hk with hk | hk
      · exact List.mem_append.2 (.inl (hc k hk))
      · simp at hk
        subst hk
        exact List.mem_append.2 (.inr (by simp [hpt]))
    · intro r hr2
      rcases List.mem_append.1 hr2 with hr2 | hr2
      · refine (hr r hr2).other fun e => hno ?_
        rw [e]
        exact List.mem_map.2 ⟨r, hr2, rfl⟩
      · simp at hr2
        subst hr2
        exact addRow_is (by rw [hz]; rfl) (by rw [hz]) (by rw [hz]; rfl) rfl ⟨key, by simp, rfl⟩

theorem rowsTo_are (es : List Ev) : ∀ i, i ≤ es.length → RowsAre es (keysOf (es.take i)) (rowsTo es i)
  | 0, _ => by simp [RowsAre, rowsTo, keysOf]
  | i + 1, h => by
    have ih := rowsTo_are es i (by omega)
    have hi : i < es.length := by omega
    rw [rowsTo, dif_pos hi, List.take_succ_eq_append_getElem hi]
    by_cases hm : (es[i]).key ∈ keysOf (es.take i)
    · have ho : oldTo es i (es[i]).key = true := by
        unfold oldTo
        obtain ⟨e, he, hk⟩ := (mem_keysOf _ _).1 hm
        exact List.any_eq_true.2 ⟨e, he, by simp [hk]⟩
      rw [if_pos ho, keysOf_old hm]
      exact ih
    · have ho : ¬ oldTo es i (es[i]).key = true := fun x => by
        unfold oldTo at x
        obtain ⟨e, he, hk⟩ := List.any_eq_true.1 x
        exact hm ((mem_keysOf _ _).2 ⟨e, he, by simpa using hk⟩)
      rw [if_neg ho, keysOf_new hm]
      exact addKey_are ih

def rowText (r : RowV) : List UInt8 := r.tx.data.toList ++ [32] ++ decI (r.live : Int) ++ [32] ++ decI (wrap16 r.sum) ++ [32] ++ decI ((r.ev : Int) % 256) ++ [59]
def rankR (rs : List RowV) (p : Nat) : Nat := rs.countP (fun q => decide (q.pt < p))
def placed (rs : List RowV) (i : Nat) : List (List UInt8) := (rs.take i).foldl (fun ts r => ts.set (rankR rs r.pt) (rowText r)) (List.replicate rs.length [])

theorem placed_length (rs : List RowV) (i : Nat) : (placed rs i).length = rs.length := by
  unfold placed
  generalize rs.take i = l
  induction l using snoc_ind with
  | h0 => simp
  | h1 l a ih => rw [List.foldl_append]; simpa using ih

theorem placed_succ (rs : List RowV) (i : Nat) (h : i < rs.length) : placed rs (i + 1) = (placed rs i).set (rankR rs (rs[i]).pt) (rowText rs[i]) := by
  unfold placed
  rw [List.take_succ_eq_append_getElem h, List.foldl_append]
  rfl

theorem count_sorted {ps : List Nat} (hs : ps.Pairwise (· < ·)) : ∀ (i : Nat) (h : i < ps.length), ps.countP (fun q => decide (q < ps[i])) = i := by
  induction ps with
  | nil => intro i h; simp at h
  | cons q qs ih =>
    rw [List.pairwise_cons] at hs
    intro i h
    cases i with
    | zero =>
      simp only [List.getElem_cons_zero]
      rw [List.countP_eq_zero]
      intro x hx
      rcases List.mem_cons.1 hx with rfl | hx
      · simp
      · have := hs.1 x hx
        simp
        omega
    | succ i =>
      have hi : i < qs.length := by simpa using h
      simp only [List.getElem_cons_succ]
      rw [List.countP_cons_of_pos (by simpa using hs.1 _ (List.getElem_mem hi)), ih hs.2 i hi]

theorem perm_of_same {a b : List Nat} (ha : a.Nodup) (hb : b.Nodup) (h : ∀ p, p ∈ a ↔ p ∈ b) : a.Perm b := by
  rw [List.perm_iff_count]
  intro p
  have h1 := List.nodup_iff_count.1 ha p
  have h2 := List.nodup_iff_count.1 hb p
  by_cases hm : p ∈ a
  · have := List.count_pos_iff.2 hm
    have := List.count_pos_iff.2 ((h p).1 hm)
    omega
  · rw [List.count_eq_zero.2 hm, List.count_eq_zero.2 fun x => hm ((h p).2 x)]

theorem foldl_set_at {ix : RowV → Nat} {tx : RowV → List UInt8} {ts : List (List UInt8)} {n : Nat} (hn : n < ts.length) :
    ∀ (l : List RowV), (∀ r ∈ l, ∀ r' ∈ l, ix r = ix r' → tx r = tx r') → ∀ r ∈ l, ix r = n → (l.foldl (fun ts r => ts.set (ix r) (tx r)) ts)[n]? = some (tx r) := by
  intro l
  have hlen : ∀ l : List RowV, (l.foldl (fun ts r => ts.set (ix r) (tx r)) ts).length = ts.length := by
    intro l
    induction l using snoc_ind with
    | h0 => rfl
    | h1 l a ih => rw [List.foldl_append]; simpa using ih
  induction l using snoc_ind with
  | h0 => intro _ r hr; simp at hr
  | h1 l a ih =>
    intro hinj r hr hx
    rw [List.foldl_append]
    simp only [List.foldl_cons, List.foldl_nil, List.getElem?_set]
    by_cases e : ix a = n
    · rw [if_pos e, if_pos (by rw [hlen, e]; exact hn)]
      congr 1
      exact hinj a (by simp) r hr (e.trans hx.symm)
    · rw [if_neg e]
      have hrl : r ∈ l := by
        rcases List.mem_append.1 hr with h | h
        · exact h
        · simp at h
          subst h
          exact absurd hx e
      exact ih (fun x hx y hy => hinj x (by simp [hx]) y (by simp [hy])) r hrl hx

/-- A key's first letter, written, is its group's text. -/
theorem grp_enc {key : ByteArray} (h : validB key = true) : (grp key).2.data.toList = (Utf8.encode ((grp key).1 : Int)).data.toList := by
  unfold validB at h
  simp only [Bool.and_eq_true, decide_eq_true_eq] at h
  have h0 : 0 < key.size := by omega
  have hs : (ptS key 0).2 ≠ 0 := by
    intro e
    have := (ok_step key (key.size - 1) 0 h0).1 e
    rw [show key.size - 1 + 1 = key.size by omega, h.2] at this
    cases this
  have hb : ¬ Utf8.decode key 0 = (65533, 1) := by
    intro e
    unfold ptS at hs
    rw [if_pos e] at hs
    exact hs rfl
  have hp : ptS key 0 = Utf8.decode key 0 := by unfold ptS; rw [if_neg hb]
  rcases rune_cases key 0 h0 with h1 | ⟨h1, h2⟩
  · exact absurd h1 hb
  · unfold grp
    rw [hp]
    simp only
    rw [extract_list, List.drop_zero, Nat.sub_zero, ← h2]
    rw [List.drop_zero] at h1
    rw [← h1, List.take_left']
    rfl

/-- The document's text is what the events make. -/
theorem placed_fold {es : List Ev} (hv : ∀ e ∈ es, validB e.key = true) : (placed (rowsTo es es.length) (rowsTo es es.length).length).flatten = foldB es := by
  have hA := rowsTo_are es es.length (Nat.le_refl _)
  rw [List.take_length] at hA
  generalize rowsTo es es.length = rs at hA
  obtain ⟨hn, hc, hr⟩ := hA
  have hperm : (rs.map (·.pt)).Perm (ptsOf es) := by
    refine perm_of_same hn ((ptsOf_sorted es).imp fun h => Nat.ne_of_lt h) fun p => ?_
    rw [mem_ptsOf]
    constructor
    · intro hm
      obtain ⟨r, hr2, rfl⟩ := List.mem_map.1 hm
      obtain ⟨_, _, _, k, hk, hg⟩ := hr r hr2
      exact ⟨k, hk, by rw [hg]⟩
    · rintro ⟨k, hk, rfl⟩
      exact hc k hk
  have hlen : rs.length = (ptsOf es).length := by simpa using hperm.length_eq
  have hrank : ∀ p, rankR rs p = (ptsOf es).countP (fun q => decide (q < p)) := by
    intro p
    rw [← hperm.countP_eq, List.countP_map]
    rfl
  obtain ⟨T, hT⟩ : ∃ T : Nat → List UInt8, (fun p => textAt p (tot fLive es p) (tot fSum es p) (tot fCnt es p)) = T := ⟨_, rfl⟩
  have htx : ∀ r ∈ rs, rowText r = T r.pt := by
    intro r hr2
    obtain ⟨h1, h2, h3, k, hk, hg⟩ := hr r hr2
    rw [← hT]
    unfold rowText textAt
    obtain ⟨e, he, rfl⟩ := (mem_keysOf _ _).1 hk
    have hge := grp_enc (hv e he)
    rw [hg] at hge
    simp only at hge
    rw [hge, h1, h2, h3]
    rfl
  have hix : ∀ r ∈ rs, ∃ h : rankR rs r.pt < (ptsOf es).length, (ptsOf es)[rankR rs r.pt] = r.pt := by
    intro r hr2
    obtain ⟨i, hi, e⟩ := List.getElem_of_mem (hperm.mem_iff.1 (List.mem_map.2 ⟨r, hr2, rfl⟩))
    have hcs := count_sorted (ptsOf_sorted es) i hi
    rw [e, ← hrank] at hcs
    subst hcs
    exact ⟨hi, e⟩
  have hfin : placed rs rs.length = (ptsOf es).map T := by
    apply List.ext_getElem?
    intro n
    by_cases hl : n < (ptsOf es).length
    · obtain ⟨r, hr2, hp⟩ := List.mem_map.1 (hperm.mem_iff.2 (List.getElem_mem hl))
      have hcs := count_sorted (ptsOf_sorted es) n hl
      rw [← hp, ← hrank] at hcs
      unfold placed
      rw [List.take_length, foldl_set_at (ix := fun r => rankR rs r.pt) (tx := rowText) (by simp; omega) rs ?_ r hr2 hcs, List.getElem?_map, List.getElem?_eq_getElem hl, htx r hr2, hp]
      · rfl
      · intro x hx y hy e
        rw [htx x hx, htx y hy]
        obtain ⟨a1, a2⟩ := hix x hx
        obtain ⟨b1, b2⟩ := hix y hy
        rw [← a2, ← b2]
        have e' : rankR rs x.pt = rankR rs y.pt := e
        simp only [e']
    · rw [List.getElem?_eq_none (by rw [placed_length]; omega), List.getElem?_eq_none (by simp; omega)]
  rw [hfin, ← List.flatMap_def, ← hT]
  rfl

end Go.Proofs.YthccpacmklhejaaGreatDoor
