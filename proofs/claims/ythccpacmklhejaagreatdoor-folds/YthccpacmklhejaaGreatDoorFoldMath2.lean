/-
  What events make, in the order of their groups: keys, points, totals.
-/
import Derived.Test.YthccpacmklhejaaGreatDoorRefRows2
namespace Go.Proofs.YthccpacmklhejaaGreatDoor

theorem snoc_ind {α : Type} {P : List α → Prop} (h0 : P []) (h1 : ∀ l a, P l → P (l ++ [a])) (l : List α) : P l := by
  rw [← List.reverse_reverse l]
  induction l.reverse with
  | nil => exact h0
  | cons a t ih => rw [List.reverse_cons]; exact h1 _ _ ih

/-- The keys, in the order of their first events. -/
def keysOf (es : List Ev) : List ByteArray := es.foldl (fun ks e => if ks.any (fun k => decide (k = e.key)) then ks else ks ++ [e.key]) []

theorem keysOf_snoc (es : List Ev) (e : Ev) : keysOf (es ++ [e]) = if (keysOf es).any (fun k => decide (k = e.key)) then keysOf es else keysOf es ++ [e.key] := by
  unfold keysOf
  rw [List.foldl_append]
  rfl

theorem any_key (ks : List ByteArray) (key : ByteArray) : (ks.any fun k => decide (k = key)) = true ↔ key ∈ ks := by simp

theorem keysOf_old {es : List Ev} {e : Ev} (h : e.key ∈ keysOf es) : keysOf (es ++ [e]) = keysOf es := by
  rw [keysOf_snoc, if_pos ((any_key _ _).2 h)]

theorem keysOf_new {es : List Ev} {e : Ev} (h : e.key ∉ keysOf es) : keysOf (es ++ [e]) = keysOf es ++ [e.key] := by
  rw [keysOf_snoc, if_neg (fun x => h ((any_key _ _).1 x))]

theorem mem_keysOf (key : ByteArray) (es : List Ev) : key ∈ keysOf es ↔ ∃ e ∈ es, e.key = key := by
  induction es using snoc_ind with
  | h0 => simp [keysOf]
  | h1 l a ih =>
    by_cases hm : a.key ∈ keysOf l
    · rw [keysOf_old hm]
      constructor
      · intro h
        obtain ⟨e, he, hk⟩ := ih.1 h
        exact ⟨e, by simp [he], hk⟩
      · rintro ⟨e, he, hk⟩
        rcases List.mem_append.1 he with he | he
        · exact ih.2 ⟨e, he, hk⟩
        · simp at he
          subst he
          rw [← hk]
          exact hm
    · rw [keysOf_new hm, List.mem_append]
      constructor
      · rintro (h | h)
        · obtain ⟨e, he, hk⟩ := ih.1 h
          exact ⟨e, by simp [he], hk⟩
        · simp at h
          exact ⟨a, by simp, h.symm⟩
      · rintro ⟨e, he, hk⟩
        rcases List.mem_append.1 he with he | he
        · exact .inl (ih.2 ⟨e, he, hk⟩)
        · simp at he
          subst he
          exact .inr (by simp [hk])

theorem keysOf_nodup (es : List Ev) : (keysOf es).Nodup := by
  induction es using snoc_ind with
  | h0 => simp [keysOf]
  | h1 l a ih =>
    by_cases hm : a.key ∈ keysOf l
    · rw [keysOf_old hm]; exact ih
    · rw [keysOf_new hm, List.nodup_append]
      refine ⟨ih, by simp, ?_⟩
      intro x hx y hy e
      simp at hy
      subst hy
      subst e
      exact hm hx

theorem knOf_absent {key : ByteArray} {es : List Ev} (h : key ∉ keysOf es) : knOf key es = Kn.none := by
  unfold knOf
  rw [List.filter_eq_nil_iff.2]
  · rfl
  · intro e he hk
    exact h ((mem_keysOf key es).2 ⟨e, he, by simpa using hk⟩)

theorem step_had (k : Kn) (e : Ev) : (k.step e).had = true := by
  unfold Kn.step Kn.counts
  split
  · rfl
  · rename_i h
    simp at h
    exact h.1

theorem knOf_had {key : ByteArray} {es : List Ev} (h : key ∈ keysOf es) : (knOf key es).had = true := by
  induction es using snoc_ind with
  | h0 => simp [keysOf] at h
  | h1 l a ih =>
    rw [knOf_append]
    split
    · exact step_had _ _
    · rename_i hne
      refine ih ?_
      obtain ⟨e, he, hk⟩ := (mem_keysOf _ _).1 h
      rcases List.mem_append.1 he with he | he
      · exact (mem_keysOf _ _).2 ⟨e, he, hk⟩
      · simp at he
        subst he
        exact absurd hk hne

/-- A sum over keys. -/
def sumK (g : ByteArray → Int) : List ByteArray → Int
  | [] => 0
  | k :: ks => g k + sumK g ks

theorem sumK_append (g : ByteArray → Int) (a b : List ByteArray) : sumK g (a ++ b) = sumK g a + sumK g b := by
  induction a with
  | nil => simp [sumK]
  | cons k ks ih => simp only [List.cons_append, sumK, ih]; omega

theorem sumK_congr {g g' : ByteArray → Int} {ks : List ByteArray} (h : ∀ k ∈ ks, g' k = g k) : sumK g' ks = sumK g ks := by
  induction ks with
  | nil => rfl
  | cons k ks ih => simp only [sumK]; rw [h k (by simp), ih (fun x hx => h x (by simp [hx]))]

theorem sumK_zero {g : ByteArray → Int} {ks : List ByteArray} (h : ∀ k ∈ ks, g k = 0) : sumK g ks = 0 := by
  induction ks with
  | nil => rfl
  | cons k ks ih => simp only [sumK]; rw [h k (by simp), ih (fun x hx => h x (by simp [hx]))]; rfl

theorem sumK_upd {g g' : ByteArray → Int} {ks : List ByteArray} {k0 : ByteArray} (hn : ks.Nodup) (hm : k0 ∈ ks) (h : ∀ k ∈ ks, k ≠ k0 → g' k = g k) : sumK g' ks = sumK g ks + (g' k0 - g k0) := by
  induction ks with
  | nil => simp at hm
  | cons k ks ih =>
    rw [List.nodup_cons] at hn
    simp only [sumK]
    by_cases e : k = k0
    · subst e
      rw [sumK_congr (fun x hx => h x (by simp [hx]) (fun e => hn.1 (e ▸ hx)))]
      omega
    · rw [h k (by simp) e, ih hn.2 (by simpa [Ne.symm e] using hm) (fun x hx => h x (by simp [hx]))]
      omega

/-- What the keys of a group come to. -/
def tot (f : Kn → Int) (es : List Ev) (p : Nat) : Int := sumK (fun k => if (grp k).1 = p then f (knOf k es) else 0) (keysOf es)

theorem tot_snoc (f : Kn → Int) (h0 : f Kn.none = 0) (es : List Ev) (e : Ev) (p : Nat) :
    tot f (es ++ [e]) p = tot f es p + (if (grp e.key).1 = p then f ((knOf e.key es).step e) - f (knOf e.key es) else 0) := by
  unfold tot
  have hk : knOf e.key (es ++ [e]) = (knOf e.key es).step e := by rw [knOf_append, if_pos rfl]
  by_cases hm : e.key ∈ keysOf es
  · rw [keysOf_old hm, sumK_upd (g := fun k => if (grp k).1 = p then f (knOf k es) else 0) (keysOf_nodup es) hm (fun k _ hk => by rw [knOf_append, if_neg (Ne.symm hk)])]
    simp only [hk]
    split <;> omega
  · rw [keysOf_new hm, sumK_append, sumK_congr (g := fun k => if (grp k).1 = p then f (knOf k es) else 0) (fun k hx => by have hne : ¬ e.key = k := fun x => hm (by rw [x]; exact hx); simp only [knOf_append, if_neg hne])]
    simp only [sumK, hk, knOf_absent hm, h0]
    split <;> omega

def fLive (k : Kn) : Int := if k.there then 1 else 0
def fSum (k : Kn) : Int := if k.there then k.value else 0
def fCnt (k : Kn) : Int := k.count

/-- A point's place in a rising list. -/
def ins (p : Nat) : List Nat → List Nat
  | [] => [p]
  | q :: qs => if q < p then q :: ins p qs else if q = p then q :: qs else p :: q :: qs

/-- The groups, rising. -/
def ptsOf (es : List Ev) : List Nat := es.foldl (fun ps e => ins (grp e.key).1 ps) []

theorem ptsOf_snoc (es : List Ev) (e : Ev) : ptsOf (es ++ [e]) = ins (grp e.key).1 (ptsOf es) := by
  unfold ptsOf
  rw [List.foldl_append]
  rfl

theorem mem_ins (p q : Nat) (ps : List Nat) : q ∈ ins p ps ↔ q = p ∨ q ∈ ps := by
  induction ps with
  | nil => simp [ins]
  | cons r rs ih =>
    unfold ins
    split
    · simp only [List.mem_cons, ih]
      constructor
      · rintro (h | h | h)
        · exact .inr (.inl h)
        · exact .inl h
        · exact .inr (.inr h)
      · rintro (h | h | h)
        · exact .inr (.inl h)
        · exact .inl h
        · exact .inr (.inr h)
    · split
      · rename_i e
        subst e
        simp
      · simp

theorem ins_sorted {p : Nat} {ps : List Nat} (h : ps.Pairwise (· < ·)) : (ins p ps).Pairwise (· < ·) := by
  induction ps with
  | nil => simp [ins]
  | cons r rs ih =>
    rw [List.pairwise_cons] at h
    unfold ins
    split
    · rename_i hlt
      rw [List.pairwise_cons]
      refine ⟨fun q hq => ?_, ih h.2⟩
      rcases (mem_ins p q rs).1 hq with rfl | hq
      · exact hlt
      · exact h.1 q hq
    · split
      · rw [List.pairwise_cons]; exact h
      · rename_i h1 h2
        rw [List.pairwise_cons]
        refine ⟨fun q hq => ?_, by rw [List.pairwise_cons]; exact h⟩
        rcases List.mem_cons.1 hq with rfl | hq
        · omega
        · have := h.1 q hq
          omega

theorem ins_mem {p : Nat} {ps : List Nat} (h : ps.Pairwise (· < ·)) (hm : p ∈ ps) : ins p ps = ps := by
  induction ps with
  | nil => simp at hm
  | cons r rs ih =>
    rw [List.pairwise_cons] at h
    unfold ins
    rcases List.mem_cons.1 hm with rfl | hm
    · simp
    · have := h.1 p hm
      rw [if_pos this, ih h.2 hm]

theorem ptsOf_sorted (es : List Ev) : (ptsOf es).Pairwise (· < ·) := by
  induction es using snoc_ind with
  | h0 => simp [ptsOf]
  | h1 l a ih => rw [ptsOf_snoc]; exact ins_sorted ih

theorem mem_ptsOf (p : Nat) (es : List Ev) : p ∈ ptsOf es ↔ ∃ k ∈ keysOf es, (grp k).1 = p := by
  have : p ∈ ptsOf es ↔ ∃ e ∈ es, (grp e.key).1 = p := by
    induction es using snoc_ind with
    | h0 => simp [ptsOf]
    | h1 l a ih =>
      rw [ptsOf_snoc, mem_ins, ih]
      constructor
      · rintro (h | ⟨e, he, hp⟩)
        · exact ⟨a, by simp, h.symm⟩
        · exact ⟨e, by simp [he], hp⟩
      · rintro ⟨e, he, hp⟩
        rcases List.mem_append.1 he with he | he
        · exact .inr ⟨e, he, hp⟩
        · simp at he
          subst he
          exact .inl hp.symm
  rw [this]
  constructor
  · rintro ⟨e, he, hp⟩
    exact ⟨e.key, (mem_keysOf _ _).2 ⟨e, he, rfl⟩, hp⟩
  · rintro ⟨k, hk, hp⟩
    obtain ⟨e, he, rfl⟩ := (mem_keysOf _ _).1 hk
    exact ⟨e, he, hp⟩

theorem tot_none (f : Kn → Int) {es : List Ev} {p : Nat} (h : p ∉ ptsOf es) : tot f es p = 0 :=
  sumK_zero fun k hk => by rw [if_neg fun e => h ((mem_ptsOf p es).2 ⟨k, hk, e⟩)]

/-- A group's text. -/
def textAt (p : Nat) (l s c : Int) : List UInt8 := (Utf8.encode (p : Int)).data.toList ++ [32] ++ decI l ++ [32] ++ decI (wrap16 s) ++ [32] ++ decI (c % 256) ++ [59]

/-- What events make. -/
def foldB (es : List Ev) : List UInt8 := (ptsOf es).flatMap fun p => textAt p (tot fLive es p) (tot fSum es p) (tot fCnt es p)


/-- What the table holds of a group. -/
structure GV where
  pt : Nat
  live : Int
  sum : Int
  ev : Int

def gvOf (es : List Ev) (p : Nat) : GV := ⟨p, tot fLive es p, wrap16 (tot fSum es p), tot fCnt es p % 256⟩
def tabOf (es : List Ev) : List GV := (ptsOf es).map (gvOf es)

def GV.plus (r : GV) (l s : Int) : GV := ⟨r.pt, r.live + l, wrap16 (r.sum + s), (r.ev + 1) % 256⟩

/-- A change, counted. -/
def addG (p : Nat) (l s : Int) : List GV → List GV
  | [] => [(GV.mk p 0 0 0).plus l s]
  | r :: rs => if r.pt < p then r :: addG p l s rs else if r.pt = p then r.plus l s :: rs else (GV.mk p 0 0 0).plus l s :: r :: rs

theorem map_ins {p : Nat} {l s : Int} {ps : List Nat} {g g' : Nat → GV} (hs : ps.Pairwise (· < ·)) (hg : ∀ q, (g q).pt = q) (hq : ∀ q, q ≠ p → g' q = g q)
    (h1 : p ∈ ps → g' p = (g p).plus l s) (h0 : p ∉ ps → g' p = (GV.mk p 0 0 0).plus l s) : (ins p ps).map g' = addG p l s (ps.map g) := by
  induction ps with
  | nil => simp [ins, addG, h0]
  | cons q qs ih =>
    rw [List.pairwise_cons] at hs
    unfold ins
    simp only [List.map_cons, addG, hg]
    by_cases c1 : q < p
    · rw [if_pos c1, if_pos c1, List.map_cons, hq q (by omega)]
      congr 1
      refine ih hs.2 (fun hm => h1 (by simp [hm])) (fun hm => h0 ?_)
      simp only [List.mem_cons, not_or]
      exact ⟨by omega, hm⟩
    · rw [if_neg c1, if_neg c1]
      by_cases c2 : q = p
      · subst c2
        rw [if_pos rfl, if_pos rfl, List.map_cons, h1 (by simp)]
        congr 1
        exact List.map_congr_left fun x hx => hq x (by have := hs.1 x hx; omega)
      · rw [if_neg c2, if_neg c2, List.map_cons, List.map_cons, hq q c2]
        have hn : p ∉ q :: qs := by
          intro hm
          rcases List.mem_cons.1 hm with e | hm
          · exact c2 e.symm
          · have := hs.1 p hm
            omega
        rw [h0 hn]
        congr 2
        exact List.map_congr_left fun x hx => hq x (by have := hs.1 x hx; omega)

theorem wrap16_add (a b : Int) : wrap16 (wrap16 a + b) = wrap16 (a + b) := by
  unfold wrap16
  split <;> split <;> split <;> omega

theorem wrap16_add' (a b : Int) : wrap16 (a + wrap16 b) = wrap16 (a + b) := by
  unfold wrap16
  split <;> split <;> split <;> omega

theorem wrap16_small {a : Int} (h1 : -32768 ≤ a) (h2 : a ≤ 32767) : wrap16 a = a := by
  unfold wrap16
  split <;> omega

theorem tabOf_counts {es : List Ev} {e : Ev} (h : (knOf e.key es).counts e = true) :
    tabOf (es ++ [e]) = addG (grp e.key).1 (fLive ((knOf e.key es).step e) - fLive (knOf e.key es)) (wrap16 (fSum ((knOf e.key es).step e) - fSum (knOf e.key es))) (tabOf es) := by
  unfold tabOf
  rw [ptsOf_snoc]
  have hc : fCnt ((knOf e.key es).step e) - fCnt (knOf e.key es) = 1 := by
    unfold Kn.step fCnt
    rw [if_pos h]
    simp only
    omega
  refine map_ins (ptsOf_sorted es) (fun q => rfl) (fun q hq => ?_) (fun hm => ?_) (fun hm => ?_)
  · unfold gvOf
    rw [tot_snoc fLive rfl, tot_snoc fSum rfl, tot_snoc fCnt rfl, if_neg (Ne.symm hq), if_neg (Ne.symm hq), if_neg (Ne.symm hq), Int.add_zero, Int.add_zero, Int.add_zero]
  · unfold gvOf GV.plus
    rw [tot_snoc fLive rfl, tot_snoc fSum rfl, tot_snoc fCnt rfl, if_pos rfl, if_pos rfl, if_pos rfl, wrap16_add, wrap16_add', hc]
    simp only [GV.mk.injEq, true_and]
    omega
  · unfold gvOf GV.plus
    rw [tot_snoc fLive rfl, tot_snoc fSum rfl, tot_snoc fCnt rfl, if_pos rfl, if_pos rfl, if_pos rfl, wrap16_add', hc, tot_none _ hm, tot_none _ hm, tot_none _ hm]

theorem counts_absent {es : List Ev} {e : Ev} (h : e.key ∉ keysOf es) : (knOf e.key es).counts e = true := by
  rw [knOf_absent h]
  rfl

theorem step_not {k : Kn} {e : Ev} (h : k.counts e = false) : k.step e = k := by
  unfold Kn.step
  rw [h]
  rfl

theorem tabOf_not {es : List Ev} {e : Ev} (h : (knOf e.key es).counts e = false) : tabOf (es ++ [e]) = tabOf es := by
  have hm : e.key ∈ keysOf es := Classical.byContradiction fun x => by rw [counts_absent x] at h; cases h
  unfold tabOf
  rw [ptsOf_snoc, ins_mem (ptsOf_sorted es) ((mem_ptsOf _ _).2 ⟨_, hm, rfl⟩)]
  refine List.map_congr_left fun q _ => ?_
  unfold gvOf
  rw [tot_snoc fLive rfl, tot_snoc fSum rfl, tot_snoc fCnt rfl, step_not h]
  simp

/-- What is kept of a key. -/
structure EV where
  name : ByteArray
  seq : Nat
  live : Int
  value : Int

def entOf (es : List Ev) (k : ByteArray) : EV := ⟨k, (knOf k es).last, fLive (knOf k es), fSum (knOf k es)⟩
abbrev entsOf (es : List Ev) : List EV := (keysOf es).map (entOf es)
def madeE (e : Ev) : EV := ⟨e.key, e.seq, if e.op = 1 then 1 else 0, if e.op = 1 then e.val else 0⟩
def plcE (l : List EV) (key : ByteArray) : Nat := l.findIdx (fun r => decide (r.name = key))

theorem entOf_made {es : List Ev} {e : Ev} (h : (knOf e.key es).counts e = true) : entOf (es ++ [e]) e.key = madeE e := by
  unfold entOf madeE
  rw [knOf_append, if_pos rfl]
  unfold Kn.step fLive fSum
  rw [if_pos h]
  simp

theorem entOf_other {es : List Ev} {e : Ev} {k : ByteArray} (h : e.key ≠ k) : entOf (es ++ [e]) k = entOf es k := by
  unfold entOf
  rw [knOf_append, if_neg h]

theorem entOf_absent {es : List Ev} {k : ByteArray} (h : k ∉ keysOf es) : entOf es k = ⟨k, 0, 0, 0⟩ := by
  unfold entOf
  rw [knOf_absent h]
  rfl

theorem plcE_mem {es : List Ev} {key : ByteArray} (h : key ∈ keysOf es) : ∃ hl : plcE (entsOf es) key < (entsOf es).length, (entsOf es)[plcE (entsOf es) key] = entOf es key := by
  have hl : plcE (entsOf es) key < (entsOf es).length := by
    unfold plcE
    rw [List.findIdx_lt_length]
    exact ⟨entOf es key, List.mem_map.2 ⟨key, h, rfl⟩, by simp [entOf]⟩
  refine ⟨hl, ?_⟩
  have hn : ((entsOf es)[plcE (entsOf es) key]).name = key := by
    have := List.findIdx_getElem (xs := entsOf es) (p := fun r : EV => decide (r.name = key)) (w := hl)
    exact of_decide_eq_true this
  obtain ⟨k, _, e⟩ := List.mem_map.1 (List.getElem_mem hl)
  rw [← e] at hn ⊢
  have hk : k = key := hn
  rw [hk]

theorem plcE_absent {es : List Ev} {key : ByteArray} (h : key ∉ keysOf es) : plcE (entsOf es) key = (entsOf es).length := by
  unfold plcE
  rw [List.findIdx_eq_length]
  intro r hr
  obtain ⟨k, hk, rfl⟩ := List.mem_map.1 hr
  have hne : ¬ k = key := fun x => h (by rw [← x]; exact hk)
  exact decide_eq_false hne

theorem entsOf_not {es : List Ev} {e : Ev} (h : (knOf e.key es).counts e = false) : entsOf (es ++ [e]) = entsOf es := by
  have hm : e.key ∈ keysOf es := Classical.byContradiction fun x => by rw [counts_absent x] at h; cases h
  unfold entsOf
  rw [keysOf_old hm]
  refine List.map_congr_left fun k _ => ?_
  by_cases hk : e.key = k
  · subst hk
    unfold entOf
    rw [knOf_append, if_pos rfl, step_not h]
  · exact entOf_other hk

theorem entsOf_new {es : List Ev} {e : Ev} (h : e.key ∉ keysOf es) : entsOf (es ++ [e]) = entsOf es ++ [madeE e] := by
  unfold entsOf
  rw [keysOf_new h, List.map_append, List.map_cons, List.map_nil, entOf_made (counts_absent h)]
  congr 1
  exact List.map_congr_left fun k hk => entOf_other fun x => h (x ▸ hk)

theorem entsOf_old {es : List Ev} {e : Ev} (hm : e.key ∈ keysOf es) (h : (knOf e.key es).counts e = true) : entsOf (es ++ [e]) = (entsOf es).set (plcE (entsOf es) e.key) (madeE e) := by
  obtain ⟨hl, hp⟩ := plcE_mem hm
  obtain ⟨n, hn⟩ : ∃ n, plcE (entsOf es) e.key = n := ⟨_, rfl⟩
  simp only [hn] at hl hp ⊢
  have hnk : (keysOf es)[n]? = some e.key := by
    rw [List.length_map] at hl
    rw [List.getElem_map] at hp
    rw [List.getElem?_eq_getElem hl]
    exact congrArg some (congrArg EV.name hp)
  apply List.ext_getElem?
  intro i
  unfold entsOf
  rw [List.getElem?_set, keysOf_old hm, List.getElem?_map, List.getElem?_map]
  by_cases hi : n = i
  · subst hi
    rw [if_pos rfl, if_pos (by simpa using hl), hnk]
    simp only [Option.map_some]
    rw [entOf_made h]
  · rw [if_neg hi]
    cases hk : (keysOf es)[i]? with
    | none => rfl
    | some k =>
      simp only [Option.map_some]
      congr 1
      refine entOf_other fun x => hi ?_
      obtain ⟨h1, e1⟩ := List.getElem?_eq_some_iff.1 hnk
      obtain ⟨h2, e2⟩ := List.getElem?_eq_some_iff.1 hk
      exact (List.getElem_inj (keysOf_nodup es)).1 (e1.trans (x.trans e2.symm))

end Go.Proofs.YthccpacmklhejaaGreatDoor
