/-
  When two lists of events make the same.
-/
import Derived.Test.YthccpacmklhejaaDoorFoldMath2
namespace Go.Proofs.YthccpacmklhejaaDoor

theorem sorted_eq : ∀ {a b : List Nat}, a.Pairwise (· < ·) → b.Pairwise (· < ·) → (∀ p, p ∈ a ↔ p ∈ b) → a = b
  | [], [], _, _, _ => rfl
  | [], y :: b, _, _, h => by have := (h y).2 (by simp); simp at this
  | x :: a, [], _, _, h => by have := (h x).1 (by simp); simp at this
  | x :: a, y :: b, ha, hb, h => by
    rw [List.pairwise_cons] at ha hb
    have hxy : x = y := by
      rcases List.mem_cons.1 ((h x).1 (by simp)) with e | hx
      · exact e
      · rcases List.mem_cons.1 ((h y).2 (by simp)) with e | hy
        · exact e.symm
        · have h1 := hb.1 x hx
          have h2 := ha.1 y hy
          omega
    subst hxy
    congr 1
    refine sorted_eq ha.2 hb.2 fun p => ⟨fun hp => ?_, fun hp => ?_⟩
    · rcases List.mem_cons.1 ((h p).1 (by simp [hp])) with e | hq
      · have := ha.1 p hp
        omega
      · exact hq
    · rcases List.mem_cons.1 ((h p).2 (by simp [hp])) with e | hq
      · have := hb.1 p hp
        omega
      · exact hq

theorem sumK_same {g : ByteArray → Int} : ∀ {a b : List ByteArray}, a.Nodup → b.Nodup → (∀ k, k ∈ a ↔ k ∈ b) → sumK g a = sumK g b
  | [], b, _, _, h => by
    cases b with
    | nil => rfl
    | cons y b => have := (h y).2 (by simp); simp at this
  | x :: a, b, ha, hb, h => by
    rw [List.nodup_cons] at ha
    obtain ⟨s, t, rfl⟩ := List.append_of_mem ((h x).1 (by simp))
    have hn : (s ++ t).Nodup ∧ x ∉ s ++ t := by
      have hp : (s ++ x :: t).Perm (x :: (s ++ t)) := List.perm_middle
      have := hp.nodup_iff.1 hb
      rw [List.nodup_cons] at this
      exact ⟨this.2, this.1⟩
    have ih := sumK_same (g := g) (a := a) (b := s ++ t) ha.2 hn.1 fun k => by
      constructor
      · intro hk
        have := (h k).1 (by simp [hk])
        simp only [List.mem_append, List.mem_cons] at this ⊢
        rcases this with h1 | rfl | h1
        · exact .inl h1
        · exact absurd hk ha.1
        · exact .inr h1
      · intro hk
        have hkx : k ≠ x := fun e => hn.2 (e ▸ hk)
        have := (h k).2 (by
          simp only [List.mem_append, List.mem_cons] at hk ⊢
          rcases hk with h1 | h1
          · exact .inl h1
          · exact .inr (.inr h1))
        rcases List.mem_cons.1 this with e | h1
        · exact absurd e hkx
        · exact h1
    simp only [sumK, ih, sumK_append]
    omega

/-- The same keys, and the same known of each: the same text. -/
theorem foldB_same {a b : List Ev} (hk : ∀ k, k ∈ keysOf a ↔ k ∈ keysOf b) (hn : ∀ k, knOf k a = knOf k b) : foldB a = foldB b := by
  have hp : ptsOf a = ptsOf b := by
    refine sorted_eq (ptsOf_sorted a) (ptsOf_sorted b) fun p => ?_
    rw [mem_ptsOf, mem_ptsOf]
    constructor
    · rintro ⟨k, h1, h2⟩
      exact ⟨k, (hk k).1 h1, h2⟩
    · rintro ⟨k, h1, h2⟩
      exact ⟨k, (hk k).2 h1, h2⟩
  have ht : ∀ f p, tot f a p = tot f b p := by
    intro f p
    unfold tot
    rw [sumK_same (keysOf_nodup a) (keysOf_nodup b) hk]
    exact sumK_congr fun k _ => by rw [hn]
  have hf : (fun p => textAt p (tot fLive a p) (tot fSum a p) (tot fCnt a p)) = fun p => textAt p (tot fLive b p) (tot fSum b p) (tot fCnt b p) := funext fun p => by rw [ht fLive, ht fSum, ht fCnt]
  unfold foldB
  rw [hp, hf]

theorem low_counts {k : Kn} {e : Ev} (hh : k.had = true) (hl : k.last < 32768) (he : e.seq < 32768) : k.counts e = decide (k.last < e.seq) := by
  unfold Kn.counts
  rw [hh, wrap16_small (by omega) (by omega)]
  simp only [Bool.not_true, Bool.false_or]
  congr 1
  exact propext ⟨fun h => by omega, fun h => by omega⟩

theorem steps_top (fs : List Ev) (h : ∀ e ∈ fs, e.seq < 32768) : ∀ e ∈ fs, (fs.foldl Kn.step Kn.none).had = true ∧ e.seq ≤ (fs.foldl Kn.step Kn.none).last ∧ (fs.foldl Kn.step Kn.none).last < 32768 := by
  induction fs using snoc_ind with
  | h0 => intro e he; simp at he
  | h1 l a ih =>
    have ih := ih fun e he => h e (by simp [he])
    have ha := h a (by simp)
    rw [List.foldl_append]
    simp only [List.foldl_cons, List.foldl_nil]
    intro e he
    by_cases hne : l = []
    · subst hne
      simp at he
      subst he
      have : (Kn.none.step e) = ⟨true, e.seq, decide (e.op = 1), e.val, 1⟩ := rfl
      simp only [List.foldl_nil, this]
      exact ⟨trivial, Nat.le_refl _, ha⟩
    · obtain ⟨x, hx⟩ := List.exists_mem_of_ne_nil l hne
      obtain ⟨t1, _, t3⟩ := ih x hx
      have hc := low_counts t1 t3 ha
      rcases List.mem_append.1 he with he | he
      · obtain ⟨_, t2, _⟩ := ih e he
        generalize l.foldl Kn.step Kn.none = k at t1 t2 t3 hc
        unfold Kn.step
        rw [hc]
        split
        · rename_i hd
          simp at hd
          exact ⟨rfl, by simp only; omega, ha⟩
        · exact ⟨t1, t2, t3⟩
      · simp at he
        subst he
        generalize l.foldl Kn.step Kn.none = k at t1 t3 hc
        unfold Kn.step
        rw [hc]
        split
        · exact ⟨rfl, Nat.le_refl _, ha⟩
        · rename_i hd
          simp at hd
          exact ⟨t1, hd, t3⟩

theorem steps_idle {k : Kn} : ∀ (fs : List Ev), (∀ e ∈ fs, k.counts e = false) → fs.foldl Kn.step k = k
  | [], _ => rfl
  | e :: fs, h => by
    rw [List.foldl_cons, step_not (h e (by simp))]
    exact steps_idle fs fun x hx => h x (by simp [hx])

theorem knOf_twice {es : List Ev} (h : ∀ e ∈ es, e.seq < 32768) (key : ByteArray) : knOf key (es ++ es) = knOf key es := by
  unfold knOf
  rw [List.filter_append, List.foldl_append]
  have hf : ∀ e ∈ es.filter (fun e => decide (e.key = key)), e.seq < 32768 := fun e he => h e (List.mem_filter.1 he).1
  generalize es.filter (fun e => decide (e.key = key)) = fs at hf
  refine steps_idle fs fun e he => ?_
  obtain ⟨t1, t2, t3⟩ := steps_top fs hf e he
  rw [low_counts t1 t3 (hf e he)]
  exact decide_eq_false (by omega)

theorem foldB_twice {es : List Ev} (h : ∀ e ∈ es, e.seq < 32768) : foldB (es ++ es) = foldB es := by
  refine foldB_same (fun k => ?_) (knOf_twice h)
  rw [mem_keysOf, mem_keysOf]
  constructor
  · rintro ⟨e, he, hk⟩
    rcases List.mem_append.1 he with he | he
    · exact ⟨e, he, hk⟩
    · exact ⟨e, he, hk⟩
  · rintro ⟨e, he, hk⟩
    exact ⟨e, by simp [he], hk⟩

end Go.Proofs.YthccpacmklhejaaDoor
