/-
  Plain mathematics: a list of records cut short, or with one byte turned.
-/
import Derived.Test.YthccpacmklhejaaParse
namespace Go.Proofs.Ythccpacmklhejaa

theorem split_fuel : ∀ (n : Nat) (l : List UInt8), l.length ≤ n → ∃ es r, l = recs es ++ r ∧ (∀ e ∈ es, Good e) ∧ Stop r
  | 0, l, h => ⟨[], [], by simp at h; simp [recs, h], by simp, .inl rfl⟩
  | n + 1, l, h => by
    cases hf : firstS ⟨l.toArray⟩ with
    | none => exact ⟨[], l, by simp [recs], by simp, .inr hf⟩
    | some x =>
      obtain ⟨e, m⟩ := x
      obtain ⟨f1, f2, f3, f4, f5⟩ := firstS_some hf
      simp at f3
      have hp := recB_pos e
      obtain ⟨es, r, h1, h2, h3⟩ := split_fuel n (l.drop m) (by rw [List.length_drop]; omega)
      refine ⟨e :: es, r, ?_, ?_, h3⟩
      · rw [recs_cons, List.append_assoc, ← h1, f3, List.take_append_drop]
      · intro x hx
        rcases List.mem_cons.1 hx with rfl | hx
        · exact ⟨f1, f2⟩
        · exact h2 x hx
theorem split_all (l : List UInt8) : ∃ es r, l = recs es ++ r ∧ (∀ e ∈ es, Good e) ∧ Stop r := split_fuel l.length l (Nat.le_refl _)

/-- Where place i lies. -/
theorem split_at : ∀ (es : List Ev) (i : Nat), i < (recs es).length → ∃ pre e post, es = pre ++ e :: post ∧ (recs pre).length ≤ i ∧ i < (recs pre).length + (recB e).length
  | [], i, h => by simp [recs] at h
  | e :: es, i, h => by
    by_cases h1 : i < (recB e).length
    · exact ⟨[], e, es, rfl, by simp [recs], by simpa [recs] using h1⟩
    · rw [recs_cons, List.length_append] at h
      obtain ⟨pre, e', post, h2, h3, h4⟩ := split_at es (i - (recB e).length) (by omega)
      refine ⟨e :: pre, e', post, by rw [h2]; rfl, ?_, ?_⟩
      · rw [recs_cons, List.length_append]; omega
      · rw [recs_cons, List.length_append]; omega

/-- With less than a record no record begins. -/
theorem stop_cut (e : Ev) (ge : Good e) (j : Nat) (hj : j < (recB e).length) : Stop ((recB e).take j) := by
  right
  cases hf : firstS ⟨((recB e).take j).toArray⟩ with
  | none => rfl
  | some x =>
    exfalso
    obtain ⟨e', m⟩ := x
    obtain ⟨f1, f2, f3, f4, f5⟩ := firstS_some hf
    simp at f3
    have hm : m ≤ j := by
      have : (⟨((recB e).take j).toArray⟩ : ByteArray).size = ((recB e).take j).length := by rw [← size_list]
      rw [this, List.length_take] at f5
      omega
    have hr : recB e = recB e' ++ (recB e).drop m := by
      rw [f3, List.take_take, Nat.min_eq_left hm, List.take_append_drop]
    have a := firstS_rec e ge.1 ge.2 [] ⟨(recB e).toArray⟩ (by simp)
    have b := firstS_rec e' f1 f2 ((recB e).drop m) ⟨(recB e).toArray⟩ hr
    rw [a] at b
    simp only [Option.some.injEq, Prod.mk.injEq] at b
    omega

theorem sum_set : ∀ (l : List UInt8) (d : Nat) (x : UInt8) (h : d < l.length), ((l.set d x).map UInt8.toNat).sum + (l[d]).toNat = (l.map UInt8.toNat).sum + x.toNat
  | a :: l, 0, x, _ => by simp; omega
  | a :: l, d + 1, x, h => by
    have ih := sum_set l d x (by simpa using h)
    simp only [List.set_cons_succ, List.map_cons, List.sum_cons, List.getElem_cons_succ]
    omega

/-- A record with a byte behind its head turned is none. -/
theorem stop_turn (e : Ev) (ge : Good e) (d : Nat) (h2 : 2 ≤ d) (hd : d < (recB e).length) (x : UInt8) (hx : x ≠ (recB e)[d]) (R : List UInt8) : Stop ((recB e).set d x ++ R) := by
  right
  cases hf : firstS ⟨((recB e).set d x ++ R).toArray⟩ with
  | none => rfl
  | some y =>
    exfalso
    obtain ⟨e', m⟩ := y
    obtain ⟨f1, f2, f3, f4, f5⟩ := firstS_some hf
    have f3' : recB e' = ((recB e).set d x ++ R).take m := by simpa using f3
    obtain ⟨k1, k8, kop, _, _⟩ := key_le ge.1
    obtain ⟨k1', k8', kop', _, _⟩ := key_le f1
    have hb : ∀ z : Ev, ∃ t, recB z = UInt8.ofNat z.op :: UInt8.ofNat z.key.size :: t := fun z => ⟨z.key.data.toList ++ [UInt8.ofNat (z.seq / 256), UInt8.ofNat (z.seq % 256)] ++ (if z.op = 1 then [UInt8.ofNat (u16 z.val / 256), UInt8.ofNat (u16 z.val % 256)] else []) ++ [UInt8.ofNat (sumB (body z))], by simp [recB, body]⟩
    obtain ⟨t, ht⟩ := hb e
    obtain ⟨t', ht'⟩ := hb e'
    have hm5 : 5 ≤ m := by have := recB_pos e'; omega
    -- the first two bytes
    have hhead : recB e' = UInt8.ofNat e.op :: UInt8.ofNat e.key.size :: ((t.set (d - 2) x ++ R).take (m - 2)) := by
      rw [f3', ht]
      obtain ⟨d', rfl⟩ : ∃ d', d = d' + 2 := ⟨d - 2, by omega⟩
      obtain ⟨m', rfl⟩ : ∃ m', m = m' + 2 := ⟨m - 2, by omega⟩
      simp
    rw [ht'] at hhead
    simp only [List.cons.injEq] at hhead
    obtain ⟨a1, a2, _⟩ := hhead
    have hop : e'.op = e.op := by
      have := congrArg UInt8.toNat a1
      simp at this
      omega
    have hks : e'.key.size = e.key.size := by
      have := congrArg UInt8.toNat a2
      simp at this
      omega
    have hlen : (recB e').length = (recB e).length := by rw [recB_length, recB_length, hop, hks]
    have hrec : recB e' = (recB e).set d x := by
      rw [f3', f4, hlen, List.take_append_of_le_length (by simp), List.take_of_length_le (by simp)]
    have hbl : (body e').length = (body e).length := by
      have l1 : (recB e').length = (body e').length + 1 := by simp [recB]
      have l2 : (recB e).length = (body e).length + 1 := by simp [recB]
      omega
    have hdl : (recB e).length = (body e).length + 1 := by simp [recB]
    by_cases hlast : d = (body e).length
    · have hset : (recB e).set d x = body e ++ [x] := by
        rw [hlast]
        simp [recB]
      rw [hset] at hrec
      unfold recB at hrec
      have hinj := List.append_inj hrec hbl
      have hxx : x = (recB e)[d] := by
        have e1 : [UInt8.ofNat (sumB (body e'))] = [x] := hinj.2
        rw [hinj.1] at e1
        simp at e1
        rw [← e1]
        simp [recB, hlast]
      exact hx hxx
    · have hdb : d < (body e).length := by omega
      have hset : (recB e).set d x = (body e).set d x ++ [UInt8.ofNat (sumB (body e))] := by
        unfold recB
        rw [List.set_append_left _ _ hdb]
      rw [hset] at hrec
      unfold recB at hrec
      have hinj := List.append_inj hrec (by simpa using hbl)
      have e1 : UInt8.ofNat (sumB (body e')) = UInt8.ofNat (sumB (body e)) := by simpa using hinj.2
      have e2 := congrArg UInt8.toNat e1
      have s1 := sumB_lt (body e)
      have s2 := sumB_lt (body e')
      simp at e2
      have e3 : sumB (body e') = sumB (body e) := by omega
      rw [hinj.1] at e3
      have hs := sum_set (body e) d x hdb
      have hxd : (recB e)[d] = (body e)[d] := by simp [recB, List.getElem_append_left hdb]
      have hne : x.toNat ≠ ((body e)[d]).toNat := by
        intro h
        apply hx
        rw [hxd]
        exact UInt8.toNat_inj.1 h
      have l1 := x.toNat_lt
      have l2 := ((body e)[d]).toNat_lt
      unfold sumB at e3
      omega

/-- A log cut at i. -/
theorem cut_short {L s : ByteArray} {es : List Ev} (hL : L.data.toList = recs es) (g : ∀ e ∈ es, Good e) {i : Nat} (hi : i < L.size) (hs : s.data.toList = L.data.toList.take i) :
    ∃ pre e post, es = pre ++ e :: post ∧ (recs pre).length ≤ i ∧ i < (recs pre).length + (recB e).length ∧ Parsed s pre (recs pre).length := by
  have hi' : i < (recs es).length := by rw [← hL, size_list]; exact hi
  obtain ⟨pre, e, post, h1, h2, h3⟩ := split_at es i hi'
  refine ⟨pre, e, post, h1, h2, h3, ?_⟩
  have gp : ∀ x ∈ pre, Good x := fun x hx => g x (by rw [h1]; simp [hx])
  have ge : Good e := g e (by rw [h1]; simp)
  have hl : s.data.toList = recs pre ++ (recB e).take (i - (recs pre).length) := by
    rw [hs, hL, h1, recs_append, recs_cons, List.take_append, List.take_of_length_le h2, List.take_append]
    rw [show i - (recs pre).length - (recB e).length = 0 from by omega]
    simp
  refine ⟨gp, ?_, ?_, ?_⟩
  · rw [hl]; simp
  · rw [← size_list, hl, List.length_append]; omega
  · rw [hl, List.drop_left]
    exact stop_cut e ge _ (by omega)

/-- A log with the byte at i turned: what is read ahead stays; behind the head of the turned record nothing is read. -/
theorem cut_turn {L T : ByteArray} {es : List Ev} (hL : L.data.toList = recs es) (g : ∀ e ∈ es, Good e) {i : Nat} {pre post : List Ev} {e : Ev} (h1 : es = pre ++ e :: post) (h2 : (recs pre).length ≤ i)
    (h3 : i < (recs pre).length + (recB e).length) {x : UInt8} (hT : T.data.toList = L.data.toList.set i x) (hx : ∀ h : i < L.data.toList.length, x ≠ L.data.toList[i]) :
    ∃ more n, Parsed T (pre ++ more) n ∧ (recs pre).length ≤ n ∧ (i ≠ (recs pre).length → i ≠ (recs pre).length + 1 → more = [] ∧ n = (recs pre).length ∧ n < T.size) := by
  have gp : ∀ y ∈ pre, Good y := fun y hy => g y (by rw [h1]; simp [hy])
  have ge : Good e := g e (by rw [h1]; simp)
  have hLl : L.data.toList = recs pre ++ (recB e ++ recs post) := by rw [hL, h1, recs_append, recs_cons]
  have hTl : T.data.toList = recs pre ++ ((recB e).set (i - (recs pre).length) x ++ recs post) := by
    rw [hT, hLl, List.set_append_right _ _ h2, List.set_append_left _ _ (by omega)]
  have hsz : T.size = (recs pre).length + ((recB e).length + (recs post).length) := by
    rw [← size_list, hTl]; simp
  by_cases hhead : i ≠ (recs pre).length ∧ i ≠ (recs pre).length + 1
  · have hil : i < L.data.toList.length := by rw [hLl]; simp; omega
    have hxe : x ≠ (recB e)[i - (recs pre).length]'(by omega) := by
      have := hx hil
      have e1 : L.data.toList[i] = (recB e)[i - (recs pre).length]'(by omega) := by
        simp only [hLl]
        rw [List.getElem_append_right h2, List.getElem_append_left (by omega)]
      rw [e1] at this
      exact this
    have hst := stop_turn e ge (i - (recs pre).length) (by omega) (by omega) x hxe (recs post)
    refine ⟨[], (recs pre).length, ?_, Nat.le_refl _, fun _ _ => ⟨rfl, rfl, by have := recB_pos e; omega⟩⟩
    rw [List.append_nil]
    refine ⟨gp, by rw [hTl]; simp, by omega, ?_⟩
    rw [hTl, List.drop_left]
    exact hst
  · obtain ⟨more, r, m1, m2, m3⟩ := split_all ((recB e).set (i - (recs pre).length) x ++ recs post)
    refine ⟨more, (recs pre).length + (recs more).length, ?_, by omega, fun a b => absurd ⟨a, b⟩ hhead⟩
    have hTm : T.data.toList = recs (pre ++ more) ++ r := by rw [hTl, m1, recs_append, List.append_assoc]
    refine ⟨fun y hy => ?_, ?_, ?_, ?_⟩
    · rcases List.mem_append.1 hy with hy | hy
      · exact gp y hy
      · exact m2 y hy
    · rw [hTm, recs_append, ← List.length_append, List.take_left]
    · rw [← size_list, hTm, recs_append]; simp
    · rw [hTm, recs_append, ← List.length_append, List.drop_left]
      exact m3
end Go.Proofs.Ythccpacmklhejaa
