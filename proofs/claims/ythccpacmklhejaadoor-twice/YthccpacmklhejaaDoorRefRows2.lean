/-
  canalref.rows.
-/
import Derived.Test.YthccpacmklhejaaDoorRefRows
namespace Go.Proofs.YthccpacmklhejaaDoor
open Go.RowKit

/-- Had a key an event among the first k? -/
def oldTo (es : List Ev) (k : Nat) (key : ByteArray) : Bool := (es.take k).any (fun e => decide (e.key = key))

theorem oldTo_succ (es : List Ev) (k : Nat) (h : k < es.length) (key : ByteArray) : oldTo es (k + 1) key = (oldTo es k key || decide ((es[k]).key = key)) := by
  unfold oldTo
  rw [List.take_succ_eq_append_getElem h, List.any_append]
  simp

def addRow (k : Kn) (r : RowV) : RowV := if k.there then ⟨r.pt, r.tx, r.live + 1, r.sum + k.value, r.ev + k.count⟩ else ⟨r.pt, r.tx, r.live, r.sum, r.ev + k.count⟩

/-- A key's row among the rows, with a new one where there is none. -/
def withRow (out : List RowV) (key : ByteArray) : List RowV := if placeS out (grp key).1 = out.length then out ++ [⟨(grp key).1, (grp key).2, 0, 0, 0⟩] else out

def addKey (es : List Ev) (out : List RowV) (key : ByteArray) : List RowV := (withRow out key).modify (placeS out (grp key).1) (addRow (knOf key es))

def rowsTo (es : List Ev) : Nat → List RowV
  | 0 => []
  | i + 1 => if h : i < es.length then (if oldTo es i (es[i]).key then rowsTo es i else addKey es (rowsTo es i) (es[i]).key) else rowsTo es i

theorem str_eq_dec (a b : ByteArray) : (a.toList == b.toList) = decide (a = b) := by
  by_cases h : a = b
  · subst h; simp
  · have := str_ne h
    simp [h]
    simpa using this

theorem addKey_le (es : List Ev) (out : List RowV) (key : ByteArray) : (addKey es out key).length ≤ out.length + 1 := by
  unfold addKey withRow
  rw [List.length_modify]
  split <;> simp

theorem rowsTo_le (es : List Ev) : ∀ i, (rowsTo es i).length ≤ i
  | 0 => by simp [rowsTo]
  | i + 1 => by
    have ih := rowsTo_le es i
    rw [rowsTo]
    split
    · split
      · omega
      · have := addKey_le es (rowsTo es i) (es[i]).key
        omega
    · omega

theorem rowCells_cons (r : RowV) (rs : List RowV) : rowCells (r :: rs) = rowCells1 r ++ rowCells rs := by simp [rowCells]

/-- One row's numbers, laid over. -/
theorem row_fill3 (rs : List RowV) (n : Nat) (h : n < rs.length) (l : Nat) (u : Int) (e : Nat) :
    (((rowCells rs).set (n * 5 + 2) (.int .i64 (l : Int))).set (n * 5 + 3) (.int .i64 u)).set (n * 5 + 4) (.int .i64 (e : Int)) = rowCells (rs.set n ⟨rs[n].pt, rs[n].tx, l, u, e⟩) := by
  have hs : rs = rs.take n ++ rs[n] :: rs.drop (n + 1) := by rw [← List.drop_eq_getElem_cons h, List.take_append_drop]
  have hset : rs.set n ⟨rs[n].pt, rs[n].tx, l, u, e⟩ = rs.take n ++ ⟨rs[n].pt, rs[n].tx, l, u, e⟩ :: rs.drop (n + 1) := by rw [List.set_eq_take_append_cons_drop, if_pos h]
  rw [hset]
  generalize rs[n] = r at hs
  generalize hT : rs.take n = T at hs
  generalize rs.drop (n + 1) = D at hs
  have hTl : T.length = n := by rw [← hT, List.length_take]; omega
  have hlen : (rowCells T).length = n * 5 := by rw [rowCells_length, hTl]
  subst hs
  rw [rowCells_append, rowCells_append, rowCells_cons, rowCells_cons]
  rw [List.set_append_right _ _ (by omega), List.set_append_right _ _ (by omega), List.set_append_right _ _ (by omega), hlen]
  rw [show n * 5 + 2 - n * 5 = 2 from by omega, show n * 5 + 3 - n * 5 = 3 from by omega, show n * 5 + 4 - n * 5 = 4 from by omega]
  rfl

theorem row_fill1 (rs : List RowV) (n : Nat) (h : n < rs.length) (e : Nat) :
    (rowCells rs).set (n * 5 + 4) (.int .i64 (e : Int)) = rowCells (rs.set n ⟨rs[n].pt, rs[n].tx, rs[n].live, rs[n].sum, e⟩) := by
  have hs : rs = rs.take n ++ rs[n] :: rs.drop (n + 1) := by rw [← List.drop_eq_getElem_cons h, List.take_append_drop]
  have hset : rs.set n ⟨rs[n].pt, rs[n].tx, rs[n].live, rs[n].sum, e⟩ = rs.take n ++ ⟨rs[n].pt, rs[n].tx, rs[n].live, rs[n].sum, e⟩ :: rs.drop (n + 1) := by rw [List.set_eq_take_append_cons_drop, if_pos h]
  rw [hset]
  generalize rs[n] = r at hs
  generalize hT : rs.take n = T at hs
  generalize rs.drop (n + 1) = D at hs
  have hTl : T.length = n := by rw [← hT, List.length_take]; omega
  have hlen : (rowCells T).length = n * 5 := by rw [rowCells_length, hTl]
  subst hs
  rw [rowCells_append, rowCells_append, rowCells_cons, rowCells_cons]
  rw [List.set_append_right _ _ (by omega), hlen, show n * 5 + 4 - n * 5 = 4 from by omega]
  rfl

theorem fillAt (rs : List RowV) (n : Nat) (h : n < rs.length) (x : RowV) (v2 : Nat) (v3 : Int) (v4 : Nat) :
    (rowCells (rs.set n x)).set (n * 5 + 2) (.int .i64 (v2 : Int)) = rowCells (rs.set n ⟨x.pt, x.tx, v2, x.sum, x.ev⟩) ∧ (rowCells (rs.set n x)).set (n * 5 + 3) (.int .i64 v3) = rowCells (rs.set n ⟨x.pt, x.tx, x.live, v3, x.ev⟩) ∧ (rowCells (rs.set n x)).set (n * 5 + 4) (.int .i64 (v4 : Int)) = rowCells (rs.set n ⟨x.pt, x.tx, x.live, x.sum, v4⟩) := by
  have hset : ∀ y : RowV, rs.set n y = rs.take n ++ y :: rs.drop (n + 1) := fun y => by rw [List.set_eq_take_append_cons_drop, if_pos h]
  have hlen : (rowCells (rs.take n)).length = n * 5 := by rw [rowCells_length, List.length_take]; congr 1; omega
  simp only [hset]
  generalize rs.take n = T at hlen
  generalize rs.drop (n + 1) = D
  simp only [rowCells_append, rowCells_cons]
  refine ⟨?_, ?_, ?_⟩
  · rw [List.set_append_right _ _ (by omega), hlen, show n * 5 + 2 - n * 5 = 2 from by omega]
    rfl
  · rw [List.set_append_right _ _ (by omega), hlen, show n * 5 + 3 - n * 5 = 3 from by omega]
    rfl
  · rw [List.set_append_right _ _ (by omega), hlen, show n * 5 + 4 - n * 5 = 4 from by omega]
    rfl

theorem cellOf (rs : List RowV) (n : Nat) (h : n < rs.length) (x : RowV) (k : Nat) (hk : k < 5) : (rowCells (rs.set n x))[n * 5 + k]? = (rowCells1 x)[k]? := by
  rw [rowCells_at (rs.set n x) n (by simpa using h) k hk]
  simp

/-- How great a row's numbers may be. -/
def RB (i : Nat) (r : RowV) : Prop := r.live ≤ i ∧ -(40000 * (i : Int)) ≤ r.sum ∧ r.sum ≤ 40000 * (i : Int) ∧ r.ev ≤ 1000 * i

def KB (k : Kn) : Prop := -32768 ≤ k.value ∧ k.value ≤ 32767 ∧ k.count ≤ 400

theorem step_value : ∀ (es : List Ev) (k : Kn), (-32768 ≤ k.value ∧ k.value ≤ 32767) → (∀ e ∈ es, e.ok) → (-32768 ≤ (es.foldl Kn.step k).value ∧ (es.foldl Kn.step k).value ≤ 32767)
  | [], k, hk, _ => hk
  | e :: es, k, hk, h => by
    have hs : -32768 ≤ (k.step e).value ∧ (k.step e).value ≤ 32767 := by
      unfold Kn.step
      split
      · exact ⟨(h e (by simp)).2.2.1, (h e (by simp)).2.2.2⟩
      · exact hk
    exact step_value es (k.step e) hs (fun x hx => h x (by simp [hx]))

theorem knOf_bounds {key : ByteArray} {es : List Ev} (h : ∀ e ∈ es, e.ok) (hl : es.length ≤ 400) : KB (knOf key es) := by
  have h1 := step_value (es.filter (fun e => decide (e.key = key))) Kn.none (by decide) (fun e he => h e (List.mem_filter.1 he).1)
  have h2 := (knOf_last (key := key) (es := es) fun e he => (h e he).2.1).2
  exact ⟨h1.1, h1.2, Nat.le_trans h2 hl⟩

theorem RB.add {i : Nat} {r : RowV} {k : Kn} (h : RB i r) (hk : KB k) : RB (i + 1) (addRow k r) := by
  obtain ⟨h1, h2, h3, h4⟩ := h
  obtain ⟨k1, k2, k3⟩ := hk
  unfold addRow RB
  split <;> simp only <;> omega

theorem RB.mono {i j : Nat} {r : RowV} (h : RB i r) (hij : i ≤ j) : RB j r := by
  obtain ⟨h1, h2, h3, h4⟩ := h
  unfold RB
  omega

theorem addKey_bounds {es : List Ev} {out : List RowV} {key : ByteArray} {i : Nat} (h : ∀ r ∈ out, RB i r) (hk : KB (knOf key es)) : ∀ r ∈ addKey es out key, RB (i + 1) r := by
  have hw : ∀ r ∈ withRow out key, RB i r := by
    unfold withRow
    split
    · intro r hr
      rcases List.mem_append.1 hr with hr | hr
      · exact h r hr
      · simp at hr
        subst hr
        unfold RB
        simp only
        omega
    · exact h
  intro r hr
  unfold addKey at hr
  obtain ⟨n, hn, rfl⟩ := List.getElem_of_mem hr
  rw [List.getElem_modify]
  have hn' : n < (withRow out key).length := by simpa using hn
  split
  · exact (hw _ (List.getElem_mem hn')).add hk
  · exact (hw _ (List.getElem_mem hn')).mono (by omega)

theorem rowsTo_bounds {es : List Ev} (h : ∀ e ∈ es, e.ok) (hl : es.length ≤ 400) : ∀ i, ∀ r ∈ rowsTo es i, RB i r
  | 0 => by simp [rowsTo]
  | i + 1 => by
    have ih := rowsTo_bounds h hl i
    rw [rowsTo]
    split
    · split
      · exact fun r hr => (ih r hr).mono (by omega)
      · exact addKey_bounds ih (knOf_bounds h hl)
    · exact fun r hr => (ih r hr).mono (by omega)

theorem below_drewN {B : Nat} {a w : World} (h : Below B a w) (n : Nat) : Below B a (w.drewN n) := ⟨h.os, h.tape, h.output, h.size, h.block⟩

theorem addKey_old {es : List Ev} {rs : List RowV} {key : ByteArray} {n : Nat} (hp : placeS rs (grp key).1 = n) (h : n < rs.length) : addKey es rs key = rs.set n (addRow (knOf key es) rs[n]) := by
  unfold addKey withRow
  rw [hp, if_neg (by omega)]
  apply List.ext_getElem
  · simp
  · intro i h1 h2
    rw [List.getElem_modify, List.getElem_set]
    split
    · next e => subst e; rfl
    · rfl

theorem addKey_new {es : List Ev} {rs : List RowV} {key : ByteArray} (hp : placeS rs (grp key).1 = rs.length) : addKey es rs key = (rs ++ [RowV.mk (grp key).1 (grp key).2 0 0 0]).set rs.length (addRow (knOf key es) ⟨(grp key).1, (grp key).2, 0, 0, 0⟩) := by
  unfold addKey withRow
  rw [hp, if_pos rfl]
  apply List.ext_getElem
  · simp
  · intro i h1 h2
    rw [List.getElem_modify, List.getElem_set]
    split
    · next e => subst e; simp
    · rfl

theorem heap_d1 {W : World} {k : Nat} {o : Option Obj} (h : W.heap[k]? = o) : W.drew.heap[k]? = o := h

theorem cell_five_new (w : World) (a b c d e : Value) (t : TypeId) : ∀ j u, [a, b, c, d, e][j]? = some u → (w.alloc (.cells #[a, b, c, d, e] t)).cell? ((⟨w.heap.size, 0, none⟩ : Addr).add j) = some u := by
  intro j u hu
  have h := row_cell (heap_alloc_new w (.cells #[a, b, c, d, e] t)) j
  have ha : (⟨w.heap.size, 0, none⟩ : Addr).add j = ⟨w.heap.size, j, none⟩ := by
    by_cases hj : j = 0
    · subst hj; rfl
    · simp [Addr.add, hj]
  rw [ha, h]
  simpa using hu

theorem row_oneCell (r : RowV) : ∀ u ∈ rowCells1 r, u.oneCell' = true := by
  intro u hu
  simp [rowCells1] at hu
  rcases hu with rfl | rfl | rfl | rfl | rfl <;> rfl

theorem own_obj {W : World} {B n g c : Nat} {e : TypeId} {s : Nat} {xs : List Value} (h : W.ownsRow B e s (.slice (some ⟨g, 0, none⟩) n c) n xs) : ∃ cur, W.heap[g]? = some (.cells cur e (0, 0)) := by
  rcases h.2 with ⟨h', _⟩ | ⟨g', cap', cur, h', _, hg, _⟩
  · simp at h'
  · simp at h'
    obtain ⟨rfl, _⟩ := h'
    exact ⟨cur, hg⟩

theorem own_d1 {W : World} {B n : Nat} {e : TypeId} {s : Nat} {v : Value} {xs : List Value} (h : W.ownsRow B e s v n xs) : W.drew.ownsRow B e s v n xs := h

theorem own_lt {W : World} {B n g c : Nat} {e : TypeId} {s : Nat} {xs : List Value} (h : W.ownsRow B e s (.slice (some ⟨g, 0, none⟩) n c) n xs) : B ≤ g ∧ g < W.heap.size := h.lt g rfl

theorem own_dn {W : World} {B n : Nat} {e : TypeId} {s : Nat} {v : Value} {xs : List Value} (h : W.ownsRow B e s v n xs) (q : Nat) : (W.drewN q).ownsRow B e s v n xs := h

theorem IsEvs.below {w w' : World} {a : Option Addr} {es : List Ev} (h : IsEvs w a es) (hb : Below w.heap.size w w') : IsEvs w' a es := by
  refine ⟨h.1, ?_⟩
  rcases h.2 with h0 | ⟨b, off, ha, hbl, hcs⟩
  · exact .inl h0
  · refine .inr ⟨b, off, ha, Nat.lt_of_lt_of_le hbl hb.size, fun k hk => ?_⟩
    obtain ⟨c0, c1, c2, c3⟩ := hcs k hk
    exact ⟨(hb.cell (p := ⟨b, off + k * 4, none⟩) hbl).trans c0, (hb.cell (p := ⟨b, off + k * 4 + 1, none⟩) hbl).trans c1, (hb.cell (p := ⟨b, off + k * 4 + 2, none⟩) hbl).trans c2, (hb.cell (p := ⟨b, off + k * 4 + 3, none⟩) hbl).trans c3⟩

end Go.Proofs.YthccpacmklhejaaDoor
