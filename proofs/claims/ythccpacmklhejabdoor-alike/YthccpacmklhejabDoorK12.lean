/-
  Several texts in one.
-/
import Derived.Test.YthccpacmklhejabDoorK10
import Derived.Test.YthccpacmklhejabDoorK11
import Derived.Test.YthccpacmklhejabDoorK09
import Derived.Test.YthccpacmklhejabDoorK08
namespace Go.Proofs.YthccpacmklhejabDoor
open Go.RowKit

theorem decode_grp {key : ByteArray} (h : validB key = true) : (Utf8.decode key 0).1 = (grp key).1 := by
  unfold validB at h
  simp only [Bool.and_eq_true, decide_eq_true_eq] at h
  have h0 : 0 < key.size := by omega
  unfold grp ptS
  split
  · rename_i hb
    have := (ok_step key (key.size - 1) 0 h0).1 (by unfold ptS; rw [if_pos hb])
    rw [show key.size - 1 + 1 = key.size by omega, h.2] at this
    cases this
  · rfl

def dLive (es : List Ev) (e : Ev) : Int := fLive ((knOf e.key es).step e) - fLive (knOf e.key es)
def dSum (es : List Ev) (e : Ev) : Int := wrap16 (fSum ((knOf e.key es).step e) - fSum (knOf e.key es))

theorem fLive_range (k : Kn) : 0 ≤ fLive k ∧ fLive k ≤ 1 := by unfold fLive; split <;> omega

theorem made_step {es : List Ev} {e : Ev} (h : (knOf e.key es).counts e = true) : (madeE e).live = fLive ((knOf e.key es).step e) ∧ (madeE e).value = fSum ((knOf e.key es).step e) := by
  have := entOf_made h
  rw [← this]
  unfold entOf
  rw [knOf_append, if_pos rfl]
  exact ⟨rfl, rfl⟩

theorem cntE_ents (es : List Ev) (e : Ev) : cntE (entsOf es) e = (knOf e.key es).counts e := by
  unfold cntE
  by_cases hm : e.key ∈ keysOf es
  · obtain ⟨hl, hp⟩ := plcE_mem hm
    rw [dif_pos hl, hp]
    unfold Kn.counts entOf
    rw [knOf_had hm]
    rfl
  · rw [dif_neg (by rw [plcE_absent hm]; omega), counts_absent hm]

theorem oldE_ents (es : List Ev) (key : ByteArray) : (oldE (entsOf es) key).live = fLive (knOf key es) ∧ (oldE (entsOf es) key).value = fSum (knOf key es) := by
  unfold oldE
  by_cases hm : key ∈ keysOf es
  · obtain ⟨hl, hp⟩ := plcE_mem hm
    rw [List.getElem?_eq_getElem hl, hp]
    exact ⟨rfl, rfl⟩
  · rw [List.getElem?_eq_none (by rw [plcE_absent hm]; omega), knOf_absent hm]
    exact ⟨rfl, rfl⟩

theorem putE_ents {es : List Ev} {e : Ev} (h : (knOf e.key es).counts e = true) : putE (entsOf es) e.key (madeE e) = entsOf (es ++ [e]) := by
  unfold putE
  by_cases hm : e.key ∈ keysOf es
  · obtain ⟨hl, _⟩ := plcE_mem hm
    rw [if_pos hl, entsOf_old hm h]
  · rw [if_neg (by rw [plcE_absent hm]; omega), entsOf_new hm]

theorem entsOf_length (es : List Ev) : (entsOf es).length ≤ es.length := by
  have : (keysOf es).length ≤ es.length := by
    induction es using snoc_ind with
    | h0 => simp [keysOf]
    | h1 l x ih =>
      by_cases hm : x.key ∈ keysOf l
      · rw [keysOf_old hm]; simp; omega
      · rw [keysOf_new hm]; simp; omega
  simp [entsOf]
  omega

theorem take_ev (B kb o : Nat) (t : TypeId) (cs : Array Value) (a : Option Addr) (c : Nat) (es : List Ev) (e : Ev) (w : World) (hB : B ≤ w.heap.size) (hlen : es.length ≤ 900) (hv : validB e.key = true) (hK : KAt B kb o t cs a c (entsOf es) w) :
    Calls Tryd.prog 66 #[.pointer (some ⟨kb, o, none⟩), e.value] w fun en w' => en = .returned (.tuple #[if (knOf e.key es).counts e then chgV (grp e.key).1 (dLive es e) (dSum es e) else chgZ, .bool ((knOf e.key es).counts e)]) ∧ ∃ a' c', KUpd B kb o t cs a c (entsOf es) w a' c' (entsOf (es ++ [e])) w' := by
  have hdec := decode_grp hv
  have hv' := hv
  unfold validB at hv'
  simp only [Bool.and_eq_true, decide_eq_true_eq] at hv'
  have hll : (entsOf es).length ≤ 1000 := Nat.le_trans (entsOf_length es) (by omega)
  have hcnt := cntE_ents es e
  obtain ⟨ho1, ho2⟩ := oldE_ents es e.key
  by_cases hc : (knOf e.key es).counts e = true
  · refine (take_yes B kb o t cs a c (entsOf es) e w hB hll hK (hcnt.trans hc) (by omega) (by omega) (by rw [ho1]; exact fLive_range _)).mono ?_
    rintro en w' ⟨h1, h2⟩
    refine ⟨?_, by rw [← putE_ents hc]; exact h2⟩
    rw [h1, hc, hdec, (made_step hc).1, (made_step hc).2, ho1, ho2]
    rfl
  · have hc' : (knOf e.key es).counts e = false := by simpa using hc
    refine (take_not B kb o t cs a c (entsOf es) e w hll hK (hcnt.trans hc')).mono ?_
    rintro en w' ⟨h1, h2⟩
    refine ⟨?_, a, c, ?_⟩
    · rw [h1, hc']
      rfl
    · rw [entsOf_not hc']
      exact (Upd.refl hK).old h2

/-- Two lists of other types, in other blocks. -/
theorem LAt.apart {B e s kb o t cs a n c xs w} {B' e' s' kb' o' t' cs' a' n' c' xs'} (h : LAt B e s kb o t cs a n c xs w) (h' : LAt B' e' s' kb' o' t' cs' a' n' c' xs' w) (hk : kb' ≠ kb) (he : e' ≠ e) (h1 : t' ≠ e) (h2 : t ≠ e') {w1 : World} (hf : FrmX (Xs kb a n c) w w1) : LAt B' e' s' kb' o' t' cs' a' n' c' xs' w1 := by
  refine h'.frm hf (fun hx => ?_) (fun g hg hx => ?_)
  · rcases hx with hx | hx
    · exact hk hx
    · obtain ⟨cur, hc, _⟩ := own_heap h.own hx
      rw [h'.box] at hc
      simp only [Option.some.injEq, Obj.cells.injEq] at hc
      exact h1 hc.2.1
  · obtain ⟨cur, hc, _⟩ := own_heap h'.own hg
    rcases hx with hx | hx
    · subst hx
      rw [h.box] at hc
      simp only [Option.some.injEq, Obj.cells.injEq] at hc
      exact h2 hc.2.1
    · obtain ⟨cur2, hc2, _⟩ := own_heap h.own hx
      rw [hc] at hc2
      simp only [Option.some.injEq, Obj.cells.injEq] at hc2
      exact he hc2.2.1

theorem sumK_bounds {g : ByteArray → Int} {ks : List ByteArray} (h : ∀ k ∈ ks, 0 ≤ g k ∧ g k ≤ 1) : 0 ≤ sumK g ks ∧ sumK g ks ≤ ks.length := by
  induction ks with
  | nil => simp [sumK]
  | cons k ks ih =>
    have h1 := h k (by simp)
    have h2 := ih fun x hx => h x (by simp [hx])
    simp only [sumK, List.length_cons]
    omega

theorem keysOf_length (es : List Ev) : (keysOf es).length ≤ es.length := by
  induction es using snoc_ind with
  | h0 => simp [keysOf]
  | h1 l x ih =>
    by_cases hm : x.key ∈ keysOf l
    · rw [keysOf_old hm]; simp; omega
    · rw [keysOf_new hm]; simp; omega

theorem ins_length (p : Nat) (ps : List Nat) : (ins p ps).length ≤ ps.length + 1 := by
  induction ps with
  | nil => simp [ins]
  | cons q qs ih =>
    unfold ins
    split
    · simp only [List.length_cons]
      omega
    · split <;> simp

theorem ptsOf_length (es : List Ev) : (ptsOf es).length ≤ es.length := by
  induction es using snoc_ind with
  | h0 => simp [ptsOf]
  | h1 l x ih =>
    rw [ptsOf_snoc]
    have := ins_length (grp x.key).1 (ptsOf l)
    simp
    omega

theorem tabOf_bounds {es : List Ev} (hl : es.length ≤ 900) : ∀ r ∈ tabOf es, GB r := by
  intro r hr
  obtain ⟨p, _, rfl⟩ := List.mem_map.1 hr
  have h1 := sumK_bounds (g := fun k => if (grp k).1 = p then fLive (knOf k es) else 0) (ks := keysOf es) (fun k _ => by
    have := fLive_range (knOf k es)
    split <;> omega)
  have h2 := keysOf_length es
  have h3 : (gvOf es p).live = sumK (fun k => if (grp k).1 = p then fLive (knOf k es) else 0) (keysOf es) := rfl
  refine ⟨by rw [h3]; omega, wrap16_range _, ?_⟩
  unfold gvOf
  simp only
  omega

theorem tabOf_text (es : List Ev) : (tabOf es).flatMap gText = foldB es := by
  have h : ∀ p, gText (gvOf es p) = textAt p (tot fLive es p) (tot fSum es p) (tot fCnt es p) := by
    intro p
    unfold gText gvOf textAt
    with_reducible rfl
  unfold tabOf foldB
  rw [List.flatMap_map]
  exact congrArg (fun f => (ptsOf es).flatMap f) (funext h)

/-- What the walk over the events keeps up. -/
def FSt (w : World) (es : List Ev) (wr : World) : Prop :=
  (∃ a c, KAt w.heap.size w.heap.size 0 90 #[.slice a (entsOf es).length c] a c (entsOf es) wr) ∧ (∃ a c xs, xs.map (fun x : GX => x.v) = tabOf es ∧ GAt w.heap.size (w.heap.size + 1) 0 58 #[.slice a xs.length c] a c xs wr) ∧ Below w.heap.size w wr

theorem xs_below {w : World} {kb : Nat} {a : Option Addr} {n c B : Nat} {e : TypeId} {s : Nat} {xs : List Value} (hk : B ≤ kb) (ho : w.ownsRow B e s (.slice a n c) n xs) : ∀ g, Xs kb a n c g → B ≤ g := fun g hg => by
  rcases hg with h | h
  · omega
  · exact (own_ge ho g h).1

set_option maxRecDepth 100000 in
set_option maxHeartbeats 2000000 in
theorem ftext_any (a : Option Addr) (cap : Nat) (es : List Ev) (w : World) (hlen : es.length ≤ 400) (hev : IsEvs w a es) (hv : ∀ e ∈ es, validB e.key = true) (ht : Tab w) :
    Calls Tryd.prog 69 #[.slice a es.length cap] w fun en w' => en = .returned (.string ⟨(foldB es).toArray⟩) ∧ Below w.heap.size w w' := by
  have Hev := show Hid (IsEvs w a es ∧ (∀ e ∈ es, validB e.key = true) ∧ Tab w) from ⟨hev, hv, ht⟩
  clear hev hv ht
  have H0 := show Hid (FSt w [] ((w.alloc (.cells #[.slice none 0 0] 90)).alloc (.cells #[.slice none 0 0] 58))) from by
    refine ⟨⟨none, 0, ?_, rfl, by decide, World.ownsRow_nil _ _ _ _⟩, ⟨none, 0, [], rfl, ?_, rfl, by decide, World.ownsRow_nil _ _ _ _⟩, ((Below.refl _ _).alloc (Nat.le_refl _) _).alloc (by simp) _⟩
    · rw [Below.heap_alloc _ _ _ (by simp)]
      exact heap_alloc_new w _
    · have := heap_alloc_new (w.alloc (.cells #[.slice none 0 0] 90)) (.cells #[.slice none 0 0] 58)
      rw [World.size_alloc] at this
      exact this
  go_enter Tryd.func69, Tryd.ntmps69
  go_wp2
  go_loopw [5] (fun i wr => ∃ j : Nat, j ≤ es.length ∧ i = .int .i64 (j : Int) ∧ FSt w (es.take j) wr) (fun i _ => es.length - (intOf i).toNat)
  case atStart => exact ⟨0, Nat.zero_le _, rfl, H0.out⟩
  case round =>
    obtain ⟨j, hj, rfl, hS⟩ := hrel
    clear H0
    by_cases hjl : j < es.length
    · obtain ⟨hev, hv, ht⟩ := Hev.out
      rcases hev.2 with h0 | ⟨b, off, rfl, hbl, hcs⟩
      · rw [h0] at hjl; simp at hjl
      obtain ⟨d0, d1, d2, d3⟩ := hcs j hjl
      have hvj := hv _ (List.getElem_mem hjl)
      have hnx : es.take (j + 1) = es.take j ++ [es[j]'hjl] := List.take_succ_eq_append_getElem hjl
      have hok := hev.1 (es[j]'hjl) (List.getElem_mem hjl)
      obtain ⟨⟨a1, c1, hK⟩, ⟨a2, c2, xs, hxs, hG⟩, hbr⟩ := hS
      have hl : (es.take j).length ≤ 900 := by rw [List.length_take]; omega
      have hxl : xs.length = (tabOf (es.take j)).length := by rw [← hxs, List.length_map]
      have hto : xs.length ≤ 1000 := by
        rw [hxl]
        unfold tabOf
        rw [List.length_map]
        have := ptsOf_length (es.take j)
        omega
      have hdl : -1 ≤ dLive (es.take j) (es[j]'hjl) ∧ dLive (es.take j) (es[j]'hjl) ≤ 1 := by
        unfold dLive
        have h1 := fLive_range ((knOf (es[j]'hjl).key (es.take j)).step (es[j]'hjl))
        have h2 := fLive_range (knOf (es[j]'hjl).key (es.take j))
        omega
      have hrb : ∀ r ∈ xs, -100000 ≤ r.v.live ∧ r.v.live ≤ 100000 := fun r hr => (tabOf_bounds hl r.v (by rw [← hxs]; exact List.mem_map.2 ⟨r, hr, rfl⟩)).1
      have HA := show Hid _ from fun (w' : World) (hB : w.heap.size ≤ w'.heap.size) (h : GAt w.heap.size (w.heap.size + 1) 0 58 #[.slice a2 xs.length c2] a2 c2 xs w') => add_any w.heap.size (w.heap.size + 1) 0 58 #[.slice a2 xs.length c2] a2 c2 xs (grp (es[j]'hjl).key).1 (dLive (es.take j) (es[j]'hjl)) (dSum (es.take j) (es[j]'hjl)) w' hB hto h hdl hrb
      have HT := show Hid _ from fun (_ : Unit) => take_ev w.heap.size w.heap.size 0 90 #[.slice a1 (entsOf (es.take j)).length c1] a1 c1 (es.take j) (es[j]'hjl) wr hbr.size hl hvj hK
      have h1 := tabOf_counts (es := es.take j) (e := es[j]'hjl)
      have h2 := tabOf_not (es := es.take j) (e := es[j]'hjl)
      have h3 := fun l s => addX_map (grp (es[j]'hjl).key).1 l s xs
      rw [hxs] at h3
      rw [← hnx] at HT h1 h2
      have HN := show Hid (_ ∧ _ ∧ _) from And.intro h1 (And.intro h2 h3)
      have HG := show Hid (KAt w.heap.size w.heap.size 0 90 #[.slice a1 (entsOf (es.take j)).length c1] a1 c1 (entsOf (es.take j)) wr ∧ GAt w.heap.size (w.heap.size + 1) 0 58 #[.slice a2 xs.length c2] a2 c2 xs wr ∧ Below w.heap.size w wr ∧ xs.map (fun x : GX => x.v) = tabOf (es.take j)) from ⟨hK, hG, hbr, hxs⟩
      clear hG hK hev hv ht hdl hto hl hcs hvj hnx h1 h2 h3 hxs hxl hrb
      have q0 := (hbr.cell (p := ⟨b, off + j * 4, none⟩) hbl).trans d0
      have q1 := (hbr.cell (p := ⟨b, off + j * 4 + 1, none⟩) hbl).trans d1
      have q2 := (hbr.cell (p := ⟨b, off + j * 4 + 2, none⟩) hbl).trans d2
      have q3 := (hbr.cell (p := ⟨b, off + j * 4 + 3, none⟩) hbl).trans d3
      clear d0 d1 d2 d3 hok hbr
      have hji : (j : Int) < (es.length : Int) := by omega
      have hj0 : (0 : Int) ≤ (j : Int) := by omega
      unfold dLive dSum at HA HT
      obtain ⟨e, he⟩ : ∃ e, es[j]'hjl = e := ⟨_, rfl⟩
      rw [he] at HA HT HN q0 q1 q2 q3
      clear he
      obtain ⟨op, key, seq, val⟩ := e
      unfold Ev.value at HT
      simp only at HA HT HN q0 q1 q2 q3
      cases hct : (knOf key (es.take j)).counts ⟨op, key, seq, val⟩ with
      | false =>
        rw [hct] at HT HN
        have hn := HN.out.2.1 rfl
        simp only [Bool.false_eq_true, if_false] at HT
        unfold chgZ at HT
        clear HN HA
        go_wp2_with (go_at_call 66; refine (HT.out ()).mono ?_; rintro en w2 ⟨rfl, hK2⟩)
        go_roundw
        case rel =>
          obtain ⟨a3, c3, hU⟩ := hK2
          exact ⟨j + 1, by omega, by go_num, ⟨a3, c3, hU.at'.alloc _⟩, ⟨a2, c2, xs, by rw [hn]; exact HG.out.2.2.2, (HG.out.1.apart HG.out.2.1 (by omega) (by decide) (by decide) (by decide) hU.frm).alloc _⟩, (HG.out.2.2.1.trans (hU.frm.below HG.out.2.2.1.size (xs_below (Nat.le_refl _) HG.out.1.own))).alloc (Nat.le_trans HG.out.2.2.1.size hU.frm.size) _⟩
        case measure => simp [intOf]; omega
      | true =>
        rw [hct] at HT HN
        have hn := HN.out.1 rfl
        simp only [if_true] at HT
        unfold chgV at HT
        have Hn := show Hid (_ ∧ _) from And.intro hn HN.out.2.2
        clear HN hn
        generalize fLive ((knOf key (es.take j)).step ⟨op, key, seq, val⟩) - fLive (knOf key (es.take j)) = dl at HA HT Hn
        generalize wrap16 (fSum ((knOf key (es.take j)).step ⟨op, key, seq, val⟩) - fSum (knOf key (es.take j))) = ds at HA HT Hn
        generalize (grp key).1 = pt at HA HT Hn
        go_wp2_with (first
          | (go_at_call 66; refine (HT.out ()).mono ?_; rintro en w2 ⟨rfl, hK2⟩; obtain ⟨a3, c3, hU⟩ := hK2; have HG2 := show Hid (_ ∧ _ ∧ _) from And.intro (hU.at'.alloc (.cells #[.int .i32 (pt : Int), .int .i64 dl, .int .i16 ds] 108)) (And.intro ((HG.out.1.apart HG.out.2.1 (by omega) (by decide) (by decide) (by decide) hU.frm).alloc (.cells #[.int .i32 (pt : Int), .int .i64 dl, .int .i16 ds] 108)) ((HG.out.2.2.1.trans (hU.frm.below HG.out.2.2.1.size (xs_below (Nat.le_refl _) HG.out.1.own))).alloc (Nat.le_trans HG.out.2.2.1.size hU.frm.size) (.cells #[.int .i32 (pt : Int), .int .i64 dl, .int .i16 ds] 108))); clear hU)
          | (go_at_call 68; refine (HA.out _ HG2.out.2.2.size HG2.out.2.1).mono ?_; rintro en w3 ⟨rfl, hG3⟩))
        go_roundw
        case rel =>
          obtain ⟨a4, c4, hU4⟩ := hG3
          exact ⟨j + 1, by omega, by go_num, ⟨a3, c3, HG2.out.2.1.apart HG2.out.1 (by omega) (by decide) (by decide) (by decide) hU4.frm⟩, ⟨a4, c4, _, by rw [Hn.out.1, ← Hn.out.2], hU4.at'⟩, HG2.out.2.2.trans (hU4.frm.below HG2.out.2.2.size (xs_below (by omega) HG2.out.2.1.own))⟩
        case measure => simp [intOf]; omega
    · have hjj : j = es.length := by omega
      subst hjj
      rw [List.take_length] at hS
      obtain ⟨_, ⟨a2, c2, xs, hxs, hG⟩, hbr⟩ := hS
      have hto : xs.length ≤ 1000 := by
        have hxl : xs.length = (tabOf es).length := by rw [← hxs, List.length_map]
        rw [hxl]
        unfold tabOf
        rw [List.length_map]
        have := ptsOf_length es
        omega
      have HX := show Hid _ from fun (_ : Unit) => ttext_any w.heap.size (w.heap.size + 1) 0 58 #[.slice a2 xs.length c2] a2 c2 xs wr hto hG (Hev.out.2.2.old hbr) (fun r hr => tabOf_bounds (es := es) (by omega) r.v (by rw [← hxs]; exact List.mem_map.2 ⟨r, hr, rfl⟩))
      rw [flat_xText, hxs, tabOf_text] at HX
      have Hb := show Hid (Below w.heap.size w wr) from hbr
      clear hG hbr hto hxs
      obtain ⟨F, hF⟩ : ∃ F : ByteArray, ⟨(foldB es).toArray⟩ = F := ⟨_, rfl⟩
      rw [hF] at HX
      have HF := show Hid _ from hF
      clear hF
      go_wp2_with (go_at_call 33; refine (HX.out ()).mono ?_; rintro en w2 ⟨rfl, hb2⟩)
      go_ret
      exact ⟨by rw [HF.out]; rfl, Hb.out.trans (hb2.mono Hb.out.size)⟩

theorem isEvs_of_own {w : World} {B c : Nat} {a : Option Addr} {es : List Ev} (hown : w.ownsRow B 71 4 (.slice a es.length c) es.length (evCells es)) (hok : ∀ e ∈ es, e.ok) (k : Nat) (hk : k ≤ es.length) : IsEvs w a (es.take k) := by
  refine ⟨fun e he => hok e (List.mem_of_mem_take he), ?_⟩
  rcases own_addr hown with ⟨_, h0⟩ | ⟨g, rfl⟩
  · left
    rw [List.length_eq_zero_iff.1 h0]
    simp
  · right
    refine ⟨g, 0, rfl, (own_lt hown).2, fun j hj => ?_⟩
    rw [List.length_take] at hj
    have := own_event hown j (by omega)
    simp only [Nat.zero_add, List.getElem_take]
    exact this

theorem own_cap {w : World} {B c n : Nat} {a : Option Addr} {e : TypeId} {s : Nat} {xs : List Value} (hown : w.ownsRow B e s (.slice a n c) n xs) : n ≤ c := by
  rcases hown.2 with ⟨h, h0⟩ | ⟨g, cap, cur, h, _, _, h3, _⟩
  · omega
  · simp at h
    omega

set_option maxHeartbeats 400000 in
theorem fold_long (s : ByteArray) (n : Int) (w : World) (h : 400 < s.size) :
    Calls Tryd.prog 42 #[.string s, .int .i64 n] w fun en w' => en = .returned (.tuple #[.string ⟨#[]⟩, .int .i64 1]) ∧ Below w.heap.size w w' := by
  go_enter Tryd.func42, Tryd.ntmps42
  go_wp2_with (go_at_call 44; refine (decode_long s _ h).mono ?_; rintro e w1 ⟨rfl, hb⟩)
  go_ret2
  exact ⟨rfl, hb⟩

theorem errOf_ne (s : ByteArray) (n : Nat) : ((errOf s n : Int) == 1) = false := by
  unfold errOf
  split <;> rfl

theorem good_facts {es : List Ev} (h : ∀ e ∈ es, Good e) : (∀ e ∈ es, e.ok) ∧ (∀ e ∈ es, validB e.key = true) ∧ ∀ e ∈ es, 0 < e.key.size ∧ e.key.size ≤ 1000 := by
  refine ⟨fun e he => (h e he).2, fun e he => (key_le (h e he).1).2.2.2.1, fun e he => ?_⟩
  have := key_le (h e he).1
  omega

set_option maxRecDepth 100000 in
set_option maxHeartbeats 1000000 in
theorem fold_bad (s : ByteArray) (n : Int) (w : World) (h : s.size ≤ 400) (es : List Ev) (m : Nat) (hp : Parsed s es m) (hn : n < 0 ∨ (es.length : Int) < n) :
    Calls Tryd.prog 42 #[.string s, .int .i64 n] w fun en w' => en = .returned (.tuple #[.string ⟨#[]⟩, .int .i64 3]) ∧ Below w.heap.size w w' := by
  have hD := show Hid _ from fun w => decode_short s w h
  by_cases h0 : n < 0
  · have h0d : decide (n < 0) = true := decide_eq_true h0
    clear hn
    go_enter Tryd.func42, Tryd.ntmps42
    go_wp2_with (go_at_call 44; refine (hD.out _).mono ?_; rintro e w1 ⟨v, es', m', r, rfl, hP, hown, hb⟩; obtain ⟨rfl, rfl⟩ := Parsed.unique hp hP.out.1; have hr : ((r : Int) == 1) = false := (by rw [hP.out.2]; exact errOf_ne s m); obtain ⟨a, c, rfl⟩ := own_shape hown)
    go_ret2
    exact ⟨rfl, hb⟩
  · have h1 : (es.length : Int) < n := by omega
    clear hn
    go_enter Tryd.func42, Tryd.ntmps42
    go_wp2_with (go_at_call 44; refine (hD.out _).mono ?_; rintro e w1 ⟨v, es', m', r, rfl, hP, hown, hb⟩; obtain ⟨rfl, rfl⟩ := Parsed.unique hp hP.out.1; have hr : ((r : Int) == 1) = false := (by rw [hP.out.2]; exact errOf_ne s m); obtain ⟨a, c, rfl⟩ := own_shape hown)
    go_ret2
    exact ⟨rfl, hb⟩

set_option maxRecDepth 100000 in
set_option maxHeartbeats 1000000 in
theorem fold_ok (s : ByteArray) (k : Nat) (w : World) (h : s.size ≤ 400) (es : List Ev) (m : Nat) (hp : Parsed s es m) (hk : k ≤ es.length) (ht : Tab w) :
    Calls Tryd.prog 42 #[.string s, .int .i64 (k : Int)] w fun en w' => en = .returned (.tuple #[.string ⟨(foldB (es.take k)).toArray⟩, .int .i64 0]) ∧ Below w.heap.size w w' := by
  have hD := show Hid _ from fun w => decode_short s w h
  have h0 : ¬ ((k : Int) < 0) := by omega
  have h1 : ¬ ((es.length : Int) < (k : Int)) := by omega
  have hf := hp.few
  have hg := good_facts hp.good
  have HX : Hid (∀ (a : Option Addr) (c : Nat) (w1 : World), w1.ownsRow w.heap.size 71 4 (.slice a es.length c) es.length (evCells es) → Below w.heap.size w w1 → Calls Tryd.prog 69 #[.slice a k c] w1 fun en w' => en = .returned (.string ⟨(foldB (es.take k)).toArray⟩) ∧ Below w.heap.size w w') := by
    intro a c w1 ho hb
    have hlk : (es.take k).length = k := by rw [List.length_take]; omega
    have := ftext_any a c (es.take k) w1 (by omega) (isEvs_of_own ho hg.1 k hk) (fun e he => hg.2.1 e (List.mem_of_mem_take he)) (ht.old hb)
    rw [hlk] at this
    exact this.mono fun en w' ⟨h1, h2⟩ => ⟨h1, hb.trans (h2.mono hb.size)⟩
  clear hg hf ht
  obtain ⟨F, hF⟩ : ∃ F : ByteArray, ⟨(foldB (es.take k)).toArray⟩ = F := ⟨_, rfl⟩
  rw [hF] at HX ⊢
  clear hF
  go_enter Tryd.func42, Tryd.ntmps42
  go_wp2_with (first
    | (go_at_call 44; refine (hD.out _).mono ?_; rintro e w1 ⟨v, es', m', r, rfl, hP, hown, hb⟩; obtain ⟨rfl, rfl⟩ := Parsed.unique hp hP.out.1; have hr : ((r : Int) == 1) = false := (by rw [hP.out.2]; exact errOf_ne s m); obtain ⟨a, c, rfl⟩ := own_shape hown; have hcp := own_cap hown; have hkc : (k : Int) ≤ (c : Int) := (by omega); have hk0 : (0 : Int) ≤ (k : Int) := (by omega); have Ho := show Hid (_ ∧ _) from And.intro hown hb; clear hown hb hP)
    | (go_at_call 69; refine (HX.out a c w1 Ho.out.1 Ho.out.2).mono ?_; rintro e w2 ⟨rfl, hb2⟩))
  all_goals go_ret2
  all_goals exact ⟨rfl, hb2⟩

set_option maxHeartbeats 400000 in
theorem cfold_of {s : ByteArray} {n : Int} {w : World} {t : ByteArray} {r : Int} (h : Calls Tryd.prog 42 #[.string s, .int .i64 n] w fun en w' => en = .returned (.tuple #[.string t, .int .i64 r]) ∧ Below w.heap.size w w') :
    Calls Tryd.prog 28 #[.string s, .int .i64 n] w fun en w' => en = .returned (.tuple #[.string t, .int .i64 r]) ∧ Below w.heap.size w w' := by
  have H : Hid (Calls Tryd.prog 42 #[.string s, .int .i64 n] w fun en w' => en = .returned (.tuple #[.string t, .int .i64 r]) ∧ Below w.heap.size w w') := h
  clear h
  go_enter Tryd.func28, Tryd.ntmps28
  go_wp2_with (go_at_call 42; refine H.out.mono ?_; rintro e w1 ⟨rfl, hb⟩)
  go_ret2
  exact ⟨rfl, hb⟩
end Go.Proofs.YthccpacmklhejabDoor

namespace Go.Proofs.YthccpacmklhejabDoor
open Go.RowKit

/-- A list of raw numbers that came in. -/
def IsRaws (w : World) (a : Option Addr) (rs : List RawV) : Prop :=
  (∀ r ∈ rs, r.ok) ∧ (rs = [] ∨ ∃ b off, a = some ⟨b, off, none⟩ ∧ b < w.heap.size ∧ ∀ k (h : k < rs.length),
    w.cell? ⟨b, off + k * 4, none⟩ = some (.bool (rs[k]).drop) ∧ w.cell? ⟨b, off + k * 4 + 1, none⟩ = some (.int .i64 (rs[k]).key) ∧ w.cell? ⟨b, off + k * 4 + 2, none⟩ = some (.int .i64 (rs[k]).seq) ∧ w.cell? ⟨b, off + k * 4 + 3, none⟩ = some (.int .i64 (rs[k]).val))

def recEs (rs : List RawV) (low : Bool) : List Ev := rs.map fun r => recE r low

theorem recEs_good (rs : List RawV) (low : Bool) : ∀ e ∈ recEs rs low, Good e := by
  intro e he
  obtain ⟨r, _, rfl⟩ := List.mem_map.1 he
  exact recE_good r low

theorem recs_take_succ (es : List Ev) (k : Nat) (h : k < es.length) : recs (es.take (k + 1)) = recs (es.take k) ++ recB es[k] := by
  rw [List.take_succ_eq_append_getElem h, recs_append, recs_one]

set_option maxRecDepth 100000 in
set_option maxHeartbeats 2000000 in
theorem encoded_any (a : Option Addr) (cap : Nat) (rs : List RawV) (low : Bool) (room : Nat) (w : World) (hr : room ≤ 400) (hlen : rs.length ≤ 9223372036854775807) (hev : IsRaws w a rs) :
    Calls Tryd.prog 17 #[.slice a rs.length cap, .bool low, .int .i64 (room : Int)] w fun en w' => (∃ (n : Nat) (tx : ByteArray), en = .returned (.tuple #[.string tx, .int .i64 (n : Int), .bool true]) ∧
      Hid (n ≤ rs.length ∧ tx.data.toList = recs ((recEs rs low).take n) ∧ tx.size ≤ room ∧ (n = rs.length ∨ room < (recs ((recEs rs low).take (n + 1))).length))) ∧ Below w.heap.size w w' := by
  have Hev := show Hid (IsRaws w a rs) from hev
  clear hev
  have hll : (recEs rs low).length = rs.length := by simp [recEs]
  go_enter Tryd.func17, Tryd.ntmps17
  go_wp2
  go_loopw [9, 10, 11] (fun lg n i wr => ∃ (k : Nat) (tx : ByteArray), k ≤ rs.length ∧ i = .int .i64 (k : Int) ∧ n = .int .i64 (k : Int) ∧ lg = .string tx ∧ Hid (tx.data.toList = recs ((recEs rs low).take k)) ∧ tx.size ≤ room ∧ Below w.heap.size w wr) (fun _ _ i _ => rs.length - (intOf i).toNat)
  case atStart => exact ⟨0, ⟨#[]⟩, Nat.zero_le _, rfl, rfl, rfl, by show _ = _; simp [recs], by simp [ByteArray.size], Below.refl _ _⟩
  case round =>
    obtain ⟨k, tx, hk, rfl, rfl, rfl, htx, hts, hb⟩ := hrel
    by_cases hkl : k < rs.length
    · rcases Hev.out.2 with h0 | ⟨b, off, rfl, hbl, hcs⟩
      · rw [h0] at hkl; simp at hkl
      obtain ⟨d0, d1, d2, d3⟩ := hcs k hkl
      have q0 := (hb.cell (p := ⟨b, off + k * 4, none⟩) hbl).trans d0
      have q1 := (hb.cell (p := ⟨b, off + k * 4 + 1, none⟩) hbl).trans d1
      have q2 := (hb.cell (p := ⟨b, off + k * 4 + 2, none⟩) hbl).trans d2
      have q3 := (hb.cell (p := ⟨b, off + k * 4 + 3, none⟩) hbl).trans d3
      have hok := Hev.out.1 (rs[k]'hkl) (List.getElem_mem hkl)
      have hsu := recs_take_succ (recEs rs low) k (by omega)
      have hek : (recEs rs low)[k]'(by omega) = recE (rs[k]'hkl) low := by simp [recEs]
      rw [hek] at hsu
      have hgd := recE_good (rs[k]'hkl) low
      have HR := show Hid _ from fun (_ : Unit) => record_any (rs[k]'hkl) low wr hok
      have hE := show Hid _ from fun w => cencode_any (recE (rs[k]'hkl) low) w hgd.2.2.1
      have hel := encStr_list hgd.1
      rw [hgd.1] at hE
      clear d0 d1 d2 d3 hcs hok hek
      generalize recE (rs[k]'hkl) low = e at hsu hgd HR hE hel
      generalize rs[k]'hkl = r at q0 q1 q2 q3 HR
      obtain ⟨rd, rk, rq, rv⟩ := r
      unfold RawV.value at HR
      simp only at q0 q1 q2 q3 HR
      have hes := size_list (encStr e)
      rw [hel] at hes
      have hrl := recB_length e
      have hkl8 := key_le hgd.1
      have hsz : (encStr e).size ≤ 15 := by
        rw [← hes, hrl]
        split <;> omega
      have Hel := show Hid _ from hel
      have Hsu := show Hid _ from hsu
      clear hel hsu hgd hes hrl hkl8
      obtain ⟨op, key, seq, val⟩ := e
      unfold Ev.value at HR hE
      simp only at HR hE
      generalize encStr ⟨op, key, seq, val⟩ = t at hE Hel hsz
      have hki : (k : Int) < (rs.length : Int) := by omega
      have hk0 : (0 : Int) ≤ (k : Int) := by omega
      have Hb := show Hid (Below w.heap.size w wr) from hb
      clear hb
      by_cases hrm : room < tx.size + t.size
      · have hrmi : (room : Int) < (tx.size : Int) + (t.size : Int) := by omega
        go_wp2_with (first
          | (go_at_call 30; refine (HR.out ()).mono ?_; rintro en w2 ⟨rfl, hb2⟩)
          | (go_at_call 29; refine (hE.out _).mono ?_; rintro en w3 ⟨rfl, hb3⟩))
        go_ret3
        refine ⟨⟨k, tx, rfl, by omega, htx.out, hts, .inr ?_⟩, (Hb.out.trans (hb2.mono Hb.out.size)).trans (hb3.mono (Nat.le_trans Hb.out.size hb2.size))⟩
        rw [Hsu.out, List.length_append, ← htx.out, ← Hel.out, size_list, size_list]
        exact hrm
      · have hrmi : ¬ ((room : Int) < (tx.size : Int) + (t.size : Int)) := by omega
        go_wp2_with (first
          | (go_at_call 30; refine (HR.out ()).mono ?_; rintro en w2 ⟨rfl, hb2⟩)
          | (go_at_call 29; refine (hE.out _).mono ?_; rintro en w3 ⟨rfl, hb3⟩))
        go_roundw
        case rel => exact ⟨k + 1, tx ++ t, by omega, by go_num, by go_num, rfl, by show _ = _; rw [Hsu.out, ByteArray.data_append, Array.toList_append, htx.out, Hel.out], by rw [ByteArray.size_append]; omega, (Hb.out.trans (hb2.mono Hb.out.size)).trans (hb3.mono (Nat.le_trans Hb.out.size hb2.size))⟩
        case measure => simp [intOf]; omega
    · have hkk : k = rs.length := by omega
      go_wp2
      go_ret3
      exact ⟨⟨k, tx, rfl, hk, htx.out, hts, .inl hkk⟩, hb⟩

def evOne : List Ev := [⟨1, ⟨#[97]⟩, 1, 5⟩, ⟨1, ⟨#[97, 98]⟩, 1, 7⟩]
def logOne : ByteArray := ⟨#[1, 1, 97, 0, 1, 0, 5, 105, 1, 2, 97, 98, 0, 1, 0, 7, 206]⟩

theorem one_parsed : Parsed logOne evOne 17 := by
  refine ⟨?_, by decide +kernel, by decide, .inl (by decide +kernel)⟩
  intro e he
  simp [evOne] at he
  rcases he with rfl | rfl
  · exact ⟨by decide +kernel, by unfold Ev.ok; decide⟩
  · exact ⟨by decide +kernel, by unfold Ev.ok; decide⟩

theorem one_fold : foldB evOne = [97, 32, 50, 32, 49, 50, 32, 50, 59] := by
  have h1 : ptsOf evOne = [97] := by decide +kernel
  have h2 : tot fLive evOne 97 = 2 := by decide +kernel
  have h3 : tot fSum evOne 97 = 12 := by decide +kernel
  have h4 : tot fCnt evOne 97 = 2 := by decide +kernel
  have h5 : (Utf8.encode ((97 : Nat) : Int)).data.toList = [97] := by decide +kernel
  unfold foldB
  rw [h1]
  simp only [List.flatMap_cons, List.flatMap_nil, List.append_nil, h2, h3, h4]
  unfold textAt
  rw [h5, show wrap16 12 = 12 from by decide, show (2 : Int) % 256 = 2 from by decide]
  unfold decI
  simp [decN_small, decN_big, dig]

end Go.Proofs.YthccpacmklhejabDoor

namespace Go.Proofs.YthccpacmklhejabDoor
open Go.RowKit

def pickN (c : Int) (n : Nat) : Nat := (if c < 0 then -(c + 1) else c).toNat % n

set_option maxHeartbeats 1000000 in
theorem pick_any (c : Int) (n : Nat) (w : World) (h : In64 c) (hn : n = 4 ∨ n = 6 ∨ n = 8 ∨ n = 10) :
    Calls Tryd.prog 18 #[.int .i64 c, .int .i64 (n : Int)] w fun e w' => e = .returned (.int .i64 (pickN c n : Int)) ∧ w' = w := by
  obtain ⟨h1, h2⟩ := h
  have neg : c < 0 → (pickN c n : Int) = -((c + 1).tmod n) := fun hc => by
    rw [← Int.neg_tmod, Int.tmod_eq_emod_of_nonneg (by omega)]
    unfold pickN
    rw [if_pos hc, Int.natCast_emod, Int.toNat_of_nonneg (by omega)]
  have pos : ¬ c < 0 → (pickN c n : Int) = c.tmod n := fun hc => by
    rw [Int.tmod_eq_emod_of_nonneg (by omega)]
    unfold pickN
    rw [if_neg hc, Int.natCast_emod, Int.toNat_of_nonneg (by omega)]
  rcases hn with rfl | rfl | rfl | rfl
  all_goals
    by_cases hc : c < 0
    · have He := show Hid _ from neg hc
      clear neg pos
      go_enter Tryd.func18, Tryd.ntmps18
      go_wp2
      go_ret
      exact ⟨by rw [He.out]; rfl, rfl⟩
    · have He := show Hid _ from pos hc
      clear neg pos
      go_enter Tryd.func18, Tryd.ntmps18
      go_wp2
      go_ret
      refine ⟨?_, rfl⟩
      rw [He.out]
      exact ret_of (congrArg (Value.int .i64) (by first | rfl | (rw [Int.tmod_eq_emod_of_nonneg (by omega)]; rfl)))

/-- A run: its own block, its job. -/
structure RunAt (CJ : CJT) (B xb jb : Nat) (j : JobM) (log : ByteArray) (shown : Nat) (w : World) : Prop where
  job : ∃ X, CJ X w jb j ∧ ¬ X xb ∧ ∀ g, X g → B ≤ g
  box : w.heap[xb]? = some (.cells #[.pointer (some ⟨jb, 0, none⟩), .int .i64 (j.width : Int), .string log, .int .i64 (j.events.length : Int), .int .i64 (shown : Int)] 32 (0, 0))
  ge : B ≤ xb

section
variable {CJ : CJT} {B xb jb : Nat} {j j' : JobM} {log : ByteArray} {shown : Nat} {w w' : World}

theorem RunAt.old (I : JobIface CJ) (h : RunAt CJ B xb jb j log shown w) (hb : Below w.heap.size w w') : RunAt CJ B xb jb j log shown w' := by
  obtain ⟨X, hX, hx, hB⟩ := h.job
  exact ⟨⟨X, After.of_below I hX hb, hx, hB⟩, (hb.block _ (heap_lt h.box)).trans h.box, h.ge⟩

theorem RunAt.drewN (I : JobIface CJ) (h : RunAt CJ B xb jb j log shown w) (n : Nat) : RunAt CJ B xb jb j log shown (w.drewN n) := h.old I (below_drewN (Below.refl _ _) n)

/-- Behind a call on its job. -/
theorem RunAt.after (h : RunAt CJ B xb jb j log shown w) (hs : SameJ j j') (ha : ∀ X, CJ X w jb j → ¬ X xb → (∀ g, X g → B ≤ g) → After CJ X w jb j' w') : RunAt CJ B xb jb j' log shown w' ∧ Below B w w' := by
  obtain ⟨X, hX, hx, hB⟩ := h.job
  obtain ⟨X', h1, h2, h3⟩ := ha X hX hx hB
  have hxl := heap_lt h.box
  have hBw : B ≤ w.heap.size := Nat.le_trans h.ge (Nat.le_of_lt hxl)
  refine ⟨⟨⟨X', h1, fun hc => ?_, fun g hg => ?_⟩, ?_, h.ge⟩, h2.below hBw hB⟩
  · rcases h3 xb hc with h4 | h4
    · exact hx h4
    · omega
  · rcases h3 g hg with h4 | h4
    · exact hB g h4
    · omega
  · rw [hs.width, hs.events]
    exact h2.block h.box hx

theorem RunAt.width (I : JobIface CJ) (h : RunAt CJ B xb jb j log shown w) : Good2 j ∧ (1 ≤ j.width ∧ j.width ≤ 4) ∧ j.events.length ≤ 400 := by
  obtain ⟨X, hX, _⟩ := h.job
  exact I.good hX

set_option maxHeartbeats 400000 in
theorem tasks_any (I : JobIface CJ) (h : RunAt CJ B xb jb j log shown w) :
    Calls Tryd.prog 13 #[.pointer (some ⟨xb, 0, none⟩)] w fun en w' => en = .returned (.int .i64 ((2 * j.width + 2 : Nat) : Int)) ∧ w' = w := by
  have hw := (h.width I).2.1
  have c1 : w.cell? ⟨xb, 1, none⟩ = some (.int .i64 (j.width : Int)) := row_cell h.box 1
  clear h
  generalize j.width = W at hw c1 ⊢
  go_enter Tryd.func13, Tryd.ntmps13
  go_wp2
  go_ret
  exact ⟨ret_of (congrArg (Value.int .i64) (by push_cast; rfl)), rfl⟩

end

end Go.Proofs.YthccpacmklhejabDoor

namespace Go.Proofs.YthccpacmklhejabDoor
open Go.RowKit

theorem same_roundTo (j : JobM) : ∀ n, SameJ j (j.roundTo n)
  | 0 => SameJ.refl j
  | n + 1 => (same_roundTo j n).trans (same_step _ _)

/-- What a move makes of a job. -/
def JobM.moveM (j : JobM) (kind arg : Int) : JobM :=
  if kind = 1 then (j.step (pickN arg (2 * j.width + 2) : Int)).2
  else if kind = 2 then j.trigger.2.2
  else if kind = 3 then j.fail
  else if kind = 5 then j.round
  else j

theorem same_move (j : JobM) (kind arg : Int) : SameJ j (j.moveM kind arg) := by
  unfold JobM.moveM
  split
  · exact same_step j _
  · split
    · exact same_trigger j
    · split
      · exact same_fail j
      · split
        · exact same_roundTo j _
        · exact SameJ.refl j

theorem number_move (j : JobM) (kind arg : Int) : (j.moveM kind arg).number ≤ j.number + 1 := by
  unfold JobM.moveM
  split
  · rw [number_step]; omega
  · split
    · exact number_trigger j
    · split
      · rw [number_fail]; omega
      · split
        · unfold JobM.round; rw [number_roundTo]; omega
        · omega

theorem base_roundTo {j : JobM} (hf : FlowOk j) : ∀ n, j.base ≤ (j.roundTo n).base
  | 0 => Nat.le_refl _
  | n + 1 => Nat.le_trans (base_roundTo hf n) (base_step (roundTo_keep (P := FlowOk) (fun _ t h => flow_step h t) hf n) _)

theorem base_move {j : JobM} (hf : FlowOk j) (kind arg : Int) : j.base ≤ (j.moveM kind arg).base := by
  unfold JobM.moveM
  split
  · exact base_step hf _
  · split
    · rw [base_trigger]; exact Nat.le_refl _
    · split
      · exact base_fail hf
      · split
        · exact base_roundTo hf _
        · exact Nat.le_refl _

section
variable {CJ : CJT} {B xb jb : Nat} {j j' : JobM} {log : ByteArray} {shown : Nat} {w w' : World}

theorem RunAt.step (I : JobIface CJ) (h : RunAt CJ B xb jb j log shown w) (t : Int) (h1 : -9223372036854775808 ≤ t) (h2 : t ≤ 9223372036854775807) :
    Calls Tryd.prog 14 #[.pointer (some ⟨jb, 0, none⟩), .int .i64 t] w fun en w' => en = .returned (.int .i64 ((j.step t).1 : Int)) ∧ RunAt CJ B xb jb (j.step t).2 log shown w' ∧ Below B w w' := by
  obtain ⟨X, hX, hx, hB⟩ := h.job
  refine (I.step hX t h1 h2).mono ?_
  rintro en w' ⟨h1, X', a1, a2, a3⟩
  have h0 : RunAt CJ B xb jb j log shown w := ⟨⟨X, hX, hx, hB⟩, h.box, h.ge⟩
  have hxl := heap_lt h.box
  have hBw : B ≤ w.heap.size := Nat.le_trans h.ge (Nat.le_of_lt hxl)
  refine ⟨h1, ⟨⟨X', a1, fun hc => ?_, fun g hg => ?_⟩, ?_, h.ge⟩, a2.below hBw hB⟩
  · rcases a3 xb hc with h4 | h4
    · exact hx h4
    · omega
  · rcases a3 g hg with h4 | h4
    · exact hB g h4
    · omega
  · rw [(same_step j t).width, (same_step j t).events]
    exact a2.block h.box hx

theorem RunAt.put (h : RunAt CJ B xb jb j log shown w) (hs : SameJ j j') {X : Nat → Prop} (hx : ¬ X xb) (hB : ∀ g, X g → B ≤ g) (ha : After CJ X w jb j' w') : RunAt CJ B xb jb j' log shown w' ∧ Below B w w' := by
  obtain ⟨X', a1, a2, a3⟩ := ha
  have hxl := heap_lt h.box
  have hBw : B ≤ w.heap.size := Nat.le_trans h.ge (Nat.le_of_lt hxl)
  refine ⟨⟨⟨X', a1, fun hc => ?_, fun g hg => ?_⟩, ?_, h.ge⟩, a2.below hBw hB⟩
  · rcases a3 xb hc with h4 | h4
    · exact hx h4
    · omega
  · rcases a3 g hg with h4 | h4
    · exact hB g h4
    · omega
  · rw [hs.width, hs.events]
    exact a2.block h.box hx

theorem RunAt.trigger (I : JobIface CJ) (h : RunAt CJ B xb jb j log shown w) (hn : j.number < 4611686018427387904) :
    Calls Tryd.prog 15 #[.pointer (some ⟨jb, 0, none⟩)] w fun en w' => en = .returned (.tuple #[.int .i64 (j.trigger.1 : Int), .int .i64 (j.trigger.2.1 : Int)]) ∧ RunAt CJ B xb jb j.trigger.2.2 log shown w' ∧ Below B w w' := by
  obtain ⟨X, hX, hx, hB⟩ := h.job
  refine (I.trigger hX hn).mono ?_
  rintro en w' ⟨h1, ha⟩
  exact ⟨h1, h.put (same_trigger j) hx hB ha⟩

theorem RunAt.fail (I : JobIface CJ) (h : RunAt CJ B xb jb j log shown w) :
    Calls Tryd.prog 11 #[.pointer (some ⟨jb, 0, none⟩)] w fun en w' => en = .returned (.tuple #[]) ∧ RunAt CJ B xb jb j.fail log shown w' ∧ Below B w w' := by
  obtain ⟨X, hX, hx, hB⟩ := h.job
  refine (I.fail hX).mono ?_
  rintro en w' ⟨h1, ha⟩
  exact ⟨h1, h.put (same_fail j) hx hB ha⟩

theorem RunAt.cell0 (h : RunAt CJ B xb jb j log shown w) : w.cell? ⟨xb, 0, none⟩ = some (.pointer (some ⟨jb, 0, none⟩)) := row_cell h.box 0

set_option maxRecDepth 100000 in
set_option maxHeartbeats 1000000 in
theorem round_any (I : JobIface CJ) (h : RunAt CJ B xb jb j log shown w) :
    Calls Tryd.prog 21 #[.pointer (some ⟨xb, 0, none⟩)] w fun en w' => en = .returned (.tuple #[]) ∧ RunAt CJ B xb jb j.round log shown w' ∧ Below B w w' := by
  have hw := (h.width I).2.1
  have HR := show Hid _ from h
  clear h
  obtain ⟨W, hWe⟩ : ∃ W, j.width = W := ⟨_, rfl⟩
  rw [hWe] at hw
  go_enter Tryd.func21, Tryd.ntmps21
  go_wp2
  go_loopw [2] (fun i wr => ∃ n : Nat, n ≤ 2 * W + 2 ∧ i = .int .i64 (n : Int) ∧ RunAt CJ B xb jb (j.roundTo n) log shown wr ∧ Below B w wr) (fun i _ => 2 * W + 2 - (intOf i).toNat)
  case atStart => exact ⟨0, Nat.zero_le _, rfl, HR.out, Below.refl _ _⟩
  case round =>
    obtain ⟨n, hn, rfl, hRn, hbn⟩ := hrel
    clear HR
    have HT := show Hid _ from fun (_ : Unit) => tasks_any I hRn
    rw [(same_roundTo j n).width, hWe] at HT
    have c0 := hRn.cell0
    by_cases hnl : n < 2 * W + 2
    · have hni : (n : Int) < ((2 * W + 2 : Nat) : Int) := by omega
      have HS := show Hid _ from fun (_ : Unit) => hRn.step I (n : Int) (by omega) (by omega)
      have Hb := show Hid _ from hbn
      clear hRn hbn
      generalize ((2 * W + 2 : Nat) : Int) = T at HT hni
      go_wp2_with (first
        | (go_at_call 13; refine (HT.out ()).mono ?_; rintro en w1 ⟨rfl, rfl⟩)
        | (go_at_call 14; refine (HS.out ()).mono ?_; rintro en w2 ⟨rfl, hR2, hb2⟩))
      go_roundw
      case rel => exact ⟨n + 1, by omega, by go_num, hR2, Hb.out.trans hb2⟩
      case measure => simp [intOf]; omega
    · have hnn : n = 2 * W + 2 := by omega
      have hni : ¬ (n : Int) < ((2 * W + 2 : Nat) : Int) := by omega
      have HF := show Hid (RunAt CJ B xb jb j.round log shown wr ∧ Below B w wr) from ⟨by unfold JobM.round; rw [hWe, ← hnn]; exact hRn, hbn⟩
      clear hRn hbn hnn
      generalize ((2 * W + 2 : Nat) : Int) = T at HT hni
      go_wp2_with (go_at_call 13; refine (HT.out ()).mono ?_; rintro en w1 ⟨rfl, rfl⟩)
      go_end0
      exact ⟨rfl, HF.out.1, HF.out.2⟩

set_option maxRecDepth 100000 in
set_option maxHeartbeats 2000000 in
theorem move_one (I : JobIface CJ) (h : RunAt CJ B xb jb j log shown w) (arg : Int) (ha : In64 arg) :
    Calls Tryd.prog 6 #[.pointer (some ⟨xb, 0, none⟩), .agg #[.int .i64 1, .int .i64 arg]] w fun en w' => en = .returned (.tuple #[]) ∧ RunAt CJ B xb jb (j.step (pickN arg (2 * j.width + 2) : Int)).2 log shown w' ∧ Below B w w' := by
  have hw := (h.width I).2.1
  have hBw : B ≤ w.heap.size := Nat.le_trans h.ge (Nat.le_of_lt (heap_lt h.box))
  have hxl := heap_lt h.box
  have hRd := ((h.old I ((Below.refl _ _).alloc (Nat.le_refl _) (.cells #[.int .i64 1, .int .i64 arg] 28))).drewN I 1)
  have Hb0 := show Hid _ from (Below.refl B w).alloc hBw (.cells #[.int .i64 1, .int .i64 arg] 28)
  have hmb : (w.alloc (.cells #[.int .i64 1, .int .i64 arg] 28)).heap[w.heap.size]? = some (.cells #[.int .i64 1, .int .i64 arg] 28 (0, 0)) := heap_alloc_new w _
  have hst := same_step j (pickN arg (2 * j.width + 2) : Int)
  have HTk := show Hid _ from fun (w : World) (h : RunAt CJ B xb jb j log shown w) => tasks_any I h
  have HPk := show Hid _ from fun (w : World) => pick_any arg (2 * j.width + 2) w ha (by omega)
  have HSt := show Hid _ from fun (w : World) (h : RunAt CJ B xb jb j log shown w) => h.step I (pickN arg (2 * j.width + 2) : Int) (by omega) (by have : pickN arg (2 * j.width + 2) < 2 * j.width + 2 := Nat.mod_lt _ (by omega); omega)
  have Hsame := show Hid (∀ wx, RunAt CJ B xb jb (j.step (pickN arg (2 * j.width + 2) : Int)).2 log shown wx → wx.heap[xb]? = some (.cells #[.pointer (some ⟨jb, 0, none⟩), .int .i64 (j.width : Int), .string log, .int .i64 (j.events.length : Int), .int .i64 (shown : Int)] 32 (0, 0))) from fun wx hx => by
    have := hx.box
    rw [hst.width, hst.events] at this
    exact this
  clear hst
  generalize (j.step (pickN arg (2 * j.width + 2) : Int)).2 = j2 at HSt Hsame ⊢
  generalize ((j.step (pickN arg (2 * j.width + 2) : Int)).1 : Int) = r2 at HSt
  clear h
  go_enter Tryd.func6, Tryd.ntmps6
  have hk : (w.alloc (.cells #[.int .i64 1, .int .i64 arg] 28)).cell? ⟨w.heap.size, 0, none⟩ = some (.int .i64 1) := row_cell hmb 0
  go_wp2
  clear hk
  have hS0 : (w.alloc (.cells #[.int .i64 1, .int .i64 arg] 28)).drew.heap[xb]? = _ := hRd.box
  have hm1 : (w.alloc (.cells #[.int .i64 1, .int .i64 arg] 28)).drew.cell? ⟨w.heap.size, 1, none⟩ = some (.int .i64 arg) := row_cell hmb 1
  have hRd' : RunAt CJ B xb jb j log shown (w.alloc (.cells #[.int .i64 1, .int .i64 arg] 28)).drew := hRd
  have HR := show Hid _ from hRd'
  have Hb1 := show Hid _ from Hb0.out.drew
  clear hRd hRd' hmb Hb0
  generalize (pickN arg (2 * j.width + 2) : Int) = pk at HSt HPk
  generalize ((2 * j.width + 2 : Nat) : Int) = tk at HPk HTk
  generalize j.width = W at hS0 Hsame
  generalize j.events.length = N at hS0 Hsame
  refine wp_region_held_drew (S := fun w' : World => w'.heap[xb]? = some (.cells #[.pointer (some ⟨jb, 0, none⟩), .int .i64 (W : Int), .string log, .int .i64 (N : Int), .int .i64 (shown : Int)] 32 (0, 0))) (by kernel_rfl) hS0 (fun hH => ?_)
  generalize (w.alloc (.cells #[.int .i64 1, .int .i64 arg] 28)).drew = wd at HR Hb1 hS0 hm1 hH ⊢
  refine wpAnyH_take (i := 0) (v := (.pointer (some ⟨xb, 0, none⟩))) rfl (by kernel_rfl) (by kernel_rfl) (by kernel_rfl) (fun _ _ _ h => h) (Or.inl ⟨by rfl, by intro v hSw; clear hSw; go_simp⟩) hH ?_
  refine wpAnyH_take (i := 1) (v := (.pointer (some ⟨xb, 0, none⟩))) rfl (by kernel_rfl) (by kernel_rfl) (by kernel_rfl) (fun _ _ _ h => h) (Or.inl ⟨by rfl, by intro v hSw; clear hSw; go_simp⟩) hH ?_
  refine wpAnyH_take (i := 2) (v := (.pointer (some ⟨xb, 0, none⟩))) rfl (by kernel_rfl) (by kernel_rfl) (by kernel_rfl) (fun _ _ _ h => h) (Or.inl ⟨by rfl, by intro v hSw; clear hSw; go_simp⟩) hH ?_
  refine wpAnyH_take (i := 3) (v := (.pointer (some ⟨jb, 0, none⟩))) rfl (by kernel_rfl) (by kernel_rfl) (by kernel_rfl) (fun _ _ _ h => h) (Or.inl ⟨by rfl, by intro v hSw; have s0 : v.cell? ⟨xb, 0, none⟩ = some (.pointer (some ⟨jb, 0, none⟩)) := row_cell hSw 0; clear hSw; go_simp⟩) hH ?_
  refine wpAnyH_take (i := 4) (v := (.pointer (some ⟨w.heap.size, 1, none⟩))) rfl (by kernel_rfl) (by kernel_rfl) (by kernel_rfl) (fun _ _ _ h => h) (Or.inl ⟨by rfl, by intro v hSw; clear hSw; go_simp⟩) hH ?_
  refine wpAnyH_take (i := 6) (v := (.pointer (some ⟨xb, 0, none⟩))) rfl (by kernel_rfl) (by kernel_rfl) (by kernel_rfl) (fun _ _ _ h => h) (Or.inl ⟨by rfl, by intro v hSw; clear hSw; go_simp⟩) hH ?_
  refine wpAnyH_ready (rs := [5, 7]) (by kernel_rfl) (by simp) ?_
  refine AllReadyH.cons rfl (fun K hK => ?_) (AllReadyH.cons rfl (fun K hK => ?_) AllReadyH.nil)
  focus
    clear hH
    go_simp
    refine hK.out _ _ hS0 (fun hH => ?_)
    clear hK K
    refine wpAnyH_ready (rs := [7]) (by kernel_rfl) (by simp) ?_
    refine AllReadyH.cons rfl (fun K hK => ?_) AllReadyH.nil
    clear hH
    go_simp
    go_wp2_with (go_at_call 13; refine (HTk.out _ HR.out).mono ?_; rintro en w1 ⟨rfl, rfl⟩)
    refine hK.out _ _ hS0 (fun hH => ?_)
    clear hK K HTk
  rotate_left
  focus
    clear hH
    go_simp
    go_wp2_with (go_at_call 13; refine (HTk.out _ HR.out).mono ?_; rintro en w1 ⟨rfl, rfl⟩)
    refine hK.out _ _ hS0 (fun hH => ?_)
    clear hK K HTk
    refine wpAnyH_ready (rs := [5]) (by kernel_rfl) (by simp) ?_
    refine AllReadyH.cons rfl (fun K hK => ?_) AllReadyH.nil
    clear hH
    go_simp
    refine hK.out _ _ hS0 (fun hH => ?_)
    clear hK K
  all_goals
    refine wpAnyH_ready (rs := [8]) (by kernel_rfl) (by simp) ?_
    refine AllReadyH.cons rfl (fun K hK => ?_) AllReadyH.nil
    clear hH
    go_simp
    go_wp2_with (go_at_call 18; refine (HPk.out _).mono ?_; rintro en w2 ⟨rfl, rfl⟩)
    refine hK.out _ _ hS0 (fun hH => ?_)
    clear hK K HPk
    refine wpAnyH_ready (rs := [9]) (by kernel_rfl) (by simp) ?_
    refine AllReadyH.cons rfl (fun K hK => ?_) AllReadyH.nil
    clear hH
    go_simp
    go_wp2_with (go_at_call 14; refine (HSt.out _ HR.out).mono ?_; rintro en w3 ⟨rfl, hR3, hb3⟩)
    refine hK.out _ _ (Hsame.out w3 hR3) (fun hH => ?_)
    clear hK K hH
    refine wpAnyH_done (by kernel_rfl) ?_ _
    go_wp2
    go_end0
    exact ⟨rfl, hR3, Hb1.out.trans hb3⟩

set_option maxRecDepth 100000 in
set_option maxHeartbeats 2000000 in
theorem move_any (I : JobIface CJ) (h : RunAt CJ B xb jb j log shown w) (kind arg : Int) (ha : In64 arg) (hn : j.number < 4611686018427387904) :
    Calls Tryd.prog 6 #[.pointer (some ⟨xb, 0, none⟩), .agg #[.int .i64 kind, .int .i64 arg]] w fun en w' => en = .returned (.tuple #[]) ∧ RunAt CJ B xb jb (j.moveM kind arg) log shown w' ∧ Below B w w' := by
  unfold JobM.moveM
  by_cases h1 : kind = 1
  · subst h1
    rw [if_pos rfl]
    exact move_one I h arg ha
  · rw [if_neg h1]
    have hBw : B ≤ w.heap.size := Nat.le_trans h.ge (Nat.le_of_lt (heap_lt h.box))
    have hRa := h.old I ((Below.refl _ _).alloc (Nat.le_refl _) (.cells #[.int .i64 kind, .int .i64 arg] 28))
    have hba := (Below.refl B w).alloc hBw (.cells #[.int .i64 kind, .int .i64 arg] 28)
    have hk : (w.alloc (.cells #[.int .i64 kind, .int .i64 arg] 28)).cell? ⟨w.heap.size, 0, none⟩ = some (.int .i64 kind) := row_cell (heap_alloc_new w _) 0
    have c0 := hRa.cell0
    have HR := show Hid (_ ∧ _) from And.intro hRa hba
    clear hRa hba h
    have e1 : (kind == 1) = false := by rw [beq_eq_false_iff_ne]; exact h1
    by_cases h2 : kind = 2
    · subst h2
      rw [if_pos rfl]
      have HT := show Hid _ from fun (_ : Unit) => HR.out.1.trigger I hn
      generalize (j.trigger.1 : Int) = r1 at HT
      generalize (j.trigger.2.1 : Int) = r2 at HT
      generalize j.trigger.2.2 = j2 at HT ⊢
      go_enter Tryd.func6, Tryd.ntmps6
      go_wp2_with (go_at_call 15; refine (HT.out ()).mono ?_; rintro en w2 ⟨rfl, hR2, hb2⟩)
      go_end0
      exact ⟨rfl, hR2, HR.out.2.trans hb2⟩
    · rw [if_neg h2]
      have e2 : (kind == 2) = false := by rw [beq_eq_false_iff_ne]; exact h2
      by_cases h3 : kind = 3
      · subst h3
        rw [if_pos rfl]
        have HT := show Hid _ from fun (_ : Unit) => HR.out.1.fail I
        generalize j.fail = j2 at HT ⊢
        go_enter Tryd.func6, Tryd.ntmps6
        go_wp2_with (go_at_call 11; refine (HT.out ()).mono ?_; rintro en w2 ⟨rfl, hR2, hb2⟩)
        go_end0
        exact ⟨rfl, hR2, HR.out.2.trans hb2⟩
      · rw [if_neg h3]
        have e3 : (kind == 3) = false := by rw [beq_eq_false_iff_ne]; exact h3
        by_cases h5 : kind = 5
        · subst h5
          rw [if_pos rfl]
          have HT := show Hid _ from fun (_ : Unit) => round_any I HR.out.1
          generalize j.round = j2 at HT ⊢
          go_enter Tryd.func6, Tryd.ntmps6
          go_wp2_with (go_at_call 21; refine (HT.out ()).mono ?_; rintro en w2 ⟨rfl, hR2, hb2⟩)
          go_end0
          exact ⟨rfl, hR2, HR.out.2.trans hb2⟩
        · rw [if_neg h5]
          have e5 : (kind == 5) = false := by rw [beq_eq_false_iff_ne]; exact h5
          go_enter Tryd.func6, Tryd.ntmps6
          go_wp2
          go_end0
          exact ⟨rfl, HR.out.1, HR.out.2⟩

set_option maxRecDepth 100000 in
set_option maxHeartbeats 2000000 in
theorem exact_any (I : JobIface CJ) (h : RunAt CJ B xb jb j log shown w) (ht : Tab w) (hl : log.size ≤ 400) (m : Nat) (hp : Parsed log j.events m) (hs : shown ≤ j.base) :
    Calls Tryd.prog 16 #[.pointer (some ⟨xb, 0, none⟩)] w fun en w' => en = .returned (.bool true) ∧ RunAt CJ B xb jb j log j.base w' ∧ Below B w w' := by
  have hf := ((h.width I).1).1
  have hbn : j.base ≤ j.events.length := Nat.le_trans hf.base hf.sent
  have hBx := h.ge
  have hxl := heap_lt h.box
  have hBw : B ≤ w.heap.size := Nat.le_trans h.ge (Nat.le_of_lt hxl)
  have HO := show Hid _ from fun (w : World) (h : RunAt CJ B xb jb j log shown w) => (show Calls Tryd.prog 10 #[.pointer (some ⟨jb, 0, none⟩)] w fun en w' => en = .returned (.int .i64 (j.base : Int)) ∧ RunAt CJ B xb jb j log shown w' ∧ Below w.heap.size w w' from by
    obtain ⟨X, hX, _, _⟩ := h.job
    exact (I.offset hX).mono fun en w' ⟨h1, h2⟩ => ⟨h1, h.old I h2, h2⟩)
  have HV := show Hid _ from fun (w : World) (h : RunAt CJ B xb jb j log shown w) (ht : Tab w) => (show Calls Tryd.prog 8 #[.pointer (some ⟨jb, 0, none⟩)] w fun en w' => en = .returned (.string ⟨(foldB (j.events.take j.base)).toArray⟩) ∧ RunAt CJ B xb jb j log shown w' ∧ Below w.heap.size w w' from by
    obtain ⟨X, hX, _, _⟩ := h.job
    exact (I.view hX ht).mono fun en w' ⟨h1, h2⟩ => ⟨h1, h.old I h2, h2⟩)
  have HF := show Hid _ from fun (w : World) (h : RunAt CJ B xb jb j log shown w) (ht : Tab w) => (show Calls Tryd.prog 28 #[.string log, .int .i64 (j.base : Int)] w fun en w' => en = .returned (.tuple #[.string ⟨(foldB (j.events.take j.base)).toArray⟩, .int .i64 0]) ∧ RunAt CJ B xb jb j log shown w' ∧ Below w.heap.size w w' from
    (cfold_of (fold_ok log j.base w hl j.events m hp hbn ht)).mono fun en w' ⟨h1, h2⟩ => ⟨h1, h.old I h2, h2⟩)
  have HR := show Hid (_ ∧ _) from And.intro h ht
  have c0 := h.cell0
  clear h ht hp
  have hsi : (shown : Int) ≤ (j.base : Int) := by omega
  have hbi : (j.base : Int) ≤ (j.events.length : Int) := by omega
  have Hset : Hid (∀ wx, RunAt CJ B xb jb j log shown wx → RunAt CJ B xb jb j log j.base (wx.setCell ⟨xb, 4, none⟩ (.int .i64 (j.base : Int))) ∧ Below B wx (wx.setCell ⟨xb, 4, none⟩ (.int .i64 (j.base : Int)))) := fun wx hx => by
    obtain ⟨X, hX, hxx, hXB⟩ := hx.job
    have hfr : FrmX (fun g => g = xb) wx (wx.setCell ⟨xb, 4, none⟩ (.int .i64 (j.base : Int))) := FrmX.set (X := fun g => g = xb) (FrmX.refl _ wx) (fun _ => rfl) 4 _
    refine ⟨⟨⟨X, I.frm hX hfr (fun g hg e => hxx (e ▸ hg)), hxx, hXB⟩, ?_, hx.ge⟩, hfr.below (Nat.le_trans hx.ge (Nat.le_of_lt (heap_lt hx.box))) (fun g hg => by rw [hg]; exact hx.ge)⟩
    have := row_set (j := 4) hx.box (.int .i64 (j.base : Int))
    exact this
  generalize (⟨(foldB (j.events.take j.base)).toArray⟩ : ByteArray) = F at HV HF
  have Hbox := show Hid (∀ wx, RunAt CJ B xb jb j log shown wx → wx.heap[xb]? = some (.cells #[.pointer (some ⟨jb, 0, none⟩), .int .i64 (j.width : Int), .string log, .int .i64 (j.events.length : Int), .int .i64 (shown : Int)] 32 (0, 0))) from fun wx hx => hx.box
  generalize j.base = bs at *
  go_enter Tryd.func16, Tryd.ntmps16
  go_wp2_with fail
  refine (HO.out w HR.out.1).mono ?_
  rintro en w1 ⟨rfl, hR1, hb1⟩
  have c0' := hR1.cell0
  have HR1 := show Hid (_ ∧ _ ∧ _) from And.intro hR1 (And.intro (HR.out.2.old hb1) (hb1.mono hBw))
  clear hR1 hb1 c0
  go_wp2_with fail
  refine (HV.out w1 HR1.out.1 HR1.out.2.1).mono ?_
  rintro en w2 ⟨rfl, hR2, hb2⟩
  have c2 : w2.cell? ⟨xb, 2, none⟩ = some (.string log) := row_cell hR2.box 2
  have HR2 := show Hid (_ ∧ _ ∧ _) from And.intro hR2 (And.intro (HR1.out.2.1.old hb2) (HR1.out.2.2.trans (hb2.mono (Nat.le_trans hBw HR1.out.2.2.size))))
  clear hR2 hb2 c0'
  go_wp2_with fail
  refine (HF.out w2 HR2.out.1 HR2.out.2.1).mono ?_
  rintro en w3 ⟨rfl, hR3, hb3⟩
  have c4 : w3.cell? ⟨xb, 4, none⟩ = some (.int .i64 (shown : Int)) := row_cell (Hbox.out w3 hR3) 4
  have c3 : w3.cell? ⟨xb, 3, none⟩ = some (.int .i64 (j.events.length : Int)) := row_cell (Hbox.out w3 hR3) 3
  have z4 : w3.frozen? ⟨xb, 4, none⟩ = false := row_frozen (Hbox.out w3 hR3) 4
  have HR3 := show Hid (_ ∧ _) from And.intro (Hset.out w3 hR3) (HR2.out.2.2.trans (hb3.mono (Nat.le_trans hBw HR2.out.2.2.size)))
  clear hR3 hb3 c2 HR HR1 HR2 HO HV HF Hset Hbox
  have hFF : (F.toList == F.toList) = true := by simp
  go_wp2
  go_ret
  exact ⟨rfl, HR3.out.1.1, HR3.out.2.trans HR3.out.1.2⟩
end

end Go.Proofs.YthccpacmklhejabDoor

namespace Go.Proofs.YthccpacmklhejabDoor
open Go.RowKit

/-- No record begins with a zero. -/
theorem stop_zero (l : List UInt8) : Stop (0 :: l) := by
  right
  unfold firstS
  split
  · rfl
  · split
    · rename_i h
      exfalso
      have := (key_le h.1).2.2.1
      have h0 : (evAt ⟨(0 :: l).toArray⟩).op = 0 := rfl
      rw [h0] at this
      omega
    · rfl

theorem parsed_zero {s : ByteArray} {es : List Ev} (hg : ∀ e ∈ es, Good e) (h : s.data.toList = recs es) (t : ByteArray) : Parsed (s ++ ⟨#[0]⟩ ++ t) es s.size := by
  have hl : (s ++ ⟨#[0]⟩ ++ t).data.toList = s.data.toList ++ 0 :: t.data.toList := by
    rw [ByteArray.data_append, ByteArray.data_append]
    simp
  refine ⟨hg, ?_, ?_, ?_⟩
  · rw [hl, List.take_append_of_le_length (by rw [size_list]; exact Nat.le_refl _), ← size_list, List.take_length, h]
  · rw [ByteArray.size_append, ByteArray.size_append]; omega
  · rw [hl, List.drop_append_of_le_length (by rw [size_list]; exact Nat.le_refl _), ← size_list, List.drop_length]
    exact stop_zero _

section
variable {CJ : CJT}

/-- A job, and a list of numbers beside it. -/
structure ListAt (CJ : CJT) (B tb jb : Nat) (j : JobM) (ls : List Int) (w : World) : Prop where
  job : ∃ X, CJ X w jb j ∧ ¬ X tb ∧ ∀ g, X g → B ≤ g
  box : w.heap[tb]? = some (.cells (ls.map (Value.int .i64)).toArray 3 (0, 0))
  ge : B ≤ tb

theorem ListAt.step (I : JobIface CJ) {B tb jb : Nat} {j : JobM} {ls : List Int} {w : World} (h : ListAt CJ B tb jb j ls w) (t : Int) (h1 : -9223372036854775808 ≤ t) (h2 : t ≤ 9223372036854775807) :
    Calls Tryd.prog 14 #[.pointer (some ⟨jb, 0, none⟩), .int .i64 t] w fun en w' => en = .returned (.int .i64 ((j.step t).1 : Int)) ∧ ListAt CJ B tb jb (j.step t).2 ls w' ∧ Below B w w' := by
  obtain ⟨X, hX, hx, hB⟩ := h.job
  refine (I.step hX t h1 h2).mono ?_
  rintro en w' ⟨h1, X', a1, a2, a3⟩
  have hxl := heap_lt h.box
  have hBw : B ≤ w.heap.size := Nat.le_trans h.ge (Nat.le_of_lt hxl)
  refine ⟨h1, ⟨⟨X', a1, fun hc => ?_, fun g hg => ?_⟩, a2.block h.box hx, h.ge⟩, a2.below hBw hB⟩
  · rcases a3 tb hc with h4 | h4
    · exact hx h4
    · omega
  · rcases a3 g hg with h4 | h4
    · exact hB g h4
    · omega

theorem ListAt.cell {B tb jb : Nat} {j : JobM} {ls : List Int} {w : World} (h : ListAt CJ B tb jb j ls w) (i : Nat) (hi : i < ls.length) : w.cell? ⟨tb, i, none⟩ = some (.int .i64 ls[i]) := by
  refine (row_cell h.box i).trans ?_
  simp [hi]

def wksA : List Int := [0, 1, 0, 2, 1, 2]
def wksB : List Int := [0, 1, 2, 3, 3]
def stepsL (j : JobM) (l : List Int) : JobM := l.foldl (fun j t => (j.step t).2) j
def jA (i : Nat) : JobM := stepsL (newJ 1 1 evOne) (wksA.take i)
def jB (i : Nat) : JobM := stepsL (jA 6).trigger.2.2 (wksB.take i)

theorem stepsL_snoc (j : JobM) (l : List Int) (t : Int) : stepsL j (l ++ [t]) = ((stepsL j l).step t).2 := by
  unfold stepsL
  rw [List.foldl_append]
  rfl

theorem jA_succ (i : Nat) (h : i < wksA.length) : jA (i + 1) = ((jA i).step wksA[i]).2 := by
  unfold jA
  rw [List.take_succ_eq_append_getElem h, stepsL_snoc]
theorem jB_succ (i : Nat) (h : i < wksB.length) : jB (i + 1) = ((jB i).step wksB[i]).2 := by
  unfold jB
  rw [List.take_succ_eq_append_getElem h, stepsL_snoc]

theorem jA_ok : ∀ i : Fin 6, ((jA i.val).step (wksA[i.val]'i.isLt)).1 = 0 := by decide +kernel
theorem jB_ok : ∀ i : Fin 5, ((jB i.val).step (wksB[i.val]'i.isLt)).1 = 0 := by decide +kernel
theorem jA_num : (jA 6).number = 0 ∧ (jA 6).trigger.1 = 1 ∧ (jA 6).trigger.2.1 = 0 := by decide +kernel
theorem jB_base : (jB 5).base = 2 := by decide +kernel
theorem jB_events : (jB 5).events = evOne := by
  have h : ∀ (l : List Int) (j : JobM), SameJ j (stepsL j l) := by
    intro l
    induction l with
    | nil => exact fun j => SameJ.refl j
    | cons t l ih => exact fun j => (same_step j t).trans (ih _)
  have h2 := ((h (wksA.take 6) (newJ 1 1 evOne)).trans (same_trigger _)).trans (h (wksB.take 5) _)
  exact h2.events

end

end Go.Proofs.YthccpacmklhejabDoor
