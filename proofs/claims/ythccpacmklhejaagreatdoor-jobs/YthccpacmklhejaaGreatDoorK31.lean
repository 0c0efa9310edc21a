/-
  Several texts in one.
-/
import Derived.Test.YthccpacmklhejaaGreatDoorK30
import Derived.Test.YthccpacmklhejaaGreatDoorK20
namespace Go.Proofs.YthccpacmklhejaaGreatDoor
open Go.RowKit

section
variable {CJ RJ : CJT} {f : Owners} {W : World} {wb : Nat} {v : Nat → Value} {xs : Nat → List Value} {n : Nat → Nat} {js : List JE} {is : List IEnt} {es : List EEnt} {cnt : Nat}

/-- What keepEvents keeps up from step to step; mb: the mark's block, which nobody owns. -/
structure KE (CJ RJ : CJT) (W0 W : World) (wb : Nat) (js : List JE) (is : List IEnt) (E : List EEnt) (cnt k : Nat) (m : Ev) (l : Value) (ln : Nat) (v3 v5 : Value) (x3 x5 : List Value) (n3 n5 mb : Nat) : Prop where
  ex : ∃ f v xs n, LInv CJ RJ f W wb v xs n js is E cnt ∧ v 3 = v3 ∧ v 5 = v5 ∧ xs 3 = x3 ∧ xs 5 = x5 ∧ n 3 = n3 ∧ n 5 = n5 ∧ (n 0 = js.length ∧ n 1 = js.length ∧ n 2 = is.length ∧ n 4 = is.length ∧ xs 0 = js.map JE.pv ∧ xs 1 = js.map JE.rv ∧ xs 2 = is.map IEnt.v ∧ xs 4 = is.map fun x => .int .i64 x.m) ∧ OwnR f W 41 4 (4 * k + 3) l ln (rep ln (evCells1 m)) ∧ f mb = none
  hk : k < cnt
  own : ∀ x ∈ E, x.k = k → x.m = m ∧ x.n ≤ ln
  oth : ∀ x ∈ is, x.k ≠ k
  bel : Below wb W0 W
  mbox : W.heap[mb]? = some (.cells #[.int .u8 (m.op : Int), .string m.key, .int .u16 (m.seq : Int), .int .i16 m.val] 41 (0, 0))

theorem free_frm {f : Owners} {S : Nat → Prop} {w w' : World} {g : Nat} {o : Obj} (h : w.heap[g]? = some o) (hf : FrmO f S w w') (hg : f g = none) : w'.heap[g]? = some o :=
  (hf.keep g (heap_lt h) fun c hc => by rw [hg] at hc; cases hc).trans h

variable {W0 : World} {E : List EEnt} {k : Nat} {m : Ev} {v3 v5 : Value} {x3 x5 : List Value} {n3 n5 mb : Nat}

theorem KE.shape2 {l : Value} {ln : Nat} (h : KE CJ RJ W0 W wb js is E cnt k m l ln v3 v5 x3 x5 n3 n5 mb) : W.ownsRow 0 35 1 v3 n3 x3 ∧ W.ownsRow 0 41 4 v5 n5 x5 ∧ W.ownsRow 0 41 4 l ln (rep ln (evCells1 m)) ∧ W.cell? ⟨wb, 3, none⟩ = some v3 ∧ W.cell? ⟨wb, 5, none⟩ = some v5 := by
  obtain ⟨f, v, xs, n, h1, rfl, rfl, rfl, rfl, rfl, rfl, _, h9, _⟩ := h.ex
  exact ⟨(h1.rows 3 (by decide)).row, (h1.rows 5 (by decide)).row, h9.row, h1.cellAt 3 (by decide), h1.cellAt 5 (by decide)⟩

/-- A world where all that was there is as it was. -/
theorem KE.old (KC : KeepsJ CJ) (KR : KeepsJ RJ) {l : Value} {ln : Nat} (h : KE CJ RJ W0 W wb js is E cnt k m l ln v3 v5 x3 x5 n3 n5 mb) {W' : World} (hb : Below W.heap.size W W') : KE CJ RJ W0 W' wb js is E cnt k m l ln v3 v5 x3 x5 n3 n5 mb := by
  obtain ⟨f, v, xs, n, h1, rfl, rfl, rfl, rfl, rfl, rfl, hr, h9, hm⟩ := h.ex
  have hf : FrmO f (fun _ => False) W W' := .of_below hb
  exact ⟨⟨f, v, xs, n, h1.old KC KR hb, rfl, rfl, rfl, rfl, rfl, rfl, hr, h9.frm hf (Same.refl _ _) id, hm⟩, h.hk, h.own, h.oth, h.bel.trans (h1.below hf), free_frm h.mbox hf hm⟩

/-- w.events = append(w.events, l). -/
theorem KE.stepA (KC : KeepsJ CJ) (KR : KeepsJ RJ) {la : Option Addr} {ln lc : Nat} (h : KE CJ RJ W0 W wb js is E cnt k m (.slice la ln lc) ln v3 v5 x3 x5 n3 n5 mb) {wa w5 : World} {v' : Value} (hba : Below W.heap.size W wa) (hrow : w5.ownsRow 0 35 1 v' (n3 + 1) (x3 ++ [.slice la ln lc])) (happ : AppQ wa w5 v3 v') :
    w5.cell? ⟨wb, 3, none⟩ = some v3 ∧ w5.frozen? ⟨wb, 3, none⟩ = false ∧ KE CJ RJ W0 (w5.setCell ⟨wb, 3, none⟩ v') wb js is E cnt k m (.slice la ln lc) ln v' v5 (x3 ++ [.slice la ln lc]) x5 (n3 + 1) n5 mb := by
  obtain ⟨f, v, xs, n, h1, rfl, rfl, rfl, rfl, rfl, rfl, hr, h9, hm⟩ := h.ex
  obtain ⟨a1, a2, f', a3, a4, a5⟩ := h1.app KC KR 3 (by decide) (m := 1) hba hrow happ
  refine ⟨a1, a2, ⟨f', _, _, _, a3, upd_self _ _ _, upd_ne _ _ (by decide), upd_self _ _ _, upd_ne _ _ (by decide), upd_self _ _ _, upd_ne _ _ (by decide), ?_, h9.frm a4 a5 (by omega), (a5 mb (heap_lt h.mbox)).trans hm⟩, h.hk, h.own, h.oth, h.bel.trans (h1.below a4), free_frm h.mbox a4 hm⟩
  simp only [upd_ne _ _ (show (0 : Nat) ≠ 3 by decide), upd_ne _ _ (show (1 : Nat) ≠ 3 by decide), upd_ne _ _ (show (2 : Nat) ≠ 3 by decide), upd_ne _ _ (show (4 : Nat) ≠ 3 by decide)]
  exact hr

/-- w.m2 = append(w.m2, m); the list is known from now on. -/
theorem KE.stepB (KC : KeepsJ CJ) (KR : KeepsJ RJ) {la : Option Addr} {ln lc : Nat} (h : KE CJ RJ W0 W wb js is E cnt k m (.slice la ln lc) ln v3 v5 x3 x5 n3 n5 mb) (hln : ln ≤ 1000) {wa w5 : World} {v' : Value} (hba : Below W.heap.size W wa) (hrow : w5.ownsRow 0 41 4 v' (n5 + 1) (x5 ++ evCells1 m)) (happ : AppQ wa w5 v5 v') :
    w5.cell? ⟨wb, 5, none⟩ = some v5 ∧ w5.frozen? ⟨wb, 5, none⟩ = false ∧ w5.heap[mb]? = some (.cells #[.int .u8 (m.op : Int), .string m.key, .int .u16 (m.seq : Int), .int .i16 m.val] 41 (0, 0)) ∧ KE CJ RJ W0 (w5.setCell ⟨wb, 5, none⟩ v') wb js is (E ++ [⟨la, ln, lc, m, k⟩]) cnt k m (.slice la ln lc) ln v3 v' x3 (x5 ++ evCells1 m) n3 (n5 + 1) mb := by
  obtain ⟨f, v, xs, n, h1, rfl, rfl, rfl, rfl, rfl, rfl, hr, h9, hm⟩ := h.ex
  obtain ⟨a1, a2, f', a3, a4, a5⟩ := h1.app KC KR 5 (by decide) (m := 1) hba hrow happ
  have h9' := h9.frm a4 a5 (by omega)
  have a6 := a3.addE ⟨la, ln, lc, m, k⟩ h.hk hln (HoldsG.of_own h9')
  have hmw : mb ≠ wb := fun e => by rw [e, h1.obox] at hm; cases hm
  have hm5 : w5.heap[mb]? = some (.cells #[.int .u8 (m.op : Int), .string m.key, .int .u16 (m.seq : Int), .int .i16 m.val] 41 (0, 0)) := by
    have := free_frm h.mbox a4 hm
    rw [Below.heap_setCell _ _ _ _ hmw] at this
    exact this
  refine ⟨a1, a2, hm5, ⟨f', _, _, _, a6, upd_ne _ _ (by decide), upd_self _ _ _, upd_ne _ _ (by decide), upd_self _ _ _, upd_ne _ _ (by decide), upd_self _ _ _, ?_, h9', (a5 mb (heap_lt h.mbox)).trans hm⟩, h.hk, fun x hx => ?_, h.oth, h.bel.trans (h1.below a4), free_frm h.mbox a4 hm⟩
  · simp only [upd_ne _ _ (show (0 : Nat) ≠ 5 by decide), upd_ne _ _ (show (1 : Nat) ≠ 5 by decide), upd_ne _ _ (show (2 : Nat) ≠ 5 by decide), upd_ne _ _ (show (4 : Nat) ≠ 5 by decide)]
    exact hr
  · rcases List.mem_append.1 hx with hx | hx
    · exact h.own x hx
    · simp only [List.mem_cons, List.not_mem_nil, or_false] at hx
      subst hx
      exact fun _ => ⟨rfl, Nat.le_refl _⟩

/-- g := append(l, m). -/
theorem KE.stepC (KC : KeepsJ CJ) (KR : KeepsJ RJ) {l : Value} {ln : Nat} (h : KE CJ RJ W0 W wb js is E cnt k m l ln v3 v5 x3 x5 n3 n5 mb) {wa w5 : World} {l' : Value} (hba : Below W.heap.size W wa) (hrow : w5.ownsRow 0 41 4 l' (ln + 1) (rep ln (evCells1 m) ++ evCells1 m)) (happ : AppQ wa w5 l l') :
    KE CJ RJ W0 w5 wb js is E cnt k m l' (ln + 1) v3 v5 x3 x5 n3 n5 mb := by
  obtain ⟨f, v, xs, n, h1, rfl, rfl, rfl, rfl, rfl, rfl, hr, h9, hm⟩ := h.ex
  obtain ⟨f', a3, a4, a5, a6⟩ := h1.growE KC KR hba h9 hrow happ h.own h.oth
  exact ⟨⟨f', v, xs, n, a3, rfl, rfl, rfl, rfl, rfl, rfl, hr, a4, (a6 mb (heap_lt h.mbox)).trans hm⟩, h.hk, fun x hx e => ⟨(h.own x hx e).1, by have := (h.own x hx e).2; omega⟩, h.oth, h.bel.trans (h1.below a5), free_frm h.mbox a5 hm⟩

set_option maxRecDepth 100000 in
set_option maxHeartbeats 4000000 in
theorem lkeepEvents_any (KC : KeepsJ CJ) (KR : KeepsJ RJ) (h : LInv CJ RJ f W wb v xs n js is es cnt) (hR : LRest xs n js is es) (la : Option Addr) (ln lc : Nat) (ys : List Ev) (hyl : ys.length = ln) (hl : OwnR f W 41 4 (4 * cnt + 3) (.slice la ln lc) ln (evCells ys)) (hln : ln ≤ 900) (hcnt : cnt ≤ 2000000000000) (hlen : es.length ≤ 6400000000000) :
    Calls Tryz.prog 39 #[.pointer (some ⟨wb, 0, none⟩), .slice la ln lc] W fun e w' => e = .returned (.tuple #[]) ∧ ∃ f' v' xs' n' es', LInv CJ RJ f' w' wb v' xs' n' js is es' (cnt + 1) ∧ LRest xs' n' js is es' ∧ es'.length = es.length + 4 ∧ Below wb W w' := by
  have b6 := h.cell6
  have f6 : W.frozen? ⟨wb, 6, none⟩ = false := row_frozen h.box 6
  obtain ⟨hc1, hc2⟩ := h.count KC KR
  have hlo : ∀ x ∈ is, x.k < cnt := fun x hx => (h.hi x hx).1
  have hle : ∀ x ∈ es, x.k < cnt := fun x hx => (h.he x hx).1
  have HM := show Hid (Calls Tryz.prog 65 #[.pointer (some ⟨wb, 0, none⟩)] W fun e w' => e = .returned (.int .i64 (-((cnt : Int) + 1))) ∧ ∃ f1, LInv CJ RJ f1 w' wb v xs n js is es (cnt + 1) ∧ OwnR f1 w' 41 4 (4 * cnt + 3) (.slice la ln lc) ln (evCells ys) ∧ Below wb W w' ∧ f1 w'.heap.size = none) from by
    refine (mark_any W wb cnt b6 f6 (by omega)).mono ?_
    rintro e w1 ⟨rfl, rfl⟩
    obtain ⟨f1, hf1⟩ : ∃ f1 : Owners, f1 = fun g => if g < (W.setCell ⟨wb, 6, none⟩ (.int .i64 ((cnt : Int) + 1))).heap.size then f g else none := ⟨_, rfl⟩
    have hs : Same (W.setCell ⟨wb, 6, none⟩ (.int .i64 ((cnt : Int) + 1))).heap.size f f1 := fun g hg => by rw [hf1]; simp only [if_pos hg]
    refine ⟨rfl, f1, hc1.keep KC KR (FrmO.refl _ (fun _ => False) _) hs (fun _ h => h), (hl.frm hc2 (Same.refl _ _) (by omega)).frm (FrmO.refl _ (fun _ => False) _) hs id, h.below hc2, ?_⟩
    rw [hf1]
    simp
  have HR := show Hid _ from hR
  have HY := show Hid (ys.length = ln) from hyl
  have HLO := show Hid (_ ∧ _) from And.intro hlo hle
  obtain ⟨i0, hi0, hz0, hz1, hz2⟩ := info_parts Tryz.infoSl
  obtain ⟨i1, hi1, hy0, hy1, hy2⟩ := info_parts Tryz.infoEv
  clear h hl b6 f6 hc1 hc2 hlo hle hR hyl
  go_enter Tryz.func39, Tryz.ntmps39
  go_wp2_with fail
  refine HM.out.mono ?_
  rintro e w1 ⟨rfl, f1, hI, hl, hb1, hfree⟩
  clear HM
  obtain ⟨sq, hsq⟩ : ∃ sq : Nat, IntKind.u16.wrap (-((cnt : Int) + 1)) = (sq : Int) := ⟨((-((cnt : Int) + 1)) % 65536).toNat, by rw [IntKind.wrap_u16]; omega⟩
  obtain ⟨vl, hvl⟩ : ∃ vl : Int, IntKind.i16.wrap (wrap64 (-((cnt : Int) + 1).tdiv 65536)) = vl := ⟨_, rfl⟩
  have H0 := show Hid (LInv CJ RJ f1 (w1.alloc (.cells #[.int .u8 7, .string ⟨#[109, 97, 114, 107]⟩, .int .u16 (sq : Int), .int .i16 vl] 41)) wb v xs n js is es (cnt + 1) ∧ OwnR f1 (w1.alloc (.cells #[.int .u8 7, .string ⟨#[109, 97, 114, 107]⟩, .int .u16 (sq : Int), .int .i16 vl] 41)) 41 4 (4 * cnt + 3) (.slice la ln lc) ln (evCells ys) ∧ Below wb W (w1.alloc (.cells #[.int .u8 7, .string ⟨#[109, 97, 114, 107]⟩, .int .u16 (sq : Int), .int .i16 vl] 41)) ∧ (w1.alloc (.cells #[.int .u8 7, .string ⟨#[109, 97, 114, 107]⟩, .int .u16 (sq : Int), .int .i16 vl] 41)).heap[w1.heap.size]? = some (.cells #[.int .u8 7, .string ⟨#[109, 97, 114, 107]⟩, .int .u16 (sq : Int), .int .i16 vl] 41 (0, 0)) ∧ f1 w1.heap.size = none) from by
    have hbA := (Below.refl w1.heap.size w1).alloc (Nat.le_refl _) (.cells #[.int .u8 7, .string ⟨#[109, 97, 114, 107]⟩, .int .u16 (sq : Int), .int .i16 vl] 41)
    have hfA : FrmO f1 (fun _ => False) w1 (w1.alloc (.cells #[.int .u8 7, .string ⟨#[109, 97, 114, 107]⟩, .int .u16 (sq : Int), .int .i16 vl] 41)) := .of_below hbA
    exact ⟨hI.old KC KR hbA, hl.frm hfA (Same.refl _ _) id, hb1.trans (hI.below hfA), heap_alloc_new w1 _, hfree⟩
  clear hI hl hb1 hfree
  go_wp2
  clear hsq hvl
  generalize (w1.alloc (.cells #[.int .u8 7, .string ⟨#[109, 97, 114, 107]⟩, .int .u16 (sq : Int), .int .i16 vl] 41)) = w2 at H0 ⊢
  generalize w1.heap.size = mb at H0 ⊢
  go_loopw [6] (fun i wr => ∃ k : Nat, k ≤ ln ∧ i = .int .i64 (k : Int) ∧ LInv CJ RJ f1 wr wb v xs n js is es (cnt + 1) ∧ OwnR f1 wr 41 4 (4 * cnt + 3) (.slice la ln lc) ln (evCells (List.replicate k ⟨7, ⟨#[109, 97, 114, 107]⟩, sq, vl⟩ ++ ys.drop k)) ∧ Below wb W wr ∧ wr.heap[mb]? = some (.cells #[.int .u8 7, .string ⟨#[109, 97, 114, 107]⟩, .int .u16 (sq : Int), .int .i16 vl] 41 (0, 0)) ∧ f1 mb = none) (fun i _ => ln - (intOf i).toNat)
  case atStart => exact ⟨0, Nat.zero_le _, rfl, H0.out.1, by simpa using H0.out.2.1, H0.out.2.2.1, H0.out.2.2.2.1, H0.out.2.2.2.2⟩
  case round =>
    obtain ⟨k, hk, rfl, hI, hl, hb, hmr, hfree⟩ := hrel
    clear H0
    by_cases hkl : k < ln
    · have hlr := hl.row
      rcases own_addr hlr with ⟨_, h0⟩ | ⟨g, rfl⟩
      · omega
      have og : f1 g = some (4 * cnt + 3) := hl.own g rfl
      have hkl2 : k < ys.length := by rw [HY.out]; exact hkl
      have hc0 : wr.cell? ⟨mb, 0, none⟩ = some (.int .u8 7) := box_cell hmr 0
      have hc1 : wr.cell? ⟨mb, 1, none⟩ = some (.string ⟨#[109, 97, 114, 107]⟩) := box_cell hmr 1
      have hc2 : wr.cell? ⟨mb, 2, none⟩ = some (.int .u16 (sq : Int)) := box_cell hmr 2
      have hc3 : wr.cell? ⟨mb, 3, none⟩ = some (.int .i16 vl) := box_cell hmr 3
      have hat := evCells_at (List.replicate k ⟨7, ⟨#[109, 97, 114, 107]⟩, sq, vl⟩ ++ ys.drop k) k (by simp; omega)
      have r1 := (hlr.stored (k * 4) (.int .u8 7))
      have r2 := (r1.1.stored (k * 4 + 1) (.string ⟨#[109, 97, 114, 107]⟩))
      have r3 := (r2.1.stored (k * 4 + 2) (.int .u16 (sq : Int)))
      have r4 := (r3.1.stored (k * 4 + 3) (.int .i16 vl))
      have q0 := (hlr.cellAt (k * 4) (by omega)).trans hat.1
      have q1 := (r1.1.cellAt (k * 4 + 1) (by omega)).trans ((List.getElem?_set_ne (by omega)).trans hat.2.1)
      have q2 := (r2.1.cellAt (k * 4 + 2) (by omega)).trans ((List.getElem?_set_ne (by omega)).trans ((List.getElem?_set_ne (by omega)).trans hat.2.2.1))
      have q3 := (r3.1.cellAt (k * 4 + 3) (by omega)).trans ((List.getElem?_set_ne (by omega)).trans ((List.getElem?_set_ne (by omega)).trans ((List.getElem?_set_ne (by omega)).trans hat.2.2.2)))
      have f0 := hlr.frozenAt (k * 4)
      have f1' := r1.1.frozenAt (k * 4 + 1)
      have f2 := r2.1.frozenAt (k * 4 + 2)
      have f3 := r3.1.frozenAt (k * 4 + 3)
      have hrow := r4.1
      have e4 : ((((evCells (List.replicate k ⟨7, ⟨#[109, 97, 114, 107]⟩, sq, vl⟩ ++ ys.drop k)).set (k * 4) (.int .u8 7)).set (k * 4 + 1) (.string ⟨#[109, 97, 114, 107]⟩)).set (k * 4 + 2) (.int .u16 (sq : Int))).set (k * 4 + 3) (.int .i16 vl) = evCells (List.replicate (k + 1) ⟨7, ⟨#[109, 97, 114, 107]⟩, sq, vl⟩ ++ ys.drop (k + 1)) := fill_list ⟨7, ⟨#[109, 97, 114, 107]⟩, sq, vl⟩ ys k hkl2
      rw [e4] at hrow
      have one : ∀ (o : Nat) (u : Value) (w : World), FrmO f1 (fun c => c = 4 * cnt + 3) w (w.setCell ⟨g, o, none⟩ u) := fun o u w => FrmO.of_set (S := fun c => c = 4 * cnt + 3) og rfl _
      have hfr := (((one (k * 4) (.int .u8 7) wr).trans (Same.refl _ _) (one (k * 4 + 1) (.string ⟨#[109, 97, 114, 107]⟩) _)).trans (Same.refl _ _) (one (k * 4 + 2) (.int .u16 (sq : Int)) _)).trans (Same.refl _ _) (one (k * 4 + 3) (.int .i16 vl) _)
      have hki : (k : Int) < (ln : Int) := by omega
      have hk0 : (0 : Int) ≤ (k : Int) := by omega
      have HN := show Hid (_ ∧ _ ∧ _ ∧ _) from And.intro (hI.other KC KR hfr (Same.refl _ _) (fun x hx => by have := HLO.out.1 x hx; omega) (fun x hx => by have := HLO.out.2 x hx; omega)) (And.intro (OwnR.mk hrow hl.own) (And.intro (hb.trans (hI.below hfr)) (free_frm hmr hfr hfree)))
      have Hfree := show Hid (f1 mb = none) from hfree
      clear hI hl hlr r1 r2 r3 r4 hat e4 hrow hb hmr hfr one og hfree
      go_wp2
      go_roundw
      case rel => exact ⟨k + 1, by omega, by go_num, HN.out.1, HN.out.2.1, HN.out.2.2.1, HN.out.2.2.2, Hfree.out⟩
      case measure => simp [intOf]; omega
    · have hkk : k = ln := by omega
      subst hkk
      rw [List.drop_eq_nil_of_le (by rw [HY.out]; exact Nat.le_refl _), List.append_nil, ← rep_evs] at hl
      have HK := show Hid (KE CJ RJ W wr wb js is es (cnt + 1) cnt ⟨7, ⟨#[109, 97, 114, 107]⟩, sq, vl⟩ (.slice la k lc) k (v 3) (v 5) (es.map EEnt.v) (evCells (es.map EEnt.m)) es.length es.length mb) from
        ⟨⟨f1, v, xs, n, hI, rfl, rfl, HR.out.x3, HR.out.x5, HR.out.n3, HR.out.n5, ⟨HR.out.n0, HR.out.n1, HR.out.n2, HR.out.n4, HR.out.x0, HR.out.x1, HR.out.x2, HR.out.x4⟩, hl, hfree⟩, Nat.lt_succ_self _, fun x hx e => by have := HLO.out.2 x hx; omega, fun x hx => by have := HLO.out.1 x hx; omega, hb, hmr⟩
      clear hI hl hb HY HLO HR hmr hfree
      go_wp2
      go_loopw [1, 7] (fun s1 i wr => ∃ (j : Nat) (E : List EEnt) (la' : Option Addr) (lc' : Nat) (v3 v5 : Value), j ≤ 4 ∧ i = .int .i64 (j : Int) ∧ s1 = .slice la' (k + j) lc' ∧ E.length = es.length + j ∧ KE CJ RJ W wr wb js is E (cnt + 1) cnt ⟨7, ⟨#[109, 97, 114, 107]⟩, sq, vl⟩ (.slice la' (k + j) lc') (k + j) v3 v5 (E.map EEnt.v) (evCells (E.map EEnt.m)) E.length E.length mb) (fun _ i _ => 4 - (intOf i).toNat)
      case atStart => exact ⟨0, es, la, lc, v 3, v 5, Nat.zero_le _, rfl, rfl, rfl, HK.out⟩
      case round =>
        obtain ⟨j, E, la', lc', v3, v5, hj, rfl, rfl, hEl, hK⟩ := hrel
        clear HK
        by_cases hj4 : j < 4
        · have hji : (j : Int) < 4 := by omega
          obtain ⟨r3, r5, rl, c3, c5⟩ := hK.shape2
          obtain ⟨a3, d3, rfl⟩ := own_shape r3
          obtain ⟨a5, d5, rfl⟩ := own_shape r5
          have HK := show Hid _ from hK
          clear hK rl c5
          have hE1 : E.length ≤ 6400000000004 := by omega
          generalize hEL : E.length = el at r3 r5 c3 HK
          have HEL := show Hid _ from hEL
          rw [hEL] at hE1 hEl
          clear hEL
          have HEl := show Hid _ from hEl
          clear hEl r5
          have HR3 := show Hid _ from r3
          clear r3
          go_wp2_with (first
            | (at_builtin; refine wpList_append_two _ rfl (.tmp 35) (.tmp 37) 33 rfl 0 35 i0 (.slice none 0 0) 1 24 Tryz.underlying33 hi0 hz0 hz1 hz2 rfl (by decide) (.slice a3 el d3) el (E.map EEnt.v) rfl (World.ownsRow.alloc HR3.out _) ⟨wr.heap.size, 0, none⟩ 1 1 [.slice la' (k + j) lc'] rfl rfl (cell_one_new _ _ _) (sl_one _ _ _) (by unfold maxLen; omega) (by omega) (Nat.zero_le _) (by decide) ?_; intro v3' w3 hown3 hfr3; obtain ⟨q1, q2, hK2⟩ := HK.out.stepA KC KR ((Below.refl wr.heap.size wr).alloc (Nat.le_refl _) _) hown3 hfr3; obtain ⟨a3', d3', rfl⟩ := own_shape hown3; have HK2 := show Hid _ from hK2; clear hK2 HK hown3 hfr3 HR3))
          clear q1 q2
          generalize w3.setCell ⟨wb, 3, none⟩ (.slice a3' (el + 1) d3') = w4 at HK2 ⊢
          have HK3 := show Hid _ from HK2.out.old KC KR ((Below.refl w4.heap.size w4).drew)
          have hxd : w4.drew.heap[mb]? = some (.cells #[.int .u8 7, .string ⟨#[109, 97, 114, 107]⟩, .int .u16 (sq : Int), .int .i16 vl] 41 (0, 0)) := HK3.out.mbox
          obtain ⟨_, r5, _, _, c5⟩ := HK3.out.shape2
          have HR5 := show Hid _ from r5
          clear HK2 r5
          refine wp_region_held_drew (S := fun w' : World => w'.heap[mb]? = some (.cells #[.int .u8 7, .string ⟨#[109, 97, 114, 107]⟩, .int .u16 (sq : Int), .int .i16 vl] 41 (0, 0))) (by kernel_rfl) hxd (fun hH => ?_)
          generalize w4.drew = w5 at hxd HK3 HR5 c5 hH ⊢
          refine wpAnyH_take (i := 0) (v := (.pointer (some ⟨wb, 0, none⟩))) rfl (by kernel_rfl) (by kernel_rfl) (by kernel_rfl) (fun _ _ _ h => h) (Or.inl ⟨by rfl, by intro v hSw; clear hSw; go_simp⟩) hH ?_
          refine wpAnyH_take (i := 1) (v := (.pointer (some ⟨wb, 0, none⟩))) rfl (by kernel_rfl) (by kernel_rfl) (by kernel_rfl) (fun _ _ _ h => h) (Or.inl ⟨by rfl, by intro v hSw; clear hSw; go_simp⟩) hH ?_
          refine wpAnyH_take (i := 2) (v := (.pointer (some ⟨wb, 0, none⟩))) rfl (by kernel_rfl) (by kernel_rfl) (by kernel_rfl) (fun _ _ _ h => h) (Or.inl ⟨by rfl, by intro v hSw; clear hSw; go_simp⟩) hH ?_
          refine wpAnyH_take (i := 3) (v := (.pointer (some ⟨wb, 5, none⟩))) rfl (by kernel_rfl) (by kernel_rfl) (by kernel_rfl) (fun _ _ _ h => h) (Or.inl ⟨by rfl, by intro v hSw; clear hSw; go_simp⟩) hH ?_
          refine wpAnyH_take (i := 5) (v := (.agg #[.int .u8 7, .string ⟨#[109, 97, 114, 107]⟩, .int .u16 (sq : Int), .int .i16 vl])) rfl (by kernel_rfl) (by kernel_rfl) (by kernel_rfl) (fun _ _ _ h => h) (Or.inl ⟨by rfl, by intro v hSw; have s0 : v.cell? ⟨mb, 0, none⟩ = some (.int .u8 7) := row_cell hSw 0; have s1 : v.cell? ⟨mb, 1, none⟩ = some (.string ⟨#[109, 97, 114, 107]⟩) := row_cell hSw 1; have s2 : v.cell? ⟨mb, 2, none⟩ = some (.int .u16 (sq : Int)) := row_cell hSw 2; have s3 : v.cell? ⟨mb, 3, none⟩ = some (.int .i16 vl) := row_cell hSw 3; clear hSw; go_simp⟩) hH ?_
          have hba := (Below.refl w5.heap.size w5).alloc (Nat.le_refl _) (.cells #[.int .u8 7, .string ⟨#[109, 97, 114, 107]⟩, .int .u16 (sq : Int), .int .i16 vl] 41)
          have hb4 : (w5.alloc (.cells #[.int .u8 7, .string ⟨#[109, 97, 114, 107]⟩, .int .u16 (sq : Int), .int .i16 vl] 41)).heap[mb]? = some (.cells #[.int .u8 7, .string ⟨#[109, 97, 114, 107]⟩, .int .u16 (sq : Int), .int .i16 vl] 41 (0, 0)) := (Below.heap_alloc _ _ _ (heap_lt hxd)).trans hxd
          have c5a : (w5.alloc (.cells #[.int .u8 7, .string ⟨#[109, 97, 114, 107]⟩, .int .u16 (sq : Int), .int .i16 vl] 41)).cell? ⟨wb, 5, none⟩ = some (.slice a5 el d5) := (hba.cell (p := ⟨wb, 5, none⟩) (by have := HK3.out.bel; obtain ⟨_, _, _, _, hI9, _⟩ := HK3.out.ex; exact hI9.wlt)).trans c5
          have HBa := show Hid _ from hba
          clear hba
          refine wpAnyH_ready (rs := [4, 6]) (by kernel_rfl) (by simp) ?_
          refine AllReadyH.cons rfl (fun K hK => ?_) (AllReadyH.cons rfl (fun K hK => ?_) AllReadyH.nil)
          focus
            clear hH
            go_simp
            refine hK.out _ _ hxd (fun hH => ?_)
            clear hK K
            refine wpAnyH_ready (rs := [6]) (by kernel_rfl) (by simp) ?_
            refine AllReadyH.cons rfl (fun K hK => ?_) AllReadyH.nil
            clear hH
            go_simp
            refine hK.out _ _ hb4 (fun hH => ?_)
            clear hK K
          rotate_left
          focus
            clear hH
            go_simp
            refine hK.out _ _ hb4 (fun hH => ?_)
            clear hK K
            refine wpAnyH_ready (rs := [4]) (by kernel_rfl) (by simp) ?_
            refine AllReadyH.cons rfl (fun K hK => ?_) AllReadyH.nil
            clear hH
            go_simp
            refine hK.out _ _ hb4 (fun hH => ?_)
            clear hK K
          all_goals
            refine wpAnyH_ready (rs := [7]) (by kernel_rfl) (by simp) ?_
            refine AllReadyH.cons rfl (fun K hK => ?_) AllReadyH.nil
            refine ite_of rfl ?_
            refine wp_append_two _ (.tmp 45) (.tmp 47) 35 rfl 0 41 i1 (.agg #[.int .u8 0, .string ⟨#[]⟩, .int .u16 0, .int .i16 0]) 4 32 Tryz.underlying35 hi1 hy0 hy1 hy2 rfl (by decide) (.slice a5 el d5) el (evCells (E.map EEnt.m)) rfl (World.ownsRow.alloc HR5.out _) ⟨w5.heap.size, 0, none⟩ 1 1 (evCells1 ⟨7, ⟨#[109, 97, 114, 107]⟩, sq, vl⟩) rfl rfl (by have := cell_four_new w5 (.int .u8 7) (.string ⟨#[109, 97, 114, 107]⟩) (.int .u16 (sq : Int)) (.int .i16 vl) 41; simpa [evCells1] using this) (ev_oneCell _) (by unfold maxLen; omega) (by omega) (Nat.zero_le _) (by decide) ?_
            intro v5' w6 hown6 hfr6
            obtain ⟨q1, q2, q3, hK4⟩ := HK3.out.stepB KC KR (by omega) HBa.out hown6 hfr6
            have HK4 := show Hid _ from hK4
            obtain ⟨a5', d5', rfl⟩ := own_shape hown6
            refine hK.out _ _ q3 (fun hH => ?_)
            clear hK K hown6 hfr6 HK3 HR5 HBa hK4 c5a hb4 c5
            refine wpAnyH_take (i := 8) (v := (.pointer (some ⟨wb, 0, none⟩))) rfl (by kernel_rfl) (by kernel_rfl) (by kernel_rfl) (fun _ _ _ h => h) (Or.inl ⟨by rfl, by intro v hSw; clear hSw; go_simp⟩) hH ?_
            refine wpAnyH_take (i := 9) (v := (.pointer (some ⟨wb, 5, none⟩))) rfl (by kernel_rfl) (by kernel_rfl) (by kernel_rfl) (fun _ _ _ h => h) (Or.inl ⟨by rfl, by intro v hSw; clear hSw; go_simp⟩) hH ?_
            refine wpAnyH_ready (rs := [10]) (by kernel_rfl) (by simp) ?_
            refine AllReadyH.cons rfl (fun K hK => ?_) AllReadyH.nil
            clear hH
            go_simp
            refine hK.out _ _ HK4.out.mbox (fun hH => ?_)
            clear hK K hH q1 q2 q3 hxd
            refine wpAnyH_done (by kernel_rfl) ?_ _
            generalize w6.setCell ⟨wb, 5, none⟩ (.slice a5' (el + 1) d5') = w7 at HK4 ⊢
            have hm7 := HK4.out.mbox
            have m0 : w7.cell? ⟨mb, 0, none⟩ = some (.int .u8 7) := box_cell hm7 0
            have m1 : w7.cell? ⟨mb, 1, none⟩ = some (.string ⟨#[109, 97, 114, 107]⟩) := box_cell hm7 1
            have m2 : w7.cell? ⟨mb, 2, none⟩ = some (.int .u16 (sq : Int)) := box_cell hm7 2
            have m3 : w7.cell? ⟨mb, 3, none⟩ = some (.int .i16 vl) := box_cell hm7 3
            have HRl := show Hid _ from HK4.out.shape2.2.2.1
            clear hm7
            go_wp2_with (first
              | (at_builtin; refine wpList_append_two _ rfl (.tmp 51) (.tmp 53) 35 rfl 0 41 i1 (.agg #[.int .u8 0, .string ⟨#[]⟩, .int .u16 0, .int .i16 0]) 4 32 Tryz.underlying35 hi1 hy0 hy1 hy2 rfl (by decide) (.slice la' (k + j) lc') (k + j) (rep (k + j) (evCells1 ⟨7, ⟨#[109, 97, 114, 107]⟩, sq, vl⟩)) rfl (World.ownsRow.alloc HRl.out _) ⟨w7.heap.size, 0, none⟩ 1 1 (evCells1 ⟨7, ⟨#[109, 97, 114, 107]⟩, sq, vl⟩) rfl rfl (by have := cell_four_new w7 (.int .u8 7) (.string ⟨#[109, 97, 114, 107]⟩) (.int .u16 (sq : Int)) (.int .i16 vl) 41; simpa [evCells1] using this) (ev_oneCell _) (by unfold maxLen; omega) (by omega) (Nat.zero_le _) (by decide) ?_; intro l' w8 hown8 hfr8; have hK5 := HK4.out.stepC KC KR ((Below.refl w7.heap.size w7).alloc (Nat.le_refl _) _) hown8 hfr8; obtain ⟨al, dl, rfl⟩ := own_shape hown8; have HK5 := show Hid _ from hK5; clear hK5 HK4 hown8 hfr8 HRl m0 m1 m2 m3))
            go_roundw
            case rel =>
              refine ⟨j + 1, E ++ [⟨la', k + j, lc', ⟨7, ⟨#[109, 97, 114, 107]⟩, sq, vl⟩, cnt⟩], al, dl, .slice a3' (el + 1) d3', .slice a5' (el + 1) d5', by omega, by go_num, rfl, by rw [List.length_append, HEL.out, HEl.out]; simp; omega, ?_⟩
              have hh := HK5.out
              have e2 : ∀ x : EEnt, evCells ((E ++ [x]).map EEnt.m) = evCells (E.map EEnt.m) ++ evCells1 x.m := fun x => by rw [List.map_append, evCells_append, List.map_cons, List.map_nil, evCells_one]
              rw [e2, List.map_append, List.length_append, HEL.out]
              exact hh
            case measure => simp [intOf]; omega
        · have hjj : j = 4 := by omega
          subst hjj
          have HF := show Hid (∃ f' v' xs' n' es', LInv CJ RJ f' wr wb v' xs' n' js is es' (cnt + 1) ∧ LRest xs' n' js is es' ∧ es'.length = es.length + 4 ∧ Below wb W wr) from by
            obtain ⟨f', v', xs', n', q1, q2, q3, q4, q5, q6, q7, ⟨r0, r1, r2, r4, y0, y1, y2, y4⟩, _⟩ := hK.ex
            exact ⟨f', v', xs', n', E, q1, ⟨r0, r1, r2, q6, r4, q7, y0, y1, y2, q4, y4, q5⟩, hEl, hK.bel⟩
          clear hK hEl
          go_wp2
          go_end0
          exact ⟨rfl, HF.out⟩

end

end Go.Proofs.YthccpacmklhejaaGreatDoor

namespace Go.Proofs.YthccpacmklhejaaGreatDoor
open Go.RowKit

/-- A step of a script. -/
structure OpV where
  kind : Int
  a : Int
  b : Int
  s : ByteArray
  e : Ev
  c : Int
  d : Int

def OpV.cells (o : OpV) : List Value := [.int .i64 o.kind, .int .i64 o.a, .int .i64 o.b, .string o.s, .int .u8 (o.e.op : Int), .string o.e.key, .int .u16 (o.e.seq : Int), .int .i16 o.e.val, .int .i64 o.c, .int .i64 o.d]

/-- What a step leaves. -/
def Left (W : World) (wb : Nat) (ents : List Ent) (cnt : Nat) (w' : World) : Prop := ∃ ents' cnt' ve' vm', Inv w' wb ents' cnt' ve' vm' ∧ ents'.length ≤ ents.length + 4 ∧ cnt' ≤ cnt + 1 ∧ Below wb W w'

theorem Left.below {W w' : World} {wb : Nat} {ents : List Ent} {cnt : Nat} {ve vm : Value} (h : Inv W wb ents cnt ve vm) (hb : Below W.heap.size W w') : Left W wb ents cnt w' :=
  ⟨ents, cnt, ve, vm, h.below hb, by omega, by omega, hb.mono (Nat.le_of_lt (heap_lt h.box))⟩

theorem Left.after {W w1 w' : World} {wb : Nat} {ents : List Ent} {cnt : Nat} (hb : Below wb W w1) (h : Left w1 wb ents cnt w') : Left W wb ents cnt w' := by
  obtain ⟨ents', cnt', ve', vm', h1, h2, h3, h4⟩ := h
  exact ⟨ents', cnt', ve', vm', h1, h2, h3, hb.trans h4⟩

set_option maxRecDepth 100000 in
set_option maxHeartbeats 1000000 in
theorem texts_one (W : World) (wb : Nat) (a b c d : Int) (s : ByteArray) (e : Ev) (hok : e.ok) (hks : e.key.size ≤ 9223372036854775800) :
    Calls Tryz.prog 11 #[.pointer (some ⟨wb, 0, none⟩), .agg #[.int .i64 1, .int .i64 a, .int .i64 b, .string s, .int .u8 (e.op : Int), .string e.key, .int .u16 (e.seq : Int), .int .i16 e.val, .int .i64 c, .int .i64 d]] W fun en w' => en = .returned (.bool true) ∧ Below W.heap.size W w' := by
  have hE := show Hid _ from fun w => cencode_any e w hok.2.1
  have hR := show Hid _ from fun w => rencode_any e w hok hks
  have hN := show Hid _ from num_any
  obtain ⟨op, key, seq, val⟩ := e
  unfold Ev.value at hE hR
  simp only at hE hR ⊢
  generalize encStr ⟨op, key, seq, val⟩ = t at hE hR
  generalize refuse ⟨op, key, seq, val⟩ = r at hE hR
  clear hok hks
  go_enter Tryz.func11, Tryz.ntmps11
  go_wp2_with (first
    | (go_at_call 16; refine (hE.out _).mono ?_; rintro en w1 ⟨rfl, hb1⟩; have hx := (hb1.block W.heap.size (by simp)).trans (heap_alloc_new W _); have c4 : w1.cell? ⟨W.heap.size, 4, none⟩ = some (.int .u8 (op : Int)) := box_cell hx 4; have c5 : w1.cell? ⟨W.heap.size, 5, none⟩ = some (.string key) := box_cell hx 5; have c6 : w1.cell? ⟨W.heap.size, 6, none⟩ = some (.int .u16 (seq : Int)) := box_cell hx 6; have c7 : w1.cell? ⟨W.heap.size, 7, none⟩ = some (.int .i16 val) := box_cell hx 7; have hz := hb1.size; have hB1 := ((Below.refl W.heap.size W).alloc (Nat.le_refl _) _).trans (hb1.mono (by simp)); clear hx hb1 hE; simp only [World.size_alloc] at hz)
    | (go_at_call 17; refine (hR.out _).mono ?_; rintro en w2 ⟨rfl, hb2⟩)
    | (go_at_call 15; refine (hN.out _ _).mono ?_; rintro en w3 ⟨rfl, rfl⟩))
  go_ret
  exact ⟨rfl, hB1.trans (hb2.mono (by omega))⟩

set_option maxRecDepth 100000 in
set_option maxHeartbeats 1000000 in
theorem texts_two (W : World) (wb : Nat) (ents : List Ent) (cnt : Nat) (ve vm : Value) (a b c d : Int) (s : ByteArray) (e : Ev) (hI : Inv W wb ents cnt ve vm) (hcnt : cnt ≤ 2000000000000) (hlen : ents.length ≤ 6400000000000) :
    Calls Tryz.prog 11 #[.pointer (some ⟨wb, 0, none⟩), .agg #[.int .i64 2, .int .i64 a, .int .i64 b, .string s, .int .u8 (e.op : Int), .string e.key, .int .u16 (e.seq : Int), .int .i16 e.val, .int .i64 c, .int .i64 d]] W fun en w' => en = .returned (.bool true) ∧ Left W wb ents cnt w' := by
  have hD : Hid (∀ o, Calls Tryz.prog 18 #[.pointer (some ⟨wb, 0, none⟩), .string s] (W.alloc o) fun en w' => en = .returned (.bool true) ∧ Left W wb ents cnt w') := by
    intro o
    refine (decodes_any (W.alloc o) wb ents cnt ve vm s (hI.alloc o) hcnt hlen).mono ?_
    rintro en w' ⟨rfl, ents', ve', vm', h1, h2, h3⟩
    exact ⟨rfl, ents', cnt + 1, ve', vm', h1, by omega, by omega, ((Below.refl wb W).alloc (Nat.le_of_lt (heap_lt hI.box)) o).trans h3⟩
  clear hI
  obtain ⟨op, key, seq, val⟩ := e
  go_enter Tryz.func11, Tryz.ntmps11
  go_wp2_with (go_at_call 18; refine (hD.out _).mono ?_; rintro en w1 ⟨rfl, hl⟩)
  go_ret
  exact ⟨rfl, hl⟩

set_option maxRecDepth 100000 in
set_option maxHeartbeats 1000000 in
theorem step_text (W : World) (wb : Nat) (ents : List Ent) (cnt : Nat) (ve vm : Value) (k a b c d : Int) (s : ByteArray) (e : Ev) (hk : k = 1 ∨ k = 2) (hok : e.ok) (hks : e.key.size ≤ 9223372036854775800) (hI : Inv W wb ents cnt ve vm) (hcnt : cnt ≤ 2000000000000) (hlen : ents.length ≤ 6400000000000) :
    Calls Tryz.prog 8 #[.pointer (some ⟨wb, 0, none⟩), .agg #[.int .i64 k, .int .i64 a, .int .i64 b, .string s, .int .u8 (e.op : Int), .string e.key, .int .u16 (e.seq : Int), .int .i16 e.val, .int .i64 c, .int .i64 d]] W fun en w' => en = .returned (.bool true) ∧ Left W wb ents cnt w' := by
  have hT : Hid (∀ o, Calls Tryz.prog 11 #[.pointer (some ⟨wb, 0, none⟩), .agg #[.int .i64 k, .int .i64 a, .int .i64 b, .string s, .int .u8 (e.op : Int), .string e.key, .int .u16 (e.seq : Int), .int .i16 e.val, .int .i64 c, .int .i64 d]] (W.alloc o) fun en w' => en = .returned (.bool true) ∧ Left W wb ents cnt w') := by
    intro o
    have hz := heap_lt hI.box
    rcases hk with rfl | rfl
    · refine (texts_one (W.alloc o) wb a b c d s e hok hks).mono ?_
      rintro en w' ⟨rfl, h⟩
      exact ⟨rfl, (Left.below (hI.alloc o) h).after ((Below.refl wb W).alloc (by omega) o)⟩
    · refine (texts_two (W.alloc o) wb ents cnt ve vm a b c d s e (hI.alloc o) hcnt hlen).mono ?_
      rintro en w' ⟨rfl, h⟩
      exact ⟨rfl, h.after ((Below.refl wb W).alloc (by omega) o)⟩
  clear hI hok hks
  obtain ⟨op, key, seq, val⟩ := e
  simp only at hT ⊢
  have hk1 : 1 ≤ k := by omega
  have hk3 : k ≤ 3 := by omega
  go_enter Tryz.func8, Tryz.ntmps8
  go_wp2_with (go_at_call 11; refine (hT.out _).mono ?_; rintro en w1 ⟨rfl, hl⟩)
  go_ret
  exact ⟨rfl, hl⟩

set_option maxRecDepth 100000 in
set_option maxHeartbeats 1000000 in
theorem step_none (W : World) (wb : Nat) (k a b c d : Int) (s : ByteArray) (e : Ev) (hk : k ≤ 0) :
    Calls Tryz.prog 8 #[.pointer (some ⟨wb, 0, none⟩), .agg #[.int .i64 k, .int .i64 a, .int .i64 b, .string s, .int .u8 (e.op : Int), .string e.key, .int .u16 (e.seq : Int), .int .i16 e.val, .int .i64 c, .int .i64 d]] W fun en w' => en = .returned (.bool true) ∧ Below W.heap.size W w' := by
  obtain ⟨op, key, seq, val⟩ := e
  have hk1 : ¬ 1 ≤ k := by omega
  have hk4 : ¬ 4 ≤ k := by omega
  have hk10 : ¬ k = 10 := by omega
  go_enter Tryz.func8, Tryz.ntmps8
  go_wp2
  go_ret
  exact ⟨rfl, (Below.refl _ _).alloc (Nat.le_refl _) _⟩
end Go.Proofs.YthccpacmklhejaaGreatDoor

namespace Go.Proofs.YthccpacmklhejaaGreatDoor
open Go.RowKit

/-- A script that came in. -/
def IsOps (w : World) (a : Option Addr) (ops : List OpV) : Prop :=
  (∀ o ∈ ops, o.e.ok ∧ o.e.key.size ≤ 9223372036854775800) ∧ (ops = [] ∨ ∃ b off, a = some ⟨b, off, none⟩ ∧ b < w.heap.size ∧ ∀ k (h : k < ops.length) j, j < 10 → w.cell? ⟨b, off + k * 10 + j, none⟩ = (ops[k]).cells[j]?)

theorem Inv.new (w : World) : Inv (w.alloc (.cells #[.slice none 0 0, .slice none 0 0, .slice none 0 0, .slice none 0 0, .slice none 0 0, .slice none 0 0, .int .i64 0] 37)) w.heap.size [] 0 (.slice none 0 0) (.slice none 0 0) :=
  ⟨heap_alloc_new w _, own_nil _ _ _ _, own_nil _ _ _ _, fun x hx => by cases hx⟩

set_option maxRecDepth 100000 in
set_option maxHeartbeats 1000000 in
theorem talks_any (a : Option Addr) (cap : Nat) (ops : List OpV) (w : World) (hlen : ops.length ≤ 1600000000000) (hev : IsOps w a ops) :
    Calls Tryz.prog 6 #[.slice a ops.length cap, .int .i64 1, .int .i64 2] w fun en w' => en = .returned (.bool true) ∧ Below w.heap.size w w' := by
  have Hev := show Hid (IsOps w a ops) from hev
  clear hev
  go_enter Tryz.func6, Tryz.ntmps6
  go_wp2
  have HI0 := show Hid _ from Inv.new w
  go_loopw [8] (fun i wr => ∃ (k : Nat) (ents : List Ent) (cnt : Nat) (ve vm : Value), k ≤ ops.length ∧ i = .int .i64 (k : Int) ∧ ents.length ≤ 4 * k ∧ cnt ≤ k ∧ Inv wr w.heap.size ents cnt ve vm ∧ Below w.heap.size w wr) (fun i _ => ops.length - (intOf i).toNat)
  case atStart => exact ⟨0, [], 0, _, _, Nat.zero_le _, rfl, by simp, by simp, HI0.out, (Below.refl _ _).alloc (Nat.le_refl _) _⟩
  case round =>
    obtain ⟨k, ents, cnt, ve, vm, hk, rfl, hel, hcl, hI, hb⟩ := hrel
    clear HI0
    by_cases hkl : k < ops.length
    · rcases Hev.out.2 with h0 | ⟨b, off, rfl, hbl, hcs⟩
      · rw [h0] at hkl; simp at hkl
      have hc := fun j hj => (hb.cell (p := ⟨b, off + k * 10 + j, none⟩) hbl).trans (hcs k hkl j hj)
      obtain ⟨hok, hks⟩ := Hev.out.1 (ops[k]'hkl) (List.getElem_mem hkl)
      generalize ops[k]'hkl = o at hc hok hks
      obtain ⟨kd, oa, ob, os, ⟨eop, ekey, eseq, eval⟩, oc, od⟩ := o
      simp only at hok hks
      have c0 : wr.cell? ⟨b, off + k * 10, none⟩ = some (.int .i64 kd) := hc 0 (by decide)
      have c1 : wr.cell? ⟨b, off + k * 10 + 1, none⟩ = some (.int .i64 oa) := hc 1 (by decide)
      have c2 : wr.cell? ⟨b, off + k * 10 + 2, none⟩ = some (.int .i64 ob) := hc 2 (by decide)
      have c3 : wr.cell? ⟨b, off + k * 10 + 3, none⟩ = some (.string os) := hc 3 (by decide)
      have c4 : wr.cell? ⟨b, off + k * 10 + 4, none⟩ = some (.int .u8 (eop : Int)) := hc 4 (by decide)
      have c5 : wr.cell? ⟨b, off + k * 10 + 5, none⟩ = some (.string ekey) := hc 5 (by decide)
      have c6 : wr.cell? ⟨b, off + k * 10 + 6, none⟩ = some (.int .u16 (eseq : Int)) := hc 6 (by decide)
      have c7 : wr.cell? ⟨b, off + k * 10 + 7, none⟩ = some (.int .i16 eval) := hc 7 (by decide)
      have c8 : wr.cell? ⟨b, off + k * 10 + 8, none⟩ = some (.int .i64 oc) := hc 8 (by decide)
      have c9 : wr.cell? ⟨b, off + k * 10 + 9, none⟩ = some (.int .i64 od) := hc 9 (by decide)
      clear hc hcs Hev
      have HI := show Hid (Inv wr w.heap.size ents cnt ve vm ∧ Below w.heap.size w wr) from ⟨hI, hb⟩
      clear hI hb
      have hki : (k : Int) < (ops.length : Int) := by omega
      have hk0 : (0 : Int) ≤ (k : Int) := by omega
      by_cases hkd : 2 < kd
      · go_wp2
        go_roundw
        case rel => exact ⟨k + 1, ents, cnt, ve, vm, by omega, by go_num, by omega, by omega, HI.out.1.alloc _, HI.out.2.alloc HI.out.2.size _⟩
        case measure => simp [intOf]; omega
      · have hS : Hid (∀ x, Calls Tryz.prog 8 #[.pointer (some ⟨w.heap.size, 0, none⟩), .agg #[.int .i64 kd, .int .i64 oa, .int .i64 ob, .string os, .int .u8 (eop : Int), .string ekey, .int .u16 (eseq : Int), .int .i16 eval, .int .i64 oc, .int .i64 od]] (wr.alloc x) fun en w' => en = .returned (.bool true) ∧ Left w w.heap.size ents cnt w') := by
          intro x
          have hbx := HI.out.2.alloc HI.out.2.size x
          have hIx := HI.out.1.alloc x
          by_cases h0 : kd ≤ 0
          · refine (step_none (wr.alloc x) w.heap.size kd oa ob oc od os ⟨eop, ekey, eseq, eval⟩ h0).mono ?_
            rintro en w' ⟨rfl, h⟩
            exact ⟨rfl, (Left.below hIx h).after hbx⟩
          · refine (step_text (wr.alloc x) w.heap.size ents cnt ve vm kd oa ob oc od os ⟨eop, ekey, eseq, eval⟩ (by omega) hok hks hIx (by omega) (by omega)).mono ?_
            rintro en w' ⟨rfl, h⟩
            exact ⟨rfl, h.after hbx⟩
        clear HI hok hks
        go_wp2_with (first
          | (go_at_call 8; refine (hS.out _).mono ?_; rintro en w2 ⟨rfl, ents2, cnt2, ve2, vm2, hI2, he2, hc2, hb2⟩; clear hS; obtain ⟨ae, ce, rfl⟩ := own_shape hI2.evs; obtain ⟨am, cm, rfl⟩ := own_shape hI2.mks; have HK := show Hid (_ ∧ _ ∧ _) from And.intro hI2 (And.intro hb2 (kept_any w2 w.heap.size ents2 cnt2 ae am ce cm hI2 (by omega))); clear hI2 hb2)
          | (go_at_call 9; refine Calls.mono HK.out.2.2 ?_; rintro en w3 ⟨rfl, q, rfl⟩))
        go_roundw
        case rel => exact ⟨k + 1, ents2, cnt2, _, _, by omega, by go_num, by omega, by omega, HK.out.1.below (drewN_below _ _), HK.out.2.1.trans ((drewN_below w2 _).mono HK.out.2.1.size)⟩
        case measure => simp [intOf]; omega
    · go_wp2
      go_ret
      exact ⟨rfl, hb⟩

set_option maxHeartbeats 1000000 in
theorem codes_any (a : Option Addr) (cap : Nat) (ops : List OpV) (w : World) (hlen : ops.length ≤ 1600000000000) (hev : IsOps w a ops) :
    Calls Tryz.prog 3 #[.slice a ops.length cap] w fun en w' => en = .returned (.bool true) ∧ Below w.heap.size w w' := by
  have hT : Hid (Calls Tryz.prog 6 #[.slice a ops.length cap, .int .i64 1, .int .i64 2] w fun en w' => en = .returned (.bool true) ∧ Below w.heap.size w w') := talks_any a cap ops w hlen hev
  clear hev
  go_enter Tryz.func3, Tryz.ntmps3
  go_wp2_with (go_at_call 6; refine hT.out.mono ?_; rintro en w1 ⟨rfl, hb⟩)
  go_ret
  exact ⟨rfl, hb⟩
end Go.Proofs.YthccpacmklhejaaGreatDoor
