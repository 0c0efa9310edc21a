/-
  canallaw.num, (*canallaw.World).decodes.
-/
import Derived.Test.YthccpacmklhejaaGreatDoorKeep
namespace Go.Proofs.YthccpacmklhejaaGreatDoor
open Go.RowKit

set_option maxHeartbeats 400000 in
theorem num_any (r : Nat) (w : World) :
    Calls Tryz.prog 15 #[.int .i64 (r : Int)] w fun e w' => e = .returned (.int .i64 (r : Int)) ∧ w' = w := by
  go_enter Tryz.func15, Tryz.ntmps15
  go_wp2
  go_ret
  exact ⟨rfl, rfl⟩

/-- What a Decode answers. -/
def Dec (s : ByteArray) (es : List Ev) (n r : Nat) : Prop := (s.size ≤ 400 ∧ Parsed s es n ∧ r = errOf s n) ∨ (400 < s.size ∧ es = [] ∧ n = 0 ∧ r = 1)

theorem Dec.unique {s : ByteArray} {es es' : List Ev} {n n' r r' : Nat} (h : Dec s es n r) (h' : Dec s es' n' r') : es = es' ∧ n = n' ∧ r = r' := by
  rcases h with ⟨h1, h2, h3⟩ | ⟨h1, h2, h3, h4⟩ <;> rcases h' with ⟨k1, k2, k3⟩ | ⟨k1, k2, k3, k4⟩
  · obtain ⟨rfl, rfl⟩ := h2.unique k2
    exact ⟨rfl, rfl, by rw [h3, k3]⟩
  · omega
  · omega
  · exact ⟨by rw [h2, k2], by rw [h3, k3], by rw [h4, k4]⟩

theorem Dec.few {s : ByteArray} {es : List Ev} {n r : Nat} (h : Dec s es n r) : es.length ≤ 80 ∧ n ≤ 400 ∧ r ≤ 6 := by
  rcases h with ⟨h1, h2, h3⟩ | ⟨h1, h2, h3, h4⟩
  · have := h2.few
    have := h2.le
    refine ⟨by omega, by omega, ?_⟩
    rw [h3]
    unfold errOf
    split <;> omega
  · rw [h2, h3, h4]; simp

theorem own_nil (w : World) (B : Nat) (e : TypeId) (s : Nat) : w.ownsRow B e s (.slice none 0 0) 0 [] := ⟨by simp, .inl ⟨rfl, rfl⟩⟩

theorem cdecode_all (s : ByteArray) (w : World) :
    Calls Tryz.prog 38 #[.string s] w fun en w' => ∃ (a : Option Addr) (c : Nat) (es : List Ev) (n r : Nat), en = .returned (.tuple #[.slice a es.length c, .int .i64 (n : Int), .int .i64 (r : Int)]) ∧ Hid (Dec s es n r) ∧
      Hid (w'.ownsRow w.heap.size 41 4 (.slice a es.length c) es.length (evCells es) ∧ Below w.heap.size w w') := by
  by_cases h : s.size ≤ 400
  · refine (cdecode_short s w h).mono ?_
    rintro e w1 ⟨v, es, n, r, rfl, hP, hown, hb⟩
    obtain ⟨a, c, rfl⟩ := own_shape hown
    exact ⟨a, c, es, n, r, rfl, .inl ⟨h, hP.out.1, hP.out.2⟩, hown, hb⟩
  · refine (cdecode_long s w (by omega)).mono ?_
    rintro e w1 ⟨rfl, hb⟩
    exact ⟨none, 0, [], 0, 1, rfl, .inr ⟨by omega, rfl, rfl, rfl⟩, own_nil _ _ _ _, hb⟩

theorem rdecode_all (s : ByteArray) (w : World) :
    Calls Tryz.prog 34 #[.string s] w fun en w' => ∃ (a : Option Addr) (c : Nat) (es : List Ev) (n r : Nat), en = .returned (.tuple #[.slice a es.length c, .int .i64 (n : Int), .int .i64 (r : Int)]) ∧ Hid (Dec s es n r) ∧
      Hid (w'.ownsRow w.heap.size 41 4 (.slice a es.length c) es.length (evCells es) ∧ Below w.heap.size w w') := by
  by_cases h : s.size ≤ 400
  · refine (rdecode_short s w h).mono ?_
    rintro e w1 ⟨v, es, n, r, rfl, hP, hown, hb⟩
    obtain ⟨a, c, rfl⟩ := own_shape hown
    exact ⟨a, c, es, n, r, rfl, .inl ⟨h, hP.out.1, hP.out.2⟩, hown, hb⟩
  · refine (rdecode_long s w (by omega)).mono ?_
    rintro e w1 ⟨rfl, hb⟩
    exact ⟨none, 0, [], 0, 1, rfl, .inr ⟨by omega, rfl, rfl, rfl⟩, own_nil _ _ _ _, hb⟩

theorem below_grown {W w' : World} (h : Below W.heap.size W w') : W.grownBy w' none := ⟨h.os, h.tape, h.output, h.size, fun k hk _ => h.block k hk⟩

theorem Inv.below {W w' : World} {wb : Nat} {ents : List Ent} {cnt : Nat} {ve vm : Value} (h : Inv W wb ents cnt ve vm) (hb : Below W.heap.size W w') : Inv w' wb ents cnt ve vm :=
  h.keep (below_grown hb) (fun g hg => by cases hg)

theorem own_mono {W : World} {B B' n : Nat} {e : TypeId} {s : Nat} {v : Value} {xs : List Value} (h : W.ownsRow B e s v n xs) (hB : B' ≤ B) : W.ownsRow B' e s v n xs :=
  ⟨h.1, h.2.elim .inl fun ⟨g, cap, cur, h1, h2, h3⟩ => .inr ⟨g, cap, cur, h1, Nat.le_trans hB h2, h3⟩⟩

theorem drewN_below (W : World) (n : Nat) : Below W.heap.size W (W.drewN n) := ⟨rfl, rfl, rfl, Nat.le_refl _, fun _ _ => rfl⟩

theorem own_drewN {W : World} {B n : Nat} {e : TypeId} {s : Nat} {v : Value} {xs : List Value} (h : W.ownsRow B e s v n xs) (q : Nat) : (W.drewN q).ownsRow B e s v n xs := h

/-- The lists of two Decodes, cell by cell. -/
theorem own_cells {W : World} {B c g k : Nat} {es : List Ev} (h : W.ownsRow B 41 4 (.slice (some ⟨g, 0, none⟩) es.length c) es.length (evCells es)) (hk : k < es.length) :
    W.cell? ⟨g, k * 4, none⟩ = some (.int .u8 (es[k].op : Int)) ∧ W.cell? ⟨g, k * 4 + 1, none⟩ = some (.string es[k].key) ∧ W.cell? ⟨g, k * 4 + 2, none⟩ = some (.int .u16 (es[k].seq : Int)) ∧ W.cell? ⟨g, k * 4 + 3, none⟩ = some (.int .i16 es[k].val) := by
  have hat := evCells_at es k hk
  exact ⟨(h.cellAt _ (by omega)).trans hat.1, (h.cellAt _ (by omega)).trans hat.2.1, (h.cellAt _ (by omega)).trans hat.2.2.1, (h.cellAt _ (by omega)).trans hat.2.2.2⟩

set_option maxRecDepth 100000 in
set_option maxHeartbeats 1000000 in
theorem decodes_any (W : World) (wb : Nat) (ents : List Ent) (cnt : Nat) (ve vm : Value) (s : ByteArray) (hI : Inv W wb ents cnt ve vm) (hcnt : cnt ≤ 2000000000000) (hlen : ents.length ≤ 6400000000000) :
    Calls Tryz.prog 18 #[.pointer (some ⟨wb, 0, none⟩), .string s] W fun e w' => e = .returned (.bool true) ∧ ∃ ents' ve' vm', Inv w' wb ents' (cnt + 1) ve' vm' ∧ ents'.length = ents.length + 4 ∧ Below wb W w' := by
  have hD := show Hid _ from fun w => cdecode_all s w
  have hR := show Hid _ from fun w => rdecode_all s w
  have hN := show Hid _ from num_any
  have HI := show Hid (Inv W wb ents cnt ve vm) from hI
  clear hI
  go_enter Tryz.func18, Tryz.ntmps18
  go_wp2_with (first
    | (go_at_call 38; refine (hD.out _).mono ?_; rintro e w1 ⟨a, c, es, n, r, rfl, hP, hO⟩; clear hD)
    | (go_at_call 34; refine (hR.out _).mono ?_; rintro e w2 ⟨a', c', es', n', r', rfl, hP', hO'⟩; obtain ⟨rfl, rfl, rfl⟩ := hP.out.unique hP'.out; clear hP' hR; have HL := show Hid (_ ∧ _ ∧ _) from And.intro (own_kept hO.out.1 (below_grown hO'.out.2) (fun _ _ e => by cases e)) (And.intro (own_mono hO'.out.1 hO.out.2.size) (hO.out.2.trans (hO'.out.2.mono hO.out.2.size))); clear hO hO'; obtain ⟨hb1, hb2, hb3⟩ := hP.out.few; clear hP)
    | (go_at_call 15; refine (hN.out _ _).mono ?_; rintro e w3 ⟨rfl, rfl⟩))
  clear hN
  go_loopw [11] (fun i wr => ∃ k nq : Nat, k ≤ es.length ∧ i = .int .i64 (k : Int) ∧ wr = w3.drewN nq) (fun i _ => es.length - (intOf i).toNat)
  case atStart => exact ⟨0, 0, Nat.zero_le _, rfl, rfl⟩
  case round =>
    obtain ⟨k, nq, hk, rfl, rfl⟩ := hrel
    by_cases hkl : k < es.length
    · rcases own_addr HL.out.1 with ⟨_, h0⟩ | ⟨g, rfl⟩
      · omega
      rcases own_addr HL.out.2.1 with ⟨_, h0⟩ | ⟨g', rfl⟩
      · omega
      obtain ⟨p0, p1, p2, p3⟩ := own_cells HL.out.1 hkl
      obtain ⟨q0, q1, q2, q3⟩ := own_cells HL.out.2.1 hkl
      generalize es[k]'hkl = x at p0 p1 p2 p3 q0 q1 q2 q3
      obtain ⟨mop, mkey, mseq, mval⟩ := x
      simp only at p0 p1 p2 p3 q0 q1 q2 q3
      clear HL HI
      have hki : (k : Int) < (es.length : Int) := by omega
      have hk0 : (0 : Int) ≤ (k : Int) := by omega
      go_wp2
      go_quiet (fail)
      go_wp2
      go_roundw
      case rel => exact ⟨k + 1, _, by omega, by go_num, rfl⟩
      case measure => simp [intOf]; omega
    · obtain ⟨ae, ce, rfl⟩ := own_shape HI.out.evs
      obtain ⟨am, cm, rfl⟩ := own_shape HI.out.mks
      have hIx := (HI.out.below HL.out.2.2).below (drewN_below w3 nq)
      have hK : Hid (Calls Tryz.prog 9 #[.pointer (some ⟨wb, 0, none⟩)] (w3.drewN nq) fun e w' => e = .returned (.bool true) ∧ ∃ n, w' = (w3.drewN nq).drewN n) := kept_any (w3.drewN nq) wb ents cnt ae am ce cm hIx (by omega)
      have hKE : Hid (∀ q, Calls Tryz.prog 39 #[.pointer (some ⟨wb, 0, none⟩), .slice a es.length c] (w3.drewN q) fun e w' => e = .returned (.tuple #[]) ∧ ∃ ents' ve' vm', Inv w' wb ents' (cnt + 1) ve' vm' ∧ ents'.length = ents.length + 4 ∧ Below wb W w') := by
        intro q
        have hz : wb + 1 ≤ W.heap.size := heap_lt HI.out.box
        refine (keepEvents_any (w3.drewN q) wb ents cnt _ _ a es.length c es ((HI.out.below HL.out.2.2).below (drewN_below _ q)) rfl (own_mono (own_drewN HL.out.1 q) hz) (by omega) (by omega) hlen ?_).mono ?_
        · intro g hg
          have hge := (own_ge HL.out.1 g hg).1
          refine ⟨fun x hx => ?_, fun e => ?_⟩
          · rcases (HI.out.all x hx).1 with h0 | ⟨g', cur, ha, _, hh, _⟩
            · exact .inl h0
            · right
              intro e
              rw [ha] at e
              simp at e
              have := heap_lt hh
              omega
          · have := (own_ge HI.out.mks g e).2
            omega
        · rintro e w' ⟨rfl, ents', ve', vm', h1, h2, h3⟩
          exact ⟨rfl, ents', ve', vm', h1, h2, ((HL.out.2.2.mono (by omega)).trans ((drewN_below w3 q).mono (by have := HL.out.2.2.size; omega))).trans h3⟩
      clear hIx HL HI
      go_wp2_with (first
        | (go_at_call 9; refine hK.out.mono ?_; rintro e w4 ⟨rfl, q, rfl⟩)
        | (go_at_call 39; refine (hKE.out _).mono ?_; rintro e w5 ⟨rfl, hpost⟩))
      go_ret
      exact ⟨rfl, hpost⟩
end Go.Proofs.YthccpacmklhejaaGreatDoor
