/-
  The keys' list, in some cell; known.Keys.Counts.
-/
import Derived.Test.YthccpacmklhejaaGreatDoorSlot
namespace Go.Proofs.YthccpacmklhejaaGreatDoor
open Go.RowKit

/-- The keys' list. -/
abbrev KAt (B kb o : Nat) (t : TypeId) (cs : Array Value) (a : Option Addr) (c : Nat) (rs : List EV) (w : World) : Prop := LAt B 184 4 kb o t cs a rs.length c (entCells rs) w
abbrev KUpd (B kb o : Nat) (t : TypeId) (cs : Array Value) (a : Option Addr) (c : Nat) (rs : List EV) (w : World) (a' : Option Addr) (c' : Nat) (rs' : List EV) (w' : World) : Prop := Upd B 184 4 kb o t cs a rs.length c w a' rs'.length c' (entCells rs') w'

theorem entFill (rs : List EV) (n : Nat) (h : n < rs.length) (x : EV) : ((((entCells rs).set (n * 4) (.string x.name)).set (n * 4 + 1) (.int .u16 (x.seq : Int))).set (n * 4 + 2) (.int .i64 x.live)).set (n * 4 + 3) (.int .i16 x.value) = entCells (rs.set n x) := by
  have hs : rs = rs.take n ++ rs[n] :: rs.drop (n + 1) := by rw [← List.drop_eq_getElem_cons h, List.take_append_drop]
  have hset : rs.set n x = rs.take n ++ x :: rs.drop (n + 1) := by rw [List.set_eq_take_append_cons_drop, if_pos h]
  rw [hset]
  generalize rs[n] = r at hs
  generalize hT : rs.take n = T at hs
  generalize rs.drop (n + 1) = D at hs
  have hTl : T.length = n := by rw [← hT, List.length_take]; omega
  have hlen : (entCells T).length = n * 4 := by rw [entCells_length, hTl]
  subst hs
  have hc : ∀ r' : EV, entCells (r' :: D) = entCells1 r' ++ entCells D := fun r' => by simp [entCells]
  rw [entCells_append, entCells_append, hc, hc]
  rw [List.set_append_right _ _ (by omega), List.set_append_right _ _ (by omega), List.set_append_right _ _ (by omega), List.set_append_right _ _ (by omega), hlen]
  rw [show n * 4 - n * 4 = 0 from by omega, show n * 4 + 1 - n * 4 = 1 from by omega, show n * 4 + 2 - n * 4 = 2 from by omega, show n * 4 + 3 - n * 4 = 3 from by omega]
  rfl

/-- One entry, laid over: what the walk's four stores ask and leave. -/
theorem KUpd.fill {B kb o : Nat} {t : TypeId} {cs : Array Value} {a : Option Addr} {c : Nat} {ks : List EV} {w0 : World} {g c' : Nat} {rs : List EV} {w : World} (h : KUpd B kb o t cs a c ks w0 (some ⟨g, 0, none⟩) c' rs w) (n : Nat) (hn : n < rs.length) (x : EV) :
    (w.cell? ⟨g, n * 4, none⟩ = some (.string rs[n].name) ∧ (w.setCell ⟨g, n * 4, none⟩ (.string x.name)).cell? ⟨g, n * 4 + 1, none⟩ = some (.int .u16 (rs[n].seq : Int)) ∧
      ((w.setCell ⟨g, n * 4, none⟩ (.string x.name)).setCell ⟨g, n * 4 + 1, none⟩ (.int .u16 (x.seq : Int))).cell? ⟨g, n * 4 + 2, none⟩ = some (.int .i64 rs[n].live) ∧
      (((w.setCell ⟨g, n * 4, none⟩ (.string x.name)).setCell ⟨g, n * 4 + 1, none⟩ (.int .u16 (x.seq : Int))).setCell ⟨g, n * 4 + 2, none⟩ (.int .i64 x.live)).cell? ⟨g, n * 4 + 3, none⟩ = some (.int .i16 rs[n].value)) ∧
    (w.frozen? ⟨g, n * 4, none⟩ = false ∧ (w.setCell ⟨g, n * 4, none⟩ (.string x.name)).frozen? ⟨g, n * 4 + 1, none⟩ = false ∧
      ((w.setCell ⟨g, n * 4, none⟩ (.string x.name)).setCell ⟨g, n * 4 + 1, none⟩ (.int .u16 (x.seq : Int))).frozen? ⟨g, n * 4 + 2, none⟩ = false ∧
      (((w.setCell ⟨g, n * 4, none⟩ (.string x.name)).setCell ⟨g, n * 4 + 1, none⟩ (.int .u16 (x.seq : Int))).setCell ⟨g, n * 4 + 2, none⟩ (.int .i64 x.live)).frozen? ⟨g, n * 4 + 3, none⟩ = false) ∧
    KUpd B kb o t cs a c ks w0 (some ⟨g, 0, none⟩) c' (rs.set n x) ((((w.setCell ⟨g, n * 4, none⟩ (.string x.name)).setCell ⟨g, n * 4 + 1, none⟩ (.int .u16 (x.seq : Int))).setCell ⟨g, n * 4 + 2, none⟩ (.int .i64 x.live)).setCell ⟨g, n * 4 + 3, none⟩ (.int .i16 x.value)) ∧
    w.grownBy ((((w.setCell ⟨g, n * 4, none⟩ (.string x.name)).setCell ⟨g, n * 4 + 1, none⟩ (.int .u16 (x.seq : Int))).setCell ⟨g, n * 4 + 2, none⟩ (.int .i64 x.live)).setCell ⟨g, n * 4 + 3, none⟩ (.int .i16 x.value)) (some g) := by
  have hat : ∀ j, j < 4 → (entCells rs)[n * 4 + j]? = (entCells1 rs[n])[j]? := fun j hj => entCells_at rs n hn j hj
  have r1 := h.store (n * 4) (.string x.name)
  have r2 := r1.store (n * 4 + 1) (.int .u16 (x.seq : Int))
  have r3 := r2.store (n * 4 + 2) (.int .i64 x.live)
  have r4 := r3.store (n * 4 + 3) (.int .i16 x.value)
  have q0 := (h.at'.at (n * 4) (by omega)).trans (hat 0 (by decide))
  have q1 := (r1.at'.at (n * 4 + 1) (by omega)).trans ((List.getElem?_set_ne (by omega)).trans (hat 1 (by decide)))
  have q2 := (r2.at'.at (n * 4 + 2) (by omega)).trans ((List.getElem?_set_ne (by omega)).trans ((List.getElem?_set_ne (by omega)).trans (hat 2 (by decide))))
  have q3 := (r3.at'.at (n * 4 + 3) (by omega)).trans ((List.getElem?_set_ne (by omega)).trans ((List.getElem?_set_ne (by omega)).trans ((List.getElem?_set_ne (by omega)).trans (hat 3 (by decide)))))
  have hgrow := grown_trans (grown_trans (grown_trans (grown_set w g (n * 4) (.string x.name)) (grown_set _ g (n * 4 + 1) (.int .u16 (x.seq : Int)))) (grown_set _ g (n * 4 + 2) (.int .i64 x.live))) (grown_set _ g (n * 4 + 3) (.int .i16 x.value))
  refine ⟨⟨q0, q1, q2, q3⟩, ⟨h.at'.frozenAt _, r1.at'.frozenAt _, r2.at'.frozenAt _, r3.at'.frozenAt _⟩, ?_, hgrow⟩
  rw [entFill rs n hn x] at r4
  have hl : rs.length = (rs.set n x).length := by rw [List.length_set]
  unfold KUpd
  rw [← hl]
  exact r4

theorem Tryz.infoEnt : (Tryz.prog.info? 184).map (fun i => (i.zero, i.size, i.bytes)) = some (some (.agg #[.string ⟨#[]⟩, .int .u16 0, .int .i64 0, .int .i16 0]), 4, 40) := by kernel_rfl

theorem ent_oneCell (r : EV) : ∀ u ∈ entCells1 r, u.oneCell' = true := by
  intro u hu
  simp [entCells1] at hu
  rcases hu with rfl | rfl | rfl | rfl <;> rfl

/-- Does an event count, by the keys' list? -/
def cntE (rs : List EV) (e : Ev) : Bool := if h : plcE rs e.key < rs.length then decide (0 < wrap16 ((e.seq : Int) - ((rs[plcE rs e.key]).seq : Int))) else true

theorem plcE_le (rs : List EV) (key : ByteArray) : plcE rs key ≤ rs.length := List.findIdx_le_length

set_option maxRecDepth 100000 in
set_option maxHeartbeats 1000000 in
theorem kcounts_any (B kb o : Nat) (t : TypeId) (cs : Array Value) (a : Option Addr) (c : Nat) (rs : List EV) (e : Ev) (w : World) (hlen : rs.length ≤ 1000) (hK : KAt B kb o t cs a c rs w) :
    Calls Tryz.prog 98 #[.pointer (some ⟨kb, o, none⟩), e.value] w fun en w' => en = .returned (.bool (cntE rs e)) ∧ Below w.heap.size w w' := by
  obtain ⟨op, key, seq, val⟩ := e
  unfold cntE
  simp only
  have HK := show Hid _ from hK.alloc (.cells #[.int .u8 (op : Int), .string key, .int .u16 (seq : Int), .int .i16 val] 41)
  have heb := heap_alloc_new w (.cells #[.int .u8 (op : Int), .string key, .int .u16 (seq : Int), .int .i16 val] 41)
  have Hb := show Hid _ from (Below.refl w.heap.size w).alloc (Nat.le_refl _) (.cells #[.int .u8 (op : Int), .string key, .int .u16 (seq : Int), .int .i16 val] 41)
  clear hK
  have HP := show Hid _ from fun (w : World) (hb : w.cell? ⟨kb, o, none⟩ = some (.slice a rs.length c)) (ho : w.ownsRow B 184 4 (.slice a rs.length c) rs.length (entCells rs)) => kplace_any kb o a c rs key B w hlen hb ho
  unfold Ev.value
  by_cases hm : plcE rs key < rs.length
  · rw [dif_pos hm]
    have hN : Hid (∀ w, Calls Tryz.prog 119 #[.int .u16 (seq : Int), .int .u16 ((rs[plcE rs key]'hm).seq : Int)] w fun en w' => en = .returned (.bool (decide (0 < wrap16 ((seq : Int) - ((rs[plcE rs key]'hm).seq : Int))))) ∧ ∃ m, w' = w.drewN m) := by
      intro w
      exact (newer_any seq (rs[plcE rs key]'hm).seq w).mono fun en w' ⟨h1, h2⟩ => ⟨h1, 0, by rw [h2]; rfl⟩
    have hat := entCells_at rs (plcE rs key) hm 1 (by decide)
    have e1 : (entCells1 (rs[plcE rs key]'hm))[1]? = some (.int .u16 ((rs[plcE rs key]'hm).seq : Int)) := rfl
    rw [e1] at hat
    clear e1
    generalize decide (0 < wrap16 ((seq : Int) - ((rs[plcE rs key]'hm).seq : Int))) = ans at hN
    generalize (rs[plcE rs key]'hm).seq = q at hN hat
    generalize plcE rs key = m at hm hat HP
    rcases own_addr HK.out.own with ⟨_, h0⟩ | ⟨g, rfl⟩
    · omega
    go_enter Tryz.func98, Tryz.ntmps98
    go_wp2_with fail
    generalize (w.alloc (.cells #[.int .u8 (op : Int), .string key, .int .u16 (seq : Int), .int .i16 val] 41)) = w1 at HK heb Hb ⊢
    refine (HP.out w1 HK.out.cell HK.out.own).mono ?_
    rintro en w2 ⟨rfl, rfl⟩
    have hkc := HK.out.cell
    have hsq : w2.cell? ⟨w.heap.size, 2, none⟩ = some (.int .u16 (seq : Int)) := row_cell heb 2
    have hrq : w2.cell? ⟨g, m * 4 + 1, none⟩ = some (.int .u16 (q : Int)) := (HK.out.at (m * 4 + 1) (by omega)).trans hat
    have hne : ((m : Int) == (rs.length : Int)) = false := by rw [beq_eq_false_iff_ne]; omega
    have hmi : (m : Int) < (rs.length : Int) := by omega
    have hm0 : (0 : Int) ≤ (m : Int) := by omega
    clear HP hat heb HK hm
    go_wp2
    go_quiet (first | (go_at_call 119; refine Calls.quiet_of (hN.out _)))
    go_wp2
    go_ret
    exact ⟨rfl, below_drewN Hb.out nq⟩
  · rw [dif_neg hm]
    have hmm : plcE rs key = rs.length := by have := plcE_le rs key; omega
    generalize plcE rs key = m at hmm HP
    go_enter Tryz.func98, Tryz.ntmps98
    go_wp2_with fail
    generalize (w.alloc (.cells #[.int .u8 (op : Int), .string key, .int .u16 (seq : Int), .int .i16 val] 41)) = w1 at HK heb Hb ⊢
    refine (HP.out w1 HK.out.cell HK.out.own).mono ?_
    rintro en w2 ⟨rfl, rfl⟩
    have hkc := HK.out.cell
    have hne : ((m : Int) == (rs.length : Int)) = true := by rw [beq_iff_eq]; omega
    clear HP heb HK hmm hm
    go_wp2
    go_quiet (fail)
    go_wp2
    go_ret
    exact ⟨rfl, below_drewN Hb.out nq⟩

end Go.Proofs.YthccpacmklhejaaGreatDoor
