/-
  canalref.Text.
-/
import Derived.Test.YthccpacmklhejaaGreatDoorFoldMath3
import Derived.Test.YthccpacmklhejaaGreatDoorKeep
import Derived.Laws.MakeOwn
namespace Go.Proofs.YthccpacmklhejaaGreatDoor
open Go.RowKit

def sCells (ts : List (List UInt8)) : List Value := ts.map fun t => .string ⟨t.toArray⟩

theorem Tryz.infoStr : (Tryz.prog.info? 9).map (fun i => (i.zero, i.size, i.bytes)) = some (some (.string ⟨#[]⟩), 1, 16) := by kernel_rfl

theorem made_strs (n : Nat) : madeCells (Value.string ⟨#[]⟩).cells n = Array.replicate n (.string ⟨#[]⟩) := by
  apply Array.ext
  · simp [madeCells]
  · intro i h1 h2
    simp [madeCells, Value.cells, Nat.mod_one]

/-- A new list of strings. -/
theorem make_strs (w : World) (n : Nat) (hn : n ≤ 1000) : ∃ w', (∀ kl kc, (Instr.makeSlice 135 (.int kl (n : Int)) (.int kc (n : Int))).run Tryz.prog w = .ok (.slice (some ⟨w.heap.size, 0, none⟩) n n) w') ∧ w'.ownsRow w.heap.size 9 1 (.slice (some ⟨w.heap.size, 0, none⟩) n n) n (sCells (List.replicate n [])) ∧ Below w.heap.size w w' := by
  obtain ⟨i, hi, hz, hs, hb⟩ := info_parts Tryz.infoStr
  refine ⟨w.alloc (.cells (madeCells (Value.string ⟨#[]⟩).cells n) 9), fun kl kc => ?_, ?_, (Below.refl _ _).alloc (Nat.le_refl _) _⟩
  · have := run_make (P := Tryz.prog) w 135 9 i (.string ⟨#[]⟩) Tryz.underlying135 hi hz kl kc (n : Int) (n : Int) (by omega) (Int.le_refl _) (by rw [hb]; omega) (by omega)
    rw [hs] at this
    simpa using this
  · refine ⟨by simp [sCells], .inr ⟨w.heap.size, n, madeCells (Value.string ⟨#[]⟩).cells n, rfl, Nat.le_refl _, heap_alloc_new w _, Nat.le_refl _, by unfold maxLen; omega, by rw [size_madeCells]; omega, ?_⟩⟩
    rw [made_strs]
    simp [sCells]

theorem rank_lt {rs : List RowV} {j : Nat} (h : j < rs.length) : rankR rs (rs[j]).pt < rs.length := by
  unfold rankR
  have h1 := List.countP_le_length (p := fun q : RowV => decide (q.pt < (rs[j]).pt)) (l := rs)
  rcases Nat.lt_or_eq_of_le h1 with h2 | h2
  · exact h2
  · have := List.countP_eq_length.1 h2 rs[j] (List.getElem_mem h)
    simp at this

/-- How many of the first rows are below a point. -/
def cntK (rs : List RowV) (p k : Nat) : Nat := (rs.take k).countP (fun q => decide (q.pt < p))

theorem cntK_succ (rs : List RowV) (p k : Nat) (h : k < rs.length) : cntK rs p (k + 1) = cntK rs p k + (if (rs[k]).pt < p then 1 else 0) := by
  unfold cntK
  rw [List.take_succ_eq_append_getElem h, List.countP_append]
  congr 1
  simp [List.countP_cons]

theorem cntK_zero (rs : List RowV) (p : Nat) : cntK rs p 0 = 0 := by simp [cntK]
theorem cntK_full (rs : List RowV) (p : Nat) : cntK rs p rs.length = rankR rs p := by simp [cntK, rankR]
theorem cntK_le (rs : List RowV) (p k : Nat) : cntK rs p k ≤ k := by
  unfold cntK
  have h1 := List.countP_le_length (p := fun x : RowV => decide (x.pt < p)) (l := rs.take k)
  have h2 := List.length_take_le k rs
  omega

theorem decI_len (n : Int) (h1 : -100000 ≤ n) (h2 : n ≤ 100000) : (decI n).length ≤ 8 := by
  unfold decI
  split
  · have := decN_length 6 (-n).toNat (by omega)
    simp
    omega
  · have := decN_length 6 n.toNat (by omega)
    omega

def TB (r : RowV) : Prop := r.live ≤ 1000 ∧ r.ev ≤ 1000000 ∧ r.tx.size ≤ 1000

theorem rowText_length {r : RowV} (h : TB r) : (rowText r).length ≤ 2000 := by
  unfold rowText
  have h2 := decI_len (r.live : Int) (by omega) (by have := h.1; omega)
  have h3 := decI_len (wrap16 r.sum) (by have := wrap16_range r.sum; omega) (by have := wrap16_range r.sum; omega)
  have h4 := decI_len ((r.ev : Int) % 256) (by omega) (by omega)
  have h5 := h.2.2
  rw [← size_list] at h5
  simp only [List.length_append, List.length_cons, List.length_nil]
  omega

theorem placed_bound {rs : List RowV} (h : ∀ r ∈ rs, TB r) (i : Nat) : ∀ t ∈ placed rs i, t.length ≤ 2000 := by
  have : ∀ (l : List RowV), (∀ r ∈ l, TB r) → ∀ t ∈ l.foldl (fun ts r => ts.set (rankR rs r.pt) (rowText r)) (List.replicate rs.length []), t.length ≤ 2000 := by
    intro l
    induction l using snoc_ind with
    | h0 =>
      intro _ t ht
      simp at ht
      simp [ht.2]
    | h1 l x ih =>
      intro hl t ht
      rw [List.foldl_append] at ht
      rcases List.mem_or_eq_of_mem_set ht with ht | rfl
      · exact ih (fun r hr => hl r (by simp [hr])) t ht
      · exact rowText_length (hl x (by simp))
  exact this (rs.take i) fun r hr => h r (List.mem_of_mem_take hr)

theorem flat_length : ∀ (ts : List (List UInt8)), (∀ t ∈ ts, t.length ≤ 2000) → ts.flatten.length ≤ 2000 * ts.length
  | [], _ => by simp
  | t :: ts, h => by
    have := flat_length ts fun x hx => h x (by simp [hx])
    have := h t (by simp)
    simp only [List.flatten_cons, List.length_append, List.length_cons]
    omega

set_option maxRecDepth 100000 in
set_option maxHeartbeats 2000000 in
theorem rtext_any (B : Nat) (a : Option Addr) (c : Nat) (rs : List RowV) (w : World) (hlen : rs.length ≤ 1000) (hown : w.ownsRow B 137 5 (.slice a rs.length c) rs.length (rowCells rs)) (hb : ∀ r ∈ rs, TB r) :
    Calls Tryz.prog 41 #[.slice a rs.length c] w fun en w' => en = .returned (.string ⟨((placed rs rs.length).flatten).toArray⟩) ∧ Below w.heap.size w w' := by
  have HR := show Hid (w.ownsRow B 137 5 (.slice a rs.length c) rs.length (rowCells rs)) from hown
  clear hown
  obtain ⟨w1, hmk, ho1, hb1⟩ := make_strs w rs.length hlen
  have H0 := show Hid (_ ∧ _) from And.intro ho1 hb1
  clear ho1 hb1
  go_enter Tryz.func41, Tryz.ntmps41
  go_wp2
  clear hmk
  go_loopw [4] (fun i wr => ∃ j : Nat, j ≤ rs.length ∧ i = .int .i64 (j : Int) ∧ wr.ownsRow w.heap.size 9 1 (.slice (some ⟨w.heap.size, 0, none⟩) rs.length rs.length) rs.length (sCells (placed rs j)) ∧ Below w.heap.size w wr) (fun i _ => rs.length - (intOf i).toNat)
  case atStart => exact ⟨0, Nat.zero_le _, rfl, H0.out.1, H0.out.2⟩
  case round =>
    obtain ⟨j, hj, rfl, hor, hbr⟩ := hrel
    clear H0
    have HO := show Hid (_ ∧ _) from And.intro hor hbr
    have HRr := show Hid _ from fun (_ : Unit) => own_below HR.out hbr
    clear hor hbr
    by_cases hjl : j < rs.length
    · have hji : (j : Int) < (rs.length : Int) := by omega
      have hj0 : (0 : Int) ≤ (j : Int) := by omega
      rcases own_addr HR.out with ⟨_, h0⟩ | ⟨g, rfl⟩
      · omega
      have hcell : ∀ k (hk : k < rs.length) q, wr.cell? ⟨g, k * 5 + q, none⟩ = (rowCells1 rs[k])[q]? ∨ ¬ q < 5 := by
        intro k hk q
        by_cases hq : q < 5
        · exact .inl (((HRr.out ()).cellAt (k * 5 + q) (by omega)).trans (rowCells_at rs k hk q hq))
        · exact .inr hq
      have Hc := show Hid _ from hcell
      clear hcell
      have c0 : wr.cell? ⟨g, j * 5, none⟩ = some (.int .i64 ((rs[j]'hjl).pt : Int)) := (Hc.out j hjl 0).resolve_right (by simp)
      go_wp2
      go_loopw [5, 6] (fun m k wq => ∃ (kk : Nat), kk ≤ rs.length ∧ k = .int .i64 (kk : Int) ∧ m = .int .i64 ((cntK rs (rs[j]'hjl).pt kk : Nat) : Int) ∧ ∃ q, wq = wr.drewN q) (fun _ k _ => rs.length - (intOf k).toNat)
      case atStart => exact ⟨0, Nat.zero_le _, rfl, by rw [cntK_zero]; rfl, 0, rfl⟩
      case round =>
        obtain ⟨kk, hk, rfl, rfl, q, rfl⟩ := hrel
        by_cases hkl : kk < rs.length
        · have hki : (kk : Int) < (rs.length : Int) := by omega
          have hk0 : (0 : Int) ≤ (kk : Int) := by omega
          have d0 : wr.cell? ⟨g, kk * 5, none⟩ = some (.int .i64 ((rs[kk]'hkl).pt : Int)) := (Hc.out kk hkl 0).resolve_right (by simp)
          have hsu := cntK_succ rs (rs[j]'hjl).pt kk hkl
          have hcl := cntK_le rs (rs[j]'hjl).pt kk
          by_cases hlt : (rs[kk]'hkl).pt < (rs[j]'hjl).pt
          · have hlti : ((rs[kk]'hkl).pt : Int) < ((rs[j]'hjl).pt : Int) := by omega
            rw [if_pos hlt] at hsu
            have Hsu := show Hid _ from hsu
            clear hsu hlt
            go_wp2
            go_quiet (fail)
            go_wp2
            go_roundw
            case rel => exact ⟨kk + 1, by omega, by go_num, by rw [Hsu.out]; go_num, q + nq, by simp [World.drewN]⟩
            case measure => simp [intOf]; omega
          · have hlti : ¬ (((rs[kk]'hkl).pt : Int) < ((rs[j]'hjl).pt : Int)) := by omega
            rw [if_neg hlt] at hsu
            have Hsu := show Hid _ from hsu
            clear hsu hlt
            go_wp2
            go_quiet (fail)
            go_wp2
            go_roundw
            case rel => exact ⟨kk + 1, by omega, by go_num, by rw [Hsu.out]; rfl, q + nq, by simp [World.drewN]⟩
            case measure => simp [intOf]; omega
        · have hkk : kk = rs.length := by omega
          subst hkk
          rw [cntK_full]
          have hrl := rank_lt hjl
          have hpl := placed_succ rs j hjl
          have hbj := hb _ (List.getElem_mem hjl)
          have c1 : (wr.drewN q).cell? ⟨g, j * 5, none⟩ = some (.int .i64 ((rs[j]'hjl).pt : Int)) := c0
          have c2 : (wr.drewN q).cell? ⟨g, j * 5 + 1, none⟩ = some (.string (rs[j]'hjl).tx) := (Hc.out j hjl 1).resolve_right (by simp)
          have c3 : (wr.drewN q).cell? ⟨g, j * 5 + 2, none⟩ = some (.int .i64 ((rs[j]'hjl).live : Int)) := (Hc.out j hjl 2).resolve_right (by simp)
          have c4 : (wr.drewN q).cell? ⟨g, j * 5 + 3, none⟩ = some (.int .i64 (rs[j]'hjl).sum) := (Hc.out j hjl 3).resolve_right (by simp)
          have c5 : (wr.drewN q).cell? ⟨g, j * 5 + 4, none⟩ = some (.int .i64 ((rs[j]'hjl).ev : Int)) := (Hc.out j hjl 4).resolve_right (by simp)
          have HOq := show Hid (_ ∧ _) from And.intro (own_dn HO.out.1 q) (below_drewN HO.out.2 q)
          clear c0 HO Hc HRr
          generalize wr.drewN q = wq at c1 c2 c3 c4 c5 HOq ⊢
          generalize rankR rs (rs[j]'hjl).pt = n at hrl hpl ⊢
          generalize rs[j]'hjl = r at c1 c2 c3 c4 c5 hpl hbj
          obtain ⟨rp, rt, rl, rsm, re⟩ := r
          obtain ⟨b1, b2, b3⟩ := hbj
          simp only at c1 c2 c3 c4 c5 b1 b2 b3
          have hfin : ((((((rt ++ ⟨#[32]⟩ ++ ⟨(decI (rl : Int)).toArray⟩) ++ ⟨#[32]⟩) ++ ⟨(decI (wrap16 rsm)).toArray⟩) ++ ⟨#[32]⟩) ++ ⟨(decI ((re : Int) % 256)).toArray⟩) ++ ⟨#[59]⟩) = (⟨(rowText ⟨rp, rt, rl, rsm, re⟩).toArray⟩ : ByteArray) := by
            apply ba_ext
            unfold rowText
            simp
          have Hfin := show Hid _ from hfin
          clear hfin
          have hwr := wrap16_range rsm
          have h1 := show Hid _ from fun w => decimal_any (rl : Int) w (by omega) (by omega)
          have h2 := show Hid _ from fun w => decimal_any (wrap16 rsm) w (by omega) (by omega)
          have h3 := show Hid _ from fun w => decimal_any ((re : Int) % 256) w (by omega) (by omega)
          have hW := show Hid _ from fun w => wrap_any rsm w
          have hL := decI_len (rl : Int) (by omega) (by omega)
          have hSl := decI_len (wrap16 rsm) (by omega) (by omega)
          have hV := decI_len ((re : Int) % 256) (by omega) (by omega)
          have hq : (re : Int).tmod 256 = (re : Int) % 256 := Int.tmod_eq_emod_of_nonneg (by omega)
          generalize decI (rl : Int) = L at hL h1 Hfin
          generalize decI (wrap16 rsm) = S0 at hSl h2 Hfin
          generalize decI ((re : Int) % 256) = V at hV h3 Hfin
          have hLs : (⟨L.toArray⟩ : ByteArray).size = L.length := by simp [ByteArray.size]
          have hSs : (⟨S0.toArray⟩ : ByteArray).size = S0.length := by simp [ByteArray.size]
          have hVs : (⟨V.toArray⟩ : ByteArray).size = V.length := by simp [ByteArray.size]
          have h32 : (⟨#[32]⟩ : ByteArray).size = 1 := rfl
          have h59 : (⟨#[59]⟩ : ByteArray).size = 1 := rfl
          generalize (⟨L.toArray⟩ : ByteArray) = BL at hLs h1 Hfin
          generalize (⟨S0.toArray⟩ : ByteArray) = BS at hSs h2 Hfin
          generalize (⟨V.toArray⟩ : ByteArray) = BV at hVs h3 Hfin
          have Hpl := show Hid _ from hpl
          clear hpl
          have hni : (n : Int) < (rs.length : Int) := by omega
          have hn0 : (0 : Int) ≤ (n : Int) := by omega
          have HO := HOq
          clear HOq
          go_wp2
          clear c1 c2 c3 c4 c5
          have hS0 : (wq.alloc (.cells #[.int .i64 (rp : Int), .string rt, .int .i64 (rl : Int), .int .i64 rsm, .int .i64 (re : Int)] 137)).drew.heap[wq.heap.size]? = some (.cells #[.int .i64 (rp : Int), .string rt, .int .i64 (rl : Int), .int .i64 rsm, .int .i64 (re : Int)] 137 (0, 0)) := heap_alloc_new wq _
          have HO2 := show Hid (_ ∧ _) from And.intro (own_d1 (HO.out.1.alloc (.cells #[.int .i64 (rp : Int), .string rt, .int .i64 (rl : Int), .int .i64 rsm, .int .i64 (re : Int)] 137))) (HO.out.2.alloc (by have := HO.out.2.size; omega) (.cells #[.int .i64 (rp : Int), .string rt, .int .i64 (rl : Int), .int .i64 rsm, .int .i64 (re : Int)] 137)).drew
          have hrb : w.heap.size < wq.heap.size := (own_lt HO.out.1).2
          clear HO
          refine wp_region_held_drew (S := fun w' : World => w'.heap[wq.heap.size]? = some (.cells #[.int .i64 (rp : Int), .string rt, .int .i64 (rl : Int), .int .i64 rsm, .int .i64 (re : Int)] 137 (0, 0))) (by kernel_rfl) hS0 (fun hH => ?_)
          generalize (wq.alloc (.cells #[.int .i64 (rp : Int), .string rt, .int .i64 (rl : Int), .int .i64 rsm, .int .i64 (re : Int)] 137)).drew = wd at HO2 hH ⊢
          clear hS0
          generalize wq.heap.size = rb at hH hrb ⊢
          refine wpAnyH_take (i := 0) (v := (.slice (some ⟨w.heap.size, 0, none⟩) rs.length rs.length)) rfl (by kernel_rfl) (by kernel_rfl) (by kernel_rfl) (fun _ _ _ h => h) (Or.inl ⟨by rfl, by intro v hSw; clear hSw; go_simp⟩) hH ?_
          refine wpAnyH_take (i := 1) (v := (.int .i64 (n : Int))) rfl (by kernel_rfl) (by kernel_rfl) (by kernel_rfl) (fun _ _ _ h => h) (Or.inl ⟨by rfl, by intro v hSw; clear hSw; go_simp⟩) hH ?_
          refine wpAnyH_take (i := 2) (v := (.pointer (some ⟨rb, 1, none⟩))) rfl (by kernel_rfl) (by kernel_rfl) (by kernel_rfl) (fun _ _ _ h => h) (Or.inl ⟨by rfl, by intro v hSw; clear hSw; go_simp⟩) hH ?_
          refine wpAnyH_take (i := 3) (v := (.string rt)) rfl (by kernel_rfl) (by kernel_rfl) (by kernel_rfl) (fun _ _ _ h => h) (Or.inl ⟨by rfl, by intro v hSw; have s0 : v.cell? ⟨rb, 1, none⟩ = some (.string rt) := row_cell hSw 1; clear hSw; go_simp⟩) hH ?_
          refine wpAnyH_take (i := 4) (v := (.string (rt ++ ⟨#[32]⟩))) rfl (by kernel_rfl) (by kernel_rfl) (by kernel_rfl) (fun _ _ _ h => h) (Or.inl ⟨by rfl, by intro v hSw; clear hSw; go_simp; omega⟩) hH ?_
          refine wpAnyH_take (i := 5) (v := (.pointer (some ⟨rb, 2, none⟩))) rfl (by kernel_rfl) (by kernel_rfl) (by kernel_rfl) (fun _ _ _ h => h) (Or.inl ⟨by rfl, by intro v hSw; clear hSw; go_simp⟩) hH ?_
          refine wpAnyH_take (i := 6) (v := (.int .i64 (rl : Int))) rfl (by kernel_rfl) (by kernel_rfl) (by kernel_rfl) (fun _ _ _ h => h) (Or.inl ⟨by rfl, by intro v hSw; have s0 : v.cell? ⟨rb, 2, none⟩ = some (.int .i64 (rl : Int)) := row_cell hSw 2; clear hSw; go_simp⟩) hH ?_
          refine wpAnyH_take (i := 10) (v := (.pointer (some ⟨rb, 3, none⟩))) rfl (by kernel_rfl) (by kernel_rfl) (by kernel_rfl) (fun _ _ _ h => h) (Or.inl ⟨by rfl, by intro v hSw; clear hSw; go_simp⟩) hH ?_
          refine wpAnyH_take (i := 11) (v := (.int .i64 rsm)) rfl (by kernel_rfl) (by kernel_rfl) (by kernel_rfl) (fun _ _ _ h => h) (Or.inl ⟨by rfl, by intro v hSw; have s0 : v.cell? ⟨rb, 3, none⟩ = some (.int .i64 rsm) := row_cell hSw 3; clear hSw; go_simp⟩) hH ?_
          refine wpAnyH_take (i := 16) (v := (.pointer (some ⟨rb, 4, none⟩))) rfl (by kernel_rfl) (by kernel_rfl) (by kernel_rfl) (fun _ _ _ h => h) (Or.inl ⟨by rfl, by intro v hSw; clear hSw; go_simp⟩) hH ?_
          refine wpAnyH_take (i := 17) (v := (.int .i64 (re : Int))) rfl (by kernel_rfl) (by kernel_rfl) (by kernel_rfl) (fun _ _ _ h => h) (Or.inl ⟨by rfl, by intro v hSw; have s0 : v.cell? ⟨rb, 4, none⟩ = some (.int .i64 (re : Int)) := row_cell hSw 4; clear hSw; go_simp⟩) hH ?_
          refine wpAnyH_take (i := 18) (v := (.int .i64 ((re : Int) % 256))) rfl (by kernel_rfl) (by kernel_rfl) (by kernel_rfl) (fun _ _ _ h => h) (Or.inl ⟨by rfl, by intro v hSw; clear hSw; go_simp⟩) hH ?_
          refine wpAnyH_ready (rs := [7]) (by kernel_rfl) (by simp) ?_
          refine AllReadyH.cons rfl (fun K hK => ?_) AllReadyH.nil
          have HS := show Hid (_ = _) from hH
          clear hH
          go_simp
          go_wp2_with (go_at_call 67; refine (h1.out _).mono ?_; rintro en w2 ⟨rfl, mw2, rfl⟩)
          refine hK.out _ _ HS.out (fun hH => ?_)
          clear hK K HS
          refine wpAnyH_take (i := 8) (v := (.string (rt ++ ⟨#[32]⟩ ++ BL))) rfl (by kernel_rfl) (by kernel_rfl) (by kernel_rfl) (fun _ _ _ h => h) (Or.inl ⟨by rfl, by intro v hSw; clear hSw; go_simp; omega⟩) hH ?_
          refine wpAnyH_take (i := 9) (v := (.string (rt ++ ⟨#[32]⟩ ++ BL ++ ⟨#[32]⟩))) rfl (by kernel_rfl) (by kernel_rfl) (by kernel_rfl) (fun _ _ _ h => h) (Or.inl ⟨by rfl, by intro v hSw; clear hSw; go_simp; omega⟩) hH ?_
          refine wpAnyH_ready (rs := [12]) (by kernel_rfl) (by simp) ?_
          refine AllReadyH.cons rfl (fun K hK => ?_) AllReadyH.nil
          have HS := show Hid (_ = _) from hH
          clear hH
          go_simp
          go_wp2_with (go_at_call 68; refine (hW.out _).mono ?_; rintro en w3 ⟨rfl, rfl⟩)
          refine hK.out _ _ HS.out (fun hH => ?_)
          clear hK K HS
          refine wpAnyH_ready (rs := [13]) (by kernel_rfl) (by simp) ?_
          refine AllReadyH.cons rfl (fun K hK => ?_) AllReadyH.nil
          have HS := show Hid (_ = _) from hH
          clear hH
          go_simp
          go_wp2_with (go_at_call 67; refine (h2.out _).mono ?_; rintro en w4 ⟨rfl, mw4, rfl⟩)
          refine hK.out _ _ HS.out (fun hH => ?_)
          clear hK K HS
          refine wpAnyH_take (i := 14) (v := (.string (rt ++ ⟨#[32]⟩ ++ BL ++ ⟨#[32]⟩ ++ BS))) rfl (by kernel_rfl) (by kernel_rfl) (by kernel_rfl) (fun _ _ _ h => h) (Or.inl ⟨by rfl, by intro v hSw; clear hSw; go_simp; omega⟩) hH ?_
          refine wpAnyH_take (i := 15) (v := (.string (rt ++ ⟨#[32]⟩ ++ BL ++ ⟨#[32]⟩ ++ BS ++ ⟨#[32]⟩))) rfl (by kernel_rfl) (by kernel_rfl) (by kernel_rfl) (fun _ _ _ h => h) (Or.inl ⟨by rfl, by intro v hSw; clear hSw; go_simp; omega⟩) hH ?_
          refine wpAnyH_ready (rs := [19]) (by kernel_rfl) (by simp) ?_
          refine AllReadyH.cons rfl (fun K hK => ?_) AllReadyH.nil
          have HS := show Hid (_ = _) from hH
          clear hH
          go_simp
          go_wp2_with (go_at_call 67; refine (h3.out _).mono ?_; rintro en w5 ⟨rfl, mw5, rfl⟩)
          refine hK.out _ _ HS.out (fun hH => ?_)
          clear hK K HS
          refine wpAnyH_take (i := 20) (v := (.string (rt ++ ⟨#[32]⟩ ++ BL ++ ⟨#[32]⟩ ++ BS ++ ⟨#[32]⟩ ++ BV))) rfl (by kernel_rfl) (by kernel_rfl) (by kernel_rfl) (fun _ _ _ h => h) (Or.inl ⟨by rfl, by intro v hSw; clear hSw; go_simp; omega⟩) hH ?_
          refine wpAnyH_take (i := 21) (v := (.string (rt ++ ⟨#[32]⟩ ++ BL ++ ⟨#[32]⟩ ++ BS ++ ⟨#[32]⟩ ++ BV ++ ⟨#[59]⟩))) rfl (by kernel_rfl) (by kernel_rfl) (by kernel_rfl) (fun _ _ _ h => h) (Or.inl ⟨by rfl, by intro v hSw; clear hSw; go_simp; omega⟩) hH ?_
          refine wpAnyH_take (i := 22) (v := (.pointer (some ⟨w.heap.size, n, none⟩))) rfl (by kernel_rfl) (by kernel_rfl) (by kernel_rfl) (fun _ _ _ h => h) (Or.inl ⟨by rfl, by intro v hSw; clear hSw; go_simp⟩) hH ?_
          refine wpAnyH_ready (rs := [23]) (by kernel_rfl) (by simp) ?_
          refine AllReadyH.cons rfl (fun K hK => ?_) AllReadyH.nil
          have HS := show Hid (_ = _) from hH
          clear hH
          have HO3 := show Hid (_ ∧ _) from And.intro (own_dn HO2.out.1 (mw2 + mw4 + mw5)) (below_drewN HO2.out.2 (mw2 + mw4 + mw5))
          clear HO2 h1 h2 h3 hW
          generalize wd.drewN (mw2 + mw4 + mw5) = wx at HO3 HS ⊢
          have hr1 := HO3.out.1.stored n (.string (rt ++ ⟨#[32]⟩ ++ BL ++ ⟨#[32]⟩ ++ BS ++ ⟨#[32]⟩ ++ BV ++ ⟨#[59]⟩))
          have he : (sCells (placed rs j)).set n (.string (rt ++ ⟨#[32]⟩ ++ BL ++ ⟨#[32]⟩ ++ BS ++ ⟨#[32]⟩ ++ BV ++ ⟨#[59]⟩)) = sCells (placed rs (j + 1)) := by
            rw [Hpl.out, Hfin.out]
            unfold sCells
            rw [List.map_set]
          rw [he] at hr1
          obtain ⟨u, hu⟩ : ∃ u, (sCells (placed rs j))[n]? = some u := ⟨_, List.getElem?_eq_getElem (by unfold sCells; rw [List.length_map, placed_length]; omega)⟩
          have s0 : wx.cell? ⟨w.heap.size, n, none⟩ = some u := (HO3.out.1.cellAt n (by omega)).trans hu
          have z0 : wx.frozen? ⟨w.heap.size, n, none⟩ = false := HO3.out.1.frozenAt n
          have HN := show Hid (_ ∧ _ ∧ _) from And.intro hr1.1 (And.intro (HO3.out.2.setCell (p := ⟨w.heap.size, n, none⟩) (Nat.le_refl _) (.string (rt ++ ⟨#[32]⟩ ++ BL ++ ⟨#[32]⟩ ++ BS ++ ⟨#[32]⟩ ++ BV ++ ⟨#[59]⟩))) ((hr1.2.block rb (heap_lt HS.out) (by simp only [ne_eq, Option.some.injEq]; omega)).trans HS.out))
          clear hr1 he hu HO3 HS Hpl Hfin
          go_simp
          refine hK.out _ _ HN.out.2.2 (fun hH => ?_)
          clear hK K hH s0 z0
          refine wpAnyH_done (by kernel_rfl) ?_ _
          generalize wx.setCell ⟨w.heap.size, n, none⟩ (.string (rt ++ ⟨#[32]⟩ ++ BL ++ ⟨#[32]⟩ ++ BS ++ ⟨#[32]⟩ ++ BV ++ ⟨#[59]⟩)) = wy at HN ⊢
          go_wp2
          go_roundw
          case rel => exact ⟨j + 1, by omega, by go_num, HN.out.1, HN.out.2.1⟩
          case measure => simp [intOf]; omega
    · have hjj : j = rs.length := by omega
      subst hjj
      have hpb := placed_bound hb rs.length
      have hpn := placed_length rs rs.length
      obtain ⟨ts, hts⟩ : ∃ ts, placed rs rs.length = ts := ⟨_, rfl⟩
      rw [hts] at HO hpb hpn
      have Hts := show Hid _ from hts
      clear hts
      clear HR HRr
      have hoc : ∀ k (hk : k < ts.length), wr.cell? ⟨w.heap.size, k, none⟩ = some (.string ⟨ts[k].toArray⟩) := by
        intro k hk
        refine (HO.out.1.cellAt k (by omega)).trans ?_
        unfold sCells
        rw [List.getElem?_map, List.getElem?_eq_getElem hk]
        rfl
      have Hoc := show Hid _ from hoc
      clear hoc
      go_wp2
      go_loopw [8, 9] (fun t i wv => ∃ (k : Nat) (tx : ByteArray), k ≤ rs.length ∧ i = .int .i64 (k : Int) ∧ t = .string tx ∧ Hid (tx.data.toList = (ts.take k).flatten) ∧ wv = wr) (fun _ i _ => rs.length - (intOf i).toNat)
      case atStart => exact ⟨0, ⟨#[]⟩, Nat.zero_le _, rfl, rfl, by show _ = _; simp, rfl⟩
      case round =>
        obtain ⟨k, tx, hk, rfl, rfl, htx, rfl⟩ := hrel
        by_cases hkl : k < rs.length
        · have hkt : k < ts.length := by omega
          have c0 := Hoc.out k hkt
          have hl := hpb _ (List.getElem_mem hkt)
          have hsz : tx.size ≤ 2000 * 1000 := by
            rw [← size_list, htx.out]
            have h1 := flat_length (ts.take k) fun x hx => hpb x (List.mem_of_mem_take hx)
            have h2 := List.length_take_le k ts
            omega
          have hnx : (ts.take (k + 1)).flatten = (ts.take k).flatten ++ ts[k]'hkt := by
            rw [List.take_succ_eq_append_getElem hkt, List.flatten_append]
            simp
          have Hnx := show Hid _ from hnx
          clear hnx
          generalize ts[k]'hkt = L at c0 hl Hnx
          have hLs : (⟨L.toArray⟩ : ByteArray).size = L.length := by simp [ByteArray.size]
          have hLl : (⟨L.toArray⟩ : ByteArray).data.toList = L := by simp
          generalize (⟨L.toArray⟩ : ByteArray) = BL at hLs hLl c0
          have hki : (k : Int) < (rs.length : Int) := by omega
          have hk0 : (0 : Int) ≤ (k : Int) := by omega
          go_wp2
          go_roundw
          case rel => exact ⟨k + 1, tx ++ BL, by omega, by go_num, rfl, by show _ = _; rw [Hnx.out, ByteArray.data_append, Array.toList_append, htx.out, hLl], by first | trivial | rfl⟩
          case measure => simp [intOf]; omega
        · have hkk : k = rs.length := by omega
          have Ht := show Hid (tx = ⟨(ts.flatten).toArray⟩) from by
            show _ = _
            apply ba_ext
            rw [htx.out, hkk, ← hpn, List.take_length]
          go_wp2
          go_ret
          exact ⟨by rw [Hts.out, ← Ht.out]; rfl, HO.out.2⟩
end Go.Proofs.YthccpacmklhejaaGreatDoor
