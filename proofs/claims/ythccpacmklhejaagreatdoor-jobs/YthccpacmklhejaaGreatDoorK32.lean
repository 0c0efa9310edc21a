/-
  Several texts in one.
-/
import Derived.Test.YthccpacmklhejaaGreatDoorK07
import Derived.Test.YthccpacmklhejaaGreatDoorK08
import Derived.Laws.MakeOwn
import Derived.Test.YthccpacmklhejaaGreatDoorK14
import Derived.Test.YthccpacmklhejaaGreatDoorK31
import Derived.Test.YthccpacmklhejaaGreatDoorK30
namespace Go.Proofs.YthccpacmklhejaaGreatDoor
open Go.RowKit

def sCells (ts : List (List UInt8)) : List Value := ts.map fun t => .string ⟨t.toArray⟩

theorem Tryz.infoStr : (Tryz.prog.info? 9).map (fun i => (i.zero, i.size, i.bytes)) = some (some (.string ⟨#[]⟩), 1, 16) := by kernel_rfl

theorem made_strs (n : Nat) : madeCells (Value.string ⟨#[]⟩).cells n = Array.replicate n (.string ⟨#[]⟩) := by
  apply Array.ext
  · simp [madeCells]
  · intro i h1 h2
    simp [madeCells, Value.cells, Nat.mod_one]

/-- A new list of strings. -/
theorem make_strs (w : World) (n : Nat) (hn : n ≤ 1000) : ∃ w', (∀ kl kc, (Instr.makeSlice 135 (.int kl (n : Int)) (.int kc (n : Int))).run Tryz.prog w = .ok (.slice (some ⟨w.heap.size, 0, none⟩) n n) w') ∧ w'.ownsRow w.heap.size 9 1 (.slice (some ⟨w.heap.size, 0, none⟩) n n) n (sCells (List.replicate n [])) ∧ Below w.heap.size w w' := by
  obtain ⟨i, hi, hz, hs, hb⟩ := info_parts Tryz.infoStr
  refine ⟨w.alloc (.cells (madeCells (Value.string ⟨#[]⟩).cells n) 9), fun kl kc => ?_, ?_, (Below.refl _ _).alloc (Nat.le_refl _) _⟩
  · have := run_make (P := Tryz.prog) w 135 9 i (.string ⟨#[]⟩) Tryz.underlying135 hi hz kl kc (n : Int) (n : Int) (by omega) (Int.le_refl _) (by rw [hb]; omega) (by omega)
    rw [hs] at this
    simpa using this
  · refine ⟨by simp [sCells], .inr ⟨w.heap.size, n, madeCells (Value.string ⟨#[]⟩).cells n, rfl, Nat.le_refl _, heap_alloc_new w _, Nat.le_refl _, by unfold maxLen; omega, by rw [size_madeCells]; omega, ?_⟩⟩
    rw [made_strs]
    simp [sCells]

theorem rank_lt {rs : List RowV} {j : Nat} (h : j < rs.length) : rankR rs (rs[j]).pt < rs.length := by
  unfold rankR
  have h1 := List.countP_le_length (p := fun q : RowV => decide (q.pt < (rs[j]).pt)) (l := rs)
  rcases Nat.lt_or_eq_of_le h1 with h2 | h2
  · exact h2
  · have := List.countP_eq_length.1 h2 rs[j] (List.getElem_mem h)
    simp at this

/-- How many of the first rows are below a point. -/
def cntK (rs : List RowV) (p k : Nat) : Nat := (rs.take k).countP (fun q => decide (q.pt < p))

theorem cntK_succ (rs : List RowV) (p k : Nat) (h : k < rs.length) : cntK rs p (k + 1) = cntK rs p k + (if (rs[k]).pt < p then 1 else 0) := by
  unfold cntK
  rw [List.take_succ_eq_append_getElem h, List.countP_append]
  congr 1
  simp [List.countP_cons]

theorem cntK_zero (rs : List RowV) (p : Nat) : cntK rs p 0 = 0 := by simp [cntK]
theorem cntK_full (rs : List RowV) (p : Nat) : cntK rs p rs.length = rankR rs p := by simp [cntK, rankR]
theorem cntK_le (rs : List RowV) (p k : Nat) : cntK rs p k ≤ k := by
  unfold cntK
  have h1 := List.countP_le_length (p := fun x : RowV => decide (x.pt < p)) (l := rs.take k)
  have h2 := List.length_take_le k rs
  omega

theorem decI_len (n : Int) (h1 : -100000 ≤ n) (h2 : n ≤ 100000) : (decI n).length ≤ 8 := by
  unfold decI
  split
  · have := decN_length 6 (-n).toNat (by omega)
    simp
    omega
  · have := decN_length 6 n.toNat (by omega)
    omega

def TB (r : RowV) : Prop := r.live ≤ 1000 ∧ r.ev ≤ 1000000 ∧ r.tx.size ≤ 1000

theorem rowText_length {r : RowV} (h : TB r) : (rowText r).length ≤ 2000 := by
  unfold rowText
  have h2 := decI_len (r.live : Int) (by omega) (by have := h.1; omega)
  have h3 := decI_len (wrap16 r.sum) (by have := wrap16_range r.sum; omega) (by have := wrap16_range r.sum; omega)
  have h4 := decI_len ((r.ev : Int) % 256) (by omega) (by omega)
  have h5 := h.2.2
  rw [← size_list] at h5
  simp only [List.length_append, List.length_cons, List.length_nil]
  omega

theorem placed_bound {rs : List RowV} (h : ∀ r ∈ rs, TB r) (i : Nat) : ∀ t ∈ placed rs i, t.length ≤ 2000 := by
  have : ∀ (l : List RowV), (∀ r ∈ l, TB r) → ∀ t ∈ l.foldl (fun ts r => ts.set (rankR rs r.pt) (rowText r)) (List.replicate rs.length []), t.length ≤ 2000 := by
    intro l
    induction l using snoc_ind with
    | h0 =>
      intro _ t ht
      simp at ht
      simp [ht.2]
    | h1 l x ih =>
      intro hl t ht
      rw [List.foldl_append] at ht
      rcases List.mem_or_eq_of_mem_set ht with ht | rfl
      · exact ih (fun r hr => hl r (by simp [hr])) t ht
      · exact rowText_length (hl x (by simp))
  exact this (rs.take i) fun r hr => h r (List.mem_of_mem_take hr)

theorem flat_length : ∀ (ts : List (List UInt8)), (∀ t ∈ ts, t.length ≤ 2000) → ts.flatten.length ≤ 2000 * ts.length
  | [], _ => by simp
  | t :: ts, h => by
    have := flat_length ts fun x hx => h x (by simp [hx])
    have := h t (by simp)
    simp only [List.flatten_cons, List.length_append, List.length_cons]
    omega

set_option maxRecDepth 100000 in
set_option maxHeartbeats 2000000 in
theorem rtext_any (B : Nat) (a : Option Addr) (c : Nat) (rs : List RowV) (w : World) (hlen : rs.length ≤ 1000) (hown : w.ownsRow B 137 5 (.slice a rs.length c) rs.length (rowCells rs)) (hb : ∀ r ∈ rs, TB r) :
    Calls Tryz.prog 41 #[.slice a rs.length c] w fun en w' => en = .returned (.string ⟨((placed rs rs.length).flatten).toArray⟩) ∧ Below w.heap.size w w' := by
  have HR := show Hid (w.ownsRow B 137 5 (.slice a rs.length c) rs.length (rowCells rs)) from hown
  clear hown
  obtain ⟨w1, hmk, ho1, hb1⟩ := make_strs w rs.length hlen
  have H0 := show Hid (_ ∧ _) from And.intro ho1 hb1
  clear ho1 hb1
  go_enter Tryz.func41, Tryz.ntmps41
  go_wp2
  clear hmk
  go_loopw [4] (fun i wr => ∃ j : Nat, j ≤ rs.length ∧ i = .int .i64 (j : Int) ∧ wr.ownsRow w.heap.size 9 1 (.slice (some ⟨w.heap.size, 0, none⟩) rs.length rs.length) rs.length (sCells (placed rs j)) ∧ Below w.heap.size w wr) (fun i _ => rs.length - (intOf i).toNat)
  case atStart => exact ⟨0, Nat.zero_le _, rfl, H0.out.1, H0.out.2⟩
  case round =>
    obtain ⟨j, hj, rfl, hor, hbr⟩ := hrel
    clear H0
    have HO := show Hid (_ ∧ _) from And.intro hor hbr
    have HRr := show Hid _ from fun (_ : Unit) => own_below HR.out hbr
    clear hor hbr
    by_cases hjl : j < rs.length
    · have hji : (j : Int) < (rs.length : Int) := by omega
      have hj0 : (0 : Int) ≤ (j : Int) := by omega
      rcases own_addr HR.out with ⟨_, h0⟩ | ⟨g, rfl⟩
      · omega
      have hcell : ∀ k (hk : k < rs.length) q, wr.cell? ⟨g, k * 5 + q, none⟩ = (rowCells1 rs[k])[q]? ∨ ¬ q < 5 := by
        intro k hk q
        by_cases hq : q < 5
        · exact .inl (((HRr.out ()).cellAt (k * 5 + q) (by omega)).trans (rowCells_at rs k hk q hq))
        · exact .inr hq
      have Hc := show Hid _ from hcell
      clear hcell
      have c0 : wr.cell? ⟨g, j * 5, none⟩ = some (.int .i64 ((rs[j]'hjl).pt : Int)) := (Hc.out j hjl 0).resolve_right (by simp)
      go_wp2
      go_loopw [5, 6] (fun m k wq => ∃ (kk : Nat), kk ≤ rs.length ∧ k = .int .i64 (kk : Int) ∧ m = .int .i64 ((cntK rs (rs[j]'hjl).pt kk : Nat) : Int) ∧ ∃ q, wq = wr.drewN q) (fun _ k _ => rs.length - (intOf k).toNat)
      case atStart => exact ⟨0, Nat.zero_le _, rfl, by rw [cntK_zero]; rfl, 0, rfl⟩
      case round =>
        obtain ⟨kk, hk, rfl, rfl, q, rfl⟩ := hrel
        by_cases hkl : kk < rs.length
        · have hki : (kk : Int) < (rs.length : Int) := by omega
          have hk0 : (0 : Int) ≤ (kk : Int) := by omega
          have d0 : wr.cell? ⟨g, kk * 5, none⟩ = some (.int .i64 ((rs[kk]'hkl).pt : Int)) := (Hc.out kk hkl 0).resolve_right (by simp)
          have hsu := cntK_succ rs (rs[j]'hjl).pt kk hkl
          have hcl := cntK_le rs (rs[j]'hjl).pt kk
          by_cases hlt : (rs[kk]'hkl).pt < (rs[j]'hjl).pt
          · have hlti : ((rs[kk]'hkl).pt : Int) < ((rs[j]'hjl).pt : Int) := by omega
            rw [if_pos hlt] at hsu
            have Hsu := show Hid _ from hsu
            clear hsu hlt
            go_wp2
            go_quiet (fail)
            go_wp2
            go_roundw
            case rel => exact ⟨kk + 1, by omega, by go_num, by rw [Hsu.out]; go_num, q + nq, by simp [World.drewN]⟩
            case measure => simp [intOf]; omega
          · have hlti : ¬ (((rs[kk]'hkl).pt : Int) < ((rs[j]'hjl).pt : Int)) := by omega
            rw [if_neg hlt] at hsu
            have Hsu := show Hid _ from hsu
            clear hsu hlt
            go_wp2
            go_quiet (fail)
            go_wp2
            go_roundw
            case rel => exact ⟨kk + 1, by omega, by go_num, by rw [Hsu.out]; rfl, q + nq, by simp [World.drewN]⟩
            case measure => simp [intOf]; omega
        · have hkk : kk = rs.length := by omega
          subst hkk
          rw [cntK_full]
          have hrl := rank_lt hjl
          have hpl := placed_succ rs j hjl
          have hbj := hb _ (List.getElem_mem hjl)
          have c1 : (wr.drewN q).cell? ⟨g, j * 5, none⟩ = some (.int .i64 ((rs[j]'hjl).pt : Int)) := c0
          have c2 : (wr.drewN q).cell? ⟨g, j * 5 + 1, none⟩ = some (.string (rs[j]'hjl).tx) := (Hc.out j hjl 1).resolve_right (by simp)
          have c3 : (wr.drewN q).cell? ⟨g, j * 5 + 2, none⟩ = some (.int .i64 ((rs[j]'hjl).live : Int)) := (Hc.out j hjl 2).resolve_right (by simp)
          have c4 : (wr.drewN q).cell? ⟨g, j * 5 + 3, none⟩ = some (.int .i64 (rs[j]'hjl).sum) := (Hc.out j hjl 3).resolve_right (by simp)
          have c5 : (wr.drewN q).cell? ⟨g, j * 5 + 4, none⟩ = some (.int .i64 ((rs[j]'hjl).ev : Int)) := (Hc.out j hjl 4).resolve_right (by simp)
          have HOq := show Hid (_ ∧ _) from And.intro (own_dn HO.out.1 q) (below_drewN HO.out.2 q)
          clear c0 HO Hc HRr
          generalize wr.drewN q = wq at c1 c2 c3 c4 c5 HOq ⊢
          generalize rankR rs (rs[j]'hjl).pt = n at hrl hpl ⊢
          generalize rs[j]'hjl = r at c1 c2 c3 c4 c5 hpl hbj
          obtain ⟨rp, rt, rl, rsm, re⟩ := r
          obtain ⟨b1, b2, b3⟩ := hbj
          simp only at c1 c2 c3 c4 c5 b1 b2 b3
          have hfin : ((((((rt ++ ⟨#[32]⟩ ++ ⟨(decI (rl : Int)).toArray⟩) ++ ⟨#[32]⟩) ++ ⟨(decI (wrap16 rsm)).toArray⟩) ++ ⟨#[32]⟩) ++ ⟨(decI ((re : Int) % 256)).toArray⟩) ++ ⟨#[59]⟩) = (⟨(rowText ⟨rp, rt, rl, rsm, re⟩).toArray⟩ : ByteArray) := by
            apply ba_ext
            unfold rowText
            simp
          have Hfin := show Hid _ from hfin
          clear hfin
          have hwr := wrap16_range rsm
          have h1 := show Hid _ from fun w => decimal_any (rl : Int) w (by omega) (by omega)
          have h2 := show Hid _ from fun w => decimal_any (wrap16 rsm) w (by omega) (by omega)
          have h3 := show Hid _ from fun w => decimal_any ((re : Int) % 256) w (by omega) (by omega)
          have hW := show Hid _ from fun w => wrap_any rsm w
          have hL := decI_len (rl : Int) (by omega) (by omega)
          have hSl := decI_len (wrap16 rsm) (by omega) (by omega)
          have hV := decI_len ((re : Int) % 256) (by omega) (by omega)
          have hq : (re : Int).tmod 256 = (re : Int) % 256 := Int.tmod_eq_emod_of_nonneg (by omega)
          generalize decI (rl : Int) = L at hL h1 Hfin
          generalize decI (wrap16 rsm) = S0 at hSl h2 Hfin
          generalize decI ((re : Int) % 256) = V at hV h3 Hfin
          have hLs : (⟨L.toArray⟩ : ByteArray).size = L.length := by simp [ByteArray.size]
          have hSs : (⟨S0.toArray⟩ : ByteArray).size = S0.length := by simp [ByteArray.size]
          have hVs : (⟨V.toArray⟩ : ByteArray).size = V.length := by simp [ByteArray.size]
          have h32 : (⟨#[32]⟩ : ByteArray).size = 1 := rfl
          have h59 : (⟨#[59]⟩ : ByteArray).size = 1 := rfl
          generalize (⟨L.toArray⟩ : ByteArray) = BL at hLs h1 Hfin
          generalize (⟨S0.toArray⟩ : ByteArray) = BS at hSs h2 Hfin
          generalize (⟨V.toArray⟩ : ByteArray) = BV at hVs h3 Hfin
          have Hpl := show Hid _ from hpl
          clear hpl
          have hni : (n : Int) < (rs.length : Int) := by omega
          have hn0 : (0 : Int) ≤ (n : Int) := by omega
          have HO := HOq
          clear HOq
          go_wp2
          clear c1 c2 c3 c4 c5
          have hS0 : (wq.alloc (.cells #[.int .i64 (rp : Int), .string rt, .int .i64 (rl : Int), .int .i64 rsm, .int .i64 (re : Int)] 137)).drew.heap[wq.heap.size]? = some (.cells #[.int .i64 (rp : Int), .string rt, .int .i64 (rl : Int), .int .i64 rsm, .int .i64 (re : Int)] 137 (0, 0)) := heap_alloc_new wq _
          have HO2 := show Hid (_ ∧ _) from And.intro (own_d1 (HO.out.1.alloc (.cells #[.int .i64 (rp : Int), .string rt, .int .i64 (rl : Int), .int .i64 rsm, .int .i64 (re : Int)] 137))) (HO.out.2.alloc (by have := HO.out.2.size; omega) (.cells #[.int .i64 (rp : Int), .string rt, .int .i64 (rl : Int), .int .i64 rsm, .int .i64 (re : Int)] 137)).drew
          have hrb : w.heap.size < wq.heap.size := (own_lt HO.out.1).2
          clear HO
          refine wp_region_held_drew (S := fun w' : World => w'.heap[wq.heap.size]? = some (.cells #[.int .i64 (rp : Int), .string rt, .int .i64 (rl : Int), .int .i64 rsm, .int .i64 (re : Int)] 137 (0, 0))) (by kernel_rfl) hS0 (fun hH => ?_)
          generalize (wq.alloc (.cells #[.int .i64 (rp : Int), .string rt, .int .i64 (rl : Int), .int .i64 rsm, .int .i64 (re : Int)] 137)).drew = wd at HO2 hH ⊢
          clear hS0
          generalize wq.heap.size = rb at hH hrb ⊢
          refine wpAnyH_take (i := 0) (v := (.slice (some ⟨w.heap.size, 0, none⟩) rs.length rs.length)) rfl (by kernel_rfl) (by kernel_rfl) (by kernel_rfl) (fun _ _ _ h => h) (Or.inl ⟨by rfl, by intro v hSw; clear hSw; go_simp⟩) hH ?_
          refine wpAnyH_take (i := 1) (v := (.int .i64 (n : Int))) rfl (by kernel_rfl) (by kernel_rfl) (by kernel_rfl) (fun _ _ _ h => h) (Or.inl ⟨by rfl, by intro v hSw; clear hSw; go_simp⟩) hH ?_
          refine wpAnyH_take (i := 2) (v := (.pointer (some ⟨rb, 1, none⟩))) rfl (by kernel_rfl) (by kernel_rfl) (by kernel_rfl) (fun _ _ _ h => h) (Or.inl ⟨by rfl, by intro v hSw; clear hSw; go_simp⟩) hH ?_
          refine wpAnyH_take (i := 3) (v := (.string rt)) rfl (by kernel_rfl) (by kernel_rfl) (by kernel_rfl) (fun _ _ _ h => h) (Or.inl ⟨by rfl, by intro v hSw; have s0 : v.cell? ⟨rb, 1, none⟩ = some (.string rt) := row_cell hSw 1; clear hSw; go_simp⟩) hH ?_
          refine wpAnyH_take (i := 4) (v := (.string (rt ++ ⟨#[32]⟩))) rfl (by kernel_rfl) (by kernel_rfl) (by kernel_rfl) (fun _ _ _ h => h) (Or.inl ⟨by rfl, by intro v hSw; clear hSw; go_simp; omega⟩) hH ?_
          refine wpAnyH_take (i := 5) (v := (.pointer (some ⟨rb, 2, none⟩))) rfl (by kernel_rfl) (by kernel_rfl) (by kernel_rfl) (fun _ _ _ h => h) (Or.inl ⟨by rfl, by intro v hSw; clear hSw; go_simp⟩) hH ?_
          refine wpAnyH_take (i := 6) (v := (.int .i64 (rl : Int))) rfl (by kernel_rfl) (by kernel_rfl) (by kernel_rfl) (fun _ _ _ h => h) (Or.inl ⟨by rfl, by intro v hSw; have s0 : v.cell? ⟨rb, 2, none⟩ = some (.int .i64 (rl : Int)) := row_cell hSw 2; clear hSw; go_simp⟩) hH ?_
          refine wpAnyH_take (i := 10) (v := (.pointer (some ⟨rb, 3, none⟩))) rfl (by kernel_rfl) (by kernel_rfl) (by kernel_rfl) (fun _ _ _ h => h) (Or.inl ⟨by rfl, by intro v hSw; clear hSw; go_simp⟩) hH ?_
          refine wpAnyH_take (i := 11) (v := (.int .i64 rsm)) rfl (by kernel_rfl) (by kernel_rfl) (by kernel_rfl) (fun _ _ _ h => h) (Or.inl ⟨by rfl, by intro v hSw; have s0 : v.cell? ⟨rb, 3, none⟩ = some (.int .i64 rsm) := row_cell hSw 3; clear hSw; go_simp⟩) hH ?_
          refine wpAnyH_take (i := 16) (v := (.pointer (some ⟨rb, 4, none⟩))) rfl (by kernel_rfl) (by kernel_rfl) (by kernel_rfl) (fun _ _ _ h => h) (Or.inl ⟨by rfl, by intro v hSw; clear hSw; go_simp⟩) hH ?_
          refine wpAnyH_take (i := 17) (v := (.int .i64 (re : Int))) rfl (by kernel_rfl) (by kernel_rfl) (by kernel_rfl) (fun _ _ _ h => h) (Or.inl ⟨by rfl, by intro v hSw; have s0 : v.cell? ⟨rb, 4, none⟩ = some (.int .i64 (re : Int)) := row_cell hSw 4; clear hSw; go_simp⟩) hH ?_
          refine wpAnyH_take (i := 18) (v := (.int .i64 ((re : Int) % 256))) rfl (by kernel_rfl) (by kernel_rfl) (by kernel_rfl) (fun _ _ _ h => h) (Or.inl ⟨by rfl, by intro v hSw; clear hSw; go_simp⟩) hH ?_
          refine wpAnyH_ready (rs := [7]) (by kernel_rfl) (by simp) ?_
          refine AllReadyH.cons rfl (fun K hK => ?_) AllReadyH.nil
          have HS := show Hid (_ = _) from hH
          clear hH
          go_simp
          go_wp2_with (go_at_call 67; refine (h1.out _).mono ?_; rintro en w2 ⟨rfl, mw2, rfl⟩)
          refine hK.out _ _ HS.out (fun hH => ?_)
          clear hK K HS
          refine wpAnyH_take (i := 8) (v := (.string (rt ++ ⟨#[32]⟩ ++ BL))) rfl (by kernel_rfl) (by kernel_rfl) (by kernel_rfl) (fun _ _ _ h => h) (Or.inl ⟨by rfl, by intro v hSw; clear hSw; go_simp; omega⟩) hH ?_
          refine wpAnyH_take (i := 9) (v := (.string (rt ++ ⟨#[32]⟩ ++ BL ++ ⟨#[32]⟩))) rfl (by kernel_rfl) (by kernel_rfl) (by kernel_rfl) (fun _ _ _ h => h) (Or.inl ⟨by rfl, by intro v hSw; clear hSw; go_simp; omega⟩) hH ?_
          refine wpAnyH_ready (rs := [12]) (by kernel_rfl) (by simp) ?_
          refine AllReadyH.cons rfl (fun K hK => ?_) AllReadyH.nil
          have HS := show Hid (_ = _) from hH
          clear hH
          go_simp
          go_wp2_with (go_at_call 68; refine (hW.out _).mono ?_; rintro en w3 ⟨rfl, rfl⟩)
          refine hK.out _ _ HS.out (fun hH => ?_)
          clear hK K HS
          refine wpAnyH_ready (rs := [13]) (by kernel_rfl) (by simp) ?_
          refine AllReadyH.cons rfl (fun K hK => ?_) AllReadyH.nil
          have HS := show Hid (_ = _) from hH
          clear hH
          go_simp
          go_wp2_with (go_at_call 67; refine (h2.out _).mono ?_; rintro en w4 ⟨rfl, mw4, rfl⟩)
          refine hK.out _ _ HS.out (fun hH => ?_)
          clear hK K HS
          refine wpAnyH_take (i := 14) (v := (.string (rt ++ ⟨#[32]⟩ ++ BL ++ ⟨#[32]⟩ ++ BS))) rfl (by kernel_rfl) (by kernel_rfl) (by kernel_rfl) (fun _ _ _ h => h) (Or.inl ⟨by rfl, by intro v hSw; clear hSw; go_simp; omega⟩) hH ?_
          refine wpAnyH_take (i := 15) (v := (.string (rt ++ ⟨#[32]⟩ ++ BL ++ ⟨#[32]⟩ ++ BS ++ ⟨#[32]⟩))) rfl (by kernel_rfl) (by kernel_rfl) (by kernel_rfl) (fun _ _ _ h => h) (Or.inl ⟨by rfl, by intro v hSw; clear hSw; go_simp; omega⟩) hH ?_
          refine wpAnyH_ready (rs := [19]) (by kernel_rfl) (by simp) ?_
          refine AllReadyH.cons rfl (fun K hK => ?_) AllReadyH.nil
          have HS := show Hid (_ = _) from hH
          clear hH
          go_simp
          go_wp2_with (go_at_call 67; refine (h3.out _).mono ?_; rintro en w5 ⟨rfl, mw5, rfl⟩)
          refine hK.out _ _ HS.out (fun hH => ?_)
          clear hK K HS
          refine wpAnyH_take (i := 20) (v := (.string (rt ++ ⟨#[32]⟩ ++ BL ++ ⟨#[32]⟩ ++ BS ++ ⟨#[32]⟩ ++ BV))) rfl (by kernel_rfl) (by kernel_rfl) (by kernel_rfl) (fun _ _ _ h => h) (Or.inl ⟨by rfl, by intro v hSw; clear hSw; go_simp; omega⟩) hH ?_
          refine wpAnyH_take (i := 21) (v := (.string (rt ++ ⟨#[32]⟩ ++ BL ++ ⟨#[32]⟩ ++ BS ++ ⟨#[32]⟩ ++ BV ++ ⟨#[59]⟩))) rfl (by kernel_rfl) (by kernel_rfl) (by kernel_rfl) (fun _ _ _ h => h) (Or.inl ⟨by rfl, by intro v hSw; clear hSw; go_simp; omega⟩) hH ?_
          refine wpAnyH_take (i := 22) (v := (.pointer (some ⟨w.heap.size, n, none⟩))) rfl (by kernel_rfl) (by kernel_rfl) (by kernel_rfl) (fun _ _ _ h => h) (Or.inl ⟨by rfl, by intro v hSw; clear hSw; go_simp⟩) hH ?_
          refine wpAnyH_ready (rs := [23]) (by kernel_rfl) (by simp) ?_
          refine AllReadyH.cons rfl (fun K hK => ?_) AllReadyH.nil
          have HS := show Hid (_ = _) from hH
          clear hH
          have HO3 := show Hid (_ ∧ _) from And.intro (own_dn HO2.out.1 (mw2 + mw4 + mw5)) (below_drewN HO2.out.2 (mw2 + mw4 + mw5))
          clear HO2 h1 h2 h3 hW
          generalize wd.drewN (mw2 + mw4 + mw5) = wx at HO3 HS ⊢
          have hr1 := HO3.out.1.stored n (.string (rt ++ ⟨#[32]⟩ ++ BL ++ ⟨#[32]⟩ ++ BS ++ ⟨#[32]⟩ ++ BV ++ ⟨#[59]⟩))
          have he : (sCells (placed rs j)).set n (.string (rt ++ ⟨#[32]⟩ ++ BL ++ ⟨#[32]⟩ ++ BS ++ ⟨#[32]⟩ ++ BV ++ ⟨#[59]⟩)) = sCells (placed rs (j + 1)) := by
            rw [Hpl.out, Hfin.out]
            unfold sCells
            rw [List.map_set]
          rw [he] at hr1
          obtain ⟨u, hu⟩ : ∃ u, (sCells (placed rs j))[n]? = some u := ⟨_, List.getElem?_eq_getElem (by unfold sCells; rw [List.length_map, placed_length]; omega)⟩
          have s0 : wx.cell? ⟨w.heap.size, n, none⟩ = some u := (HO3.out.1.cellAt n (by omega)).trans hu
          have z0 : wx.frozen? ⟨w.heap.size, n, none⟩ = false := HO3.out.1.frozenAt n
          have HN := show Hid (_ ∧ _ ∧ _) from And.intro hr1.1 (And.intro (HO3.out.2.setCell (p := ⟨w.heap.size, n, none⟩) (Nat.le_refl _) (.string (rt ++ ⟨#[32]⟩ ++ BL ++ ⟨#[32]⟩ ++ BS ++ ⟨#[32]⟩ ++ BV ++ ⟨#[59]⟩))) ((hr1.2.block rb (heap_lt HS.out) (by simp only [ne_eq, Option.some.injEq]; omega)).trans HS.out))
          clear hr1 he hu HO3 HS Hpl Hfin
          go_simp
          refine hK.out _ _ HN.out.2.2 (fun hH => ?_)
          clear hK K hH s0 z0
          refine wpAnyH_done (by kernel_rfl) ?_ _
          generalize wx.setCell ⟨w.heap.size, n, none⟩ (.string (rt ++ ⟨#[32]⟩ ++ BL ++ ⟨#[32]⟩ ++ BS ++ ⟨#[32]⟩ ++ BV ++ ⟨#[59]⟩)) = wy at HN ⊢
          go_wp2
          go_roundw
          case rel => exact ⟨j + 1, by omega, by go_num, HN.out.1, HN.out.2.1⟩
          case measure => simp [intOf]; omega
    · have hjj : j = rs.length := by omega
      subst hjj
      have hpb := placed_bound hb rs.length
      have hpn := placed_length rs rs.length
      obtain ⟨ts, hts⟩ : ∃ ts, placed rs rs.length = ts := ⟨_, rfl⟩
      rw [hts] at HO hpb hpn
      have Hts := show Hid _ from hts
      clear hts
      clear HR HRr
      have hoc : ∀ k (hk : k < ts.length), wr.cell? ⟨w.heap.size, k, none⟩ = some (.string ⟨ts[k].toArray⟩) := by
        intro k hk
        refine (HO.out.1.cellAt k (by omega)).trans ?_
        unfold sCells
        rw [List.getElem?_map, List.getElem?_eq_getElem hk]
        rfl
      have Hoc := show Hid _ from hoc
      clear hoc
      go_wp2
      go_loopw [8, 9] (fun t i wv => ∃ (k : Nat) (tx : ByteArray), k ≤ rs.length ∧ i = .int .i64 (k : Int) ∧ t = .string tx ∧ Hid (tx.data.toList = (ts.take k).flatten) ∧ wv = wr) (fun _ i _ => rs.length - (intOf i).toNat)
      case atStart => exact ⟨0, ⟨#[]⟩, Nat.zero_le _, rfl, rfl, by show _ = _; simp, rfl⟩
      case round =>
        obtain ⟨k, tx, hk, rfl, rfl, htx, rfl⟩ := hrel
        by_cases hkl : k < rs.length
        · have hkt : k < ts.length := by omega
          have c0 := Hoc.out k hkt
          have hl := hpb _ (List.getElem_mem hkt)
          have hsz : tx.size ≤ 2000 * 1000 := by
            rw [← size_list, htx.out]
            have h1 := flat_length (ts.take k) fun x hx => hpb x (List.mem_of_mem_take hx)
            have h2 := List.length_take_le k ts
            omega
          have hnx : (ts.take (k + 1)).flatten = (ts.take k).flatten ++ ts[k]'hkt := by
            rw [List.take_succ_eq_append_getElem hkt, List.flatten_append]
            simp
          have Hnx := show Hid _ from hnx
          clear hnx
          generalize ts[k]'hkt = L at c0 hl Hnx
          have hLs : (⟨L.toArray⟩ : ByteArray).size = L.length := by simp [ByteArray.size]
          have hLl : (⟨L.toArray⟩ : ByteArray).data.toList = L := by simp
          generalize (⟨L.toArray⟩ : ByteArray) = BL at hLs hLl c0
          have hki : (k : Int) < (rs.length : Int) := by omega
          have hk0 : (0 : Int) ≤ (k : Int) := by omega
          go_wp2
          go_roundw
          case rel => exact ⟨k + 1, tx ++ BL, by omega, by go_num, rfl, by show _ = _; rw [Hnx.out, ByteArray.data_append, Array.toList_append, htx.out, hLl], by first | trivial | rfl⟩
          case measure => simp [intOf]; omega
        · have hkk : k = rs.length := by omega
          have Ht := show Hid (tx = ⟨(ts.flatten).toArray⟩) from by
            show _ = _
            apply ba_ext
            rw [htx.out, hkk, ← hpn, List.take_length]
          go_wp2
          go_ret
          exact ⟨by rw [Hts.out, ← Ht.out]; rfl, HO.out.2⟩
end Go.Proofs.YthccpacmklhejaaGreatDoor

namespace Go.Proofs.YthccpacmklhejaaGreatDoor
open Go.RowKit

theorem rows_TB {es : List Ev} (hok : ∀ e ∈ es, e.ok) (hk : ∀ e ∈ es, 0 < e.key.size ∧ e.key.size ≤ 1000) (hl : es.length ≤ 400) : ∀ r ∈ rowsTo es es.length, TB r := by
  intro r hr
  obtain ⟨h1, _, _, h4⟩ := rowsTo_bounds hok hl es.length r hr
  obtain ⟨_, _, hA⟩ := rowsTo_are es es.length (Nat.le_refl _)
  obtain ⟨_, _, _, k, hkm, hg⟩ := hA r hr
  rw [List.take_length] at hkm
  obtain ⟨e, he, rfl⟩ := (mem_keysOf _ _).1 hkm
  refine ⟨by omega, by omega, ?_⟩
  have ht : r.tx = (grp e.key).2 := by rw [hg]
  rw [ht]
  unfold grp
  simp only
  rw [← size_list, extract_list, List.length_take, List.length_drop, size_list]
  have := hk e he
  omega

set_option maxHeartbeats 400000 in
theorem rfold_long (s : ByteArray) (n : Int) (w : World) (h : 400 < s.size) :
    Calls Tryz.prog 20 #[.string s, .int .i64 n] w fun en w' => en = .returned (.tuple #[.string ⟨#[]⟩, .int .i64 1]) ∧ Below w.heap.size w w' := by
  go_enter Tryz.func20, Tryz.ntmps20
  go_wp2_with (go_at_call 34; refine (rdecode_long s _ h).mono ?_; rintro e w1 ⟨rfl, hb⟩)
  go_ret2
  exact ⟨rfl, hb⟩

set_option maxRecDepth 100000 in
set_option maxHeartbeats 1000000 in
theorem rfold_bad (s : ByteArray) (n : Int) (w : World) (h : s.size ≤ 400) (es : List Ev) (m : Nat) (hp : Parsed s es m) (hn : n < 0 ∨ (es.length : Int) < n) :
    Calls Tryz.prog 20 #[.string s, .int .i64 n] w fun en w' => en = .returned (.tuple #[.string ⟨#[]⟩, .int .i64 3]) ∧ Below w.heap.size w w' := by
  have hD := show Hid _ from fun w => rdecode_short s w h
  by_cases h0 : n < 0
  · have h0d : decide (n < 0) = true := decide_eq_true h0
    clear hn
    go_enter Tryz.func20, Tryz.ntmps20
    go_wp2_with (go_at_call 34; refine (hD.out _).mono ?_; rintro e w1 ⟨v, es', m', r, rfl, hP, hown, hb⟩; obtain ⟨rfl, rfl⟩ := Parsed.unique hp hP.out.1; have hr : ((r : Int) == 1) = false := (by rw [hP.out.2]; exact errOf_ne s m); obtain ⟨a, c, rfl⟩ := own_shape hown)
    go_ret2
    exact ⟨rfl, hb⟩
  · have h1 : (es.length : Int) < n := by omega
    clear hn
    go_enter Tryz.func20, Tryz.ntmps20
    go_wp2_with (go_at_call 34; refine (hD.out _).mono ?_; rintro e w1 ⟨v, es', m', r, rfl, hP, hown, hb⟩; obtain ⟨rfl, rfl⟩ := Parsed.unique hp hP.out.1; have hr : ((r : Int) == 1) = false := (by rw [hP.out.2]; exact errOf_ne s m); obtain ⟨a, c, rfl⟩ := own_shape hown)
    go_ret2
    exact ⟨rfl, hb⟩

set_option maxRecDepth 100000 in
set_option maxHeartbeats 1000000 in
theorem rfold_ok (s : ByteArray) (k : Nat) (w : World) (h : s.size ≤ 400) (es : List Ev) (m : Nat) (hp : Parsed s es m) (hk : k ≤ es.length) :
    Calls Tryz.prog 20 #[.string s, .int .i64 (k : Int)] w fun en w' => en = .returned (.tuple #[.string ⟨(foldB (es.take k)).toArray⟩, .int .i64 0]) ∧ Below w.heap.size w w' := by
  have hD := show Hid _ from fun w => rdecode_short s w h
  have h0 : ¬ ((k : Int) < 0) := by omega
  have h1 : ¬ ((es.length : Int) < (k : Int)) := by omega
  have hf := hp.few
  have hg := good_facts hp.good
  have hlk : (es.take k).length = k := by rw [List.length_take]; omega
  have hga : ∀ e ∈ es.take k, e.ok := fun e he => hg.1 e (List.mem_of_mem_take he)
  have hgk : ∀ e ∈ es.take k, 0 < e.key.size ∧ e.key.size ≤ 1000 := fun e he => hg.2.2 e (List.mem_of_mem_take he)
  have hTB := rows_TB hga hgk (by omega)
  have hrl : (rowsTo (es.take k) (es.take k).length).length ≤ 1000 := by
    have := rowsTo_le (es.take k) (es.take k).length
    omega
  have HR : Hid (∀ (a : Option Addr) (c : Nat) (w1 : World), w1.ownsRow w.heap.size 41 4 (.slice a es.length c) es.length (evCells es) → Calls Tryz.prog 42 #[.slice a k c] w1 fun en w' => ∃ (v : Value), en = .returned v ∧ w'.ownsRow w1.heap.size 137 5 v (rowsTo (es.take k) (es.take k).length).length (rowCells (rowsTo (es.take k) (es.take k).length)) ∧ Below w1.heap.size w1 w') := by
    intro a c w1 ho
    have := rows_any a c (es.take k) w1 (by omega) (isEvs_of_own ho hg.1 k hk) hgk
    rw [hlk] at this ⊢
    exact this
  have hfo := placed_fold (es := es.take k) (fun e he => hg.2.1 e (List.mem_of_mem_take he))
  obtain ⟨F, hF⟩ : ∃ F : ByteArray, ⟨(foldB (es.take k)).toArray⟩ = F := ⟨_, rfl⟩
  rw [hF]
  rw [← hfo] at hF
  generalize rowsTo (es.take k) (es.take k).length = rs at HR hTB hrl hF
  have HT : Hid (∀ (B : Nat) (a : Option Addr) (c : Nat) (w : World), w.ownsRow B 137 5 (.slice a rs.length c) rs.length (rowCells rs) → Calls Tryz.prog 41 #[.slice a rs.length c] w fun en w' => en = .returned (.string F) ∧ Below w.heap.size w w') := by
    intro B a c w ho
    have := rtext_any B a c rs w hrl ho hTB
    rw [hF] at this
    exact this
  clear hg hf hfo hF hTB hga hgk hlk hrl
  go_enter Tryz.func20, Tryz.ntmps20
  go_wp2_with (first
    | (go_at_call 34; refine (hD.out _).mono ?_; rintro e w1 ⟨v, es', m', r, rfl, hP, hown, hb⟩; obtain ⟨rfl, rfl⟩ := Parsed.unique hp hP.out.1; have hr : ((r : Int) == 1) = false := (by rw [hP.out.2]; exact errOf_ne s m); obtain ⟨a, c, rfl⟩ := own_shape hown; have hcp := own_cap hown; have hkc : (k : Int) ≤ (c : Int) := (by omega); have hk0 : (0 : Int) ≤ (k : Int) := (by omega); have Ho := show Hid (_ ∧ _) from And.intro hown hb; clear hown hb hP)
    | (go_at_call 42; refine (HR.out a c w1 Ho.out.1).mono ?_; rintro e w2 ⟨v2, rfl, ho2, hb2⟩; obtain ⟨a2, c2, rfl⟩ := own_shape ho2)
    | (go_at_call 41; refine (HT.out _ a2 c2 w2 ho2).mono ?_; rintro e w3 ⟨rfl, hb3⟩))
  all_goals go_ret2
  all_goals exact ⟨rfl, (Ho.out.2.trans (hb2.mono Ho.out.2.size)).trans (hb3.mono (Nat.le_trans Ho.out.2.size hb2.size))⟩
end Go.Proofs.YthccpacmklhejaaGreatDoor

namespace Go.Proofs.YthccpacmklhejaaGreatDoor
open Go.RowKit

/-- The program and the document answer alike. -/
theorem fold_same (s : ByteArray) (n : Int) : ∃ (t : ByteArray) (r : Nat), (∀ w, Tab w → Calls Tryz.prog 19 #[.string s, .int .i64 n] w fun en w' => en = .returned (.tuple #[.string t, .int .i64 (r : Int)]) ∧ Below w.heap.size w w') ∧
    (∀ w, Calls Tryz.prog 20 #[.string s, .int .i64 n] w fun en w' => en = .returned (.tuple #[.string t, .int .i64 (r : Int)]) ∧ Below w.heap.size w w') := by
  by_cases h : 400 < s.size
  · exact ⟨⟨#[]⟩, 1, fun w _ => cfold_of (fold_long s n w h), fun w => rfold_long s n w h⟩
  · obtain ⟨es, m, hp⟩ := parsed_exists s
    by_cases hn : n < 0 ∨ (es.length : Int) < n
    · exact ⟨⟨#[]⟩, 3, fun w _ => cfold_of (fold_bad s n w (by omega) es m hp hn), fun w => rfold_bad s n w (by omega) es m hp hn⟩
    · obtain ⟨k, rfl⟩ : ∃ k : Nat, n = (k : Int) := ⟨n.toNat, by omega⟩
      exact ⟨⟨(foldB (es.take k)).toArray⟩, 0, fun w ht => cfold_of (fold_ok s k w (by omega) es m hp (by omega) ht), fun w => rfold_ok s k w (by omega) es m hp (by omega)⟩

set_option maxRecDepth 100000 in
set_option maxHeartbeats 1000000 in
theorem texts_three (W : World) (wb : Nat) (a b c d : Int) (s : ByteArray) (e : Ev) (ht : Tab W) :
    Calls Tryz.prog 11 #[.pointer (some ⟨wb, 0, none⟩), .agg #[.int .i64 3, .int .i64 a, .int .i64 b, .string s, .int .u8 (e.op : Int), .string e.key, .int .u16 (e.seq : Int), .int .i16 e.val, .int .i64 c, .int .i64 d]] W fun en w' => en = .returned (.bool true) ∧ Below W.heap.size W w' := by
  obtain ⟨t, r, hC, hR⟩ := fold_same s a
  have hN := show Hid _ from num_any
  obtain ⟨op, key, seq, val⟩ := e
  have HC := show Hid _ from fun (_ : Unit) => hC (W.alloc (.cells #[.int .i64 3, .int .i64 a, .int .i64 b, .string s, .int .u8 (op : Int), .string key, .int .u16 (seq : Int), .int .i16 val, .int .i64 c, .int .i64 d] 43)) (ht.old ((Below.refl _ _).alloc (Nat.le_refl _) _))
  have HR := show Hid _ from hR
  clear hC hR ht
  go_enter Tryz.func11, Tryz.ntmps11
  go_wp2_with (first
    | (go_at_call 19; refine (HC.out ()).mono ?_; rintro en w1 ⟨rfl, hb1⟩; have hx := (hb1.block W.heap.size (by simp)).trans (heap_alloc_new W _); have c1 : w1.cell? ⟨W.heap.size, 1, none⟩ = some (.int .i64 a) := box_cell hx 1; have c3 : w1.cell? ⟨W.heap.size, 3, none⟩ = some (.string s) := box_cell hx 3; have hB1 : Below W.heap.size W w1 := ((Below.refl _ _).alloc (Nat.le_refl _) _).trans (hb1.mono (by simp)); clear hx hb1)
    | (go_at_call 20; refine (HR.out _).mono ?_; rintro en w2 ⟨rfl, hb2⟩)
    | (go_at_call 15; refine (hN.out _ _).mono ?_; rintro en w3 ⟨rfl, rfl⟩))
  go_ret
  exact ⟨rfl, hB1.trans (hb2.mono hB1.size)⟩

set_option maxRecDepth 100000 in
set_option maxHeartbeats 1000000 in
theorem step_three (W : World) (wb : Nat) (a b c d : Int) (s : ByteArray) (e : Ev) (ht : Tab W) :
    Calls Tryz.prog 8 #[.pointer (some ⟨wb, 0, none⟩), .agg #[.int .i64 3, .int .i64 a, .int .i64 b, .string s, .int .u8 (e.op : Int), .string e.key, .int .u16 (e.seq : Int), .int .i16 e.val, .int .i64 c, .int .i64 d]] W fun en w' => en = .returned (.bool true) ∧ Below W.heap.size W w' := by
  have hT : Hid (∀ o, Calls Tryz.prog 11 #[.pointer (some ⟨wb, 0, none⟩), .agg #[.int .i64 3, .int .i64 a, .int .i64 b, .string s, .int .u8 (e.op : Int), .string e.key, .int .u16 (e.seq : Int), .int .i16 e.val, .int .i64 c, .int .i64 d]] (W.alloc o) fun en w' => en = .returned (.bool true) ∧ Below W.heap.size W w') := by
    intro o
    have ho : Below W.heap.size W (W.alloc o) := (Below.refl _ _).alloc (Nat.le_refl _) _
    refine (texts_three (W.alloc o) wb a b c d s e (ht.old ho)).mono ?_
    rintro en w' ⟨rfl, h⟩
    exact ⟨rfl, ho.trans (h.mono ho.size)⟩
  clear ht
  obtain ⟨op, key, seq, val⟩ := e
  simp only at hT ⊢
  go_enter Tryz.func8, Tryz.ntmps8
  go_wp2_with (go_at_call 11; refine (hT.out _).mono ?_; rintro en w1 ⟨rfl, hl⟩)
  go_ret
  exact ⟨rfl, hl⟩

set_option maxRecDepth 100000 in
set_option maxHeartbeats 1000000 in
theorem talks3_any (a : Option Addr) (cap : Nat) (ops : List OpV) (w : World) (hlen : ops.length ≤ 1600000000000) (hev : IsOps w a ops) (ht : Tab w) :
    Calls Tryz.prog 6 #[.slice a ops.length cap, .int .i64 3, .int .i64 3] w fun en w' => en = .returned (.bool true) ∧ Below w.heap.size w w' := by
  have Hev := show Hid (IsOps w a ops) from hev
  have Ht := show Hid (Tab w) from ht
  clear hev ht
  go_enter Tryz.func6, Tryz.ntmps6
  go_wp2
  have HI0 := show Hid _ from Inv.new w
  go_loopw [8] (fun i wr => ∃ (k : Nat) (ents : List Ent) (cnt : Nat) (ve vm : Value), k ≤ ops.length ∧ i = .int .i64 (k : Int) ∧ ents.length ≤ 4 * k ∧ cnt ≤ k ∧ Inv wr w.heap.size ents cnt ve vm ∧ Below w.heap.size w wr) (fun i _ => ops.length - (intOf i).toNat)
  case atStart => exact ⟨0, [], 0, _, _, Nat.zero_le _, rfl, by simp, by simp, HI0.out, (Below.refl _ _).alloc (Nat.le_refl _) _⟩
  case round =>
    obtain ⟨k, ents, cnt, ve, vm, hk, rfl, hel, hcl, hI, hb⟩ := hrel
    clear HI0
    by_cases hkl : k < ops.length
    · rcases Hev.out.2 with h0 | ⟨b, off, rfl, hbl, hcs⟩
      · rw [h0] at hkl; simp at hkl
      have hc := fun j hj => (hb.cell (p := ⟨b, off + k * 10 + j, none⟩) hbl).trans (hcs k hkl j hj)
      obtain ⟨hok, hks⟩ := Hev.out.1 (ops[k]'hkl) (List.getElem_mem hkl)
      generalize ops[k]'hkl = o at hc hok hks
      obtain ⟨kd, oa, ob, os, ⟨eop, ekey, eseq, eval⟩, oc, od⟩ := o
      simp only at hok hks
      have c0 : wr.cell? ⟨b, off + k * 10, none⟩ = some (.int .i64 kd) := hc 0 (by decide)
      have c1 : wr.cell? ⟨b, off + k * 10 + 1, none⟩ = some (.int .i64 oa) := hc 1 (by decide)
      have c2 : wr.cell? ⟨b, off + k * 10 + 2, none⟩ = some (.int .i64 ob) := hc 2 (by decide)
      have c3 : wr.cell? ⟨b, off + k * 10 + 3, none⟩ = some (.string os) := hc 3 (by decide)
      have c4 : wr.cell? ⟨b, off + k * 10 + 4, none⟩ = some (.int .u8 (eop : Int)) := hc 4 (by decide)
      have c5 : wr.cell? ⟨b, off + k * 10 + 5, none⟩ = some (.string ekey) := hc 5 (by decide)
      have c6 : wr.cell? ⟨b, off + k * 10 + 6, none⟩ = some (.int .u16 (eseq : Int)) := hc 6 (by decide)
      have c7 : wr.cell? ⟨b, off + k * 10 + 7, none⟩ = some (.int .i16 eval) := hc 7 (by decide)
      have c8 : wr.cell? ⟨b, off + k * 10 + 8, none⟩ = some (.int .i64 oc) := hc 8 (by decide)
      have c9 : wr.cell? ⟨b, off + k * 10 + 9, none⟩ = some (.int .i64 od) := hc 9 (by decide)
      clear hc hcs Hev
      have HI := show Hid (Inv wr w.heap.size ents cnt ve vm ∧ Below w.heap.size w wr) from ⟨hI, hb⟩
      clear hI hb
      have hki : (k : Int) < (ops.length : Int) := by omega
      have hk0 : (0 : Int) ≤ (k : Int) := by omega
      by_cases hkd : 3 < kd
      · go_wp2
        go_roundw
        case rel => exact ⟨k + 1, ents, cnt, ve, vm, by omega, by go_num, by omega, by omega, HI.out.1.alloc _, HI.out.2.alloc HI.out.2.size _⟩
        case measure => simp [intOf]; omega
      · have hS : Hid (∀ x, Calls Tryz.prog 8 #[.pointer (some ⟨w.heap.size, 0, none⟩), .agg #[.int .i64 kd, .int .i64 oa, .int .i64 ob, .string os, .int .u8 (eop : Int), .string ekey, .int .u16 (eseq : Int), .int .i16 eval, .int .i64 oc, .int .i64 od]] (wr.alloc x) fun en w' => en = .returned (.bool true) ∧ Left w w.heap.size ents cnt w') := by
          intro x
          have hbx := HI.out.2.alloc HI.out.2.size x
          have hIx := HI.out.1.alloc x
          by_cases h0 : kd ≤ 0
          · refine (step_none (wr.alloc x) w.heap.size kd oa ob oc od os ⟨eop, ekey, eseq, eval⟩ h0).mono ?_
            rintro en w' ⟨rfl, h⟩
            exact ⟨rfl, (Left.below hIx h).after hbx⟩
          · by_cases h3 : kd = 3
            · subst h3
              refine (step_three (wr.alloc x) w.heap.size oa ob oc od os ⟨eop, ekey, eseq, eval⟩ (Ht.out.old hbx)).mono ?_
              rintro en w' ⟨rfl, h⟩
              exact ⟨rfl, (Left.below hIx h).after hbx⟩
            refine (step_text (wr.alloc x) w.heap.size ents cnt ve vm kd oa ob oc od os ⟨eop, ekey, eseq, eval⟩ (by omega) hok hks hIx (by omega) (by omega)).mono ?_
            rintro en w' ⟨rfl, h⟩
            exact ⟨rfl, h.after hbx⟩
        clear HI hok hks
        go_wp2_with (first
          | (go_at_call 8; refine (hS.out _).mono ?_; rintro en w2 ⟨rfl, ents2, cnt2, ve2, vm2, hI2, he2, hc2, hb2⟩; clear hS; obtain ⟨ae, ce, rfl⟩ := own_shape hI2.evs; obtain ⟨am, cm, rfl⟩ := own_shape hI2.mks; have HK := show Hid (_ ∧ _ ∧ _) from And.intro hI2 (And.intro hb2 (kept_any w2 w.heap.size ents2 cnt2 ae am ce cm hI2 (by omega))); clear hI2 hb2)
          | (go_at_call 9; refine Calls.mono HK.out.2.2 ?_; rintro en w3 ⟨rfl, q, rfl⟩))
        go_roundw
        case rel => exact ⟨k + 1, ents2, cnt2, _, _, by omega, by go_num, by omega, by omega, HK.out.1.below (drewN_below _ _), HK.out.2.1.trans ((drewN_below w2 _).mono HK.out.2.1.size)⟩
        case measure => simp [intOf]; omega
    · go_wp2
      go_ret
      exact ⟨rfl, hb⟩

set_option maxHeartbeats 1000000 in
theorem folds_any (a : Option Addr) (cap : Nat) (ops : List OpV) (w : World) (hlen : ops.length ≤ 1600000000000) (hev : IsOps w a ops) (ht : Tab w) :
    Calls Tryz.prog 4 #[.slice a ops.length cap] w fun en w' => en = .returned (.bool true) ∧ Below w.heap.size w w' := by
  have hT : Hid (Calls Tryz.prog 6 #[.slice a ops.length cap, .int .i64 3, .int .i64 3] w fun en w' => en = .returned (.bool true) ∧ Below w.heap.size w w') := talks3_any a cap ops w hlen hev ht
  clear hev ht
  go_enter Tryz.func4, Tryz.ntmps4
  go_wp2_with (go_at_call 6; refine hT.out.mono ?_; rintro en w1 ⟨rfl, hb⟩)
  go_ret
  exact ⟨rfl, hb⟩
end Go.Proofs.YthccpacmklhejaaGreatDoor

namespace Go.Proofs.YthccpacmklhejaaGreatDoor
open Go.RowKit

section
variable {f : Owners} {w : World} {B k jb : Nat} {sb ab : List Nat} {j : JobM}

/-- The cells on the way to a sorter's pipe. -/
theorem RJob.wayS (h : RJob f w B k jb sb ab j) (i : Nat) (hi : i < sb.length) (hi' : i < j.sorters.length) : ∃ g1 cs' qa qc, w.cell? ⟨jb, 4, none⟩ = some (.slice (some ⟨g1, 0, none⟩) j.width cs') ∧ w.cell? ⟨g1, i, none⟩ = some (.pointer (some ⟨sb[i], 0, none⟩)) ∧ w.cell? ⟨sb[i], 1, none⟩ = some (.slice qa (j.sorters[i]).pipe.length qc) ∧ qRow w B 3 1 (.slice qa (j.sorters[i]).pipe.length qc) (j.sorters[i]).pipe.length ((j.sorters[i]).pipe.map (Value.int .i64)) := by
  obtain ⟨g1, cs', vp, a1, a2, a3, _⟩ := h.pipeC i hi hi'
  obtain ⟨ho, vg, vq, hb, hg, og, hp, op⟩ := h.sorters i hi hi'
  have h3 : w.cell? ⟨sb[i], 1, none⟩ = some vq := box_cell hb 1
  obtain ⟨qa, qc, rfl⟩ := hp.shape
  exact ⟨g1, cs', qa, qc, a1, a2, h3, hp⟩

set_option maxRecDepth 100000 in
set_option maxHeartbeats 1500000 in
theorem rsorts_idle (h : RJob f w B k jb sb ab j) (i : Nat) (hi : i < j.width) (hi' : i < j.sorters.length) (hp : (j.sorters[i]).pipe = []) :
    Calls Tryz.prog 45 #[.pointer (some ⟨jb, 0, none⟩), .int .i64 (i : Int)] w fun en w' => en = .returned (.int .i64 8) ∧ RAfter f w B k jb sb ab j w' := by
  have hib : i < sb.length := by have := h.lenS; omega
  obtain ⟨g1, cs', qa, qc, c4, d1, d2, hq⟩ := h.wayS i hib hi'
  have HR := show Hid (RAfter f w B k jb sb ab j w) from ⟨f, h, FrmO.refl _ _ _, Same.refl _ _⟩
  rw [hp] at d2
  clear h hq hp
  generalize sb[i] = b1 at d1 d2
  have h1 : (i : Int) < (j.width : Int) := by omega
  have h2 : (0 : Int) ≤ (i : Int) := by omega
  generalize j.width = W at c4 h1
  have d2' : w.cell? ⟨b1, 1, none⟩ = some (.slice qa 0 qc) := d2
  clear d2
  go_enter Tryz.func45, Tryz.ntmps45
  go_wp2
  go_ret
  exact ⟨rfl, HR.out⟩

end

end Go.Proofs.YthccpacmklhejaaGreatDoor
