/-
  canalkeep.Apart.
-/
import Derived.Test.YthccpacmklhejaaDoorApartMath
import Derived.Test.YthccpacmklhejaaDoorRawOpen
namespace Go.Proofs.YthccpacmklhejaaDoor
open Go.RowKit

theorem IsRaws.old {w w1 : World} {a : Option Addr} {rs : List RawV} (h : IsRaws w a rs) (hb : Below w.heap.size w w1) : IsRaws w1 a rs := by
  refine ⟨h.1, ?_⟩
  rcases h.2 with h0 | ⟨b, off, ha, hbl, hc⟩
  · exact .inl h0
  · refine .inr ⟨b, off, ha, Nat.lt_of_lt_of_le hbl hb.size, fun k hk => ?_⟩
    obtain ⟨c0, c1, c2, c3⟩ := hc k hk
    exact ⟨(hb.cell (p := ⟨b, _, none⟩) hbl).trans c0, (hb.cell (p := ⟨b, _, none⟩) hbl).trans c1, (hb.cell (p := ⟨b, _, none⟩) hbl).trans c2, (hb.cell (p := ⟨b, _, none⟩) hbl).trans c3⟩

def rawCells (rs : List RawV) : List Value := rs.flatMap rawCells1

theorem rawCells_append (rs ts : List RawV) : rawCells (rs ++ ts) = rawCells rs ++ rawCells ts := by simp [rawCells]

theorem rawCells_at : ∀ (rs : List RawV) (k : Nat) (h : k < rs.length) (j : Nat), j < 4 → (rawCells rs)[k * 4 + j]? = (rawCells1 rs[k])[j]?
  | r :: rs, 0, _, j, hj => by
    simp only [rawCells, List.flatMap_cons, Nat.zero_mul, Nat.zero_add, List.getElem_cons_zero]
    rw [List.getElem?_append_left (by simp [rawCells1]; omega)]
  | r :: rs, k + 1, h, j, hj => by
    have ih := rawCells_at rs k (by simpa using h) j hj
    simp only [rawCells, List.flatMap_cons, List.getElem_cons_succ] at ih ⊢
    rw [List.getElem?_append_right (by simp [rawCells1]; omega), ← ih]
    congr 1
    simp [rawCells1]
    omega

theorem isRaws_of_own {w : World} {B c : Nat} {a : Option Addr} {rs : List RawV} (hown : w.ownsRow B 31 4 (.slice a rs.length c) rs.length (rawCells rs)) (hok : ∀ r ∈ rs, r.ok) : IsRaws w a rs := by
  refine ⟨hok, ?_⟩
  rcases own_addr hown with ⟨_, h0⟩ | ⟨g, rfl⟩
  · exact .inl (List.length_eq_zero_iff.1 h0)
  · refine .inr ⟨g, 0, rfl, (own_lt hown).2, fun k hk => ?_⟩
    simp only [Nat.zero_add]
    exact ⟨(hown.cellAt (k * 4) (by omega)).trans (rawCells_at rs k hk 0 (by decide)), (hown.cellAt (k * 4 + 1) (by omega)).trans (rawCells_at rs k hk 1 (by decide)), (hown.cellAt (k * 4 + 2) (by omega)).trans (rawCells_at rs k hk 2 (by decide)), (hown.cellAt (k * 4 + 3) (by omega)).trans (rawCells_at rs k hk 3 (by decide))⟩

theorem Tryd.infoRaw : (Tryd.prog.info? 31).map (fun i => (i.zero, i.size, i.bytes)) = some (some (.agg #[.bool false, .int .i64 0, .int .i64 0, .int .i64 0]), 4, 32) := by kernel_rfl

theorem raw_oneCell (r : RawV) : ∀ u ∈ rawCells1 r, u.oneCell' = true := by
  intro u hu
  simp [rawCells1] at hu
  rcases hu with rfl | rfl | rfl | rfl <;> rfl

set_option maxRecDepth 100000 in
set_option maxHeartbeats 1000000 in
theorem apart_any (a : Option Addr) (cap : Nat) (rs : List RawV) (w : World) (hlen : rs.length ≤ 9223372036854775807) (hev : IsRaws w a rs) (ht : Tab w) :
    Calls Tryd.prog 4 #[.slice a rs.length cap] w fun en w' => en = .returned (.bool true) ∧ Below w.heap.size w w' := by
  have HE := show Hid _ from fun (w1 : World) (hb : Below w.heap.size w w1) => encoded_any a cap rs false 400 w1 (by decide) hlen (hev.old hb)
  have H1 := show Hid _ from fun (_ : Unit) => one_any w ht
  have Ht := show Hid (Tab w ∧ IsRaws w a rs) from ⟨ht, hev⟩
  clear hev ht
  obtain ⟨i0, hi, hz0, hz1, hz2⟩ := info_parts Tryd.infoRaw
  go_enter Tryd.func4, Tryd.ntmps4
  go_wp2_with fail
  refine (H1.out ()).mono ?_
  rintro en w1 ⟨rfl, hb1⟩
  go_wp2_with fail
  refine (HE.out w1 hb1).mono ?_
  rintro en w2 ⟨⟨n, tx, rfl, hx⟩, hb2⟩
  have Hb2 := show Hid (Below w.heap.size w w2) from hb1.trans (hb2.mono hb1.size)
  obtain ⟨hn, htx, hts, _⟩ := hx.out
  clear hx hb1 hb2 HE H1
  -- the first n
  obtain ⟨R, hR⟩ : ∃ R, rs.take n = R := ⟨_, rfl⟩
  have hRl : R.length = n := by rw [← hR, List.length_take]; omega
  have htx' : tx.data.toList = recs (recEs R false) := by
    rw [htx, ← hR]
    unfold recEs
    rw [List.map_take]
  have hp1 := Parsed.of_recs (recEs_good R false) htx'
  have hn80 : n ≤ 100 := by
    have := hp1.few
    have hl : (recEs R false).length = n := by simp [recEs, hRl]
    omega
  have hok : ∀ r ∈ R, r.ok := fun r hr => Ht.out.2.1 r (by rw [← hR] at hr; exact List.mem_of_mem_take hr)
  have HTx := show Hid (tx.data.toList = recs (recEs R false)) from htx'
  have Hp1 := show Hid _ from hp1
  have HR := show Hid (rs.take n = R) from hR
  have Hok := show Hid _ from hok
  clear htx htx' hp1 hR hok
  have hni : (n : Int) ≤ 100 := by omega
  have hn0 : (0 : Int) ≤ (n : Int) := by omega
  go_wp2
  go_loopw [7, 8] (fun v j wr => ∃ (jj : Nat) (a2 : Option Addr) (c2 : Nat), jj ≤ 10 ∧ j = .int .i64 (jj : Int) ∧ v = .slice a2 (sortTo R jj).length c2 ∧ wr.ownsRow w.heap.size 31 4 (.slice a2 (sortTo R jj).length c2) (sortTo R jj).length (rawCells (sortTo R jj)) ∧ Below w.heap.size w wr) (fun _ j _ => 10 - (intOf j).toNat)
  case atStart => exact ⟨0, none, 0, by omega, rfl, rfl, World.ownsRow_nil _ _ _ _, Hb2.out⟩
  case round =>
    obtain ⟨jj, a2, c2, hj, rfl, rfl, hown, hbr⟩ := hrel
    by_cases hjl : jj < 10
    · have hji : (jj : Int) < 10 := by omega
      have H0 := show Hid (_ ∧ _) from And.intro hown hbr
      clear hown hbr
      go_wp2
      go_loopw [7, 9] (fun v i wq => ∃ (k : Nat) (a3 : Option Addr) (c3 : Nat), k ≤ n ∧ i = .int .i64 (k : Int) ∧ v = .slice a3 (sortTo R jj ++ grp10 (R.take k) jj).length c3 ∧ wq.ownsRow w.heap.size 31 4 (.slice a3 (sortTo R jj ++ grp10 (R.take k) jj).length c3) (sortTo R jj ++ grp10 (R.take k) jj).length (rawCells (sortTo R jj ++ grp10 (R.take k) jj)) ∧ Below w.heap.size w wq) (fun _ i _ => n - (intOf i).toNat)
      case atStart => exact ⟨0, a2, c2, by omega, rfl, by simp [grp10], by simpa [grp10] using H0.out.1, H0.out.2⟩
      case round =>
        obtain ⟨k, a3, c3, hk, rfl, rfl, hown, hbr⟩ := hrel
        clear H0
        by_cases hkn : k < n
        · have hki : (k : Int) < (n : Int) := by omega
          have hk0 : (0 : Int) ≤ (k : Int) := by omega
          have hkl : k < rs.length := by omega
          have hkli : (k : Int) < (rs.length : Int) := by omega
          have hkR : k < R.length := by omega
          have hgs := grp10_succ R jj k hkR
          have hsl := sortTo_length R jj
          have hgl := grp10_length (R.take k) jj
          rw [List.length_take] at hgl
          have hLl : (sortTo R jj ++ grp10 (R.take k) jj).length ≤ 2000 := by
            rw [List.length_append]
            have : jj * R.length ≤ 10 * 100 := Nat.mul_le_mul (by omega) (by omega)
            omega
          have hRk : R[k] = rs[k]'hkl := by
            have h := HR.out
            subst h
            simp
          rcases Ht.out.2.2 with h0 | ⟨b, off, rfl, hbl, hcs⟩
          · rw [h0] at hkl; simp at hkl
          obtain ⟨d0, d1, d2, d3⟩ := hcs k hkl
          have q0 := (hbr.cell (p := ⟨b, off + k * 4, none⟩) hbl).trans d0
          have q1 := (hbr.cell (p := ⟨b, off + k * 4 + 1, none⟩) hbl).trans d1
          have q2 := (hbr.cell (p := ⟨b, off + k * 4 + 2, none⟩) hbl).trans d2
          have q3 := (hbr.cell (p := ⟨b, off + k * 4 + 3, none⟩) hbl).trans d3
          have hokk := Hok.out R[k] (List.getElem_mem hkR)
          rw [hRk] at hokk hgs
          have HP := show Hid _ from fun w => pick10 (rs[k]'hkl).key w hokk
          have H0 := show Hid (_ ∧ _) from And.intro hown hbr
          clear d0 d1 d2 d3 hcs hown hbr hokk hsl hgl hRk
          generalize rs[k]'hkl = r at q0 q1 q2 q3 HP hgs
          obtain ⟨rd, rk, rq, rv⟩ := r
          simp only at q0 q1 q2 q3 HP hgs
          obtain ⟨L, hL⟩ : ∃ L, sortTo R jj ++ grp10 (R.take k) jj = L := ⟨_, rfl⟩
          have hnx : sortTo R jj ++ grp10 (R.take (k + 1)) jj = if pickS rk = jj then L ++ [⟨rd, rk, rq, rv⟩] else L := by
            rw [hgs, ← hL]
            split <;> simp
          rw [hL] at H0 hLl ⊢
          clear hgs hL
          by_cases hpk : pickS rk = jj
          · rw [if_pos hpk] at hnx
            have Hnx := show Hid _ from hnx
            have hpi : ((pickS rk : Int) == (jj : Int)) = true := by simp [hpk]
            clear hnx hpk
            generalize pickS rk = pk at HP hpi
            have hsz := H0.out.2.size
            go_wp2_with (first
              | (go_at_call 12; refine (HP.out _).mono ?_; rintro en w5 ⟨rfl, rfl⟩)
              | (at_builtin; refine wpList_append_own _ rfl (.tmp 47) (.tmp 52) 22 rfl w.heap.size 31 i0 (.agg #[.bool false, .int .i64 0, .int .i64 0, .int .i64 0]) 4 32 Tryd.underlying22 hi hz0 hz1 hz2 rfl (by decide) _ L.length (rawCells L) rfl (H0.out.1.alloc _) ⟨w5.heap.size, 0, none⟩ 1 1 (rawCells1 ⟨rd, rk, rq, rv⟩) rfl rfl (by have := cell_four_new w5 (.bool rd) (.int .i64 rk) (.int .i64 rq) (.int .i64 rv) 31; simpa [rawCells1] using this) (raw_oneCell _) (by unfold maxLen; omega) (by omega) (by simp; omega) ?_; intro v6 w6 hown6 hgrow6 _; obtain ⟨a6, c6, rfl⟩ := own_shape hown6; have HN := show Hid (_ ∧ _) from And.intro hown6 ((H0.out.2.alloc hsz (.cells #[.bool rd, .int .i64 rk, .int .i64 rq, .int .i64 rv] 31)).grown hgrow6 (by simp; omega) (fun q hq => (own_ge H0.out.1 q hq).1)); clear hown6 hgrow6))
            go_roundw
            case rel =>
              refine ⟨k + 1, a6, c6, by omega, by go_num, ?_, ?_, HN.out.2⟩
              · rw [Hnx.out, List.length_append]
                rfl
              · rw [Hnx.out, List.length_append, rawCells_append, show rawCells [(⟨rd, rk, rq, rv⟩ : RawV)] = rawCells1 ⟨rd, rk, rq, rv⟩ from by simp [rawCells]]
                exact HN.out.1
            case measure => simp [intOf]; omega
          · rw [if_neg hpk] at hnx
            have Hnx := show Hid _ from hnx
            have hpi : ((pickS rk : Int) == (jj : Int)) = false := by rw [beq_eq_false_iff_ne]; omega
            clear hnx hpk
            generalize pickS rk = pk at HP hpi
            go_wp2_with (go_at_call 12; refine (HP.out _).mono ?_; rintro en w5 ⟨rfl, rfl⟩)
            go_roundw
            case rel => exact ⟨k + 1, a3, c3, by omega, by go_num, by rw [Hnx.out], by rw [Hnx.out]; exact H0.out.1, H0.out.2⟩
            case measure => simp [intOf]; omega
        · have hkk : R.take k = R := List.take_of_length_le (by omega)
          rw [hkk, ← sortTo_succ] at hown
          rw [hkk, ← sortTo_succ]
          have H0 := show Hid (_ ∧ _) from And.intro hown hbr
          clear hown hbr hkk
          have hkni : ¬ ((k : Int) < (n : Int)) := by omega
          go_wp2
          go_roundw
          case rel => exact ⟨jj + 1, a3, c3, by omega, by go_num, rfl, H0.out.1, H0.out.2⟩
          case measure => simp [intOf]; omega
    · have hjj : jj = 10 := by omega
      subst hjj
      have hpm := sort_perm R
      have hSl : (sortTo R 10).length = n := by rw [hpm.length_eq, hRl]
      have hokS : ∀ r ∈ sortTo R 10, r.ok := fun r hr => Hok.out r (hpm.mem_iff.1 hr)
      have hsr := sort_recs R false
      have hsf := sort_fold R false
      have HE2 := show Hid _ from fun (_ : Unit) => encoded_any a2 c2 (sortTo R 10) false 400 wr (by decide) (by omega) (isRaws_of_own hown hokS)
      have hrl : (recs (recEs (sortTo R 10) false)).length ≤ 400 := by
        rw [hsr, ← HTx.out, size_list]
        exact hts
      have HT1 : Hid (∀ w, Tab w → Calls Tryd.prog 11 #[.string tx, .int .i64 (n : Int)] w fun en w' => en = .returned (.tuple #[.string ⟨(foldB (recEs R false)).toArray⟩, .bool true]) ∧ Below w.heap.size w w') := by
        intro w ht
        have := told_any tx (recEs R false) _ w hts Hp1.out ht
        rw [show (recEs R false).length = n from by simp [recEs, hRl]] at this
        exact this
      have HT2 : Hid (∀ (m : Nat) (ty : ByteArray), m ≤ (sortTo R 10).length → ty.data.toList = recs ((recEs (sortTo R 10) false).take m) → ty.size ≤ 400 → (m = (sortTo R 10).length ∨ 400 < (recs ((recEs (sortTo R 10) false).take (m + 1))).length) → m = n ∧ ∀ w, Tab w → Calls Tryd.prog 11 #[.string ty, .int .i64 (m : Int)] w fun en w' => en = .returned (.tuple #[.string ⟨(foldB (recEs R false)).toArray⟩, .bool true]) ∧ Below w.heap.size w w') := by
        intro m ty h1 h2 h3 h4
        have hm : m = n := by
          rcases h4 with h4 | h4
          · omega
          · exfalso
            have hle : (recs ((recEs (sortTo R 10) false).take (m + 1))).length ≤ (recs (recEs (sortTo R 10) false)).length := by
              have := recs_append ((recEs (sortTo R 10) false).take (m + 1)) ((recEs (sortTo R 10) false).drop (m + 1))
              rw [List.take_append_drop] at this
              rw [this, List.length_append]
              omega
            omega
        refine ⟨hm, fun w ht => ?_⟩
        have hall : (recEs (sortTo R 10) false).take m = recEs (sortTo R 10) false := List.take_of_length_le (by simp [recEs]; omega)
        rw [hall] at h2
        have := told_any ty (recEs (sortTo R 10) false) _ w h3 (Parsed.of_recs (recEs_good _ _) h2) ht
        rw [hsf, show (recEs (sortTo R 10) false).length = m from by simp [recEs, hSl, hm]] at this
        exact this
      have Hb := show Hid (Below w.heap.size w wr) from hbr
      clear hown hbr hsr hsf hrl hokS hpm hSl Hok HTx Hp1 HR Hb2
      generalize (⟨(foldB (recEs R false)).toArray⟩ : ByteArray) = F at HT1 HT2
      go_wp2_with fail
      refine (HE2.out ()).mono ?_
      rintro en w3 ⟨⟨m, ty, rfl, hx⟩, hb3⟩
      obtain ⟨hmn, hT2⟩ := HT2.out m ty hx.out.1 hx.out.2.1 hx.out.2.2.1 hx.out.2.2.2
      have hmi : ((m : Int) == (n : Int)) = true := by rw [hmn]; simp
      clear hmn
      have HT2' := show Hid _ from hT2
      have Hb3 := show Hid (Below w.heap.size w w3) from Hb.out.trans (hb3.mono Hb.out.size)
      clear hx hT2 HT2 hb3 HE2
      go_wp2_with fail
      refine (HT1.out _ (Ht.out.1.old Hb3.out)).mono ?_
      rintro en w4 ⟨rfl, hb4⟩
      have Hb4 := show Hid (Below w.heap.size w w4) from Hb3.out.trans (hb4.mono Hb3.out.size)
      clear hb4
      go_wp2_with fail
      refine (HT2'.out _ (Ht.out.1.old Hb4.out)).mono ?_
      rintro en w5 ⟨rfl, hb5⟩
      go_wp2
      go_ret
      exact ⟨rfl, Hb4.out.trans (hb5.mono Hb4.out.size)⟩
end Go.Proofs.YthccpacmklhejaaDoor
