/-
  canalkeep.Cut: the walk.
-/
import Derived.Test.YthccpacmklhejaaWritten
import Derived.Test.YthccpacmklhejaaCutMath
import Derived.Deep.RegionHeld3
namespace Go.Proofs.Ythccpacmklhejaa
open Go.RowKit

set_option maxHeartbeats 400000 in
theorem pick_any (c n : Int) (w : World) (h1 : -9223372036854775808 ≤ c) (h2 : c ≤ 9223372036854775807) (hn : 0 < n) (hn4 : n ≤ 400) :
    Calls Try.prog 10 #[.int .i64 c, .int .i64 n] w fun e w' => (∃ p : Nat, (p : Int) < n ∧ e = .returned (.int .i64 (p : Int))) ∧ w = w' := by
  by_cases hc : c < 0
  · have hb : (-(c + 1)) % n < n := Int.emod_lt_of_pos _ hn
    have hb0 : 0 ≤ (-(c + 1)) % n := Int.emod_nonneg _ (by omega)
    have hne : n ≠ 0 := by omega
    go_enter Try.func10, Try.ntmps10
    go_wp2
    go_ret
    have e : -((c + 1).tmod n) = (-(c + 1)) % n := by rw [← Int.neg_tmod, Int.tmod_eq_emod_of_nonneg (by omega)]
    exact ⟨⟨((-(c + 1)) % n).toNat, by omega, ret_of (congrArg (Value.int .i64) (show -((c + 1).tmod n) = _ by rw [e]; omega))⟩, rfl⟩
  · have hb : c % n < n := Int.emod_lt_of_pos _ hn
    have hb0 : 0 ≤ c % n := Int.emod_nonneg _ (by omega)
    have hne : n ≠ 0 := by omega
    go_enter Try.func10, Try.ntmps10
    go_wp2
    go_ret
    exact ⟨⟨(c % n).toNat, by omega, ret_of (congrArg (Value.int .i64) (show c % n = _ by omega))⟩, rfl⟩

/-- What '[]byte(s)' makes. -/
theorem conv_bytes (w : World) (s : ByteArray) : ∃ (c : Nat) (w' : World), (convert 9 37 (.string s)).run Try.prog w = .ok (.slice (some ⟨w.heap.size, 0, none⟩) s.size c) w' ∧
    (∀ j (h : j < s.size), w'.cell? ⟨w.heap.size, j, none⟩ = some (.int .u8 ((s[j]'h).toNat : Int))) ∧ (∀ j, j < s.size → w'.frozen? ⟨w.heap.size, j, none⟩ = false) ∧ Below w.heap.size w w' ∧ w'.heap.size = w.heap.size + 1 := by
  refine ⟨_, _, run_bytes_of_string w 9 37 5 s Try.underlying9 Try.underlying37 Try.underlying5, ?_, ?_, (Below.refl _ w).drew.alloc (by simp) _, by simp⟩
  · intro j h
    have hh : (w.drew.alloc (.cells (bytesRow s (grownCap w s.size 0 5)) 5 ((bytesRow s (grownCap w s.size 0 5)).size, (bytesRow s (grownCap w s.size 0 5)).size + 1))).heap[w.heap.size]? = some (.cells (bytesRow s (grownCap w s.size 0 5)) 5 ((bytesRow s (grownCap w s.size 0 5)).size, (bytesRow s (grownCap w s.size 0 5)).size + 1)) := heap_alloc_new w.drew _
    rw [cell_of_row _ w.heap.size j _ 5 _ hh]
    unfold bytesRow
    have hj : j < (s.data.map fun b => Value.int .u8 (b.toNat : Int)).size := by rw [Array.size_map]; exact h
    rw [Array.getElem?_append_left hj, Array.getElem?_eq_getElem hj, Array.getElem_map]
    rfl
  · intro j h
    have hh : (w.drew.alloc (.cells (bytesRow s (grownCap w s.size 0 5)) 5 ((bytesRow s (grownCap w s.size 0 5)).size, (bytesRow s (grownCap w s.size 0 5)).size + 1))).heap[w.heap.size]? = some (.cells (bytesRow s (grownCap w s.size 0 5)) 5 ((bytesRow s (grownCap w s.size 0 5)).size, (bytesRow s (grownCap w s.size 0 5)).size + 1)) := heap_alloc_new w.drew _
    have hz : s.size ≤ (bytesRow s (grownCap w s.size 0 5)).size := by
      unfold bytesRow
      rw [Array.size_append, Array.size_map]
      have : s.data.size = s.size := rfl
      omega
    simp only [World.frozen?, hh]
    simp
    omega

/-- The text with byte i turned into y. -/
def turned (s : ByteArray) (i : Nat) (y : UInt8) : ByteArray := ⟨(s.data.toList.set i y).toArray⟩
theorem turned_list (s : ByteArray) (i : Nat) (y : UInt8) : (turned s i y).data.toList = s.data.toList.set i y := by simp [turned]
theorem turned_size (s : ByteArray) (i : Nat) (y : UInt8) : (turned s i y).size = s.size := by
  rw [← size_list, turned_list, List.length_set, size_list]
theorem at_list (s : ByteArray) (i : Nat) (h : i < s.size) : s.data.toList[i]'(by rw [size_list]; exact h) = s[i]'h := rfl

theorem turn_byte (x : UInt8) (p : Nat) (hp : p < 255) : ∃ yb : UInt8, ((x.toNat + (1 + p) : Int) % 256) = (yb.toNat : Int) ∧ yb ≠ x := by
  have hx := x.toNat_lt
  refine ⟨UInt8.ofNat ((x.toNat + (1 + p)) % 256), ?_, ?_⟩
  · simp
  · intro h
    have := congrArg UInt8.toNat h
    simp at this
    omega

theorem conv_turn (w : World) (B i c : Nat) (tx : ByteArray) (yb : UInt8) (hi : i < tx.size) (hc : ∀ j (h : j < tx.size), w.cell? ⟨B, j, none⟩ = some (.int .u8 ((tx[j]'h).toNat : Int))) :
    (convert 37 9 (.slice (some ⟨B, 0, none⟩) tx.size c)).run Try.prog (w.setCell ⟨B, i, none⟩ (.int .u8 (yb.toNat : Int))).drew = .ok (.string (turned tx i yb)) (w.setCell ⟨B, i, none⟩ (.int .u8 (yb.toNat : Int))).drew := by
  have hl : (tx.data.toList.set i yb).length = tx.size := by rw [List.length_set, size_list]
  have h := run_convert_bytes_back (P := Try.prog) (w.setCell ⟨B, i, none⟩ (.int .u8 (yb.toNat : Int))).drew 37 9 5 ⟨B, 0, none⟩ c (tx.data.toList.set i yb) Try.underlying37 Try.underlying5 Try.underlying9 (by
    intro j hj
    have e : (⟨B, 0, none⟩ : Addr).add j = ⟨B, j, none⟩ := by unfold Addr.add; split <;> simp_all
    rw [e]
    have hj' : j < tx.size := by omega
    show (w.setCell ⟨B, i, none⟩ (.int .u8 (yb.toNat : Int))).cell? ⟨B, j, none⟩ = _
    have hcj := hc j hj'
    by_cases hji : j = i
    · subst hji
      rw [World.cell?_setCell_same' w _ _ (by rw [hcj]; rfl)]
      simp
    · rw [World.cell?_setCell_other w _ _ _ (by intro h; have h9 := congrArg Addr.off h; simp only at h9; omega), hcj]
      rw [List.getElem_set_ne (by omega)]
      rfl)
  rw [hl] at h
  exact h

theorem own_turn {w w6 : World} {B n : Nat} {e : TypeId} {s : Nat} {v : Value} {xs : List Value} (i : Nat) (u : Value) (ho : w.ownsRow B e s v n xs) (hb : Below w.heap.size w w6) :
    (w6.setCell ⟨w.heap.size, i, none⟩ u).drew.ownsRow B e s v n xs := by
  have hlt := ho.lt
  refine (own_below ho hb).kept (row := some w.heap.size) ⟨rfl, rfl, rfl, by simp [World.setCell], fun k hk hne => ?_⟩ ?_
  · exact Below.heap_setCell w6 ⟨w.heap.size, i, none⟩ u k (fun h => hne (by rw [h]))
  · right
    intro h
    have := (hlt _ h).2
    omega

set_option maxRecDepth 100000 in
set_option maxHeartbeats 1000000 in
theorem cut_any (a : Option Addr) (cap : Nat) (evs : List Ev) (at0 by0 : Int) (w : World) (hlen : evs.length ≤ 9223372036854775807) (hev : IsEvs w a evs)
    (a1 : -9223372036854775808 ≤ at0) (a2 : at0 ≤ 9223372036854775807) (b1 : -9223372036854775808 ≤ by0) (b2 : by0 ≤ 9223372036854775807) :
    Calls Try.prog 5 #[.slice a evs.length cap, .int .i64 at0, .int .i64 by0] w fun en w' => en = .returned (.bool true) ∧ Below w.heap.size w w' := by
  have Hev := show Hid (IsEvs w a evs) from hev
  clear hev
  go_enter Try.func5, Try.ntmps5
  go_wp2_with (first | (go_at_call 6; refine (known_any _).mono ?_; rintro e w1 ⟨rfl, hb⟩))
  go_loopw [8, 9] (fun lg i wr => ∃ (k : Nat) (es : List Ev) (tx : ByteArray), k ≤ evs.length ∧ i = .int .i64 (k : Int) ∧ lg = .string tx ∧ Hid (tx.data.toList = recs es ∧ ∀ e ∈ es, Good e) ∧ tx.size ≤ 400 ∧ Below w.heap.size w wr) (fun _ i _ => evs.length - (intOf i).toNat)
  case atStart => exact ⟨0, [], ⟨#[]⟩, Nat.zero_le _, rfl, rfl, ⟨by simp [recs], by simp⟩, by decide, hb⟩
  case round =>
    obtain ⟨k, es, tx, hk, rfl, rfl, hacc, htx, hbw⟩ := hrel
    have hzr := hbw.size
    by_cases hkl : k < evs.length
    · obtain ⟨hok, hnil | ⟨b, off, rfl, hbl, hcells⟩⟩ := Hev.out
      · rw [hnil] at hkl; simp at hkl
      · obtain ⟨c0, c1, c2, c3⟩ := hcells k hkl
        have heok := hok (evs[k]) (List.getElem_mem hkl)
        have hsq := heok.2.1
        clear hcells hok
        generalize evs[k] = e at c0 c1 c2 c3 heok hsq
        have hcb : ∀ o, wr.cell? ⟨b, o, none⟩ = w.cell? ⟨b, o, none⟩ := fun o => hbw.cell (p := ⟨b, o, none⟩) hbl
        have hE := show Hid _ from fun w => cencode_any e w hsq
        by_cases hr : refuse e = 0
        · have hel := encStr_list hr
          have hes := size_list (encStr e)
          rw [hel] at hes
          rw [hr] at hE
          have hlr := recB_length e
          have hk8 := (key_le hr).2.1
          have ht20 : (encStr e).size ≤ 20 := by rw [← hes, hlr]; split <;> omega
          have Hg := show Hid (Good e) from ⟨hr, heok⟩
          clear hlr hk8 heok hr
          generalize encStr e = t at hE hel hes ht20
          by_cases hfit : tx.size + t.size ≤ 400
          · have hacc2 := show Hid ((tx ++ t).data.toList = recs (es ++ [e]) ∧ ∀ x ∈ es ++ [e], Good x) from by
              refine ⟨?_, fun x hx => ?_⟩
              · rw [ByteArray.data_append, Array.toList_append, hel, recs_append, recs_one, hacc.out.1]
              · rcases List.mem_append.1 hx with hx | hx
                · exact hacc.out.2 x hx
                · simp at hx; subst hx; exact Hg.out
            have hts : (tx ++ t).size ≤ 400 := by rw [ByteArray.size_append]; exact hfit
            clear hacc hel hes Hg
            obtain ⟨op, key, seq, val⟩ := e
            unfold Ev.value at hE
            simp only at hE c0 c1 c2 c3
            go_wp2_with (go_at_call 7; refine (hE.out _).mono ?_; rintro en w3 ⟨rfl, hb3⟩; have hbw3 := hbw.trans (hb3.mono hzr); clear hbw hb3 hzr hcb)
            go_roundw
            case rel => exact ⟨k + 1, es ++ [⟨op, key, seq, val⟩], tx ++ t, by omega, by go_num, rfl, hacc2, hts, hbw3⟩
            case measure => simp [intOf]; omega
          · clear hel hes Hg
            obtain ⟨op, key, seq, val⟩ := e
            unfold Ev.value at hE
            simp only at hE c0 c1 c2 c3
            go_wp2_with (go_at_call 7; refine (hE.out _).mono ?_; rintro en w3 ⟨rfl, hb3⟩; have hbw3 := hbw.trans (hb3.mono hzr); clear hbw hb3 hzr hcb)
            go_roundw
            case rel => exact ⟨k + 1, es, tx, by omega, by go_num, rfl, hacc, htx, hbw3⟩
            case measure => simp [intOf]; omega
        · have hen : encStr e = ⟨#[]⟩ := if_neg hr
          rw [hen] at hE
          clear hen
          generalize refuse e = r at hE hr
          have hrc : ((r : Int) == 0) = false := by rw [beq_eq_false_iff_ne]; omega
          clear hr
          obtain ⟨op, key, seq, val⟩ := e
          unfold Ev.value at hE
          simp only at hE c0 c1 c2 c3
          go_wp2_with (go_at_call 7; refine (hE.out _).mono ?_; rintro en w3 ⟨rfl, hb3⟩; have hbw3 := hbw.trans (hb3.mono hzr); clear hbw hb3 hzr hcb)
          go_roundw
          case rel => exact ⟨k + 1, es, tx, by omega, by go_num, rfl, hacc, htx, hbw3⟩
          case measure => simp [intOf]; omega
    · clear Hev hb
      by_cases htx0 : tx.size = 0
      · have he : tx.toList.isEmpty = true := by
          rw [ByteArray.toList_eq, List.isEmpty_iff]
          exact List.eq_nil_of_length_eq_zero (by rw [size_list]; exact htx0)
        go_wp2
        go_ret
        exact ⟨rfl, hbw⟩
      have he : tx.toList.isEmpty = false := by
        cases hh : tx.toList.isEmpty with
        | false => rfl
        | true =>
          rw [ByteArray.toList_eq, List.isEmpty_iff] at hh
          have := size_list tx
          rw [hh] at this
          simp at this
          omega
      go_wp2_with fail
      refine (pick_any at0 tx.size _ a1 a2 (by omega) (by omega)).mono ?_
      rintro en w2 ⟨⟨i, hi, rfl⟩, rfl⟩
      have hi' : i < tx.size := by omega
      obtain ⟨pre, e, post, h1, h2, h3, hps⟩ := cut_short (s := tx.extract 0 i) hacc.out.1 hacc.out.2 hi' (by rw [extract_list]; simp)
      have hxs : (tx.extract 0 i).size = i := by rw [ByteArray.size_extract]; omega
      have hD1 := show Hid _ from fun w => cdecode_at (tx.extract 0 i) w (by omega) hps
      rename World => wr1
      obtain ⟨n, hn⟩ : ∃ n, n = (recs pre).length := ⟨_, rfl⟩
      have her : (((errOf (tx.extract 0 i) (recs pre).length : Nat) : Int) == 0) = ((n : Int) == (i : Int)) := by
        unfold errOf
        rw [hxs, hn]
        split
        · rename_i h; rw [h]; simp
        · rename_i h
          have h' : (((recs pre).length : Int) == (i : Int)) = false := by rw [beq_eq_false_iff_ne]; omega
          rw [h']; rfl
      generalize errOf (tx.extract 0 i) (recs pre).length = r1 at hD1 her
      rw [← hn] at hD1 h2 h3 hps
      obtain ⟨bb, hbb⟩ : ∃ bb, bb = ((n : Int) == (i : Int)) := ⟨_, rfl⟩
      rw [← hbb] at her
      have hni := hbb.symm
      have hin : ((i : Int) == (n : Int)) = bb := by rw [hbb]; exact Bool.beq_comm
      clear hbb
      have Hn := show Hid (n = (recs pre).length) from hn
      have Hes := show Hid (es = pre ++ e :: post) from h1
      have Hg : Hid (∀ x ∈ pre, Good x) := hps.good
      have hpl : 5 * pre.length ≤ 400 := by have := hps.few; omega
      clear hn h1 hps hxs
      go_wp2_with fail
      refine (hD1.out _).mono ?_
      rintro en w2 ⟨a2', c2', rfl, hown2, hb2⟩
      have hbw2 := hbw.trans (hb2.mono hzr)
      have hz2 := Nat.le_trans hzr hb2.size
      have hzw2 := hb2.size
      rename World => w4
      clear hbw hb2
      go_wp2
      go_loopw [16, 17] (fun pl m wq => ∃ (q : Nat), q ≤ pre.length ∧ m = .int .i64 (q : Int) ∧ pl = .int .i64 ((recs (pre.take q)).length : Int) ∧ wq.ownsRow wr1.heap.size 30 4 (.slice a2' pre.length c2') pre.length (evCells pre) ∧ Below w.heap.size w wq ∧ w.heap.size ≤ wq.heap.size ∧ wr1.heap.size ≤ wq.heap.size) (fun _ m _ => pre.length - (intOf m).toNat)
      case atStart => exact ⟨0, Nat.zero_le _, rfl, by simp [recs], hown2, hbw2, hz2, hzw2⟩
      case round =>
        obtain ⟨q, hq, rfl, rfl, ho, hbq, hzq, hzq2⟩ := hrel
        clear hown2 hbw2 hz2 hzw2
        by_cases hql : q < pre.length
        · rcases own_addr ho with ⟨_, h0⟩ | ⟨g, rfl⟩
          · omega
          obtain ⟨c0, c1, c2, c3⟩ := own_event ho q hql
          have hg := Hg.out (pre[q]) (List.getElem_mem hql)
          have htq : (recs (pre.take q)).length + (recB pre[q]).length = (recs (pre.take (q + 1))).length := by
            rw [← List.take_append_getElem hql, recs_append, recs_one, List.length_append]
          have hb1 : (recs (pre.take (q + 1))).length ≤ 400 := by
            have e2 : recs pre = recs (pre.take (q + 1)) ++ recs (pre.drop (q + 1)) := by rw [← recs_append, List.take_append_drop]
            have l2 := congrArg List.length e2
            rw [← Hn.out, List.length_append] at l2
            omega
          have hE := show Hid _ from fun w => cencode_any pre[q] w hg.2.2.1
          rw [hg.1] at hE
          have hel := encStr_list hg.1
          have hes := size_list (encStr pre[q])
          rw [hel] at hes
          rw [hes] at htq
          clear hel hes hg
          generalize pre[q] = ev at c0 c1 c2 c3 hE htq
          generalize encStr ev = t1 at hE htq
          have Htq := show Hid (_ = _) from htq
          generalize (recs (pre.take q)).length = pl at Htq htq
          have hpl1 : pl + t1.size ≤ 400 := by omega
          clear htq
          obtain ⟨op, key, seq, val⟩ := ev
          unfold Ev.value at hE
          simp only at hE c0 c1 c2 c3
          go_wp2_with (go_at_call 7; refine (hE.out _).mono ?_; rintro en w3 ⟨rfl, hb3⟩; have ho3 := own_below ho hb3; have hbq3 := hbq.trans (hb3.mono hzq); have hzq3 := Nat.le_trans hzq hb3.size; have hzr3 := Nat.le_trans hzq2 hb3.size; clear ho hbq hb3 hzq hzq2 c0 c1 c2 c3)
          go_roundw
          case rel => exact ⟨q + 1, by omega, by go_num, by rw [← Htq.out]; go_num, ho3, hbq3, hzq3, hzr3⟩
          case measure => simp [intOf]; omega
        · have hpn : (recs (pre.take q)).length = n := by rw [List.take_of_length_le (by omega), Hn.out]
          rw [hpn]
          clear hpn
          obtain ⟨c6, w6, hcv, hcell6, hfr6, hb6, hz6⟩ := conv_bytes wr tx
          have hx6 := hcell6 i hi'
          have hf6 := hfr6 i hi'
          have hii : (0 : Int) ≤ (i : Int) := by omega
          have Hc6 := show Hid (∀ j (h : j < tx.size), w6.cell? ⟨wr.heap.size, j, none⟩ = some (.int .u8 ((tx[j]'h).toNat : Int))) from hcell6
          have hxb : (tx[i]'hi').toNat < 256 := (tx[i]'hi').toNat_lt
          clear hcell6 hfr6
          go_wp2
          clear hcv
          refine wp_region_any (by kernel_rfl) ?_
          try (change wpAny _ _ _ _ _ _ _ (World.drew _))
          refine wpAny_take (i := 0) (v := .slice (some ⟨wr.heap.size, 0, none⟩) tx.size c6) rfl (by kernel_rfl) (by kernel_rfl) (by kernel_rfl) (fun _ _ _ h => h) (Or.inl ⟨by rfl, by intro w; go_simp⟩) ?_
          refine wpAny_take (i := 1) (v := .int .i64 i) rfl (by kernel_rfl) (by kernel_rfl) (by kernel_rfl) (fun _ _ _ h => h) (Or.inl ⟨by rfl, by intro w; go_simp⟩) ?_
          refine wpAny_take (i := 2) (v := .slice (some ⟨wr.heap.size, 0, none⟩) tx.size c6) rfl (by kernel_rfl) (by kernel_rfl) (by kernel_rfl) (fun _ _ _ h => h) (Or.inl ⟨by rfl, by intro w; go_simp⟩) ?_
          refine wpAny_take (i := 3) (v := .int .i64 i) rfl (by kernel_rfl) (by kernel_rfl) (by kernel_rfl) (fun _ _ _ h => h) (Or.inl ⟨by rfl, by intro w; go_simp⟩) ?_
          refine wpAny_take (i := 4) (v := .pointer (some ⟨wr.heap.size, i, none⟩)) rfl (by kernel_rfl) (by kernel_rfl) (by kernel_rfl) (fun _ _ _ h => h) (Or.inl ⟨by rfl, by intro w; go_simp⟩) ?_
          refine wpAny_take (i := 6) (v := .int .i64 by0) rfl (by kernel_rfl) (by kernel_rfl) (by kernel_rfl) (fun _ _ _ h => h) (Or.inl ⟨by rfl, by intro w; go_simp⟩) ?_
          refine wpAny_ready (rs := [5, 7]) (by kernel_rfl) (by simp) ?_
          refine AllReady.cons rfl (fun K hK => ?_) (AllReady.cons rfl (fun K hK => ?_) AllReady.nil)
          · go_simp
            refine hK _ _ ?_; clear hK K
            refine wpAny_ready (rs := [7]) (by kernel_rfl) (by simp) ?_
            refine AllReady.cons rfl (fun K hK => ?_) AllReady.nil
            go_simp
            go_wp2_with (go_at_call 10; refine (pick_any by0 255 _ b1 b2 ?_ ?_).mono ?_; omega; omega; rintro en w8 ⟨⟨p, hp, rfl⟩, rfl⟩)
            refine wpAny_take (i := 8) (v := .int .i64 (1 + p)) rfl (by kernel_rfl) (by kernel_rfl) (by kernel_rfl) (fun _ _ _ h => h) (Or.inl ⟨by rfl, by intro w; go_simp; exact wrap_small _ (by omega) (by omega)⟩) ?_
            refine wpAny_take (i := 9) (v := .int .u8 (1 + p)) rfl (by kernel_rfl) (by kernel_rfl) (by kernel_rfl) (fun _ _ _ h => h) (Or.inl ⟨by rfl, by intro w; go_simp; rw [IntKind.wrap_u8]; omega⟩) ?_
            refine wpAny_take (i := 10) (v := .int .u8 (((tx[i]'hi').toNat + (1 + p) : Int) % 256)) rfl (by kernel_rfl) (by kernel_rfl) (by kernel_rfl) (fun _ _ _ h => h) (Or.inl ⟨by rfl, by intro w; go_simp; rw [IntKind.wrap_u8]⟩) ?_
            refine wpAny_take (i := 11) (v := .pointer (some ⟨wr.heap.size, i, none⟩)) rfl (by kernel_rfl) (by kernel_rfl) (by kernel_rfl) (fun _ _ _ h => h) (Or.inl ⟨by rfl, by intro w; go_simp⟩) ?_
            refine wpAny_ready (rs := [12]) (by kernel_rfl) (by simp) ?_
            refine AllReady.cons rfl (fun K hK => ?_) AllReady.nil
            go_simp
            refine hK _ _ ?_; clear hK K
            refine wpAny_done (by kernel_rfl) ?_ _
            obtain ⟨yb, hyb, hyn⟩ : ∃ yb : UInt8, (((tx[i]'hi').toNat + (1 + p) : Int) % 256) = (yb.toNat : Int) ∧ yb ≠ tx[i]'hi' := turn_byte (tx[i]'hi') p (by omega)
            rw [hyb]
            have hcv7 := conv_turn w6 wr.heap.size i c6 tx yb hi' Hc6.out
            have ho7 := own_turn i (.int .u8 (yb.toNat : Int)) ho hb6
            have hb7 : Below w.heap.size w (w6.setCell ⟨wr.heap.size, i, none⟩ (.int .u8 (yb.toNat : Int))).drew := ((hbq.trans (hb6.mono hzq)).setCell hzq _).drew
            have hz7 := hb7.size
            generalize (w6.setCell ⟨wr.heap.size, i, none⟩ (.int .u8 (yb.toNat : Int))).drew = w9 at hcv7 ho7 hb7 hz7
            clear hyb hx6 hf6 Hc6 hb6 hz6 hxb ho hbq hzq
            obtain ⟨more, n2, hP2, hle2, h62⟩ := cut_turn (T := turned tx i yb) (x := yb) hacc.out.1 hacc.out.2 Hes.out (by rw [← Hn.out]; exact h2) (by rw [← Hn.out]; exact h3) (turned_list tx i yb) (fun h => by rw [at_list tx i hi']; exact hyn)
            rw [← Hn.out] at hle2 h62
            obtain ⟨al, hal⟩ : ∃ al, al = pre ++ more := ⟨_, rfl⟩
            rw [← hal] at hP2
            have hts : (turned tx i yb).size = tx.size := turned_size tx i yb
            have hn2 := hP2.le
            have hal1 : pre.length ≤ al.length := by rw [hal]; simp
            have hal80 : 5 * al.length ≤ 400 := by have := hP2.few; omega
            have Hal := show Hid (∀ m (h : m < pre.length), al[m]'(by omega) = pre[m]) from fun m h => by subst hal; exact List.getElem_append_left h
            have hD2 := show Hid _ from fun w => cdecode_at (turned tx i yb) w (by omega) hP2
            have H6 := show Hid (i ≠ n → i ≠ n + 1 → errOf (turned tx i yb) n2 = 6 ∧ n2 = n) from fun x1 x2 => by
              obtain ⟨_, y2, y3⟩ := h62 x1 x2
              exact ⟨by unfold errOf; rw [if_neg (by omega)], y2⟩
            generalize errOf (turned tx i yb) n2 = r2 at hD2 H6
            generalize turned tx i yb = T at hcv7 hD2 hts hn2
            clear hal hP2 h62 Hes
            have hlt2 : decide ((n2 : Int) < (n : Int)) = false := decide_eq_false (by omega)
            have hll : decide ((al.length : Int) < (pre.length : Int)) = false := decide_eq_false (by omega)
            go_wp2_with (go_at_call 9; refine (hD2.out _).mono ?_; rintro en w10 ⟨a10, c10, rfl, ho10, hb10⟩; have ho11 := own_below ho7 hb10; have hb11 := hb7.trans (hb10.mono hz7); clear ho7 hb10 hb7)
            go_loopw [24] (fun m wq => ∃ (q2 : Nat), q2 ≤ pre.length ∧ m = .int .i64 (q2 : Int) ∧ wq.ownsRow w9.heap.size 30 4 (.slice a10 al.length c10) al.length (evCells al) ∧ wq.ownsRow wr1.heap.size 30 4 (.slice a2' pre.length c2') pre.length (evCells pre) ∧ Below w.heap.size w wq) (fun m _ => pre.length - (intOf m).toNat)
            case atStart => exact ⟨0, Nat.zero_le _, rfl, ho10, ho11, hb11⟩
            case round =>
              obtain ⟨q2, hq2, rfl, hoa, hob, hbz⟩ := hrel
              clear ho10 ho11 hb11
              by_cases hq2l : q2 < pre.length
              · rcases own_addr hoa with ⟨_, h0⟩ | ⟨g1, rfl⟩
                · omega
                rcases own_addr hob with ⟨_, h0⟩ | ⟨g2, rfl⟩
                · omega
                obtain ⟨p0, p1, p2, p3⟩ := own_event hoa q2 (by omega)
                obtain ⟨q0, q1, q2', q3⟩ := own_event hob q2 hq2l
                rw [Hal.out q2 hq2l] at p0 p1 p2 p3
                have hmi : (q2 : Int) < (pre.length : Int) := by omega
                have hmj : (q2 : Int) < (al.length : Int) := by omega
                have hm0 : (0 : Int) ≤ (q2 : Int) := by omega
                go_wp2
                go_quiet (fail)
                go_wp2
                go_roundw
                case rel => exact ⟨q2 + 1, by omega, by go_num, hoa, hob, below_drewN hbz _⟩
                case measure => simp [intOf]; omega
              · clear hoa hob
                cases bb with
                | true =>
                  go_wp2
                  go_ret
                  exact ⟨rfl, hbz⟩
                | false =>
                  have hne : i ≠ n := by
                    intro h
                    rw [h] at hin
                    simp at hin
                  by_cases hi1 : i = n + 1
                  · have hib : ((i : Int) == (n : Int) + 1) = true := by rw [beq_iff_eq]; omega
                    go_wp2
                    go_ret
                    exact ⟨rfl, hbz⟩
                  · have hib : ((i : Int) == (n : Int) + 1) = false := by rw [beq_eq_false_iff_ne]; omega
                    obtain ⟨hr6, hnn⟩ := H6.out hne hi1
                    have hr6b : ((r2 : Int) == 6) = true := by rw [hr6]; rfl
                    have hnb : ((n2 : Int) == (n : Int)) = true := by rw [hnn]; simp
                    clear hr6 hnn
                    go_wp2
                    go_ret
                    exact ⟨rfl, hbz⟩
          · go_simp
            go_wp2_with (go_at_call 10; refine (pick_any by0 255 _ b1 b2 ?_ ?_).mono ?_; omega; omega; rintro en w8 ⟨⟨p, hp, rfl⟩, rfl⟩)
            refine wpAny_take (i := 8) (v := .int .i64 (1 + p)) rfl (by kernel_rfl) (by kernel_rfl) (by kernel_rfl) (fun _ _ _ h => h) (Or.inl ⟨by rfl, by intro w; go_simp; exact wrap_small _ (by omega) (by omega)⟩) ?_
            refine wpAny_take (i := 9) (v := .int .u8 (1 + p)) rfl (by kernel_rfl) (by kernel_rfl) (by kernel_rfl) (fun _ _ _ h => h) (Or.inl ⟨by rfl, by intro w; go_simp; rw [IntKind.wrap_u8]; omega⟩) ?_
            refine wpAny_ready (rs := [5]) (by kernel_rfl) (by simp) ?_
            refine AllReady.cons rfl (fun K hK => ?_) AllReady.nil
            go_simp
            refine hK _ _ ?_; clear hK K
            refine wpAny_take (i := 10) (v := .int .u8 (((tx[i]'hi').toNat + (1 + p) : Int) % 256)) rfl (by kernel_rfl) (by kernel_rfl) (by kernel_rfl) (fun _ _ _ h => h) (Or.inl ⟨by rfl, by intro w; go_simp; rw [IntKind.wrap_u8]⟩) ?_
            refine wpAny_take (i := 11) (v := .pointer (some ⟨wr.heap.size, i, none⟩)) rfl (by kernel_rfl) (by kernel_rfl) (by kernel_rfl) (fun _ _ _ h => h) (Or.inl ⟨by rfl, by intro w; go_simp⟩) ?_
            refine wpAny_ready (rs := [12]) (by kernel_rfl) (by simp) ?_
            refine AllReady.cons rfl (fun K hK => ?_) AllReady.nil
            go_simp
            refine hK _ _ ?_; clear hK K
            refine wpAny_done (by kernel_rfl) ?_ _
            obtain ⟨yb, hyb, hyn⟩ : ∃ yb : UInt8, (((tx[i]'hi').toNat + (1 + p) : Int) % 256) = (yb.toNat : Int) ∧ yb ≠ tx[i]'hi' := turn_byte (tx[i]'hi') p (by omega)
            rw [hyb]
            have hcv7 := conv_turn w6 wr.heap.size i c6 tx yb hi' Hc6.out
            have ho7 := own_turn i (.int .u8 (yb.toNat : Int)) ho hb6
            have hb7 : Below w.heap.size w (w6.setCell ⟨wr.heap.size, i, none⟩ (.int .u8 (yb.toNat : Int))).drew := ((hbq.trans (hb6.mono hzq)).setCell hzq _).drew
            have hz7 := hb7.size
            generalize (w6.setCell ⟨wr.heap.size, i, none⟩ (.int .u8 (yb.toNat : Int))).drew = w9 at hcv7 ho7 hb7 hz7
            clear hyb hx6 hf6 Hc6 hb6 hz6 hxb ho hbq hzq
            obtain ⟨more, n2, hP2, hle2, h62⟩ := cut_turn (T := turned tx i yb) (x := yb) hacc.out.1 hacc.out.2 Hes.out (by rw [← Hn.out]; exact h2) (by rw [← Hn.out]; exact h3) (turned_list tx i yb) (fun h => by rw [at_list tx i hi']; exact hyn)
            rw [← Hn.out] at hle2 h62
            obtain ⟨al, hal⟩ : ∃ al, al = pre ++ more := ⟨_, rfl⟩
            rw [← hal] at hP2
            have hts : (turned tx i yb).size = tx.size := turned_size tx i yb
            have hn2 := hP2.le
            have hal1 : pre.length ≤ al.length := by rw [hal]; simp
            have hal80 : 5 * al.length ≤ 400 := by have := hP2.few; omega
            have Hal := show Hid (∀ m (h : m < pre.length), al[m]'(by omega) = pre[m]) from fun m h => by subst hal; exact List.getElem_append_left h
            have hD2 := show Hid _ from fun w => cdecode_at (turned tx i yb) w (by omega) hP2
            have H6 := show Hid (i ≠ n → i ≠ n + 1 → errOf (turned tx i yb) n2 = 6 ∧ n2 = n) from fun x1 x2 => by
              obtain ⟨_, y2, y3⟩ := h62 x1 x2
              exact ⟨by unfold errOf; rw [if_neg (by omega)], y2⟩
            generalize errOf (turned tx i yb) n2 = r2 at hD2 H6
            generalize turned tx i yb = T at hcv7 hD2 hts hn2
            clear hal hP2 h62 Hes
            have hlt2 : decide ((n2 : Int) < (n : Int)) = false := decide_eq_false (by omega)
            have hll : decide ((al.length : Int) < (pre.length : Int)) = false := decide_eq_false (by omega)
            go_wp2_with (go_at_call 9; refine (hD2.out _).mono ?_; rintro en w10 ⟨a10, c10, rfl, ho10, hb10⟩; have ho11 := own_below ho7 hb10; have hb11 := hb7.trans (hb10.mono hz7); clear ho7 hb10 hb7)
            go_loopw [24] (fun m wq => ∃ (q2 : Nat), q2 ≤ pre.length ∧ m = .int .i64 (q2 : Int) ∧ wq.ownsRow w9.heap.size 30 4 (.slice a10 al.length c10) al.length (evCells al) ∧ wq.ownsRow wr1.heap.size 30 4 (.slice a2' pre.length c2') pre.length (evCells pre) ∧ Below w.heap.size w wq) (fun m _ => pre.length - (intOf m).toNat)
            case atStart => exact ⟨0, Nat.zero_le _, rfl, ho10, ho11, hb11⟩
            case round =>
              obtain ⟨q2, hq2, rfl, hoa, hob, hbz⟩ := hrel
              clear ho10 ho11 hb11
              by_cases hq2l : q2 < pre.length
              · rcases own_addr hoa with ⟨_, h0⟩ | ⟨g1, rfl⟩
                · omega
                rcases own_addr hob with ⟨_, h0⟩ | ⟨g2, rfl⟩
                · omega
                obtain ⟨p0, p1, p2, p3⟩ := own_event hoa q2 (by omega)
                obtain ⟨q0, q1, q2', q3⟩ := own_event hob q2 hq2l
                rw [Hal.out q2 hq2l] at p0 p1 p2 p3
                have hmi : (q2 : Int) < (pre.length : Int) := by omega
                have hmj : (q2 : Int) < (al.length : Int) := by omega
                have hm0 : (0 : Int) ≤ (q2 : Int) := by omega
                go_wp2
                go_quiet (fail)
                go_wp2
                go_roundw
                case rel => exact ⟨q2 + 1, by omega, by go_num, hoa, hob, below_drewN hbz _⟩
                case measure => simp [intOf]; omega
              · clear hoa hob
                cases bb with
                | true =>
                  go_wp2
                  go_ret
                  exact ⟨rfl, hbz⟩
                | false =>
                  have hne : i ≠ n := by
                    intro h
                    rw [h] at hin
                    simp at hin
                  by_cases hi1 : i = n + 1
                  · have hib : ((i : Int) == (n : Int) + 1) = true := by rw [beq_iff_eq]; omega
                    go_wp2
                    go_ret
                    exact ⟨rfl, hbz⟩
                  · have hib : ((i : Int) == (n : Int) + 1) = false := by rw [beq_eq_false_iff_ne]; omega
                    obtain ⟨hr6, hnn⟩ := H6.out hne hi1
                    have hr6b : ((r2 : Int) == 6) = true := by rw [hr6]; rfl
                    have hnb : ((n2 : Int) == (n : Int)) = true := by rw [hnn]; simp
                    clear hr6 hnn
                    go_wp2
                    go_ret
                    exact ⟨rfl, hbz⟩
end Go.Proofs.Ythccpacmklhejaa
