/-
  canalkeep.Written: the walk.
-/
import Derived.Test.YthccpacmklhejaaMay
namespace Go.Proofs.Ythccpacmklhejaa
open Go.RowKit

set_option maxRecDepth 100000 in
set_option maxHeartbeats 1000000 in
theorem written_any (a : Option Addr) (cap : Nat) (evs : List Ev) (w : World) (hlen : evs.length ≤ 9223372036854775807) (hev : IsEvs w a evs) :
    Calls Try.prog 3 #[.slice a evs.length cap] w fun en w' => en = .returned (.bool true) ∧ Below w.heap.size w w' := by
  have Hev := show Hid (IsEvs w a evs) from hev
  clear hev
  obtain ⟨i0, hi, hz0, hz1, hz2⟩ := info_parts Try.infoEv
  go_enter Try.func3, Try.ntmps3
  go_wp2_with (first | (go_at_call 6; refine (known_any _).mono ?_; rintro e w1 ⟨rfl, hb⟩))
  go_loopw [4, 5, 6] (fun lg v i wr => ∃ (k : Nat) (es : List Ev) (tx : ByteArray) (ai : Option Addr) (ci : Nat), k ≤ evs.length ∧ i = .int .i64 (k : Int) ∧ lg = .string tx ∧ v = .slice ai es.length ci ∧ Hid (tx.data.toList = recs es ∧ ∀ e ∈ es, Good e) ∧ tx.size ≤ 400 ∧
      wr.ownsRow w.heap.size 30 4 (.slice ai es.length ci) es.length (evCells es) ∧ Below w.heap.size w wr) (fun _ _ i _ => evs.length - (intOf i).toNat)
  case atStart => exact ⟨0, [], ⟨#[]⟩, none, 0, Nat.zero_le _, rfl, rfl, rfl, ⟨by simp [recs], by simp⟩, by decide, World.ownsRow_nil _ _ _ _, hb⟩
  case round =>
    obtain ⟨k, es, tx, ai, ci, hk, rfl, rfl, rfl, hacc, htx, hown, hbw⟩ := hrel
    have hzr := hbw.size
    have hes80 : 5 * es.length ≤ 400 := by
      have x := recs_length es
      rw [← hacc.out.1, size_list] at x
      omega
    by_cases hkl : k < evs.length
    · obtain ⟨hok, hnil | ⟨b, off, rfl, hbl, hcells⟩⟩ := Hev.out
      · rw [hnil] at hkl; simp at hkl
      · obtain ⟨c0, c1, c2, c3⟩ := hcells k hkl
        have heok := hok (evs[k]) (List.getElem_mem hkl)
        have hsq := heok.2.1
        clear hcells hok
        generalize evs[k] = e at c0 c1 c2 c3 heok hsq
        have hcb : ∀ o, wr.cell? ⟨b, o, none⟩ = w.cell? ⟨b, o, none⟩ := fun o => hbw.cell (p := ⟨b, o, none⟩) hbl
        have hE := show Hid _ from fun w => cencode_any e w hsq
        have hM := show Hid _ from fun w => may_any e.op e.key e.seq e.val w
        by_cases hr : refuse e = 0
        · have hel := encStr_list hr
          have hes := size_list (encStr e)
          rw [hel] at hes
          have hM2 : Hid (∀ w, Calls Try.prog 8 #[.agg #[.int .u8 (e.op : Int), .string e.key, .int .u16 (e.seq : Int), .int .i16 e.val]] w fun en w' => en = .returned (.int .i64 0) ∧ Below w.heap.size w w') := by
            intro w
            have := hM.out w
            rw [show refuse ⟨e.op, e.key, e.seq, e.val⟩ = 0 from hr] at this
            exact this
          rw [hr] at hE
          clear hM
          have hlr := recB_length e
          have hk8 := (key_le hr).2.1
          have ht20 : (encStr e).size ≤ 20 := by rw [← hes, hlr]; split <;> omega
          have Hg := show Hid (Good e) from ⟨hr, heok⟩
          clear hlr hk8 heok hr
          generalize encStr e = t at hE hel hes ht20
          by_cases hfit : tx.size + t.size ≤ 400
          · have hacc2 := show Hid ((tx ++ t).data.toList = recs (es ++ [e]) ∧ ∀ x ∈ es ++ [e], Good x) from by
              refine ⟨?_, fun x hx => ?_⟩
              · rw [ByteArray.data_append, Array.toList_append, hel, recs_append, recs_one, hacc.out.1]
              · rcases List.mem_append.1 hx with hx | hx
                · exact hacc.out.2 x hx
                · simp at hx; subst hx; exact Hg.out
            have hts : (tx ++ t).size ≤ 400 := by rw [ByteArray.size_append]; exact hfit
            clear hacc hel hes Hg
            obtain ⟨op, key, seq, val⟩ := e
            unfold Ev.value at hE
            simp only at hE hM2 c0 c1 c2 c3
            go_wp2_with (first | (go_at_call 7; refine (hE.out _).mono ?_; rintro en w3 ⟨rfl, hb3⟩; have hown3 := own_below hown hb3; have hbw3 := hbw.trans (hb3.mono hzr); have hz3 := Nat.le_trans hzr hb3.size; have hcb3 : ∀ o, w3.cell? ⟨b, o, none⟩ = w.cell? ⟨b, o, none⟩ := fun o => hbw3.cell (p := ⟨b, o, none⟩) hbl; clear hown hbw hb3 hzr hcb) | (go_at_call 8; refine (hM2.out _).mono ?_; rintro en w4 ⟨rfl, hb4⟩; have hown4 := own_below hown3 hb4; have hbw4 := hbw3.trans (hb4.mono hz3); have hz4 := Nat.le_trans hz3 hb4.size; have hcb4 : ∀ o, w4.cell? ⟨b, o, none⟩ = w.cell? ⟨b, o, none⟩ := fun o => hbw4.cell (p := ⟨b, o, none⟩) hbl; clear hown3 hbw3 hb4 hz3 hcb3) | (at_builtin; refine wpList_append_own _ rfl (.tmp 60) (.tmp 65) 22 rfl w.heap.size 30 i0 (.agg #[.int .u8 0, .string ⟨#[]⟩, .int .u16 0, .int .i16 0]) 4 32 Try.underlying22 hi hz0 hz1 hz2 rfl (by decide) _ es.length (evCells es) rfl (hown4.alloc _) ⟨w4.heap.size, 0, none⟩ 1 1 (evCells1 ⟨op, key, seq, val⟩) rfl rfl (cell_four_new _ _ _ _ _ _) (ev_oneCell _) (by unfold maxLen; omega) (by omega) (by simp; omega) ?_; intro v5 w5 hown5 hgrow5 _; obtain ⟨hB5, hZ5⟩ := own_step (hbw4.alloc hz4 _) (by simp; omega) (hown4.alloc _) hgrow5; rw [← evCells_one, ← evCells_append] at hown5; obtain ⟨a5, c5, hv5⟩ := own_form hown5; subst hv5; clear hgrow5 hown4 hbw4 hz4 hcb4))
            go_roundw
            case rel => exact ⟨k + 1, es ++ [⟨op, key, seq, val⟩], tx ++ t, a5, c5, by omega, by go_num, rfl, by simp, hacc2, hts, by simpa using hown5, hB5⟩
            case measure => simp [intOf]; omega
          · clear hel hes Hg
            obtain ⟨op, key, seq, val⟩ := e
            unfold Ev.value at hE
            simp only at hE hM2 c0 c1 c2 c3
            go_wp2_with (first | (go_at_call 7; refine (hE.out _).mono ?_; rintro en w3 ⟨rfl, hb3⟩; have hown3 := own_below hown hb3; have hbw3 := hbw.trans (hb3.mono hzr); have hz3 := Nat.le_trans hzr hb3.size; have hcb3 : ∀ o, w3.cell? ⟨b, o, none⟩ = w.cell? ⟨b, o, none⟩ := fun o => hbw3.cell (p := ⟨b, o, none⟩) hbl; clear hown hbw hb3 hzr hcb) | (go_at_call 8; refine (hM2.out _).mono ?_; rintro en w4 ⟨rfl, hb4⟩; have hown4 := own_below hown3 hb4; have hbw4 := hbw3.trans (hb4.mono hz3); have hz4 := Nat.le_trans hz3 hb4.size; have hcb4 : ∀ o, w4.cell? ⟨b, o, none⟩ = w.cell? ⟨b, o, none⟩ := fun o => hbw4.cell (p := ⟨b, o, none⟩) hbl; clear hown3 hbw3 hb4 hz3 hcb3))
            go_roundw
            case rel => exact ⟨k + 1, es, tx, ai, ci, by omega, by go_num, rfl, rfl, hacc, htx, hown4, hbw4⟩
            case measure => simp [intOf]; omega
        · have hen : encStr e = ⟨#[]⟩ := if_neg hr
          have hM2 : Hid (∀ w, Calls Try.prog 8 #[.agg #[.int .u8 (e.op : Int), .string e.key, .int .u16 (e.seq : Int), .int .i16 e.val]] w fun en w' => en = .returned (.int .i64 (refuse e : Int)) ∧ Below w.heap.size w w') := fun w => hM.out w
          rw [hen] at hE
          clear hM hen
          generalize refuse e = r at hE hM2 hr
          have hrb : ((r : Int) != 0) = true := by rw [bne_iff_ne]; omega
          have hrc : ((r : Int) == 0) = false := by rw [beq_eq_false_iff_ne]; omega
          clear hr
          obtain ⟨op, key, seq, val⟩ := e
          unfold Ev.value at hE
          simp only at hE hM2 c0 c1 c2 c3
          go_wp2_with (first | (go_at_call 7; refine (hE.out _).mono ?_; rintro en w3 ⟨rfl, hb3⟩; have hown3 := own_below hown hb3; have hbw3 := hbw.trans (hb3.mono hzr); have hz3 := Nat.le_trans hzr hb3.size; have hcb3 : ∀ o, w3.cell? ⟨b, o, none⟩ = w.cell? ⟨b, o, none⟩ := fun o => hbw3.cell (p := ⟨b, o, none⟩) hbl; clear hown hbw hb3 hzr hcb) | (go_at_call 8; refine (hM2.out _).mono ?_; rintro en w4 ⟨rfl, hb4⟩; have hown4 := own_below hown3 hb4; have hbw4 := hbw3.trans (hb4.mono hz3); have hz4 := Nat.le_trans hz3 hb4.size; have hcb4 : ∀ o, w4.cell? ⟨b, o, none⟩ = w.cell? ⟨b, o, none⟩ := fun o => hbw4.cell (p := ⟨b, o, none⟩) hbl; clear hown3 hbw3 hb4 hz3 hcb3))
          go_roundw
          case rel => exact ⟨k + 1, es, tx, ai, ci, by omega, by go_num, rfl, rfl, hacc, htx, hown4, hbw4⟩
          case measure => simp [intOf]; omega
    · have hP := Parsed.of_recs hacc.out.2 hacc.out.1
      have her : errOf tx tx.size = 0 := by unfold errOf; rw [if_pos rfl]
      have hD := show Hid _ from fun w => cdecode_at tx w htx hP
      rw [her] at hD
      clear hP her hacc Hev hb
      go_wp2_with (go_at_call 9; refine (hD.out _).mono ?_; rintro e w2 ⟨al, cl, rfl, hownl, hb2⟩; have hown2 := own_below hown hb2; have hbw2 := hbw.trans (hb2.mono hzr); clear hown hb2 hbw)
      go_loopw [13] (fun i wq => ∃ (m : Nat), m ≤ es.length ∧ i = .int .i64 (m : Int) ∧ wq.ownsRow wr.heap.size 30 4 (.slice al es.length cl) es.length (evCells es) ∧ wq.ownsRow w.heap.size 30 4 (.slice ai es.length ci) es.length (evCells es) ∧ Below w.heap.size w wq) (fun i _ => es.length - (intOf i).toNat)
      case atStart => exact ⟨0, Nat.zero_le _, rfl, hownl, hown2, hbw2⟩
      case round =>
        obtain ⟨m, hm, rfl, ho1, ho2, hbq⟩ := hrel
        clear hownl hown2 hbw2
        by_cases hml : m < es.length
        · rcases own_addr ho1 with ⟨_, h0⟩ | ⟨g1, rfl⟩
          · omega
          rcases own_addr ho2 with ⟨_, h0⟩ | ⟨g2, rfl⟩
          · omega
          obtain ⟨p0, p1, p2, p3⟩ := own_event ho1 m hml
          obtain ⟨q0, q1, q2, q3⟩ := own_event ho2 m hml
          have hmi : (m : Int) < (es.length : Int) := by omega
          have hm0 : (0 : Int) ≤ (m : Int) := by omega
          go_wp2
          go_quiet (fail)
          go_wp2
          go_roundw
          case rel => exact ⟨m + 1, by omega, by go_num, ho1, ho2, below_drewN hbq _⟩
          case measure => simp [intOf]; omega
        · go_wp2
          go_ret
          exact ⟨rfl, hbq⟩
end Go.Proofs.Ythccpacmklhejaa
