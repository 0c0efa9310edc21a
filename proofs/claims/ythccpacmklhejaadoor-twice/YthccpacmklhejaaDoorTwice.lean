/-
  canalkeep.Twice.
-/
import Derived.Test.YthccpacmklhejaaDoorLogs
import Derived.Test.YthccpacmklhejaaDoorTwiceMath
namespace Go.Proofs.YthccpacmklhejaaDoor
open Go.RowKit

theorem low_seqs (rs : List RawV) : ∀ e ∈ recEs rs true, e.seq < 32768 := by
  intro e he
  obtain ⟨r, _, rfl⟩ := List.mem_map.1 he
  unfold recE
  simp only [if_true]
  omega

set_option maxRecDepth 100000 in
set_option maxHeartbeats 2000000 in
theorem twice_any (a : Option Addr) (cap : Nat) (rs : List RawV) (w : World) (hlen : rs.length ≤ 9223372036854775807) (hev : IsRaws w a rs) (ht : Tab w) :
    Calls Tryd.prog 3 #[.slice a rs.length cap] w fun en w' => en = .returned (.bool true) ∧ Below w.heap.size w w' := by
  have HE := show Hid _ from fun (w1 : World) (hb : Below w.heap.size w w1) => encoded_any a cap rs true 200 w1 (by decide) hlen (by
    refine ⟨hev.1, ?_⟩
    rcases hev.2 with h0 | ⟨b, off, ha, hbl, hc⟩
    · exact .inl h0
    · refine .inr ⟨b, off, ha, Nat.lt_of_lt_of_le hbl hb.size, fun k hk => ?_⟩
      obtain ⟨c0, c1, c2, c3⟩ := hc k hk
      exact ⟨(hb.cell (p := ⟨b, _, none⟩) hbl).trans c0, (hb.cell (p := ⟨b, _, none⟩) hbl).trans c1, (hb.cell (p := ⟨b, _, none⟩) hbl).trans c2, (hb.cell (p := ⟨b, _, none⟩) hbl).trans c3⟩)
  have H1 := show Hid _ from fun (_ : Unit) => one_any w ht
  have Ht := show Hid (Tab w) from ht
  clear hev ht
  have HT : Hid (∀ (n : Nat) (tx : ByteArray), n ≤ rs.length → tx.data.toList = recs ((recEs rs true).take n) → tx.size ≤ 200 → ∃ F : ByteArray, n ≤ 100 ∧ (∀ w, Tab w → Calls Tryd.prog 11 #[.string tx, .int .i64 (n : Int)] w fun en w' => en = .returned (.tuple #[.string F, .bool true]) ∧ Below w.heap.size w w') ∧
      ∀ w, Tab w → Calls Tryd.prog 11 #[.string (tx ++ tx), .int .i64 (2 * (n : Int))] w fun en w' => en = .returned (.tuple #[.string F, .bool true]) ∧ Below w.heap.size w w') := by
    intro n tx hn htx hsz
    have hl : ((recEs rs true).take n).length = n := by rw [List.length_take]; simp [recEs]; omega
    have hgd : ∀ e ∈ (recEs rs true).take n, Good e := fun e he => recEs_good rs true e (List.mem_of_mem_take he)
    have hlow : ∀ e ∈ (recEs rs true).take n, e.seq < 32768 := fun e he => low_seqs rs e (List.mem_of_mem_take he)
    generalize (recEs rs true).take n = es at htx hl hgd hlow
    have hp1 := Parsed.of_recs hgd htx
    have htx2 : (tx ++ tx).data.toList = recs (es ++ es) := by rw [ByteArray.data_append, Array.toList_append, htx, recs_append]
    have hp2 := Parsed.of_recs (es := es ++ es) (fun e he => by
      rcases List.mem_append.1 he with h | h
      · exact hgd e h
      · exact hgd e h) htx2
    have hf := hp1.few
    have hs2 : (tx ++ tx).size ≤ 400 := by rw [ByteArray.size_append]; omega
    refine ⟨⟨(foldB es).toArray⟩, by omega, fun w ht => ?_, fun w ht => ?_⟩
    · have := told_any tx es _ w (by omega) hp1 ht
      rw [hl] at this
      exact this
    · have := told_any (tx ++ tx) (es ++ es) _ w hs2 hp2 ht
      rw [foldB_twice hlow, List.length_append, hl, show (((n + n : Nat)) : Int) = 2 * (n : Int) by omega] at this
      exact this
  clear hlen
  go_enter Tryd.func3, Tryd.ntmps3
  go_wp2_with fail
  refine (H1.out ()).mono ?_
  rintro en w1 ⟨rfl, hb1⟩
  go_wp2_with fail
  refine (HE.out w1 hb1).mono ?_
  rintro en w2 ⟨⟨n, tx, rfl, hx⟩, hb2⟩
  obtain ⟨F, hn100, hT1, hT2⟩ := HT.out n tx hx.out.1 hx.out.2.1 hx.out.2.2.1
  have hts := hx.out.2.2.1
  have HT1 := show Hid _ from hT1
  have HT2 := show Hid _ from hT2
  have Hb2 := show Hid (Below w.heap.size w w2) from hb1.trans (hb2.mono hb1.size)
  clear hT1 hT2 hx hb1 hb2 HE H1 HT
  have hni : (n : Int) ≤ 100 := by omega
  have hn0 : (0 : Int) ≤ (n : Int) := by omega
  go_wp2_with fail
  refine (HT1.out _ (Ht.out.old Hb2.out)).mono ?_
  rintro en w3 ⟨rfl, hb3⟩
  have Hb3 := show Hid (Below w.heap.size w w3) from Hb2.out.trans (hb3.mono Hb2.out.size)
  clear hb3
  go_wp2_with fail
  refine (HT2.out _ (Ht.out.old Hb3.out)).mono ?_
  rintro en w4 ⟨rfl, hb4⟩
  go_wp2
  go_ret
  exact ⟨rfl, Hb3.out.trans (hb4.mono Hb3.out.size)⟩
end Go.Proofs.YthccpacmklhejaaDoor
