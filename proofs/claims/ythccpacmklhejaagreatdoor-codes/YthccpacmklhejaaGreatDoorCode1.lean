/-
  key.Group, known.newer, known.made.
-/
import Derived.Test.YthccpacmklhejaaGreatDoorFoldMath3
import Derived.Laws.IdiomStrings
namespace Go.Proofs.YthccpacmklhejaaGreatDoor
open Go.RowKit

theorem runes_keep (s : ByteArray) : ∀ (bound i : Nat) (acc : Array Value) (j : Nat), j < acc.size → (Conv.runesFrom s bound i acc)[j]? = acc[j]?
  | 0, _, acc, j, _ => rfl
  | bound + 1, i, acc, j, h => by
    unfold Conv.runesFrom
    split
    · rw [runes_keep s bound _ _ j (by simp; omega), Array.getElem?_push, if_neg (by omega)]
    · rfl

theorem runes_first (s : ByteArray) (h : 0 < s.size) : (Conv.runesFrom s s.size 0 #[])[0]? = some (.int .i32 ((Utf8.decode s 0).1 : Int)) := by
  obtain ⟨n, hn⟩ : ∃ n, s.size = n + 1 := ⟨s.size - 1, by omega⟩
  rw [hn]
  unfold Conv.runesFrom
  rw [if_pos h, runes_keep _ _ _ _ 0 (by simp)]
  rfl

set_option maxHeartbeats 400000 in
theorem group_any (key : ByteArray) (w : World) (h : 0 < key.size) (hs : key.size ≤ 1000) :
    Calls Tryz.prog 116 #[.string key] w fun e w' => e = .returned (.int .i32 ((Utf8.decode key 0).1 : Int)) ∧ Below w.heap.size w w' := by
  have h0 := runes_first key h
  have hz : (Conv.runesFrom key key.size 0 #[]).size ≤ key.size := by have := size_runesFrom key key.size 0 #[]; simpa using this
  have hconv := run_runes_of_string (P := Tryz.prog) w 9 192 21 key Tryz.underlying9 Tryz.underlying192 Tryz.underlying21 (by omega)
  generalize Conv.runesFrom key key.size 0 #[] = rs at h0 hz hconv
  generalize grownCap w rs.size 0 21 = c at hconv
  have hn : 0 < rs.size := (Array.getElem?_eq_some_iff.1 h0).1
  have hc : (w.drew.alloc (.cells (rs ++ Array.replicate (c - rs.size) (.int .i32 0)) 21)).cell? ⟨w.heap.size, 0, none⟩ = some (.int .i32 ((Utf8.decode key 0).1 : Int)) := by
    have := World.cell?_alloc_new w.drew (rs ++ Array.replicate (c - rs.size) (.int .i32 0)) 21 0
    rw [show w.drew.heap.size = w.heap.size from rfl] at this
    rw [this, Array.getElem?_append_left hn, h0]
  have hb : Below w.heap.size w (w.drew.alloc (.cells (rs ++ Array.replicate (c - rs.size) (.int .i32 0)) 21)) := (Below.refl _ _).drew.alloc (Nat.le_refl _) _
  generalize w.drew.alloc (.cells (rs ++ Array.replicate (c - rs.size) (.int .i32 0)) 21) = w1 at hconv hc hb
  generalize (Utf8.decode key 0).1 = p at hc
  have hne : ((rs.size : Int) == 0) = false := by rw [beq_eq_false_iff_ne]; omega
  have hni : (0 : Int) < (rs.size : Int) := by omega
  go_enter Tryz.func116, Tryz.ntmps116
  go_wp2
  go_ret
  exact ⟨rfl, hb⟩

theorem wrap_i16 (n : Int) : IntKind.i16.wrap n = wrap16 n := by
  simp only [IntKind.wrap, IntKind.bits, IntKind.signed, wrap16]
  simp
  split <;> split <;> omega

theorem wrap_u16' (n : Int) : IntKind.u16.wrap n = n % 65536 := by simp [IntKind.wrap, IntKind.bits, IntKind.signed]

theorem wrap_i16_sub (a b : Int) : IntKind.i16.wrap (IntKind.u16.wrap (a - b)) = wrap16 (a - b) := by
  rw [wrap_i16, wrap_u16']
  unfold wrap16
  split <;> split <;> omega

set_option maxHeartbeats 400000 in
theorem newer_any (a b : Nat) (w : World) :
    Calls Tryz.prog 119 #[.int .u16 (a : Int), .int .u16 (b : Int)] w fun e w' => e = .returned (.bool (decide (0 < wrap16 ((a : Int) - (b : Int))))) ∧ w' = w := by
  have hw := wrap_i16_sub (a : Int) (b : Int)
  go_enter Tryz.func119, Tryz.ntmps119
  go_wp2
  go_ret
  exact ⟨rfl, rfl⟩

def EV.val' (r : EV) : Value := .agg #[.string r.name, .int .u16 (r.seq : Int), .int .i64 r.live, .int .i16 r.value]

set_option maxHeartbeats 400000 in
theorem made_any (e : Ev) (w : World) :
    Calls Tryz.prog 115 #[e.value] w fun en w' => en = .returned (madeE e).val' ∧ Below w.heap.size w w' := by
  obtain ⟨op, key, seq, val⟩ := e
  unfold Ev.value EV.val' madeE
  by_cases h : op = 1
  · subst h
    have hg := heap_alloc_new (w.alloc (.cells #[.int .u8 1, .string key, .int .u16 (seq : Int), .int .i16 val] 41)) (.cells #[.string key, .int .u16 (seq : Int), .int .i64 1, .int .i16 val] 184)
    have hg2 : _ = w.heap.size + 1 := World.size_alloc w (.cells #[.int .u8 1, .string key, .int .u16 (seq : Int), .int .i16 val] 41)
    rw [hg2] at hg
    have Hg := show Hid _ from hg
    clear hg hg2
    go_enter Tryz.func115, Tryz.ntmps115
    go_wp2
    exact bodyPost_ret (results_cell_row (p := 2) (ty := 184) rfl _ _ (w.heap.size + 1) 184 #[.string key, .int .u16 (seq : Int), .int .i64 1, .int .i16 val] (0, 0) _ rfl Hg.out Tryz.underlying184 rfl (by kernel_rfl)) rfl ⟨rfl, ((Below.refl _ _).alloc (Nat.le_refl _) _).alloc (by simp) _⟩
  · have h1 : ((op : Int) == 1) = false := by rw [beq_eq_false_iff_ne]; omega
    have hg := heap_alloc_new (w.alloc (.cells #[.int .u8 (op : Int), .string key, .int .u16 (seq : Int), .int .i16 val] 41)) (.cells #[.string key, .int .u16 (seq : Int), .int .i64 0, .int .i16 0] 184)
    have hg2 : _ = w.heap.size + 1 := World.size_alloc w (.cells #[.int .u8 (op : Int), .string key, .int .u16 (seq : Int), .int .i16 val] 41)
    rw [hg2] at hg
    have Hg := show Hid _ from hg
    clear hg hg2
    go_enter Tryz.func115, Tryz.ntmps115
    go_wp2
    refine bodyPost_ret (results_cell_row (p := 2) (ty := 184) rfl _ _ (w.heap.size + 1) 184 #[.string key, .int .u16 (seq : Int), .int .i64 0, .int .i16 0] (0, 0) _ rfl Hg.out Tryz.underlying184 rfl (by kernel_rfl)) rfl ⟨?_, ((Below.refl _ _).alloc (Nat.le_refl _) _).alloc (by simp) _⟩
    simp only

def entCells1 (r : EV) : List Value := [.string r.name, .int .u16 (r.seq : Int), .int .i64 r.live, .int .i16 r.value]
def entCells (rs : List EV) : List Value := rs.flatMap entCells1

theorem entCells_length (rs : List EV) : (entCells rs).length = rs.length * 4 := by
  induction rs with
  | nil => rfl
  | cons r rs ih => simp [entCells, entCells1] at ih ⊢; omega

theorem entCells_append (rs ts : List EV) : entCells (rs ++ ts) = entCells rs ++ entCells ts := by simp [entCells]

theorem entCells_at : ∀ (rs : List EV) (k : Nat) (h : k < rs.length) (j : Nat), j < 4 → (entCells rs)[k * 4 + j]? = (entCells1 rs[k])[j]?
  | r :: rs, 0, _, j, hj => by
    simp only [entCells, List.flatMap_cons, Nat.zero_mul, Nat.zero_add, List.getElem_cons_zero]
    rw [List.getElem?_append_left (by simp [entCells1]; omega)]
  | r :: rs, k + 1, h, j, hj => by
    have ih := entCells_at rs k (by simpa using h) j hj
    simp only [entCells, List.flatMap_cons, List.getElem_cons_succ] at ih ⊢
    rw [List.getElem?_append_right (by simp [entCells1]; omega), ← ih]
    congr 1
    simp [entCells1]
    omega

set_option maxRecDepth 100000 in
set_option maxHeartbeats 1000000 in
theorem kplace_any (kb o : Nat) (a : Option Addr) (c : Nat) (rs : List EV) (key : ByteArray) (B : Nat) (w : World) (hlen : rs.length ≤ 1000) (hb0 : w.cell? ⟨kb, o, none⟩ = some (.slice a rs.length c))
    (hown : w.ownsRow B 184 4 (.slice a rs.length c) rs.length (entCells rs)) :
    Calls Tryz.prog 114 #[.pointer (some ⟨kb, o, none⟩), .string key] w fun en w' => en = .returned (.int .i64 (plcE rs key : Int)) ∧ w' = w := by
  have HO : Hid (w.ownsRow B 184 4 (.slice a rs.length c) rs.length (entCells rs)) := hown
  clear hown
  go_enter Tryz.func114, Tryz.ntmps114
  go_wp2
  go_loopw [5] (fun i wr => ∃ j : Nat, j ≤ rs.length ∧ i = .int .i64 (j : Int) ∧ (∀ k (h : k < rs.length), k < j → ¬ rs[k].name = key) ∧ wr = w) (fun i _ => rs.length - (intOf i).toNat)
  case atStart => exact ⟨0, Nat.zero_le _, rfl, fun _ _ h => absurd h (Nat.not_lt_zero _), rfl⟩
  case round =>
    obtain ⟨j, hj, rfl, hno, rfl⟩ := hrel
    by_cases hjl : j < rs.length
    · rcases own_addr HO.out with ⟨_, h0⟩ | ⟨g, rfl⟩
      · omega
      have c0 := (HO.out.cellAt (j * 4) (by omega)).trans (entCells_at rs j hjl 0 (by decide))
      have e0 : (entCells1 (rs[j]'hjl))[0]? = some (.string (rs[j]'hjl).name) := rfl
      rw [e0] at c0
      clear e0 HO
      have hji : (j : Int) < (rs.length : Int) := by omega
      have hj0 : (0 : Int) ≤ (j : Int) := by omega
      by_cases hp : (rs[j]'hjl).name = key
      · have hf : plcE rs key = j := by
          unfold plcE
          rw [List.findIdx_eq hjl]
          exact ⟨by simp [hp], fun k hk => by simpa using hno k (by omega) hk⟩
        rw [hp] at c0
        have Hf := show Hid _ from hf
        clear hf hno hp
        have hne : (!key.toList == key.toList) = false := by simp
        go_wp2
        go_ret
        exact ⟨by rw [Hf.out]; rfl, rfl⟩
      · have hne := str_ne hp
        have hno' : ∀ k (h : k < rs.length), k < j + 1 → ¬ rs[k].name = key := by
          intro k h hk
          by_cases e : k = j
          · subst e; exact hp
          · exact hno k h (by omega)
        generalize (rs[j]'hjl).name = q at c0 hne
        go_wp2
        go_roundw
        case rel => exact ⟨j + 1, by omega, by go_num, hno', by first | trivial | rfl⟩
        case measure => simp [intOf]; omega
    · have hjj : j = rs.length := by omega
      have hf : plcE rs key = j := by
        unfold plcE
        rw [hjj, List.findIdx_eq_length]
        intro x hx
        obtain ⟨k, hk, rfl⟩ := List.getElem_of_mem hx
        simpa using hno k hk (by omega)
      go_wp2
      go_ret
      exact ⟨by rw [hf]; rfl, rfl⟩
end Go.Proofs.YthccpacmklhejaaGreatDoor
