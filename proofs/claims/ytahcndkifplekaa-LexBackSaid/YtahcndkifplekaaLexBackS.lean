/- What LexBack wants, part 19. -/
import Derived.Test.YtahcndkifplekaaLexBackL
import Derived.Test.YtahcndkifplekaaRows
import Derived.WalkKit
import Derived.ProofKit
import Derived.OpenShut
import Derived.Handy
import Derived.Deep.RegionWith
import Derived.Lib.Hide
set_option linter.unusedVariables false
namespace Go.Proofs.Ytahcndkifplekaa
namespace num
set_option maxRecDepth 100000
open Go.ChangeShapes Go.WideShapes Go.ChangeAt Go.RowKit
open numMath
theorem wf_i64 {n : Int} (h : (Lit.int .i64 n).wf = true) : -9223372036854775808 ≤ n ∧ n ≤ 9223372036854775807 := by
 simpa [Lit.wf, IntKind.min, IntKind.max, IntKind.signed, IntKind.bits] using h
theorem ret_int {k : IntKind} {a b : Int} (h : a = b) : Ending.returned (.int k a) = .returned (.int k b) := by rw [h]
theorem ret_str {a b : ByteArray} (h : a = b) : Ending.returned (.string a) = .returned (.string b) := by rw [h]
theorem magnitude_any (n : Int) (w : World) (h : (Lit.int .i64 n).wf = true) :
  Calls Try.prog 53 #[.int .i64 n] w fun e w' => e = .returned (.int .u64 n.natAbs) ∧ w = w' := by
 have hx := wf_i64 h
 by_cases h0 : n < 0
 ·go_enter Try.func53, Try.ntmps53
  go_wp2
  go_ret
  exact ⟨ret_int (by simp only [IntKind.wrap_u64]; omega), rfl⟩
 ·go_enter Try.func53, Try.ntmps53
  go_wp2
  go_ret
  exact ⟨ret_int (by omega), rfl⟩
theorem conv_row (w : World) (s len : Nat) (l : List UInt8) (hl : l.length = len) :
  (convert 56 9 (.slice (some ⟨w.heap.size, s, none⟩) len len)).run Try.prog (w.alloc (Obj.cells (row s l) 60)) = .ok (.string ⟨l.toArray⟩) (w.alloc (Obj.cells (row s l) 60)) := by
 have h := run_convert_bytes_arg (P := Try.prog) (w.alloc (Obj.cells (row s l) 60)) 56 5 Try.underlying56 Try.underlying5 w.heap.size s len len (l.map fun c => (c.toNat : Int)) (by simpa using hl) ?_ 9 Try.underlying9
 ·rw [h]
  congr 2
  simp only [strOfNums, List.map_map]
  congr 2
  rw [List.map_congr_left (g := id) (fun a _ => by simp)]
  simp
 ·intro i hi
  rw [World.cell?_alloc_new]
  simp only [row, List.map_append, List.map_replicate, List.getElem?_toArray]
  rw [List.getElem?_append_right (by simp)]
  simp [List.getD, List.getElem?_eq_getElem (show i < l.length by omega)]
theorem digits_any (n : Int) (w : World) (h : (Lit.int .i64 n).wf = true) :
  Calls Try.prog 43 #[.int .i64 n] w fun e w' => e = .returned (.string (digS n)) ∧ Below w.heap.size w w' := by
 have hx := wf_i64 h
 have hm : n.natAbs ≤ 9223372036854775808 := by omega
 go_enter Try.func43, Try.ntmps43
 go_wp2_with (go_at_call 53; refine (magnitude_any _ _ h).mono ?_; rintro e w' ⟨rfl, rfl⟩)
 go_loopw [4, 5] (fun st rs wr => ∃ (s r : Nat) (l : List UInt8), Inv n.natAbs s r l ∧ st = .int .i64 s ∧ rs = .int .u64 r ∧ wr = w.alloc (Obj.cells (row s l) 60)) (fun st _ _ => (intOf st).toNat)
 case atStart => exact ⟨20, n.natAbs, [], Inv.first _, rfl, rfl, rfl⟩
 case round =>
  obtain ⟨s, r, l, hI, rfl, rfl, rfl⟩ := hrel
  by_cases hc : 0 < r ∨ s = 20
  ·have hN := Lib.hid (hI.next hm hc)
   have hs2 : (2:Int) ≤ s := by have := hI.low hm hc; omega
   have hs20 : (s:Int) ≤ 20 := by have := hI.len; omega
   have hat : (row s l)[s - 1]? = some (.int .u8 0) := row_at s (s-1) l (by omega)
   have hr : (r:Int) ≤ 9223372036854775808 := by have := hI.low_r; omega
   have HS := fun c => Lib.hid (row_set s c l (by omega))
   go_wp2
   ·have hr0 : r = 0 := by assumption
    subst hr0
    refine ⟨⟨s - 1, 0, _, by simpa using hN.out, by go_num, rfl, ?_⟩, by simp [intOf]; omega⟩
    rw [← (HS _).out]; rfl
   ·refine ⟨⟨s - 1, r / 10, _, hN.out, by go_num, by go_num, ?_⟩, by simp [intOf]; omega⟩
    rw [← (HS _).out, dig_byte]
  ·have hs1 : (1:Int) ≤ s := by have := hI.pos; omega
   have hs20 : (s:Int) < 20 := by have := hI.len; omega
   have hat : (row s l)[s - 1]? = some (.int .u8 0) := row_at s (s-1) l (by omega)
   have hset : (row s l).setIfInBounds (s - 1) (.int .u8 45) = row (s - 1) (45 :: l) := row_set s 45 l (by omega)
   have hlen : l.length = 20 - s := by have := hI.len; omega
   have hv := conv_row w s (20 - s) l hlen
   have hv1 := conv_row w (s - 1) (20 - (s - 1)) (45 :: l) (by have := hI.len; simp; omega)
   have hd := Lib.hid (hI.last (by omega) (by omega))
   clear hlen
   have h1 : (s:Int) ≤ 20 := by omega
   have h2 : (s:Int) - 1 ≤ 20 := by omega
   have h2' : (s:Int) ≤ 21 := by omega
   have h3 : 20 ≠ s := by omega
   have h4 : 20 ≠ s - 1 := by omega
   go_wp2
   all_goals go_ret
   all_goals refine ⟨ret_str ?_, (Below.refl _ _).alloc (Nat.le_refl _) _⟩
   ·have hn : n < 0 := by assumption
    rw [digS, digI, if_pos hn, hd.out]
   ·have hn : 0 ≤ n := by assumption
    rw [digS, digI, if_neg (by omega), hd.out]
theorem below_alloc {a w : World} (h : Below a.heap.size a w) (o : Obj) : Below a.heap.size a (w.alloc o) := h.alloc h.size o
theorem below_trans {a b c : World} (h : Below a.heap.size a b) (k : Below b.heap.size b c) : Below a.heap.size a c := h.trans (k.mono h.size)
end num
namespace num
set_option maxRecDepth 100000
open Go.ChangeShapes Go.WideShapes Go.ChangeAt Go.RowKit
open numMath
theorem read_none0 (s : ByteArray) (w : World) (hm : s.size ≤ maxLen) (h : s.size = 0 ∨ 13 < s.size) :
  Calls Try.prog 50 #[.string s] w fun e w' => e = .returned (.tuple #[.int .i64 0, .bool false]) ∧ w = w' := by
 unfold maxLen at hm
 rcases h with h | h
 ·go_enter Try.func50, Try.ntmps50
  go_wp2
  all_goals first | (exfalso; omega) | skip
  go_ret2
  exact ⟨rfl, rfl⟩
 ·have hne : ¬ s = ByteArray.empty := by rintro rfl; simp at h
  go_enter Try.func50, Try.ntmps50
  go_wp2
  all_goals first | (exfalso; omega) | skip
  go_ret2
  exact ⟨rfl, rfl⟩
theorem read_none1 (s : ByteArray) (w : World) (hm : s.size ≤ maxLen) (h : 1 < s.size) (h2 : s.size ≤ 13) (h3 : (s[0].toNat : Int) = 48) :
  Calls Try.prog 50 #[.string s] w fun e w' => e = .returned (.tuple #[.int .i64 0, .bool false]) ∧ w = w' := by
 unfold maxLen at hm
 have hne : ¬ s = ByteArray.empty := by rintro rfl; simp at h
 go_enter Try.func50, Try.ntmps50
 go_wp2
 all_goals first | (exfalso; omega) | skip
 go_ret2
 exact ⟨rfl, rfl⟩
def readPost (s : ByteArray) (w : World) (e : Ending) (w' : World) : Prop :=
 (if s.data.toList.all isDig = false ∨ 1000000000000 < val s.data.toList then e = .returned (.tuple #[.int .i64 0, .bool false]) else e = .returned (.tuple #[.int .i64 (val s.data.toList), .bool true])) ∧ w = w'
theorem read_loop (s : ByteArray) (w : World) (hm : s.size ≤ maxLen) (h : 0 < s.size) (h2 : s.size ≤ 13) (h3 : s.size = 1 ∨ ((s[0].toNat : Int) == 48) = false) :
  Calls Try.prog 50 #[.string s] w (readPost s w) := by
 unfold maxLen at hm
 have hne : ¬ s = ByteArray.empty := by rintro rfl; simp at h
 have H3 := Lib.hid h3
 clear h3
 by_cases h1 : 1 < s.size
 all_goals
  have h3 : 1 < s.size → ((s[0].toNat : Int) == 48) = false := fun k => by rcases H3.out with h | h; exact absurd k (by omega); exact h
  first | (have h4 := h3 h1) | (have h4 : decide (1 < (s.size : Int)) = false := by simp; omega)
  clear h3 H3
  have h0 : ((s.size : Int) == 0) = false := by simp; omega
  have h01 : decide ((s.size : Int) < 1) = false := by simp; omega
  have h13 : decide (13 < (s.size : Int)) = false := by simp; omega
  go_enter Try.func50, Try.ntmps50
  go_wp2
  all_goals first | (exfalso; omega) | (exfalso; exact hne ‹_›) | skip
  go_loop [4, 26] (fun n i => ∃ k : Nat, k ≤ s.size ∧ (s.data.toList.take k).all isDig = true ∧ i = .int .i64 k ∧ n = .int .i64 (val (s.data.toList.take k))) (fun _ i => s.size - (intOf i).toNat)
  case atStart => exact ⟨0, Nat.zero_le _, rfl, rfl, rfl⟩
  case round =>
   obtain ⟨k, hk, hall, rfl, rfl⟩ := hrel
   have ha := Lib.hid hall
   have hv : (val (s.data.toList.take k) : Int) ≤ 9999999999999 := by
    have h1 := val_lt _ hall
    have h2 : 10 ^ (s.data.toList.take k).length ≤ 10 ^ 13 := Nat.pow_le_pow_right (by omega) (by simp; omega)
    have h3 : (10:Nat) ^ 13 = 10000000000000 := by rfl
    omega
   have hv2 : k < s.size → (val (s.data.toList.take k) : Int) ≤ 999999999999 := by
    intro hks
    have h1 := val_lt _ hall
    have h2 : 10 ^ (s.data.toList.take k).length ≤ 10 ^ 12 := Nat.pow_le_pow_right (by omega) (by simp; omega)
    have h3 : (10:Nat) ^ 12 = 1000000000000 := by rfl
    omega
   clear hall
   have hv0 : (0:Int) ≤ (val (s.data.toList.take k) : Int) := by omega
   by_cases hlt : k < s.size
   ·have hv3 := hv2 hlt
    clear hv2
    have A1 := Lib.hid (all_take_succ s k hlt)
    have A2 := Lib.hid (val_take_succ s k hlt)
    have A3 := Lib.hid (all_take_false s k hlt)
    by_cases hd : 48 ≤ (s[k].toNat : Int) ∧ (s[k].toNat : Int) ≤ 57
    ·obtain ⟨hd1, hd2⟩ := hd
     go_wp2
     all_goals first | (exfalso; omega) | skip
     go_round
     case rel =>
      refine ⟨k + 1, by omega, ?_, by go_num, ?_⟩
      ·rw [A1.out, ha.out, isDig]; simp [hd1, hd2]
      ·rw [A2.out]; congr 1; omega
     case measure => simp [intOf]; omega
    ·have A4 := Lib.hid (A3.out (by rw [isDig]; simp; omega))
     go_wp2
     all_goals first | (exfalso; omega) | skip
     all_goals
      go_ret2
      exact ⟨by rw [if_pos (Or.inl A4.out)]; rfl, rfl⟩
   ·have A5 := Lib.hid (take_all s k hlt)
    clear hv2
    go_wp2
    all_goals first | (exfalso; omega) | skip
    all_goals go_ret2
    ·refine ⟨?_, rfl⟩
     have e := congrArg val A5.out
     rw [if_pos (Or.inr (by omega))]
     rfl
    ·refine ⟨?_, rfl⟩
     have e := congrArg val A5.out
     rw [if_neg (by rw [← A5.out, ha.out]; simp; omega)]
     exact congrArg (fun n : Nat => Ending.returned (.tuple #[.int .i64 (n : Int), .bool true])) e
theorem len_toList (s : ByteArray) : s.data.toList.length = s.size := Array.length_toList
theorem head48 (s : ByteArray) (h : 0 < s.size) : s.data.toList.head? = some 48 ↔ (s[0].toNat : Int) = 48 := by
 have e : s.data.toList.head? = some s[0] := by
  rw [List.head?_eq_getElem?, List.getElem?_eq_getElem (by rw [len_toList]; exact h)]
  rfl
 rw [e]
 constructor
 ·intro hh
  simp only [Option.some.injEq] at hh
  rw [hh]; rfl
 ·intro hh
  congr 1
  apply UInt8.toNat_inj.1
  have : (48 : UInt8).toNat = 48 := rfl
  omega
theorem read_any (s : ByteArray) (w : World) (hm : s.size ≤ maxLen) :
  Calls Try.prog 50 #[.string s] w fun e w' => e = .returned (.tuple #[.int .i64 (rN s.data.toList), .bool (rB s.data.toList)]) ∧ w = w' := by
 by_cases h : s.size = 0 ∨ 13 < s.size
 ·have e : readV s.data.toList = none := by rw [readV, if_pos (by rw [len_toList]; omega)]
  rw [rN, rB, e]
  exact read_none0 s w hm h
 ·by_cases h1 : 1 < s.size ∧ s.data.toList.head? = some 48
  ·have e : readV s.data.toList = none := by rw [readV, if_pos (Or.inr (Or.inr (Or.inl (by rw [len_toList]; exact h1))))]
   rw [rN, rB, e]
   exact read_none1 s w hm h1.1 (by omega) ((head48 s (by omega)).1 h1.2)
  ·refine (read_loop s w hm (by omega) (by omega) ?_).mono ?_
   ·by_cases hs : s.size = 1
    ·exact Or.inl hs
    ·refine Or.inr ?_
     have := (not_congr (head48 s (by omega))).1 (fun hh => h1 ⟨by omega, hh⟩)
     simpa using this
   ·intro e w' he
    refine ⟨?_, he.2⟩
    have he1 := he.1
    rw [rN, rB]
    unfold readV
    by_cases hd : s.data.toList.all isDig = false
    ·rw [if_pos (Or.inl hd)] at he1
     rw [if_pos (Or.inr (Or.inr (Or.inr hd)))]
     exact he1
    ·rw [if_neg (by rw [len_toList]; exact fun hh => by rcases hh with hh | hh | hh | hh; omega; omega; exact h1 hh; exact hd hh)]
     by_cases hv : 1000000000000 < val s.data.toList
     ·rw [if_pos (Or.inr hv)] at he1
      rw [if_pos hv]
      exact he1
     ·rw [if_neg (by rintro (hh | hh); exact hd hh; exact hv hh)] at he1
      rw [if_neg hv]
      exact he1
end num
end Go.Proofs.Ytahcndkifplekaa
