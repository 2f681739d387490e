/- What the functions of package choice, and the reference's, give: one contract a function. -/
import Derived.Test.YtpnepooobmbfbaaRows
import Derived.Test.YtpnepooobmbfbaaChoMath
import Derived.WalkKit
import Derived.ProofKit
import Derived.OpenShut
import Derived.Handy
import Derived.Deep.RegionWith
import Derived.Deep.QuietTactic
import Derived.BigQuiet
import Derived.Lib.Hide
import Derived.Deep.WholeRow
import Derived.Outline
namespace Go.Proofs.Ytpnepooobmbfbaa.cho
set_option maxRecDepth 100000
open Go.ChangeShapes Go.WideShapes Go.ChangeAt Go.RowKit
open Go.Proofs.Ytpnepooobmbfbaa.choMath
set_option linter.unusedVariables false

theorem ret_int {k : IntKind} {a b : Int} (h : a = b) : Ending.returned (.int k a) = .returned (.int k b) := by rw [h]
theorem ret_bool {a b : Bool} (h : a = b) : Ending.returned (.bool a) = .returned (.bool b) := by rw [h]
theorem below_alloc {a w : World} (h : Below a.heap.size a w) (o : Obj) : Below a.heap.size a (w.alloc o) := h.alloc h.size o
theorem below_trans {a b c : World} (h : Below a.heap.size a b) (k : Below b.heap.size b c) : Below a.heap.size a c := h.trans (k.mono h.size)

theorem blw_drewN {B : Nat} {a w : World} (h : Below B a w) (n : Nat) : Below B a (w.drewN n) := h.trans ⟨rfl, rfl, rfl, Nat.le_refl _, fun _ _ => rfl⟩
theorem index32 (cs : Array Value) (k : Nat) (v : Value) (hk : k < 32) (hv : cs[k]? = some v) (w : World) : (Instr.index 119 (.agg cs) (.int .i64 (k : Int))).run Try.prog w = .ok v w := by
  have h1 : (0:Int) ≤ k := by omega
  have h2 : (k:Int) < 32 := by omega
  simp [Instr.index, run_underlying Try.underlying119, asIntOf, part, h1, hv, go_sem]
  omega
theorem fate_in (c k : Nat) (w : World) (hc : c < 18446744073709551616) (hk : k < 32) :
    Calls Try.prog 44 #[.int .u64 (c : Int), .int .i64 (k : Int)] w fun e w' => e = .returned (.int .i64 (fd c k : Int)) ∧ w = w' := by
  have h1 : (0:Int) ≤ k := by omega
  have h2 : (k:Int) < 32 := by omega
  have HC := Lib.hid hc
  clear hc
  go_enter Try.func44, Try.ntmps44
  go_wp2
  go_ret
  exact ⟨ret_int (fate_walk c k HC.out), rfl⟩
theorem fate_out (c : Nat) (i : Int) (w : World) (h : i < 0 ∨ 32 ≤ i) :
    Calls Try.prog 44 #[.int .u64 (c : Int), .int .i64 i] w fun e w' => e = .returned (.int .i64 0) ∧ w = w' := by
  rcases h with h | h
  all_goals
    go_enter Try.func44, Try.ntmps44
    go_wp2
    go_ret
    exact ⟨rfl, rfl⟩
theorem fate_any (c : Nat) (i : Int) (w : World) (hc : c < 18446744073709551616) :
    Calls Try.prog 44 #[.int .u64 (c : Int), .int .i64 i] w fun e w' => e = .returned (.int .i64 (fate c i)) ∧ w = w' := by
  by_cases h : 0 ≤ i ∧ i < 32
  · obtain ⟨k, rfl⟩ := Int.eq_ofNat_of_zero_le h.1
    rw [fate, if_pos h]
    exact fate_in c k w hc (by omega)
  · rw [fate, if_neg h]
    exact fate_out c i w (by omega)

theorem arr_one (l : List Nat) : (arr l).all (·.oneCell') = true := by
  simp [arr, List.all_eq_true, Value.oneCell']
theorem info32 : (Try.prog.info? 119).map (·.size) = some 32 := by kernel_rfl
theorem info_arr (l : List Nat) (h : l.length = 32) : (Try.prog.info? 119).map (·.size) = some (arr l).size := by rw [info32, arr_size, h]
/-- a whole array into the block that was made last -/
theorem store32 {ops : Array Oper} {rest : List Oper} {o : Oper} {a : Act} {Q : Exit → Act → World → Prop} (hgd : o.guard = none) (x y : Operand) (ho : o.op = .store 119 x y)
    (w1 : World) (l : List Nat) (old : Array Value) (hx : a.eval x = .pointer (some ⟨w1.heap.size, 0, none⟩)) (hy : a.eval y = .agg (arr l)) (hl : l.length = 32) (hold : old.size = 32)
    (h : wpList Try.prog ops Q rest (a.put o.dst undef) (w1.alloc (.cells (arr l) 119))) : wpList Try.prog ops Q (o :: rest) a (w1.alloc (.cells old 119)) := by
  refine wpList_store_row hgd 119 x y ho _ (arr l) hx hy 119 old (heap_alloc_new _ _) (info_arr l hl) (by rw [arr_size, hold, hl]) (arr_one l) ?_
  rw [World.setRow_alloc_new]
  exact h
/-- a whole array out of the block that was made last -/
theorem load32 {ops : Array Oper} {rest : List Oper} {o : Oper} {a : Act} {Q : Exit → Act → World → Prop} (hgd : o.guard = none) (x : Operand) (ho : o.op = .load 119 x)
    (w1 : World) (l : List Nat) (g : Nat) (hx : a.eval x = .pointer (some ⟨g, 0, none⟩)) (hg : w1.heap.size = g) (hl : l.length = 32)
    (h : wpList Try.prog ops Q rest (a.put o.dst (.agg (arr l))) (w1.alloc (.cells (arr l) 119))) : wpList Try.prog ops Q (o :: rest) a (w1.alloc (.cells (arr l) 119)) := by
  subst hg
  exact wpList_load_row hgd 119 x ho _ hx 119 _ _ _ (heap_alloc_new _ _) Try.underlying119 rfl (info_arr l hl) h
/-- a whole array into the block below the one that was made last -/
theorem store32b {ops : Array Oper} {rest : List Oper} {o : Oper} {a : Act} {Q : Exit → Act → World → Prop} (hgd : o.guard = none) (x y : Operand) (ho : o.op = .store 119 x y)
    (w1 : World) (B : Obj) (l : List Nat) (old : Array Value) (hx : a.eval x = .pointer (some ⟨w1.heap.size, 0, none⟩)) (hy : a.eval y = .agg (arr l)) (hl : l.length = 32) (hold : old.size = 32)
    (h : wpList Try.prog ops Q rest (a.put o.dst undef) ((w1.alloc (.cells (arr l) 119)).alloc B)) : wpList Try.prog ops Q (o :: rest) a ((w1.alloc (.cells old 119)).alloc B) := by
  refine wpList_store_row hgd 119 x y ho _ (arr l) hx hy 119 old (heap_alloc2_old _ _ _) (info_arr l hl) (by rw [arr_size, hold, hl]) (arr_one l) ?_
  have e : ((w1.alloc (.cells old 119)).alloc B).setRow w1.heap.size (arr l) = (w1.alloc (.cells (arr l) 119)).alloc B := by
    rw [← World.setRow_alloc_new w1 old (arr l)]
    simp only [World.setRow, World.alloc]
    congr 1
    apply Array.ext_getElem?
    intro i
    simp only [Array.getElem?_modify, Array.getElem?_push, Array.size_push, Array.size_modify]
    by_cases h1 : i = w1.heap.size + 1
    · subst h1; simp
    · simp [h1]
  rw [e]
  exact h

theorem fates_any (c : Nat) (w : World) (hc : c < 18446744073709551616) :
    Calls Try.prog 68 #[.int .u64 (c : Int)] w fun e w' => e = .returned (.agg (arr (fl c))) ∧ Below w.heap.size w w' := by
  have HC := Lib.hid hc
  clear hc
  go_enter Try.func68, Try.ntmps68
  go_wp2
  rw [← zeros (fd c)]
  go_loopw [0, 4] (fun st i wr => ∃ (k q : Nat), k ≤ 32 ∧ q = c / 4^k ∧ st = .int .u64 (q : Int) ∧ i = .int .i64 (k : Int) ∧ wr = (w.alloc (Obj.cells (arr (pref (fd c) 0)) 119)).alloc (Obj.cells (arr (pref (fd c) k)) 119)) (fun _ i _ => 32 - (intOf i).toNat)
  case atStart => exact ⟨0, c, by omega, by simp, rfl, rfl, rfl⟩
  case round =>
    obtain ⟨k, q, hk, hq, rfl, rfl, rfl⟩ := hrel
    have hqm : q ≤ 18446744073709551615 := by have := HC.out; have := Nat.div_le_self c (4^k); omega
    have HQ := Lib.hid hq
    clear hq
    by_cases hlt : k < 32
    · have hat : (arr (pref (fd c) k))[k]? = some (.int .i64 0) := by
        rw [arr_get _ k (by rw [pref_len]; exact hlt), pref_get _ _ _ hlt]; simp
      have hset := Lib.hid (arr_set (pref (fd c) k) k (fd c k))
      go_wp2
      go_roundw
      case rel =>
        refine ⟨k + 1, q / 4, by omega, ?_, by go_num, by go_num, ?_⟩
        · rw [HQ.out, Nat.div_div_eq_div_mul, Nat.pow_succ]
        · have e : ((q : Int) % 4) = ((fd c k : Nat) : Int) := by rw [fd, ← HQ.out]; omega
          rw [e, hset.out, pref_set _ _ hlt]
      case measure => simp [intOf]; omega
    · obtain rfl : k = 32 := by omega
      clear hlt hk
      have hz : (w.alloc (Obj.cells (arr (pref (fd c) 0)) 119)).heap.size = w.heap.size + 1 := by simp
      go_wp2_with (first | (refine load32 rfl _ rfl (w.alloc (Obj.cells (arr (pref (fd c) 0)) 119)) (pref (fd c) 32) _ rfl hz (pref_len _ _) ?_) | (refine store32b rfl _ _ rfl w _ (pref (fd c) 32) (arr (pref (fd c) 0)) rfl rfl (pref_len _ _) (by rw [arr_size, pref_len]) ?_))
      refine bodyPost_ret (v := .agg (arr (pref (fd c) 32))) (results_cell_row Try.results68 _ _ w.heap.size 119 _ _ _ rfl (heap_alloc2_old _ _ _) Try.underlying119 rfl (info_arr _ (pref_len _ _))) rfl ⟨?_, ?_⟩
      · rw [pref_all]; rfl
      · exact below_alloc (below_alloc (Below.refl _ _) _) _

theorem of_any (l : List Nat) (w : World) (hl : l.length = 32) (hd : ∀ d ∈ l, d < 4) :
    Calls Try.prog 74 #[.agg (arr l)] w fun e w' => e = .returned (.int .u64 (ofl l : Int)) ∧ Below w.heap.size w w' := by
  have HL := Lib.hid hl
  have HD := Lib.hid hd
  clear hl hd
  go_enter Try.func74, Try.ntmps74
  go_wp2
  go_loop [3, 4] (fun r i => ∃ (k v : Nat), k ≤ 32 ∧ v = ofl (l.drop k) ∧ r = .int .u64 (v : Int) ∧ i = .int .i64 ((k : Int) - 1)) (fun _ i => (intOf i + 1).toNat)
  case atStart => exact ⟨32, 0, by omega, by rw [List.drop_of_length_le (by have := HL.out; omega)]; rfl, rfl, rfl⟩
  case round =>
    obtain ⟨k, v, hk, hv, rfl, rfl⟩ := hrel
    have HV := Lib.hid hv
    clear hv
    cases k with
    | zero =>
      go_wp2
      go_ret
      exact ⟨ret_int (by rw [HV.out]; rfl), below_alloc (Below.refl _ _) _⟩
    | succ m =>
      obtain ⟨d, hd⟩ : ∃ d, d = l[m]'(by have := HL.out; omega) := ⟨_, rfl⟩
      have hat : (arr l)[m]? = some (.int .i64 (d : Int)) := by rw [hd]; exact arr_get l m (by have := HL.out; omega)
      have hd3 : (d : Int) ≤ 3 := by have := HD.out d (by rw [hd]; exact List.getElem_mem _); omega
      have hvb : (v : Int) ≤ 4611686018427387903 := by
        have h1 := ofl_lt (l.drop (m + 1)) (fun x hx => HD.out x (List.mem_of_mem_drop hx))
        have h2 : 4 ^ (l.drop (m + 1)).length ≤ 4 ^ 31 := Nat.pow_le_pow_right (by omega) (by rw [List.length_drop, HL.out]; omega)
        have h3 : (4:Nat) ^ 31 = 4611686018427387904 := by decide
        rw [HV.out]; omega
      have HD2 := Lib.hid hd
      clear hd
      go_wp2
      go_round
      case rel =>
        refine ⟨m, d + 4 * v, by omega, ?_, by go_num, by go_num⟩
        rw [ofl_drop l m (by have := HL.out; omega), ← HD2.out, HV.out]
      case measure => simp [intOf]
end Go.Proofs.Ytpnepooobmbfbaa.cho
