/- What CrashKeeps wants, part 9. -/
import Derived.Test.YtpnepooobmbfbaaCrashKeepsH
import Derived.Test.YtpnepooobmbfbaaRows
import Derived.WalkKit
import Derived.ProofKit
import Derived.OpenShut
import Derived.Handy
import Derived.Deep.RegionWith
import Derived.Deep.QuietTactic
import Derived.BigQuiet
import Derived.Lib.Hide
import Derived.Deep.WholeRow
import Derived.Outline
/- What the functions of package choice, and the reference's, give: one contract a function. -/
namespace Go.Proofs.Ytpnepooobmbfbaa.cho
set_option maxRecDepth 100000
open Go.ChangeShapes Go.WideShapes Go.ChangeAt Go.RowKit
open Go.Proofs.Ytpnepooobmbfbaa.choMath
set_option linter.unusedVariables false

theorem ret_int {k : IntKind} {a b : Int} (h : a = b) : Ending.returned (.int k a) = .returned (.int k b) := by rw [h]
theorem ret_bool {a b : Bool} (h : a = b) : Ending.returned (.bool a) = .returned (.bool b) := by rw [h]
theorem below_alloc {a w : World} (h : Below a.heap.size a w) (o : Obj) : Below a.heap.size a (w.alloc o) := h.alloc h.size o
theorem below_trans {a b c : World} (h : Below a.heap.size a b) (k : Below b.heap.size b c) : Below a.heap.size a c := h.trans (k.mono h.size)

theorem blw_drewN {B : Nat} {a w : World} (h : Below B a w) (n : Nat) : Below B a (w.drewN n) := h.trans ⟨rfl, rfl, rfl, Nat.le_refl _, fun _ _ => rfl⟩
theorem index32 (cs : Array Value) (k : Nat) (v : Value) (hk : k < 32) (hv : cs[k]? = some v) (w : World) : (Instr.index 119 (.agg cs) (.int .i64 (k : Int))).run Try.prog w = .ok v w := by
  have h1 : (0:Int) ≤ k := by omega
  have h2 : (k:Int) < 32 := by omega
  simp [Instr.index, run_underlying Try.underlying119, asIntOf, part, h1, hv, go_sem]
  omega
theorem fate_in (c k : Nat) (w : World) (hc : c < 18446744073709551616) (hk : k < 32) :
    Calls Try.prog 44 #[.int .u64 (c : Int), .int .i64 (k : Int)] w fun e w' => e = .returned (.int .i64 (fd c k : Int)) ∧ w = w' := by
  have h1 : (0:Int) ≤ k := by omega
  have h2 : (k:Int) < 32 := by omega
  have HC := Lib.hid hc
  clear hc
  go_enter Try.func44, Try.ntmps44
  go_wp2
  go_ret
  exact ⟨ret_int (fate_walk c k HC.out), rfl⟩
theorem fate_out (c : Nat) (i : Int) (w : World) (h : i < 0 ∨ 32 ≤ i) :
    Calls Try.prog 44 #[.int .u64 (c : Int), .int .i64 i] w fun e w' => e = .returned (.int .i64 0) ∧ w = w' := by
  rcases h with h | h
  all_goals
    go_enter Try.func44, Try.ntmps44
    go_wp2
    go_ret
    exact ⟨rfl, rfl⟩
theorem fate_any (c : Nat) (i : Int) (w : World) (hc : c < 18446744073709551616) :
    Calls Try.prog 44 #[.int .u64 (c : Int), .int .i64 i] w fun e w' => e = .returned (.int .i64 (fate c i)) ∧ w = w' := by
  by_cases h : 0 ≤ i ∧ i < 32
  · obtain ⟨k, rfl⟩ := Int.eq_ofNat_of_zero_le h.1
    rw [fate, if_pos h]
    exact fate_in c k w hc (by omega)
  · rw [fate, if_neg h]
    exact fate_out c i w (by omega)

theorem arr_one (l : List Nat) : (arr l).all (·.oneCell') = true := by
  simp [arr, List.all_eq_true, Value.oneCell']
theorem info32 : (Try.prog.info? 119).map (·.size) = some 32 := by kernel_rfl
theorem info_arr (l : List Nat) (h : l.length = 32) : (Try.prog.info? 119).map (·.size) = some (arr l).size := by rw [info32, arr_size, h]
/-- a whole array into the block that was made last -/
theorem store32 {ops : Array Oper} {rest : List Oper} {o : Oper} {a : Act} {Q : Exit → Act → World → Prop} (hgd : o.guard = none) (x y : Operand) (ho : o.op = .store 119 x y)
    (w1 : World) (l : List Nat) (old : Array Value) (hx : a.eval x = .pointer (some ⟨w1.heap.size, 0, none⟩)) (hy : a.eval y = .agg (arr l)) (hl : l.length = 32) (hold : old.size = 32)
    (h : wpList Try.prog ops Q rest (a.put o.dst undef) (w1.alloc (.cells (arr l) 119))) : wpList Try.prog ops Q (o :: rest) a (w1.alloc (.cells old 119)) := by
  refine wpList_store_row hgd 119 x y ho _ (arr l) hx hy 119 old (heap_alloc_new _ _) (info_arr l hl) (by rw [arr_size, hold, hl]) (arr_one l) ?_
  rw [World.setRow_alloc_new]
  exact h
/-- a whole array out of the block that was made last -/
theorem load32 {ops : Array Oper} {rest : List Oper} {o : Oper} {a : Act} {Q : Exit → Act → World → Prop} (hgd : o.guard = none) (x : Operand) (ho : o.op = .load 119 x)
    (w1 : World) (l : List Nat) (g : Nat) (hx : a.eval x = .pointer (some ⟨g, 0, none⟩)) (hg : w1.heap.size = g) (hl : l.length = 32)
    (h : wpList Try.prog ops Q rest (a.put o.dst (.agg (arr l))) (w1.alloc (.cells (arr l) 119))) : wpList Try.prog ops Q (o :: rest) a (w1.alloc (.cells (arr l) 119)) := by
  subst hg
  exact wpList_load_row hgd 119 x ho _ hx 119 _ _ _ (heap_alloc_new _ _) Try.underlying119 rfl (info_arr l hl) h
/-- a whole array into the block below the one that was made last -/
theorem store32b {ops : Array Oper} {rest : List Oper} {o : Oper} {a : Act} {Q : Exit → Act → World → Prop} (hgd : o.guard = none) (x y : Operand) (ho : o.op = .store 119 x y)
    (w1 : World) (B : Obj) (l : List Nat) (old : Array Value) (hx : a.eval x = .pointer (some ⟨w1.heap.size, 0, none⟩)) (hy : a.eval y = .agg (arr l)) (hl : l.length = 32) (hold : old.size = 32)
    (h : wpList Try.prog ops Q rest (a.put o.dst undef) ((w1.alloc (.cells (arr l) 119)).alloc B)) : wpList Try.prog ops Q (o :: rest) a ((w1.alloc (.cells old 119)).alloc B) := by
  refine wpList_store_row hgd 119 x y ho _ (arr l) hx hy 119 old (heap_alloc2_old _ _ _) (info_arr l hl) (by rw [arr_size, hold, hl]) (arr_one l) ?_
  have e : ((w1.alloc (.cells old 119)).alloc B).setRow w1.heap.size (arr l) = (w1.alloc (.cells (arr l) 119)).alloc B := by
    rw [← World.setRow_alloc_new w1 old (arr l)]
    simp only [World.setRow, World.alloc]
    congr 1
    apply Array.ext_getElem?
    intro i
    simp only [Array.getElem?_modify, Array.getElem?_push, Array.size_push, Array.size_modify]
    by_cases h1 : i = w1.heap.size + 1
    · subst h1; simp
    · simp [h1]
  rw [e]
  exact h

theorem fates_any (c : Nat) (w : World) (hc : c < 18446744073709551616) :
    Calls Try.prog 68 #[.int .u64 (c : Int)] w fun e w' => e = .returned (.agg (arr (fl c))) ∧ Below w.heap.size w w' := by
  have HC := Lib.hid hc
  clear hc
  go_enter Try.func68, Try.ntmps68
  go_wp2
  rw [← zeros (fd c)]
  go_loopw [0, 4] (fun st i wr => ∃ (k q : Nat), k ≤ 32 ∧ q = c / 4^k ∧ st = .int .u64 (q : Int) ∧ i = .int .i64 (k : Int) ∧ wr = (w.alloc (Obj.cells (arr (pref (fd c) 0)) 119)).alloc (Obj.cells (arr (pref (fd c) k)) 119)) (fun _ i _ => 32 - (intOf i).toNat)
  case atStart => exact ⟨0, c, by omega, by simp, rfl, rfl, rfl⟩
  case round =>
    obtain ⟨k, q, hk, hq, rfl, rfl, rfl⟩ := hrel
    have hqm : q ≤ 18446744073709551615 := by have := HC.out; have := Nat.div_le_self c (4^k); omega
    have HQ := Lib.hid hq
    clear hq
    by_cases hlt : k < 32
    · have hat : (arr (pref (fd c) k))[k]? = some (.int .i64 0) := by
        rw [arr_get _ k (by rw [pref_len]; exact hlt), pref_get _ _ _ hlt]; simp
      have hset := Lib.hid (arr_set (pref (fd c) k) k (fd c k))
      go_wp2
      go_roundw
      case rel =>
        refine ⟨k + 1, q / 4, by omega, ?_, by go_num, by go_num, ?_⟩
        · rw [HQ.out, Nat.div_div_eq_div_mul, Nat.pow_succ]
        · have e : ((q : Int) % 4) = ((fd c k : Nat) : Int) := by rw [fd, ← HQ.out]; omega
          rw [e, hset.out, pref_set _ _ hlt]
      case measure => simp [intOf]; omega
    · obtain rfl : k = 32 := by omega
      clear hlt hk
      have hz : (w.alloc (Obj.cells (arr (pref (fd c) 0)) 119)).heap.size = w.heap.size + 1 := by simp
      go_wp2_with (first | (refine load32 rfl _ rfl (w.alloc (Obj.cells (arr (pref (fd c) 0)) 119)) (pref (fd c) 32) _ rfl hz (pref_len _ _) ?_) | (refine store32b rfl _ _ rfl w _ (pref (fd c) 32) (arr (pref (fd c) 0)) rfl rfl (pref_len _ _) (by rw [arr_size, pref_len]) ?_))
      refine bodyPost_ret (v := .agg (arr (pref (fd c) 32))) (results_cell_row Try.results68 _ _ w.heap.size 119 _ _ _ rfl (heap_alloc2_old _ _ _) Try.underlying119 rfl (info_arr _ (pref_len _ _))) rfl ⟨?_, ?_⟩
      · rw [pref_all]; rfl
      · exact below_alloc (below_alloc (Below.refl _ _) _) _

theorem of_any (l : List Nat) (w : World) (hl : l.length = 32) (hd : ∀ d ∈ l, d < 4) :
    Calls Try.prog 74 #[.agg (arr l)] w fun e w' => e = .returned (.int .u64 (ofl l : Int)) ∧ Below w.heap.size w w' := by
  have HL := Lib.hid hl
  have HD := Lib.hid hd
  clear hl hd
  go_enter Try.func74, Try.ntmps74
  go_wp2
  go_loop [3, 4] (fun r i => ∃ (k v : Nat), k ≤ 32 ∧ v = ofl (l.drop k) ∧ r = .int .u64 (v : Int) ∧ i = .int .i64 ((k : Int) - 1)) (fun _ i => (intOf i + 1).toNat)
  case atStart => exact ⟨32, 0, by omega, by rw [List.drop_of_length_le (by have := HL.out; omega)]; rfl, rfl, rfl⟩
  case round =>
    obtain ⟨k, v, hk, hv, rfl, rfl⟩ := hrel
    have HV := Lib.hid hv
    clear hv
    cases k with
    | zero =>
      go_wp2
      go_ret
      exact ⟨ret_int (by rw [HV.out]; rfl), below_alloc (Below.refl _ _) _⟩
    | succ m =>
      obtain ⟨d, hd⟩ : ∃ d, d = l[m]'(by have := HL.out; omega) := ⟨_, rfl⟩
      have hat : (arr l)[m]? = some (.int .i64 (d : Int)) := by rw [hd]; exact arr_get l m (by have := HL.out; omega)
      have hd3 : (d : Int) ≤ 3 := by have := HD.out d (by rw [hd]; exact List.getElem_mem _); omega
      have hvb : (v : Int) ≤ 4611686018427387903 := by
        have h1 := ofl_lt (l.drop (m + 1)) (fun x hx => HD.out x (List.mem_of_mem_drop hx))
        have h2 : 4 ^ (l.drop (m + 1)).length ≤ 4 ^ 31 := Nat.pow_le_pow_right (by omega) (by rw [List.length_drop, HL.out]; omega)
        have h3 : (4:Nat) ^ 31 = 4611686018427387904 := by decide
        rw [HV.out]; omega
      have HD2 := Lib.hid hd
      clear hd
      go_wp2
      go_round
      case rel =>
        refine ⟨m, d + 4 * v, by omega, ?_, by go_num, by go_num⟩
        rw [ofl_drop l m (by have := HL.out; omega), ← HD2.out, HV.out]
      case measure => simp [intOf]
end Go.Proofs.Ytpnepooobmbfbaa.cho
/- What With, Right, Count and Nth give. -/
namespace Go.Proofs.Ytpnepooobmbfbaa.cho
set_option maxRecDepth 100000
open Go.ChangeShapes Go.WideShapes Go.ChangeAt Go.RowKit
open Go.Proofs.Ytpnepooobmbfbaa.choMath
set_option linter.unusedVariables false

theorem with_out (c : Nat) (i f : Int) (w : World) (h : ¬ ((0 ≤ i ∧ i < 32) ∧ 0 ≤ f ∧ f ≤ 2)) :
    Calls Try.prog 62 #[.int .u64 (c : Int), .int .i64 i, .int .i64 f] w fun e w' => e = .returned (.int .u64 (c : Int)) ∧ w = w' := by
  have h' : (i < 0) ∨ (0 ≤ i ∧ 32 ≤ i) ∨ (0 ≤ i ∧ i < 32 ∧ f < 0) ∨ (0 ≤ i ∧ i < 32 ∧ 0 ≤ f ∧ 2 < f) := by omega
  clear h
  rcases h' with h | ⟨h1, h2⟩ | ⟨h1, h2, h3⟩ | ⟨h1, h2, h3, h4⟩
  all_goals
    go_enter Try.func62, Try.ntmps62
    go_wp2
    go_ret
    exact ⟨rfl, rfl⟩
theorem with_in (c k f : Nat) (w : World) (hc : c < 18446744073709551616) (hk : k < 32) (hf : f ≤ 2) :
    Calls Try.prog 62 #[.int .u64 (c : Int), .int .i64 (k : Int), .int .i64 (f : Int)] w fun e w' => e = .returned (.int .u64 (putd c k f : Int)) ∧ Below w.heap.size w w' := by
  have h1 : (0:Int) ≤ k := by omega
  have h2 : (k:Int) < 32 := by omega
  have h3 : (0:Int) ≤ f := by omega
  have h4 : (f:Int) ≤ 2 := by omega
  have HC := Lib.hid hc
  clear hc
  go_enter Try.func62, Try.ntmps62
  go_wp2
  go_quiet (fail)
  go_wp2
  go_ret
  exact ⟨ret_int (with_walk c k f HC.out hk (by omega)), blw_drewN (Below.refl _ _) _⟩
theorem with_any (c : Nat) (i f : Int) (w : World) (hc : c < 18446744073709551616) :
    Calls Try.prog 62 #[.int .u64 (c : Int), .int .i64 i, .int .i64 f] w fun e w' => e = .returned (.int .u64 (wit c i f : Int)) ∧ Below w.heap.size w w' := by
  by_cases h : (0 ≤ i ∧ i < 32) ∧ 0 ≤ f ∧ f ≤ 2
  · rw [wit, if_pos h]
    obtain ⟨k, rfl⟩ := Int.eq_ofNat_of_zero_le h.1.1
    obtain ⟨g, rfl⟩ := Int.eq_ofNat_of_zero_le h.2.1
    exact with_in c k g w hc (by omega) (by omega)
  · rw [wit, if_neg h]
    refine (with_out c i f w h).mono ?_
    rintro e w' ⟨he, rfl⟩
    exact ⟨he, Below.refl _ _⟩
theorem fates_base (t : Bool) (w : World) :
    Calls Try.prog 61 #[.bool t] w fun e w' => e = .returned (.int .u64 (base t : Int)) ∧ w = w' := by
  cases t
  all_goals
    go_enter Try.func61, Try.ntmps61
    go_wp2
    go_ret
    exact ⟨rfl, rfl⟩
theorem rbase (t : Bool) (w : World) :
    Calls Try.prog 73 #[.bool t] w fun e w' => e = .returned (.int .u64 (base t : Int)) ∧ w = w' := by
  cases t
  all_goals
    go_enter Try.func73, Try.ntmps73
    go_wp2
    go_ret
    exact ⟨rfl, rfl⟩

theorem rfate_any (c : Nat) (i : Int) (w : World) (hc : c < 18446744073709551616) :
    Calls Try.prog 46 #[.int .u64 (c : Int), .int .i64 i] w fun e w' => e = .returned (.int .i64 (fate c i)) ∧ Below w.heap.size w w' := by
  have HC := Lib.hid hc
  clear hc
  by_cases h : 0 ≤ i ∧ i < 32
  · rw [fate, if_pos h]
    obtain ⟨h0, h32⟩ := h
    obtain ⟨k, rfl⟩ := Int.eq_ofNat_of_zero_le h0
    have h31 : (k:Int) ≤ 31 := by omega
    have hat : (arr (fl c))[k]? = some (.int .i64 (fd c k : Int)) := by rw [arr_get _ k (by rw [fl_len]; omega), fl_get c k (by omega)]
    have hix := fun W => index32 (arr (fl c)) k _ (by omega) hat W
    go_enter Try.func46, Try.ntmps46
    go_wp2_with (go_at_call 68; refine (fates_any c _ HC.out).mono ?_; rintro e w1 ⟨rfl, hb⟩)
    go_ret
    exact ⟨rfl, hb⟩
  · rw [fate, if_neg h]
    have h' : i < 0 ∨ (0 ≤ i ∧ 31 < i) := by omega
    clear h
    rcases h' with h | ⟨h1, h2⟩
    all_goals
      go_enter Try.func46, Try.ntmps46
      go_wp2
      go_ret
      exact ⟨rfl, Below.refl _ _⟩

/-! whether it is a choice -/
theorem all_upto (c k n : Nat) (hk : k ≤ n) (f : Nat → Bool) (h : (List.range k).all f = true) : (k = n → (List.range n).all f = true) ∧ (k < n → f k = false → (List.range n).all f = false) := by
  refine ⟨fun e => e ▸ h, fun hlt hf => ?_⟩
  rw [Bool.eq_false_iff]
  intro ha
  rw [List.all_eq_true] at ha
  rw [ha k (List.mem_range.2 hlt)] at hf
  cases hf
theorem all_next (k : Nat) (f : Nat → Bool) (h : (List.range k).all f = true) (hf : f k = true) : (List.range (k+1)).all f = true := by
  rw [List.range_succ, List.all_append, h]; simp [hf]
theorem right_in (c n : Nat) (w : World) (hc : c < 18446744073709551616) (hn : n ≤ 32) :
    Calls Try.prog 69 #[.int .u64 (c : Int), .int .i64 (n : Int)] w fun e w' => e = .returned (.bool (riB c n)) ∧ w = w' := by
  have HR := Lib.hid (riB_in c n (by have : (4:Nat)^32 = 18446744073709551616 := by decide
                                     omega) hn)
  have HC := Lib.hid hc
  clear hc
  have hn2 : (n:Int) ≤ 32 := by omega
  go_enter Try.func69, Try.ntmps69
  go_wp2
  go_loop [5, 13] (fun _ i => ∃ k : Nat, k ≤ n ∧ (List.range k).all (fun i => decide (fd c i ≤ 2)) = true ∧ i = .int .i64 (k : Int)) (fun _ i => n - (intOf i).toNat)
  case atStart => exact ⟨0, by omega, rfl, rfl⟩
  case round =>
    obtain ⟨k, hk, hall, rfl⟩ := hrel
    have HA := Lib.hid hall
    clear hall
    by_cases hlt : k < n
    · have hkk : (k:Int) < 32 := by omega
      by_cases h2 : fd c k ≤ 2
      · have h2' : decide (2 < (fd c k : Int)) = false := by simp; omega
        go_wp2_with (go_at_call 44; refine (fate_in c k _ HC.out (by omega)).mono ?_; rintro e w1 ⟨rfl, rfl⟩)
        go_round
        case rel => exact ⟨k + 1, by omega, all_next k _ HA.out (by simpa using h2), by go_num⟩
        case measure => simp [intOf]; omega
      · have h2' : decide (2 < (fd c k : Int)) = true := by simp; omega
        go_wp2_with (go_at_call 44; refine (fate_in c k _ HC.out (by omega)).mono ?_; rintro e w1 ⟨rfl, rfl⟩)
        go_ret
        exact ⟨ret_bool (by rw [HR.out, (all_upto c k n hk _ HA.out).2 hlt (by simpa using h2)]; rfl), rfl⟩
    · obtain rfl : k = n := by omega
      go_wp2
      go_ret
      exact ⟨ret_bool (by rw [HR.out, HA.out, ← right_walk]; rfl), rfl⟩
theorem right_out (c : Nat) (n : Int) (w : World) (h : n < 0 ∨ 32 < n) :
    Calls Try.prog 69 #[.int .u64 (c : Int), .int .i64 n] w fun e w' => e = .returned (.bool false) ∧ w = w' := by
  rcases h with h | h
  all_goals
    go_enter Try.func69, Try.ntmps69
    go_wp2
    go_ret
    exact ⟨rfl, rfl⟩
theorem right_any (c : Nat) (n : Int) (w : World) (hc : c < 18446744073709551616) :
    Calls Try.prog 69 #[.int .u64 (c : Int), .int .i64 n] w fun e w' => e = .returned (.bool (riB c n)) ∧ w = w' := by
  by_cases h : n < 0 ∨ 32 < n
  · rw [riB_out c n h]; exact right_out c n w h
  · obtain ⟨m, rfl⟩ := Int.eq_ofNat_of_zero_le (show 0 ≤ n by omega)
    exact right_in c m w hc (by omega)
set_option maxRecDepth 100000 in
set_option maxHeartbeats 800000 in
theorem rright_in (c n : Nat) (w : World) (hc : c < 18446744073709551616) (hn : n ≤ 32) :
    Calls Try.prog 71 #[.int .u64 (c : Int), .int .i64 (n : Int)] w fun e w' => e = .returned (.bool (riB c n)) ∧ Below w.heap.size w w' := by
  have HR := Lib.hid (riB_rp c n (by omega) (by omega))
  have HC := Lib.hid hc
  clear hc
  have hn2 : (n:Int) ≤ 32 := by omega
  go_enter Try.func71, Try.ntmps71
  go_wp2_with (first
    | (go_at_call 68; refine (fates_any c _ HC.out).mono ?_; rintro e w1 ⟨rfl, hb⟩)
    | (refine store32 rfl _ _ rfl w1 (fl c) _ rfl rfl (fl_len c) rfl ?_))
  have hbb := below_alloc hb (Obj.cells (arr (fl c)) 119)
  clear hb
  go_loop [6] (fun i => ∃ k : Nat, k ≤ 32 ∧ (List.range k).all (rp c n) = true ∧ i = .int .i64 (k : Int)) (fun i => 32 - (intOf i).toNat)
  case atStart => exact ⟨0, by omega, rfl, rfl⟩
  case round =>
    obtain ⟨k, hk, hall, rfl⟩ := hrel
    have HA := Lib.hid hall
    clear hall
    by_cases hlt : k < 32
    · have hat : (arr (fl c))[k]? = some (.int .i64 (fd c k : Int)) := by rw [arr_get _ k (by rw [fl_len]; exact hlt), fl_get c k hlt]
      have hrp : Hid (rp c n k = (fd c k != 3 && (decide ((k:Int) < n) || fd c k == 0))) := Lib.hid rfl
      have hd4 := fd_lt c k
      by_cases hkn : k < n
      · have hkn' : decide ((n:Int) ≤ k) = false := by simp; omega
        obtain ⟨d, hd⟩ : ∃ d, fd c k = d := ⟨_, rfl⟩
        have HD := Lib.hid hd
        rw [hd] at hat hd4
        clear hd
        have h3 : d = 3 ∨ d = 0 ∨ d = 1 ∨ d = 2 := by omega
        rcases h3 with rfl | rfl | rfl | rfl
        · have hat2 : (arr (fl c))[k]? = some (.int .i64 3) := hat
          clear hat
          go_wp2
          go_ret
          exact ⟨ret_bool (by rw [HR.out, (all_upto c k 32 hk _ HA.out).2 hlt (by rw [hrp.out, HD.out]; rfl)]), hbb⟩
        · have hat2 : (arr (fl c))[k]? = some (.int .i64 0) := hat
          clear hat
          go_wp2
          go_round
          case rel => exact ⟨k + 1, by omega, all_next k _ HA.out (by rw [hrp.out, HD.out]; simp <;> omega), by go_num⟩
          case measure => simp [intOf]; omega
        · have hat2 : (arr (fl c))[k]? = some (.int .i64 1) := hat
          clear hat
          go_wp2
          go_round
          case rel => exact ⟨k + 1, by omega, all_next k _ HA.out (by rw [hrp.out, HD.out]; simp <;> omega), by go_num⟩
          case measure => simp [intOf]; omega
        · have hat2 : (arr (fl c))[k]? = some (.int .i64 2) := hat
          clear hat
          go_wp2
          go_round
          case rel => exact ⟨k + 1, by omega, all_next k _ HA.out (by rw [hrp.out, HD.out]; simp <;> omega), by go_num⟩
          case measure => simp [intOf]; omega
      · have hkn' : decide ((n:Int) ≤ k) = true := by simp; omega
        obtain ⟨d, hd⟩ : ∃ d, fd c k = d := ⟨_, rfl⟩
        have HD := Lib.hid hd
        rw [hd] at hat hd4
        clear hd
        have h3 : d = 0 ∨ d = 3 ∨ d = 1 ∨ d = 2 := by omega
        rcases h3 with rfl | rfl | rfl | rfl
        · have hat2 : (arr (fl c))[k]? = some (.int .i64 0) := hat
          clear hat
          go_wp2
          go_round
          case rel => exact ⟨k + 1, by omega, all_next k _ HA.out (by rw [hrp.out, HD.out]; simp), by go_num⟩
          case measure => simp [intOf]; omega
        · have hat2 : (arr (fl c))[k]? = some (.int .i64 3) := hat
          clear hat
          go_wp2
          go_ret
          exact ⟨ret_bool (by rw [HR.out, (all_upto c k 32 hk _ HA.out).2 hlt (by rw [hrp.out, HD.out]; rfl)]), hbb⟩
        · have hat2 : (arr (fl c))[k]? = some (.int .i64 1) := hat
          clear hat
          go_wp2
          go_ret
          exact ⟨ret_bool (by rw [HR.out, (all_upto c k 32 hk _ HA.out).2 hlt (by rw [hrp.out, HD.out]; simp; omega)]), hbb⟩
        · have hat2 : (arr (fl c))[k]? = some (.int .i64 2) := hat
          clear hat
          go_wp2
          go_ret
          exact ⟨ret_bool (by rw [HR.out, (all_upto c k 32 hk _ HA.out).2 hlt (by rw [hrp.out, HD.out]; simp; omega)]), hbb⟩
    · obtain rfl : k = 32 := by omega
      clear hlt hk
      go_wp2
      go_ret
      exact ⟨ret_bool (by rw [HR.out, HA.out]), hbb⟩
theorem rright_any (c : Nat) (n : Int) (w : World) (hc : c < 18446744073709551616) :
    Calls Try.prog 71 #[.int .u64 (c : Int), .int .i64 n] w fun e w' => e = .returned (.bool (riB c n)) ∧ Below w.heap.size w w' := by
  by_cases h : n < 0 ∨ 32 < n
  · rw [riB_out c n h]
    rcases h with h | h
    all_goals
      go_enter Try.func71, Try.ntmps71
      go_wp2
      go_ret
      exact ⟨rfl, Below.refl _ _⟩
  · obtain ⟨m, rfl⟩ := Int.eq_ofNat_of_zero_le (show 0 ≤ n by omega)
    exact rright_in c m w hc (by omega)
end Go.Proofs.Ytpnepooobmbfbaa.cho
/- What Count, Nth and Rank give. -/
namespace Go.Proofs.Ytpnepooobmbfbaa.cho
set_option maxRecDepth 100000
open Go.ChangeShapes Go.WideShapes Go.ChangeAt Go.RowKit
open Go.Proofs.Ytpnepooobmbfbaa.choMath
set_option linter.unusedVariables false

theorem count_in (n : Nat) (t : Bool) (w : World) (hn : n ≤ 32) :
    Calls Try.prog 32 #[.int .i64 (n : Int), .bool t] w fun e w' => e = .returned (.int .u64 (cnt n t : Int)) ∧ w = w' := by
  have hcn : cnt n t = base t ^ n := by rw [cnt, if_pos (by omega)]; rfl
  have HCN := Lib.hid hcn
  clear hcn
  have hn2 : (n:Int) ≤ 32 := by omega
  have hb : (base t : Int) = 2 ∨ (base t : Int) = 3 := by cases t <;> simp [base]
  go_enter Try.func32, Try.ntmps32
  go_wp2
  go_loop [5, 13] (fun v i => ∃ k q : Nat, k ≤ n ∧ q = base t ^ k ∧ v = .int .u64 (q : Int) ∧ i = .int .i64 (k : Int)) (fun _ i => n - (intOf i).toNat)
  case atStart => exact ⟨0, 1, by omega, by simp, rfl, rfl⟩
  case round =>
    obtain ⟨k, q, hk, hq, rfl, rfl⟩ := hrel
    have HQ := Lib.hid hq
    have hqb : (q:Int) ≤ 1853020188851841 := by rw [hq]; have := pow_le t k (by omega); omega
    clear hq
    by_cases hlt : k < n
    · obtain ⟨bb, hbb⟩ : ∃ bb : Nat, base t = bb := ⟨_, rfl⟩
      have HB := Lib.hid hbb
      rw [hbb] at hb
      clear hbb
      have hm := Lib.hid (show q * bb = base t ^ (k + 1) by rw [HQ.out, HB.out, Nat.pow_succ])
      rcases hb with hb | hb
      · obtain rfl : bb = 2 := by omega
        clear hb
        go_wp2_with (go_at_call 61; refine (fates_base t _).mono ?_; rw [HB.out]; rintro e w1 ⟨rfl, rfl⟩)
        go_round
        case rel => exact ⟨k + 1, q * 2, by omega, hm.out, by go_num, by go_num⟩
        case measure => simp [intOf]; omega
      · obtain rfl : bb = 3 := by omega
        clear hb
        go_wp2_with (go_at_call 61; refine (fates_base t _).mono ?_; rw [HB.out]; rintro e w1 ⟨rfl, rfl⟩)
        go_round
        case rel => exact ⟨k + 1, q * 3, by omega, hm.out, by go_num, by go_num⟩
        case measure => simp [intOf]; omega
    · obtain rfl : k = n := by omega
      go_wp2
      go_ret
      exact ⟨ret_int (by rw [HCN.out, HQ.out]), rfl⟩
theorem count_any (n : Int) (t : Bool) (w : World) :
    Calls Try.prog 32 #[.int .i64 n, .bool t] w fun e w' => e = .returned (.int .u64 (cnt n t : Int)) ∧ w = w' := by
  by_cases h : n < 0 ∨ 32 < n
  · rw [cnt, if_neg (by omega)]
    rcases h with h | h
    all_goals
      go_enter Try.func32, Try.ntmps32
      go_wp2
      go_ret
      exact ⟨rfl, rfl⟩
  · obtain ⟨m, rfl⟩ := Int.eq_ofNat_of_zero_le (show 0 ≤ n by omega)
    exact count_in m t w (by omega)
theorem rcount_in (n : Nat) (t : Bool) (w : World) (hn : n ≤ 32) :
    Calls Try.prog 51 #[.int .i64 (n : Int), .bool t] w fun e w' => e = .returned (.int .u64 (cnt n t : Int)) ∧ w = w' := by
  have hcn : cnt n t = base t ^ n := by rw [cnt, if_pos (by omega)]; rfl
  have HCN := Lib.hid hcn
  clear hcn
  have hn2 : (n:Int) ≤ 32 := by omega
  have hb : (base t : Int) = 2 ∨ (base t : Int) = 3 := by cases t <;> simp [base]
  go_enter Try.func51, Try.ntmps51
  go_wp2
  go_loop [5, 6] (fun v i => ∃ k q : Nat, k ≤ n ∧ q = base t ^ k ∧ v = .int .u64 (q : Int) ∧ i = .int .i64 (k : Int)) (fun _ i => n - (intOf i).toNat)
  case atStart => exact ⟨0, 1, by omega, by simp, rfl, rfl⟩
  case round =>
    obtain ⟨k, q, hk, hq, rfl, rfl⟩ := hrel
    have HQ := Lib.hid hq
    have hqb : (q:Int) ≤ 1853020188851841 := by rw [hq]; have := pow_le t k (by omega); omega
    clear hq
    by_cases hlt : k < n
    · obtain ⟨bb, hbb⟩ : ∃ bb : Nat, base t = bb := ⟨_, rfl⟩
      have HB := Lib.hid hbb
      rw [hbb] at hb
      clear hbb
      have hm := Lib.hid (show q * bb = base t ^ (k + 1) by rw [HQ.out, HB.out, Nat.pow_succ])
      rcases hb with hb | hb
      · obtain rfl : bb = 2 := by omega
        clear hb
        go_wp2_with (go_at_call 73; refine (rbase t _).mono ?_; rw [HB.out]; rintro e w1 ⟨rfl, rfl⟩)
        go_round
        case rel => exact ⟨k + 1, q * 2, by omega, hm.out, by go_num, by go_num⟩
        case measure => simp [intOf]; omega
      · obtain rfl : bb = 3 := by omega
        clear hb
        go_wp2_with (go_at_call 73; refine (rbase t _).mono ?_; rw [HB.out]; rintro e w1 ⟨rfl, rfl⟩)
        go_round
        case rel => exact ⟨k + 1, q * 3, by omega, hm.out, by go_num, by go_num⟩
        case measure => simp [intOf]; omega
    · obtain rfl : k = n := by omega
      go_wp2
      go_ret
      exact ⟨ret_int (by rw [HCN.out, HQ.out]), rfl⟩
theorem rcount_any (n : Int) (t : Bool) (w : World) :
    Calls Try.prog 51 #[.int .i64 n, .bool t] w fun e w' => e = .returned (.int .u64 (cnt n t : Int)) ∧ w = w' := by
  by_cases h : n < 0 ∨ 32 < n
  · rw [cnt, if_neg (by omega)]
    rcases h with h | h
    all_goals
      go_enter Try.func51, Try.ntmps51
      go_wp2
      go_ret
      exact ⟨rfl, rfl⟩
  · obtain ⟨m, rfl⟩ := Int.eq_ofNat_of_zero_le (show 0 ≤ n by omega)
    exact rcount_in m t w (by omega)

theorem cnt_pos {k : Nat} {n : Int} {t : Bool} (h : k < cnt n t) : 0 ≤ n ∧ n ≤ 32 := by
  rw [cnt] at h
  split at h
  · assumption
  · omega
theorem nth_big (k : Nat) (n : Int) (t : Bool) (w : World) (h : cnt n t ≤ k) :
    Calls Try.prog 31 #[.int .u64 (k : Int), .int .i64 n, .bool t] w fun e w' => e = .returned (.int .u64 0) ∧ w = w' := by
  go_enter Try.func31, Try.ntmps31
  go_wp2_with (go_at_call 32; refine (count_any n t _).mono ?_; rintro e w1 ⟨rfl, rfl⟩)
  go_ret
  exact ⟨rfl, rfl⟩
theorem nth_in (k n : Nat) (t : Bool) (w : World) (hk0 : k < 18446744073709551616) (h : k < cnt n t) :
    Calls Try.prog 31 #[.int .u64 (k : Int), .int .i64 (n : Int), .bool t] w fun e w' => e = .returned (.int .u64 (nth k n t : Int)) ∧ Below w.heap.size w w' := by
  have hn := cnt_pos h
  have hnth : nth k n t = ofl (pref (ng k (base t)) n) := by rw [nth, if_pos h]; rfl
  have HN := Lib.hid hnth
  have hn2 : (n:Int) ≤ 32 := hn.2
  have HG := fun i => Lib.hid (ng_lt k t i)
  have hb : base t = 2 ∨ base t = 3 := by cases t <;> simp [base]
  have HK := Lib.hid hk0
  have hkk : ¬ (cnt n t : Int) ≤ k := by omega
  clear hnth hn hk0 h
  obtain ⟨bb, hbb⟩ : ∃ bb : Nat, base t = bb := ⟨_, rfl⟩
  have HB := Lib.hid hbb
  rw [hbb] at hb
  clear hbb
  rcases hb with rfl | rfl
  all_goals
    go_enter Try.func31, Try.ntmps31
    go_wp2_with (first | (go_at_call 32; refine (count_any n t _).mono ?_; rintro e w1 ⟨rfl, rfl⟩) | (go_at_call 61; refine (fates_base t _).mono ?_; rw [HB.out]; rintro e w1 ⟨rfl, rfl⟩))
    go_loopw [0, 8, 9, 18] (fun q a _ i wr => ∃ (j qn an : Nat), j ≤ n ∧ qn = k / base t ^ j ∧ an = ofl (pref (ng k (base t)) j) ∧ q = .int .u64 (qn : Int) ∧ a = .int .u64 (an : Int) ∧ i = .int .i64 (j : Int) ∧ Below w.heap.size w wr) (fun _ _ _ i _ => n - (intOf i).toNat)
    case atStart => exact ⟨0, k, 0, by omega, by simp, by rw [ofl_zero], rfl, rfl, rfl, Below.refl _ _⟩
    case round =>
      obtain ⟨j, qn, an, hj, hq, ha, rfl, rfl, rfl, hbel⟩ := hrel
      have HQ := Lib.hid hq
      have HA := Lib.hid ha
      have hqb : (qn:Int) ≤ 18446744073709551615 := by have := HK.out; have := Nat.div_le_self k (base t ^ j); omega
      clear hq ha
      by_cases hlt : j < n
      · have han : an < 18446744073709551616 := by rw [HA.out]; exact ofl32 _ (pref_lt _ _ fun i => (HG i).out.2) (pref_len _ _)
        have HAN := Lib.hid han
        clear han
        go_wp2_with (go_at_call 62; refine (with_any an _ _ _ HAN.out).mono ?_; rintro e w1 ⟨rfl, hb1⟩)
        go_roundw
        case rel =>
          refine ⟨j + 1, _, _, by omega, ?_, ?_, by go_num, rfl, by go_num, below_trans hbel hb1⟩
          · rw [HQ.out, HB.out, Nat.div_div_eq_div_mul, Nat.pow_succ]
          · rw [← putd_pref _ _ (fun i => (HG i).out.2) (by omega), ← HA.out, wit, if_pos (by omega)]
            congr 1
            have : ng k (base t) j = qn % base t := by rw [ng, HQ.out]
            rw [this, HB.out]
            omega
        case measure => simp [intOf]; omega
      · obtain rfl : j = n := by omega
        go_wp2
        go_ret
        exact ⟨ret_int (by rw [HN.out, HA.out]), hbel⟩
theorem nth_any (k : Nat) (n : Int) (t : Bool) (w : World) (hk0 : k < 18446744073709551616) :
    Calls Try.prog 31 #[.int .u64 (k : Int), .int .i64 n, .bool t] w fun e w' => e = .returned (.int .u64 (nth k n t : Int)) ∧ Below w.heap.size w w' := by
  by_cases h : k < cnt n t
  · obtain ⟨m, rfl⟩ := Int.eq_ofNat_of_zero_le (cnt_pos h).1
    exact nth_in k m t w hk0 h
  · rw [nth, if_neg h]
    refine (nth_big k n t w (by omega)).mono ?_
    rintro e w' ⟨he, rfl⟩
    exact ⟨he, Below.refl _ _⟩
end Go.Proofs.Ytpnepooobmbfbaa.cho
/- What the reference's Nth, and both Ranks, give. -/
namespace Go.Proofs.Ytpnepooobmbfbaa.cho
set_option maxRecDepth 100000
open Go.ChangeShapes Go.WideShapes Go.ChangeAt Go.RowKit
open Go.Proofs.Ytpnepooobmbfbaa.choMath
set_option linter.unusedVariables false

theorem rbase_of (t : Bool) (b : Nat) (h : base t = b) (w : World) :
    Calls Try.prog 73 #[.bool t] w fun e w' => e = .returned (.int .u64 (b : Int)) ∧ w = w' := by subst h; exact rbase t w
theorem fate_of (c : Nat) (i d : Int) (w : World) (hc : c < 18446744073709551616) (h : fate c i = d) :
    Calls Try.prog 44 #[.int .u64 (c : Int), .int .i64 i] w fun e w' => e = .returned (.int .i64 d) ∧ w = w' := by subst h; exact fate_any c i w hc
theorem rnth_in (k n : Nat) (t : Bool) (w : World) (hk0 : k < 18446744073709551616) (h : k < cnt n t) :
    Calls Try.prog 52 #[.int .u64 (k : Int), .int .i64 (n : Int), .bool t] w fun e w' => e = .returned (.int .u64 (nth k n t : Int)) ∧ Below w.heap.size w w' := by
  have hn := cnt_pos h
  have hnth : nth k n t = ofl (pref (ng k (base t)) n) := by rw [nth, if_pos h]; rfl
  have HN := Lib.hid hnth
  have hn2 : (n:Int) ≤ 32 := hn.2
  have HG := fun i => Lib.hid (ng_lt k t i)
  have hb : base t = 2 ∨ base t = 3 := by cases t <;> simp [base]
  have HK := Lib.hid hk0
  have hkk : decide (cnt (n:Int) t ≤ k) = false := by simp; omega
  clear hnth hn hk0 h
  obtain ⟨bb, hbb⟩ : ∃ bb : Nat, base t = bb := ⟨_, rfl⟩
  have HB := Lib.hid hbb
  rw [hbb] at hb
  clear hbb
  rcases hb with rfl | rfl
  all_goals
    go_enter Try.func52, Try.ntmps52
    go_wp2_with (go_at_call 51; refine (rcount_any n t _).mono ?_; rintro e w1 ⟨rfl, rfl⟩)
    rw [← zeros (ng k (base t))]
    go_loopw [0, 8] (fun q i wr => ∃ (j qn : Nat), j ≤ n ∧ qn = k / base t ^ j ∧ q = .int .u64 (qn : Int) ∧ i = .int .i64 (j : Int) ∧ wr = w.alloc (Obj.cells (arr (pref (ng k (base t)) j)) 119)) (fun _ i _ => n - (intOf i).toNat)
    case atStart => exact ⟨0, k, by omega, by simp, rfl, rfl, rfl⟩
    case round =>
      obtain ⟨j, qn, hj, hq, rfl, rfl, rfl⟩ := hrel
      have HQ := Lib.hid hq
      have hqb : (qn:Int) ≤ 18446744073709551615 := by have := HK.out; have := Nat.div_le_self k (base t ^ j); omega
      clear hq
      by_cases hlt : j < n
      · have hj32 : (j:Int) < 32 := by omega
        have hat : (arr (pref (ng k (base t)) j))[j]? = some (.int .i64 0) := by
          rw [arr_get _ j (by rw [pref_len]; omega), pref_get _ _ _ (by omega)]; simp
        have hset := Lib.hid (arr_set (pref (ng k (base t)) j) j (ng k (base t) j))
        go_wp2_with (go_at_call 73; refine (rbase_of t _ HB.out _).mono ?_; rintro e w1 ⟨rfl, rfl⟩)
        go_roundw
        case rel =>
          refine ⟨j + 1, _, by omega, ?_, by go_num, by go_num, ?_⟩
          · rw [HQ.out, HB.out, Nat.div_div_eq_div_mul, Nat.pow_succ]
          · have e : ng k (base t) j = qn % base t := by rw [ng, HQ.out]
            rw [← pref_set _ _ (by omega), ← hset.out]
            rw [e, HB.out]
            norm_cast
        case measure => simp [intOf]; omega
      · obtain rfl : j = n := by omega
        clear hlt hj
        go_wp2_with (first | (refine load32 rfl _ rfl w (pref (ng k (base t)) j) _ rfl rfl (pref_len _ _) ?_) | (go_at_call 74; refine (of_any (pref (ng k (base t)) j) _ (pref_len _ _) (pref_lt _ _ fun i => (HG i).out.2)).mono ?_; rintro e w2 ⟨rfl, hb2⟩))
        go_ret
        exact ⟨ret_int (by rw [HN.out]), below_trans (below_alloc (Below.refl _ _) _) hb2⟩
theorem rnth_any (k : Nat) (n : Int) (t : Bool) (w : World) (hk0 : k < 18446744073709551616) :
    Calls Try.prog 52 #[.int .u64 (k : Int), .int .i64 n, .bool t] w fun e w' => e = .returned (.int .u64 (nth k n t : Int)) ∧ Below w.heap.size w w' := by
  by_cases h : k < cnt n t
  · obtain ⟨m, rfl⟩ := Int.eq_ofNat_of_zero_le (cnt_pos h).1
    exact rnth_in k m t w hk0 h
  · rw [nth, if_neg h]
    have hkk : (cnt n t : Int) ≤ k := by omega
    clear h
    go_enter Try.func52, Try.ntmps52
    go_wp2_with (go_at_call 51; refine (rcount_any n t _).mono ?_; rintro e w1 ⟨rfl, rfl⟩)
    go_ret
    exact ⟨rfl, below_alloc (Below.refl _ _) _⟩

/-! the number of a choice -/
end Go.Proofs.Ytpnepooobmbfbaa.cho
/- What Allowed gives. -/
namespace Go.Proofs.Ytpnepooobmbfbaa.cho
set_option maxRecDepth 100000
open Go.ChangeShapes Go.WideShapes Go.ChangeAt Go.RowKit
open Go.Proofs.Ytpnepooobmbfbaa.choMath
set_option linter.unusedVariables false

/-- v is a slice in memory that holds zs -/
def IntsIn (w : World) (v : Value) (zs : List Int) : Prop :=
  (∃ p cap, v = .slice p 0 cap ∧ zs = []) ∨
  (∃ b off cap, v = .slice (some ⟨b, off, none⟩) zs.length cap ∧ 0 < zs.length ∧ b < w.heap.size ∧ ∀ i, i < zs.length → w.cell? ⟨b, off + i, none⟩ = some (.int .i64 (zs.getD i 0)))
theorem IntsIn.later {w w' : World} {v : Value} {zs : List Int} (h : IntsIn w v zs) (hb : Below w.heap.size w w') : IntsIn w' v zs := by
  rcases h with h | ⟨b, off, cap, h1, h2, h3, h4⟩
  · exact Or.inl h
  · refine Or.inr ⟨b, off, cap, h1, h2, Nat.lt_of_lt_of_le h3 hb.size, fun i hi => ?_⟩
    rw [hb.cell (p := ⟨b, off + i, none⟩) h3]
    exact h4 i hi

theorem last_some (c : Nat) (zs : List Int) (b off cap : Nat) (w : World) (hc : c < 18446744073709551616) (hr : riB c zs.length = true) (hn : zs.length ≤ 32)
    (hcell : ∀ i, i < zs.length → w.cell? ⟨b, off + i, none⟩ = some (.int .i64 (zs.getD i 0))) :
    Calls Try.prog 70 #[.int .u64 (c : Int), .slice (some ⟨b, off, none⟩) zs.length cap] w fun e w' => e = .returned (.tuple #[.int .i64 (lr c zs zs.length).1, .bool (lr c zs zs.length).2]) ∧ w = w' := by
  have HC := Lib.hid hc
  have HR := Lib.hid hr
  have HCELL := Lib.hid hcell
  clear hc hr hcell
  obtain ⟨n, hnn⟩ : ∃ n, zs.length = n := ⟨_, rfl⟩
  have HNN := Lib.hid hnn
  rw [hnn] at hn ⊢
  clear hnn
  have hn2 : (n:Int) ≤ 32 := by omega
  go_enter Try.func70, Try.ntmps70
  go_wp2
  go_loop [6, 7, 8, 9, 12] (fun l r _ _ i => ∃ (j : Nat) (L : Int) (R : Bool), j ≤ n ∧ lr c zs j = (L, R) ∧ l = .int .i64 L ∧ r = .bool R ∧ i = .int .i64 (j : Int)) (fun _ _ _ _ i => n - (intOf i).toNat)
  case atStart => exact ⟨0, 0, false, by omega, rfl, rfl, rfl, rfl⟩
  case round =>
    obtain ⟨j, L, R, hj, hlr, rfl, rfl, rfl⟩ := hrel
    have HLR := Lib.hid hlr
    clear hlr
    by_cases hlt : j < n
    · have hcj : w.cell? ⟨b, off + j, none⟩ = some (.int .i64 (zs.getD j 0)) := HCELL.out j (by rw [HNN.out]; exact hlt)
      have hstep : lr c zs (j + 1) = if fd c j ≠ 0 ∧ (R = false ∨ L < zs.getD j 0) then (zs.getD j 0, true) else (L, R) := by rw [lr, HLR.out]
      have hfd : fate c (j : Int) = ((fd c j : Nat) : Int) := by rw [fate, if_pos (by omega)]; rfl
      generalize zs.getD j 0 = z at *
      generalize fd c j = d at *
      have HST := Lib.hid hstep
      have HFD := Lib.hid hfd
      clear hstep hfd
      by_cases hd0 : d = 0
      · subst hd0
        go_wp2_with (go_at_call 44; refine (fate_of c _ 0 _ HC.out HFD.out).mono ?_; rintro e w1 ⟨rfl, rfl⟩)
        go_round
        case rel => exact ⟨j + 1, L, R, by omega, by rw [HST.out]; simp, rfl, rfl, by go_num⟩
        case measure => simp [intOf]; omega
      · have hne : ((d:Int) != 0) = true := by simp; omega
        have hne2 : ((d:Int) == 0) = false := by simp; omega
        cases R with
        | false =>
          go_wp2_with (go_at_call 44; refine (fate_of c _ d _ HC.out HFD.out).mono ?_; rintro e w1 ⟨rfl, rfl⟩)
          go_round
          case rel => exact ⟨j + 1, z, true, by omega, by rw [HST.out]; simp [hd0], rfl, rfl, by go_num⟩
          case measure => simp [intOf]; omega
        | true =>
          by_cases hL : L < z
          · go_wp2_with (go_at_call 44; refine (fate_of c _ d _ HC.out HFD.out).mono ?_; rintro e w1 ⟨rfl, rfl⟩)
            go_round
            case rel => exact ⟨j + 1, z, true, by omega, by rw [HST.out]; simp [hd0, hL], rfl, rfl, by go_num⟩
            case measure => simp [intOf]; omega
          · go_wp2_with (go_at_call 44; refine (fate_of c _ d _ HC.out HFD.out).mono ?_; rintro e w1 ⟨rfl, rfl⟩)
            go_round
            case rel => exact ⟨j + 1, L, true, by omega, by rw [HST.out]; simp; omega, rfl, rfl, by go_num⟩
            case measure => simp [intOf]; omega
    · obtain rfl : j = n := by omega
      go_wp2
      go_ret2
      exact ⟨by rw [HLR.out]; rfl, rfl⟩
theorem last_nil (c : Nat) (p : Option Addr) (cap : Nat) (w : World) :
    Calls Try.prog 70 #[.int .u64 (c : Int), .slice p 0 cap] w fun e w' => e = .returned (.tuple #[.int .i64 0, .bool false]) ∧ w = w' := by
  go_enter Try.func70, Try.ntmps70
  go_wp2
  go_loop [6, 7, 8, 9, 12] (fun l r _ _ i => l = .int .i64 0 ∧ r = .bool false ∧ i = .int .i64 0) (fun _ _ _ _ i => 0)
  case atStart => exact ⟨rfl, rfl, rfl⟩
  case round =>
    obtain ⟨rfl, rfl, rfl⟩ := hrel
    go_wp2
    go_ret2
    exact ⟨rfl, rfl⟩
end Go.Proofs.Ytpnepooobmbfbaa.cho
/- What both forms of Allowed give. -/
namespace Go.Proofs.Ytpnepooobmbfbaa.cho
set_option maxRecDepth 100000
open Go.ChangeShapes Go.WideShapes Go.ChangeAt Go.RowKit
open Go.Proofs.Ytpnepooobmbfbaa.choMath
set_option linter.unusedVariables false

theorem riB_len {c : Nat} {n : Int} (h : riB c n = true) : 0 ≤ n ∧ n ≤ 32 := by
  rw [riB, Bool.and_eq_true, decide_eq_true_eq] at h
  exact h.1
theorem allowed_no (c len cap : Nat) (p : Option Addr) (w : World) (hc : c < 18446744073709551616) (h : riB c len = false) :
    Calls Try.prog 48 #[.int .u64 (c : Int), .slice p len cap] w fun e w' => e = .returned (.bool false) ∧ w = w' := by
  have HC := Lib.hid hc
  have HR := Lib.hid h
  clear hc h
  go_enter Try.func48, Try.ntmps48
  go_wp2_with (go_at_call 69; refine (right_any c _ _ HC.out).mono ?_; rw [HR.out]; rintro e w1 ⟨rfl, rfl⟩)
  go_ret
  exact ⟨rfl, rfl⟩
theorem rallowed_no (c len cap : Nat) (p : Option Addr) (w : World) (hc : c < 18446744073709551616) (h : riB c len = false) :
    Calls Try.prog 49 #[.int .u64 (c : Int), .slice p len cap] w fun e w' => e = .returned (.bool false) ∧ Below w.heap.size w w' := by
  have HC := Lib.hid hc
  have HR := Lib.hid h
  clear hc h
  go_enter Try.func49, Try.ntmps49
  go_wp2_with (go_at_call 71; refine (rright_any c _ _ HC.out).mono ?_; rw [HR.out]; rintro e w1 ⟨rfl, hb⟩)
  go_ret
  exact ⟨rfl, hb⟩
theorem allowed_nil (c cap : Nat) (p : Option Addr) (w : World) (hc : c < 18446744073709551616) (h : riB c 0 = true) :
    Calls Try.prog 48 #[.int .u64 (c : Int), .slice p 0 cap] w fun e w' => e = .returned (.bool true) ∧ w = w' := by
  have HC := Lib.hid hc
  have HR := Lib.hid h
  clear hc h
  go_enter Try.func48, Try.ntmps48
  go_wp2_with (first | (go_at_call 69; refine (right_any c 0 _ HC.out).mono ?_; rw [HR.out]; rintro e w1 ⟨rfl, rfl⟩) | (go_at_call 70; refine (last_nil c p cap _).mono ?_; rintro e w1 ⟨rfl, rfl⟩))
  go_ret
  exact ⟨rfl, rfl⟩
theorem rallowed_nil (c cap : Nat) (p : Option Addr) (w : World) (hc : c < 18446744073709551616) (h : riB c 0 = true) :
    Calls Try.prog 49 #[.int .u64 (c : Int), .slice p 0 cap] w fun e w' => e = .returned (.bool true) ∧ Below w.heap.size w w' := by
  have HC := Lib.hid hc
  have HR := Lib.hid h
  clear hc h
  go_enter Try.func49, Try.ntmps49
  go_wp2_with (first | (go_at_call 71; refine (rright_any c 0 _ HC.out).mono ?_; rw [HR.out]; rintro e w1 ⟨rfl, hb1⟩) | (go_at_call 68; refine (fates_any c _ HC.out).mono ?_; rintro e w2 ⟨rfl, hb2⟩) | (refine store32 rfl _ _ rfl w2 (fl c) _ rfl rfl (fl_len c) rfl ?_))
  go_loop [6] (fun i => i = .int .i64 0) (fun i => 0)
  case atStart => rfl
  case round =>
    subst hrel
    go_wp2
    go_ret
    exact ⟨rfl, below_alloc (below_trans hb1 hb2) _⟩
theorem allowed_some (c : Nat) (zs : List Int) (b off cap : Nat) (w : World) (hc : c < 18446744073709551616) (hr : riB c zs.length = true)
    (hcell : ∀ i, i < zs.length → w.cell? ⟨b, off + i, none⟩ = some (.int .i64 (zs.getD i 0))) :
    Calls Try.prog 48 #[.int .u64 (c : Int), .slice (some ⟨b, off, none⟩) zs.length cap] w fun e w' => e = .returned (.bool (alB c zs)) ∧ w = w' := by
  have hn := riB_len hr
  have hn2 : zs.length ≤ 32 := by omega
  have HAL := Lib.hid (alB_dev c zs hr)
  have HLS := Lib.hid (fun W => last_some c zs b off cap W hc hr hn2)
  have HC := Lib.hid hc
  have HR := Lib.hid hr
  have HCELL := Lib.hid hcell
  clear hc hr hcell hn
  have hn3 : (zs.length : Int) ≤ 32 := by omega
  obtain ⟨L, R, hLR⟩ : ∃ L R, lr c zs zs.length = (L, R) := ⟨_, _, rfl⟩
  have HLR := Lib.hid hLR
  clear hLR
  cases R with
  | false =>
    go_enter Try.func48, Try.ntmps48
    go_wp2_with (first | (go_at_call 69; refine (right_any c _ _ HC.out).mono ?_; rw [HR.out]; rintro e w1 ⟨rfl, rfl⟩) | (go_at_call 70; refine (HLS.out _ HCELL.out).mono ?_; rw [HLR.out]; rintro e w1 ⟨rfl, rfl⟩))
    go_ret
    exact ⟨ret_bool (by rw [HAL.out, HLR.out]; rfl), rfl⟩
  | true =>
    obtain ⟨n, hnn⟩ : ∃ n, zs.length = n := ⟨_, rfl⟩
    have HNN := Lib.hid hnn
    have HAL2 : Hid (alB c zs = (List.range n).all (dvP c zs L)) := Lib.hid (by rw [HAL.out, HLR.out, ← hnn]; rfl)
    have HR2 : Hid (riB c (n:Int) = true) := Lib.hid (by rw [← hnn]; exact HR.out)
    have HCELL2 : Hid (∀ i, i < n → w.cell? ⟨b, off + i, none⟩ = some (.int .i64 (zs.getD i 0))) := Lib.hid (by rw [← hnn]; exact HCELL.out)
    have HLS2 : Hid (Calls Try.prog 70 #[.int .u64 (c : Int), .slice (some ⟨b, off, none⟩) n cap] w fun e w' => e = .returned (.tuple #[.int .i64 L, .bool true]) ∧ w = w') := Lib.hid (by
      have := HLS.out w HCELL.out
      rw [HLR.out, hnn] at this
      exact this)
    rw [hnn] at hn2 hn3 ⊢
    clear hnn HLS HCELL HR HAL HLR
    go_enter Try.func48, Try.ntmps48
    go_wp2_with (first | (go_at_call 69; refine (right_any c _ _ HC.out).mono ?_; rw [HR2.out]; rintro e w1 ⟨rfl, rfl⟩) | (go_at_call 70; refine HLS2.out.mono ?_; rintro e w1 ⟨rfl, rfl⟩))
    go_loop [7, 8, 24] (fun _ _ i => ∃ j : Nat, j ≤ n ∧ (List.range j).all (dvP c zs L) = true ∧ i = .int .i64 (j : Int)) (fun _ _ i => n - (intOf i).toNat)
    case atStart => exact ⟨0, by omega, rfl, rfl⟩
    case round =>
      obtain ⟨j, hj, hall, rfl⟩ := hrel
      have HA := Lib.hid hall
      clear hall
      by_cases hlt : j < n
      · have hcj : w.cell? ⟨b, off + j, none⟩ = some (.int .i64 (zs.getD j 0)) := HCELL2.out j hlt
        have hfd : fate c (j : Int) = ((fd c j : Nat) : Int) := by rw [fate, if_pos (by omega)]; rfl
        have hp : dvP c zs L j = (!(decide (zs.getD j 0 < L)) || fd c j == 1) := rfl
        generalize zs.getD j 0 = z at *
        generalize fd c j = d at *
        have HP := Lib.hid hp
        have HFD := Lib.hid hfd
        clear hp hfd
        by_cases hz : z < L
        · by_cases hd1 : d = 1
          · subst hd1
            go_wp2_with (go_at_call 44; refine (fate_of c _ 1 _ HC.out HFD.out).mono ?_; rintro e w1 ⟨rfl, rfl⟩)
            go_round
            case rel => exact ⟨j + 1, by omega, all_next j _ HA.out (by rw [HP.out]; simp), by go_num⟩
            case measure => simp [intOf]; omega
          · have hne : ((d:Int) != 1) = true := by simp; omega
            have hne2 : ((d:Int) == 1) = false := by simp; omega
            go_wp2_with (go_at_call 44; refine (fate_of c _ d _ HC.out HFD.out).mono ?_; rintro e w1 ⟨rfl, rfl⟩)
            go_ret
            exact ⟨ret_bool (by rw [HAL2.out, (all_upto c j n hj _ HA.out).2 hlt (by rw [HP.out]; simp [hz, hd1])]), rfl⟩
        · have hz2 : decide (z < L) = false := by simp; omega
          go_wp2
          go_round
          case rel => exact ⟨j + 1, by omega, all_next j _ HA.out (by rw [HP.out]; simp; omega), by go_num⟩
          case measure => simp [intOf]; omega
      · obtain rfl : j = n := by omega
        go_wp2
        go_ret
        exact ⟨ret_bool (by rw [HAL2.out, HA.out]), rfl⟩
theorem allowed_any (c : Nat) (zs : List Int) (v : Value) (w : World) (hc : c < 18446744073709551616) (h : IntsIn w v zs) :
    Calls Try.prog 48 #[.int .u64 (c : Int), v] w fun e w' => e = .returned (.bool (alB c zs)) ∧ w = w' := by
  rcases h with ⟨p, cap, rfl, rfl⟩ | ⟨b, off, cap, rfl, h2, h3, h4⟩
  · cases h : riB c 0 with
    | false =>
      have e : alB c [] = false := by show (riB c 0 && _) = false; rw [h]; rfl
      rw [e]
      exact allowed_no c 0 cap p w hc h
    | true =>
      have e : alB c [] = true := by show (riB c 0 && _) = true; rw [h]; rfl
      rw [e]
      exact allowed_nil c cap p w hc h
  · cases h : riB c zs.length with
    | false =>
      have e : alB c zs = false := by rw [alB, h]; rfl
      rw [e]
      exact allowed_no c _ cap _ w hc h
    | true => exact allowed_some c zs b off cap w hc h h4
end Go.Proofs.Ytpnepooobmbfbaa.cho
/- What the reference's Allowed gives. -/
namespace Go.Proofs.Ytpnepooobmbfbaa.cho
set_option maxRecDepth 100000
open Go.ChangeShapes Go.WideShapes Go.ChangeAt Go.RowKit
open Go.Proofs.Ytpnepooobmbfbaa.choMath
set_option linter.unusedVariables false

set_option maxHeartbeats 800000 in
theorem rallowed_some (c : Nat) (zs : List Int) (b off cap : Nat) (w : World) (hc : c < 18446744073709551616) (hr : riB c zs.length = true) (hb : b < w.heap.size)
    (hcell : ∀ i, i < zs.length → w.cell? ⟨b, off + i, none⟩ = some (.int .i64 (zs.getD i 0))) :
    Calls Try.prog 49 #[.int .u64 (c : Int), .slice (some ⟨b, off, none⟩) zs.length cap] w fun e w' => e = .returned (.bool (alB c zs)) ∧ Below w.heap.size w w' := by
  have hn := riB_len hr
  have hn2 : zs.length ≤ 32 := by omega
  have HAL : Hid (alB c zs = (List.range zs.length).all fun i => (List.range zs.length).all (alP c zs i)) := Lib.hid (by rw [alB, hr]; rfl)
  have HC := Lib.hid hc
  have HR := Lib.hid hr
  have HCELL := Lib.hid hcell
  clear hc hr hcell hn
  obtain ⟨n, hnn⟩ : ∃ n, zs.length = n := ⟨_, rfl⟩
  rw [hnn] at hn2 HAL HR HCELL ⊢
  clear hnn
  have hn3 : (n : Int) ≤ 32 := by omega
  go_enter Try.func49, Try.ntmps49
  go_wp2_with (first | (go_at_call 71; refine (rright_any c _ _ HC.out).mono ?_; rw [HR.out]; rintro e w1 ⟨rfl, hb1⟩) | (go_at_call 68; refine (fates_any c _ HC.out).mono ?_; rintro e w2 ⟨rfl, hb2⟩) | (refine store32 rfl _ _ rfl w2 (fl c) _ rfl rfl (fl_len c) rfl ?_))
  have hbb := below_alloc (below_trans hb1 hb2) (Obj.cells (arr (fl c)) 119)
  clear hb1 hb2
  have hhp := heap_alloc_new w2 (Obj.cells (arr (fl c)) 119)
  go_loopw [6, 7] (fun i _ wr => ∃ m : Nat, m ≤ n ∧ (List.range m).all (fun i => (List.range n).all (alP c zs i)) = true ∧ i = .int .i64 (m : Int) ∧ wr.heap[w2.heap.size]? = some (Obj.cells (arr (fl c)) 119) ∧ Below w.heap.size w wr) (fun i _ _ => n - (intOf i).toNat)
  case atStart => exact ⟨0, by omega, rfl, rfl, hhp, hbb⟩
  case round =>
    obtain ⟨m, hm, hall, rfl, hhw, hbw⟩ := hrel
    clear hbb hhp
    have HA := Lib.hid hall
    have HHW := Lib.hid hhw
    clear hall hhw
    by_cases hlt : m < n
    · go_wp2
      obtain ⟨wo, hwo⟩ : ∃ wo : World, wo = wr := ⟨_, rfl⟩
      go_loopw [7] (fun k wi => ∃ q : Nat, q ≤ n ∧ (List.range q).all (alP c zs m) = true ∧ k = .int .i64 (q : Int) ∧ wi.heap[w2.heap.size]? = some (Obj.cells (arr (fl c)) 119) ∧ Below w.heap.size w wi) (fun k _ => n - (intOf k).toNat)
      case atStart => exact ⟨0, by omega, rfl, rfl, HHW.out, hbw⟩
      case round =>
        obtain ⟨q, hq, hall, rfl, hhi, hbi⟩ := hrel
        have HAI := Lib.hid hall
        have HHI := Lib.hid hhi
        clear hall hhi
        by_cases hlq : q < n
        · have hm32 : (m:Int) < 32 := by omega
          have hq32 : (q:Int) < 32 := by omega
          have hmn : (m:Int) < n := by omega
          have hqn : (q:Int) < n := by omega
          have c1 : wr.cell? ⟨w2.heap.size, q, none⟩ = some (.int .i64 (fd c q : Int)) := by
            rw [cell_of_row wr _ q _ _ _ HHI.out, arr_get _ q (by rw [fl_len]; omega), fl_get c q (by omega)]
          have c2 : wr.cell? ⟨w2.heap.size, m, none⟩ = some (.int .i64 (fd c m : Int)) := by
            rw [cell_of_row wr _ m _ _ _ HHI.out, arr_get _ m (by rw [fl_len]; omega), fl_get c m (by omega)]
          have c3 : wr.cell? ⟨b, off + m, none⟩ = some (.int .i64 (zs.getD m 0)) := by
            rw [hbi.cell (p := ⟨b, off + m, none⟩) hb]; exact HCELL.out m hlt
          have c4 : wr.cell? ⟨b, off + q, none⟩ = some (.int .i64 (zs.getD q 0)) := by
            rw [hbi.cell (p := ⟨b, off + q, none⟩) hb]; exact HCELL.out q hlq
          have hp : alP c zs m q = (fd c q == 0 || !(decide (zs.getD m 0 < zs.getD q 0)) || fd c m == 1) := rfl
          generalize zs.getD m 0 = zi at *
          generalize zs.getD q 0 = zk at *
          generalize fd c m = di at *
          generalize fd c q = dk at *
          have HP := Lib.hid hp
          clear hp hwo
          by_cases hk0 : dk = 0
          · subst hk0
            have c1' : wr.cell? ⟨w2.heap.size, q, none⟩ = some (.int .i64 0) := c1
            clear c1
            go_wp2
            go_quiet (fail)
            go_wp2
            go_roundw
            case rel => exact ⟨q + 1, by omega, all_next q _ HAI.out (by rw [HP.out]; simp ), by go_num, HHI.out, blw_drewN hbi _⟩
            case measure => simp [intOf]; omega
          have k1 : ((dk:Int) != 0) = true := by simp; omega
          have k2 : ((dk:Int) == 0) = false := by simp; omega
          by_cases hz : zi < zk
          · by_cases hi1 : di = 1
            · subst hi1
              have c2' : wr.cell? ⟨w2.heap.size, m, none⟩ = some (.int .i64 1) := c2
              clear c2
              go_wp2
              go_quiet (fail)
              go_wp2
              go_roundw
              case rel => exact ⟨q + 1, by omega, all_next q _ HAI.out (by rw [HP.out]; simp ), by go_num, HHI.out, blw_drewN hbi _⟩
              case measure => simp [intOf]; omega
            · have k3 : ((di:Int) != 1) = true := by simp; omega
              have k4 : ((di:Int) == 1) = false := by simp; omega
              go_wp2
              go_quiet (fail)
              go_wp2
              go_ret
              have hinner := (all_upto c q n hq _ HAI.out).2 hlq (by rw [HP.out]; simp [hk0, hz, hi1])
              exact ⟨ret_bool (by rw [HAL.out, (all_upto c m n hm _ HA.out).2 hlt hinner]), blw_drewN hbi _⟩
          · have k3 : decide (zi < zk) = false := by simp; omega
            go_wp2
            go_quiet (fail)
            go_wp2
            go_roundw
            case rel => exact ⟨q + 1, by omega, all_next q _ HAI.out (by rw [HP.out]; simp [hz]), by go_num, HHI.out, blw_drewN hbi _⟩
            case measure => simp [intOf]; omega
        · obtain rfl : q = n := by omega
          go_wp2
          go_roundw
          case rel => exact ⟨m + 1, by omega, all_next m _ HA.out HAI.out, by go_num, HHI.out, hbi⟩
          case measure => simp [intOf]; omega
    · obtain rfl : m = n := by omega
      go_wp2
      go_ret
      exact ⟨ret_bool (by rw [HAL.out, HA.out]), hbw⟩
theorem rallowed_any (c : Nat) (zs : List Int) (v : Value) (w : World) (hc : c < 18446744073709551616) (h : IntsIn w v zs) :
    Calls Try.prog 49 #[.int .u64 (c : Int), v] w fun e w' => e = .returned (.bool (alB c zs)) ∧ Below w.heap.size w w' := by
  rcases h with ⟨p, cap, rfl, rfl⟩ | ⟨b, off, cap, rfl, h2, h3, h4⟩
  · cases h : riB c 0 with
    | false =>
      have e : alB c [] = false := by show (riB c 0 && _) = false; rw [h]; rfl
      rw [e]
      exact rallowed_no c 0 cap p w hc h
    | true =>
      have e : alB c [] = true := by show (riB c 0 && _) = true; rw [h]; rfl
      rw [e]
      exact rallowed_nil c cap p w hc h
  · cases h : riB c zs.length with
    | false =>
      have e : alB c zs = false := by rw [alB, h]; rfl
      rw [e]
      exact rallowed_no c _ cap _ w hc h
    | true => exact rallowed_some c zs b off cap w hc h h3 h4
end Go.Proofs.Ytpnepooobmbfbaa.cho
