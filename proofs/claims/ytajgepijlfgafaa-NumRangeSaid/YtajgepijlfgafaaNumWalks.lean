/- What the functions of package num, and the reference's, give: one contract a function. -/
import Derived.Test.YtajgepijlfgafaaRows
import Derived.Test.YtajgepijlfgafaaNumMath
import Derived.WalkKit
import Derived.ProofKit
import Derived.OpenShut
import Derived.Handy
import Derived.Deep.RegionWith
import Derived.Lib.Hide
namespace Go.Proofs.Ytajgepijlfgafaa.num
open Go.ChangeShapes Go.WideShapes Go.ChangeAt Go.RowKit
open Go.Proofs.Ytajgepijlfgafaa.numMath
set_option linter.unusedVariables false

theorem wf_i64 {n : Int} (h : (Lit.int .i64 n).wf = true) : -9223372036854775808 ≤ n ∧ n ≤ 9223372036854775807 := by
  simpa [Lit.wf, IntKind.min, IntKind.max, IntKind.signed, IntKind.bits] using h

theorem ret_int {k : IntKind} {a b : Int} (h : a = b) : Ending.returned (.int k a) = .returned (.int k b) := by rw [h]

theorem ret_str {a b : ByteArray} (h : a = b) : Ending.returned (.string a) = .returned (.string b) := by rw [h]

theorem magnitude_any (n : Int) (w : World) (h : (Lit.int .i64 n).wf = true) :
    Calls Try.prog 17 #[.int .i64 n] w fun e w' => e = .returned (.int .u64 n.natAbs) ∧ w = w' := by
  have hx := wf_i64 h
  by_cases h0 : n < 0
  · go_enter Try.func17, Try.ntmps17
    go_wp2
    go_ret
    exact ⟨ret_int (by simp only [IntKind.wrap_u64]; omega), rfl⟩
  · go_enter Try.func17, Try.ntmps17
    go_wp2
    go_ret
    exact ⟨ret_int (by omega), rfl⟩

theorem conv_row (w : World) (s len : Nat) (l : List UInt8) (hl : l.length = len) :
    (convert 34 9 (.slice (some ⟨w.heap.size, s, none⟩) len len)).run Try.prog (w.alloc (Obj.cells (row s l) 31)) = .ok (.string ⟨l.toArray⟩) (w.alloc (Obj.cells (row s l) 31)) := by
  have h := run_convert_bytes_arg (P := Try.prog) (w.alloc (Obj.cells (row s l) 31)) 34 5 Try.underlying34 Try.underlying5 w.heap.size s len len (l.map fun c => (c.toNat : Int)) (by simpa using hl) ?_ 9 Try.underlying9
  · rw [h]
    congr 2
    simp only [strOfNums, List.map_map]
    congr 2
    rw [List.map_congr_left (g := id) (fun a _ => by simp)]
    simp
  · intro i hi
    rw [World.cell?_alloc_new]
    simp only [row, List.map_append, List.map_replicate, List.getElem?_toArray]
    rw [List.getElem?_append_right (by simp)]
    simp [List.getD, List.getElem?_eq_getElem (show i < l.length by omega)]

theorem digits_any (n : Int) (w : World) (h : (Lit.int .i64 n).wf = true) :
    Calls Try.prog 9 #[.int .i64 n] w fun e w' => e = .returned (.string (digS n)) ∧ Below w.heap.size w w' := by
  have hx := wf_i64 h
  have hm : n.natAbs ≤ 9223372036854775808 := by omega
  go_enter Try.func9, Try.ntmps9
  go_wp2_with (go_at_call 17; refine (magnitude_any _ _ h).mono ?_; rintro e w' ⟨rfl, rfl⟩)
  go_loopw [4, 5] (fun st rs wr => ∃ (s r : Nat) (l : List UInt8), Inv n.natAbs s r l ∧ st = .int .i64 s ∧ rs = .int .u64 r ∧ wr = w.alloc (Obj.cells (row s l) 31)) (fun st _ _ => (intOf st).toNat)
  case atStart => exact ⟨20, n.natAbs, [], Inv.first _, rfl, rfl, rfl⟩
  case round =>
    obtain ⟨s, r, l, hI, rfl, rfl, rfl⟩ := hrel
    by_cases hc : 0 < r ∨ s = 20
    · have hN := Lib.hid (hI.next hm hc)
      have hs2 : (2:Int) ≤ s := by have := hI.low hm hc; omega
      have hs20 : (s:Int) ≤ 20 := by have := hI.len; omega
      have hat : (row s l)[s - 1]? = some (.int .u8 0) := row_at s (s-1) l (by omega)
      have hr : (r:Int) ≤ 9223372036854775808 := by have := hI.low_r; omega
      have HS := fun c => Lib.hid (row_set s c l (by omega))
      go_wp2
      · have hr0 : r = 0 := by assumption
        subst hr0
        refine ⟨⟨s - 1, 0, _, by simpa using hN.out, by go_num, rfl, ?_⟩, by simp [intOf]; omega⟩
        rw [← (HS _).out]; rfl
      · refine ⟨⟨s - 1, r / 10, _, hN.out, by go_num, by go_num, ?_⟩, by simp [intOf]; omega⟩
        rw [← (HS _).out, dig_byte]
    · have hs1 : (1:Int) ≤ s := by have := hI.pos; omega
      have hs20 : (s:Int) < 20 := by have := hI.len; omega
      have hat : (row s l)[s - 1]? = some (.int .u8 0) := row_at s (s-1) l (by omega)
      have hset : (row s l).setIfInBounds (s - 1) (.int .u8 45) = row (s - 1) (45 :: l) := row_set s 45 l (by omega)
      have hlen : l.length = 20 - s := by have := hI.len; omega
      have hv := conv_row w s (20 - s) l hlen
      have hv1 := conv_row w (s - 1) (20 - (s - 1)) (45 :: l) (by have := hI.len; simp; omega)
      have hd := Lib.hid (hI.last (by omega) (by omega))
      clear hlen
      have h1 : (s:Int) ≤ 20 := by omega
      have h2 : (s:Int) - 1 ≤ 20 := by omega
      have h2' : (s:Int) ≤ 21 := by omega
      have h3 : 20 ≠ s := by omega
      have h4 : 20 ≠ s - 1 := by omega
      go_wp2
      all_goals go_ret
      all_goals refine ⟨ret_str ?_, (Below.refl _ _).alloc (Nat.le_refl _) _⟩
      · have hn : n < 0 := by assumption
        rw [digS, digI, if_pos hn, hd.out]
      · have hn : 0 ≤ n := by assumption
        rw [digS, digI, if_neg (by omega), hd.out]
theorem bcell {W w1 : World} (hb : Below W.heap.size W w1) : (∀ b o, b < W.heap.size → w1.cell? ⟨b, o, none⟩ = W.cell? ⟨b, o, none⟩) ∧ (∀ b o, b < W.heap.size → w1.frozen? ⟨b, o, none⟩ = W.frozen? ⟨b, o, none⟩) :=
  ⟨fun b o h => hb.cell (p := ⟨b, o, none⟩) h, fun b o h => hb.frozen (p := ⟨b, o, none⟩) h⟩

theorem below_alloc {a w : World} (h : Below a.heap.size a w) (o : Obj) : Below a.heap.size a (w.alloc o) := h.alloc h.size o
theorem below_trans {a b c : World} (h : Below a.heap.size a b) (k : Below b.heap.size b c) : Below a.heap.size a c := h.trans (k.mono h.size)

theorem conv_one (w : World) (b : Nat) (c : Int) (hc : w.cell? ⟨b, 0, none⟩ = some (.int .u8 c)) :
    (convert 34 9 (.slice (some ⟨b, 0, none⟩) 1 1)).run Try.prog w = .ok (.string ⟨#[UInt8.ofNat c.toNat]⟩) w := by
  have h := run_convert_bytes_arg (P := Try.prog) w 34 5 Try.underlying34 Try.underlying5 b 0 1 1 [c] rfl ?_ 9 Try.underlying9
  · rw [h]; rfl
  · intro i hi
    obtain rfl : i = 0 := by omega
    exact hc

theorem append_bytes (x : List UInt8) (y : Array UInt8) : (ByteArray.mk x.toArray ++ ByteArray.mk y) = ByteArray.mk (x ++ y.toList).toArray := by
  have := ByteArray.mk_append_mk x y.toList
  simpa using this

set_option maxHeartbeats 400000 in
theorem rdigits_low (k : Nat) (ih : ∀ (n : Int) (w : World), n.natAbs ≤ k → (Lit.int .i64 n).wf = true → Calls Try.prog 10 #[.int .i64 n] w fun e w' => e = .returned (.string (digS n)) ∧ Below w.heap.size w w') (n : Int) (w : World) (hk : n.natAbs ≤ k + 1) (h : (Lit.int .i64 n).wf = true) (h2 : n ≤ -10) :
    Calls Try.prog 10 #[.int .i64 n] w fun e w' => e = .returned (.string (digS n)) ∧ Below w.heap.size w w' := by
  have c1 := conv_one
  have hx := wf_i64 h
  have hq : -922337203685477580 ≤ n.tdiv 10 ∧ n.tdiv 10 < 0 ∧ (n.tdiv 10).natAbs ≤ k := by rw [tdiv_neg10]; omega
  have hm : -9 ≤ n.tmod 10 ∧ n.tmod 10 ≤ 0 := by rw [tmod_neg10]; omega
  obtain ⟨q1, q2, q3⟩ := hq
  obtain ⟨m1, m2⟩ := hm
  have q4 : (Lit.int .i64 (n.tdiv 10)).wf = true := by simp [Lit.wf, IntKind.min, IntKind.max, IntKind.signed, IntKind.bits]; omega
  have hz := digS_size (n.tdiv 10)
  have z1 : (digS (n.tdiv 10)).size ≤ 9223372036854775806 := by omega
  have z2 : (digS (n.tdiv 10)).size + 1 ≤ 9223372036854775807 := by omega
  clear hz
  have e1 : IntKind.i64.wrap (n.tdiv 10) = n.tdiv 10 := IntWalk.i64_in _ (by omega)
  have e2 : IntKind.i64.wrap (48 - n.tmod 10) = 48 - n.tmod 10 := IntWalk.i64_in _ (by omega)
  have e3 : IntKind.u8.wrap (48 - n.tmod 10) = 48 - n.tmod 10 := IntWalk.u8_in _ (by omega)
  have h1 : n < 0 := by omega
  go_enter Try.func10, Try.ntmps10
  go_wp2
  go_region_with (go_at_call 10; (with_reducible refine (ih _ _ q3 q4).mono ?_); rintro e w' ⟨rfl, hb⟩; obtain ⟨b1, b2⟩ := bcell hb)
  all_goals go_wp2
  all_goals go_ret
  all_goals
    refine ⟨ret_str ?_, ?_⟩
    · rw [digS, digS, digI_low h2, append_bytes]
    · first | exact below_alloc (below_trans (Below.refl _ _).drew hb) _ | exact below_trans (below_alloc (Below.refl _ _).drew _) hb

set_option maxHeartbeats 400000 in
theorem rdigits_big (k : Nat) (ih : ∀ (n : Int) (w : World), n.natAbs ≤ k → (Lit.int .i64 n).wf = true → Calls Try.prog 10 #[.int .i64 n] w fun e w' => e = .returned (.string (digS n)) ∧ Below w.heap.size w w') (n : Int) (w : World) (hk : n.natAbs ≤ k + 1) (h : (Lit.int .i64 n).wf = true) (h2 : 9 < n) :
    Calls Try.prog 10 #[.int .i64 n] w fun e w' => e = .returned (.string (digS n)) ∧ Below w.heap.size w w' := by
  have c1 := conv_one
  have hx := wf_i64 h
  have hq : 0 ≤ n / 10 ∧ n / 10 ≤ 922337203685477580 ∧ (n / 10).natAbs ≤ k := by omega
  have hm : 0 ≤ n % 10 ∧ n % 10 ≤ 9 := by omega
  obtain ⟨q1, q2, q3⟩ := hq
  obtain ⟨m1, m2⟩ := hm
  have q4 : (Lit.int .i64 (n / 10)).wf = true := by simp [Lit.wf, IntKind.min, IntKind.max, IntKind.signed, IntKind.bits]; omega
  have hz := digS_size (n / 10)
  have z1 : (digS (n / 10)).size ≤ 9223372036854775806 := by omega
  have z2 : (digS (n / 10)).size + 1 ≤ 9223372036854775807 := by omega
  clear hz
  have t1 : n.tdiv 10 = n / 10 := Int.tdiv_eq_ediv_of_nonneg (by omega)
  have t2 : n.tmod 10 = n % 10 := Int.tmod_eq_emod_of_nonneg (by omega)
  have e1 : IntKind.i64.wrap (n / 10) = n / 10 := IntWalk.i64_in _ (by omega)
  have e2 : IntKind.i64.wrap (48 + n % 10) = 48 + n % 10 := IntWalk.i64_in _ (by omega)
  have e3 : IntKind.u8.wrap (48 + n % 10) = 48 + n % 10 := IntWalk.u8_in _ (by omega)
  have h1 : ¬ n < 0 := by omega
  go_enter Try.func10, Try.ntmps10
  go_wp2
  go_region_with (go_at_call 10; (with_reducible refine (ih _ _ q3 q4).mono ?_); rintro e w' ⟨rfl, hb⟩; obtain ⟨b1, b2⟩ := bcell hb)
  all_goals go_wp2
  all_goals go_ret
  all_goals
    refine ⟨ret_str ?_, ?_⟩
    · rw [digS, digS, digI_big h2, append_bytes]
    · first | exact below_alloc (below_trans (Below.refl _ _).drew hb) _ | exact below_trans (below_alloc (Below.refl _ _).drew _) hb

theorem rdigits_any : ∀ (k : Nat) (n : Int) (w : World) (hk : n.natAbs ≤ k) (h : (Lit.int .i64 n).wf = true),
    Calls Try.prog 10 #[.int .i64 n] w fun e w' => e = .returned (.string (digS n)) ∧ Below w.heap.size w w' := by
  have c1 := conv_one
  intro k
  induction k with
  | zero =>
    intro n w hk h
    obtain rfl : n = 0 := by omega
    go_enter Try.func10, Try.ntmps10
    go_wp2
    go_ret
    refine ⟨ret_str ?_, (Below.refl _ _).alloc (Nat.le_refl _) _⟩
    rw [digS, digI_small (by omega) (by omega)]
    rfl
  | succ k ih =>
    intro n w hk h
    have hx := wf_i64 h
    by_cases h1 : n < 0
    · by_cases h2 : -10 < n
      · clear ih
        go_enter Try.func10, Try.ntmps10
        go_wp2
        go_ret
        refine ⟨ret_str ?_, (Below.refl _ _).alloc (Nat.le_refl _) _⟩
        rw [digS, digI_neg (by omega) (by omega)]
        rfl
      · exact rdigits_low k ih n w hk h (by omega)
    · by_cases h2 : 9 < n
      · exact rdigits_big k ih n w hk h h2
      · clear ih
        go_enter Try.func10, Try.ntmps10
        go_wp2
        go_ret
        refine ⟨ret_str ?_, (Below.refl _ _).alloc (Nat.le_refl _) _⟩
        rw [digS, digI_small (by omega) (by omega)]
end Go.Proofs.Ytajgepijlfgafaa.num
