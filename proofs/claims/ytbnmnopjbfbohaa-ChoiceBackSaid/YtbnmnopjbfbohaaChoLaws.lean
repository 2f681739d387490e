/- The fixed examples of layer 2, and the walks of three of its laws. -/
import Derived.Test.YtbnmnopjbfbohaaChoJ
import Derived.Outline
namespace Go.Proofs.Ytbnmnopjbfbohaa.cho
open Go.ChangeShapes Go.WideShapes Go.ChangeAt Go.RowKit
open Go.Proofs.Ytbnmnopjbfbohaa.choMath
set_option linter.unusedVariables false

theorem wf_i64 {n : Int} (h : (Lit.int .i64 n).wf = true) : -9223372036854775808 ≤ n ∧ n ≤ 9223372036854775807 := by
  simpa [Lit.wf, IntKind.min, IntKind.max, IntKind.signed, IntKind.bits] using h
theorem wf_u64 {n : Int} (h : (Lit.int .u64 n).wf = true) : ∃ c : Nat, n = (c : Int) ∧ c < 18446744073709551616 := by
  have h2 : 0 ≤ n ∧ n ≤ 18446744073709551615 := by simpa [Lit.wf, IntKind.min, IntKind.max, IntKind.signed, IntKind.bits] using h
  obtain ⟨c, rfl⟩ := Int.eq_ofNat_of_zero_le h2.1
  exact ⟨c, rfl, by omega⟩
theorem ints01 (w : World) (g : Nat) (hg : w.heap.size = g) : IntsIn (w.alloc (.cells #[.int .i64 0, .int .i64 1] 3)) (.slice (some ⟨g, 0, none⟩) 2 2) [0, 1] := by
  subst hg
  refine Or.inr ⟨w.heap.size, 0, 2, rfl, by decide, by simp, ?_⟩
  intro i hi
  rw [World.cell?_alloc_new]
  match i, hi with
  | 0, _ => rfl
  | 1, _ => rfl
  | i + 2, hi => exact absurd hi (by simp)
theorem show_eq (c : Nat) (n : Int) (s : ByteArray) (w : World) (hc : c < 18446744073709551616) (h : sh c n = s) :
    Calls Try.prog 24 #[.int .u64 (c : Int), .int .i64 n] w fun e w' => e = .returned (.string s) ∧ Below w.heap.size w w' := by subst h; exact show_any c n w hc
theorem count_eq (n : Int) (t : Bool) (a : Int) (w : World) (h : (cnt n t : Int) = a) :
    Calls Try.prog 16 #[.int .i64 n, .bool t] w fun e w' => e = .returned (.int .u64 a) ∧ w = w' := by subst h; exact count_any n t w
theorem right_eq (c : Nat) (n : Int) (b : Bool) (w : World) (hc : c < 18446744073709551616) (h : riB c n = b) :
    Calls Try.prog 11 #[.int .u64 (c : Int), .int .i64 n] w fun e w' => e = .returned (.bool b) ∧ w = w' := by subst h; exact right_any c n w hc
theorem allowed_eq (c : Nat) (zs : List Int) (v : Value) (b : Bool) (w : World) (hc : c < 18446744073709551616) (h : IntsIn w v zs) (hb : alB c zs = b) :
    Calls Try.prog 22 #[.int .u64 (c : Int), v] w fun e w' => e = .returned (.bool b) ∧ w = w' := by subst hb; exact allowed_any c zs v w hc h

theorem knows_any (w : World) : Calls Try.prog 13 #[] w fun e w' => e = .returned (.bool true) ∧ Below w.heap.size w w' := by
  have k1 := Lib.hid (show sh 6 2 = ⟨#[116, 107]⟩ by decide)
  have k2 := Lib.hid (show fate 6 0 = 2 by decide)
  have k3 := Lib.hid (show (cnt 3 true : Int) = 27 by decide)
  have k4 := Lib.hid (show alB 1 [0, 1] = true by decide)
  have k5 := Lib.hid (show alB 4 [0, 1] = false by decide)
  have k6 := Lib.hid (show riB 6 2 = true by decide)
  go_enter Try.func13, Try.ntmps13
  go_wp2_with (go_at_call 24; refine (show_eq 6 2 _ _ (by decide) k1.out).mono ?_; rintro e w1 ⟨rfl, hb1⟩)
  go_wp2_with (first | (go_at_call 7; refine (fate_of 6 0 2 _ (by decide) k2.out).mono ?_; rintro e w2 ⟨rfl, rfl⟩) | (go_at_call 16; refine (count_eq 3 true 27 _ k3.out).mono ?_; rintro e w2 ⟨rfl, rfl⟩) | (go_at_call 11; refine (right_eq 6 2 true _ (by decide) k6.out).mono ?_; rintro e w2 ⟨rfl, rfl⟩))
  refine (allowed_eq 1 [0, 1] _ true _ (by decide) (ints01 w1 _ rfl) k4.out).mono ?_
  rintro e w2 ⟨rfl, rfl⟩
  go_wp2_with fail
  have hz : (w1.alloc (.cells #[.int .i64 0, .int .i64 1] 3)).heap.size = w1.heap.size + 1 := by simp
  refine (allowed_eq 4 [0, 1] _ false _ (by decide) (ints01 _ _ hz) k5.out).mono ?_
  rintro e w2 ⟨rfl, rfl⟩
  go_wp2_with (go_at_call 11; refine (right_eq 6 2 true _ (by decide) k6.out).mono ?_; rintro e w2 ⟨rfl, rfl⟩)
  go_ret
  exact ⟨rfl, below_alloc (below_alloc hb1 _) _⟩

set_option maxHeartbeats 800000 in
theorem walkChoiceFates (a0 : Int) (w0 : (Lit.int .u64 a0).wf = true) (a1 : Int) (w1 : (Lit.int .i64 a1).wf = true) (a2 : Int) (w2 : (Lit.int .i64 a2).wf = true) (a3 : Int) (w3 : (Lit.int .i64 a3).wf = true) (w : World) :
    Calls Try.prog 3 #[.int .u64 a0, .int .i64 a1, .int .i64 a2, .int .i64 a3] w fun e w' => e = .returned (.bool true) ∧ Below w.heap.size w w' := by
  obtain ⟨c, rfl, hc⟩ := wf_u64 w0
  have HC := Lib.hid hc
  have HK : Hid ((0:Nat) < 18446744073709551616) := Lib.hid (by decide)
  obtain ⟨k, hk⟩ : ∃ k : Nat, k = 0 := ⟨0, rfl⟩
  rw [← hk] at HK
  clear hc hk w0 w1 w2 w3
  go_enter Try.func3, Try.ntmps3
  go_wp2_with (first
    | (go_at_call 13; refine (knows_any _).mono ?_; rintro e w' ⟨rfl, hb⟩)
    | (go_at_call 7; refine (fate_any c _ _ HC.out).mono ?_; rintro e w' ⟨rfl, rfl⟩)
    | (go_at_call 8; refine (rfate_any c _ _ HC.out).mono ?_; rintro e w' ⟨rfl, hb⟩)
    | (go_at_call 9; refine (with_any c _ _ _ HC.out).mono ?_; rintro e w' ⟨rfl, hb⟩)
    | (go_at_call 10; refine (rwith_any c _ _ _ HC.out).mono ?_; rintro e w' ⟨rfl, hb⟩)
    | (go_at_call 11; refine (right_any c _ _ HC.out).mono ?_; rintro e w' ⟨rfl, rfl⟩)
    | (go_at_call 12; refine (rright_any c _ _ HC.out).mono ?_; rintro e w' ⟨rfl, hb⟩)
    | (go_at_call 16; refine (count_any _ _ _).mono ?_; rintro e w' ⟨rfl, rfl⟩)
    | (go_at_call 17; refine (rcount_any _ _ _).mono ?_; rintro e w' ⟨rfl, rfl⟩)
    | (go_at_call 18; refine (nth_any k _ _ _ HK.out).mono ?_; rintro e w' ⟨rfl, hb⟩)
    | (go_at_call 19; refine (rnth_any k _ _ _ HK.out).mono ?_; rintro e w' ⟨rfl, hb⟩)
    | (go_at_call 14; refine (rank_any c _ _ _ HC.out).mono ?_; rintro e w' ⟨rfl, rfl⟩)
    | (go_at_call 15; refine (rrank_any c _ _ _ HC.out).mono ?_; rintro e w' ⟨rfl, hb⟩))
  all_goals go_ret
  all_goals
    refine ⟨rfl, ?_⟩
    repeat (first | assumption | refine below_trans ?_ (by assumption))

set_option maxHeartbeats 800000 in
theorem walkChoiceOrder (a0 : Int) (w0 : (Lit.int .u64 a0).wf = true) (a1 : Int) (w1 : (Lit.int .u64 a1).wf = true) (a2 : Int) (w2 : (Lit.int .i64 a2).wf = true) (a3 : Bool) (w : World) :
    Calls Try.prog 4 #[.int .u64 a0, .int .u64 a1, .int .i64 a2, .bool a3] w fun e w' => e = .returned (.bool true) ∧ Below w.heap.size w w' := by
  obtain ⟨k, rfl, hk⟩ := wf_u64 w0
  obtain ⟨c, rfl, hc⟩ := wf_u64 w1
  have HC := Lib.hid hc
  have HK := Lib.hid hk
  clear hc hk w0 w1 w2
  go_enter Try.func4, Try.ntmps4
  go_wp2_with (first
    | (go_at_call 13; refine (knows_any _).mono ?_; rintro e w' ⟨rfl, hb⟩)
    | (go_at_call 7; refine (fate_any c _ _ HC.out).mono ?_; rintro e w' ⟨rfl, rfl⟩)
    | (go_at_call 8; refine (rfate_any c _ _ HC.out).mono ?_; rintro e w' ⟨rfl, hb⟩)
    | (go_at_call 9; refine (with_any c _ _ _ HC.out).mono ?_; rintro e w' ⟨rfl, hb⟩)
    | (go_at_call 10; refine (rwith_any c _ _ _ HC.out).mono ?_; rintro e w' ⟨rfl, hb⟩)
    | (go_at_call 11; refine (right_any c _ _ HC.out).mono ?_; rintro e w' ⟨rfl, rfl⟩)
    | (go_at_call 12; refine (rright_any c _ _ HC.out).mono ?_; rintro e w' ⟨rfl, hb⟩)
    | (go_at_call 16; refine (count_any _ _ _).mono ?_; rintro e w' ⟨rfl, rfl⟩)
    | (go_at_call 17; refine (rcount_any _ _ _).mono ?_; rintro e w' ⟨rfl, rfl⟩)
    | (go_at_call 18; refine (nth_any k _ _ _ HK.out).mono ?_; rintro e w' ⟨rfl, hb⟩)
    | (go_at_call 19; refine (rnth_any k _ _ _ HK.out).mono ?_; rintro e w' ⟨rfl, hb⟩)
    | (go_at_call 14; refine (rank_any c _ _ _ HC.out).mono ?_; rintro e w' ⟨rfl, rfl⟩)
    | (go_at_call 15; refine (rrank_any c _ _ _ HC.out).mono ?_; rintro e w' ⟨rfl, hb⟩))
  all_goals go_ret
  all_goals
    refine ⟨rfl, ?_⟩
    repeat (first | assumption | refine below_trans ?_ (by assumption))
end Go.Proofs.Ytbnmnopjbfbohaa.cho
