/- The sums, the bounds and the fixed examples of layer 1. -/
import Derived.Test.YtajgepijlfgafaaRows
import Derived.Test.YtajgepijlfgafaaNumMath
import Derived.Test.YtajgepijlfgafaaNumWalks
import Derived.Test.YtajgepijlfgafaaNumRead
import Derived.WalkKit
import Derived.ProofKit
import Derived.OpenShut
import Derived.Handy
import Derived.Lib.Hide
namespace Go.Proofs.Ytajgepijlfgafaa.num
open Go.ChangeShapes Go.WideShapes Go.ChangeAt Go.RowKit
open Go.Proofs.Ytajgepijlfgafaa.numMath
set_option linter.unusedVariables false

theorem clamp_any (n : Int) (w : World) :
    Calls Try.prog 18 #[.int .i64 n] w fun e w' => e = .returned (.int .i64 (cl n)) ∧ w = w' := by
  go_enter Try.func18, Try.ntmps18
  go_wp2
  all_goals
    go_ret
    exact ⟨ret_int (by unfold cl; omega), rfl⟩
theorem in_any (n : Int) (w : World) :
    Calls Try.prog 19 #[.int .i64 n] w fun e w' => e = .returned (.int .i64 (cl n)) ∧ w = w' := by
  go_enter Try.func19, Try.ntmps19
  go_wp2
  all_goals
    go_ret
    exact ⟨ret_int (by unfold cl; omega), rfl⟩

theorem add_any (a b : Int) (w : World) :
    Calls Try.prog 11 #[.int .i64 a, .int .i64 b] w fun e w' => e = .returned (.int .i64 (cl (cl a + cl b))) ∧ w = w' := by
  have ha1 := (cl_in a).1
  have ha2 := (cl_in a).2
  have hb1 := (cl_in b).1
  have hb2 := (cl_in b).2
  go_enter Try.func11, Try.ntmps11
  go_wp2_with (go_at_call 18; refine (clamp_any _ _).mono ?_; rintro e w' ⟨rfl, rfl⟩)
  go_ret
  exact ⟨rfl, rfl⟩
theorem sub_any (a b : Int) (w : World) :
    Calls Try.prog 13 #[.int .i64 a, .int .i64 b] w fun e w' => e = .returned (.int .i64 (cl (cl a - cl b))) ∧ w = w' := by
  have ha1 := (cl_in a).1
  have ha2 := (cl_in a).2
  have hb1 := (cl_in b).1
  have hb2 := (cl_in b).2
  go_enter Try.func13, Try.ntmps13
  go_wp2_with (go_at_call 18; refine (clamp_any _ _).mono ?_; rintro e w' ⟨rfl, rfl⟩)
  go_ret
  exact ⟨rfl, rfl⟩
theorem radd_any (a b : Int) (w : World) :
    Calls Try.prog 12 #[.int .i64 a, .int .i64 b] w fun e w' => e = .returned (.int .i64 (cl (cl a + cl b))) ∧ w = w' := by
  have ha1 := (cl_in a).1
  have ha2 := (cl_in a).2
  have hb1 := (cl_in b).1
  have hb2 := (cl_in b).2
  go_enter Try.func12, Try.ntmps12
  go_wp2_with (go_at_call 19; refine (in_any _ _).mono ?_; rintro e w' ⟨rfl, rfl⟩)
  go_ret
  exact ⟨rfl, rfl⟩
theorem rsub_any (a b : Int) (w : World) :
    Calls Try.prog 14 #[.int .i64 a, .int .i64 b] w fun e w' => e = .returned (.int .i64 (cl (cl a - cl b))) ∧ w = w' := by
  have ha1 := (cl_in a).1
  have ha2 := (cl_in a).2
  have hb1 := (cl_in b).1
  have hb2 := (cl_in b).2
  go_enter Try.func14, Try.ntmps14
  go_wp2_with (go_at_call 19; refine (in_any _ _).mono ?_; rintro e w' ⟨rfl, rfl⟩)
  go_ret
  exact ⟨rfl, rfl⟩
theorem narrow_any (n l h : Int) (w : World) :
    Calls Try.prog 15 #[.int .i64 n, .int .i64 l, .int .i64 h] w fun e w' => e = .returned (.int .i64 (nw n l h)) ∧ w = w' := by
  go_enter Try.func15, Try.ntmps15
  go_wp2
  all_goals
    go_ret
    exact ⟨ret_int (by unfold nw; omega), rfl⟩
theorem rnarrow_any (n l h : Int) (w : World) :
    Calls Try.prog 16 #[.int .i64 n, .int .i64 l, .int .i64 h] w fun e w' => e = .returned (.int .i64 (nw n l h)) ∧ w = w' := by
  go_enter Try.func16, Try.ntmps16
  go_wp2
  all_goals
    go_ret
    exact ⟨ret_int (by unfold nw; omega), rfl⟩

theorem knows_any (w : World) : Calls Try.prog 6 #[] w fun e w' => e = .returned (.bool true) ∧ Below w.heap.size w w' := by
  have k1 : rN [49, 50, 48] = 120 := by decide
  have k2 : rB [49, 50, 48] = true := by decide
  have k3 : cl (cl 1000000000000 + cl 1) = 1000000000000 := by decide
  have k4 : nw 9 1 5 = 5 := by decide
  have k5 : digS (-45) = ⟨#[45, 52, 53]⟩ := by rw [digS, digI_low (by omega), digI_neg (by decide) (by decide)]; rfl
  go_enter Try.func6, Try.ntmps6
  go_wp2_with (first
    | (go_at_call 7; refine (read_any _ _ (by decide)).mono ?_; rintro e w' ⟨rfl, rfl⟩)
    | (go_at_call 11; refine (add_any _ _ _).mono ?_; rintro e w' ⟨rfl, rfl⟩)
    | (go_at_call 15; refine (narrow_any _ _ _ _).mono ?_; rintro e w' ⟨rfl, rfl⟩)
    | (go_at_call 9; refine (digits_any _ _ (by decide)).mono ?_; rintro e w' ⟨rfl, hb⟩))
  go_ret
  exact ⟨rfl, hb⟩

theorem read_digS (n : Int) : ((0 ≤ n ∧ n ≤ 1000000000000 → rN (digS n).data.toList = n) ∧ (¬ (0 ≤ n ∧ n ≤ 1000000000000) → rN (digS n).data.toList = 0)) ∧
    ((0 ≤ n ∧ n ≤ 1000000000000 → rB (digS n).data.toList = true) ∧ (¬ (0 ≤ n ∧ n ≤ 1000000000000) → rB (digS n).data.toList = false)) := by
  have e : (digS n).data.toList = digI n := rfl
  rw [e, rN, rB, readV_digI]
  by_cases h : 0 ≤ n ∧ n ≤ 1000000000000
  · rw [if_pos h]
    refine ⟨⟨fun _ => ?_, fun hn => absurd h hn⟩, fun _ => rfl, fun hn => absurd h hn⟩
    show ((n.toNat : Nat) : Int) = n
    omega
  · rw [if_neg h]
    exact ⟨⟨fun hn => absurd hn h, fun _ => rfl⟩, fun hn => absurd hn h, fun _ => rfl⟩
theorem read_back (s : ByteArray) : (∃ m : Nat, rN s.data.toList = (m : Int) ∧ rB s.data.toList = true ∧ digS (m : Int) = s ∧ (Lit.int .i64 (m : Int)).wf = true) ∨ (rN s.data.toList = 0 ∧ rB s.data.toList = false) := by
  cases h : readV s.data.toList with
  | none => exact Or.inr ⟨by rw [rN, h]; rfl, by rw [rB, h]; rfl⟩
  | some m =>
    refine Or.inl ⟨m, by rw [rN, h]; rfl, by rw [rB, h]; rfl, ?_, ?_⟩
    · rw [digS, digI_readV h]
    · have : m ≤ 1000000000000 := by
        unfold readV at h
        split at h
        · cases h
        · split at h
          · cases h
          · simp at h; omega
      simp [Lit.wf, IntKind.min, IntKind.max, IntKind.signed, IntKind.bits]; omega

theorem walkNumRange (a0 : Int) (w0 : (Lit.int .i64 a0).wf = true) (a1 : Int) (w1 : (Lit.int .i64 a1).wf = true) (a2 : Int) (w2 : (Lit.int .i64 a2).wf = true) (a3 : Int) (w3 : (Lit.int .i64 a3).wf = true) (w : World) :
    Calls Try.prog 4 #[.int .i64 a0, .int .i64 a1, .int .i64 a2, .int .i64 a3] w fun e w' => e = .returned (.bool true) ∧ Below w.heap.size w w' := by
  go_enter Try.func4, Try.ntmps4
  go_wp2_with (first
    | (go_at_call 6; refine (knows_any _).mono ?_; rintro e w' ⟨rfl, hb⟩)
    | (go_at_call 7; refine (read_any _ _ (by first | assumption | omega)).mono ?_; rintro e w' ⟨rfl, rfl⟩)
    | (go_at_call 8; refine (rread_any _ _ (by first | assumption | omega)).mono ?_; rintro e w' ⟨rfl, rfl⟩)
    | (go_at_call 11; refine (add_any _ _ _).mono ?_; rintro e w' ⟨rfl, rfl⟩)
    | (go_at_call 13; refine (sub_any _ _ _).mono ?_; rintro e w' ⟨rfl, rfl⟩)
    | (go_at_call 12; refine (radd_any _ _ _).mono ?_; rintro e w' ⟨rfl, rfl⟩)
    | (go_at_call 14; refine (rsub_any _ _ _).mono ?_; rintro e w' ⟨rfl, rfl⟩)
    | (go_at_call 15; refine (narrow_any _ _ _ _).mono ?_; rintro e w' ⟨rfl, rfl⟩)
    | (go_at_call 16; refine (rnarrow_any _ _ _ _).mono ?_; rintro e w' ⟨rfl, rfl⟩)
    | (go_at_call 9; refine (digits_any _ _ (by assumption)).mono ?_; rintro e w' ⟨rfl, hb⟩)
    | (go_at_call 10; refine (rdigits_any _ _ _ (Nat.le_refl _) (by assumption)).mono ?_; rintro e w' ⟨rfl, hb⟩))
  go_ret
  exact ⟨rfl, hb⟩

theorem walkNumTexts (a0 : Int) (w0 : (Lit.int .i64 a0).wf = true) (a1 : ByteArray) (w1 : a1.size ≤ maxLen) (w : World) :
    Calls Try.prog 3 #[.int .i64 a0, .string a1] w fun e w' => e = .returned (.bool true) ∧ Below w.heap.size w w' := by
  have hw1 : a1.size ≤ 9223372036854775807 := w1
  go_enter Try.func3, Try.ntmps3
  go_wp2_with (first
    | (go_at_call 6; refine (knows_any _).mono ?_; rintro e w' ⟨rfl, hb⟩)
    | (go_at_call 7; refine (read_any _ _ (by first | assumption | omega)).mono ?_; rintro e w' ⟨rfl, rfl⟩)
    | (go_at_call 8; refine (rread_any _ _ (by first | assumption | omega)).mono ?_; rintro e w' ⟨rfl, rfl⟩)
    | (go_at_call 11; refine (add_any _ _ _).mono ?_; rintro e w' ⟨rfl, rfl⟩)
    | (go_at_call 13; refine (sub_any _ _ _).mono ?_; rintro e w' ⟨rfl, rfl⟩)
    | (go_at_call 12; refine (radd_any _ _ _).mono ?_; rintro e w' ⟨rfl, rfl⟩)
    | (go_at_call 14; refine (rsub_any _ _ _).mono ?_; rintro e w' ⟨rfl, rfl⟩)
    | (go_at_call 15; refine (narrow_any _ _ _ _).mono ?_; rintro e w' ⟨rfl, rfl⟩)
    | (go_at_call 16; refine (rnarrow_any _ _ _ _).mono ?_; rintro e w' ⟨rfl, rfl⟩)
    | (go_at_call 9; refine (digits_any _ _ (by assumption)).mono ?_; rintro e w' ⟨rfl, hb⟩)
    | (go_at_call 10; refine (rdigits_any _ _ _ (Nat.le_refl _) (by assumption)).mono ?_; rintro e w' ⟨rfl, hb⟩))
  all_goals go_ret
  all_goals
    refine ⟨rfl, ?_⟩
    repeat (first | assumption | refine below_trans ?_ (by assumption))

theorem walkNumBack (a0 : Int) (w0 : (Lit.int .i64 a0).wf = true) (a1 : ByteArray) (w1 : a1.size ≤ maxLen) (a2 : Int) (w2 : (Lit.int .i64 a2).wf = true) (w : World) :
    Calls Try.prog 5 #[.int .i64 a0, .string a1, .int .i64 a2] w fun e w' => e = .returned (.bool true) ∧ Below w.heap.size w w' := by
  have hw1 : a1.size ≤ 9223372036854775807 := w1
  by_cases hl : 200 < a1.size
  · have hl' : decide (200 < (a1.size : Int)) = true := by simp; omega
    go_enter Try.func5, Try.ntmps5
    go_wp2_with (first
    | (go_at_call 6; refine (knows_any _).mono ?_; rintro e w' ⟨rfl, hb⟩)
    | (go_at_call 7; refine (read_any _ _ (by first | assumption | omega)).mono ?_; rintro e w' ⟨rfl, rfl⟩)
    | (go_at_call 8; refine (rread_any _ _ (by first | assumption | omega)).mono ?_; rintro e w' ⟨rfl, rfl⟩)
    | (go_at_call 11; refine (add_any _ _ _).mono ?_; rintro e w' ⟨rfl, rfl⟩)
    | (go_at_call 13; refine (sub_any _ _ _).mono ?_; rintro e w' ⟨rfl, rfl⟩)
    | (go_at_call 12; refine (radd_any _ _ _).mono ?_; rintro e w' ⟨rfl, rfl⟩)
    | (go_at_call 14; refine (rsub_any _ _ _).mono ?_; rintro e w' ⟨rfl, rfl⟩)
    | (go_at_call 15; refine (narrow_any _ _ _ _).mono ?_; rintro e w' ⟨rfl, rfl⟩)
    | (go_at_call 16; refine (rnarrow_any _ _ _ _).mono ?_; rintro e w' ⟨rfl, rfl⟩)
    | (go_at_call 9; refine (digits_any _ _ (by assumption)).mono ?_; rintro e w' ⟨rfl, hb⟩)
    | (go_at_call 10; refine (rdigits_any _ _ _ (Nat.le_refl _) (by assumption)).mono ?_; rintro e w' ⟨rfl, hb⟩))
    all_goals go_ret
    all_goals
      refine ⟨rfl, ?_⟩
      repeat (first | assumption | refine below_trans ?_ (by assumption))
  have hl' : decide (200 < (a1.size : Int)) = false := by simp; omega
  have hx := wf_i64 w0
  have hds := digS_small a0 (by omega)
  have hd : (digS a0).size ≤ maxLen := by unfold maxLen; omega
  have hcomm : cl (cl a2 + cl a0) = cl (cl a0 + cl a2) := by rw [Int.add_comm]
  have hsub : cl (cl a0 - cl a0) = 0 := by rw [Int.sub_self]; decide
  have hzero : cl (cl a0 + cl 0) = cl (cl a0 - cl 0) := by
    have : cl 0 = 0 := by decide
    rw [this, Int.add_zero, Int.sub_zero]
  obtain ⟨e1, e2⟩ := read_digS a0
  clear hl hds
  by_cases hr : 0 ≤ a0 ∧ a0 ≤ 1000000000000
  · have g1 := e1.1 hr
    have g2 := e2.1 hr
    obtain ⟨hr1, hr2⟩ := hr
    clear e1 e2 hx
    rcases read_back a1 with ⟨m, f1, f2, f3, f4⟩ | ⟨f1, f2⟩
    all_goals
      go_enter Try.func5, Try.ntmps5
      go_wp2_with (first
    | (go_at_call 6; refine (knows_any _).mono ?_; rintro e w' ⟨rfl, hb⟩)
    | (go_at_call 7; refine (read_any _ _ (by first | assumption | omega)).mono ?_; rintro e w' ⟨rfl, rfl⟩)
    | (go_at_call 8; refine (rread_any _ _ (by first | assumption | omega)).mono ?_; rintro e w' ⟨rfl, rfl⟩)
    | (go_at_call 11; refine (add_any _ _ _).mono ?_; rintro e w' ⟨rfl, rfl⟩)
    | (go_at_call 13; refine (sub_any _ _ _).mono ?_; rintro e w' ⟨rfl, rfl⟩)
    | (go_at_call 12; refine (radd_any _ _ _).mono ?_; rintro e w' ⟨rfl, rfl⟩)
    | (go_at_call 14; refine (rsub_any _ _ _).mono ?_; rintro e w' ⟨rfl, rfl⟩)
    | (go_at_call 15; refine (narrow_any _ _ _ _).mono ?_; rintro e w' ⟨rfl, rfl⟩)
    | (go_at_call 16; refine (rnarrow_any _ _ _ _).mono ?_; rintro e w' ⟨rfl, rfl⟩)
    | (go_at_call 9; refine (digits_any _ _ (by assumption)).mono ?_; rintro e w' ⟨rfl, hb⟩)
    | (go_at_call 10; refine (rdigits_any _ _ _ (Nat.le_refl _) (by assumption)).mono ?_; rintro e w' ⟨rfl, hb⟩))
      all_goals go_ret
      all_goals
        refine ⟨rfl, ?_⟩
        repeat (first | assumption | refine below_trans ?_ (by assumption))
  · have g1 := e1.2 hr
    have g2 := e2.2 hr
    have hr' : (decide (0 ≤ a0) && decide (a0 ≤ 1000000000000)) = false := by simp; omega
    clear e1 e2 hx
    rcases read_back a1 with ⟨m, f1, f2, f3, f4⟩ | ⟨f1, f2⟩
    all_goals
      go_enter Try.func5, Try.ntmps5
      go_wp2_with (first
    | (go_at_call 6; refine (knows_any _).mono ?_; rintro e w' ⟨rfl, hb⟩)
    | (go_at_call 7; refine (read_any _ _ (by first | assumption | omega)).mono ?_; rintro e w' ⟨rfl, rfl⟩)
    | (go_at_call 8; refine (rread_any _ _ (by first | assumption | omega)).mono ?_; rintro e w' ⟨rfl, rfl⟩)
    | (go_at_call 11; refine (add_any _ _ _).mono ?_; rintro e w' ⟨rfl, rfl⟩)
    | (go_at_call 13; refine (sub_any _ _ _).mono ?_; rintro e w' ⟨rfl, rfl⟩)
    | (go_at_call 12; refine (radd_any _ _ _).mono ?_; rintro e w' ⟨rfl, rfl⟩)
    | (go_at_call 14; refine (rsub_any _ _ _).mono ?_; rintro e w' ⟨rfl, rfl⟩)
    | (go_at_call 15; refine (narrow_any _ _ _ _).mono ?_; rintro e w' ⟨rfl, rfl⟩)
    | (go_at_call 16; refine (rnarrow_any _ _ _ _).mono ?_; rintro e w' ⟨rfl, rfl⟩)
    | (go_at_call 9; refine (digits_any _ _ (by assumption)).mono ?_; rintro e w' ⟨rfl, hb⟩)
    | (go_at_call 10; refine (rdigits_any _ _ _ (Nat.le_refl _) (by assumption)).mono ?_; rintro e w' ⟨rfl, hb⟩))
      all_goals go_ret
      all_goals
        refine ⟨rfl, ?_⟩
        repeat (first | assumption | refine below_trans ?_ (by assumption))
end Go.Proofs.Ytajgepijlfgafaa.num
