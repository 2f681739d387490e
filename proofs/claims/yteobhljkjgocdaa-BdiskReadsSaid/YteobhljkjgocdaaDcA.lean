/- What the small functions of the code's disk give: made, possible, has. -/
import Derived.Test.YteobhljkjgocdaaDcMath
import Derived.LaidEqlPtr
namespace Go.Proofs.Yteobhljkjgocdaa.dsk
open Go.ChangeShapes Go.WideShapes Go.ChangeAt Go.RowKit
open Go.Proofs.Yteobhljkjgocdaa.rows
open Go.Proofs.Yteobhljkjgocdaa.sec
open Go.Maps
set_option linter.unusedVariables false
set_option linter.unusedSimpArgs false

theorem info_disk : (Try.prog.info? 70).map (·.size) = some 8 := by kernel_rfl
theorem und_pdisk : Try.prog.underlying 26 = some (.pointer 70) := by kernel_rfl
theorem eql_same (g : Nat) (w : World) : (binOp .eql 26 (.pointer (some ⟨g, 0, none⟩)) (.pointer (some ⟨g, 0, none⟩))).run Try.prog w = .ok (.bool true) w := by
  cases hq : Try.prog.info? 70 with
  | none => have := info_disk; simp [hq] at this
  | some q => exact run_eql_ptr_same w _ und_pdisk hq
theorem eql_nil (g : Nat) (w : World) : (binOp .eql 26 (.pointer none) (.pointer (some ⟨g, 0, none⟩))).run Try.prog w = .ok (.bool false) w := by
  have h : ∀ d : Nat, (Op.equalIn (d + 1) 26 (.pointer none) (.pointer (some ⟨g, 0, none⟩))).run Try.prog w = .ok false w := fun d => by
    simp [Op.equalIn, run_underlying und_pdisk]
  simp only [binOp]
  simp [Op.equal, Op.maxDepth, h 9999]
theorem cmade (g : Nat) (w : World) (h : w.cell? ⟨g, 0, none⟩ = some (.pointer (some ⟨g, 0, none⟩))) :
    Calls Try.prog 30 #[.pointer (some ⟨g, 0, none⟩)] w fun e w' => e = .returned (.bool true) ∧ w = w' := by
  have q1 := eql_same g
  have q2 := eql_nil g
  go_enter Try.func30, Try.ntmps30
  go_wp2
  go_ret
  exact ⟨rfl, rfl⟩
theorem cmade_nil (w : World) :
    Calls Try.prog 30 #[.pointer none] w fun e w' => e = .returned (.bool false) ∧ w = w' := by
  go_enter Try.func30, Try.ntmps30
  go_wp2
  go_ret
  exact ⟨rfl, rfl⟩
theorem cmade_no (g : Nat) (w : World) (h : w.cell? ⟨g, 0, none⟩ = some (.pointer none)) :
    Calls Try.prog 30 #[.pointer (some ⟨g, 0, none⟩)] w fun e w' => e = .returned (.bool false) ∧ w = w' := by
  have q1 := eql_same g
  have q2 := eql_nil g
  go_enter Try.func30, Try.ntmps30
  go_wp2
  go_ret
  exact ⟨rfl, rfl⟩
theorem cpossible (n : Int) (w : World) (h : wf64 n) :
    Calls Try.prog 27 #[.int .i64 n] w fun e w' => e = .returned (.bool (decide (1 ≤ n ∧ n ≤ 65))) ∧ w = w' := by
  have hx := wf_i64 h
  obtain ⟨d, hd⟩ : ∃ d, decide (1 ≤ n ∧ n ≤ 65) = d := ⟨_, rfl⟩
  rw [hd]
  have HD := Lib.hid hd
  clear hd
  by_cases h1 : 1 ≤ n
  · have q1 : decide (1 ≤ n) = true := by simp; omega
    by_cases h2 : n ≤ 65
    · have q2 : decide (n ≤ 65) = true := by simp; omega
      go_enter Try.func27, Try.ntmps27
      go_wp2
      go_ret
      exact ⟨ret_bool (by rw [← HD.out]; simp; omega), rfl⟩
    · have q2 : decide (n ≤ 65) = false := by simp; omega
      go_enter Try.func27, Try.ntmps27
      go_wp2
      go_ret
      exact ⟨ret_bool (by rw [← HD.out]; simp; omega), rfl⟩
  · have q1 : decide (1 ≤ n) = false := by simp; omega
    go_enter Try.func27, Try.ntmps27
    go_wp2
    go_ret
    exact ⟨ret_bool (by rw [← HD.out]; simp; omega), rfl⟩
theorem chas (g : Nat) (n c : Nat) (p : Option Addr) (i : Int) (w : World) (h : w.cell? ⟨g, 1, none⟩ = some (.slice p n c)) (hi : wf64 i) (hn : n ≤ 1000) :
    Calls Try.prog 35 #[.pointer (some ⟨g, 0, none⟩), .int .i64 i] w fun e w' => e = .returned (.bool (decide (0 ≤ i ∧ i < (n : Int)))) ∧ w = w' := by
  have hx := wf_i64 hi
  obtain ⟨d, hd⟩ : ∃ d, decide (0 ≤ i ∧ i < (n : Int)) = d := ⟨_, rfl⟩
  rw [hd]
  have HD := Lib.hid hd
  clear hd
  by_cases h1 : 0 ≤ i
  · have q1 : decide (0 ≤ i) = true := by simp; omega
    by_cases h2 : i < (n : Int)
    · have q2 : decide (i < (n : Int)) = true := by simp; omega
      go_enter Try.func35, Try.ntmps35
      go_wp2
      go_ret
      exact ⟨ret_bool (by rw [← HD.out]; simp; omega), rfl⟩
    · have q2 : decide (i < (n : Int)) = false := by simp; omega
      go_enter Try.func35, Try.ntmps35
      go_wp2
      go_ret
      exact ⟨ret_bool (by rw [← HD.out]; simp; omega), rfl⟩
  · have q1 : decide (0 ≤ i) = false := by simp; omega
    go_enter Try.func35, Try.ntmps35
    go_wp2
    go_ret
    exact ⟨ret_bool (by rw [← HD.out]; simp; omega), rfl⟩
end Go.Proofs.Yteobhljkjgocdaa.dsk
