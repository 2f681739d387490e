/- BdiskPlays' walk, over what the code's disk gives. -/
import Derived.Test.YteobhljkjgocdaaDskStep
import Derived.Deep.Cut
namespace Go.Proofs.Yteobhljkjgocdaa.dsk
open Go.ChangeShapes Go.WideShapes Go.ChangeAt Go.RowKit
open Go.Proofs.Yteobhljkjgocdaa.rows
open Go.Proofs.Yteobhljkjgocdaa.sec
set_option linter.unusedVariables false
set_option linter.unusedSimpArgs false

/-- what is asked besides of the code's disk -/
structure DiskTells (CA : World → (Nat → Prop) → Value → St → Prop) : Prop where
  from_yes : ∀ (w : World) (p : Option Addr) (n c : Nat) (ss : List (List Int)), Secs ss → Rd w 32 (.slice p n c) n (cellsOf ss) → 1 ≤ n → n ≤ 65 → Calls Try.prog 7 #[.slice p n c] w fun e w' => ∃ ad, e = .returned (.tuple #[.pointer (some ad), .int .i64 0]) ∧ CA w' (fun b => w.heap.size ≤ b ∧ b < w'.heap.size) (.pointer (some ad)) (st0 ss) ∧ Below w.heap.size w w'
  from_no : ∀ (w : World) (p : Option Addr) (n c : Nat), n ≤ 200 → (n < 1 ∨ 65 < n) → Calls Try.prog 7 #[.slice p n c] w fun e w' => e = .returned (.tuple #[.pointer none, .int .i64 1]) ∧ Below w.heap.size w w'
  safe : ∀ (w : World) (F : Nat → Prop) (d : Value) (st : St), CA w F d st → st.fine → Calls Try.prog 17 #[d] w fun e w' => ∃ p c, e = .returned (.slice p st.safe.length c) ∧ Rd w' 32 (.slice p st.safe.length c) st.safe.length (cellsOf st.safe) ∧ Below w.heap.size w w'
  waiting : ∀ (w : World) (F : Nat → Prop) (d : Value) (st : St), CA w F d st → st.fine → Calls Try.prog 19 #[d] w fun e w' => ∃ p c, e = .returned (.slice p st.wait.length c) ∧ Rd w' 36 (.slice p st.wait.length c) st.wait.length (wrsC st.wait) ∧ Below w.heap.size w w'
  log : ∀ (w : World) (F : Nat → Prop) (d : Value) (st : St), CA w F d st → st.fine → Calls Try.prog 21 #[d] w fun e w' => ∃ p c es, e = .returned (.slice p st.log.length c) ∧ EvsIn (fun _ => True) w' (.slice p st.log.length c) st.log st.log.length es ∧ Below w.heap.size w w'
  epoch : ∀ (w : World) (F : Nat → Prop) (d : Value) (st : St), CA w F d st → st.fine → Calls Try.prog 22 #[d] w fun e w' => e = .returned (.int .i64 st.ep) ∧ Below w.heap.size w w'
  clone : ∀ (w : World) (F : Nat → Prop) (d : Value) (st : St), CA w F d st → st.fine → Calls Try.prog 10 #[d] w fun e w' => ∃ ad, e = .returned (.pointer (some ad)) ∧ CA w' (fun b => w.heap.size ≤ b ∧ b < w'.heap.size) (.pointer (some ad)) st ∧ Below w.heap.size w w'
/-- the round's last test: all that is told is the same -/
def Tells (CA : World → (Nat → Prop) → Value → St → Prop) (B : Nat) (d : Value) (g : Nat) (st : St) (w w' : World) : Prop := ∃ F G, Both CA B w' F G d g st ∧ Below B w w'
theorem rfrom_no (p : Option Addr) (n c : Nat) (w : World) (h : n ≤ 200) (hn : n < 1 ∨ 65 < n) :
    Calls Try.prog 8 #[.slice p n c] w fun e w' => e = .returned (.tuple #[.pointer none, .int .i64 1]) ∧ Below w.heap.size w w' := by
  have HN := Lib.hid (rnew_no (n : Int) w (WalkArith.wf_i64 (by omega)) (by omega))
  have hn1 : (n : Int) ≤ 200 := by omega
  go_enter Try.func8, Try.ntmps8
  go_wp2_with (go_at_call 29; refine HN.out.mono ?_; rintro e w1 ⟨rfl, rfl⟩)
  go_ret2
  exact ⟨rfl, Below.refl _ _⟩
end Go.Proofs.Yteobhljkjgocdaa.dsk
