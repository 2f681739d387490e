/- What Same of two lists of sectors that hold the same gives. -/
import Derived.Test.YtpnepooobmbfbaaSecRef
namespace Go.Proofs.Ytpnepooobmbfbaa.sec
set_option maxRecDepth 100000
open Go.ChangeShapes Go.WideShapes Go.ChangeAt Go.RowKit
open Go.Proofs.Ytpnepooobmbfbaa.rows
set_option linter.unusedVariables false

theorem unl_self (xs : List (List Int)) (j : Nat) : unl xs xs j = [] := by simp [unl]
/-- Same of two lists that hold the same -/
theorem same_any (p1 p2 : Option Addr) (n c1 c2 : Nat) (xs : List (List Int)) (w : World) (hx : Secs xs) (h1 : Rd w 32 (.slice p1 n c1) n (cellsOf xs)) (h2 : Rd w 32 (.slice p2 n c2) n (cellsOf xs)) (l1 : n ≤ 1000) :
    Calls Try.prog 16 #[.slice p1 n c1, .slice p2 n c2] w fun e w' => e = .returned (.bool true) ∧ Below w.heap.size w w' := by
  have HF := Lib.hid (runlike_any p1 p2 n c1 n c2 xs xs w hx hx h1 h2 l1 l1)
  have HU := Lib.hid (unl_self xs (max n n))
  clear h1 h2
  go_enter Try.func16, Try.ntmps16
  go_wp2_with (go_at_call 39; refine HF.out.mono ?_; rintro e w1 ⟨p', n', c', rfl, hn, ho, hb⟩; rw [HU.out] at hn; have hn0 : n' = 0 := hn; clear hn ho; subst hn0)
  go_ret
  exact ⟨rfl, hb⟩
end Go.Proofs.Ytpnepooobmbfbaa.sec
