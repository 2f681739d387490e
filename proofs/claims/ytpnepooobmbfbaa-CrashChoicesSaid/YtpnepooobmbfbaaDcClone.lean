/- What slices.Clone gives at the four element types, and what the readers of the code's disk give. -/
import Derived.Test.YtpnepooobmbfbaaDcLog
import Derived.Lib.SliceRun
namespace Go.Proofs.Ytpnepooobmbfbaa.dsk
set_option maxRecDepth 100000
open Go.ChangeShapes Go.WideShapes Go.ChangeAt Go.RowKit
open Go.Proofs.Ytpnepooobmbfbaa.rows
open Go.Proofs.Ytpnepooobmbfbaa.sec
open Go.Maps
set_option linter.unusedVariables false
set_option linter.unusedSimpArgs false

/-- a clone of a slice: cells of its own -/
def CloneDone (e0 : TypeId) (sz n : Nat) (cs : List Value) (w : World) (e : Ending) (w' : World) : Prop := ∃ p' c', e = .returned (.slice p' n c') ∧ Own w' w.heap.size e0 sz (.slice p' n c') n cs ∧ Below w.heap.size w w'
theorem clone_secs (p : Option Addr) (n c : Nat) (cs : List Value) (w : World) (h : Rd w 32 (.slice p n c) n cs) (h1 : ∀ u ∈ cs, u.oneCell' = true) (hn : n ≤ 1000) :
    Calls Try.prog 36 #[.slice p n c] w (CloneDone 62 32 n cs w) := by
  cases p with
  | none =>
    have h0 : n = 0 ∧ c = 0 ∧ cs = [] := by
      rcases h with ⟨p', cap', e1, e2, e3, e4⟩ | ⟨b, off, cap', e1, _⟩
      · cases e1; exact ⟨e2, e4 rfl, e3⟩
      · cases e1
    obtain ⟨rfl, rfl, rfl⟩ := h0
    have q22 : ∀ (w : World) (a : Option Addr) (n c n' c' : Nat), (binOp .eql 22 (.slice a n c) (.slice none n' c')).run Try.prog w = .ok (.bool a.isNone) w := fun w a n c n' c' => Lib.run_eql_slice_nil w _ _ a n c n' c' Try.underlying22
    go_enter Try.func36, Try.ntmps36
    go_wp2
    go_ret
    exact ⟨none, 0, rfl, own_nil _ _ _ _, Below.refl _ _⟩
  | some a =>
    have H := Lib.hid h
    have H1 := Lib.hid h1
    clear h h1
    have q22 : ∀ (w : World) (a : Option Addr) (n c n' c' : Nat), (binOp .eql 22 (.slice a n c) (.slice none n' c')).run Try.prog w = .ok (.bool a.isNone) w := fun w a n c n' c' => Lib.run_eql_slice_nil w _ _ a n c n' c' Try.underlying22
    go_enter Try.func36, Try.ntmps36
    go_wp2_with (at_builtin; refine ap_rd elem_secs rfl (.tmp 5) (.tmp 6) rfl w.heap.size _ 0 [] rfl (own_made w _ _ (Nat.le_refl _)) _ n cs rfl (H.out.later (below_alloc (Below.refl _ _) _)) H1.out (by omega) (by rw [size_alloc]; omega) ?_; intro pa ca wa ho hb; rw [Nat.zero_add, List.nil_append] at ho; have HO := Lib.hid ho; have HB := Lib.hid hb; clear ho hb)
    go_ret
    exact ⟨pa, ca, by simp, HO.out, (below_alloc (Below.refl _ w) _).trans HB.out⟩
end Go.Proofs.Ytpnepooobmbfbaa.dsk
