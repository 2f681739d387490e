/- What AllocFree wants, part 13. -/
import Derived.Test.YtpckdjnddoaffaaAllocFreeB
import Derived.Test.YtpckdjnddoaffaaAllocFreeG
import Derived.Test.YtpckdjnddoaffaaAllocFreeJ
import Derived.Test.YtpckdjnddoaffaaAllocFreeL
import Derived.Outline
/- The arguments of stage 6's laws: a state, and events. -/
namespace Go.Proofs.Ytpckdjnddoaffaa.dsk
open Go.ChangeShapes Go.WideShapes Go.ChangeAt Go.RowKit
open Go.Proofs.Ytpckdjnddoaffaa.rows
open Go.Proofs.Ytpckdjnddoaffaa.sec
set_option linter.unusedVariables false
set_option maxRecDepth 100000

section
variable {H : Type} {enc : TypeId × Value → H} {W : World} {base : Nat} {spare : Nat → Bool} {held : Bool}
theorem cellsWr : Try.prog.cellsOf 55 = 36 := by kernel_rfl
theorem fields_wr2 : (Try.prog.fieldsOf 55).toList.map (fun f => (f.type, f.offset)) = [(3, 0), (51, 1), (53, 33), (3, 35)] := by kernel_rfl
theorem wr_of_cells {n : Nat} {cs : List Value} {x : DataW H × List MemPlace} (h : DataW.trod enc Try.prog W base spare held n 55 cs = some x) : ∃ a : Wr, a.ok ∧ cs = a.c := by
  obtain ⟨hl, hf⟩ := field_trod und_wr fields_wr2 h
  rw [cellsWr] at hl
  obtain ⟨_, _, h0⟩ := hf 0 _ _ rfl
  obtain ⟨_, _, h1⟩ := hf 1 _ _ rfl
  obtain ⟨_, _, h2⟩ := hf 2 _ _ rfl
  obtain ⟨_, _, h3⟩ := hf 3 _ _ rfl
  rw [cellsInt] at h0 h3
  rw [cellsSec] at h1
  rw [cellsTag] at h2
  obtain ⟨ps, wps, e0⟩ := int_of_cells h0
  obtain ⟨s, hs, e1⟩ := sec_of_cells h1
  obtain ⟨⟨k, id⟩, ⟨wk, wid⟩, e2⟩ := tag_of_cells h2
  obtain ⟨ep, wep, e3⟩ := int_of_cells h3
  refine ⟨⟨ps, s, k, id, ep⟩, ⟨hs, wps, wk, wid, wep⟩, ?_⟩
  have q0 := cut_piece cs 0 1
  have q1 := cut_piece cs 1 32
  have q2 := cut_piece cs 33 2
  have q3 := cut_piece cs 35 1
  rw [e0] at q0
  rw [e1] at q1
  rw [e2] at q2
  rw [e3, List.drop_of_length_le (i := 35 + 1) (by omega), List.append_nil] at q3
  simp only [Nat.reduceAdd] at q0 q1 q2 q3
  rw [List.drop_zero, ← q1, ← q2, ← q3] at q0
  rw [← q0]
  simp [Wr.c, tagC]
end
end Go.Proofs.Ytpckdjnddoaffaa.dsk
/- What the reference's Torn gives. -/
namespace Go.Proofs.Ytpckdjnddoaffaa.sec
set_option maxRecDepth 100000
open Go.ChangeShapes Go.WideShapes Go.ChangeAt Go.RowKit
open Go.Proofs.Ytpckdjnddoaffaa.rows
set_option linter.unusedVariables false
set_option linter.unusedSimpArgs false

theorem at_setCell {w : World} {g j : Nat} {s : List Int} (h : At w g s) (z : Int) : At (w.setCell ⟨g, j, none⟩ (.int .u8 z)) g (s.set j z) := by
  have := Go.Proofs.Ytpckdjnddoaffaa.dsk.setCell_heap (i := j) h (.int .u8 z)
  rw [At, this]
  simp [u8s, List.map_set]
theorem at_setCell_other {w : World} {g k j : Nat} {s : List Int} (h : At w k s) (hk : k ≠ g) (v : Value) : At (w.setCell ⟨g, j, none⟩ v) k s := (Below.heap_setCell _ _ _ _ hk).trans h
end Go.Proofs.Ytpckdjnddoaffaa.sec
