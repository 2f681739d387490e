/- What LexBack wants, part 3. -/
import Derived.Test.YtahcndkifplekaaLexBackB
import Derived.Deep.WholeRow
import Derived.Deep.Cut
set_option linter.unusedVariables false
namespace Go.Proofs.Ytahcndkifplekaa
namespace sec
set_option maxRecDepth 100000
open Go.ChangeShapes Go.WideShapes Go.ChangeAt Go.RowKit
open rows
abbrev agg (s : List Int) : Value := .agg (u8s s).toArray
def zero32 : List Int := List.replicate 32 0
theorem rd_lit (w : World) (e : TypeId) (sz n : Nat) (cs : Array Value) (h : cs.size = n * sz) (h0 : 0 < n) (hn : n ≤ 1000) : Rd (w.alloc (.cells cs e)) sz (.slice (some ⟨w.heap.size, 0, none⟩) n n) n cs.toList := by
 refine Or.inr ⟨w.heap.size, 0, n, rfl, h0, Nat.le_refl _, by unfold maxLen; omega, by simp, by simp [h], ?_⟩
 intro i u hi
 rw [World.cell?_alloc_new, Nat.zero_add]
 simpa using hi
end sec
end Go.Proofs.Ytahcndkifplekaa
