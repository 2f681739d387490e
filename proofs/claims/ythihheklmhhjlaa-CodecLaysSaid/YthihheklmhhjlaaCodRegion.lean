/- A region that draws its order, whose condition on the world grows with its calls. -/
import Derived.Test.YthihheklmhhjlaaCodLaws
import Derived.Deep.DrawnRows
namespace Go.Proofs.Ythihheklmhhjlaa.cod
open Go.ChangeShapes Go.WideShapes Go.ChangeAt Go.RowKit
set_option linter.unusedVariables false

def ext (w1 : World) : World → Prop := fun w' => Below w1.heap.size w1 w'
theorem held_more {P : Program} {md : Region.Mode} {ops : Array Oper} {Q : Exit → Act → World → Prop} {S S' : World → Prop} (h : ∀ w, S' w → S w) :
    ∀ (fuel : Nat) (listed : Array Bool) (a : Act) (w : World), wpAnyH P md ops Q S' fuel listed a w → wpAnyH P md ops Q S fuel listed a w
  | 0, _, _, _, hh => hh
  | fuel + 1, _, _, _, hh => ⟨hh.1, fun i hi => wpOp_mono (fun a' w' h' => ⟨h w' h'.1, held_more h fuel _ a' w' h'.2⟩) (hh.2 i hi)⟩
theorem ext_trans {w wc wd : World} (h : Below w.drew.heap.size w.drew wc) (k : Below w.heap.size wc wd) : Below w.drew.heap.size w.drew wd := h.trans (c := wd) k
theorem Rd.conv_to {w : World} {v : Value} {xs ys : List Int} (h : Rd w v xs) (he : xs = ys) : ∀ w', Below w.heap.size w w' → (convert 22 9 v).run Try.prog w' = .ok (.string (strOfNums ys)) w' := by
  subst he; exact h.conv
end Go.Proofs.Ythihheklmhhjlaa.cod
