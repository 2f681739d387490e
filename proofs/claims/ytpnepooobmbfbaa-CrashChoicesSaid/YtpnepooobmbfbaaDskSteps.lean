/- The makings of a slice as steps of a region that draws its order, the worlds behind them named. -/
import Derived.Test.YtpnepooobmbfbaaDskRead
import Derived.Test.YtpnepooobmbfbaaHeldLast
namespace Go.Proofs.Ytpnepooobmbfbaa.dsk
set_option maxRecDepth 100000
open Go.ChangeShapes Go.WideShapes Go.ChangeAt Go.RowKit
open Go.Proofs.Ytpnepooobmbfbaa.rows
open Go.Proofs.Ytpnepooobmbfbaa.sec
set_option linter.unusedVariables false
set_option linter.unusedSimpArgs false

theorem own_later {w w' : World} {B : Nat} {e : TypeId} {sz n : Nat} {v : Value} {cs : List Value} (h : Own w B e sz v n cs) (hb : Below w.heap.size w w') : Own w' B e sz v n cs := by
  refine ⟨h.1, ?_⟩
  rcases h.2 with h2 | ⟨g, cap, cur, hv, h3, h4, h5⟩
  · exact Or.inl h2
  · exact Or.inr ⟨g, cap, cur, hv, h3, (hb.block g (Array.getElem?_eq_some_iff.1 h4).1).trans h4, h5⟩
/-- a slice that lies in a block of its own reads as it did -/
theorem Rd.apart {w w' : World} {sz : Nat} {b c n : Nat} {cs : List Value} {S : Nat → Prop} (h : Rd w sz (.slice (some ⟨b, 0, none⟩) n c) n cs) (ht : Touch S w w') (hb : ¬ S b) : Rd w' sz (.slice (some ⟨b, 0, none⟩) n c) n cs :=
  Rd.kept (S := fun k => k = b) h (fun a m d hv _ => by cases hv; rfl) ⟨ht.size, fun k hk he => ht.block k hk (by rw [he]; exact hb)⟩
end Go.Proofs.Ytpnepooobmbfbaa.dsk
