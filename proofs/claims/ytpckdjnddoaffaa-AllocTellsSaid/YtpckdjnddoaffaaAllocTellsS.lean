/- What AllocTells wants, part 19. -/
import Derived.Test.YtpckdjnddoaffaaAllocTellsA
import Derived.Test.YtpckdjnddoaffaaAllocTellsB
import Derived.RangeFuncNested
import Derived.RangeFuncBound
import Derived.RangeFuncCalls
import Derived.RangeFuncLeaves
import Derived.Shelf.Abstract
import Derived.Shelf.RegionOpen
import Derived.OwnWalkIn
import Derived.TacticsInMore
import Derived.LoopNIn
import Derived.LoopIn
/- A range over a function whose iterator may itself range over an iterator: in this contract of an iterator a round names the blocks that it turns. -/
namespace Go.Proofs.Ytpckdjnddoaffaa.rng
set_option maxRecDepth 100000
open Go
open Go.RowKit

set_option linter.unusedVariables false

/-- what lay below B and every row of cells lies as it lay -/
structure Calm (B : Nat) (a b : World) : Prop where
  os : b.os = a.os
  tape : b.tape = a.tape
  output : b.output = a.output
  size : a.heap.size ≤ b.heap.size
  block : ∀ (k : Nat) (o : Obj), a.heap[k]? = some o → (k < B ∨ o.isCells = true) → b.heap[k]? = some o
theorem Calm.refl (B : Nat) (w : World) : Calm B w w := ⟨rfl, rfl, rfl, Nat.le_refl _, fun _ _ h _ => h⟩
theorem Calm.trans {B : Nat} {a b c : World} (h : Calm B a b) (k : Calm B b c) : Calm B a c :=
  ⟨k.os.trans h.os, k.tape.trans h.tape, k.output.trans h.output, Nat.le_trans h.size k.size, fun i o hi ho => k.block i o (h.block i o hi ho) ho⟩
theorem Calm.mono {B B' : Nat} {a b : World} (h : Calm B a b) (hB : B' ≤ B) : Calm B' a b :=
  ⟨h.os, h.tape, h.output, h.size, fun i o hi ho => h.block i o hi (ho.imp (fun h => Nat.lt_of_lt_of_le h hB) id)⟩
theorem Calm.of_below {B : Nat} {a b : World} (h : Below a.heap.size a b) : Calm B a b :=
  ⟨h.os, h.tape, h.output, h.size, fun i o hi _ => (h.block i (Array.getElem?_eq_some_iff.1 hi).1).trans hi⟩
theorem Calm.below {B B0 : Nat} {a b : World} (h : Calm B a b) (hB : B0 ≤ B) (hs : B0 ≤ a.heap.size) : Below B0 a b :=
  ⟨h.os, h.tape, h.output, h.size, fun i hi => by
    have hl : i < a.heap.size := by omega
    have e : a.heap[i]? = some a.heap[i] := Array.getElem?_eq_getElem hl
    exact (h.block i _ e (Or.inl (by omega))).trans e.symm⟩
theorem Calm.boxed {B k : Nat} {t : TypeId} {v : Value} {a b : World} (h : Calm B a b) (hb : Go.Boxed a k t v) : Go.Boxed b k t v := h.block k _ hb (Or.inr rfl)
/-- of what lay only what m names was turned -/
structure Turn (m : Nat → Obj → Prop) (a b : World) : Prop where
  os : b.os = a.os
  tape : b.tape = a.tape
  output : b.output = a.output
  size : a.heap.size ≤ b.heap.size
  keep : ∀ (k : Nat) (o : Obj), a.heap[k]? = some o → ¬ m k o → b.heap[k]? = some o
theorem Turn.refl (m : Nat → Obj → Prop) (w : World) : Turn m w w := ⟨rfl, rfl, rfl, Nat.le_refl _, fun _ _ h _ => h⟩
theorem Turn.trans {m : Nat → Obj → Prop} {a b c : World} (h : Turn m a b) (k : Turn m b c) : Turn m a c :=
  ⟨k.os.trans h.os, k.tape.trans h.tape, k.output.trans h.output, Nat.le_trans h.size k.size, fun i o hi ho => k.keep i o (h.keep i o hi ho) ho⟩
theorem Turn.mono {m m' : Nat → Obj → Prop} {a b : World} (h : Turn m a b) (hm : ∀ k o, m k o → m' k o) : Turn m' a b :=
  ⟨h.os, h.tape, h.output, h.size, fun i o hi ho => h.keep i o hi fun hm' => ho (hm i o hm')⟩
theorem Turn.of_below {m : Nat → Obj → Prop} {a b : World} (h : Below a.heap.size a b) : Turn m a b :=
  ⟨h.os, h.tape, h.output, h.size, fun i o hi _ => (h.block i (Array.getElem?_eq_some_iff.1 hi).1).trans hi⟩
theorem Turn.below {m : Nat → Obj → Prop} {a b : World} {B : Nat} (h : Turn m a b) (hB : B ≤ a.heap.size) (hm : ∀ k o, m k o → B ≤ k) : Below B a b :=
  ⟨h.os, h.tape, h.output, h.size, fun i hi => by
    have e : a.heap[i]? = some a.heap[i] := Array.getElem?_eq_getElem (by omega)
    exact (h.keep i _ e fun hk => by have := hm i _ hk; omega).trans e.symm⟩

end Go.Proofs.Ytpckdjnddoaffaa.rng
