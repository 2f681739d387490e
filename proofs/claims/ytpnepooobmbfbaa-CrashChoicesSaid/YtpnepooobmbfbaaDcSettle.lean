/- What the code's settle gives. -/
import Derived.Test.YtpnepooobmbfbaaDcSetMath
namespace Go.Proofs.Ytpnepooobmbfbaa.dsk
open Go.ChangeShapes Go.WideShapes Go.ChangeAt Go.RowKit
open Go.Proofs.Ytpnepooobmbfbaa.rows
open Go.Proofs.Ytpnepooobmbfbaa.sec
open Go.Maps
set_option linter.unusedVariables false
set_option linter.unusedSimpArgs false

/-- an array of numbers as it lies in memory -/
def ar (l : List Nat) : Array Value := (l.map fun n : Nat => Value.int .i64 (n : Int)).toArray
/-- what holds while the second loop runs: only what is safe has turned of the old blocks; o is safe now, l the array -/
structure L2 (w : World) (F : Nat → Prop) (z : Nat → Nat) (vs : Value) (n ga bm : Nat) (ts : List (Int × Int)) (o : List (List Int)) (l : List Nat) (wr : World) : Prop where
  touch : Touch (fun k => vs.ownBlock = some k) w wr
  own : Own wr 0 62 32 vs n (cellsOf o)
  row : wr.heap[ga]? = some (.cells (ar l) 129 (0, 0))
  want : Wanted wr bm ts
  hbm : w.heap.size ≤ bm
  hga : bm < ga
  hvs : ∀ k, vs.ownBlock = some k → Zn F z 1 k ∧ k < w.heap.size
theorem L2.lt {w : World} {F : Nat → Prop} {z : Nat → Nat} {vs : Value} {n ga bm : Nat} {ts : List (Int × Int)} {o : List (List Int)} {l : List Nat} {wr : World} (h : L2 w F z vs n ga bm ts o l wr) : ga < wr.heap.size := (Array.getElem?_eq_some_iff.1 h.row).1
theorem L2.below {w : World} {F : Nat → Prop} {z : Nat → Nat} {vs : Value} {n ga bm : Nat} {ts : List (Int × Int)} {o : List (List Int)} {l : List Nat} {wr w' : World} (h : L2 w F z vs n ga bm ts o l wr) (hb : Below wr.heap.size wr w') : L2 w F z vs n ga bm ts o l w' :=
  ⟨h.touch.trans (Touch.of_below hb), own_later h.own hb, row_later h.row hb h.lt, wanted_kept (S := fun _ => True) h.want trivial (Keeps.of_below hb), h.hbm, h.hga, h.hvs⟩
theorem L2.store {w : World} {F : Nat → Prop} {z : Nat → Nat} {gs n cs ga bm : Nat} {ts : List (Int × Int)} {o o' : List (List Int)} {l : List Nat} {wr w' : World} (h : L2 w F z (.slice (some ⟨gs, 0, none⟩) n cs) n ga bm ts o l wr) (ht : Touch (· = gs) wr w')
    (ho : Own w' 0 62 32 (.slice (some ⟨gs, 0, none⟩) n cs) n (cellsOf o')) : L2 w F z (.slice (some ⟨gs, 0, none⟩) n cs) n ga bm ts o' l w' := by
  have hgs := (h.hvs gs rfl).2
  have h1 := h.hbm
  have h2 := h.hga
  have h3 := h.lt
  exact ⟨h.touch.trans' ht (fun i hi => Or.inl (by rw [hi]; rfl)), ho, (ht.block ga h3 (by omega)).trans h.row, wanted_kept (S := (· = bm)) h.want rfl (ht.keeps fun k hk => by omega), h.hbm, h.hga, h.hvs⟩
end Go.Proofs.Ytpnepooobmbfbaa.dsk
