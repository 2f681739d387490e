/- What LayoutBack wants, part 3. -/
import Derived.Test.YtkbnfofklofkoaaLayoutBackB
import Derived.Deep.WholeRow
import Derived.Deep.Cut
/- knows of layer 4, over what the code's functions give. -/
namespace Go.Proofs.Ytkbnfofklofkoaa.sec
set_option maxRecDepth 100000
open Go.ChangeShapes Go.WideShapes Go.ChangeAt Go.RowKit
open Go.Proofs.Ytkbnfofklofkoaa.rows
set_option linter.unusedVariables false

abbrev agg (s : List Int) : Value := .agg (u8s s).toArray
def zero32 : List Int := List.replicate 32 0
theorem sec_zero : Sec zero32 := by
  refine ⟨by simp [zero32], fun x hx => ?_⟩
  have := List.eq_of_mem_replicate hx
  omega
def TornIs (f : Nat) : Prop := ∀ (s o : List Int) (w : World), Sec s → Sec o →
  Calls Try.prog f #[agg s, agg o] w fun e w' => e = .returned (agg (o.take 16 ++ s.drop 16)) ∧ Below w.heap.size w w'
/-- the sector s lies in block g -/
def At (w : World) (g : Nat) (s : List Int) : Prop := w.heap[g]? = some (.cells (u8s s).toArray 26)
theorem At.later {w w' : World} {g : Nat} {s : List Int} (h : At w g s) (k : Below w.heap.size w w') : At w' g s := (k.block g (Array.getElem?_eq_some_iff.1 h).1).trans h
theorem At.alloc {w : World} {g : Nat} {s : List Int} (h : At w g s) (o : Obj) : At (w.alloc o) g s := h.later (below_alloc (Below.refl _ _) o)
theorem at_new (w : World) (s : List Int) : At (w.alloc (.cells (u8s s).toArray 26)) w.heap.size s := heap_alloc_new _ _
theorem At.range {w : World} {g : Nat} {s : List Int} (h : At w g s) : w.rangeAt g 0 (u8s s) := by
  have := World.rangeAt_of_block h 0 (u8s s).toArray.size
  simpa using this
theorem At.cell {w : World} {g : Nat} {s : List Int} (h : At w g s) {i : Nat} (hi : i < s.length) : w.cell? ⟨g, i, none⟩ = some (.int .u8 s[i]) := by
  have := h.range i (.int .u8 s[i]) (by simp [u8s, hi])
  rwa [Nat.zero_add] at this
/-- a load of a whole sector -/
theorem load_at {ops : Array Oper} {rest : List Oper} {o : Oper} {a : Act} {w : World} {Q : Exit → Act → World → Prop} (hgd : o.guard = none) (x : Operand) (ho : o.op = .load 26 x)
    (g : Nat) (hx : a.eval x = .pointer (some ⟨g, 0, none⟩)) (s : List Int) (hs : s.length = 32) (hg : At w g s)
    (h : wpList Try.prog ops Q rest (a.put o.dst (agg s)) w) : wpList Try.prog ops Q (o :: rest) a w :=
  wpList_load_row hgd 26 x ho g hx 26 _ _ _ hg Try.underlying26 rfl (by rw [info_sec]; simp [u8s, hs]) h

/-- the same behind '&&' or '||', where the guard says yes -/
theorem load_at_g {ops : Array Oper} {rest : List Oper} {o : Oper} {a : Act} {w : World} {Q : Exit → Act → World → Prop} (hw : Region.wanted o (yielded ops a.tmps) = true) (x : Operand) (ho : o.op = .load 26 x)
    (g : Nat) (hx : a.eval x = .pointer (some ⟨g, 0, none⟩)) (s : List Int) (hs : s.length = 32) (hg : At w g s)
    (h : wpList Try.prog ops Q rest (a.put o.dst (agg s)) w) : wpList Try.prog ops Q (o :: rest) a w :=
  wpList_step fun K hK => by
    rw [if_pos hw]
    exact wp_load_row 26 x ho g hx 26 _ _ _ hg Try.underlying26 rfl (by rw [info_sec]; simp [u8s, hs]) (hK _ _ h)
end Go.Proofs.Ytkbnfofklofkoaa.sec
