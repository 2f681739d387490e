/- Tags as keys of a map; the code's lastEpoch; how the code's Sync settles, in the document's words. -/
import Derived.Test.YtpnepooobmbfbaaDcClone
import Derived.DeepKeys5
import Derived.DeepKeys3
namespace Go.Proofs.Ytpnepooobmbfbaa.dsk
set_option maxRecDepth 100000
open Go.ChangeShapes Go.WideShapes Go.ChangeAt Go.RowKit
open Go.Proofs.Ytpnepooobmbfbaa.rows
open Go.Proofs.Ytpnepooobmbfbaa.sec
open Go.Maps
set_option linter.unusedVariables false
set_option linter.unusedSimpArgs false

def tagL (k i : Int) : Lit := .string (keyBytes [.int .i64 k, .int .i64 i])
/-- block b is the set of the tags ts -/
def Wanted (w : World) (b : Nat) (ts : List (Int × Int)) : Prop := ∃ n, ∃ D : DataW Unit, n ≤ ts.length ∧ w.ownsMap Try.prog 64 unitElem b n D ∧ ∀ k i : Int, wf64 k → wf64 i → Maps.has D (tagL k i) = decide ((k, i) ∈ ts)
theorem wanted_kept {S : Nat → Prop} {w w' : World} {b : Nat} {ts : List (Int × Int)} (h : Wanted w b ts) (hb : S b) (k : Keeps S w w') : Wanted w' b ts := by
  obtain ⟨n, D, h1, h2, h3⟩ := h
  have hlt := h2.lt
  obtain ⟨es, clock, he, r⟩ := h2
  exact ⟨n, D, h1, ⟨es, clock, (k.2 b hlt hb).trans he, r⟩, h3⟩
theorem Wanted.lt {w : World} {b : Nat} {ts : List (Int × Int)} (h : Wanted w b ts) : b < w.heap.size := by
  obtain ⟨n, D, h1, h2, h3⟩ := h
  exact h2.lt
/-! what the code's Sync settles -/
end Go.Proofs.Ytpnepooobmbfbaa.dsk
/- What the code's lastEpoch gives. -/
namespace Go.Proofs.Ytpnepooobmbfbaa.dsk
open Go.ChangeShapes Go.WideShapes Go.ChangeAt Go.RowKit
open Go.Proofs.Ytpnepooobmbfbaa.rows
open Go.Proofs.Ytpnepooobmbfbaa.sec
open Go.Maps
set_option linter.unusedVariables false
set_option linter.unusedSimpArgs false

/-- a write into a variable of its own -/
theorem store_wr {ops : Array Oper} {rest : List Oper} {o : Oper} {a : Act} {w : World} {Q : Exit → Act → World → Prop} (hgd : o.guard = none) (x y : Operand) (ho : o.op = .store 79 x y) (hd : o.dst = none)
    (g : Nat) (z old : Wr) (hx : a.eval x = .pointer (some ⟨g, 0, none⟩)) (hy : a.eval y = .agg z.c.toArray) (hs : Sec z.s) (hold : Sec old.s) (hg : AtW w g old)
    (h : ∀ w', AtW w' g z → Below g w w' → wpList Try.prog ops Q rest a w') : wpList Try.prog ops Q (o :: rest) a w := by
  refine wpList_store_row hgd 79 x y ho g z.c.toArray hx hy 79 _ hg (by rw [info_wr]; simp [Wr.c_len hs]) (by simp [Wr.c_len hs, Wr.c_len hold]) (by simp only [List.all_toArray]; exact List.all_eq_true.2 (wr_ones z)) ?_
  rw [hd]
  exact h _ (setRow_heap w g _ _ _ _ hg) ((Below.refl g w).trans ⟨rfl, rfl, rfl, by simp [World.setRow], fun k hk => setRow_other w g k _ (by omega)⟩)
theorem atW_new (w : World) : AtW (w.alloc (.cells (w0.c).toArray 79)) w.heap.size w0 := heap_alloc_new _ _
theorem AtW.parts {w : World} {g : Nat} {x : Wr} (h : AtW w g x) (hs : Sec x.s) : w.cell? ⟨g, 0, none⟩ = some (.int .i64 x.pos) ∧ w.rangeAt g 1 (u8s x.s) ∧ w.cell? ⟨g, 33, none⟩ = some (.int .i64 x.kind) ∧ w.cell? ⟨g, 34, none⟩ = some (.int .i64 x.id) ∧ w.cell? ⟨g, 35, none⟩ = some (.int .i64 x.ep) := by
  have := wr_parts hs h.range
  simpa using this
theorem AtW.later {w w' : World} {g : Nat} {x : Wr} (h : AtW w g x) (hb : Below w.heap.size w w') : AtW w' g x := row_later h hb (Array.getElem?_eq_some_iff.1 h).1
end Go.Proofs.Ytpnepooobmbfbaa.dsk
