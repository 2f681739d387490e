/- What LayoutBack wants, part 8. -/
import Derived.Test.YtkbnfofklofkoaaLayoutBackA
import Derived.Test.YtkbnfofklofkoaaLayoutBackG
import Derived.Deep.WholeRow
/- A sector in a block of its own. -/
namespace Go.Proofs.Ytkbnfofklofkoaa.dsk
set_option maxRecDepth 100000
open Go.ChangeShapes Go.WideShapes Go.ChangeAt Go.RowKit
open Go.Proofs.Ytkbnfofklofkoaa.rows
open Go.Proofs.Ytkbnfofklofkoaa.sec
set_option linter.unusedVariables false
set_option linter.unusedSimpArgs false

abbrev agg (s : List Int) : Value := .agg (u8s s).toArray
/-- the sector s lies in block g -/
def At (w : World) (g : Nat) (s : List Int) : Prop := w.heap[g]? = some (.cells (u8s s).toArray 26)
theorem At.later {w w' : World} {g : Nat} {s : List Int} (h : At w g s) (k : Below w.heap.size w w') : At w' g s := (k.block g (Array.getElem?_eq_some_iff.1 h).1).trans h
theorem At.alloc {w : World} {g : Nat} {s : List Int} (h : At w g s) (o : Obj) : At (w.alloc o) g s := h.later (below_alloc (Below.refl _ _) o)
theorem at_new (w : World) (s : List Int) : At (w.alloc (.cells (u8s s).toArray 26)) w.heap.size s := heap_alloc_new _ _
theorem At.range {w : World} {g : Nat} {s : List Int} (h : At w g s) : w.rangeAt g 0 (u8s s) := by
  have := World.rangeAt_of_block h 0 (u8s s).toArray.size
  simpa using this
theorem At.cell {w : World} {g : Nat} {s : List Int} (h : At w g s) {i : Nat} (hi : i < s.length) : w.cell? ⟨g, i, none⟩ = some (.int .u8 s[i]) := by
  have := h.range i (.int .u8 s[i]) (by simp [u8s, hi])
  rwa [Nat.zero_add] at this
/-- a load of a whole sector -/
theorem load_at {ops : Array Oper} {rest : List Oper} {o : Oper} {a : Act} {w : World} {Q : Exit → Act → World → Prop} (hgd : o.guard = none) (x : Operand) (ho : o.op = .load 26 x)
    (g : Nat) (hx : a.eval x = .pointer (some ⟨g, 0, none⟩)) (s : List Int) (hs : s.length = 32) (hg : At w g s)
    (h : wpList Try.prog ops Q rest (a.put o.dst (agg s)) w) : wpList Try.prog ops Q (o :: rest) a w :=
  wpList_load_row hgd 26 x ho g hx 26 _ _ _ hg Try.underlying26 rfl (by rw [info_sec]; simp [u8s, hs]) h

/-- the same behind '&&' or '||', where the guard says yes -/
theorem load_at_g {ops : Array Oper} {rest : List Oper} {o : Oper} {a : Act} {w : World} {Q : Exit → Act → World → Prop} (hw : Region.wanted o (yielded ops a.tmps) = true) (x : Operand) (ho : o.op = .load 26 x)
    (g : Nat) (hx : a.eval x = .pointer (some ⟨g, 0, none⟩)) (s : List Int) (hs : s.length = 32) (hg : At w g s)
    (h : wpList Try.prog ops Q rest (a.put o.dst (agg s)) w) : wpList Try.prog ops Q (o :: rest) a w :=
  wpList_step fun K hK => by
    rw [if_pos hw]
    exact wp_load_row 26 x ho g hx 26 _ _ _ hg Try.underlying26 rfl (by rw [info_sec]; simp [u8s, hs]) (hK _ _ h)
theorem at_other {w : World} {g k : Nat} {s : List Int} {cs : Array Value} (h : At w k s) (hk : k ≠ g) : At (w.setRow g cs) k s := by
  unfold At at *
  rw [setRow_other w g k cs hk]
  exact h
/-- a whole sector into a block that holds one -/
theorem store_at {ops : Array Oper} {rest : List Oper} {o : Oper} {a : Act} {w : World} {Q : Exit → Act → World → Prop} (hgd : o.guard = none) (x y : Operand) (ho : o.op = .store 26 x y) (hd : o.dst = none)
    (g : Nat) (s old : List Int) (hx : a.eval x = .pointer (some ⟨g, 0, none⟩)) (hy : a.eval y = agg s) (hs : s.length = 32) (hold : old.length = 32) (hg : At w g old)
    (h : ∀ w', At w' g s → Below g w w' → (∀ k t, k ≠ g → At w k t → At w' k t) → wpList Try.prog ops Q rest a w') : wpList Try.prog ops Q (o :: rest) a w := by
  have hl : (u8s s).toArray.size = 32 := by simp [u8s, hs]
  refine wpList_store_row hgd 26 x y ho g (u8s s).toArray hx hy 26 _ hg (by rw [info_sec, hl]) (by simp [u8s, hs, hold]) (by simp only [List.all_toArray]; exact List.all_eq_true.2 (one_ints .u8 s)) ?_
  rw [hd]
  exact h _ (setRow_heap w g _ _ _ _ hg) ((Below.refl g w).trans ⟨rfl, rfl, rfl, by simp [World.setRow], fun k hk => setRow_other w g k _ (by omega)⟩) (fun k t hk ht => at_other ht hk)
/-- a function that returns a sector -/
theorem ret_sec {fn : Func} {p : Tmp} {R : Ending → World → Prop} {a : Act} {w : World} (h : fn.results = #[.cell p 26]) (g : Nat) (s : List Int) (hp : a.tmps.getD p undef = .pointer (some ⟨g, 0, none⟩)) (hs : s.length = 32) (hg : At w g s)
    (hd : a.defers = []) (hR : R (.returned (agg s)) w) : bodyPost Try.prog fn R .ret a w :=
  bodyPost_ret (results_cell_row h a.tmps w g _ _ _ _ hp hg Try.underlying26 rfl (by rw [info_sec]; simp [u8s, hs])) hd hR
/-- a function that returns a sector and one more value -/
theorem ret_sec2 {fn : Func} {p q : Tmp} {R : Ending → World → Prop} {a : Act} {w : World} (h : fn.results = #[.cell p 26, .tmp q]) (g : Nat) (s : List Int) (v : Value) (hp : a.tmps.getD p undef = .pointer (some ⟨g, 0, none⟩)) (hq : a.tmps.getD q undef = v) (hs : s.length = 32) (hg : At w g s)
    (hd : a.defers = []) (hR : R (.returned (.tuple #[agg s, v])) w) : bodyPost Try.prog fn R .ret a w := by
  refine bodyPost_ret (v := .tuple #[agg s, v]) ?_ hd hR
  have hp' : a.tmps[p]?.getD undef = .pointer (some ⟨g, 0, none⟩) := by simpa using hp
  have hq' : a.tmps[q]?.getD undef = v := by simpa using hq
  have hl := run_loadVar_row (P := Try.prog) w g _ 26 _ _ _ hg Try.underlying26 rfl (by rw [info_sec]; simp [u8s, hs])
  simp [results, h, hp', hq', asAddr, hl]
theorem lit_zero : (#[Value.int IntKind.u8 0, Value.int IntKind.u8 0, Value.int IntKind.u8 0, Value.int IntKind.u8 0, Value.int IntKind.u8 0, Value.int IntKind.u8 0, Value.int IntKind.u8 0, Value.int IntKind.u8 0, Value.int IntKind.u8 0, Value.int IntKind.u8 0, Value.int IntKind.u8 0, Value.int IntKind.u8 0, Value.int IntKind.u8 0, Value.int IntKind.u8 0, Value.int IntKind.u8 0, Value.int IntKind.u8 0, Value.int IntKind.u8 0, Value.int IntKind.u8 0, Value.int IntKind.u8 0, Value.int IntKind.u8 0, Value.int IntKind.u8 0, Value.int IntKind.u8 0, Value.int IntKind.u8 0, Value.int IntKind.u8 0, Value.int IntKind.u8 0, Value.int IntKind.u8 0, Value.int IntKind.u8 0, Value.int IntKind.u8 0, Value.int IntKind.u8 0, Value.int IntKind.u8 0, Value.int IntKind.u8 0, Value.int IntKind.u8 0] : Array Value) = (u8s zero32).toArray := by kernel_rfl
/-- a block just made, all zero -/
theorem at_lit (w : World) : At (w.alloc (.cells #[Value.int IntKind.u8 0, Value.int IntKind.u8 0, Value.int IntKind.u8 0, Value.int IntKind.u8 0, Value.int IntKind.u8 0, Value.int IntKind.u8 0, Value.int IntKind.u8 0, Value.int IntKind.u8 0, Value.int IntKind.u8 0, Value.int IntKind.u8 0, Value.int IntKind.u8 0, Value.int IntKind.u8 0, Value.int IntKind.u8 0, Value.int IntKind.u8 0, Value.int IntKind.u8 0, Value.int IntKind.u8 0, Value.int IntKind.u8 0, Value.int IntKind.u8 0, Value.int IntKind.u8 0, Value.int IntKind.u8 0, Value.int IntKind.u8 0, Value.int IntKind.u8 0, Value.int IntKind.u8 0, Value.int IntKind.u8 0, Value.int IntKind.u8 0, Value.int IntKind.u8 0, Value.int IntKind.u8 0, Value.int IntKind.u8 0, Value.int IntKind.u8 0, Value.int IntKind.u8 0, Value.int IntKind.u8 0, Value.int IntKind.u8 0] 26)) w.heap.size zero32 := by
  rw [lit_zero]
  exact at_new w zero32
end Go.Proofs.Ytkbnfofklofkoaa.dsk
/- What the reference's Fail and Read give. -/
namespace Go.Proofs.Ytkbnfofklofkoaa.dsk
set_option maxRecDepth 100000
open Go.ChangeShapes Go.WideShapes Go.ChangeAt Go.RowKit
open Go.Proofs.Ytkbnfofklofkoaa.rows
open Go.Proofs.Ytkbnfofklofkoaa.sec
set_option linter.unusedVariables false
set_option linter.unusedSimpArgs false

def fail (st : St) (zs : List Int) : St := { st with bad := zs, asked := 0 }
end Go.Proofs.Ytkbnfofklofkoaa.dsk
/- What the reference's Read gives. -/
namespace Go.Proofs.Ytkbnfofklofkoaa.dsk
set_option maxRecDepth 100000
open Go.ChangeShapes Go.WideShapes Go.ChangeAt Go.RowKit
open Go.Proofs.Ytkbnfofklofkoaa.rows
open Go.Proofs.Ytkbnfofklofkoaa.sec
set_option linter.unusedVariables false
set_option linter.unusedSimpArgs false

theorem wr_range {w : World} {b o : Nat} {x : Wr} (h : w.rangeAt b o x.c) : w.cell? ⟨b, o, none⟩ = some (.int .i64 x.pos) ∧ w.rangeAt b (o + 1) (u8s x.s) := by
  refine ⟨by have := h 0 _ rfl; simpa using this, ?_⟩
  exact range_left (range_mid (k := 1) h)
end Go.Proofs.Ytkbnfofklofkoaa.dsk
/- The makings of a slice as steps of a region that draws its order, the worlds behind them named. -/
namespace Go.Proofs.Ytkbnfofklofkoaa.dsk
set_option maxRecDepth 100000
open Go.ChangeShapes Go.WideShapes Go.ChangeAt Go.RowKit
open Go.Proofs.Ytkbnfofklofkoaa.rows
open Go.Proofs.Ytkbnfofklofkoaa.sec
set_option linter.unusedVariables false
set_option linter.unusedSimpArgs false

theorem own_later {w w' : World} {B : Nat} {e : TypeId} {sz n : Nat} {v : Value} {cs : List Value} (h : Own w B e sz v n cs) (hb : Below w.heap.size w w') : Own w' B e sz v n cs := by
  refine ⟨h.1, ?_⟩
  rcases h.2 with h2 | ⟨g, cap, cur, hv, h3, h4, h5⟩
  · exact Or.inl h2
  · exact Or.inr ⟨g, cap, cur, hv, h3, (hb.block g (Array.getElem?_eq_some_iff.1 h4).1).trans h4, h5⟩
end Go.Proofs.Ytkbnfofklofkoaa.dsk
