/- What LayoutInodes wants, part 4. -/
import Derived.Test.YtkbnfofklofkoaaLayoutInodesC
import Derived.Laws.CopyOwn
import Derived.Deep.RegionLaw
import Derived.Lib.LazyBuf
/- What the code's small functions of layer 4 give. -/
namespace Go.Proofs.Ytkbnfofklofkoaa.sec
set_option maxRecDepth 100000
open Go.ChangeShapes Go.WideShapes Go.ChangeAt Go.RowKit
open Go.Proofs.Ytkbnfofklofkoaa.rows
set_option linter.unusedVariables false

def fits (i k : Int) : Prop := 0 ≤ i ∧ 0 ≤ k ∧ i + k ≤ 32
instance (i k : Int) : Decidable (fits i k) := by unfold fits; infer_instance
theorem lit_zero : (#[Value.int IntKind.u8 0, Value.int IntKind.u8 0, Value.int IntKind.u8 0, Value.int IntKind.u8 0, Value.int IntKind.u8 0, Value.int IntKind.u8 0, Value.int IntKind.u8 0, Value.int IntKind.u8 0, Value.int IntKind.u8 0, Value.int IntKind.u8 0, Value.int IntKind.u8 0, Value.int IntKind.u8 0, Value.int IntKind.u8 0, Value.int IntKind.u8 0, Value.int IntKind.u8 0, Value.int IntKind.u8 0, Value.int IntKind.u8 0, Value.int IntKind.u8 0, Value.int IntKind.u8 0, Value.int IntKind.u8 0, Value.int IntKind.u8 0, Value.int IntKind.u8 0, Value.int IntKind.u8 0, Value.int IntKind.u8 0, Value.int IntKind.u8 0, Value.int IntKind.u8 0, Value.int IntKind.u8 0, Value.int IntKind.u8 0, Value.int IntKind.u8 0, Value.int IntKind.u8 0, Value.int IntKind.u8 0, Value.int IntKind.u8 0] : Array Value) = (u8s zero32).toArray := by kernel_rfl
theorem splice_u8s (L : List Int) (off : Nat) (cs : List Int) : splice (u8s L) off (u8s cs) = u8s (splice L off cs) := by
  simp [splice, u8s]
theorem at_other {w : World} {g k : Nat} {s : List Int} {cs : Array Value} (h : At w k s) (hk : k ≠ g) : At (w.setRow g cs) k s := by
  unfold At at *
  rw [setRow_other w g k cs hk]
  exact h
/-- a whole sector into a block that holds one -/
theorem store_at {ops : Array Oper} {rest : List Oper} {o : Oper} {a : Act} {w : World} {Q : Exit → Act → World → Prop} (hgd : o.guard = none) (x y : Operand) (ho : o.op = .store 26 x y) (hd : o.dst = none)
    (g : Nat) (s old : List Int) (hx : a.eval x = .pointer (some ⟨g, 0, none⟩)) (hy : a.eval y = agg s) (hs : s.length = 32) (hold : old.length = 32) (hg : At w g old)
    (h : ∀ w', At w' g s → Below g w w' → (∀ k t, k ≠ g → At w k t → At w' k t) → wpList Try.prog ops Q rest a w') : wpList Try.prog ops Q (o :: rest) a w := by
  have hl : (u8s s).toArray.size = 32 := by simp [u8s, hs]
  refine wpList_store_row hgd 26 x y ho g (u8s s).toArray hx hy 26 _ hg (by rw [info_sec, hl]) (by simp [u8s, hs, hold]) (by simp only [List.all_toArray]; exact List.all_eq_true.2 (one_ints .u8 s)) ?_
  rw [hd]
  exact h _ (setRow_heap w g _ _ _ _ hg) ((Below.refl g w).trans ⟨rfl, rfl, rfl, by simp [World.setRow], fun k hk => setRow_other w g k _ (by omega)⟩) (fun k t hk ht => at_other ht hk)
/-- a function that returns a sector -/
theorem ret_sec {fn : Func} {p : Tmp} {R : Ending → World → Prop} {a : Act} {w : World} (h : fn.results = #[.cell p 26]) (g : Nat) (s : List Int) (hp : a.tmps.getD p undef = .pointer (some ⟨g, 0, none⟩)) (hs : s.length = 32) (hg : At w g s)
    (hd : a.defers = []) (hR : R (.returned (agg s)) w) : bodyPost Try.prog fn R .ret a w :=
  bodyPost_ret (results_cell_row h a.tmps w g _ _ _ _ hp hg Try.underlying26 rfl (by rw [info_sec]; simp [u8s, hs])) hd hR
/-- a function that returns a sector and one more value -/
theorem ret_sec2 {fn : Func} {p q : Tmp} {R : Ending → World → Prop} {a : Act} {w : World} (h : fn.results = #[.cell p 26, .tmp q]) (g : Nat) (s : List Int) (v : Value) (hp : a.tmps.getD p undef = .pointer (some ⟨g, 0, none⟩)) (hq : a.tmps.getD q undef = v) (hs : s.length = 32) (hg : At w g s)
    (hd : a.defers = []) (hR : R (.returned (.tuple #[agg s, v])) w) : bodyPost Try.prog fn R .ret a w := by
  refine bodyPost_ret (v := .tuple #[agg s, v]) ?_ hd hR
  have hp' : a.tmps[p]?.getD undef = .pointer (some ⟨g, 0, none⟩) := by simpa using hp
  have hq' : a.tmps[q]?.getD undef = v := by simpa using hq
  have hl := run_loadVar_row (P := Try.prog) w g _ 26 _ _ _ hg Try.underlying26 rfl (by rw [info_sec]; simp [u8s, hs])
  simp [results, h, hp', hq', asAddr, hl]
end Go.Proofs.Ytkbnfofklofkoaa.sec
