/- What AllocFree wants, part 11. -/
import Derived.Test.YtpckdjnddoaffaaAllocFreeB
import Derived.Deep.WholeRow
import Derived.Deep.Cut
/- knows of layer 4, over what the code's functions give. -/
namespace Go.Proofs.Ytpckdjnddoaffaa.sec
set_option maxRecDepth 100000
open Go.ChangeShapes Go.WideShapes Go.ChangeAt Go.RowKit
open Go.Proofs.Ytpckdjnddoaffaa.rows
set_option linter.unusedVariables false

abbrev agg (s : List Int) : Value := .agg (u8s s).toArray
def zero32 : List Int := List.replicate 32 0
theorem sec_zero : Sec zero32 := by
  refine ⟨by simp [zero32], fun x hx => ?_⟩
  have := List.eq_of_mem_replicate hx
  omega
def TornIs (f : Nat) : Prop := ∀ (s o : List Int) (w : World), Sec s → Sec o →
  Calls Try.prog f #[agg s, agg o] w fun e w' => e = .returned (agg (o.take 16 ++ s.drop 16)) ∧ Below w.heap.size w w'
def ZeroIs (f : Nat) : Prop := ∀ (s : List Int) (w : World), Sec s →
  Calls Try.prog f #[agg s] w fun e w' => e = .returned (.bool (decide (s = zero32))) ∧ Below w.heap.size w w'
def OfIs (f : Nat) : Prop := ∀ (p : Option Addr) (n c : Nat) (bs : List Int) (w : World), Bytes bs → Rd w 1 (.slice p n c) n (u8s bs) → n ≤ 32 →
  Calls Try.prog f #[.slice p n c] w fun e w' => e = .returned (.tuple #[agg (bs ++ List.replicate (32 - n) 0), .bool true]) ∧ Below w.heap.size w w'

/-- a whole sector into the block that was made last -/
theorem store_new {ops : Array Oper} {rest : List Oper} {o : Oper} {a : Act} {Q : Exit → Act → World → Prop} (hgd : o.guard = none) (x y : Operand) (ho : o.op = .store 51 x y)
    (w1 : World) (s : List Int) (old : Array Value) (hx : a.eval x = .pointer (some ⟨w1.heap.size, 0, none⟩)) (hy : a.eval y = agg s) (hs : s.length = 32) (hold : old.size = 32)
    (h : wpList Try.prog ops Q rest (a.put o.dst undef) (w1.alloc (.cells (u8s s).toArray 51))) : wpList Try.prog ops Q (o :: rest) a (w1.alloc (.cells old 51)) := by
  have hl : (u8s s).toArray.size = 32 := by simp [u8s, hs]
  refine wpList_store_row hgd 51 x y ho _ (u8s s).toArray hx hy 51 old (heap_alloc_new _ _) (by rw [info_sec, hl]) (by rw [hold, hl]) (by simp only [List.all_toArray]; exact List.all_eq_true.2 (one_ints .u8 s)) ?_
  rw [World.setRow_alloc_new]
  exact h
/-- the sector s lies in block g -/
def At (w : World) (g : Nat) (s : List Int) : Prop := w.heap[g]? = some (.cells (u8s s).toArray 51)
theorem At.later {w w' : World} {g : Nat} {s : List Int} (h : At w g s) (k : Below w.heap.size w w') : At w' g s := (k.block g (Array.getElem?_eq_some_iff.1 h).1).trans h
theorem At.alloc {w : World} {g : Nat} {s : List Int} (h : At w g s) (o : Obj) : At (w.alloc o) g s := h.later (below_alloc (Below.refl _ _) o)
theorem at_new (w : World) (s : List Int) : At (w.alloc (.cells (u8s s).toArray 51)) w.heap.size s := heap_alloc_new _ _
theorem At.range {w : World} {g : Nat} {s : List Int} (h : At w g s) : w.rangeAt g 0 (u8s s) := by
  have := World.rangeAt_of_block h 0 (u8s s).toArray.size
  simpa using this
theorem At.cell {w : World} {g : Nat} {s : List Int} (h : At w g s) {i : Nat} (hi : i < s.length) : w.cell? ⟨g, i, none⟩ = some (.int .u8 s[i]) := by
  have := h.range i (.int .u8 s[i]) (by simp [u8s, hi])
  rwa [Nat.zero_add] at this
/-- a load of a whole sector -/
theorem load_at {ops : Array Oper} {rest : List Oper} {o : Oper} {a : Act} {w : World} {Q : Exit → Act → World → Prop} (hgd : o.guard = none) (x : Operand) (ho : o.op = .load 51 x)
    (g : Nat) (hx : a.eval x = .pointer (some ⟨g, 0, none⟩)) (s : List Int) (hs : s.length = 32) (hg : At w g s)
    (h : wpList Try.prog ops Q rest (a.put o.dst (agg s)) w) : wpList Try.prog ops Q (o :: rest) a w :=
  wpList_load_row hgd 51 x ho g hx 51 _ _ _ hg Try.underlying51 rfl (by rw [info_sec]; simp [u8s, hs]) h

/-- the same behind '&&' or '||', where the guard says yes -/
theorem load_at_g {ops : Array Oper} {rest : List Oper} {o : Oper} {a : Act} {w : World} {Q : Exit → Act → World → Prop} (hw : Region.wanted o (yielded ops a.tmps) = true) (x : Operand) (ho : o.op = .load 51 x)
    (g : Nat) (hx : a.eval x = .pointer (some ⟨g, 0, none⟩)) (s : List Int) (hs : s.length = 32) (hg : At w g s)
    (h : wpList Try.prog ops Q rest (a.put o.dst (agg s)) w) : wpList Try.prog ops Q (o :: rest) a w :=
  wpList_step fun K hK => by
    rw [if_pos hw]
    exact wp_load_row 51 x ho g hx 51 _ _ _ hg Try.underlying51 rfl (by rw [info_sec]; simp [u8s, hs]) (hK _ _ h)
def s12 : List Int := [1, 2] ++ List.replicate 30 0
theorem sec12 : Sec s12 := by
  refine ⟨by decide, fun x hx => ?_⟩
  rcases List.mem_append.1 hx with hx | hx
  · simp at hx; omega
  · have := List.eq_of_mem_replicate hx; omega
theorem unl_33 : (unl (spr (List.replicate 33 0)) [] 2).length = 2 := by decide
theorem rd_lit (w : World) (e : TypeId) (sz n : Nat) (cs : Array Value) (h : cs.size = n * sz) (h0 : 0 < n) (hn : n ≤ 1000) : Rd (w.alloc (.cells cs e)) sz (.slice (some ⟨w.heap.size, 0, none⟩) n n) n cs.toList := by
  refine Or.inr ⟨w.heap.size, 0, n, rfl, h0, Nat.le_refl _, by unfold maxLen; omega, by simp, by simp [h], ?_⟩
  intro i u hi
  rw [World.cell?_alloc_new, Nat.zero_add]
  simpa using hi
theorem bytes12 : Bytes [1, 2] := by intro x hx; simp at hx; omega
theorem bytes33 : Bytes (List.replicate 33 0) := by intro x hx; have := List.eq_of_mem_replicate hx; omega
theorem of12 : ([1, 2] : List Int) ++ List.replicate (32 - 2) 0 = s12 := rfl
theorem torn12 : s12.take 16 ++ zero32.drop 16 = s12 := by decide
theorem not12 : decide (s12 = zero32) = false := by decide
theorem made33 : (madeCells (Value.int .u8 0).cells (33 * 1)).toList = u8s (List.replicate 33 0) := by kernel_rfl
theorem secsNil : Secs [] := by simp [Secs]
end Go.Proofs.Ytpckdjnddoaffaa.sec
