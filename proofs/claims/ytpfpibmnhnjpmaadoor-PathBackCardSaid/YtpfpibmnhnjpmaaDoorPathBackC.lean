/- What PathBack wants, part 3. -/
import Derived.Test.YtpfpibmnhnjpmaaDoorPathBackB
import Derived.Deep.WholeRow
import Derived.Deep.Cut
/- knows of layer 4, over what the code's functions give. -/
namespace Go.Proofs.YtpfpibmnhnjpmaaDoor.sec
set_option maxRecDepth 100000
open Go.ChangeShapes Go.WideShapes Go.ChangeAt Go.RowKit
open Go.Proofs.YtpfpibmnhnjpmaaDoor.rows
set_option linter.unusedVariables false

abbrev agg (s : List Int) : Value := .agg (u8s s).toArray
def zero32 : List Int := List.replicate 32 0
theorem sec_zero : Sec zero32 := by
  refine ⟨by simp [zero32], fun x hx => ?_⟩
  have := List.eq_of_mem_replicate hx
  omega
def TornIs (f : Nat) : Prop := ∀ (s o : List Int) (w : World), Sec s → Sec o →
  Calls Tryd.prog f #[agg s, agg o] w fun e w' => e = .returned (agg (o.take 16 ++ s.drop 16)) ∧ Below w.heap.size w w'
def ZeroIs (f : Nat) : Prop := ∀ (s : List Int) (w : World), Sec s →
  Calls Tryd.prog f #[agg s] w fun e w' => e = .returned (.bool (decide (s = zero32))) ∧ Below w.heap.size w w'
def OfIs (f : Nat) : Prop := ∀ (p : Option Addr) (n c : Nat) (bs : List Int) (w : World), Bytes bs → Rd w 1 (.slice p n c) n (u8s bs) → n ≤ 32 →
  Calls Tryd.prog f #[.slice p n c] w fun e w' => e = .returned (.tuple #[agg (bs ++ List.replicate (32 - n) 0), .bool true]) ∧ Below w.heap.size w w'

def s12 : List Int := [1, 2] ++ List.replicate 30 0
theorem sec12 : Sec s12 := by
  refine ⟨by decide, fun x hx => ?_⟩
  rcases List.mem_append.1 hx with hx | hx
  · simp at hx; omega
  · have := List.eq_of_mem_replicate hx; omega
theorem unl_33 : (unl (spr (List.replicate 33 0)) [] 2).length = 2 := by decide
theorem rd_lit (w : World) (e : TypeId) (sz n : Nat) (cs : Array Value) (h : cs.size = n * sz) (h0 : 0 < n) (hn : n ≤ 1000) : Rd (w.alloc (.cells cs e)) sz (.slice (some ⟨w.heap.size, 0, none⟩) n n) n cs.toList := by
  refine Or.inr ⟨w.heap.size, 0, n, rfl, h0, Nat.le_refl _, by unfold maxLen; omega, by simp, by simp [h], ?_⟩
  intro i u hi
  rw [World.cell?_alloc_new, Nat.zero_add]
  simpa using hi
theorem bytes12 : Bytes [1, 2] := by intro x hx; simp at hx; omega
theorem bytes33 : Bytes (List.replicate 33 0) := by intro x hx; have := List.eq_of_mem_replicate hx; omega
theorem of12 : ([1, 2] : List Int) ++ List.replicate (32 - 2) 0 = s12 := rfl
theorem torn12 : s12.take 16 ++ zero32.drop 16 = s12 := by decide
theorem not12 : decide (s12 = zero32) = false := by decide
theorem made33 : (madeCells (Value.int .u8 0).cells (33 * 1)).toList = u8s (List.replicate 33 0) := by kernel_rfl
theorem secsNil : Secs [] := by simp [Secs]
end Go.Proofs.YtpfpibmnhnjpmaaDoor.sec
