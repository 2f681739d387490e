/- What the reference's Fail and Read give. -/
import Derived.Test.YteobhljkjgocdaaDskAt
namespace Go.Proofs.Yteobhljkjgocdaa.dsk
open Go.ChangeShapes Go.WideShapes Go.ChangeAt Go.RowKit
open Go.Proofs.Yteobhljkjgocdaa.rows
open Go.Proofs.Yteobhljkjgocdaa.sec
set_option linter.unusedVariables false
set_option linter.unusedSimpArgs false

def fail (st : St) (zs : List Int) : St := { st with bad := zs, asked := 0 }
set_option maxHeartbeats 1600000 in
theorem rfail (S : Nat → Prop) (g : Nat) (st : St) (w : World) (h : RefIs w S g st) (p : Option Addr) (n c : Nat) (zs : List Int) (hz : Rd w 1 (.slice p n c) n (i64s zs)) (hn : n ≤ 900) :
    Calls Try.prog 41 #[.pointer (some ⟨g, 0, none⟩), .slice p n c] w fun e w' => e = .returned (.tuple #[]) ∧ RefIs w' (grow S w w') g (fail st zs) ∧ Touch (· = g) w w' := by
  obtain ⟨vs, vw, vl, vb, h⟩ := h
  have hzl : zs.length = n := by have := hz.cells; simpa [i64s] using this
  have HA := Lib.hid h
  have HZ := Lib.hid hzl
  have HR := Lib.hid (hz.later (below_alloc (Below.refl _ w) (.cells #[] 3)))
  have hlt := h.lt
  clear h hz hzl
  go_enter Try.func41, Try.ntmps41
  go_wp2_with (at_builtin; refine ap_rd elem_ints rfl (.tmp 5) (.tmp 6) rfl w.heap.size _ 0 [] rfl (own_made' _ _ _ _ rfl (Nat.le_refl _)) _ n _ rfl HR.out (one_ints .i64 zs) (by omega) (by rw [size_alloc]; omega) ?_; intro pb cb wb ho hb2; have HO2 := Lib.hid ho; clear ho; have hrb := row_later (row_alloc HA.out.row _) hb2 hlt; have c4b : wb.cell? ⟨g, 4, none⟩ = some vb := cell_row hrb 4 _ rfl; have z4b := frozen_row hrb 4; have c5b : wb.cell? ⟨g, 5, none⟩ = some (.int .i64 st.asked) := cell_row hrb 5 _ rfl; have z5b := frozen_row hrb 5; have HRB := Lib.hid hrb; clear hrb)
  have hT0 : Touch (· = g) w wb := ((Touch.refl (· = g) w).alloc _).trans' (Touch.of_below' hb2) (fun i hi => Or.inr hi)
  have hT : Touch (· = g) w ((wb.setCell ⟨g, 4, none⟩ (.slice pb n cb)).setCell ⟨g, 5, none⟩ (.int .i64 0)) := Touch.setCell (S := (· = g)) (Touch.setCell (S := (· = g)) hT0 ⟨g, 4, none⟩ rfl _) ⟨g, 5, none⟩ rfl _
  have ho := HO2.out
  rw [Nat.zero_add, List.nil_append] at ho
  have hi := (own_inS ho)
  go_end0
  refine ⟨rfl, ⟨_, _, _, _, setCell_heap (setCell_heap HRB.out _) _, Or.inl HA.out.own, (HA.out.keepSafe hT).1, (HA.out.keepSafe hT).2, (HA.out.keepWait hT).1, (HA.out.keepWait hT).2, HA.out.keepLog hT, ?_, ?_⟩, hT⟩
  · have := HZ.out
    show Rd _ 1 _ zs.length _
    rw [this]
    exact Rd.set (Rd.set ho.rd (hi.mono fun b hb => by have := hb.1; omega)) (hi.mono fun b hb => by have := hb.1; omega)
  · refine hi.mono fun b hb => ⟨Or.inr ⟨hb.1, by rw [size_set, size_set]; exact hb.2⟩, by have := hb.1; omega⟩
end Go.Proofs.Yteobhljkjgocdaa.dsk
