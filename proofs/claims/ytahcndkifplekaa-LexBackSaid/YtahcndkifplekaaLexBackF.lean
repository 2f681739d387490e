/- What LexBack wants, part 6. -/
import Derived.Test.YtahcndkifplekaaLexBackB
import Derived.Great.BuildSlice
set_option linter.unusedVariables false
set_option linter.unusedSimpArgs false
namespace Go.Proofs.Ytahcndkifplekaa
namespace dsk
set_option maxRecDepth 100000
open Go.ChangeShapes Go.WideShapes Go.ChangeAt Go.RowKit
open rows
open sec
theorem fill_all : ∀ (l : List Value) (k : Nat) (A : Array Value), A.size = k + l.length → ((l.zipIdx k).foldl (fun cs x => cs.setIfInBounds (0 + x.2) x.1) A).toList = A.toList.take k ++ l
 | [], k, A, h => by
  simp only [List.zipIdx_nil, List.foldl_nil, List.append_nil]
  rw [List.take_of_length_le]
  simp at h ⊢; omega
 | c :: t, k, A, h => by
  rw [List.zipIdx_cons, List.foldl_cons, fill_all t (k + 1) _ (by simp at h ⊢; omega)]
  have hk : k < A.toList.length := by simp at h ⊢; omega
  simp only [Nat.zero_add, Array.toList_setIfInBounds]
  rw [List.take_succ_eq_append_getElem (by simpa using hk), List.take_set_of_le (Nat.le_refl k)]
  simp
theorem fill_one (sz : Nat) (cs : List Value) (v : Value) (hv : v.cells = cs.toArray) (hs : cs.length = sz) (old : Array Value) (ho : old.size = sz) : Instr.fill (fun i => some (i * sz, sz)) old [(0, v)] = some cs.toArray := by
 unfold Instr.fill
 simp only [hv, Nat.zero_mul, Nat.zero_add, List.size_toArray, hs, ho, ne_eq, not_true_eq_false, decide_false, Bool.false_or, Nat.lt_irrefl, gt_iff_lt, Bool.false_eq_true, if_false]
 unfold Instr.fill
 congr 1
 apply Array.ext'
 have := fill_all cs 0 old (by rw [ho, hs]; omega)
 simpa using this
theorem wp_build_one {t e : TypeId} {sz by_ : Nat} {z : Value} (E : Elem t e sz by_ z) (hsz : sz ≤ 1000) {o : Oper} {a : Act} {w : World} {K : Act → World → Prop} {Q : Exit → Act → World → Prop} (x : Operand) (ho : o.op = .buildSlice t 1 #[(0, x)])
  (cs : List Value) (hx : (a.eval x).cells = cs.toArray) (hs : cs.length = sz) (h : K (a.put o.dst (.slice (some ⟨w.heap.size, 0, none⟩) 1 1)) (w.alloc (.cells cs.toArray e))) : o.wp Try.prog a w K Q := by
 obtain ⟨ie, hi, hz0, hz1, hz2⟩ := info_parts E.info
 have := E.pos
 refine wp_buildSlice t e 1 #[(0, x)] ho cs.toArray ie _ E.und hi hz0 (by rw [hz1]; omega) (by rw [hz1]; omega) ?_ h
 rw [hz1]
 simp only [List.map_toArray, List.map_cons, List.map_nil]
 exact fill_one sz cs _ hx hs _ (by simp)
theorem build_one {t e : TypeId} {sz by_ : Nat} {z : Value} (E : Elem t e sz by_ z) (hsz : sz ≤ 1000) {ops : Array Oper} {rest : List Oper} {o : Oper} {a : Act} {w : World} {Q : Exit → Act → World → Prop} (hgd : o.guard = none) (x : Operand) (ho : o.op = .buildSlice t 1 #[(0, x)])
  (cs : List Value) (hx : (a.eval x).cells = cs.toArray) (hs : cs.length = sz) (h : wpList Try.prog ops Q rest (a.put o.dst (.slice (some ⟨w.heap.size, 0, none⟩) 1 1)) (w.alloc (.cells cs.toArray e))) : wpList Try.prog ops Q (o :: rest) a w :=
 wpList_plain hgd fun K hK => wp_build_one E hsz x ho cs hx hs (hK _ _ h)
theorem rd_laid (w : World) (e : TypeId) (sz : Nat) (cs : List Value) (h : cs.length = sz) : Rd (w.alloc (.cells cs.toArray e)) sz (.slice (some ⟨w.heap.size, 0, none⟩) 1 1) 1 cs := by
 have := rd_one w e sz cs.toArray (by simpa using h)
 simpa using this
end dsk
namespace dsk
set_option maxRecDepth 100000
open Go.ChangeShapes Go.WideShapes Go.ChangeAt Go.RowKit
open rows
open sec
def w0 : Wr := ⟨0, zero32, 0, 0, 0⟩
end dsk
end Go.Proofs.Ytahcndkifplekaa
