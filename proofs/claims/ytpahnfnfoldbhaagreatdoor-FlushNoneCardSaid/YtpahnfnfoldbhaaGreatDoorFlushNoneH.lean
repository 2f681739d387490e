/- What FlushNone wants, part 8. -/
import Derived.Test.YtpahnfnfoldbhaaGreatDoorFlushNoneE
import Derived.Test.YtpahnfnfoldbhaaGreatDoorFlushNoneF
import Derived.Test.YtpahnfnfoldbhaaGreatDoorFlushNoneG
import Derived.Shelf.SlMaps.Clone
import Derived.Deep.Cut
set_option linter.unusedVariables false
set_option linter.unusedSimpArgs false
namespace Go.Proofs.YtpahnfnfoldbhaaGreatDoor
namespace dsk
set_option maxRecDepth 100000
open Go.ChangeShapes Go.WideShapes Go.ChangeAt Go.RowKit
open rows
open sec
open Go.Maps
end dsk
namespace dsk
open Go.ChangeShapes Go.WideShapes Go.ChangeAt Go.RowKit
open rows
open sec
open Go.Maps
theorem ca_kept (w w' : World) (F : Nat → Prop) (d : Value) (st : St) (h : CA w F d st) (k : Keeps F w w') : CA w' F d st := by
 obtain ⟨z, g, vs, vw, vn, vl, vf, hd, h⟩ := h
 exact ⟨z, g, vs, vw, vn, vl, vf, hd, codeAt_kept h k⟩
end dsk
namespace dsk
set_option maxRecDepth 100000
open Go.ChangeShapes Go.WideShapes Go.ChangeAt Go.RowKit
open rows
open sec
open Go.Maps
def Unmade (w : World) (d : Value) : Prop := d = .pointer none ∨ ∃ g, d = .pointer (some ⟨g, 0, none⟩) ∧ w.cell? ⟨g, 0, none⟩ = some (.pointer none) ∧ g < w.heap.size
theorem Unmade.later {w w' : World} {d : Value} (h : Unmade w d) (hb : Below w.heap.size w w') : Unmade w' d := by
 rcases h with h | ⟨g, h1, h2, h3⟩
 ·exact Or.inl h
 ·exact Or.inr ⟨g, h1, (hb.cell (p := ⟨g, 0, none⟩) h3).trans h2, Nat.lt_of_lt_of_le h3 hb.size⟩
theorem umade {w : World} {d : Value} (h : Unmade w d) : Calls Tryz.prog 86 #[d] w fun e w' => e = .returned (.bool false) ∧ w = w' := by
 rcases h with rfl | ⟨g, rfl, h2, _⟩
 ·exact cmade_nil w
 ·exact cmade_no g w h2
theorem uread {w : World} {d : Value} (h : Unmade w d) (i : Int) : Calls Tryz.prog 48 #[d, .int .i64 i] w fun e w' => e = .returned (.tuple #[agg zero32, .int .i64 1]) ∧ Below w.heap.size w w' := by
 have hb0 := below_alloc (Below.refl w.heap.size w) (.cells (u8s zero32).toArray 84)
 have HM := Lib.hid (umade (h.later hb0))
 rw [← lit_zero] at hb0 HM
 have HB := Lib.hid hb0
 clear h hb0
 go_enter Tryz.func48, Tryz.ntmps48
 go_wp2_with (first | (go_at_call 86; refine HM.out.mono ?_; rintro e w0 ⟨rfl, rfl⟩) | (refine store_at rfl _ _ rfl rfl w.heap.size zero32 zero32 rfl (congrArg Value.agg lit_zero) (by decide) (by decide) (at_lit w) ?_; intro w2 hA hB2 _; have A2 := Lib.hid hA; clear hA))
 exact ret_sec2 rfl w.heap.size _ _ rfl rfl (by decide) A2.out rfl ⟨rfl, HB.out.trans hB2⟩
end dsk
namespace dsk
open Go.ChangeShapes Go.WideShapes Go.ChangeAt Go.RowKit
open rows
open sec
def z65 : List (List Int) := List.replicate 65 zero32
def LastAt (w : World) (g : Nat) (ss : List (List Int)) : Prop := w.heap[g]? = some (.cells (cellsOf ss).toArray 85 (0, 0))
theorem zero_last (w : World) : (zeroValue 85).run Tryz.prog w = .ok (.agg (cellsOf z65).toArray) w := by kernel_rfl
theorem LastAt.lt {w : World} {g : Nat} {ss : List (List Int)} (h : LastAt w g ss) : g < w.heap.size := (Array.getElem?_eq_some_iff.1 h).1
theorem LastAt.range {w : World} {g : Nat} {ss : List (List Int)} (h : LastAt w g ss) (hs : Secs ss) {k : Nat} (hk : k < ss.length) : w.rangeAt g (k * 32) (u8s ss[k]) := by
 intro i u hi
 have hl : i < 32 := by have := (List.getElem?_eq_some_iff.1 hi).1; rw [u8s_len, (hs _ (List.getElem_mem hk)).1] at this; exact this
 refine cell_row h _ _ ?_
 rw [List.getElem?_toArray, cellsOf_map]
 rw [chunk_at u8s 32 ss (fun x hx => by rw [u8s_len, (hs x hx).1]) k hk i hl]
 exact hi
theorem run_store_last {w : World} {g i : Nat} {ss : List (List Int)} (h : LastAt w g ss) (hs : Secs ss) (hi : i < ss.length) {s : List Int} (hl : Sec s) :
  (storeVar 84 ⟨g, i * 32, none⟩ (.agg (u8s s).toArray)).run Tryz.prog w = .ok () (w.setRow g (cellsOf (ss.set i s)).toArray) := by
 have h1 := run_storeCells_at (P := Tryz.prog) g (i * 32) 85 (u8s s) 0 (cellsOf ss).toArray w h (by simp [cellsOf_len hs, u8s_len, hl.1]; omega) (one_ints .u8 s)
 rw [Nat.add_zero, u8s_len, hl.1] at h1
 have e : (cellsOf ss).toArray.toList.take (i * 32) ++ u8s s ++ (cellsOf ss).toArray.toList.drop (i * 32 + 32) = cellsOf (ss.set i s) := by
  rw [cellsOf_map, cellsOf_map]
  exact put_chunk u8s 32 ss i s (fun y hy => by rw [u8s_len, (hs y hy).1]) (by rw [u8s_len, hl.1]) hi
 rw [e] at h1
 cases hq : Tryz.prog.info? 84 with
 | none => have := info_sec; simp [hq] at this
 | some q =>
  have hsz : q.size = 32 := by have := info_sec; simpa [hq] using this
  have hc : (Value.agg (u8s s).toArray).cells = (u8s s).toArray := rfl
  simp [storeVar, sizeOf, typeInfo, hq, hsz, hc, u8s_len, hl.1, h1]
theorem store_last {ops : Array Oper} {rest : List Oper} {o : Oper} {a : Act} {w : World} {Q : Exit → Act → World → Prop} (hgd : o.guard = none) (x y : Operand) (ho : o.op = .store 84 x y) (hd : o.dst = none)
  (g i : Nat) (hx : a.eval x = .pointer (some ⟨g, i * 32, none⟩)) (s : List Int) (hy : a.eval y = agg s) (hl : Sec s) (ss : List (List Int)) (hs : Secs ss) (hi : i < ss.length) (hg : LastAt w g ss)
  (h : ∀ w', LastAt w' g (ss.set i s) → Touch (· = g) w w' → wpList Tryz.prog ops Q rest a w') : wpList Tryz.prog ops Q (o :: rest) a w := by
 refine wpList_plain hgd fun K hK => ?_
 have hrun := run_store_last hg hs hi hl
 unfold agg at hy
 unfold Oper.wp execOp
 simp only [ho, hx, hy, Instr.storeAt, Instr.sureAddr, Sem.run_bind, Sem.run_pure, Result.andThen_ok, hrun]
 refine hK _ _ ?_
 rw [hd]
 exact h _ (setRow_heap w g _ _ _ _ hg) (touch_setRow w g _)
end dsk
end Go.Proofs.YtpahnfnfoldbhaaGreatDoor
