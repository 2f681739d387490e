/- What LayoutBack wants, part 15. -/
import Derived.Test.YtkbnfofklofkoaaLayoutBackB
import Derived.Test.YtkbnfofklofkoaaLayoutBackF
import Derived.Test.YtkbnfofklofkoaaLayoutBackH
import Derived.Test.YtkbnfofklofkoaaLayoutBackM
import Derived.Test.YtkbnfofklofkoaaLayoutBackN
import Derived.Lib.BufferWrite
import Derived.Deep.CutRange
import Derived.Deep.DrawnRows
/- What Entry, the code's and the reference's, gives. -/
namespace Go.Proofs.Ytkbnfofklofkoaa.ly
set_option maxRecDepth 100000
open Go.ChangeShapes Go.WideShapes Go.ChangeAt Go.RowKit
open Go.Proofs.Ytkbnfofklofkoaa.rows
open Go.Proofs.Ytkbnfofklofkoaa.sec
open Go.Proofs.Ytkbnfofklofkoaa.dsk (wf64 cell_row frozen_row setCell_heap row_later row_alloc)
set_option linter.unusedVariables false
set_option linter.unusedSimpArgs false

theorem run_copy_str {w : World} (ty : TypeId) (g off dLen dCap : Nat) (s : ByteArray) (old : List Int) (hg : At w g old) (hle : s.size ≤ dLen) (hfit : off + s.size ≤ old.length) :
    (Builtin.copy_ #[50, 9] ty #[.slice (some ⟨g, off, none⟩) dLen dCap, .string s]).run Try.prog w = .ok (goInt s.size) (w.setRow g (u8s (splice old off (bys s))).toArray) := by
  have h := Lib.run_copy_row_string (P := Try.prog) w 50 9 ty 5 g off dLen dCap s (u8s old).toArray 26 Try.underlying50 (by kernel_rfl) hg hle (by simpa [u8s] using hfit)
  have e : (u8s old).toArray.toList.take off ++ Lib.byteCells s.data.toList ++ (u8s old).toArray.toList.drop (off + s.size) = u8s (splice old off (bys s)) := by
    have e1 : Lib.byteCells s.data.toList = u8s (bys s) := by simp [Lib.byteCells, u8s, bys]
    have e2 : s.size = (u8s (bys s)).length := by simp [u8s, bys_len]
    rw [e1, e2, ← splice_u8s, List.append_assoc]; rfl
  rw [e] at h
  exact h
theorem step_copy_str {ops : Array Oper} {o : Oper} {a : Act} {w : World} {K : Act → World → Prop} {Q : Exit → Act → World → Prop} {E : Prop} (hgd : o.guard = none) (d s : Operand)
    (ho : o.op = .call { callee := .builtin .copy, args := #[d, s], argTypes := #[50, 9] }) (g off dLen dCap : Nat)
    (hd : a.eval d = .slice (some ⟨g, off, none⟩) dLen dCap) (t : ByteArray) (hs : a.eval s = .string t) (old : List Int) (hg : At w g old) (hle : t.size ≤ dLen) (hfit : off + t.size ≤ old.length)
    (h : ∀ w', At w' g (splice old off (bys t)) → Below g w w' → (∀ k, k ≠ g → w'.heap[k]? = w.heap[k]?) → K (a.put o.dst (goInt t.size)) w') :
    if Region.wanted o (yielded ops a.tmps) = true then Oper.wp Try.prog o a w K Q else E := by
  have hw : Region.wanted o (yielded ops a.tmps) = true := by simp [Region.wanted, hgd]
  rw [if_pos hw]
  have hrun := run_copy_str o.type g off dLen dCap t old hg hle hfit
  unfold Oper.wp
  simp [execOp, ho, resolve, invoke, builtin, hd, hs, hrun, Result.andThen]
  exact h _ (setRow_heap w g _ _ _ _ hg) ((Below.refl g w).trans ⟨rfl, rfl, rfl, by simp [World.setRow], fun k hk => setRow_other w g k _ (by omega)⟩) (fun k hk => setRow_other w g k _ hk)
/-- the entry lies in block g -/
def AtE (w : World) (g : Nat) (x : Ent) : Prop := w.heap[g]? = some (.cells #[.bool x.used, .int .i64 x.parent, .string x.name, .int .i64 x.target] 35)
theorem AtE.later {w w' : World} {g : Nat} {x : Ent} (h : AtE w g x) (k : Below w.heap.size w w') : AtE w' g x := (k.block g (Array.getElem?_eq_some_iff.1 h).1).trans h
theorem AtE.alloc {w : World} {g : Nat} {x : Ent} (h : AtE w g x) (o : Obj) : AtE (w.alloc o) g x := h.later (below_alloc (Below.refl _ _) o)
theorem atE_new (w : World) (x : Ent) : AtE (w.alloc (.cells #[.bool x.used, .int .i64 x.parent, .string x.name, .int .i64 x.target] 35)) w.heap.size x := heap_alloc_new _ _
theorem AtE.cell0 {w : World} {g : Nat} {x : Ent} (h : AtE w g x) : w.cell? ⟨g, 0, none⟩ = some (.bool x.used) := cell_row h 0 _ rfl
theorem AtE.cell1 {w : World} {g : Nat} {x : Ent} (h : AtE w g x) : w.cell? ⟨g, 1, none⟩ = some (.int .i64 x.parent) := cell_row h 1 _ rfl
theorem AtE.cell2 {w : World} {g : Nat} {x : Ent} (h : AtE w g x) : w.cell? ⟨g, 2, none⟩ = some (.string x.name) := cell_row h 2 _ rfl
theorem AtE.cell3 {w : World} {g : Nat} {x : Ent} (h : AtE w g x) : w.cell? ⟨g, 3, none⟩ = some (.int .i64 x.target) := cell_row h 3 _ rfl
theorem und_ent : Try.prog.underlying 35 = some (.struct (Try.prog.fieldsOf 35)) := by kernel_rfl
theorem info_ent : (Try.prog.info? 35).map (·.size) = some 4 := by kernel_rfl
theorem load_ent {ops : Array Oper} {rest : List Oper} {o : Oper} {a : Act} {w : World} {Q : Exit → Act → World → Prop} (hgd : o.guard = none) (p : Operand) (ho : o.op = .load 35 p)
    (g : Nat) (hp : a.eval p = .pointer (some ⟨g, 0, none⟩)) (x : Ent) (hg : AtE w g x)
    (h : wpList Try.prog ops Q rest (a.put o.dst (aggE x)) w) : wpList Try.prog ops Q (o :: rest) a w :=
  wpList_load_row hgd 35 p ho g hp 35 _ _ _ hg und_ent rfl (by rw [info_ent]; rfl) h
/-- the boxes of a function that takes an entry and returns a sector -/
structure BoxesE (w W : World) (x : Ent) (s : List Int) : Prop where
  ent : AtE W w.heap.size x
  out : At W (w.heap.size + 1) s
  below : Below w.heap.size w W
theorem boxesE (w : World) (x : Ent) : ∃ W, (w.alloc (.cells #[.bool x.used, .int .i64 x.parent, .string x.name, .int .i64 x.target] 35)).alloc (.cells (u8s zero32).toArray 26) = W ∧ BoxesE w W x zero32 :=
  ⟨_, rfl, (atE_new w x).alloc _, by have := at_new (w.alloc (.cells #[.bool x.used, .int .i64 x.parent, .string x.name, .int .i64 x.target] 35)) zero32; simpa using this, below_alloc (below_alloc (Below.refl _ _) _) _⟩
theorem BoxesE.later {w W W' : World} {x : Ent} {s : List Int} (h : BoxesE w W x s) (hb : Below W.heap.size W W') : BoxesE w W' x s := ⟨h.ent.later hb, h.out.later hb, below_trans h.below hb⟩
set_option maxRecDepth 100000 in
set_option maxHeartbeats 1600000 in
theorem entry_no (x : Ent) (hx : x.ok) (w : World) (hr : rightE x = false) :
    Calls Try.prog 14 #[aggE x] w fun e w' => e = .returned (.tuple #[agg zero32, .bool false]) ∧ Below w.heap.size w w' := by
  obtain ⟨W, hW, HB'⟩ := boxesE w x
  have HB := Lib.hid HB'
  have HX := Lib.hid hx
  have HR := Lib.hid fun w => rightE_any x hx w
  rw [hr] at HR
  clear HB' hx
  go_enter Try.func14, Try.ntmps14
  go_upto_region 1 with fail
  rw [lit_zero, hW]
  clear hW
  go_wp2_with (first | (refine load_ent rfl _ rfl w.heap.size rfl x HB.out.ent ?_) | (go_at_call 18; refine (HR.out _).mono ?_; rintro e w2 ⟨rfl, hb2⟩; have HB2 := Lib.hid (HB.out.later hb2); clear hb2) | (refine store_at rfl _ _ rfl rfl (w.heap.size + 1) zero32 zero32 rfl (congrArg Value.agg lit_zero) (by decide) (by decide) HB2.out.out ?_; intro w3 hA hB3 _; have A3 := Lib.hid hA; clear hA))
  refine ret_sec2 rfl (w.heap.size + 1) _ _ rfl rfl (by decide) A3.out rfl ⟨rfl, ?_⟩
  exact HB2.out.below.trans (hB3.mono (by omega))
set_option maxRecDepth 100000 in
set_option maxHeartbeats 3200000 in
theorem entry_yes (x : Ent) (hx : x.ok) (w : World) (hr : rightE x = true) :
    Calls Try.prog 14 #[aggE x] w fun e w' => e = .returned (.tuple #[agg (entSec x), .bool true]) ∧ Below w.heap.size w w' := by
  obtain ⟨W, hW, HB'⟩ := boxesE w x
  have HB := Lib.hid HB'
  have HR := Lib.hid fun w => rightE_any x hx w
  have hn8 := (rightE_name hr).1
  obtain ⟨p0, p1, t0, t1⟩ := rightE_fine hr
  have HSP := Lib.hid (ent1_splice x (by omega))
  have HSL := Lib.hid (entSec_sec hr).1
  have n8 : (x.name.size : Int) ≤ 8 := by omega
  rw [hr] at HR
  clear HB' hx hr
  go_enter Try.func14, Try.ntmps14
  go_upto_region 1 with fail
  rw [lit_zero, hW]
  clear hW
  go_upto_region 3 with (first | (refine load_ent rfl _ rfl w.heap.size rfl x HB.out.ent ?_) | (go_at_call 18; refine (HR.out _).mono ?_; rintro e w2 ⟨rfl, hb2⟩; have HB2 := Lib.hid (HB.out.later hb2); clear hb2))
  have hc1 := HB2.out.ent.cell1
  have hc2 := HB2.out.ent.cell2
  have hc3 := HB2.out.ent.cell3
  go_upto_region 4 with (first | (refine store_at rfl _ _ rfl rfl w2.heap.size (ent1 x 0) zero32 rfl rfl (ent1_len x 0) (by decide) (at_lit w2) ?_; intro w3 hA hB3 hO3; have A3 := Lib.hid hA; clear hA hO3))
  have HB3 := Lib.hid (HB2.out.later ((below_alloc (Below.refl _ _) _).trans hB3))
  have hg : w.heap.size + 1 < w2.heap.size := (Array.getElem?_eq_some_iff.1 HB2.out.out).1
  obtain ⟨g, hgg⟩ : ∃ g, w2.heap.size = g := ⟨_, rfl⟩
  rw [hgg] at hg A3
  rw [hgg]
  clear hB3 HB hc1 hc2 hc3 hgg HB2
  have hc0 := HB3.out.ent.cell0
  cases hu : x.used with
  | false =>
    rw [hu] at hc0 HSP
    rw [if_neg (by decide)] at HSP
    go_upto_region 6 with fail
    obtain ⟨w4, hw4⟩ : ∃ w4, w3 = w4 := ⟨_, rfl⟩
    rw [hw4]
    rw [hw4] at A3 HB3
    have A4 := A3
    have HB4 := HB3
    clear hw4 hc0 A3 HB3
    have hc2 := HB4.out.ent.cell2
    go_region_law (refine step_copy_str rfl _ _ rfl g 16 16 16 rfl x.name rfl (ent1 x 0) A4.out (by omega) (by rw [ent1_len]; omega) ?_; intro w5 hA hB5 hO5; have A5 := Lib.hid hA; have HB5 : Hid (BoxesE w w5 x zero32) := Lib.hid ⟨(hO5 _ (by omega)).trans HB4.out.ent, (hO5 _ (by omega)).trans HB4.out.out, HB4.out.below.drew.trans (hB5.mono (by omega))⟩; clear hA hO5 hB5)
    rw [HSP.out] at A5
    go_wp2_with (first | (refine load_at rfl _ rfl g rfl _ HSL.out A5.out ?_) | (refine store_at rfl _ _ rfl rfl (w.heap.size + 1) _ zero32 rfl rfl HSL.out (by decide) HB5.out.out ?_; intro w6 hA hB6 _; have A6 := Lib.hid hA; clear hA))
    refine ret_sec2 rfl (w.heap.size + 1) _ _ rfl rfl HSL.out A6.out rfl ⟨rfl, ?_⟩
    exact HB5.out.below.trans (hB6.mono (by omega))
  | true =>
    rw [hu] at hc0 HSP
    rw [if_pos rfl] at HSP
    have cs := A3.out.cell (i := 0) (by rw [ent1_len]; omega)
    have cf : w3.frozen? ⟨g, 0, none⟩ = false := frozen_row A3.out 0
    go_upto_region 6 with fail
    have A4 : Hid (At (w3.setCell ⟨g, 0, none⟩ (.int .u8 1)) g (ent1 x 1)) := Lib.hid (at_setCell A3.out 1)
    have HB4 : Hid (BoxesE w (w3.setCell ⟨g, 0, none⟩ (.int .u8 1)) x zero32) := Lib.hid ⟨(Below.heap_setCell _ _ _ _ (by simp; omega)).trans HB3.out.ent, at_setCell_other HB3.out.out (by omega) _, HB3.out.below.setCell (p := ⟨g, 0, none⟩) (by simp; omega) _⟩
    obtain ⟨w4, hw4⟩ : ∃ w4, w3.setCell ⟨g, 0, none⟩ (.int .u8 1) = w4 := ⟨_, rfl⟩
    rw [hw4]
    rw [hw4] at A4 HB4
    clear hw4 hc0 A3 HB3 cs cf
    have hc2 := HB4.out.ent.cell2
    go_region_law (refine step_copy_str rfl _ _ rfl g 16 16 16 rfl x.name rfl (ent1 x 1) A4.out (by omega) (by rw [ent1_len]; omega) ?_; intro w5 hA hB5 hO5; have A5 := Lib.hid hA; have HB5 : Hid (BoxesE w w5 x zero32) := Lib.hid ⟨(hO5 _ (by omega)).trans HB4.out.ent, (hO5 _ (by omega)).trans HB4.out.out, HB4.out.below.drew.trans (hB5.mono (by omega))⟩; clear hA hO5 hB5)
    rw [HSP.out] at A5
    go_wp2_with (first | (refine load_at rfl _ rfl g rfl _ HSL.out A5.out ?_) | (refine store_at rfl _ _ rfl rfl (w.heap.size + 1) _ zero32 rfl rfl HSL.out (by decide) HB5.out.out ?_; intro w6 hA hB6 _; have A6 := Lib.hid hA; clear hA))
    refine ret_sec2 rfl (w.heap.size + 1) _ _ rfl rfl HSL.out A6.out rfl ⟨rfl, ?_⟩
    exact HB5.out.below.trans (hB6.mono (by omega))
def entV (x : Ent) : List Int := if rightE x then entSec x else zero32
theorem entV_sec (x : Ent) : Sec (entV x) := by
  unfold entV
  split
  · exact entSec_sec ‹_›
  · exact sec_zero
theorem entry_any (x : Ent) (hx : x.ok) (w : World) :
    Calls Try.prog 14 #[aggE x] w fun e w' => e = .returned (.tuple #[agg (entV x), .bool (rightE x)]) ∧ Below w.heap.size w w' := by
  cases hr : rightE x with
  | true => rw [entV, if_pos hr]; exact entry_yes x hx w hr
  | false => rw [entV, if_neg (by simp [hr])]; exact entry_no x hx w hr
end Go.Proofs.Ytkbnfofklofkoaa.ly
/- What Empty, super and root give. -/
namespace Go.Proofs.Ytkbnfofklofkoaa.ly
set_option maxRecDepth 100000
open Go.ChangeShapes Go.WideShapes Go.ChangeAt Go.RowKit
open Go.Proofs.Ytkbnfofklofkoaa.rows
open Go.Proofs.Ytkbnfofklofkoaa.sec
open Go.Proofs.Ytkbnfofklofkoaa.dsk (wf64 cell_row frozen_row setCell_heap row_later row_alloc rows_rd rows_made rows_set run_store_mid made_secs secs_zero secs_set Touch touch_setRow)
set_option linter.unusedVariables false
set_option linter.unusedSimpArgs false

def superSec : List Int := [70, 76, 79, 84] ++ List.replicate 28 0
def rootIno : Ino := ⟨2, 0, [0, 0, 0, 0]⟩
def rootSec : List Int := 2 :: List.replicate 31 0
theorem superSec_is : Sec superSec := ⟨by decide, by decide⟩
theorem rootSec_is : Sec rootSec := ⟨by decide, by decide⟩
theorem rootIno_ok : rootIno.ok := ⟨rfl, wf_byte (by simp [rootIno]), wf_byte (by simp [rootIno]), by intro z hz; simp [rootIno] at hz; subst hz; exact wf_byte (by omega)⟩
theorem rootIno_right : rightI rootIno = true := by decide
theorem rootIno_sec : inoV rootIno = rootSec := by rw [inoV, if_pos rootIno_right]; decide
theorem copy_str {ops : Array Oper} {rest : List Oper} {o : Oper} {a : Act} {w : World} {Q : Exit → Act → World → Prop} (hgd : o.guard = none) (d s : Operand)
    (ho : o.op = .call { callee := .builtin .copy, args := #[d, s], argTypes := #[50, 9] }) (g off dLen dCap : Nat)
    (hd : a.eval d = .slice (some ⟨g, off, none⟩) dLen dCap) (t : ByteArray) (hs : a.eval s = .string t) (old : List Int) (hg : At w g old) (hle : t.size ≤ dLen) (hfit : off + t.size ≤ old.length)
    (h : ∀ w', At w' g (splice old off (bys t)) → Below g w w' → (∀ k, k ≠ g → w'.heap[k]? = w.heap[k]?) → wpList Try.prog ops Q rest (a.put o.dst (goInt t.size)) w') : wpList Try.prog ops Q (o :: rest) a w := by
  refine wpList_plain hgd fun K hK => ?_
  have hrun := run_copy_str o.type g off dLen dCap t old hg hle hfit
  unfold Oper.wp
  simp [execOp, ho, resolve, invoke, builtin, hd, hs, hrun, Result.andThen]
  exact hK _ _ (h _ (setRow_heap w g _ _ _ _ hg) ((Below.refl g w).trans ⟨rfl, rfl, rfl, by simp [World.setRow], fun k hk => setRow_other w g k _ (by omega)⟩) (fun k hk => setRow_other w g k _ hk))
/-- a sector into the middle of a block of sectors -/
theorem store_mid {w : World} {ops : Array Oper} {rest : List Oper} {o : Oper} {a : Act} {Q : Exit → Act → World → Prop} (hgd : o.guard = none) (x y : Operand) (ho : o.op = .store 26 x y) (hd : o.dst = none)
    (g i : Nat) (hx : a.eval x = .pointer (some ⟨g, i * 32, none⟩)) (s : List Int) (hy : a.eval y = .agg (u8s s).toArray) (hl : Sec s) (ss : List (List Int)) (hs : Secs ss) (hi : i < ss.length) (hg : Go.Proofs.Ytkbnfofklofkoaa.dsk.Rows w g ss)
    (h : ∀ w', Go.Proofs.Ytkbnfofklofkoaa.dsk.Rows w' g (ss.set i s) → Below g w w' → wpList Try.prog ops Q rest a w') : wpList Try.prog ops Q (o :: rest) a w := by
  refine wpList_plain hgd fun K hK => ?_
  have hrun := run_store_mid hg hs hi hl
  unfold Oper.wp execOp
  simp only [ho, hx, hy, Instr.storeAt, Instr.sureAddr, Sem.run_bind, Sem.run_pure, Result.andThen_ok, hrun]
  exact hK (a.put o.dst undef) _ (by rw [hd]; exact h _ (rows_set hg) ((Below.refl g w).trans ⟨rfl, rfl, rfl, by simp [World.setRow], fun k hk => setRow_other w g k _ (by omega)⟩))
theorem two_boxes (w : World) : ∃ W, (w.alloc (.cells (u8s zero32).toArray 26)).alloc (.cells (u8s zero32).toArray 26) = W ∧ At W w.heap.size zero32 ∧ At W (w.heap.size + 1) zero32 ∧ Below w.heap.size w W :=
  ⟨_, rfl, (at_new w zero32).alloc _, by have := at_new (w.alloc (.cells (u8s zero32).toArray 26)) zero32; simpa using this, below_alloc (below_alloc (Below.refl _ _) _) _⟩
set_option maxRecDepth 100000 in
theorem super_any (w : World) : Calls Try.prog 34 #[] w fun e w' => e = .returned (agg superSec) ∧ Below w.heap.size w w' := by
  obtain ⟨W, hW, h1, h2, hb⟩ := two_boxes w
  have A1 := Lib.hid h1
  have A2 := Lib.hid h2
  have hsp : Hid (splice zero32 0 (bys { data := #[70, 76, 79, 84] }) = superSec) := Lib.hid (by decide)
  clear h1 h2
  go_enter Try.func34, Try.ntmps34
  go_upto_region 2 with fail
  rw [lit_zero, hW]
  clear hW
  go_wp2_with (first | (refine copy_str rfl _ _ rfl (w.heap.size + 1) 0 32 32 rfl { data := #[70, 76, 79, 84] } rfl zero32 A2.out (by decide) (by decide) ?_; intro w3 hA hB3 hO3; have A3 := Lib.hid hA; have A13 : Hid (At w3 w.heap.size zero32) := Lib.hid ((hO3 _ (by omega)).trans A1.out); rw [hsp.out] at A3; clear hA hO3) | (refine load_at rfl _ rfl (w.heap.size + 1) rfl superSec superSec_is.1 A3.out ?_) | (refine store_at rfl _ _ rfl rfl w.heap.size superSec zero32 rfl rfl superSec_is.1 (by decide) A13.out ?_; intro w4 hA hB4 _; have A4 := Lib.hid hA; clear hA))
  refine ret_sec rfl w.heap.size _ rfl superSec_is.1 A4.out rfl ⟨rfl, ?_⟩
  exact (hb.trans (hB3.mono (by omega))).trans hB4
set_option maxRecDepth 100000 in
theorem root_any (w : World) : Calls Try.prog 35 #[] w fun e w' => e = .returned (agg rootSec) ∧ Below w.heap.size w w' := by
  have A1 := Lib.hid (at_lit w)
  have HI := Lib.hid fun w => inode_any rootIno rootIno_ok w
  rw [rootIno_sec, rootIno_right] at HI
  go_enter Try.func35, Try.ntmps35
  go_upto_region 1 with fail
  rw [lit_zero]
  have A1' : Hid (At (w.alloc (.cells (u8s zero32).toArray 26)) w.heap.size zero32) := Lib.hid (at_new w zero32)
  have HB : Hid (Below w.heap.size w (w.alloc (.cells (u8s zero32).toArray 26))) := Lib.hid (below_alloc (Below.refl _ _) _)
  generalize w.alloc (.cells (u8s zero32).toArray 26) = U at *
  clear A1
  go_wp2_with (first | (go_at_call 7; refine (HI.out _).mono ?_; rintro e w2 ⟨rfl, hb2⟩; have HB2 := Lib.hid (below_trans HB.out hb2); have A12 := Lib.hid (A1'.out.later hb2); clear hb2) | (refine store_at rfl _ _ rfl rfl w2.heap.size rootSec zero32 rfl rfl rootSec_is.1 (by decide) (at_lit w2) ?_; intro w3 hA hB3 hO3; have A3 := Lib.hid hA; have HB3 := Lib.hid ((below_alloc HB2.out _).trans (hB3.mono HB2.out.size)); have A13 := Lib.hid (A12.out.later ((below_alloc (Below.refl _ _) _).trans hB3)); clear hA hB3 hO3) | (refine load_at rfl _ rfl w2.heap.size rfl rootSec rootSec_is.1 A3.out ?_) | (refine store_at rfl _ _ rfl rfl w.heap.size rootSec zero32 rfl rfl rootSec_is.1 (by decide) A13.out ?_; intro w4 hA hB4 _; have A4 := Lib.hid hA; clear hA))
  refine ret_sec rfl w.heap.size _ rfl rootSec_is.1 A4.out rfl ⟨rfl, ?_⟩
  exact HB3.out.trans hB4
def emptyImg : List (List Int) := ((List.replicate 65 zero32).set 0 superSec).set 1 rootSec
theorem emptyImg_secs : Secs emptyImg := secs_set (secs_set (secs_zero 65) superSec_is 0) rootSec_is 1
set_option maxRecDepth 100000 in
theorem empty_any (w : World) : Calls Try.prog 23 #[] w fun e w' => ∃ p c, e = .returned (.slice p 65 c) ∧ Rd w' 32 (.slice p 65 c) 65 (cellsOf emptyImg) ∧ Below w.heap.size w w' := by
  obtain ⟨i0, hi, hz0, hz1, hz2⟩ := info_parts elem_secs.info
  have HS := Lib.hid fun w => super_any w
  have HR := Lib.hid fun w => root_any w
  go_enter Try.func23, Try.ntmps23
  go_upto_region 2 with (at_make; refine wpList_make_full _ rfl _ _ 42 rfl w.heap.size 26 i0 (.agg (u8s (List.replicate 32 0)).toArray) 32 Try.underlying42 hi hz0 hz1 .i64 .i64 _ _ 65 rfl rfl rfl rfl (by rw [hz2]; omega) (by unfold maxLen; omega) (Nat.le_refl _) ?_; intro w3 ho3 hg3; rw [made_secs] at ho3; have hb3 := below_made hg3; have R3 := Lib.hid (rows_made ho3); clear ho3 hg3)
  have hlt : w.heap.size < w3.heap.size := (Array.getElem?_eq_some_iff.1 R3.out).1
  go_wp2_with (first | (go_at_call 34; refine (HS.out _).mono ?_; rintro e w4 ⟨rfl, hb4⟩; have R4 := Lib.hid (row_later R3.out hb4 hlt)) | (go_at_call 35; refine (HR.out _).mono ?_; rintro e w6 ⟨rfl, hb6⟩; have R6 := Lib.hid (row_later R5.out hb6 hlt5)) | (refine store_mid rfl _ _ rfl rfl w.heap.size 0 rfl superSec rfl superSec_is _ (secs_zero 65) (by simp) R4.out ?_; intro w5 hA hB5; have R5 := Lib.hid hA; have hlt5 : w.heap.size < w5.heap.size := (Array.getElem?_eq_some_iff.1 hA).1; clear hA) | (refine store_mid rfl _ _ rfl rfl w.heap.size 1 rfl rootSec rfl rootSec_is _ (secs_set (secs_zero 65) superSec_is 0) (by simp) R6.out ?_; intro w7 hA hB7; have R7 := Lib.hid hA; clear hA))
  go_ret
  exact ⟨_, _, rfl, rows_rd R7.out emptyImg_secs (by unfold maxLen; simp), (((hb3.trans (hb4.mono (by omega))).trans hB5).trans (hb6.mono (by omega))).trans hB7⟩
end Go.Proofs.Ytkbnfofklofkoaa.ly
/- What Mounts, the code's and the reference's, gives. -/
namespace Go.Proofs.Ytkbnfofklofkoaa.ly
set_option maxRecDepth 100000
open Go.ChangeShapes Go.WideShapes Go.ChangeAt Go.RowKit
open Go.Proofs.Ytkbnfofklofkoaa.rows
open Go.Proofs.Ytkbnfofklofkoaa.sec
open Go.Proofs.Ytkbnfofklofkoaa.dsk (wf64 cell_row frozen_row setCell_heap row_later row_alloc neq_yields eql_yields)
set_option linter.unusedVariables false
set_option linter.unusedSimpArgs false

def mountsB (ss : List (List Int)) : Bool := decide (ss.length = 65) && (decide (ss.getD 0 [] = superSec) && decide (ss.getD 1 [] = rootSec))
theorem two_of {w : World} {p : Option Addr} {c : Nat} {ss : List (List Int)} (hs : Secs ss) (hr : Rd w 32 (.slice p 65 c) 65 (cellsOf ss)) :
    ∃ b1 o1, p = some ⟨b1, o1, none⟩ ∧ 65 ≤ c ∧ (∀ w', Below w.heap.size w w' → w'.rangeAt b1 o1 (u8s (ss.getD 0 []))) ∧ (∀ w', Below w.heap.size w w' → w'.rangeAt b1 (o1 + 32) (u8s (ss.getD 1 []))) ∧
      Sec (ss.getD 0 []) ∧ Sec (ss.getD 1 []) ∧ mountsB ss = (decide (ss.getD 0 [] = superSec) && decide (ss.getD 1 [] = rootSec)) := by
  obtain ⟨b1, o1, rfl, hc1, hm1, hh1, hl1, HR1⟩ := row_at hr hs (j := 0) (by omega)
  have l0 : 0 < ss.length := by omega
  have l1 : 1 < ss.length := by omega
  have e0 : ss.getD 0 [] = ss[0] := by simp [List.getD, l0]
  have e1 : ss.getD 1 [] = ss[1] := by simp [List.getD, l1]
  refine ⟨b1, o1, rfl, hc1, fun w' hw => ?_, fun w' hw => ?_, ?_, ?_, ?_⟩
  · have h := Rd.rangeLater (HR1 0 l0) hh1 hw
    rw [Nat.zero_mul, Nat.add_zero] at h
    rw [e0]; exact h
  · have h := Rd.rangeLater (HR1 1 l1) hh1 hw
    rw [Nat.one_mul] at h
    rw [e1]; exact h
  · rw [e0]; exact hs _ (List.getElem_mem l0)
  · rw [e1]; exact hs _ (List.getElem_mem l1)
  · rw [mountsB, hl1]; rfl
theorem mountsB_no {ss : List (List Int)} (h : ss.length ≠ 65) : mountsB ss = false := by rw [mountsB, decide_eq_false h]; rfl
set_option maxRecDepth 100000 in
set_option maxHeartbeats 1600000 in
theorem mounts_any (p : Option Addr) (n c : Nat) (ss : List (List Int)) (w : World) (hs : Secs ss) (hr : Rd w 32 (.slice p n c) n (cellsOf ss)) (hn : n ≤ maxLen) :
    Calls Try.prog 25 #[.slice p n c] w fun e w' => e = .returned (.bool (mountsB ss)) ∧ Below w.heap.size w w' := by
  have hl : ss.length = n := by have h := hr.cells; rw [cellsOf_len hs] at h; omega
  have HS := Lib.hid fun w => super_any w
  have HT := Lib.hid fun w => root_any w
  by_cases h65 : n = 65
  · subst h65
    obtain ⟨b1, o1, rfl, hc1, R0', R1', S0', S1', hM⟩ := two_of hs hr
    have R0 := Lib.hid R0'
    have R1 := Lib.hid R1'
    have S0 := Lib.hid S0'
    have S1 := Lib.hid S1'
    have HM := Lib.hid hM
    clear hr hl hs R0' R1' S0' S1' hM
    generalize ss.getD 0 [] = s0 at *
    generalize ss.getD 1 [] = s1 at *
    have hg := guard_sec
    have Q0 := Lib.hid fun w => eqIn_sec w S0.out superSec_is
    have Q1 := Lib.hid fun w => eqIn_sec w S1.out rootSec_is
    generalize decide (s1 = rootSec) = d1 at Q1 HM
    cases hd : decide (s0 = superSec) with
    | true =>
      rw [hd] at Q0 HM
      clear hd
      go_enter Try.func25, Try.ntmps25
      go_wp2_with fail
      have h0 := Below.refl w.drew.heap.size w.drew
      refine wp_region_held_drew (S := ext w.drew) (by kernel_rfl) (Below.refl _ _) (fun hH0 => ?_)
      refine wpAnyH_take (i := 0) (oi := { dst := some 3, op := Op.move (Operand.tmp 0), type := 42, pos := "layout.go:150", after := #[], guard := none }) (v := ?_) rfl (by kernel_rfl) (by kernel_rfl) (by kernel_rfl) (fun _ _ _ h => h) (Or.inl ⟨by rfl, ?_⟩) (by assumption) ?_
      rotate_left
      · (intro w' hSw; go_simp; try with_reducible rfl)
      try simp only [Act.put, List.setIfInBounds_toArray, List.set_cons_zero, List.set_cons_succ]
      refine wpAnyH_take (i := 1) (oi := { dst := some 4, op := Op.call { callee := Callee.builtin Builtin.len, args := #[Operand.tmp 3], argTypes := #[42] }, type := 3, pos := "layout.go:150", after := #[{ on := 0, ground := Ground.data }], guard := none }) (v := ?_) rfl (by kernel_rfl) (by kernel_rfl) (by kernel_rfl) (fun _ _ _ h => h) (Or.inl ⟨by rfl, ?_⟩) (by assumption) ?_
      rotate_left
      · (intro w' hSw; go_simp; try with_reducible rfl)
      try simp only [Act.put, List.setIfInBounds_toArray, List.set_cons_zero, List.set_cons_succ]
      refine wpAnyH_take (i := 2) (oi := { dst := some 5, op := Op.binOp BinOp.eql 3 (Operand.tmp 4) (Operand.const (Value.int IntKind.i64 65)) 3, type := 4, pos := "layout.go:150", after := #[{ on := 1, ground := Ground.data }], guard := none }) (v := ?_) rfl (by kernel_rfl) (by kernel_rfl) (by kernel_rfl) (fun _ _ _ h => h) (Or.inl ⟨by rfl, ?_⟩) (by assumption) ?_
      rotate_left
      · (intro w' hSw; go_simp; try with_reducible rfl)
      try simp only [Act.put, List.setIfInBounds_toArray, List.set_cons_zero, List.set_cons_succ]
      refine wpAnyH_take (i := 3) (oi := { dst := some 6, op := Op.move (Operand.tmp 5), type := 4, pos := "layout.go:150", after := #[{ on := 2, ground := Ground.data }], guard := none }) (v := ?_) rfl (by kernel_rfl) (by kernel_rfl) (by kernel_rfl) (fun _ _ _ h => h) (Or.inl ⟨by rfl, ?_⟩) (by assumption) ?_
      rotate_left
      · (intro w' hSw; go_simp; try with_reducible rfl)
      try simp only [Act.put, List.setIfInBounds_toArray, List.set_cons_zero, List.set_cons_succ]
      refine wpAnyH_take (i := 4) (oi := { dst := some 7, op := Op.move (Operand.tmp 0), type := 42, pos := "layout.go:150", after := #[{ on := 3, ground := Ground.guard }], guard := some (3, true) }) (v := ?_) rfl (by kernel_rfl) (by kernel_rfl) (by kernel_rfl) (fun _ _ _ h => h) (Or.inl ⟨by rfl, ?_⟩) (by assumption) ?_
      rotate_left
      · (intro w' hSw; go_simp; try with_reducible rfl)
      try simp only [Act.put, List.setIfInBounds_toArray, List.set_cons_zero, List.set_cons_succ]
      refine wpAnyH_take (i := 5) (oi := { dst := some 8, op := Op.indexAddr 42 (Operand.tmp 7) (Operand.const (Value.int IntKind.i64 0)), type := 0, pos := "layout.go:150", after := #[{ on := 4, ground := Ground.data }, { on := 3, ground := Ground.guard }], guard := some (3, true) }) (v := ?_) rfl (by kernel_rfl) (by kernel_rfl) (by kernel_rfl) (fun _ _ _ h => h) (Or.inl ⟨by rfl, ?_⟩) (by assumption) ?_
      rotate_left
      · (intro w' hSw; go_simp; try with_reducible rfl)
      try simp only [Act.put, List.setIfInBounds_toArray, List.set_cons_zero, List.set_cons_succ]
      refine' wpAnyH_take (i := 6) (oi := { dst := some 9, op := Op.load 26 (Operand.tmp 8), type := 26, pos := "layout.go:150", after := #[{ on := 5, ground := Ground.data }, { on := 3, ground := Ground.guard }], guard := some (3, true) }) (v := _) rfl (by kernel_rfl) (by kernel_rfl) (by kernel_rfl) (fun _ _ _ h => h) (ld_sec (by rfl) _ rfl b1 o1 rfl s0 S0.out.1 (fun w' hw => R0.out w' (below_drew hw))) (by assumption) ?_
      try simp only [Act.put, List.setIfInBounds_toArray, List.set_cons_zero, List.set_cons_succ]
      -- 7
      refine wpAnyH_ready (rs := [7]) (by kernel_rfl) (by simp) ?_
      refine AllReadyH.cons (o := { dst := some 10, op := Op.call { callee := Callee.value (Operand.func 34), args := #[], argTypes := #[] }, type := 26, pos := "layout.go:150", after := #[{ on := 3, ground := Ground.chain }, { on := 3, ground := Ground.guard }], guard := some (3, true) }) rfl (fun K hK => ?_) AllReadyH.nil
      go_simp
      refine (HS.out _).mono ?_
      rintro e v1 ⟨rfl, hb1⟩
      have h1 := below_trans h0 hb1
      dsimp only
      refine hK.out _ _ ?_ (fun hHeld => ?_)
      · exact h1
      clear hK K
      try simp only [Act.put, List.setIfInBounds_toArray, List.set_cons_zero, List.set_cons_succ]
      refine wpAnyH_take (i := 8) (oi := { dst := some 11, op := Op.binOp BinOp.eql 26 (Operand.tmp 9) (Operand.tmp 10) 26, type := 4, pos := "layout.go:150", after := #[{ on := 6, ground := Ground.data }, { on := 7, ground := Ground.data }, { on := 3, ground := Ground.guard }], guard := some (3, true) }) (v := ?_) rfl (by kernel_rfl) (by kernel_rfl) (by kernel_rfl) (fun _ _ _ h => h) (Or.inl ⟨by rfl, ?_⟩) (by assumption) ?_
      rotate_left
      · (intro w' hSw; have hg := guard_sec; have hq := Q0.out w'; go_simp; try with_reducible rfl)
      try simp only [Act.put, List.setIfInBounds_toArray, List.set_cons_zero, List.set_cons_succ]
      refine wpAnyH_take (i := 9) (oi := { dst := some 12, op := Op.pick (Operand.tmp 6) (Operand.tmp 11) (Operand.const (Value.bool false)), type := 4, pos := "layout.go:150", after := #[{ on := 3, ground := Ground.data }, { on := 8, ground := Ground.data }], guard := none }) (v := ?_) rfl (by kernel_rfl) (by kernel_rfl) (by kernel_rfl) (fun _ _ _ h => h) (Or.inl ⟨by rfl, ?_⟩) (by assumption) ?_
      rotate_left
      · (intro w' hSw; go_simp; try with_reducible rfl)
      try simp only [Act.put, List.setIfInBounds_toArray, List.set_cons_zero, List.set_cons_succ]
      refine wpAnyH_take (i := 10) (oi := { dst := some 13, op := Op.move (Operand.tmp 12), type := 4, pos := "layout.go:150", after := #[{ on := 9, ground := Ground.data }, { on := 7, ground := Ground.chain }], guard := none }) (v := ?_) rfl (by kernel_rfl) (by kernel_rfl) (by kernel_rfl) (fun _ _ _ h => h) (Or.inl ⟨by rfl, ?_⟩) (by assumption) ?_
      rotate_left
      · (intro w' hSw; go_simp; try with_reducible rfl)
      try simp only [Act.put, List.setIfInBounds_toArray, List.set_cons_zero, List.set_cons_succ]
      refine wpAnyH_take (i := 11) (oi := { dst := some 14, op := Op.move (Operand.tmp 0), type := 42, pos := "layout.go:150", after := #[{ on := 10, ground := Ground.guard }], guard := some (10, true) }) (v := ?_) rfl (by kernel_rfl) (by kernel_rfl) (by kernel_rfl) (fun _ _ _ h => h) (Or.inl ⟨by rfl, ?_⟩) (by assumption) ?_
      rotate_left
      · (intro w' hSw; go_simp; try with_reducible rfl)
      try simp only [Act.put, List.setIfInBounds_toArray, List.set_cons_zero, List.set_cons_succ]
      refine wpAnyH_take (i := 12) (oi := { dst := some 15, op := Op.indexAddr 42 (Operand.tmp 14) (Operand.const (Value.int IntKind.i64 1)), type := 0, pos := "layout.go:150", after := #[{ on := 11, ground := Ground.data }, { on := 10, ground := Ground.guard }], guard := some (10, true) }) (v := ?_) rfl (by kernel_rfl) (by kernel_rfl) (by kernel_rfl) (fun _ _ _ h => h) (Or.inl ⟨by rfl, ?_⟩) (by assumption) ?_
      rotate_left
      · (intro w' hSw; go_simp; try with_reducible rfl)
      try simp only [Act.put, List.setIfInBounds_toArray, List.set_cons_zero, List.set_cons_succ]
      refine' wpAnyH_take (i := 13) (oi := { dst := some 16, op := Op.load 26 (Operand.tmp 15), type := 26, pos := "layout.go:150", after := #[{ on := 12, ground := Ground.data }, { on := 10, ground := Ground.guard }], guard := some (10, true) }) (v := _) rfl (by kernel_rfl) (by kernel_rfl) (by kernel_rfl) (fun _ _ _ h => h) (ld_sec (by rfl) _ rfl b1 (o1 + 32) rfl s1 S1.out.1 (fun w' hw => R1.out w' (below_drew hw))) (by assumption) ?_
      try simp only [Act.put, List.setIfInBounds_toArray, List.set_cons_zero, List.set_cons_succ]
      -- 14
      refine wpAnyH_ready (rs := [14]) (by kernel_rfl) (by simp) ?_
      refine AllReadyH.cons (o := { dst := some 17, op := Op.call { callee := Callee.value (Operand.func 35), args := #[], argTypes := #[] }, type := 26, pos := "layout.go:150", after := #[{ on := 10, ground := Ground.chain }, { on := 10, ground := Ground.guard }], guard := some (10, true) }) rfl (fun K hK => ?_) AllReadyH.nil
      go_simp
      refine (HT.out _).mono ?_
      rintro e v2 ⟨rfl, hb2⟩
      have h2 := below_trans h1 hb2
      dsimp only
      refine hK.out _ _ ?_ (fun hHeld => ?_)
      · exact h2
      clear hK K
      try simp only [Act.put, List.setIfInBounds_toArray, List.set_cons_zero, List.set_cons_succ]
      refine wpAnyH_take (i := 15) (oi := { dst := some 18, op := Op.binOp BinOp.eql 26 (Operand.tmp 16) (Operand.tmp 17) 26, type := 4, pos := "layout.go:150", after := #[{ on := 13, ground := Ground.data }, { on := 14, ground := Ground.data }, { on := 10, ground := Ground.guard }], guard := some (10, true) }) (v := ?_) rfl (by kernel_rfl) (by kernel_rfl) (by kernel_rfl) (fun _ _ _ h => h) (Or.inl ⟨by rfl, ?_⟩) (by assumption) ?_
      rotate_left
      · (intro w' hSw; have hg := guard_sec; have hq := Q1.out w'; go_simp; try with_reducible rfl)
      try simp only [Act.put, List.setIfInBounds_toArray, List.set_cons_zero, List.set_cons_succ]
      refine wpAnyH_take (i := 16) (oi := { dst := some 19, op := Op.pick (Operand.tmp 13) (Operand.tmp 18) (Operand.const (Value.bool false)), type := 4, pos := "layout.go:150", after := #[{ on := 10, ground := Ground.data }, { on := 15, ground := Ground.data }], guard := none }) (v := ?_) rfl (by kernel_rfl) (by kernel_rfl) (by kernel_rfl) (fun _ _ _ h => h) (Or.inl ⟨by rfl, ?_⟩) (by assumption) ?_
      rotate_left
      · (intro w' hSw; go_simp; try with_reducible rfl)
      try simp only [Act.put, List.setIfInBounds_toArray, List.set_cons_zero, List.set_cons_succ]
      refine wpAnyH_take (i := 17) (oi := { dst := some 2, op := Op.assign (Operand.tmp 19), type := 4, pos := "layout.go:150", after := #[{ on := 16, ground := Ground.data }, { on := 14, ground := Ground.chain }, { on := 0, ground := Ground.phase }, { on := 1, ground := Ground.phase }, { on := 2, ground := Ground.phase }, { on := 3, ground := Ground.phase }, { on := 4, ground := Ground.phase }, { on := 5, ground := Ground.phase }, { on := 6, ground := Ground.phase }, { on := 7, ground := Ground.phase }, { on := 8, ground := Ground.phase }, { on := 9, ground := Ground.phase }, { on := 10, ground := Ground.phase }, { on := 11, ground := Ground.phase }, { on := 12, ground := Ground.phase }, { on := 13, ground := Ground.phase }, { on := 14, ground := Ground.phase }, { on := 15, ground := Ground.phase }, { on := 16, ground := Ground.phase }], guard := none }) (v := ?_) rfl (by kernel_rfl) (by kernel_rfl) (by kernel_rfl) (fun _ _ _ h => h) (Or.inl ⟨by rfl, ?_⟩) (by assumption) ?_
      rotate_left
      · (intro w' hSw; go_simp; try with_reducible rfl)
      try simp only [Act.put, List.setIfInBounds_toArray, List.set_cons_zero, List.set_cons_succ]
      refine wpAnyH_done (by kernel_rfl) ?_ _
      go_wp2_with fail
      go_ret
      exact ⟨ret_bool (by rw [HM.out]; rfl), below_drew h2⟩
    | false =>
      rw [hd] at Q0 HM
      clear hd
      go_enter Try.func25, Try.ntmps25
      go_wp2_with fail
      have h0 := Below.refl w.drew.heap.size w.drew
      refine wp_region_held_drew (S := ext w.drew) (by kernel_rfl) (Below.refl _ _) (fun hH0 => ?_)
      refine wpAnyH_take (i := 0) (oi := { dst := some 3, op := Op.move (Operand.tmp 0), type := 42, pos := "layout.go:150", after := #[], guard := none }) (v := ?_) rfl (by kernel_rfl) (by kernel_rfl) (by kernel_rfl) (fun _ _ _ h => h) (Or.inl ⟨by rfl, ?_⟩) (by assumption) ?_
      rotate_left
      · (intro w' hSw; go_simp; try with_reducible rfl)
      try simp only [Act.put, List.setIfInBounds_toArray, List.set_cons_zero, List.set_cons_succ]
      refine wpAnyH_take (i := 1) (oi := { dst := some 4, op := Op.call { callee := Callee.builtin Builtin.len, args := #[Operand.tmp 3], argTypes := #[42] }, type := 3, pos := "layout.go:150", after := #[{ on := 0, ground := Ground.data }], guard := none }) (v := ?_) rfl (by kernel_rfl) (by kernel_rfl) (by kernel_rfl) (fun _ _ _ h => h) (Or.inl ⟨by rfl, ?_⟩) (by assumption) ?_
      rotate_left
      · (intro w' hSw; go_simp; try with_reducible rfl)
      try simp only [Act.put, List.setIfInBounds_toArray, List.set_cons_zero, List.set_cons_succ]
      refine wpAnyH_take (i := 2) (oi := { dst := some 5, op := Op.binOp BinOp.eql 3 (Operand.tmp 4) (Operand.const (Value.int IntKind.i64 65)) 3, type := 4, pos := "layout.go:150", after := #[{ on := 1, ground := Ground.data }], guard := none }) (v := ?_) rfl (by kernel_rfl) (by kernel_rfl) (by kernel_rfl) (fun _ _ _ h => h) (Or.inl ⟨by rfl, ?_⟩) (by assumption) ?_
      rotate_left
      · (intro w' hSw; go_simp; try with_reducible rfl)
      try simp only [Act.put, List.setIfInBounds_toArray, List.set_cons_zero, List.set_cons_succ]
      refine wpAnyH_take (i := 3) (oi := { dst := some 6, op := Op.move (Operand.tmp 5), type := 4, pos := "layout.go:150", after := #[{ on := 2, ground := Ground.data }], guard := none }) (v := ?_) rfl (by kernel_rfl) (by kernel_rfl) (by kernel_rfl) (fun _ _ _ h => h) (Or.inl ⟨by rfl, ?_⟩) (by assumption) ?_
      rotate_left
      · (intro w' hSw; go_simp; try with_reducible rfl)
      try simp only [Act.put, List.setIfInBounds_toArray, List.set_cons_zero, List.set_cons_succ]
      refine wpAnyH_take (i := 4) (oi := { dst := some 7, op := Op.move (Operand.tmp 0), type := 42, pos := "layout.go:150", after := #[{ on := 3, ground := Ground.guard }], guard := some (3, true) }) (v := ?_) rfl (by kernel_rfl) (by kernel_rfl) (by kernel_rfl) (fun _ _ _ h => h) (Or.inl ⟨by rfl, ?_⟩) (by assumption) ?_
      rotate_left
      · (intro w' hSw; go_simp; try with_reducible rfl)
      try simp only [Act.put, List.setIfInBounds_toArray, List.set_cons_zero, List.set_cons_succ]
      refine wpAnyH_take (i := 5) (oi := { dst := some 8, op := Op.indexAddr 42 (Operand.tmp 7) (Operand.const (Value.int IntKind.i64 0)), type := 0, pos := "layout.go:150", after := #[{ on := 4, ground := Ground.data }, { on := 3, ground := Ground.guard }], guard := some (3, true) }) (v := ?_) rfl (by kernel_rfl) (by kernel_rfl) (by kernel_rfl) (fun _ _ _ h => h) (Or.inl ⟨by rfl, ?_⟩) (by assumption) ?_
      rotate_left
      · (intro w' hSw; go_simp; try with_reducible rfl)
      try simp only [Act.put, List.setIfInBounds_toArray, List.set_cons_zero, List.set_cons_succ]
      refine' wpAnyH_take (i := 6) (oi := { dst := some 9, op := Op.load 26 (Operand.tmp 8), type := 26, pos := "layout.go:150", after := #[{ on := 5, ground := Ground.data }, { on := 3, ground := Ground.guard }], guard := some (3, true) }) (v := _) rfl (by kernel_rfl) (by kernel_rfl) (by kernel_rfl) (fun _ _ _ h => h) (ld_sec (by rfl) _ rfl b1 o1 rfl s0 S0.out.1 (fun w' hw => R0.out w' (below_drew hw))) (by assumption) ?_
      try simp only [Act.put, List.setIfInBounds_toArray, List.set_cons_zero, List.set_cons_succ]
      -- 7
      refine wpAnyH_ready (rs := [7]) (by kernel_rfl) (by simp) ?_
      refine AllReadyH.cons (o := { dst := some 10, op := Op.call { callee := Callee.value (Operand.func 34), args := #[], argTypes := #[] }, type := 26, pos := "layout.go:150", after := #[{ on := 3, ground := Ground.chain }, { on := 3, ground := Ground.guard }], guard := some (3, true) }) rfl (fun K hK => ?_) AllReadyH.nil
      go_simp
      refine (HS.out _).mono ?_
      rintro e v1 ⟨rfl, hb1⟩
      have h1 := below_trans h0 hb1
      dsimp only
      refine hK.out _ _ ?_ (fun hHeld => ?_)
      · exact h1
      clear hK K
      try simp only [Act.put, List.setIfInBounds_toArray, List.set_cons_zero, List.set_cons_succ]
      refine wpAnyH_take (i := 8) (oi := { dst := some 11, op := Op.binOp BinOp.eql 26 (Operand.tmp 9) (Operand.tmp 10) 26, type := 4, pos := "layout.go:150", after := #[{ on := 6, ground := Ground.data }, { on := 7, ground := Ground.data }, { on := 3, ground := Ground.guard }], guard := some (3, true) }) (v := ?_) rfl (by kernel_rfl) (by kernel_rfl) (by kernel_rfl) (fun _ _ _ h => h) (Or.inl ⟨by rfl, ?_⟩) (by assumption) ?_
      rotate_left
      · (intro w' hSw; have hg := guard_sec; have hq := Q0.out w'; go_simp; try with_reducible rfl)
      try simp only [Act.put, List.setIfInBounds_toArray, List.set_cons_zero, List.set_cons_succ]
      refine wpAnyH_take (i := 9) (oi := { dst := some 12, op := Op.pick (Operand.tmp 6) (Operand.tmp 11) (Operand.const (Value.bool false)), type := 4, pos := "layout.go:150", after := #[{ on := 3, ground := Ground.data }, { on := 8, ground := Ground.data }], guard := none }) (v := ?_) rfl (by kernel_rfl) (by kernel_rfl) (by kernel_rfl) (fun _ _ _ h => h) (Or.inl ⟨by rfl, ?_⟩) (by assumption) ?_
      rotate_left
      · (intro w' hSw; go_simp; try with_reducible rfl)
      try simp only [Act.put, List.setIfInBounds_toArray, List.set_cons_zero, List.set_cons_succ]
      refine wpAnyH_take (i := 10) (oi := { dst := some 13, op := Op.move (Operand.tmp 12), type := 4, pos := "layout.go:150", after := #[{ on := 9, ground := Ground.data }, { on := 7, ground := Ground.chain }], guard := none }) (v := ?_) rfl (by kernel_rfl) (by kernel_rfl) (by kernel_rfl) (fun _ _ _ h => h) (Or.inl ⟨by rfl, ?_⟩) (by assumption) ?_
      rotate_left
      · (intro w' hSw; go_simp; try with_reducible rfl)
      try simp only [Act.put, List.setIfInBounds_toArray, List.set_cons_zero, List.set_cons_succ]
      refine wpAnyH_take (i := 11) (oi := { dst := some 14, op := Op.move (Operand.tmp 0), type := 42, pos := "layout.go:150", after := #[{ on := 10, ground := Ground.guard }], guard := some (10, true) }) (v := undef) rfl (by kernel_rfl) (by kernel_rfl) (by kernel_rfl) (fun _ _ _ h => h) (Or.inr ⟨by rfl, rfl⟩) (by assumption) ?_
      try simp only [Act.put, List.setIfInBounds_toArray, List.set_cons_zero, List.set_cons_succ]
      refine wpAnyH_take (i := 12) (oi := { dst := some 15, op := Op.indexAddr 42 (Operand.tmp 14) (Operand.const (Value.int IntKind.i64 1)), type := 0, pos := "layout.go:150", after := #[{ on := 11, ground := Ground.data }, { on := 10, ground := Ground.guard }], guard := some (10, true) }) (v := undef) rfl (by kernel_rfl) (by kernel_rfl) (by kernel_rfl) (fun _ _ _ h => h) (Or.inr ⟨by rfl, rfl⟩) (by assumption) ?_
      try simp only [Act.put, List.setIfInBounds_toArray, List.set_cons_zero, List.set_cons_succ]
      refine wpAnyH_take (i := 13) (oi := { dst := some 16, op := Op.load 26 (Operand.tmp 15), type := 26, pos := "layout.go:150", after := #[{ on := 12, ground := Ground.data }, { on := 10, ground := Ground.guard }], guard := some (10, true) }) (v := undef) rfl (by kernel_rfl) (by kernel_rfl) (by kernel_rfl) (fun _ _ _ h => h) (Or.inr ⟨by rfl, rfl⟩) (by assumption) ?_
      try simp only [Act.put, List.setIfInBounds_toArray, List.set_cons_zero, List.set_cons_succ]
      refine wpAnyH_take (i := 14) (oi := { dst := some 17, op := Op.call { callee := Callee.value (Operand.func 35), args := #[], argTypes := #[] }, type := 26, pos := "layout.go:150", after := #[{ on := 10, ground := Ground.chain }, { on := 10, ground := Ground.guard }], guard := some (10, true) }) (v := undef) rfl (by kernel_rfl) (by kernel_rfl) (by kernel_rfl) (fun _ _ _ h => h) (Or.inr ⟨by rfl, rfl⟩) (by assumption) ?_
      try simp only [Act.put, List.setIfInBounds_toArray, List.set_cons_zero, List.set_cons_succ]
      refine wpAnyH_take (i := 15) (oi := { dst := some 18, op := Op.binOp BinOp.eql 26 (Operand.tmp 16) (Operand.tmp 17) 26, type := 4, pos := "layout.go:150", after := #[{ on := 13, ground := Ground.data }, { on := 14, ground := Ground.data }, { on := 10, ground := Ground.guard }], guard := some (10, true) }) (v := undef) rfl (by kernel_rfl) (by kernel_rfl) (by kernel_rfl) (fun _ _ _ h => h) (Or.inr ⟨by rfl, rfl⟩) (by assumption) ?_
      try simp only [Act.put, List.setIfInBounds_toArray, List.set_cons_zero, List.set_cons_succ]
      refine wpAnyH_take (i := 16) (oi := { dst := some 19, op := Op.pick (Operand.tmp 13) (Operand.tmp 18) (Operand.const (Value.bool false)), type := 4, pos := "layout.go:150", after := #[{ on := 10, ground := Ground.data }, { on := 15, ground := Ground.data }], guard := none }) (v := ?_) rfl (by kernel_rfl) (by kernel_rfl) (by kernel_rfl) (fun _ _ _ h => h) (Or.inl ⟨by rfl, ?_⟩) (by assumption) ?_
      rotate_left
      · (intro w' hSw; go_simp; try with_reducible rfl)
      try simp only [Act.put, List.setIfInBounds_toArray, List.set_cons_zero, List.set_cons_succ]
      refine wpAnyH_take (i := 17) (oi := { dst := some 2, op := Op.assign (Operand.tmp 19), type := 4, pos := "layout.go:150", after := #[{ on := 16, ground := Ground.data }, { on := 14, ground := Ground.chain }, { on := 0, ground := Ground.phase }, { on := 1, ground := Ground.phase }, { on := 2, ground := Ground.phase }, { on := 3, ground := Ground.phase }, { on := 4, ground := Ground.phase }, { on := 5, ground := Ground.phase }, { on := 6, ground := Ground.phase }, { on := 7, ground := Ground.phase }, { on := 8, ground := Ground.phase }, { on := 9, ground := Ground.phase }, { on := 10, ground := Ground.phase }, { on := 11, ground := Ground.phase }, { on := 12, ground := Ground.phase }, { on := 13, ground := Ground.phase }, { on := 14, ground := Ground.phase }, { on := 15, ground := Ground.phase }, { on := 16, ground := Ground.phase }], guard := none }) (v := ?_) rfl (by kernel_rfl) (by kernel_rfl) (by kernel_rfl) (fun _ _ _ h => h) (Or.inl ⟨by rfl, ?_⟩) (by assumption) ?_
      rotate_left
      · (intro w' hSw; go_simp; try with_reducible rfl)
      try simp only [Act.put, List.setIfInBounds_toArray, List.set_cons_zero, List.set_cons_succ]
      refine wpAnyH_done (by kernel_rfl) ?_ _
      go_wp2_with fail
      go_ret
      exact ⟨ret_bool (by rw [HM.out]; rfl), below_drew h1⟩
  · have HN := Lib.hid (mountsB_no (ss := ss) (by omega))
    have hne : ((n : Int) == 65) = false := by rw [beq_eq_false_iff_ne]; omega
    clear hr hl hs
    unfold maxLen at hn
    go_enter Try.func25, Try.ntmps25
    go_wp2_with fail
    go_quiet (fail)
    go_wp2_with fail
    go_ret
    exact ⟨ret_bool HN.out.symm, blw_drewN (Below.refl _ _) _⟩
end Go.Proofs.Ytkbnfofklofkoaa.ly
/- Steps that EntryOf's walks need. -/
namespace Go.Proofs.Ytkbnfofklofkoaa.ly
set_option maxRecDepth 100000
open Go.ChangeShapes Go.WideShapes Go.ChangeAt Go.RowKit
open Go.Proofs.Ytkbnfofklofkoaa.rows
open Go.Proofs.Ytkbnfofklofkoaa.sec
open Go.Proofs.Ytkbnfofklofkoaa.dsk (wf64 cell_row frozen_row setCell_heap row_later row_alloc ld_cell)
set_option linter.unusedVariables false
set_option linter.unusedSimpArgs false

theorem conv_rd1 {w : World} {p : Option Addr} {n c : Nat} {xs : List Int} (h : Rd w 1 (.slice p n c) n (u8s xs)) : (convert 50 9 (.slice p n c)).run Try.prog w = .ok (.string (strOfNums xs)) w := by
  rcases h with ⟨p', cap', h1, rfl, hx, hp⟩ | ⟨b, off, cap, h1, h2, h2a, h2b, h3, h4, h5⟩
  · cases h1
    obtain rfl : xs = [] := by cases xs with | nil => rfl | cons a t => simp [u8s] at hx
    cases p with
    | none => exact run_convert_bytes_nil w 50 5 Try.underlying50 Try.underlying5 0 c 9 Try.underlying9
    | some a =>
      rw [run_convert_bytes_string w 50 9 5 _ 0 c Try.underlying50 Try.underlying5 Try.underlying9, run_bytesToString w _ 0 c [] (by have := run_loadCells_list (P := Try.prog) w a [] (by simp); simpa using this), foldl_push_bytes]
      simp [strOfNums, ByteArray.empty, ByteArray.emptyWithCapacity]
      rfl
  · cases h1
    have hl : xs.length = n := by simpa [u8s] using h4
    exact run_convert_bytes_arg w 50 5 Try.underlying50 Try.underlying5 b off n c xs hl (fun i hi => h5 i _ (by simp [u8s, List.getD, show i < xs.length by omega])) 9 Try.underlying9
theorem step_conv {w : World} {ops : Array Oper} {o : Oper} {a : Act} {K : Act → World → Prop} {Q : Exit → Act → World → Prop} {F : Prop} (hw : Region.wanted o (yielded ops a.tmps) = true) (T U : TypeId) (x : Operand) (ho : o.op = .convert T U x)
    (u v : Value) (hx : a.eval x = u) (hv : (convert T U u).run Try.prog w = .ok v w) (h : K (a.put o.dst v) w) : if Region.wanted o (yielded ops a.tmps) = true then Oper.wp Try.prog o a w K Q else F := by
  rw [if_pos hw]
  unfold Oper.wp execOp
  simp only [ho, hx, Sem.run_bind, hv, Result.andThen_ok]
  exact h
theorem zero_ent : (Try.prog.info? 35).map (·.zero) = some (some (.agg #[.bool false, .int .i64 0, .string ByteArray.empty, .int .i64 0])) := by kernel_rfl
theorem step_alloc_ent {ops : Array Oper} {o : Oper} {a : Act} {w : World} {K : Act → World → Prop} {Q : Exit → Act → World → Prop} {F : Prop} (hw : Region.wanted o (yielded ops a.tmps) = true)
    (ho : o.op = .alloc 35) (h : ∀ b w', w.heap.size ≤ b → AtE w' b ent0 → Below w.heap.size w w' → K (a.put o.dst (.pointer (some ⟨b, 0, none⟩))) w') : if Region.wanted o (yielded ops a.tmps) = true then Oper.wp Try.prog o a w K Q else F := by
  rw [if_pos hw]
  have hz := zero_ent
  have hzr : (zeroValue 35).run Try.prog w = .ok (.agg #[.bool false, .int .i64 0, .string ByteArray.empty, .int .i64 0]) w := by
    cases hq : Try.prog.info? 35 with
    | none => simp [hq] at hz
    | some it =>
      have h0 : it.zero = some (.agg #[.bool false, .int .i64 0, .string ByteArray.empty, .int .i64 0]) := by simpa [hq] using hz
      simp [zeroValue, typeInfo, hq, h0]
  unfold Oper.wp execOp
  simp [ho, hzr, Instr.alloc, newVar, newRow, Value.cells]
  exact h _ _ (Nat.le_refl _) (heap_alloc_new _ _) (below_alloc (Below.refl _ _) _)
theorem step_store_ent {w : World} {ops : Array Oper} {o : Oper} {a : Act} {K : Act → World → Prop} {Q : Exit → Act → World → Prop} {F : Prop} (hw : Region.wanted o (yielded ops a.tmps) = true) (p y : Operand) (ho : o.op = .store 35 p y)
    (g : Nat) (hp : a.eval p = .pointer (some ⟨g, 0, none⟩)) (x : Ent) (hy : a.eval y = aggE x) (old : Ent) (hg : AtE w g old)
    (h : ∀ w', AtE w' g x → Below g w w' → (∀ k, k ≠ g → w'.heap[k]? = w.heap[k]?) → K (a.put o.dst undef) w') : if Region.wanted o (yielded ops a.tmps) = true then Oper.wp Try.prog o a w K Q else F := by
  rw [if_pos hw]
  exact wp_store_row 35 p y ho g #[.bool x.used, .int .i64 x.parent, .string x.name, .int .i64 x.target] hp hy 35 _ hg (by rw [info_ent]; rfl) rfl (by simp [Value.oneCell'])
    (h _ (setRow_heap w g _ _ _ _ hg) ((Below.refl g w).trans ⟨rfl, rfl, rfl, by simp [World.setRow], fun k hk => setRow_other w g k _ (by omega)⟩) (fun k hk => setRow_other w g k _ hk))
theorem store_ent {ops : Array Oper} {rest : List Oper} {o : Oper} {a : Act} {w : World} {Q : Exit → Act → World → Prop} (hgd : o.guard = none) (p y : Operand) (ho : o.op = .store 35 p y) (hd : o.dst = none)
    (g : Nat) (x old : Ent) (hp : a.eval p = .pointer (some ⟨g, 0, none⟩)) (hy : a.eval y = aggE x) (hg : AtE w g old)
    (h : ∀ w', AtE w' g x → Below g w w' → (∀ k, k ≠ g → w'.heap[k]? = w.heap[k]?) → wpList Try.prog ops Q rest a w') : wpList Try.prog ops Q (o :: rest) a w := by
  refine wpList_store_row hgd 35 p y ho g #[.bool x.used, .int .i64 x.parent, .string x.name, .int .i64 x.target] hp hy 35 _ hg (by rw [info_ent]; rfl) rfl (by simp [Value.oneCell']) ?_
  rw [hd]
  exact h _ (setRow_heap w g _ _ _ _ hg) ((Below.refl g w).trans ⟨rfl, rfl, rfl, by simp [World.setRow], fun k hk => setRow_other w g k _ (by omega)⟩) (fun k hk => setRow_other w g k _ hk)
theorem ret_ent2 {fn : Func} {p q : Tmp} {R : Ending → World → Prop} {a : Act} {w : World} (h : fn.results = #[.cell p 35, .tmp q]) (g : Nat) (x : Ent) (v : Value) (hp : a.tmps.getD p undef = .pointer (some ⟨g, 0, none⟩)) (hq : a.tmps.getD q undef = v) (hg : AtE w g x)
    (hd : a.defers = []) (hR : R (.returned (.tuple #[aggE x, v])) w) : bodyPost Try.prog fn R .ret a w := by
  refine bodyPost_ret (v := .tuple #[aggE x, v]) ?_ hd hR
  have hp' : a.tmps[p]?.getD undef = .pointer (some ⟨g, 0, none⟩) := by simpa using hp
  have hq' : a.tmps[q]?.getD undef = v := by simpa using hq
  have hl := run_loadVar_row (P := Try.prog) w g _ 35 _ _ _ hg und_ent rfl (by rw [info_ent]; rfl)
  simp [results, h, hp', hq', asAddr, hl]
/-- the boxes of a function that takes a sector and returns an entry -/
structure BoxesT (w W : World) (s : List Int) : Prop where
  sec : At W w.heap.size s
  ent : AtE W (w.heap.size + 1) ent0
  below : Below w.heap.size w W
theorem boxesT (w : World) (s : List Int) (hs : Sec s) : ∃ W, (w.alloc (.cells (u8s s).toArray 26)).alloc (.cells #[.bool false, .int .i64 0, .string { data := #[] }, .int .i64 0] 35) = W ∧ BoxesT w W s :=
  ⟨_, rfl, (at_new w s).alloc _, by have := atE_new (w.alloc (.cells (u8s s).toArray 26)) ent0; rw [show (w.alloc (.cells (u8s s).toArray 26)).heap.size = w.heap.size + 1 by simp] at this; exact this, below_alloc (below_alloc (Below.refl _ _) _) _⟩
theorem BoxesT.later {w W W' : World} {s : List Int} (h : BoxesT w W s) (hb : Below W.heap.size W W') : BoxesT w W' s := ⟨h.sec.later hb, h.ent.later hb, below_trans h.below hb⟩
theorem BoxesT.drew {w W : World} {s : List Int} (h : BoxesT w W s) : BoxesT w W.drew s := ⟨h.sec, h.ent, h.below.drew⟩
/-- what is known of the world in which the parts are read -/
structure Parts (w W wc : World) (s : List Int) (g : Nat) (x : Ent) : Prop where
  box : BoxesT w wc s
  ent : AtE wc g x
  up : W.heap.size ≤ g
end Go.Proofs.Ytkbnfofklofkoaa.ly
/- What the code's EntryOf gives. -/
namespace Go.Proofs.Ytkbnfofklofkoaa.ly
set_option maxRecDepth 100000
open Go.ChangeShapes Go.WideShapes Go.ChangeAt Go.RowKit
open Go.Proofs.Ytkbnfofklofkoaa.rows
open Go.Proofs.Ytkbnfofklofkoaa.sec
open Go.Proofs.Ytkbnfofklofkoaa.dsk (wf64 cell_row frozen_row setCell_heap row_later row_alloc ld_cell)
set_option linter.unusedVariables false
set_option linter.unusedSimpArgs false

theorem und_u8 : Try.prog.underlying 5 = some (.int .u8) := Try.underlying5
theorem wrap_byte {z : Int} (h : 0 ≤ z ∧ z < 256) : IntKind.i64.wrap z = z := by
  simp [IntKind.wrap, IntKind.signed, IntKind.bits]
  omega
set_option maxRecDepth 100000 in
set_option maxHeartbeats 3200000 in
theorem entryOf_any (s : List Int) (hs : Sec s) (w : World) :
    Calls Try.prog 16 #[agg s] w fun e w' => e = .returned (.tuple #[aggE (entOfV s), .bool (entOfB s)]) ∧ Below w.heap.size w w' := by
  obtain ⟨W, hW, HB'⟩ := boxesT w s hs
  have HB := Lib.hid HB'
  have HS := Lib.hid hs
  have hb0 := sec_getD hs 0
  have hb1 := sec_getD hs 1
  have hb2 := sec_getD hs 2
  have hb3 := sec_getD hs 3
  have HC0 := Lib.hid fun W' (hb : Below W.drew.heap.size W.drew W') => atD (HB'.drew.later hb).sec (i := 0) (by rw [hs.1]; omega)
  have HC1 := Lib.hid fun W' (hb : Below W.drew.heap.size W.drew W') => atD (HB'.drew.later hb).sec (i := 1) (by rw [hs.1]; omega)
  have HC2 := Lib.hid fun W' (hb : Below W.drew.heap.size W.drew W') => atD (HB'.drew.later hb).sec (i := 2) (by rw [hs.1]; omega)
  have HC3 := Lib.hid fun W' (hb : Below W.drew.heap.size W.drew W') => atD (HB'.drew.later hb).sec (i := 3) (by rw [hs.1]; omega)
  have HI := Lib.hid fun w => entry_any (entC s) (entC_ok hs) w
  have HVS := Lib.hid (entV_sec (entC s))
  have HE1 : Hid (entOfB s = true → entOfV s = entC s) := Lib.hid fun h => by rw [entOfV, if_pos h]
  have HE0 : Hid (entOfB s = false → entOfV s = ent0) := Lib.hid fun h => by rw [entOfV, if_neg (by simp [h])]
  have HOB : Hid (entOfB s = (rightE (entC s) && decide (entSec (entC s) = s))) := Lib.hid rfl
  have HV1 : Hid (rightE (entC s) = true → entV (entC s) = entSec (entC s)) := Lib.hid fun h => by rw [entV, if_pos h]
  have HE : Hid ((⟨s.getD 0 0 == 1, s.getD 1 0, strOfNums (cutOf s 16 (s.getD 3 0)), s.getD 2 0⟩ : Ent) = entC s) := Lib.hid rfl
  have HCU := Lib.hid fun W' => cut_is s 16 (s.getD 3 0) W' hs (by decide) (wf_byte hb3)
  clear HB' hs
  generalize s.getD 0 0 = k0 at hb0 HC0 HE
  generalize s.getD 1 0 = k1 at hb1 HC1 HE
  generalize s.getD 2 0 = k2 at hb2 HC2 HE
  generalize s.getD 3 0 = k3 at hb3 HC3 HE HCU
  obtain ⟨b00, b01⟩ := hb0
  obtain ⟨b10, b11⟩ := hb1
  obtain ⟨b20, b21⟩ := hb2
  obtain ⟨b30, b31⟩ := hb3
  have W1 : Hid (IntKind.i64.wrap k1 = k1) := Lib.hid (wrap_byte ⟨b10, b11⟩)
  have W2 : Hid (IntKind.i64.wrap k2 = k2) := Lib.hid (wrap_byte ⟨b20, b21⟩)
  have W3 : Hid (IntKind.i64.wrap k3 = k3) := Lib.hid (wrap_byte ⟨b30, b31⟩)
  go_enter Try.func16, Try.ntmps16
  go_upto_region 1 with fail
  clear hW
  go_cut [4] from 7 (fun ptr wc => ∃ g, ptr = .pointer (some ⟨g, 0, none⟩) ∧ Parts w W wc s g (entC s))
  case first =>
    have h0 := Below.refl W.drew.heap.size W.drew
    refine wp_region_held_drew (S := ext W.drew) (by kernel_rfl) (Below.refl _ _) (fun hH0 => ?_)
    refine wpAnyH_take (i := 0) (oi := { dst := some 7, op := Op.indexAddr 26 (Operand.tmp 1) (Operand.const (Value.int IntKind.i64 0)), type := 0, pos := "layout.go:114", after := #[], guard := none }) (v := ?_) rfl (by kernel_rfl) (by kernel_rfl) (by kernel_rfl) (fun _ _ _ h => h) (Or.inl ⟨by rfl, ?_⟩) (by assumption) ?_
    rotate_left
    · (intro w' hSw; go_simp; try with_reducible rfl)
    try simp only [Act.put, List.setIfInBounds_toArray, List.set_cons_zero, List.set_cons_succ]
    refine' wpAnyH_take (i := 1) (oi := { dst := some 8, op := Op.load 5 (Operand.tmp 7), type := 5, pos := "layout.go:114", after := #[{ on := 0, ground := Ground.data }], guard := none }) (v := _) rfl (by kernel_rfl) (by kernel_rfl) (by kernel_rfl) (fun _ _ _ h => h) (ld_cell (by rfl) 5 _ und_u8 rfl _ rfl w.heap.size 0 rfl _ (fun w' hw => HC0.out w' hw)) (by assumption) ?_
    try simp only [Act.put, List.setIfInBounds_toArray, List.set_cons_zero, List.set_cons_succ]
    refine wpAnyH_take (i := 2) (oi := { dst := some 9, op := Op.binOp BinOp.eql 5 (Operand.tmp 8) (Operand.const (Value.int IntKind.u8 1)) 5, type := 4, pos := "layout.go:114", after := #[{ on := 1, ground := Ground.data }], guard := none }) (v := ?_) rfl (by kernel_rfl) (by kernel_rfl) (by kernel_rfl) (fun _ _ _ h => h) (Or.inl ⟨by rfl, ?_⟩) (by assumption) ?_
    rotate_left
    · (intro w' hSw; go_simp; try with_reducible rfl)
    try simp only [Act.put, List.setIfInBounds_toArray, List.set_cons_zero, List.set_cons_succ]
    refine wpAnyH_take (i := 3) (oi := { dst := some 10, op := Op.indexAddr 26 (Operand.tmp 1) (Operand.const (Value.int IntKind.i64 1)), type := 0, pos := "layout.go:114", after := #[], guard := none }) (v := ?_) rfl (by kernel_rfl) (by kernel_rfl) (by kernel_rfl) (fun _ _ _ h => h) (Or.inl ⟨by rfl, ?_⟩) (by assumption) ?_
    rotate_left
    · (intro w' hSw; go_simp; try with_reducible rfl)
    try simp only [Act.put, List.setIfInBounds_toArray, List.set_cons_zero, List.set_cons_succ]
    refine' wpAnyH_take (i := 4) (oi := { dst := some 11, op := Op.load 5 (Operand.tmp 10), type := 5, pos := "layout.go:114", after := #[{ on := 3, ground := Ground.data }], guard := none }) (v := _) rfl (by kernel_rfl) (by kernel_rfl) (by kernel_rfl) (fun _ _ _ h => h) (ld_cell (by rfl) 5 _ und_u8 rfl _ rfl w.heap.size 1 rfl _ (fun w' hw => HC1.out w' hw)) (by assumption) ?_
    try simp only [Act.put, List.setIfInBounds_toArray, List.set_cons_zero, List.set_cons_succ]
    refine wpAnyH_take (i := 5) (oi := { dst := some 12, op := Op.convert 5 3 (Operand.tmp 11), type := 3, pos := "layout.go:114", after := #[{ on := 4, ground := Ground.data }], guard := none }) (v := ?_) rfl (by kernel_rfl) (by kernel_rfl) (by kernel_rfl) (fun _ _ _ h => h) (Or.inl ⟨by rfl, ?_⟩) (by assumption) ?_
    rotate_left
    · (intro w' hSw; have e := W1.out; go_simp; try with_reducible rfl)
    try simp only [Act.put, List.setIfInBounds_toArray, List.set_cons_zero, List.set_cons_succ]
    refine wpAnyH_take (i := 6) (oi := { dst := some 13, op := Op.indexAddr 26 (Operand.tmp 1) (Operand.const (Value.int IntKind.i64 2)), type := 0, pos := "layout.go:114", after := #[], guard := none }) (v := ?_) rfl (by kernel_rfl) (by kernel_rfl) (by kernel_rfl) (fun _ _ _ h => h) (Or.inl ⟨by rfl, ?_⟩) (by assumption) ?_
    rotate_left
    · (intro w' hSw; go_simp; try with_reducible rfl)
    try simp only [Act.put, List.setIfInBounds_toArray, List.set_cons_zero, List.set_cons_succ]
    refine' wpAnyH_take (i := 7) (oi := { dst := some 14, op := Op.load 5 (Operand.tmp 13), type := 5, pos := "layout.go:114", after := #[{ on := 6, ground := Ground.data }], guard := none }) (v := _) rfl (by kernel_rfl) (by kernel_rfl) (by kernel_rfl) (fun _ _ _ h => h) (ld_cell (by rfl) 5 _ und_u8 rfl _ rfl w.heap.size 2 rfl _ (fun w' hw => HC2.out w' hw)) (by assumption) ?_
    try simp only [Act.put, List.setIfInBounds_toArray, List.set_cons_zero, List.set_cons_succ]
    refine wpAnyH_take (i := 8) (oi := { dst := some 15, op := Op.convert 5 3 (Operand.tmp 14), type := 3, pos := "layout.go:114", after := #[{ on := 7, ground := Ground.data }], guard := none }) (v := ?_) rfl (by kernel_rfl) (by kernel_rfl) (by kernel_rfl) (fun _ _ _ h => h) (Or.inl ⟨by rfl, ?_⟩) (by assumption) ?_
    rotate_left
    · (intro w' hSw; have e := W2.out; go_simp; try with_reducible rfl)
    try simp only [Act.put, List.setIfInBounds_toArray, List.set_cons_zero, List.set_cons_succ]
    refine' wpAnyH_take (i := 9) (oi := { dst := some 16, op := Op.load 26 (Operand.tmp 1), type := 26, pos := "layout.go:114", after := #[], guard := none }) (v := _) rfl (by kernel_rfl) (by kernel_rfl) (by kernel_rfl) (fun _ _ _ h => h) (ld_sec (by rfl) _ rfl w.heap.size 0 rfl s HS.out.1 (fun w' hw => (HB.out.drew.later hw).sec.range)) (by assumption) ?_
    try simp only [Act.put, List.setIfInBounds_toArray, List.set_cons_zero, List.set_cons_succ]
    refine wpAnyH_take (i := 10) (oi := { dst := some 17, op := Op.indexAddr 26 (Operand.tmp 1) (Operand.const (Value.int IntKind.i64 3)), type := 0, pos := "layout.go:114", after := #[], guard := none }) (v := ?_) rfl (by kernel_rfl) (by kernel_rfl) (by kernel_rfl) (fun _ _ _ h => h) (Or.inl ⟨by rfl, ?_⟩) (by assumption) ?_
    rotate_left
    · (intro w' hSw; go_simp; try with_reducible rfl)
    try simp only [Act.put, List.setIfInBounds_toArray, List.set_cons_zero, List.set_cons_succ]
    refine' wpAnyH_take (i := 11) (oi := { dst := some 18, op := Op.load 5 (Operand.tmp 17), type := 5, pos := "layout.go:114", after := #[{ on := 10, ground := Ground.data }], guard := none }) (v := _) rfl (by kernel_rfl) (by kernel_rfl) (by kernel_rfl) (fun _ _ _ h => h) (ld_cell (by rfl) 5 _ und_u8 rfl _ rfl w.heap.size 3 rfl _ (fun w' hw => HC3.out w' hw)) (by assumption) ?_
    try simp only [Act.put, List.setIfInBounds_toArray, List.set_cons_zero, List.set_cons_succ]
    refine wpAnyH_take (i := 12) (oi := { dst := some 19, op := Op.convert 5 3 (Operand.tmp 18), type := 3, pos := "layout.go:114", after := #[{ on := 11, ground := Ground.data }], guard := none }) (v := ?_) rfl (by kernel_rfl) (by kernel_rfl) (by kernel_rfl) (fun _ _ _ h => h) (Or.inl ⟨by rfl, ?_⟩) (by assumption) ?_
    rotate_left
    · (intro w' hSw; have e := W3.out; go_simp; try with_reducible rfl)
    try simp only [Act.put, List.setIfInBounds_toArray, List.set_cons_zero, List.set_cons_succ]
    -- 13, 16
    refine wpAnyH_ready (rs := [13, 16]) (by kernel_rfl) (by simp) ?_
    refine AllReadyH.cons (o := { dst := some 20, op := Op.call { callee := Callee.value (Operand.func 30), args := #[Operand.tmp 16, Operand.const (Value.int IntKind.i64 16), Operand.tmp 19], argTypes := #[26, 3, 3] }, type := 50, pos := "layout.go:118", after := #[{ on := 9, ground := Ground.data }, { on := 12, ground := Ground.data }], guard := none }) rfl (fun K hK => ?_) (AllReadyH.cons (o := { dst := some 4, op := Op.alloc 35, type := 0, pos := "layout.go:114", after := #[], guard := none }) rfl (fun K hK => ?_) AllReadyH.nil)
    · go_simp
      with_reducible refine (HCU.out _).mono ?_
      rintro e v1 ⟨p1, c1, rfl, hr1, hb1⟩
      have R13 := Lib.hid hr1
      have B13 := Lib.hid hb1
      have h1 := below_trans h0 hb1
      clear hr1
      dsimp only
      refine hK.out _ _ ?_ (fun hHeld => ?_)
      · exact h1
      clear hK K
      try simp only [Act.put, List.setIfInBounds_toArray, List.set_cons_zero, List.set_cons_succ]
      -- 14, 16
      refine wpAnyH_ready (rs := [14, 16]) (by kernel_rfl) (by simp) ?_
      refine AllReadyH.cons (o := { dst := some 21, op := Op.convert 50 9 (Operand.tmp 20), type := 9, pos := "layout.go:114", after := #[{ on := 13, ground := Ground.data }], guard := none }) rfl (fun K hK => ?_) (AllReadyH.cons (o := { dst := some 4, op := Op.alloc 35, type := 0, pos := "layout.go:114", after := #[], guard := none }) rfl (fun K hK => ?_) AllReadyH.nil)
      · refine step_conv (by rfl) 50 9 _ rfl _ (.string (strOfNums (cutOf s 16 k3))) rfl (conv_rd1 (by first | exact R13.out | exact R13.out.later B16.out)) ?_
        have h2 := h1
        refine hK.out _ _ ?_ (fun hHeld => ?_)
        · exact h2
        clear hK K
        try simp only [Act.put, List.setIfInBounds_toArray, List.set_cons_zero, List.set_cons_succ]
        refine wpAnyH_take (i := 15) (oi := { dst := some 22, op := Op.build 35 #[(0, Operand.tmp 9), (1, Operand.tmp 12), (3, Operand.tmp 15), (2, Operand.tmp 21)], type := 35, pos := "layout.go:114", after := #[{ on := 2, ground := Ground.data }, { on := 5, ground := Ground.data }, { on := 8, ground := Ground.data }, { on := 14, ground := Ground.data }], guard := none }) (v := ?_) rfl (by kernel_rfl) (by kernel_rfl) (by kernel_rfl) (fun _ _ _ h => h) (Or.inl ⟨by rfl, ?_⟩) (by assumption) ?_
        rotate_left
        · (intro w' hSw; go_simp; try with_reducible rfl)
        try simp only [Act.put, List.setIfInBounds_toArray, List.set_cons_zero, List.set_cons_succ]
        -- 16
        refine wpAnyH_ready (rs := [16]) (by kernel_rfl) (by simp) ?_
        refine AllReadyH.cons (o := { dst := some 4, op := Op.alloc 35, type := 0, pos := "layout.go:114", after := #[], guard := none }) rfl (fun K hK => ?_) AllReadyH.nil
        refine step_alloc_ent (by rfl) rfl ?_
        intro b16 v3 hv3 ha3 hb3
        have A16 := Lib.hid ha3
        have B16 := Lib.hid hb3
        have V16 : Hid (W.heap.size ≤ b16) := Lib.hid (Nat.le_trans (h2).size hv3)
        have h3 := below_trans h2 hb3
        clear ha3
        refine hK.out _ _ ?_ (fun hHeld => ?_)
        · exact h3
        clear hK K
        try simp only [Act.put, List.setIfInBounds_toArray, List.set_cons_zero, List.set_cons_succ]
        -- 17
        refine wpAnyH_ready (rs := [17]) (by kernel_rfl) (by simp) ?_
        refine AllReadyH.cons (o := { dst := none, op := Op.store 35 (Operand.tmp 4) (Operand.tmp 22), type := 0, pos := "layout.go:114", after := #[{ on := 16, ground := Ground.data }, { on := 15, ground := Ground.data }, { on := 13, ground := Ground.chain }, { on := 0, ground := Ground.phase }, { on := 1, ground := Ground.phase }, { on := 2, ground := Ground.phase }, { on := 3, ground := Ground.phase }, { on := 4, ground := Ground.phase }, { on := 5, ground := Ground.phase }, { on := 6, ground := Ground.phase }, { on := 7, ground := Ground.phase }, { on := 8, ground := Ground.phase }, { on := 9, ground := Ground.phase }, { on := 10, ground := Ground.phase }, { on := 11, ground := Ground.phase }, { on := 12, ground := Ground.phase }, { on := 13, ground := Ground.phase }, { on := 14, ground := Ground.phase }, { on := 15, ground := Ground.phase }, { on := 16, ground := Ground.phase }], guard := none }) rfl (fun K hK => ?_) AllReadyH.nil
        refine step_store_ent (by rfl) _ _ rfl b16 rfl (entC s) (by rw [← HE.out]; rfl) ent0 (by first | exact A16.out | exact A16.out.later B13.out) ?_
        intro v4 ha4 hb4 ho4
        have A17 := Lib.hid ha4
        have h4 := h3.trans (hb4.mono V16.out)
        refine hK.out _ _ ?_ (fun hHeld => ?_)
        · exact h4
        clear hK K
        try simp only [Act.put, List.setIfInBounds_toArray, List.set_cons_zero, List.set_cons_succ]
        refine wpAnyH_done (by kernel_rfl) ?_ _
        go_wp2_with fail
        go_meet
        case rel => exact ⟨_, rfl, HB.out.drew.later h4, A17.out, V16.out⟩
      · refine step_alloc_ent (by rfl) rfl ?_
        intro b16 v5 hv5 ha5 hb5
        have A16 := Lib.hid ha5
        have B16 := Lib.hid hb5
        have V16 : Hid (W.heap.size ≤ b16) := Lib.hid (Nat.le_trans (h1).size hv5)
        have h5 := below_trans h1 hb5
        clear ha5
        refine hK.out _ _ ?_ (fun hHeld => ?_)
        · exact h5
        clear hK K
        try simp only [Act.put, List.setIfInBounds_toArray, List.set_cons_zero, List.set_cons_succ]
        -- 14
        refine wpAnyH_ready (rs := [14]) (by kernel_rfl) (by simp) ?_
        refine AllReadyH.cons (o := { dst := some 21, op := Op.convert 50 9 (Operand.tmp 20), type := 9, pos := "layout.go:114", after := #[{ on := 13, ground := Ground.data }], guard := none }) rfl (fun K hK => ?_) AllReadyH.nil
        refine step_conv (by rfl) 50 9 _ rfl _ (.string (strOfNums (cutOf s 16 k3))) rfl (conv_rd1 (by first | exact R13.out | exact R13.out.later B16.out)) ?_
        have h6 := h5
        refine hK.out _ _ ?_ (fun hHeld => ?_)
        · exact h6
        clear hK K
        try simp only [Act.put, List.setIfInBounds_toArray, List.set_cons_zero, List.set_cons_succ]
        refine wpAnyH_take (i := 15) (oi := { dst := some 22, op := Op.build 35 #[(0, Operand.tmp 9), (1, Operand.tmp 12), (3, Operand.tmp 15), (2, Operand.tmp 21)], type := 35, pos := "layout.go:114", after := #[{ on := 2, ground := Ground.data }, { on := 5, ground := Ground.data }, { on := 8, ground := Ground.data }, { on := 14, ground := Ground.data }], guard := none }) (v := ?_) rfl (by kernel_rfl) (by kernel_rfl) (by kernel_rfl) (fun _ _ _ h => h) (Or.inl ⟨by rfl, ?_⟩) (by assumption) ?_
        rotate_left
        · (intro w' hSw; go_simp; try with_reducible rfl)
        try simp only [Act.put, List.setIfInBounds_toArray, List.set_cons_zero, List.set_cons_succ]
        -- 17
        refine wpAnyH_ready (rs := [17]) (by kernel_rfl) (by simp) ?_
        refine AllReadyH.cons (o := { dst := none, op := Op.store 35 (Operand.tmp 4) (Operand.tmp 22), type := 0, pos := "layout.go:114", after := #[{ on := 16, ground := Ground.data }, { on := 15, ground := Ground.data }, { on := 13, ground := Ground.chain }, { on := 0, ground := Ground.phase }, { on := 1, ground := Ground.phase }, { on := 2, ground := Ground.phase }, { on := 3, ground := Ground.phase }, { on := 4, ground := Ground.phase }, { on := 5, ground := Ground.phase }, { on := 6, ground := Ground.phase }, { on := 7, ground := Ground.phase }, { on := 8, ground := Ground.phase }, { on := 9, ground := Ground.phase }, { on := 10, ground := Ground.phase }, { on := 11, ground := Ground.phase }, { on := 12, ground := Ground.phase }, { on := 13, ground := Ground.phase }, { on := 14, ground := Ground.phase }, { on := 15, ground := Ground.phase }, { on := 16, ground := Ground.phase }], guard := none }) rfl (fun K hK => ?_) AllReadyH.nil
        refine step_store_ent (by rfl) _ _ rfl b16 rfl (entC s) (by rw [← HE.out]; rfl) ent0 (by first | exact A16.out | exact A16.out.later B13.out) ?_
        intro v7 ha7 hb7 ho7
        have A17 := Lib.hid ha7
        have h7 := h6.trans (hb7.mono V16.out)
        refine hK.out _ _ ?_ (fun hHeld => ?_)
        · exact h7
        clear hK K
        try simp only [Act.put, List.setIfInBounds_toArray, List.set_cons_zero, List.set_cons_succ]
        refine wpAnyH_done (by kernel_rfl) ?_ _
        go_wp2_with fail
        go_meet
        case rel => exact ⟨_, rfl, HB.out.drew.later h7, A17.out, V16.out⟩
    · refine step_alloc_ent (by rfl) rfl ?_
      intro b16 v8 hv8 ha8 hb8
      have A16 := Lib.hid ha8
      have B16 := Lib.hid hb8
      have V16 : Hid (W.heap.size ≤ b16) := Lib.hid (Nat.le_trans (h0).size hv8)
      have h8 := below_trans h0 hb8
      clear ha8
      refine hK.out _ _ ?_ (fun hHeld => ?_)
      · exact h8
      clear hK K
      try simp only [Act.put, List.setIfInBounds_toArray, List.set_cons_zero, List.set_cons_succ]
      -- 13
      refine wpAnyH_ready (rs := [13]) (by kernel_rfl) (by simp) ?_
      refine AllReadyH.cons (o := { dst := some 20, op := Op.call { callee := Callee.value (Operand.func 30), args := #[Operand.tmp 16, Operand.const (Value.int IntKind.i64 16), Operand.tmp 19], argTypes := #[26, 3, 3] }, type := 50, pos := "layout.go:118", after := #[{ on := 9, ground := Ground.data }, { on := 12, ground := Ground.data }], guard := none }) rfl (fun K hK => ?_) AllReadyH.nil
      go_simp
      with_reducible refine (HCU.out _).mono ?_
      rintro e v9 ⟨p9, c9, rfl, hr9, hb9⟩
      have R13 := Lib.hid hr9
      have B13 := Lib.hid hb9
      have h9 := below_trans h8 hb9
      clear hr9
      dsimp only
      refine hK.out _ _ ?_ (fun hHeld => ?_)
      · exact h9
      clear hK K
      try simp only [Act.put, List.setIfInBounds_toArray, List.set_cons_zero, List.set_cons_succ]
      -- 14
      refine wpAnyH_ready (rs := [14]) (by kernel_rfl) (by simp) ?_
      refine AllReadyH.cons (o := { dst := some 21, op := Op.convert 50 9 (Operand.tmp 20), type := 9, pos := "layout.go:114", after := #[{ on := 13, ground := Ground.data }], guard := none }) rfl (fun K hK => ?_) AllReadyH.nil
      refine step_conv (by rfl) 50 9 _ rfl _ (.string (strOfNums (cutOf s 16 k3))) rfl (conv_rd1 (by first | exact R13.out | exact R13.out.later B16.out)) ?_
      have h10 := h9
      refine hK.out _ _ ?_ (fun hHeld => ?_)
      · exact h10
      clear hK K
      try simp only [Act.put, List.setIfInBounds_toArray, List.set_cons_zero, List.set_cons_succ]
      refine wpAnyH_take (i := 15) (oi := { dst := some 22, op := Op.build 35 #[(0, Operand.tmp 9), (1, Operand.tmp 12), (3, Operand.tmp 15), (2, Operand.tmp 21)], type := 35, pos := "layout.go:114", after := #[{ on := 2, ground := Ground.data }, { on := 5, ground := Ground.data }, { on := 8, ground := Ground.data }, { on := 14, ground := Ground.data }], guard := none }) (v := ?_) rfl (by kernel_rfl) (by kernel_rfl) (by kernel_rfl) (fun _ _ _ h => h) (Or.inl ⟨by rfl, ?_⟩) (by assumption) ?_
      rotate_left
      · (intro w' hSw; go_simp; try with_reducible rfl)
      try simp only [Act.put, List.setIfInBounds_toArray, List.set_cons_zero, List.set_cons_succ]
      -- 17
      refine wpAnyH_ready (rs := [17]) (by kernel_rfl) (by simp) ?_
      refine AllReadyH.cons (o := { dst := none, op := Op.store 35 (Operand.tmp 4) (Operand.tmp 22), type := 0, pos := "layout.go:114", after := #[{ on := 16, ground := Ground.data }, { on := 15, ground := Ground.data }, { on := 13, ground := Ground.chain }, { on := 0, ground := Ground.phase }, { on := 1, ground := Ground.phase }, { on := 2, ground := Ground.phase }, { on := 3, ground := Ground.phase }, { on := 4, ground := Ground.phase }, { on := 5, ground := Ground.phase }, { on := 6, ground := Ground.phase }, { on := 7, ground := Ground.phase }, { on := 8, ground := Ground.phase }, { on := 9, ground := Ground.phase }, { on := 10, ground := Ground.phase }, { on := 11, ground := Ground.phase }, { on := 12, ground := Ground.phase }, { on := 13, ground := Ground.phase }, { on := 14, ground := Ground.phase }, { on := 15, ground := Ground.phase }, { on := 16, ground := Ground.phase }], guard := none }) rfl (fun K hK => ?_) AllReadyH.nil
      refine step_store_ent (by rfl) _ _ rfl b16 rfl (entC s) (by rw [← HE.out]; rfl) ent0 (by first | exact A16.out | exact A16.out.later B13.out) ?_
      intro v11 ha11 hb11 ho11
      have A17 := Lib.hid ha11
      have h11 := h10.trans (hb11.mono V16.out)
      refine hK.out _ _ ?_ (fun hHeld => ?_)
      · exact h11
      clear hK K
      try simp only [Act.put, List.setIfInBounds_toArray, List.set_cons_zero, List.set_cons_succ]
      refine wpAnyH_done (by kernel_rfl) ?_ _
      go_wp2_with fail
      go_meet
      case rel => exact ⟨_, rfl, HB.out.drew.later h11, A17.out, V16.out⟩
  case rest =>
    obtain ⟨g, rfl, hpt⟩ := hcut
    have HP := Lib.hid hpt
    have hg : w.heap.size + 1 < g := by
      have h1 := (Array.getElem?_eq_some_iff.1 HB.out.ent).1
      have h2 := hpt.up
      omega
    clear hpt
    generalize hr : rightE (entC s) = r at HI HOB HV1
    generalize entV (entC s) = v at HI HVS HV1
    cases r with
    | false =>
      have HN : Hid (entOfB s = false) := Lib.hid (by rw [HOB.out]; rfl)
      have HZ : Hid (entOfV s = ent0) := Lib.hid (HE0.out HN.out)
      go_wp2_with (first | (refine load_ent rfl _ rfl g rfl _ HP.out.ent ?_) | (go_at_call 14; refine (HI.out _).mono ?_; rintro e w4 ⟨rfl, hb4⟩; have HB4 := Lib.hid (HP.out.box.later hb4); clear hb4) | (refine store_at rfl _ _ rfl rfl w4.heap.size v zero32 rfl rfl HVS.out.1 (by decide) (at_lit w4) ?_; intro w5 hA hB5 hO5; have A5 := Lib.hid hA; have HB5 := Lib.hid (HB4.out.later ((below_alloc (Below.refl _ _) _).trans hB5)); clear hA hO5 hB5) | (refine store_ent rfl _ _ rfl rfl (w.heap.size + 1) ent0 ent0 rfl rfl HB5.out.ent ?_; intro w6 hA hB6 _; have A6 := Lib.hid hA; clear hA))
      refine ret_ent2 rfl (w.heap.size + 1) _ _ rfl rfl A6.out rfl ⟨by rw [HZ.out, HN.out]; rfl, ?_⟩
      exact HB5.out.below.trans (hB6.mono (by omega))
    | true =>
      have e := HV1.out rfl
      have hgs := guard_sec
      generalize hd : decide (entSec (entC s) = s) = d at HOB
      have hq : ∀ w, (Op.equalIn 10000 26 (agg s) (agg v)).run Try.prog w = .ok d w := fun w => (eqIn_sec w HS.out HVS.out).trans (by rw [← hd, e]; congr 1; rw [Bool.eq_iff_iff]; simp [eq_comm])
      have hq2 : ∀ w, (Op.equalIn 10000 26 (agg v) (agg s)).run Try.prog w = .ok d w := fun w => (eqIn_sec w HVS.out HS.out).trans (by rw [← hd, e])
      clear e hd
      cases d with
      | false =>
        have HN : Hid (entOfB s = false) := Lib.hid (by rw [HOB.out]; rfl)
        have HZ : Hid (entOfV s = ent0) := Lib.hid (HE0.out HN.out)
        go_wp2_with (first | (refine load_ent rfl _ rfl g rfl _ HP.out.ent ?_) | (go_at_call 14; refine (HI.out _).mono ?_; rintro e w4 ⟨rfl, hb4⟩; have HB4 := Lib.hid (HP.out.box.later hb4); clear hb4) | (refine store_at rfl _ _ rfl rfl w4.heap.size v zero32 rfl rfl HVS.out.1 (by decide) (at_lit w4) ?_; intro w5 hA hB5 hO5; have A5 := Lib.hid hA; have HB5 := Lib.hid (HB4.out.later ((below_alloc (Below.refl _ _) _).trans hB5)); clear hA hO5 hB5) | (refine load_at_g ?_ _ rfl w.heap.size rfl s HS.out.1 HB5.out.sec ?_; · rfl) | (refine load_at_g ?_ _ rfl w4.heap.size rfl v HVS.out.1 A5.out ?_; · rfl) | (refine store_ent rfl _ _ rfl rfl (w.heap.size + 1) ent0 ent0 rfl rfl HB5.out.ent ?_; intro w6 hA hB6 _; have A6 := Lib.hid hA; clear hA))
        refine ret_ent2 rfl (w.heap.size + 1) _ _ rfl rfl A6.out rfl ⟨by rw [HZ.out, HN.out]; rfl, ?_⟩
        exact HB5.out.below.trans (hB6.mono (by omega))
      | true =>
        have HN : Hid (entOfB s = true) := Lib.hid (by rw [HOB.out]; rfl)
        have HZ : Hid (entOfV s = (entC s)) := Lib.hid (HE1.out HN.out)
        go_wp2_with (first | (refine load_ent rfl _ rfl g rfl _ HP.out.ent ?_) | (go_at_call 14; refine (HI.out _).mono ?_; rintro e w4 ⟨rfl, hb4⟩; have HB4 := Lib.hid (HP.out.box.later hb4); have A4 := Lib.hid (HP.out.ent.later hb4); clear hb4) | (refine store_at rfl _ _ rfl rfl w4.heap.size v zero32 rfl rfl HVS.out.1 (by decide) (at_lit w4) ?_; intro w5 hA hB5 hO5; have A5 := Lib.hid hA; have HB5 := Lib.hid (HB4.out.later ((below_alloc (Below.refl _ _) _).trans hB5)); have A45 := Lib.hid (A4.out.later ((below_alloc (Below.refl _ _) _).trans hB5)); clear hA hO5 hB5) | (refine load_at_g ?_ _ rfl w.heap.size rfl s HS.out.1 HB5.out.sec ?_; · rfl) | (refine load_at_g ?_ _ rfl w4.heap.size rfl v HVS.out.1 A5.out ?_; · rfl) | (refine load_ent rfl _ rfl g rfl _ A45.out ?_) | (refine store_ent rfl _ _ rfl rfl (w.heap.size + 1) (entC s) ent0 rfl rfl HB5.out.ent ?_; intro w6 hA hB6 _; have A6 := Lib.hid hA; clear hA))
        refine ret_ent2 rfl (w.heap.size + 1) _ _ rfl rfl A6.out rfl ⟨by rw [HZ.out, HN.out]; rfl, ?_⟩
        exact HB5.out.below.trans (hB6.mono (by omega))
end Go.Proofs.Ytkbnfofklofkoaa.ly
/- knows of layer 7. -/
namespace Go.Proofs.Ytkbnfofklofkoaa.ly
set_option maxRecDepth 100000
open Go.ChangeShapes Go.WideShapes Go.ChangeAt Go.RowKit
open Go.Proofs.Ytkbnfofklofkoaa.rows
open Go.Proofs.Ytkbnfofklofkoaa.sec
open Go.Proofs.Ytkbnfofklofkoaa.dsk (wf64 cell_row frozen_row setCell_heap row_later row_alloc)
set_option linter.unusedVariables false
set_option linter.unusedSimpArgs false

def bEnt : Ent := ⟨true, 0, { data := #[98] }, 3⟩
def bSec : List Int := [1, 0, 3, 1, 0, 0, 0, 0, 0, 0, 0, 0, 0, 0, 0, 0, 98, 0, 0, 0, 0, 0, 0, 0, 0, 0, 0, 0, 0, 0, 0, 0]
theorem bSec_is : Sec bSec := ⟨by decide, by decide⟩
theorem bEnt_ok : bEnt.ok := ⟨wf_byte (by simp [bEnt]), wf_byte (by simp [bEnt]), by decide⟩
theorem bEnt_right : rightE bEnt = true := by decide
theorem bEnt_sec : entV bEnt = bSec := by rw [entV, if_pos bEnt_right]; decide
theorem a1_name : nameB { data := #[97, 46, 49] } = true := by decide
theorem empty_mounts : mountsB emptyImg = true := by kernel_rfl
theorem eqIn_bSec (w : World) : (Op.equalIn 10000 26 (agg bSec) (.agg #[.int .u8 1, .int .u8 0, .int .u8 3, .int .u8 1, .int .u8 0, .int .u8 0, .int .u8 0, .int .u8 0, .int .u8 0, .int .u8 0, .int .u8 0, .int .u8 0, .int .u8 0, .int .u8 0, .int .u8 0, .int .u8 0, .int .u8 98, .int .u8 0, .int .u8 0, .int .u8 0, .int .u8 0, .int .u8 0, .int .u8 0, .int .u8 0, .int .u8 0, .int .u8 0, .int .u8 0, .int .u8 0, .int .u8 0, .int .u8 0, .int .u8 0, .int .u8 0])).run Try.prog w = .ok true w := by
  have h := eqIn_sec w bSec_is bSec_is
  rw [decide_eq_true rfl] at h
  exact h
set_option maxRecDepth 100000 in
set_option maxHeartbeats 1600000 in
theorem knows_any (w : World) : Calls Try.prog 13 #[] w fun e w' => e = .returned (.bool true) ∧ Below w.heap.size w w' := by
  have HE := Lib.hid fun w => entry_any bEnt bEnt_ok w
  rw [bEnt_sec, bEnt_right] at HE
  have HEM := Lib.hid fun w => empty_any w
  have HM := Lib.hid fun p c w hr => mounts_any p 65 c emptyImg w emptyImg_secs hr (by unfold maxLen; omega)
  rw [empty_mounts] at HM
  have HN := Lib.hid fun w => name_of { data := #[97, 46, 49] } true a1_name (by decide) w
  have hg := guard_sec
  have hq := eqIn_bSec
  go_enter Try.func13, Try.ntmps13
  go_wp2_with (first | (go_at_call 14; refine (HE.out _).mono ?_; rintro e w2 ⟨rfl, hb2⟩; have HB2 := Lib.hid hb2; clear hb2) | (refine store_at rfl _ _ rfl rfl w2.heap.size bSec zero32 rfl rfl bSec_is.1 (by decide) (at_lit w2) ?_; intro w3 hA hB3 hO3; have A3 := Lib.hid hA; have HB3 := Lib.hid ((below_alloc HB2.out _).trans (hB3.mono HB2.out.size)); clear hA hB3 hO3) | (refine load_at_g ?_ _ rfl w2.heap.size rfl bSec bSec_is.1 A3.out ?_; · rfl) | (go_at_call 23; refine (HEM.out _).mono ?_; rintro e w4 ⟨p4, c4, rfl, hr4, hb4⟩; have HR4 := Lib.hid hr4; have HB4 := Lib.hid (below_trans HB3.out hb4); clear hr4 hb4) | (go_at_call 25; refine (HM.out _ _ _ HR4.out).mono ?_; rintro e w5 ⟨rfl, hb5⟩; have HB5 := Lib.hid (below_trans HB4.out hb5); clear hb5) | (go_at_call 20; refine (HN.out _).mono ?_; rintro e w6 ⟨rfl, rfl⟩))
  go_ret
  exact ⟨rfl, HB5.out⟩
end Go.Proofs.Ytkbnfofklofkoaa.ly
/- The arguments of layer 7's laws: inodes and entries. -/
namespace Go.Proofs.Ytkbnfofklofkoaa.ly
set_option maxRecDepth 100000
open Go.ChangeShapes Go.WideShapes Go.ChangeAt Go.RowKit
open Go.Proofs.Ytkbnfofklofkoaa.rows
open Go.Proofs.Ytkbnfofklofkoaa.sec
open Go.Proofs.Ytkbnfofklofkoaa.dsk (wf64 field_trod cut_piece int_of_cells cellsInt und_int)
set_option linter.unusedVariables false
set_option linter.unusedSimpArgs false

theorem cellsIno : Try.prog.cellsOf 24 = 6 := by kernel_rfl
theorem cellsFour : Try.prog.cellsOf 22 = 4 := by kernel_rfl
theorem cellsEnt : Try.prog.cellsOf 35 = 4 := by kernel_rfl
theorem cellsBool : Try.prog.cellsOf 4 = 1 := by kernel_rfl
theorem cellsStr : Try.prog.cellsOf 9 = 1 := by kernel_rfl
theorem fields_ino2 : (Try.prog.fieldsOf 24).toList.map (fun f => (f.type, f.offset)) = [(3, 0), (3, 1), (22, 2)] := by kernel_rfl
theorem fields_ent2 : (Try.prog.fieldsOf 35).toList.map (fun f => (f.type, f.offset)) = [(4, 0), (3, 1), (9, 2), (3, 3)] := by kernel_rfl
section
variable {H : Type} {enc : TypeId × Value → H} {W : World} {base : Nat} {spare : Nat → Bool} {held : Bool}
theorem four_of_cells {n : Nat} {cs : List Value} {x : DataW H × List MemPlace} (h : DataW.trod enc Try.prog W base spare held n 22 cs = some x) : ∃ b : List Int, b.length = 4 ∧ (∀ z ∈ b, wf64 z) ∧ cs = i64s b := by
  obtain ⟨xs, m, rfl, _, hl, hx, hi⟩ := DataW.trod_array und_four h
  rw [cellsFour] at hl
  have one : ∀ i (h : i < cs.length), ∃ z : Int, cs[i] = .int .i64 z ∧ wf64 z := by
    intro i hic
    have h1 := hi i (by omega)
    rw [cellsInt, Nat.mul_one, List.getElem?_eq_getElem (by omega)] at h1
    obtain ⟨z, hz, _, hw⟩ := DataW.trod_int und_int h1
    rw [List.drop_eq_getElem_cons hic, List.take_succ_cons, List.take_zero] at hz
    exact ⟨z, by simpa using hz, hw⟩
  refine ⟨cs.map (fun v => match v with | .int _ z => z | _ => 0), by simpa using hl, ?_, ?_⟩
  · intro x hx
    obtain ⟨v, hv, rfl⟩ := List.mem_map.1 hx
    obtain ⟨i, hi, rfl⟩ := List.getElem_of_mem hv
    obtain ⟨z, hz, h0⟩ := one i hi
    rw [hz]; exact h0
  · unfold i64s
    rw [List.map_map]
    symm
    apply List.ext_getElem (by simp)
    intro i h1 h2
    rw [List.getElem_map]
    obtain ⟨z, hz, _⟩ := one i h2
    simp [hz]
theorem ino_of_trod {v : Value} {d : DataW H} {ps : List MemPlace} (hv : Value.okWide Try.prog W .any base 24 v) (h : DataW.Trod enc Try.prog W 0 (fun _ => true) true 24 v d ps) :
    ∃ x : Ino, x.ok ∧ v = aggI x := by
  simp only [Value.okWide, und_ino] at hv
  obtain ⟨cs, rfl, _⟩ := hv
  obtain ⟨fuel, hf⟩ := h
  obtain ⟨hl, hf⟩ := field_trod und_ino fields_ino2 hf
  rw [cellsIno] at hl
  obtain ⟨_, _, h0⟩ := hf 0 _ _ rfl
  obtain ⟨_, _, h1⟩ := hf 1 _ _ rfl
  obtain ⟨_, _, h2⟩ := hf 2 _ _ rfl
  rw [cellsInt] at h0 h1
  rw [cellsFour] at h2
  obtain ⟨k, wk, e0⟩ := int_of_cells h0
  obtain ⟨z, wz, e1⟩ := int_of_cells h1
  obtain ⟨b, hb, wb, e2⟩ := four_of_cells h2
  refine ⟨⟨k, z, b⟩, ⟨hb, wk, wz, wb⟩, ?_⟩
  have hc : (Value.agg cs).cells.toList = (⟨k, z, b⟩ : Ino).c := by
    have q0 := cut_piece (Value.agg cs).cells.toList 0 1
    have q1 := cut_piece (Value.agg cs).cells.toList 1 1
    have q2 := cut_piece (Value.agg cs).cells.toList 2 4
    rw [e0] at q0
    rw [e1] at q1
    rw [e2, List.drop_of_length_le (i := 2 + 4) (by omega), List.append_nil] at q2
    simp only [Nat.reduceAdd] at q0 q1
    rw [List.drop_zero, ← q1, ← q2] at q0
    exact q0.symm
  have : cs = (⟨k, z, b⟩ : Ino).c.toArray := by
    apply Array.ext'
    simpa [Value.cells] using hc
  rw [this]
theorem ent_of_trod {v : Value} {d : DataW H} {ps : List MemPlace} (hv : Value.okWide Try.prog W .any base 35 v) (h : DataW.Trod enc Try.prog W 0 (fun _ => true) true 35 v d ps) :
    ∃ x : Ent, x.ok ∧ v = aggE x := by
  simp only [Value.okWide, und_ent] at hv
  obtain ⟨cs, rfl, hcs⟩ := hv
  obtain ⟨fuel, hf⟩ := h
  obtain ⟨hl, hf⟩ := field_trod und_ent fields_ent2 hf
  rw [cellsEnt] at hl
  obtain ⟨_, _, h0⟩ := hf 0 _ _ rfl
  obtain ⟨_, _, h1⟩ := hf 1 _ _ rfl
  obtain ⟨_, _, h2⟩ := hf 2 _ _ rfl
  obtain ⟨_, _, h3⟩ := hf 3 _ _ rfl
  rw [cellsInt] at h1 h3
  rw [cellsBool] at h0
  rw [cellsStr] at h2
  obtain ⟨u, e0, _⟩ := DataW.trod_bool Try.underlying4 h0
  obtain ⟨p, wp, e1⟩ := int_of_cells h1
  obtain ⟨s, e2, _, ws⟩ := DataW.trod_string Try.underlying9 h2
  obtain ⟨t, wt, e3⟩ := int_of_cells h3
  refine ⟨⟨u, p, s, t⟩, ⟨wp, wt, ws⟩, ?_⟩
  have hc : (Value.agg cs).cells.toList = [.bool u, .int .i64 p, .string s, .int .i64 t] := by
    have q0 := cut_piece (Value.agg cs).cells.toList 0 1
    have q1 := cut_piece (Value.agg cs).cells.toList 1 1
    have q2 := cut_piece (Value.agg cs).cells.toList 2 1
    have q3 := cut_piece (Value.agg cs).cells.toList 3 1
    rw [e0] at q0
    rw [e1] at q1
    rw [e2] at q2
    rw [e3, List.drop_of_length_le (i := 3 + 1) (by omega), List.append_nil] at q3
    simp only [Nat.reduceAdd] at q0 q1 q2
    rw [List.drop_zero, ← q1, ← q2, ← q3] at q0
    exact q0.symm
  have : cs = #[.bool u, .int .i64 p, .string s, .int .i64 t] := by
    apply Array.ext'
    simpa [Value.cells] using hc
  rw [this]
end
theorem AtE.range {w : World} {g : Nat} {x : Ent} (h : AtE w g x) : w.rangeAt g 0 [.bool x.used, .int .i64 x.parent, .string x.name, .int .i64 x.target] := by
  have := World.rangeAt_of_block h 0 4
  simpa using this
theorem fields_ent : (Try.prog.fieldsOf 35).toList.map (fun f => (f.name, f.type, f.offset)) = [("Used", 4, 0), ("Parent", 3, 1), ("Name", 9, 2), ("Target", 3, 3)] := by kernel_rfl
theorem part_bool (w : World) (xs : Array Value) (i : Nat) (v : Value) (h : xs[i]? = some v) : (part 4 xs i).run Try.prog w = .ok v w := by
  simp [part, isAgg, run_underlying Try.underlying4, h]
theorem part_str (w : World) (xs : Array Value) (i : Nat) (v : Value) (h : xs[i]? = some v) : (part 9 xs i).run Try.prog w = .ok v w := by
  simp [part, isAgg, run_underlying Try.underlying9, h]
theorem eqIn_ent_self (w : World) (x : Ent) : (Op.equalIn 10000 35 (aggE x) (aggE x)).run Try.prog w = .ok true w := by
  have hs : Try.prog.stoodInHeld 35 = false := by kernel_rfl
  rw [show (10000 : Nat) = 9999 + 1 from rfl, run_equalIn_struct w 9999 _ _ _ und_ent hs]
  have hf := fields_ent
  match hq : (Try.prog.fieldsOf 35).toList with
  | [] => rw [hq] at hf; simp at hf
  | [_] => rw [hq] at hf; simp at hf
  | [_, _] => rw [hq] at hf; simp at hf
  | [_, _, _] => rw [hq] at hf; simp at hf
  | [f, g, h, k] =>
    rw [hq] at hf
    simp only [List.map_cons, List.map_nil, List.cons.injEq, Prod.mk.injEq, and_true] at hf
    obtain ⟨⟨n1, t1, o1⟩, ⟨n2, t2, o2⟩, ⟨n3, t3, o3⟩, n4, t4, o4⟩ := hf
    rw [Go.Proofs.Ytkbnfofklofkoaa.dsk.eqFields_cons 9999 _ _ f _ (by rw [n1]; decide) w (a := .bool x.used) (b := .bool x.used) (r := x.used == x.used) (by rw [t1, o1]; exact part_bool w _ 0 _ rfl) (by rw [t1, o1]; exact part_bool w _ 0 _ rfl) (by rw [t1]; exact run_equalIn_bool' w 9998 _ _ _ Try.underlying4)]
    rw [Go.Proofs.Ytkbnfofklofkoaa.dsk.eqFields_cons 9999 _ _ g _ (by rw [n2]; decide) w (a := .int .i64 x.parent) (b := .int .i64 x.parent) (r := x.parent == x.parent) (by rw [t2, o2]; exact Go.Proofs.Ytkbnfofklofkoaa.dsk.part_int w _ 1 _ rfl) (by rw [t2, o2]; exact Go.Proofs.Ytkbnfofklofkoaa.dsk.part_int w _ 1 _ rfl) (by rw [t2]; exact run_equalIn_int w 9998 _ _ _ _ _ und_int)]
    rw [Go.Proofs.Ytkbnfofklofkoaa.dsk.eqFields_cons 9999 _ _ h _ (by rw [n3]; decide) w (a := .string x.name) (b := .string x.name) (r := x.name.toList == x.name.toList) (by rw [t3, o3]; exact part_str w _ 2 _ rfl) (by rw [t3, o3]; exact part_str w _ 2 _ rfl) (by rw [t3]; exact run_equalIn_string w 9998 _ _ _ Try.underlying9)]
    rw [Go.Proofs.Ytkbnfofklofkoaa.dsk.eqFields_cons 9999 _ _ k [] (by rw [n4]; decide) w (a := .int .i64 x.target) (b := .int .i64 x.target) (r := x.target == x.target) (by rw [t4, o4]; exact Go.Proofs.Ytkbnfofklofkoaa.dsk.part_int w _ 3 _ rfl) (by rw [t4, o4]; exact Go.Proofs.Ytkbnfofklofkoaa.dsk.part_int w _ 3 _ rfl) (by rw [t4]; exact run_equalIn_int w 9998 _ _ _ _ _ und_int)]
    simp [Op.eqFields]
  | _ :: _ :: _ :: _ :: _ :: _ => rw [hq] at hf; simp at hf
end Go.Proofs.Ytkbnfofklofkoaa.ly
/- LayoutBack's walk. -/
namespace Go.Proofs.Ytkbnfofklofkoaa.ly
set_option maxRecDepth 100000
open Go.ChangeShapes Go.WideShapes Go.ChangeAt Go.RowKit
open Go.Proofs.Ytkbnfofklofkoaa.rows
open Go.Proofs.Ytkbnfofklofkoaa.sec
open Go.Proofs.Ytkbnfofklofkoaa.dsk (wf64 cell_row frozen_row setCell_heap row_later row_alloc neq_yields)
set_option linter.unusedVariables false
set_option linter.unusedSimpArgs false

/-- the boxes of the law -/
structure BoxB (w W : World) (x y : Ino) (en : Ent) (s : List Int) : Prop where
  fx : AtI W w.heap.size x
  fy : AtI W (w.heap.size + 1) y
  fe : AtE W (w.heap.size + 1 + 1) en
  fs : At W (w.heap.size + 1 + 1 + 1) s
  below : Below w.heap.size w W
theorem BoxB.later {w W W' : World} {x y : Ino} {en : Ent} {s : List Int} (h : BoxB w W x y en s) (hb : Below W.heap.size W W') : BoxB w W' x y en s :=
  ⟨h.fx.later hb, h.fy.later hb, h.fe.later hb, h.fs.later hb, below_trans h.below hb⟩
theorem boxesB (w : World) (x y : Ino) (en : Ent) (s : List Int) : ∃ W, (((w.alloc (.cells x.c.toArray 24)).alloc (.cells y.c.toArray 24)).alloc (.cells #[.bool en.used, .int .i64 en.parent, .string en.name, .int .i64 en.target] 35)).alloc (.cells (u8s s).toArray 26) = W ∧ BoxB w W x y en s := by
  refine ⟨_, rfl, ((((atI_new w x).alloc _).alloc _).alloc _), ?_, ?_, ?_, below_alloc (below_alloc (below_alloc (below_alloc (Below.refl _ _) _) _) _) _⟩
  · have := atI_new (w.alloc (.cells x.c.toArray 24)) y
    exact AtI.alloc (AtI.alloc (by simpa using this) _) _
  · have := atE_new ((w.alloc (.cells x.c.toArray 24)).alloc (.cells y.c.toArray 24)) en
    exact AtE.alloc (by simpa using this) _
  · have := at_new (((w.alloc (.cells x.c.toArray 24)).alloc (.cells y.c.toArray 24)).alloc (.cells #[.bool en.used, .int .i64 en.parent, .string en.name, .int .i64 en.target] 35)) s
    simpa using this
/-- and the three sectors that were made -/
structure BackW (w W : World) (x y : Ino) (en : Ent) (s : List Int) (ga gb gc : Nat) (a b c : List Int) : Prop where
  box : BoxB w W x y en s
  fa : At W ga a
  fb : At W gb b
  fc : At W gc c
theorem BackW.later {w W W' : World} {x y : Ino} {en : Ent} {s : List Int} {ga gb gc : Nat} {a b c : List Int} (h : BackW w W x y en s ga gb gc a b c) (hb : Below W.heap.size W W') : BackW w W' x y en s ga gb gc a b c :=
  ⟨h.box.later hb, h.fa.later hb, h.fb.later hb, h.fc.later hb⟩
theorem load_ent_g {ops : Array Oper} {rest : List Oper} {o : Oper} {a : Act} {w : World} {Q : Exit → Act → World → Prop} (hw : Region.wanted o (yielded ops a.tmps) = true) (p : Operand) (ho : o.op = .load 35 p)
    (g : Nat) (hp : a.eval p = .pointer (some ⟨g, 0, none⟩)) (x : Ent) (hg : AtE w g x)
    (h : wpList Try.prog ops Q rest (a.put o.dst (aggE x)) w) : wpList Try.prog ops Q (o :: rest) a w :=
  wpList_step fun K hK => by
    rw [if_pos hw]
    exact wp_load_row 35 p ho g hp 35 _ _ _ hg und_ent rfl (by rw [info_ent]; rfl) (hK _ _ h)
theorem ino_fwd {s : List Int} (h : inoOfB s = true) : inoV (inoOfV s) = s := by
  have e : inoOfV s = inoOf s := by rw [inoOfV, if_pos h]
  rw [inoOfB, Bool.and_eq_true, decide_eq_true_eq] at h
  rw [e, inoV, if_pos h.1, h.2]
theorem ent_fwd {s : List Int} (h : entOfB s = true) : entV (entOfV s) = s := by
  have e : entOfV s = entC s := by rw [entOfV, if_pos h]
  rw [entOfB, Bool.and_eq_true, decide_eq_true_eq] at h
  rw [e, entV, if_pos h.1, h.2]
theorem ino_bwd {x : Ino} (hl : x.b.length = 4) (h : rightI x = true) : inoOfB (inoV x) = true ∧ inoOfV (inoV x) = x := by
  rw [inoV, if_pos h]
  have hb := inoOfB_back hl h
  exact ⟨hb, by rw [inoOfV, if_pos hb, inoOf_back hl]⟩
theorem ent_bwd {x : Ent} (h : rightE x = true) : entOfB (entV x) = true ∧ entOfV (entV x) = x := by
  rw [entV, if_pos h]
  have hb := entOfB_back h
  exact ⟨hb, by rw [entOfV, if_pos hb, entC_back h]⟩
theorem ino_drop {x : Ino} (hl : x.b.length = 4) (h : rightI x = true) : (inoV x).drop 16 = List.replicate 16 0 := by
  rw [inoV, if_pos h, inoSec]
  match hb : x.b with
  | [b0, b1, b2, b3] => rfl
  | [] => rw [hb] at hl; simp at hl
  | [_] => rw [hb] at hl; simp at hl
  | [_, _] => rw [hb] at hl; simp at hl
  | [_, _, _] => rw [hb] at hl; simp at hl
  | _ :: _ :: _ :: _ :: _ :: _ => rw [hb] at hl; simp at hl
theorem torn_ino {x y : Ino} (hx : x.b.length = 4) (hy : y.b.length = 4) (rx : rightI x = true) (ry : rightI y = true) : (inoV x).take 16 ++ (inoV y).drop 16 = inoV x := by
  rw [ino_drop hy ry, ← ino_drop hx rx, List.take_append_drop]
set_option maxRecDepth 100000 in
set_option maxHeartbeats 6400000 in
theorem walkLayoutBack (x : Ino) (hx : x.ok) (y : Ino) (hy : y.ok) (en : Ent) (he : en.ok) (s : List Int) (hs : Sec s) (w : World) :
    Calls Try.prog 6 #[aggI x, aggI y, aggE en, agg s] w fun e w' => e = .returned (.bool true) ∧ Below w.heap.size w w' := by
  obtain ⟨W, hW, hB0⟩ := boxesB w x y en s
  have B0 := Lib.hid hB0
  have HK := Lib.hid knows_any
  have hc2 := hB0.fe.cell2
  have hn1 : en.name.size ≤ maxLen := he.name
  unfold maxLen at hn1
  by_cases hlen : 300 < en.name.size
  · have h1i : (300 : Int) < en.name.size := by omega
    clear hB0
    go_enter Try.func6, Try.ntmps6
    go_upto_region 1 with fail
    try rw [hW]
    clear hW
    go_wp2_with (go_at_call 13; refine (HK.out _).mono ?_; rintro e w2 ⟨rfl, hb2⟩)
    go_ret
    exact ⟨rfl, below_trans B0.out.below hb2⟩
  · have h1i : (en.name.size : Int) ≤ 300 := by omega
    have C1 := Lib.hid fun w => inode_any x hx w
    have C2 := Lib.hid fun w => inode_any y hy w
    have C3 := Lib.hid fun w => entry_any en he w
    have C4 := Lib.hid fun w => inodeOf_any (inoV x) (inoV_sec hx.four) w
    have C5 := Lib.hid fun w => entryOf_any (entV en) (entV_sec en) w
    have C6 := Lib.hid fun w => inodeOf_any s hs w
    have C7 := Lib.hid fun w => entryOf_any s hs w
    have C8 := Lib.hid fun w => inode_any (inoOfV s) (inoOfV_ok hs) w
    have C9 := Lib.hid fun w => entry_any (entOfV s) (entOfV_ok hs) w
    have CT := Lib.hid fun w => torn_is (inoV y) (inoV x) w (inoV_sec hy.four) (inoV_sec hx.four)
    have VA := Lib.hid (inoV_sec hx.four)
    have VB := Lib.hid (inoV_sec hy.four)
    have VC := Lib.hid (entV_sec en)
    have VS := Lib.hid hs
    have VU := Lib.hid (inoV_sec (inoOfV_four hs))
    have VV := Lib.hid (entV_sec (entOfV s))
    have X4 := Lib.hid hx.four
    have Y4 := Lib.hid hy.four
    have P4 := Lib.hid (inoOfV_four hs)
    have M1 := Lib.hid (ino_bwd hx.four)
    have M2 := Lib.hid fun h1 h2 => torn_ino hx.four hy.four h1 h2
    have M3 := Lib.hid (ent_bwd (x := en))
    have M4 := Lib.hid (ino_fwd (s := s))
    have M5 := Lib.hid (ent_fwd (s := s))
    generalize inoV x = va at C1 C4 CT VA M1 M2
    generalize inoV y = vb at C2 CT VB M2
    generalize entV en = vc at C3 C5 VC M3
    generalize rightI x = ra at C1 M1 M2
    generalize rightI y = rb at C2 M2
    generalize rightE en = rc at C3 M3
    generalize inoV (inoOfV s) = vu at C8 VU M4
    generalize entV (entOfV s) = vv at C9 VV M5
    generalize inoOfV s = p at C6 C8 P4
    generalize entOfV s = q at C7 C9
    generalize inoOfB s = rp at C6 M4
    generalize entOfB s = rq at C7 M5
    generalize rightI p = rr at C8
    generalize rightE q = rt at C9
    clear hB0 hx hy he hs hlen hn1
    go_enter Try.func6, Try.ntmps6
    go_upto_region 1 with fail
    try rw [hW]
    clear hW
    go_upto_region 3 with (go_at_call 13; refine (HK.out _).mono ?_; rintro e w0 ⟨rfl, hb0⟩; have B1 := Lib.hid (B0.out.later hb0); clear hb0)
    clear hc2 B0 HK
    go_upto_if 51 with (first
      | (go_at_call 7; with_reducible refine (C1.out _).mono ?_; rintro e w1 ⟨rfl, hb⟩; have B2 := Lib.hid (B1.out.later hb); clear hb)
      | (refine store_at rfl _ _ rfl rfl w1.heap.size va zero32 rfl rfl VA.out.1 (by decide) (at_lit w1) ?_; intro w2 hA hB _; have k1 := (below_alloc (Below.refl w1.heap.size w1) _).trans hB; have a2 := Lib.hid hA; have B3 := Lib.hid (B2.out.later k1); clear hA hB k1)
      | (go_at_call 7; with_reducible refine (C2.out _).mono ?_; rintro e w3 ⟨rfl, hb⟩; have B4 := Lib.hid (B3.out.later hb); have a3 := Lib.hid (a2.out.later hb); clear hb)
      | (refine store_at rfl _ _ rfl rfl w3.heap.size vb zero32 rfl rfl VB.out.1 (by decide) (at_lit w3) ?_; intro w4 hA hB _; have k1 := (below_alloc (Below.refl w3.heap.size w3) _).trans hB; have b4 := Lib.hid hA; have B5 := Lib.hid (B4.out.later k1); have a4 := Lib.hid (a3.out.later k1); clear hA hB k1)
      | (go_at_call 14; refine (C3.out _).mono ?_; rintro e w5 ⟨rfl, hb⟩; have B6 := Lib.hid (B5.out.later hb); have a5 := Lib.hid (a4.out.later hb); have b5 := Lib.hid (b4.out.later hb); clear hb)
      | (refine store_at rfl _ _ rfl rfl w5.heap.size vc zero32 rfl rfl VC.out.1 (by decide) (at_lit w5) ?_; intro w6 hA hB _; have k1 := (below_alloc (Below.refl w5.heap.size w5) _).trans hB; have BB : Hid (BackW w w6 x y en s w1.heap.size w3.heap.size w5.heap.size va vb vc) := Lib.hid ⟨B6.out.later k1, a5.out.later k1, b5.out.later k1, hA⟩; clear hA hB k1)
      | (refine load_ino rfl _ rfl w.heap.size rfl x X4.out B1.out.fx ?_) | (refine load_ino rfl _ rfl (w.heap.size + 1) rfl y Y4.out B3.out.fy ?_) | (refine load_ent rfl _ rfl (w.heap.size + 1 + 1) rfl en B5.out.fe ?_))
    clear B1 B2 a2 B3 B4 a3 b4 B5 a4 B6 a5 b5 C1 C2 C3
    go_cut [15, 16] from 51 (fun _ _ wc => BackW w wc x y en s w1.heap.size w3.heap.size w5.heap.size va vb vc)
    case first =>
      clear C5 C6 C7 C8 C9 VS VU VV P4 M3 M4 M5
      cases ra with
      | false =>
        go_wp2_with fail
        go_meet
        case rel => exact BB.out
      | true =>
        obtain ⟨m1, m2⟩ := M1.out rfl
        rw [m1, m2] at C4
        clear m1 m2 M1
        have Q1 := Lib.hid fun w => eqIn_ino w X4.out X4.out
        have Q2 := Lib.hid fun w => eqIn_sec w VA.out VA.out
        rw [decide_eq_true rfl] at Q1
        rw [decide_eq_true rfl] at Q2
        have M6 : Hid (rb = true → va.take 16 ++ vb.drop 16 = va) := Lib.hid (M2.out rfl)
        clear M2
        go_upto_region 8 with (first
          | (refine load_at rfl _ rfl w1.heap.size rfl va VA.out.1 BB.out.fa ?_)
          | (go_at_call 9; refine (C4.out _).mono ?_; rintro e w7 ⟨rfl, hb⟩; have BC := Lib.hid (BB.out.later hb); clear hb)
          | (refine store_ino rfl _ _ rfl rfl w7.heap.size x ino0 rfl rfl X4.out rfl (atI_new w7 ino0) ?_; intro w8 hA hB _; have k1 := (below_alloc (Below.refl w7.heap.size w7) _).trans hB; have BD := Lib.hid (BC.out.later k1); have z8 := Lib.hid hA; clear hA hB k1))
        clear C4 BB BC
        cases rb with
        | true =>
          have m6 := M6.out rfl
          rw [m6] at CT
          clear m6 M6
          have h0 := Below.refl w8.drew.heap.size w8.drew
          refine wp_region_held_drew (S := ext w8.drew) (by kernel_rfl) (Below.refl _ _) (fun hH0 => ?_)
          refine wpAnyH_take (i := 0) (oi := { dst := some 57, op := Op.move (Operand.tmp 16), type := 4, pos := "law.go:56", after := #[], guard := none }) (v := ?_) rfl (by kernel_rfl) (by kernel_rfl) (by kernel_rfl) (fun _ _ _ h => h) (Or.inl ⟨by rfl, ?_⟩) (by assumption) ?_
          rotate_left
          · (intro w' hSw; go_simp; try with_reducible rfl)
          try simp only [Act.put, List.setIfInBounds_toArray, List.set_cons_zero, List.set_cons_succ]
          refine wpAnyH_take (i := 1) (oi := { dst := some 58, op := Op.unOp UnOp.not 4 (Operand.tmp 57), type := 4, pos := "law.go:56", after := #[{ on := 0, ground := Ground.data }], guard := none }) (v := ?_) rfl (by kernel_rfl) (by kernel_rfl) (by kernel_rfl) (fun _ _ _ h => h) (Or.inl ⟨by rfl, ?_⟩) (by assumption) ?_
          rotate_left
          · (intro w' hSw; go_simp; try with_reducible rfl)
          try simp only [Act.put, List.setIfInBounds_toArray, List.set_cons_zero, List.set_cons_succ]
          refine wpAnyH_take (i := 2) (oi := { dst := some 59, op := Op.move (Operand.tmp 58), type := 4, pos := "law.go:56", after := #[{ on := 1, ground := Ground.data }], guard := none }) (v := ?_) rfl (by kernel_rfl) (by kernel_rfl) (by kernel_rfl) (fun _ _ _ h => h) (Or.inl ⟨by rfl, ?_⟩) (by assumption) ?_
          rotate_left
          · (intro w' hSw; go_simp; try with_reducible rfl)
          try simp only [Act.put, List.setIfInBounds_toArray, List.set_cons_zero, List.set_cons_succ]
          refine' wpAnyH_take (i := 3) (oi := { dst := some 60, op := Op.load 24 (Operand.tmp 15), type := 24, pos := "law.go:56", after := #[{ on := 2, ground := Ground.guard }], guard := some (2, false) }) (v := _) rfl (by kernel_rfl) (by kernel_rfl) (by kernel_rfl) (fun _ _ _ h => h) (ld_ino (by rfl) _ rfl w7.heap.size rfl x X4.out (fun w' hw => z8.out.later (below_drew hw))) (by assumption) ?_
          try simp only [Act.put, List.setIfInBounds_toArray, List.set_cons_zero, List.set_cons_succ]
          refine' wpAnyH_take (i := 4) (oi := { dst := some 61, op := Op.load 24 (Operand.tmp 4), type := 24, pos := "law.go:56", after := #[{ on := 2, ground := Ground.guard }], guard := some (2, false) }) (v := _) rfl (by kernel_rfl) (by kernel_rfl) (by kernel_rfl) (fun _ _ _ h => h) (ld_ino (by rfl) _ rfl w.heap.size rfl x X4.out (fun w' hw => (BD.out.later (below_drew hw)).box.fx)) (by assumption) ?_
          try simp only [Act.put, List.setIfInBounds_toArray, List.set_cons_zero, List.set_cons_succ]
          refine' wpAnyH_take (i := 5) (oi := { dst := some 62, op := Op.binOp BinOp.neq 24 (Operand.tmp 60) (Operand.tmp 61) 24, type := 4, pos := "law.go:56", after := #[{ on := 3, ground := Ground.data }, { on := 4, ground := Ground.data }, { on := 2, ground := Ground.guard }], guard := some (2, false) }) (v := _) rfl (by kernel_rfl) (by kernel_rfl) (by kernel_rfl) (fun _ _ _ h => h) (neq_yields (by rfl) 24 _ _ _ rfl _ _ rfl rfl guard_ino true Q1.out) (by assumption) ?_
          try simp only [Act.put, List.setIfInBounds_toArray, List.set_cons_zero, List.set_cons_succ]
          refine wpAnyH_take (i := 6) (oi := { dst := some 63, op := Op.pick (Operand.tmp 59) (Operand.const (Value.bool true)) (Operand.tmp 62), type := 4, pos := "law.go:56", after := #[{ on := 2, ground := Ground.data }, { on := 5, ground := Ground.data }], guard := none }) (v := ?_) rfl (by kernel_rfl) (by kernel_rfl) (by kernel_rfl) (fun _ _ _ h => h) (Or.inl ⟨by rfl, ?_⟩) (by assumption) ?_
          rotate_left
          · (intro w' hSw; go_simp; try with_reducible rfl)
          try simp only [Act.put, List.setIfInBounds_toArray, List.set_cons_zero, List.set_cons_succ]
          refine wpAnyH_take (i := 7) (oi := { dst := some 64, op := Op.move (Operand.tmp 63), type := 4, pos := "law.go:56", after := #[{ on := 6, ground := Ground.data }, { on := 2, ground := Ground.chain }], guard := none }) (v := ?_) rfl (by kernel_rfl) (by kernel_rfl) (by kernel_rfl) (fun _ _ _ h => h) (Or.inl ⟨by rfl, ?_⟩) (by assumption) ?_
          rotate_left
          · (intro w' hSw; go_simp; try with_reducible rfl)
          try simp only [Act.put, List.setIfInBounds_toArray, List.set_cons_zero, List.set_cons_succ]
          refine wpAnyH_take (i := 8) (oi := { dst := some 65, op := Op.move (Operand.tmp 12), type := 4, pos := "law.go:56", after := #[{ on := 7, ground := Ground.guard }], guard := some (7, false) }) (v := ?_) rfl (by kernel_rfl) (by kernel_rfl) (by kernel_rfl) (fun _ _ _ h => h) (Or.inl ⟨by rfl, ?_⟩) (by assumption) ?_
          rotate_left
          · (intro w' hSw; go_simp; try with_reducible rfl)
          try simp only [Act.put, List.setIfInBounds_toArray, List.set_cons_zero, List.set_cons_succ]
          refine wpAnyH_take (i := 9) (oi := { dst := some 66, op := Op.move (Operand.tmp 65), type := 4, pos := "law.go:56", after := #[{ on := 8, ground := Ground.data }, { on := 7, ground := Ground.chain }, { on := 7, ground := Ground.guard }], guard := some (7, false) }) (v := ?_) rfl (by kernel_rfl) (by kernel_rfl) (by kernel_rfl) (fun _ _ _ h => h) (Or.inl ⟨by rfl, ?_⟩) (by assumption) ?_
          rotate_left
          · (intro w' hSw; go_simp; try with_reducible rfl)
          try simp only [Act.put, List.setIfInBounds_toArray, List.set_cons_zero, List.set_cons_succ]
          refine' wpAnyH_take (i := 10) (oi := { dst := some 67, op := Op.load 26 (Operand.tmp 11), type := 26, pos := "law.go:56", after := #[{ on := 9, ground := Ground.guard }], guard := some (9, true) }) (v := _) rfl (by kernel_rfl) (by kernel_rfl) (by kernel_rfl) (fun _ _ _ h => h) (ld_sec (by rfl) _ rfl w3.heap.size 0 rfl vb VB.out.1 (fun w' hw => (BD.out.later (below_drew hw)).fb.range)) (by assumption) ?_
          try simp only [Act.put, List.setIfInBounds_toArray, List.set_cons_zero, List.set_cons_succ]
          refine' wpAnyH_take (i := 11) (oi := { dst := some 68, op := Op.load 26 (Operand.tmp 9), type := 26, pos := "law.go:56", after := #[{ on := 9, ground := Ground.guard }], guard := some (9, true) }) (v := _) rfl (by kernel_rfl) (by kernel_rfl) (by kernel_rfl) (fun _ _ _ h => h) (ld_sec (by rfl) _ rfl w1.heap.size 0 rfl va VA.out.1 (fun w' hw => (BD.out.later (below_drew hw)).fa.range)) (by assumption) ?_
          try simp only [Act.put, List.setIfInBounds_toArray, List.set_cons_zero, List.set_cons_succ]
          refine' wpAnyH_take (i := 13) (oi := { dst := some 70, op := Op.load 26 (Operand.tmp 9), type := 26, pos := "law.go:56", after := #[{ on := 9, ground := Ground.guard }], guard := some (9, true) }) (v := _) rfl (by kernel_rfl) (by kernel_rfl) (by kernel_rfl) (fun _ _ _ h => h) (ld_sec (by rfl) _ rfl w1.heap.size 0 rfl va VA.out.1 (fun w' hw => (BD.out.later (below_drew hw)).fa.range)) (by assumption) ?_
          try simp only [Act.put, List.setIfInBounds_toArray, List.set_cons_zero, List.set_cons_succ]
          -- 12
          refine wpAnyH_ready (rs := [12]) (by kernel_rfl) (by simp) ?_
          refine AllReadyH.cons (o := { dst := some 69, op := Op.call { callee := Callee.value (Operand.func 27), args := #[Operand.tmp 67, Operand.tmp 68], argTypes := #[26, 26] }, type := 26, pos := "law.go:56", after := #[{ on := 10, ground := Ground.data }, { on := 11, ground := Ground.data }, { on := 9, ground := Ground.chain }, { on := 9, ground := Ground.guard }], guard := some (9, true) }) rfl (fun K hK => ?_) AllReadyH.nil
          go_simp
          refine (CT.out _).mono ?_
          rintro e v1 ⟨rfl, hb1⟩
          have h1 := below_trans h0 hb1
          dsimp only
          refine hK.out _ _ ?_ (fun hHeld => ?_)
          · exact h1
          clear hK K
          try simp only [Act.put, List.setIfInBounds_toArray, List.set_cons_zero, List.set_cons_succ]
          refine wpAnyH_take (i := 14) (oi := { dst := some 71, op := Op.binOp BinOp.neq 26 (Operand.tmp 69) (Operand.tmp 70) 26, type := 4, pos := "law.go:56", after := #[{ on := 12, ground := Ground.data }, { on := 13, ground := Ground.data }, { on := 9, ground := Ground.guard }], guard := some (9, true) }) (v := ?_) rfl (by kernel_rfl) (by kernel_rfl) (by kernel_rfl) (fun _ _ _ h => h) (Or.inl ⟨by rfl, ?_⟩) (by assumption) ?_
          rotate_left
          · (intro w' hSw; have hg := guard_sec; have hq := Q2.out w'; go_simp; try with_reducible rfl)
          try simp only [Act.put, List.setIfInBounds_toArray, List.set_cons_zero, List.set_cons_succ]
          refine wpAnyH_take (i := 15) (oi := { dst := some 72, op := Op.pick (Operand.tmp 66) (Operand.tmp 71) (Operand.const (Value.bool false)), type := 4, pos := "law.go:56", after := #[{ on := 9, ground := Ground.data }, { on := 14, ground := Ground.data }, { on := 7, ground := Ground.guard }], guard := some (7, false) }) (v := ?_) rfl (by kernel_rfl) (by kernel_rfl) (by kernel_rfl) (fun _ _ _ h => h) (Or.inl ⟨by rfl, ?_⟩) (by assumption) ?_
          rotate_left
          · (intro w' hSw; go_simp; try with_reducible rfl)
          try simp only [Act.put, List.setIfInBounds_toArray, List.set_cons_zero, List.set_cons_succ]
          refine wpAnyH_take (i := 16) (oi := { dst := some 73, op := Op.pick (Operand.tmp 64) (Operand.const (Value.bool true)) (Operand.tmp 72), type := 4, pos := "law.go:56", after := #[{ on := 7, ground := Ground.data }, { on := 15, ground := Ground.data }], guard := none }) (v := ?_) rfl (by kernel_rfl) (by kernel_rfl) (by kernel_rfl) (fun _ _ _ h => h) (Or.inl ⟨by rfl, ?_⟩) (by assumption) ?_
          rotate_left
          · (intro w' hSw; go_simp; try with_reducible rfl)
          try simp only [Act.put, List.setIfInBounds_toArray, List.set_cons_zero, List.set_cons_succ]
          refine wpAnyH_done (by kernel_rfl) ?_ _
          go_wp2_with fail
          go_meet
          case rel => exact BD.out.later (below_drew h1)
        | false =>
          have h0 := Below.refl w8.drew.heap.size w8.drew
          refine wp_region_held_drew (S := ext w8.drew) (by kernel_rfl) (Below.refl _ _) (fun hH0 => ?_)
          refine wpAnyH_take (i := 0) (oi := { dst := some 57, op := Op.move (Operand.tmp 16), type := 4, pos := "law.go:56", after := #[], guard := none }) (v := ?_) rfl (by kernel_rfl) (by kernel_rfl) (by kernel_rfl) (fun _ _ _ h => h) (Or.inl ⟨by rfl, ?_⟩) (by assumption) ?_
          rotate_left
          · (intro w' hSw; go_simp; try with_reducible rfl)
          try simp only [Act.put, List.setIfInBounds_toArray, List.set_cons_zero, List.set_cons_succ]
          refine wpAnyH_take (i := 1) (oi := { dst := some 58, op := Op.unOp UnOp.not 4 (Operand.tmp 57), type := 4, pos := "law.go:56", after := #[{ on := 0, ground := Ground.data }], guard := none }) (v := ?_) rfl (by kernel_rfl) (by kernel_rfl) (by kernel_rfl) (fun _ _ _ h => h) (Or.inl ⟨by rfl, ?_⟩) (by assumption) ?_
          rotate_left
          · (intro w' hSw; go_simp; try with_reducible rfl)
          try simp only [Act.put, List.setIfInBounds_toArray, List.set_cons_zero, List.set_cons_succ]
          refine wpAnyH_take (i := 2) (oi := { dst := some 59, op := Op.move (Operand.tmp 58), type := 4, pos := "law.go:56", after := #[{ on := 1, ground := Ground.data }], guard := none }) (v := ?_) rfl (by kernel_rfl) (by kernel_rfl) (by kernel_rfl) (fun _ _ _ h => h) (Or.inl ⟨by rfl, ?_⟩) (by assumption) ?_
          rotate_left
          · (intro w' hSw; go_simp; try with_reducible rfl)
          try simp only [Act.put, List.setIfInBounds_toArray, List.set_cons_zero, List.set_cons_succ]
          refine' wpAnyH_take (i := 3) (oi := { dst := some 60, op := Op.load 24 (Operand.tmp 15), type := 24, pos := "law.go:56", after := #[{ on := 2, ground := Ground.guard }], guard := some (2, false) }) (v := _) rfl (by kernel_rfl) (by kernel_rfl) (by kernel_rfl) (fun _ _ _ h => h) (ld_ino (by rfl) _ rfl w7.heap.size rfl x X4.out (fun w' hw => z8.out.later (below_drew hw))) (by assumption) ?_
          try simp only [Act.put, List.setIfInBounds_toArray, List.set_cons_zero, List.set_cons_succ]
          refine' wpAnyH_take (i := 4) (oi := { dst := some 61, op := Op.load 24 (Operand.tmp 4), type := 24, pos := "law.go:56", after := #[{ on := 2, ground := Ground.guard }], guard := some (2, false) }) (v := _) rfl (by kernel_rfl) (by kernel_rfl) (by kernel_rfl) (fun _ _ _ h => h) (ld_ino (by rfl) _ rfl w.heap.size rfl x X4.out (fun w' hw => (BD.out.later (below_drew hw)).box.fx)) (by assumption) ?_
          try simp only [Act.put, List.setIfInBounds_toArray, List.set_cons_zero, List.set_cons_succ]
          refine' wpAnyH_take (i := 5) (oi := { dst := some 62, op := Op.binOp BinOp.neq 24 (Operand.tmp 60) (Operand.tmp 61) 24, type := 4, pos := "law.go:56", after := #[{ on := 3, ground := Ground.data }, { on := 4, ground := Ground.data }, { on := 2, ground := Ground.guard }], guard := some (2, false) }) (v := _) rfl (by kernel_rfl) (by kernel_rfl) (by kernel_rfl) (fun _ _ _ h => h) (neq_yields (by rfl) 24 _ _ _ rfl _ _ rfl rfl guard_ino true Q1.out) (by assumption) ?_
          try simp only [Act.put, List.setIfInBounds_toArray, List.set_cons_zero, List.set_cons_succ]
          refine wpAnyH_take (i := 6) (oi := { dst := some 63, op := Op.pick (Operand.tmp 59) (Operand.const (Value.bool true)) (Operand.tmp 62), type := 4, pos := "law.go:56", after := #[{ on := 2, ground := Ground.data }, { on := 5, ground := Ground.data }], guard := none }) (v := ?_) rfl (by kernel_rfl) (by kernel_rfl) (by kernel_rfl) (fun _ _ _ h => h) (Or.inl ⟨by rfl, ?_⟩) (by assumption) ?_
          rotate_left
          · (intro w' hSw; go_simp; try with_reducible rfl)
          try simp only [Act.put, List.setIfInBounds_toArray, List.set_cons_zero, List.set_cons_succ]
          refine wpAnyH_take (i := 7) (oi := { dst := some 64, op := Op.move (Operand.tmp 63), type := 4, pos := "law.go:56", after := #[{ on := 6, ground := Ground.data }, { on := 2, ground := Ground.chain }], guard := none }) (v := ?_) rfl (by kernel_rfl) (by kernel_rfl) (by kernel_rfl) (fun _ _ _ h => h) (Or.inl ⟨by rfl, ?_⟩) (by assumption) ?_
          rotate_left
          · (intro w' hSw; go_simp; try with_reducible rfl)
          try simp only [Act.put, List.setIfInBounds_toArray, List.set_cons_zero, List.set_cons_succ]
          refine wpAnyH_take (i := 8) (oi := { dst := some 65, op := Op.move (Operand.tmp 12), type := 4, pos := "law.go:56", after := #[{ on := 7, ground := Ground.guard }], guard := some (7, false) }) (v := ?_) rfl (by kernel_rfl) (by kernel_rfl) (by kernel_rfl) (fun _ _ _ h => h) (Or.inl ⟨by rfl, ?_⟩) (by assumption) ?_
          rotate_left
          · (intro w' hSw; go_simp; try with_reducible rfl)
          try simp only [Act.put, List.setIfInBounds_toArray, List.set_cons_zero, List.set_cons_succ]
          refine wpAnyH_take (i := 9) (oi := { dst := some 66, op := Op.move (Operand.tmp 65), type := 4, pos := "law.go:56", after := #[{ on := 8, ground := Ground.data }, { on := 7, ground := Ground.chain }, { on := 7, ground := Ground.guard }], guard := some (7, false) }) (v := ?_) rfl (by kernel_rfl) (by kernel_rfl) (by kernel_rfl) (fun _ _ _ h => h) (Or.inl ⟨by rfl, ?_⟩) (by assumption) ?_
          rotate_left
          · (intro w' hSw; go_simp; try with_reducible rfl)
          try simp only [Act.put, List.setIfInBounds_toArray, List.set_cons_zero, List.set_cons_succ]
          refine wpAnyH_take (i := 10) (oi := { dst := some 67, op := Op.load 26 (Operand.tmp 11), type := 26, pos := "law.go:56", after := #[{ on := 9, ground := Ground.guard }], guard := some (9, true) }) (v := undef) rfl (by kernel_rfl) (by kernel_rfl) (by kernel_rfl) (fun _ _ _ h => h) (Or.inr ⟨by rfl, rfl⟩) (by assumption) ?_
          try simp only [Act.put, List.setIfInBounds_toArray, List.set_cons_zero, List.set_cons_succ]
          refine wpAnyH_take (i := 11) (oi := { dst := some 68, op := Op.load 26 (Operand.tmp 9), type := 26, pos := "law.go:56", after := #[{ on := 9, ground := Ground.guard }], guard := some (9, true) }) (v := undef) rfl (by kernel_rfl) (by kernel_rfl) (by kernel_rfl) (fun _ _ _ h => h) (Or.inr ⟨by rfl, rfl⟩) (by assumption) ?_
          try simp only [Act.put, List.setIfInBounds_toArray, List.set_cons_zero, List.set_cons_succ]
          refine wpAnyH_take (i := 12) (oi := { dst := some 69, op := Op.call { callee := Callee.value (Operand.func 27), args := #[Operand.tmp 67, Operand.tmp 68], argTypes := #[26, 26] }, type := 26, pos := "law.go:56", after := #[{ on := 10, ground := Ground.data }, { on := 11, ground := Ground.data }, { on := 9, ground := Ground.chain }, { on := 9, ground := Ground.guard }], guard := some (9, true) }) (v := undef) rfl (by kernel_rfl) (by kernel_rfl) (by kernel_rfl) (fun _ _ _ h => h) (Or.inr ⟨by rfl, rfl⟩) (by assumption) ?_
          try simp only [Act.put, List.setIfInBounds_toArray, List.set_cons_zero, List.set_cons_succ]
          refine wpAnyH_take (i := 13) (oi := { dst := some 70, op := Op.load 26 (Operand.tmp 9), type := 26, pos := "law.go:56", after := #[{ on := 9, ground := Ground.guard }], guard := some (9, true) }) (v := undef) rfl (by kernel_rfl) (by kernel_rfl) (by kernel_rfl) (fun _ _ _ h => h) (Or.inr ⟨by rfl, rfl⟩) (by assumption) ?_
          try simp only [Act.put, List.setIfInBounds_toArray, List.set_cons_zero, List.set_cons_succ]
          refine wpAnyH_take (i := 14) (oi := { dst := some 71, op := Op.binOp BinOp.neq 26 (Operand.tmp 69) (Operand.tmp 70) 26, type := 4, pos := "law.go:56", after := #[{ on := 12, ground := Ground.data }, { on := 13, ground := Ground.data }, { on := 9, ground := Ground.guard }], guard := some (9, true) }) (v := undef) rfl (by kernel_rfl) (by kernel_rfl) (by kernel_rfl) (fun _ _ _ h => h) (Or.inr ⟨by rfl, rfl⟩) (by assumption) ?_
          try simp only [Act.put, List.setIfInBounds_toArray, List.set_cons_zero, List.set_cons_succ]
          refine wpAnyH_take (i := 15) (oi := { dst := some 72, op := Op.pick (Operand.tmp 66) (Operand.tmp 71) (Operand.const (Value.bool false)), type := 4, pos := "law.go:56", after := #[{ on := 9, ground := Ground.data }, { on := 14, ground := Ground.data }, { on := 7, ground := Ground.guard }], guard := some (7, false) }) (v := ?_) rfl (by kernel_rfl) (by kernel_rfl) (by kernel_rfl) (fun _ _ _ h => h) (Or.inl ⟨by rfl, ?_⟩) (by assumption) ?_
          rotate_left
          · (intro w' hSw; go_simp; try with_reducible rfl)
          try simp only [Act.put, List.setIfInBounds_toArray, List.set_cons_zero, List.set_cons_succ]
          refine wpAnyH_take (i := 16) (oi := { dst := some 73, op := Op.pick (Operand.tmp 64) (Operand.const (Value.bool true)) (Operand.tmp 72), type := 4, pos := "law.go:56", after := #[{ on := 7, ground := Ground.data }, { on := 15, ground := Ground.data }], guard := none }) (v := ?_) rfl (by kernel_rfl) (by kernel_rfl) (by kernel_rfl) (fun _ _ _ h => h) (Or.inl ⟨by rfl, ?_⟩) (by assumption) ?_
          rotate_left
          · (intro w' hSw; go_simp; try with_reducible rfl)
          try simp only [Act.put, List.setIfInBounds_toArray, List.set_cons_zero, List.set_cons_succ]
          refine wpAnyH_done (by kernel_rfl) ?_ _
          go_wp2_with fail
          go_meet
          case rel => exact BD.out.later (below_drew h0)
    case rest =>
      have BC := Lib.hid hcut
      clear hcut BB C4 CT M1 M2 VA VB X4 Y4
      go_upto_if 74 with fail
      go_cut [17, 18] from 51 (fun _ _ wd => BackW w wd x y en s w1.heap.size w3.heap.size w5.heap.size va vb vc)
      case first =>
        clear C6 C7 C8 C9 VS VU VV P4 M4 M5
        cases rc with
        | false =>
          go_wp2_with fail
          go_meet
          case rel => exact BC.out
        | true =>
          obtain ⟨m1, m2⟩ := M3.out rfl
          rw [m1, m2] at C5
          clear m1 m2 M3
          have hge := guard_ent
          have hqe := fun w => eqIn_ent_self w en
          go_wp2_with (first
            | (refine load_at rfl _ rfl w5.heap.size rfl vc VC.out.1 BC.out.fc ?_)
            | (go_at_call 16; refine (C5.out _).mono ?_; rintro e w7 ⟨rfl, hb⟩; have BD := Lib.hid (BC.out.later hb); clear hb)
            | (refine store_ent rfl _ _ rfl rfl w7.heap.size en ent0 rfl rfl (atE_new w7 ent0) ?_; intro w8 hA hB _; have k1 := (below_alloc (Below.refl w7.heap.size w7) _).trans hB; have BE := Lib.hid (BD.out.later k1); have z8 := Lib.hid hA; clear hA hB k1)
            | (refine load_ent_g ?_ _ rfl w7.heap.size rfl en z8.out ?_; · rfl)
            | (refine load_ent_g ?_ _ rfl (w.heap.size + 1 + 1) rfl en BE.out.box.fe ?_; · rfl))
          go_meet
          case rel => exact BE.out
      case rest =>
        have BD := Lib.hid hcut
        clear hcut BC C5 M3 VC
        go_upto_region 18 with (first
          | (refine load_at rfl _ rfl (w.heap.size + 1 + 1 + 1) rfl s VS.out.1 BD.out.box.fs ?_)
          | (go_at_call 9; refine (C6.out _).mono ?_; rintro e v1 ⟨rfl, hb⟩; have D1 := Lib.hid (BD.out.box.later hb); clear hb)
          | (refine store_ino rfl _ _ rfl rfl v1.heap.size p ino0 rfl rfl P4.out rfl (atI_new v1 ino0) ?_; intro v2 hA hB _; have k1 := (below_alloc (Below.refl v1.heap.size v1) _).trans hB; have D2 := Lib.hid (D1.out.later k1); have p2 := Lib.hid hA; clear hA hB k1)
          | (refine load_at rfl _ rfl (w.heap.size + 1 + 1 + 1) rfl s VS.out.1 D2.out.fs ?_)
          | (go_at_call 16; refine (C7.out _).mono ?_; rintro e v3 ⟨rfl, hb⟩; have D3 := Lib.hid (D2.out.later hb); have p3 := Lib.hid (p2.out.later hb); clear hb)
          | (refine store_ent rfl _ _ rfl rfl v3.heap.size q ent0 rfl rfl (atE_new v3 ent0) ?_; intro v4 hA hB _; have k1 := (below_alloc (Below.refl v3.heap.size v3) _).trans hB; have D4 := Lib.hid (D3.out.later k1); have p4 := Lib.hid (p3.out.later k1); have q4 := Lib.hid hA; clear hA hB k1)
          | (refine load_ino rfl _ rfl v1.heap.size rfl p P4.out p4.out ?_)
          | (go_at_call 7; refine (C8.out _).mono ?_; rintro e v5 ⟨rfl, hb⟩; have D5 := Lib.hid (D4.out.later hb); have q5 := Lib.hid (q4.out.later hb); clear hb)
          | (refine store_at rfl _ _ rfl rfl v5.heap.size vu zero32 rfl rfl VU.out.1 (by decide) (at_lit v5) ?_; intro v6 hA hB _; have k1 := (below_alloc (Below.refl v5.heap.size v5) _).trans hB; have D6 := Lib.hid (D5.out.later k1); have q6 := Lib.hid (q5.out.later k1); have u6 := Lib.hid hA; clear hA hB k1)
          | (refine load_ent rfl _ rfl v3.heap.size rfl q q6.out ?_)
          | (go_at_call 14; refine (C9.out _).mono ?_; rintro e v7 ⟨rfl, hb⟩; have D7 := Lib.hid (D6.out.later hb); have u7 := Lib.hid (u6.out.later hb); clear hb)
          | (refine store_at rfl _ _ rfl rfl v7.heap.size vv zero32 rfl rfl VV.out.1 (by decide) (at_lit v7) ?_; intro v8 hA hB _; have k1 := (below_alloc (Below.refl v7.heap.size v7) _).trans hB; have D8 := Lib.hid (D7.out.later k1); have u8 := Lib.hid (u7.out.later k1); have y8 := Lib.hid hA; clear hA hB k1))
        clear BD D1 D2 p2 D3 p3 D4 p4 q4 D5 q5 D6 q6 u6 D7 u7 C6 C7 C8 C9 P4
        have hgs := guard_sec
        have Q1 : Hid (rp = true → ∀ w, (Op.equalIn 10000 26 (agg vu) (agg s)).run Try.prog w = .ok true w) := Lib.hid fun h w => by rw [M4.out h]; have := eqIn_sec w VS.out VS.out; rwa [decide_eq_true rfl] at this
        have Q2 : Hid (rq = true → ∀ w, (Op.equalIn 10000 26 (agg vv) (agg s)).run Try.prog w = .ok true w) := Lib.hid fun h w => by rw [M5.out h]; have := eqIn_sec w VS.out VS.out; rwa [decide_eq_true rfl] at this
        cases rp with
        | false =>
          cases rq with
          | false =>
            go_wp2_with fail
            go_ret
            exact ⟨rfl, D8.out.below⟩
          | true =>
            have q2 := Q2.out rfl
            go_wp2_with (first | (refine load_at_g ?_ _ rfl v7.heap.size rfl vv VV.out.1 y8.out ?_; · rfl) | (refine load_at_g ?_ _ rfl (w.heap.size + 1 + 1 + 1) rfl s VS.out.1 D8.out.fs ?_; · rfl))
            go_ret
            exact ⟨rfl, D8.out.below⟩
        | true =>
          have q1 := Q1.out rfl
          cases rq with
          | false =>
            go_wp2_with (first | (refine load_at_g ?_ _ rfl v5.heap.size rfl vu VU.out.1 u8.out ?_; · rfl) | (refine load_at_g ?_ _ rfl (w.heap.size + 1 + 1 + 1) rfl s VS.out.1 D8.out.fs ?_; · rfl))
            go_ret
            exact ⟨rfl, D8.out.below⟩
          | true =>
            have q2 := Q2.out rfl
            go_wp2_with (first | (refine load_at_g ?_ _ rfl v5.heap.size rfl vu VU.out.1 u8.out ?_; · rfl) | (refine load_at_g ?_ _ rfl v7.heap.size rfl vv VV.out.1 y8.out ?_; · rfl) | (refine load_at_g ?_ _ rfl (w.heap.size + 1 + 1 + 1) rfl s VS.out.1 D8.out.fs ?_; · rfl))
            go_ret
            exact ⟨rfl, D8.out.below⟩
end Go.Proofs.Ytkbnfofklofkoaa.ly
