/- What LayoutInodes wants, part 14. -/
import Derived.Test.YtkbnfofklofkoaaLayoutInodesB
import Derived.Test.YtkbnfofklofkoaaLayoutInodesD
import Derived.Test.YtkbnfofklofkoaaLayoutInodesE
import Derived.Test.YtkbnfofklofkoaaLayoutInodesG
import Derived.Test.YtkbnfofklofkoaaLayoutInodesL
import Derived.Test.YtkbnfofklofkoaaLayoutInodesM
import Derived.Lib.BufferWrite
import Derived.Deep.CutRange
import Derived.Deep.DrawnRows
/- What Entry, the code's and the reference's, gives. -/
namespace Go.Proofs.Ytkbnfofklofkoaa.ly
set_option maxRecDepth 100000
open Go.ChangeShapes Go.WideShapes Go.ChangeAt Go.RowKit
open Go.Proofs.Ytkbnfofklofkoaa.rows
open Go.Proofs.Ytkbnfofklofkoaa.sec
open Go.Proofs.Ytkbnfofklofkoaa.dsk (wf64 cell_row frozen_row setCell_heap row_later row_alloc)
set_option linter.unusedVariables false
set_option linter.unusedSimpArgs false

theorem run_copy_str {w : World} (ty : TypeId) (g off dLen dCap : Nat) (s : ByteArray) (old : List Int) (hg : At w g old) (hle : s.size ≤ dLen) (hfit : off + s.size ≤ old.length) :
    (Builtin.copy_ #[50, 9] ty #[.slice (some ⟨g, off, none⟩) dLen dCap, .string s]).run Try.prog w = .ok (goInt s.size) (w.setRow g (u8s (splice old off (bys s))).toArray) := by
  have h := Lib.run_copy_row_string (P := Try.prog) w 50 9 ty 5 g off dLen dCap s (u8s old).toArray 26 Try.underlying50 (by kernel_rfl) hg hle (by simpa [u8s] using hfit)
  have e : (u8s old).toArray.toList.take off ++ Lib.byteCells s.data.toList ++ (u8s old).toArray.toList.drop (off + s.size) = u8s (splice old off (bys s)) := by
    have e1 : Lib.byteCells s.data.toList = u8s (bys s) := by simp [Lib.byteCells, u8s, bys]
    have e2 : s.size = (u8s (bys s)).length := by simp [u8s, bys_len]
    rw [e1, e2, ← splice_u8s, List.append_assoc]; rfl
  rw [e] at h
  exact h
theorem step_copy_str {ops : Array Oper} {o : Oper} {a : Act} {w : World} {K : Act → World → Prop} {Q : Exit → Act → World → Prop} {E : Prop} (hgd : o.guard = none) (d s : Operand)
    (ho : o.op = .call { callee := .builtin .copy, args := #[d, s], argTypes := #[50, 9] }) (g off dLen dCap : Nat)
    (hd : a.eval d = .slice (some ⟨g, off, none⟩) dLen dCap) (t : ByteArray) (hs : a.eval s = .string t) (old : List Int) (hg : At w g old) (hle : t.size ≤ dLen) (hfit : off + t.size ≤ old.length)
    (h : ∀ w', At w' g (splice old off (bys t)) → Below g w w' → (∀ k, k ≠ g → w'.heap[k]? = w.heap[k]?) → K (a.put o.dst (goInt t.size)) w') :
    if Region.wanted o (yielded ops a.tmps) = true then Oper.wp Try.prog o a w K Q else E := by
  have hw : Region.wanted o (yielded ops a.tmps) = true := by simp [Region.wanted, hgd]
  rw [if_pos hw]
  have hrun := run_copy_str o.type g off dLen dCap t old hg hle hfit
  unfold Oper.wp
  simp [execOp, ho, resolve, invoke, builtin, hd, hs, hrun, Result.andThen]
  exact h _ (setRow_heap w g _ _ _ _ hg) ((Below.refl g w).trans ⟨rfl, rfl, rfl, by simp [World.setRow], fun k hk => setRow_other w g k _ (by omega)⟩) (fun k hk => setRow_other w g k _ hk)
/-- the entry lies in block g -/
def AtE (w : World) (g : Nat) (x : Ent) : Prop := w.heap[g]? = some (.cells #[.bool x.used, .int .i64 x.parent, .string x.name, .int .i64 x.target] 35)
theorem AtE.later {w w' : World} {g : Nat} {x : Ent} (h : AtE w g x) (k : Below w.heap.size w w') : AtE w' g x := (k.block g (Array.getElem?_eq_some_iff.1 h).1).trans h
theorem AtE.alloc {w : World} {g : Nat} {x : Ent} (h : AtE w g x) (o : Obj) : AtE (w.alloc o) g x := h.later (below_alloc (Below.refl _ _) o)
theorem atE_new (w : World) (x : Ent) : AtE (w.alloc (.cells #[.bool x.used, .int .i64 x.parent, .string x.name, .int .i64 x.target] 35)) w.heap.size x := heap_alloc_new _ _
theorem AtE.cell0 {w : World} {g : Nat} {x : Ent} (h : AtE w g x) : w.cell? ⟨g, 0, none⟩ = some (.bool x.used) := cell_row h 0 _ rfl
theorem AtE.cell1 {w : World} {g : Nat} {x : Ent} (h : AtE w g x) : w.cell? ⟨g, 1, none⟩ = some (.int .i64 x.parent) := cell_row h 1 _ rfl
theorem AtE.cell2 {w : World} {g : Nat} {x : Ent} (h : AtE w g x) : w.cell? ⟨g, 2, none⟩ = some (.string x.name) := cell_row h 2 _ rfl
theorem AtE.cell3 {w : World} {g : Nat} {x : Ent} (h : AtE w g x) : w.cell? ⟨g, 3, none⟩ = some (.int .i64 x.target) := cell_row h 3 _ rfl
theorem und_ent : Try.prog.underlying 35 = some (.struct (Try.prog.fieldsOf 35)) := by kernel_rfl
theorem info_ent : (Try.prog.info? 35).map (·.size) = some 4 := by kernel_rfl
theorem load_ent {ops : Array Oper} {rest : List Oper} {o : Oper} {a : Act} {w : World} {Q : Exit → Act → World → Prop} (hgd : o.guard = none) (p : Operand) (ho : o.op = .load 35 p)
    (g : Nat) (hp : a.eval p = .pointer (some ⟨g, 0, none⟩)) (x : Ent) (hg : AtE w g x)
    (h : wpList Try.prog ops Q rest (a.put o.dst (aggE x)) w) : wpList Try.prog ops Q (o :: rest) a w :=
  wpList_load_row hgd 35 p ho g hp 35 _ _ _ hg und_ent rfl (by rw [info_ent]; rfl) h
/-- the boxes of a function that takes an entry and returns a sector -/
structure BoxesE (w W : World) (x : Ent) (s : List Int) : Prop where
  ent : AtE W w.heap.size x
  out : At W (w.heap.size + 1) s
  below : Below w.heap.size w W
theorem boxesE (w : World) (x : Ent) : ∃ W, (w.alloc (.cells #[.bool x.used, .int .i64 x.parent, .string x.name, .int .i64 x.target] 35)).alloc (.cells (u8s zero32).toArray 26) = W ∧ BoxesE w W x zero32 :=
  ⟨_, rfl, (atE_new w x).alloc _, by have := at_new (w.alloc (.cells #[.bool x.used, .int .i64 x.parent, .string x.name, .int .i64 x.target] 35)) zero32; simpa using this, below_alloc (below_alloc (Below.refl _ _) _) _⟩
theorem BoxesE.later {w W W' : World} {x : Ent} {s : List Int} (h : BoxesE w W x s) (hb : Below W.heap.size W W') : BoxesE w W' x s := ⟨h.ent.later hb, h.out.later hb, below_trans h.below hb⟩
set_option maxRecDepth 100000 in
set_option maxHeartbeats 1600000 in
theorem entry_no (x : Ent) (hx : x.ok) (w : World) (hr : rightE x = false) :
    Calls Try.prog 14 #[aggE x] w fun e w' => e = .returned (.tuple #[agg zero32, .bool false]) ∧ Below w.heap.size w w' := by
  obtain ⟨W, hW, HB'⟩ := boxesE w x
  have HB := Lib.hid HB'
  have HX := Lib.hid hx
  have HR := Lib.hid fun w => rightE_any x hx w
  rw [hr] at HR
  clear HB' hx
  go_enter Try.func14, Try.ntmps14
  go_upto_region 1 with fail
  rw [lit_zero, hW]
  clear hW
  go_wp2_with (first | (refine load_ent rfl _ rfl w.heap.size rfl x HB.out.ent ?_) | (go_at_call 18; refine (HR.out _).mono ?_; rintro e w2 ⟨rfl, hb2⟩; have HB2 := Lib.hid (HB.out.later hb2); clear hb2) | (refine store_at rfl _ _ rfl rfl (w.heap.size + 1) zero32 zero32 rfl (congrArg Value.agg lit_zero) (by decide) (by decide) HB2.out.out ?_; intro w3 hA hB3 _; have A3 := Lib.hid hA; clear hA))
  refine ret_sec2 rfl (w.heap.size + 1) _ _ rfl rfl (by decide) A3.out rfl ⟨rfl, ?_⟩
  exact HB2.out.below.trans (hB3.mono (by omega))
set_option maxRecDepth 100000 in
set_option maxHeartbeats 3200000 in
theorem entry_yes (x : Ent) (hx : x.ok) (w : World) (hr : rightE x = true) :
    Calls Try.prog 14 #[aggE x] w fun e w' => e = .returned (.tuple #[agg (entSec x), .bool true]) ∧ Below w.heap.size w w' := by
  obtain ⟨W, hW, HB'⟩ := boxesE w x
  have HB := Lib.hid HB'
  have HR := Lib.hid fun w => rightE_any x hx w
  have hn8 := (rightE_name hr).1
  obtain ⟨p0, p1, t0, t1⟩ := rightE_fine hr
  have HSP := Lib.hid (ent1_splice x (by omega))
  have HSL := Lib.hid (entSec_sec hr).1
  have n8 : (x.name.size : Int) ≤ 8 := by omega
  rw [hr] at HR
  clear HB' hx hr
  go_enter Try.func14, Try.ntmps14
  go_upto_region 1 with fail
  rw [lit_zero, hW]
  clear hW
  go_upto_region 3 with (first | (refine load_ent rfl _ rfl w.heap.size rfl x HB.out.ent ?_) | (go_at_call 18; refine (HR.out _).mono ?_; rintro e w2 ⟨rfl, hb2⟩; have HB2 := Lib.hid (HB.out.later hb2); clear hb2))
  have hc1 := HB2.out.ent.cell1
  have hc2 := HB2.out.ent.cell2
  have hc3 := HB2.out.ent.cell3
  go_upto_region 4 with (first | (refine store_at rfl _ _ rfl rfl w2.heap.size (ent1 x 0) zero32 rfl rfl (ent1_len x 0) (by decide) (at_lit w2) ?_; intro w3 hA hB3 hO3; have A3 := Lib.hid hA; clear hA hO3))
  have HB3 := Lib.hid (HB2.out.later ((below_alloc (Below.refl _ _) _).trans hB3))
  have hg : w.heap.size + 1 < w2.heap.size := (Array.getElem?_eq_some_iff.1 HB2.out.out).1
  obtain ⟨g, hgg⟩ : ∃ g, w2.heap.size = g := ⟨_, rfl⟩
  rw [hgg] at hg A3
  rw [hgg]
  clear hB3 HB hc1 hc2 hc3 hgg HB2
  have hc0 := HB3.out.ent.cell0
  cases hu : x.used with
  | false =>
    rw [hu] at hc0 HSP
    rw [if_neg (by decide)] at HSP
    go_upto_region 6 with fail
    obtain ⟨w4, hw4⟩ : ∃ w4, w3 = w4 := ⟨_, rfl⟩
    rw [hw4]
    rw [hw4] at A3 HB3
    have A4 := A3
    have HB4 := HB3
    clear hw4 hc0 A3 HB3
    have hc2 := HB4.out.ent.cell2
    go_region_law (refine step_copy_str rfl _ _ rfl g 16 16 16 rfl x.name rfl (ent1 x 0) A4.out (by omega) (by rw [ent1_len]; omega) ?_; intro w5 hA hB5 hO5; have A5 := Lib.hid hA; have HB5 : Hid (BoxesE w w5 x zero32) := Lib.hid ⟨(hO5 _ (by omega)).trans HB4.out.ent, (hO5 _ (by omega)).trans HB4.out.out, HB4.out.below.drew.trans (hB5.mono (by omega))⟩; clear hA hO5 hB5)
    rw [HSP.out] at A5
    go_wp2_with (first | (refine load_at rfl _ rfl g rfl _ HSL.out A5.out ?_) | (refine store_at rfl _ _ rfl rfl (w.heap.size + 1) _ zero32 rfl rfl HSL.out (by decide) HB5.out.out ?_; intro w6 hA hB6 _; have A6 := Lib.hid hA; clear hA))
    refine ret_sec2 rfl (w.heap.size + 1) _ _ rfl rfl HSL.out A6.out rfl ⟨rfl, ?_⟩
    exact HB5.out.below.trans (hB6.mono (by omega))
  | true =>
    rw [hu] at hc0 HSP
    rw [if_pos rfl] at HSP
    have cs := A3.out.cell (i := 0) (by rw [ent1_len]; omega)
    have cf : w3.frozen? ⟨g, 0, none⟩ = false := frozen_row A3.out 0
    go_upto_region 6 with fail
    have A4 : Hid (At (w3.setCell ⟨g, 0, none⟩ (.int .u8 1)) g (ent1 x 1)) := Lib.hid (at_setCell A3.out 1)
    have HB4 : Hid (BoxesE w (w3.setCell ⟨g, 0, none⟩ (.int .u8 1)) x zero32) := Lib.hid ⟨(Below.heap_setCell _ _ _ _ (by simp; omega)).trans HB3.out.ent, at_setCell_other HB3.out.out (by omega) _, HB3.out.below.setCell (p := ⟨g, 0, none⟩) (by simp; omega) _⟩
    obtain ⟨w4, hw4⟩ : ∃ w4, w3.setCell ⟨g, 0, none⟩ (.int .u8 1) = w4 := ⟨_, rfl⟩
    rw [hw4]
    rw [hw4] at A4 HB4
    clear hw4 hc0 A3 HB3 cs cf
    have hc2 := HB4.out.ent.cell2
    go_region_law (refine step_copy_str rfl _ _ rfl g 16 16 16 rfl x.name rfl (ent1 x 1) A4.out (by omega) (by rw [ent1_len]; omega) ?_; intro w5 hA hB5 hO5; have A5 := Lib.hid hA; have HB5 : Hid (BoxesE w w5 x zero32) := Lib.hid ⟨(hO5 _ (by omega)).trans HB4.out.ent, (hO5 _ (by omega)).trans HB4.out.out, HB4.out.below.drew.trans (hB5.mono (by omega))⟩; clear hA hO5 hB5)
    rw [HSP.out] at A5
    go_wp2_with (first | (refine load_at rfl _ rfl g rfl _ HSL.out A5.out ?_) | (refine store_at rfl _ _ rfl rfl (w.heap.size + 1) _ zero32 rfl rfl HSL.out (by decide) HB5.out.out ?_; intro w6 hA hB6 _; have A6 := Lib.hid hA; clear hA))
    refine ret_sec2 rfl (w.heap.size + 1) _ _ rfl rfl HSL.out A6.out rfl ⟨rfl, ?_⟩
    exact HB5.out.below.trans (hB6.mono (by omega))
def entV (x : Ent) : List Int := if rightE x then entSec x else zero32
theorem entry_any (x : Ent) (hx : x.ok) (w : World) :
    Calls Try.prog 14 #[aggE x] w fun e w' => e = .returned (.tuple #[agg (entV x), .bool (rightE x)]) ∧ Below w.heap.size w w' := by
  cases hr : rightE x with
  | true => rw [entV, if_pos hr]; exact entry_yes x hx w hr
  | false => rw [entV, if_neg (by simp [hr])]; exact entry_no x hx w hr
end Go.Proofs.Ytkbnfofklofkoaa.ly
/- What Empty, super and root give. -/
namespace Go.Proofs.Ytkbnfofklofkoaa.ly
set_option maxRecDepth 100000
open Go.ChangeShapes Go.WideShapes Go.ChangeAt Go.RowKit
open Go.Proofs.Ytkbnfofklofkoaa.rows
open Go.Proofs.Ytkbnfofklofkoaa.sec
open Go.Proofs.Ytkbnfofklofkoaa.dsk (wf64 cell_row frozen_row setCell_heap row_later row_alloc rows_rd rows_made rows_set run_store_mid made_secs secs_zero secs_set Touch touch_setRow)
set_option linter.unusedVariables false
set_option linter.unusedSimpArgs false

def superSec : List Int := [70, 76, 79, 84] ++ List.replicate 28 0
def rootIno : Ino := ⟨2, 0, [0, 0, 0, 0]⟩
def rootSec : List Int := 2 :: List.replicate 31 0
theorem superSec_is : Sec superSec := ⟨by decide, by decide⟩
theorem rootSec_is : Sec rootSec := ⟨by decide, by decide⟩
theorem rootIno_ok : rootIno.ok := ⟨rfl, wf_byte (by simp [rootIno]), wf_byte (by simp [rootIno]), by intro z hz; simp [rootIno] at hz; subst hz; exact wf_byte (by omega)⟩
theorem rootIno_right : rightI rootIno = true := by decide
theorem rootIno_sec : inoV rootIno = rootSec := by rw [inoV, if_pos rootIno_right]; decide
theorem copy_str {ops : Array Oper} {rest : List Oper} {o : Oper} {a : Act} {w : World} {Q : Exit → Act → World → Prop} (hgd : o.guard = none) (d s : Operand)
    (ho : o.op = .call { callee := .builtin .copy, args := #[d, s], argTypes := #[50, 9] }) (g off dLen dCap : Nat)
    (hd : a.eval d = .slice (some ⟨g, off, none⟩) dLen dCap) (t : ByteArray) (hs : a.eval s = .string t) (old : List Int) (hg : At w g old) (hle : t.size ≤ dLen) (hfit : off + t.size ≤ old.length)
    (h : ∀ w', At w' g (splice old off (bys t)) → Below g w w' → (∀ k, k ≠ g → w'.heap[k]? = w.heap[k]?) → wpList Try.prog ops Q rest (a.put o.dst (goInt t.size)) w') : wpList Try.prog ops Q (o :: rest) a w := by
  refine wpList_plain hgd fun K hK => ?_
  have hrun := run_copy_str o.type g off dLen dCap t old hg hle hfit
  unfold Oper.wp
  simp [execOp, ho, resolve, invoke, builtin, hd, hs, hrun, Result.andThen]
  exact hK _ _ (h _ (setRow_heap w g _ _ _ _ hg) ((Below.refl g w).trans ⟨rfl, rfl, rfl, by simp [World.setRow], fun k hk => setRow_other w g k _ (by omega)⟩) (fun k hk => setRow_other w g k _ hk))
/-- a sector into the middle of a block of sectors -/
theorem store_mid {w : World} {ops : Array Oper} {rest : List Oper} {o : Oper} {a : Act} {Q : Exit → Act → World → Prop} (hgd : o.guard = none) (x y : Operand) (ho : o.op = .store 26 x y) (hd : o.dst = none)
    (g i : Nat) (hx : a.eval x = .pointer (some ⟨g, i * 32, none⟩)) (s : List Int) (hy : a.eval y = .agg (u8s s).toArray) (hl : Sec s) (ss : List (List Int)) (hs : Secs ss) (hi : i < ss.length) (hg : Go.Proofs.Ytkbnfofklofkoaa.dsk.Rows w g ss)
    (h : ∀ w', Go.Proofs.Ytkbnfofklofkoaa.dsk.Rows w' g (ss.set i s) → Below g w w' → wpList Try.prog ops Q rest a w') : wpList Try.prog ops Q (o :: rest) a w := by
  refine wpList_plain hgd fun K hK => ?_
  have hrun := run_store_mid hg hs hi hl
  unfold Oper.wp execOp
  simp only [ho, hx, hy, Instr.storeAt, Instr.sureAddr, Sem.run_bind, Sem.run_pure, Result.andThen_ok, hrun]
  exact hK (a.put o.dst undef) _ (by rw [hd]; exact h _ (rows_set hg) ((Below.refl g w).trans ⟨rfl, rfl, rfl, by simp [World.setRow], fun k hk => setRow_other w g k _ (by omega)⟩))
theorem two_boxes (w : World) : ∃ W, (w.alloc (.cells (u8s zero32).toArray 26)).alloc (.cells (u8s zero32).toArray 26) = W ∧ At W w.heap.size zero32 ∧ At W (w.heap.size + 1) zero32 ∧ Below w.heap.size w W :=
  ⟨_, rfl, (at_new w zero32).alloc _, by have := at_new (w.alloc (.cells (u8s zero32).toArray 26)) zero32; simpa using this, below_alloc (below_alloc (Below.refl _ _) _) _⟩
set_option maxRecDepth 100000 in
theorem super_any (w : World) : Calls Try.prog 34 #[] w fun e w' => e = .returned (agg superSec) ∧ Below w.heap.size w w' := by
  obtain ⟨W, hW, h1, h2, hb⟩ := two_boxes w
  have A1 := Lib.hid h1
  have A2 := Lib.hid h2
  have hsp : Hid (splice zero32 0 (bys { data := #[70, 76, 79, 84] }) = superSec) := Lib.hid (by decide)
  clear h1 h2
  go_enter Try.func34, Try.ntmps34
  go_upto_region 2 with fail
  rw [lit_zero, hW]
  clear hW
  go_wp2_with (first | (refine copy_str rfl _ _ rfl (w.heap.size + 1) 0 32 32 rfl { data := #[70, 76, 79, 84] } rfl zero32 A2.out (by decide) (by decide) ?_; intro w3 hA hB3 hO3; have A3 := Lib.hid hA; have A13 : Hid (At w3 w.heap.size zero32) := Lib.hid ((hO3 _ (by omega)).trans A1.out); rw [hsp.out] at A3; clear hA hO3) | (refine load_at rfl _ rfl (w.heap.size + 1) rfl superSec superSec_is.1 A3.out ?_) | (refine store_at rfl _ _ rfl rfl w.heap.size superSec zero32 rfl rfl superSec_is.1 (by decide) A13.out ?_; intro w4 hA hB4 _; have A4 := Lib.hid hA; clear hA))
  refine ret_sec rfl w.heap.size _ rfl superSec_is.1 A4.out rfl ⟨rfl, ?_⟩
  exact (hb.trans (hB3.mono (by omega))).trans hB4
set_option maxRecDepth 100000 in
theorem root_any (w : World) : Calls Try.prog 35 #[] w fun e w' => e = .returned (agg rootSec) ∧ Below w.heap.size w w' := by
  have A1 := Lib.hid (at_lit w)
  have HI := Lib.hid fun w => inode_any rootIno rootIno_ok w
  rw [rootIno_sec, rootIno_right] at HI
  go_enter Try.func35, Try.ntmps35
  go_upto_region 1 with fail
  rw [lit_zero]
  have A1' : Hid (At (w.alloc (.cells (u8s zero32).toArray 26)) w.heap.size zero32) := Lib.hid (at_new w zero32)
  have HB : Hid (Below w.heap.size w (w.alloc (.cells (u8s zero32).toArray 26))) := Lib.hid (below_alloc (Below.refl _ _) _)
  generalize w.alloc (.cells (u8s zero32).toArray 26) = U at *
  clear A1
  go_wp2_with (first | (go_at_call 7; refine (HI.out _).mono ?_; rintro e w2 ⟨rfl, hb2⟩; have HB2 := Lib.hid (below_trans HB.out hb2); have A12 := Lib.hid (A1'.out.later hb2); clear hb2) | (refine store_at rfl _ _ rfl rfl w2.heap.size rootSec zero32 rfl rfl rootSec_is.1 (by decide) (at_lit w2) ?_; intro w3 hA hB3 hO3; have A3 := Lib.hid hA; have HB3 := Lib.hid ((below_alloc HB2.out _).trans (hB3.mono HB2.out.size)); have A13 := Lib.hid (A12.out.later ((below_alloc (Below.refl _ _) _).trans hB3)); clear hA hB3 hO3) | (refine load_at rfl _ rfl w2.heap.size rfl rootSec rootSec_is.1 A3.out ?_) | (refine store_at rfl _ _ rfl rfl w.heap.size rootSec zero32 rfl rfl rootSec_is.1 (by decide) A13.out ?_; intro w4 hA hB4 _; have A4 := Lib.hid hA; clear hA))
  refine ret_sec rfl w.heap.size _ rfl rootSec_is.1 A4.out rfl ⟨rfl, ?_⟩
  exact HB3.out.trans hB4
def emptyImg : List (List Int) := ((List.replicate 65 zero32).set 0 superSec).set 1 rootSec
theorem emptyImg_secs : Secs emptyImg := secs_set (secs_set (secs_zero 65) superSec_is 0) rootSec_is 1
set_option maxRecDepth 100000 in
theorem empty_any (w : World) : Calls Try.prog 23 #[] w fun e w' => ∃ p c, e = .returned (.slice p 65 c) ∧ Rd w' 32 (.slice p 65 c) 65 (cellsOf emptyImg) ∧ Below w.heap.size w w' := by
  obtain ⟨i0, hi, hz0, hz1, hz2⟩ := info_parts elem_secs.info
  have HS := Lib.hid fun w => super_any w
  have HR := Lib.hid fun w => root_any w
  go_enter Try.func23, Try.ntmps23
  go_upto_region 2 with (at_make; refine wpList_make_full _ rfl _ _ 42 rfl w.heap.size 26 i0 (.agg (u8s (List.replicate 32 0)).toArray) 32 Try.underlying42 hi hz0 hz1 .i64 .i64 _ _ 65 rfl rfl rfl rfl (by rw [hz2]; omega) (by unfold maxLen; omega) (Nat.le_refl _) ?_; intro w3 ho3 hg3; rw [made_secs] at ho3; have hb3 := below_made hg3; have R3 := Lib.hid (rows_made ho3); clear ho3 hg3)
  have hlt : w.heap.size < w3.heap.size := (Array.getElem?_eq_some_iff.1 R3.out).1
  go_wp2_with (first | (go_at_call 34; refine (HS.out _).mono ?_; rintro e w4 ⟨rfl, hb4⟩; have R4 := Lib.hid (row_later R3.out hb4 hlt)) | (go_at_call 35; refine (HR.out _).mono ?_; rintro e w6 ⟨rfl, hb6⟩; have R6 := Lib.hid (row_later R5.out hb6 hlt5)) | (refine store_mid rfl _ _ rfl rfl w.heap.size 0 rfl superSec rfl superSec_is _ (secs_zero 65) (by simp) R4.out ?_; intro w5 hA hB5; have R5 := Lib.hid hA; have hlt5 : w.heap.size < w5.heap.size := (Array.getElem?_eq_some_iff.1 hA).1; clear hA) | (refine store_mid rfl _ _ rfl rfl w.heap.size 1 rfl rootSec rfl rootSec_is _ (secs_set (secs_zero 65) superSec_is 0) (by simp) R6.out ?_; intro w7 hA hB7; have R7 := Lib.hid hA; clear hA))
  go_ret
  exact ⟨_, _, rfl, rows_rd R7.out emptyImg_secs (by unfold maxLen; simp), (((hb3.trans (hb4.mono (by omega))).trans hB5).trans (hb6.mono (by omega))).trans hB7⟩
end Go.Proofs.Ytkbnfofklofkoaa.ly
/- What Mounts, the code's and the reference's, gives. -/
namespace Go.Proofs.Ytkbnfofklofkoaa.ly
set_option maxRecDepth 100000
open Go.ChangeShapes Go.WideShapes Go.ChangeAt Go.RowKit
open Go.Proofs.Ytkbnfofklofkoaa.rows
open Go.Proofs.Ytkbnfofklofkoaa.sec
open Go.Proofs.Ytkbnfofklofkoaa.dsk (wf64 cell_row frozen_row setCell_heap row_later row_alloc neq_yields eql_yields)
set_option linter.unusedVariables false
set_option linter.unusedSimpArgs false

def mountsB (ss : List (List Int)) : Bool := decide (ss.length = 65) && (decide (ss.getD 0 [] = superSec) && decide (ss.getD 1 [] = rootSec))
theorem two_of {w : World} {p : Option Addr} {c : Nat} {ss : List (List Int)} (hs : Secs ss) (hr : Rd w 32 (.slice p 65 c) 65 (cellsOf ss)) :
    ∃ b1 o1, p = some ⟨b1, o1, none⟩ ∧ 65 ≤ c ∧ (∀ w', Below w.heap.size w w' → w'.rangeAt b1 o1 (u8s (ss.getD 0 []))) ∧ (∀ w', Below w.heap.size w w' → w'.rangeAt b1 (o1 + 32) (u8s (ss.getD 1 []))) ∧
      Sec (ss.getD 0 []) ∧ Sec (ss.getD 1 []) ∧ mountsB ss = (decide (ss.getD 0 [] = superSec) && decide (ss.getD 1 [] = rootSec)) := by
  obtain ⟨b1, o1, rfl, hc1, hm1, hh1, hl1, HR1⟩ := row_at hr hs (j := 0) (by omega)
  have l0 : 0 < ss.length := by omega
  have l1 : 1 < ss.length := by omega
  have e0 : ss.getD 0 [] = ss[0] := by simp [List.getD, l0]
  have e1 : ss.getD 1 [] = ss[1] := by simp [List.getD, l1]
  refine ⟨b1, o1, rfl, hc1, fun w' hw => ?_, fun w' hw => ?_, ?_, ?_, ?_⟩
  · have h := Rd.rangeLater (HR1 0 l0) hh1 hw
    rw [Nat.zero_mul, Nat.add_zero] at h
    rw [e0]; exact h
  · have h := Rd.rangeLater (HR1 1 l1) hh1 hw
    rw [Nat.one_mul] at h
    rw [e1]; exact h
  · rw [e0]; exact hs _ (List.getElem_mem l0)
  · rw [e1]; exact hs _ (List.getElem_mem l1)
  · rw [mountsB, hl1]; rfl
theorem mountsB_no {ss : List (List Int)} (h : ss.length ≠ 65) : mountsB ss = false := by rw [mountsB, decide_eq_false h]; rfl
set_option maxRecDepth 100000 in
set_option maxHeartbeats 1600000 in
theorem mounts_any (p : Option Addr) (n c : Nat) (ss : List (List Int)) (w : World) (hs : Secs ss) (hr : Rd w 32 (.slice p n c) n (cellsOf ss)) (hn : n ≤ maxLen) :
    Calls Try.prog 25 #[.slice p n c] w fun e w' => e = .returned (.bool (mountsB ss)) ∧ Below w.heap.size w w' := by
  have hl : ss.length = n := by have h := hr.cells; rw [cellsOf_len hs] at h; omega
  have HS := Lib.hid fun w => super_any w
  have HT := Lib.hid fun w => root_any w
  by_cases h65 : n = 65
  · subst h65
    obtain ⟨b1, o1, rfl, hc1, R0', R1', S0', S1', hM⟩ := two_of hs hr
    have R0 := Lib.hid R0'
    have R1 := Lib.hid R1'
    have S0 := Lib.hid S0'
    have S1 := Lib.hid S1'
    have HM := Lib.hid hM
    clear hr hl hs R0' R1' S0' S1' hM
    generalize ss.getD 0 [] = s0 at *
    generalize ss.getD 1 [] = s1 at *
    have hg := guard_sec
    have Q0 := Lib.hid fun w => eqIn_sec w S0.out superSec_is
    have Q1 := Lib.hid fun w => eqIn_sec w S1.out rootSec_is
    generalize decide (s1 = rootSec) = d1 at Q1 HM
    cases hd : decide (s0 = superSec) with
    | true =>
      rw [hd] at Q0 HM
      clear hd
      go_enter Try.func25, Try.ntmps25
      go_wp2_with fail
      have h0 := Below.refl w.drew.heap.size w.drew
      refine wp_region_held_drew (S := ext w.drew) (by kernel_rfl) (Below.refl _ _) (fun hH0 => ?_)
      refine wpAnyH_take (i := 0) (oi := { dst := some 3, op := Op.move (Operand.tmp 0), type := 42, pos := "layout.go:150", after := #[], guard := none }) (v := ?_) rfl (by kernel_rfl) (by kernel_rfl) (by kernel_rfl) (fun _ _ _ h => h) (Or.inl ⟨by rfl, ?_⟩) (by assumption) ?_
      rotate_left
      · (intro w' hSw; go_simp; try with_reducible rfl)
      try simp only [Act.put, List.setIfInBounds_toArray, List.set_cons_zero, List.set_cons_succ]
      refine wpAnyH_take (i := 1) (oi := { dst := some 4, op := Op.call { callee := Callee.builtin Builtin.len, args := #[Operand.tmp 3], argTypes := #[42] }, type := 3, pos := "layout.go:150", after := #[{ on := 0, ground := Ground.data }], guard := none }) (v := ?_) rfl (by kernel_rfl) (by kernel_rfl) (by kernel_rfl) (fun _ _ _ h => h) (Or.inl ⟨by rfl, ?_⟩) (by assumption) ?_
      rotate_left
      · (intro w' hSw; go_simp; try with_reducible rfl)
      try simp only [Act.put, List.setIfInBounds_toArray, List.set_cons_zero, List.set_cons_succ]
      refine wpAnyH_take (i := 2) (oi := { dst := some 5, op := Op.binOp BinOp.eql 3 (Operand.tmp 4) (Operand.const (Value.int IntKind.i64 65)) 3, type := 4, pos := "layout.go:150", after := #[{ on := 1, ground := Ground.data }], guard := none }) (v := ?_) rfl (by kernel_rfl) (by kernel_rfl) (by kernel_rfl) (fun _ _ _ h => h) (Or.inl ⟨by rfl, ?_⟩) (by assumption) ?_
      rotate_left
      · (intro w' hSw; go_simp; try with_reducible rfl)
      try simp only [Act.put, List.setIfInBounds_toArray, List.set_cons_zero, List.set_cons_succ]
      refine wpAnyH_take (i := 3) (oi := { dst := some 6, op := Op.move (Operand.tmp 5), type := 4, pos := "layout.go:150", after := #[{ on := 2, ground := Ground.data }], guard := none }) (v := ?_) rfl (by kernel_rfl) (by kernel_rfl) (by kernel_rfl) (fun _ _ _ h => h) (Or.inl ⟨by rfl, ?_⟩) (by assumption) ?_
      rotate_left
      · (intro w' hSw; go_simp; try with_reducible rfl)
      try simp only [Act.put, List.setIfInBounds_toArray, List.set_cons_zero, List.set_cons_succ]
      refine wpAnyH_take (i := 4) (oi := { dst := some 7, op := Op.move (Operand.tmp 0), type := 42, pos := "layout.go:150", after := #[{ on := 3, ground := Ground.guard }], guard := some (3, true) }) (v := ?_) rfl (by kernel_rfl) (by kernel_rfl) (by kernel_rfl) (fun _ _ _ h => h) (Or.inl ⟨by rfl, ?_⟩) (by assumption) ?_
      rotate_left
      · (intro w' hSw; go_simp; try with_reducible rfl)
      try simp only [Act.put, List.setIfInBounds_toArray, List.set_cons_zero, List.set_cons_succ]
      refine wpAnyH_take (i := 5) (oi := { dst := some 8, op := Op.indexAddr 42 (Operand.tmp 7) (Operand.const (Value.int IntKind.i64 0)), type := 0, pos := "layout.go:150", after := #[{ on := 4, ground := Ground.data }, { on := 3, ground := Ground.guard }], guard := some (3, true) }) (v := ?_) rfl (by kernel_rfl) (by kernel_rfl) (by kernel_rfl) (fun _ _ _ h => h) (Or.inl ⟨by rfl, ?_⟩) (by assumption) ?_
      rotate_left
      · (intro w' hSw; go_simp; try with_reducible rfl)
      try simp only [Act.put, List.setIfInBounds_toArray, List.set_cons_zero, List.set_cons_succ]
      refine' wpAnyH_take (i := 6) (oi := { dst := some 9, op := Op.load 26 (Operand.tmp 8), type := 26, pos := "layout.go:150", after := #[{ on := 5, ground := Ground.data }, { on := 3, ground := Ground.guard }], guard := some (3, true) }) (v := _) rfl (by kernel_rfl) (by kernel_rfl) (by kernel_rfl) (fun _ _ _ h => h) (ld_sec (by rfl) _ rfl b1 o1 rfl s0 S0.out.1 (fun w' hw => R0.out w' (below_drew hw))) (by assumption) ?_
      try simp only [Act.put, List.setIfInBounds_toArray, List.set_cons_zero, List.set_cons_succ]
      -- 7
      refine wpAnyH_ready (rs := [7]) (by kernel_rfl) (by simp) ?_
      refine AllReadyH.cons (o := { dst := some 10, op := Op.call { callee := Callee.value (Operand.func 34), args := #[], argTypes := #[] }, type := 26, pos := "layout.go:150", after := #[{ on := 3, ground := Ground.chain }, { on := 3, ground := Ground.guard }], guard := some (3, true) }) rfl (fun K hK => ?_) AllReadyH.nil
      go_simp
      refine (HS.out _).mono ?_
      rintro e v1 ⟨rfl, hb1⟩
      have h1 := below_trans h0 hb1
      dsimp only
      refine hK.out _ _ ?_ (fun hHeld => ?_)
      · exact h1
      clear hK K
      try simp only [Act.put, List.setIfInBounds_toArray, List.set_cons_zero, List.set_cons_succ]
      refine wpAnyH_take (i := 8) (oi := { dst := some 11, op := Op.binOp BinOp.eql 26 (Operand.tmp 9) (Operand.tmp 10) 26, type := 4, pos := "layout.go:150", after := #[{ on := 6, ground := Ground.data }, { on := 7, ground := Ground.data }, { on := 3, ground := Ground.guard }], guard := some (3, true) }) (v := ?_) rfl (by kernel_rfl) (by kernel_rfl) (by kernel_rfl) (fun _ _ _ h => h) (Or.inl ⟨by rfl, ?_⟩) (by assumption) ?_
      rotate_left
      · (intro w' hSw; have hg := guard_sec; have hq := Q0.out w'; go_simp; try with_reducible rfl)
      try simp only [Act.put, List.setIfInBounds_toArray, List.set_cons_zero, List.set_cons_succ]
      refine wpAnyH_take (i := 9) (oi := { dst := some 12, op := Op.pick (Operand.tmp 6) (Operand.tmp 11) (Operand.const (Value.bool false)), type := 4, pos := "layout.go:150", after := #[{ on := 3, ground := Ground.data }, { on := 8, ground := Ground.data }], guard := none }) (v := ?_) rfl (by kernel_rfl) (by kernel_rfl) (by kernel_rfl) (fun _ _ _ h => h) (Or.inl ⟨by rfl, ?_⟩) (by assumption) ?_
      rotate_left
      · (intro w' hSw; go_simp; try with_reducible rfl)
      try simp only [Act.put, List.setIfInBounds_toArray, List.set_cons_zero, List.set_cons_succ]
      refine wpAnyH_take (i := 10) (oi := { dst := some 13, op := Op.move (Operand.tmp 12), type := 4, pos := "layout.go:150", after := #[{ on := 9, ground := Ground.data }, { on := 7, ground := Ground.chain }], guard := none }) (v := ?_) rfl (by kernel_rfl) (by kernel_rfl) (by kernel_rfl) (fun _ _ _ h => h) (Or.inl ⟨by rfl, ?_⟩) (by assumption) ?_
      rotate_left
      · (intro w' hSw; go_simp; try with_reducible rfl)
      try simp only [Act.put, List.setIfInBounds_toArray, List.set_cons_zero, List.set_cons_succ]
      refine wpAnyH_take (i := 11) (oi := { dst := some 14, op := Op.move (Operand.tmp 0), type := 42, pos := "layout.go:150", after := #[{ on := 10, ground := Ground.guard }], guard := some (10, true) }) (v := ?_) rfl (by kernel_rfl) (by kernel_rfl) (by kernel_rfl) (fun _ _ _ h => h) (Or.inl ⟨by rfl, ?_⟩) (by assumption) ?_
      rotate_left
      · (intro w' hSw; go_simp; try with_reducible rfl)
      try simp only [Act.put, List.setIfInBounds_toArray, List.set_cons_zero, List.set_cons_succ]
      refine wpAnyH_take (i := 12) (oi := { dst := some 15, op := Op.indexAddr 42 (Operand.tmp 14) (Operand.const (Value.int IntKind.i64 1)), type := 0, pos := "layout.go:150", after := #[{ on := 11, ground := Ground.data }, { on := 10, ground := Ground.guard }], guard := some (10, true) }) (v := ?_) rfl (by kernel_rfl) (by kernel_rfl) (by kernel_rfl) (fun _ _ _ h => h) (Or.inl ⟨by rfl, ?_⟩) (by assumption) ?_
      rotate_left
      · (intro w' hSw; go_simp; try with_reducible rfl)
      try simp only [Act.put, List.setIfInBounds_toArray, List.set_cons_zero, List.set_cons_succ]
      refine' wpAnyH_take (i := 13) (oi := { dst := some 16, op := Op.load 26 (Operand.tmp 15), type := 26, pos := "layout.go:150", after := #[{ on := 12, ground := Ground.data }, { on := 10, ground := Ground.guard }], guard := some (10, true) }) (v := _) rfl (by kernel_rfl) (by kernel_rfl) (by kernel_rfl) (fun _ _ _ h => h) (ld_sec (by rfl) _ rfl b1 (o1 + 32) rfl s1 S1.out.1 (fun w' hw => R1.out w' (below_drew hw))) (by assumption) ?_
      try simp only [Act.put, List.setIfInBounds_toArray, List.set_cons_zero, List.set_cons_succ]
      -- 14
      refine wpAnyH_ready (rs := [14]) (by kernel_rfl) (by simp) ?_
      refine AllReadyH.cons (o := { dst := some 17, op := Op.call { callee := Callee.value (Operand.func 35), args := #[], argTypes := #[] }, type := 26, pos := "layout.go:150", after := #[{ on := 10, ground := Ground.chain }, { on := 10, ground := Ground.guard }], guard := some (10, true) }) rfl (fun K hK => ?_) AllReadyH.nil
      go_simp
      refine (HT.out _).mono ?_
      rintro e v2 ⟨rfl, hb2⟩
      have h2 := below_trans h1 hb2
      dsimp only
      refine hK.out _ _ ?_ (fun hHeld => ?_)
      · exact h2
      clear hK K
      try simp only [Act.put, List.setIfInBounds_toArray, List.set_cons_zero, List.set_cons_succ]
      refine wpAnyH_take (i := 15) (oi := { dst := some 18, op := Op.binOp BinOp.eql 26 (Operand.tmp 16) (Operand.tmp 17) 26, type := 4, pos := "layout.go:150", after := #[{ on := 13, ground := Ground.data }, { on := 14, ground := Ground.data }, { on := 10, ground := Ground.guard }], guard := some (10, true) }) (v := ?_) rfl (by kernel_rfl) (by kernel_rfl) (by kernel_rfl) (fun _ _ _ h => h) (Or.inl ⟨by rfl, ?_⟩) (by assumption) ?_
      rotate_left
      · (intro w' hSw; have hg := guard_sec; have hq := Q1.out w'; go_simp; try with_reducible rfl)
      try simp only [Act.put, List.setIfInBounds_toArray, List.set_cons_zero, List.set_cons_succ]
      refine wpAnyH_take (i := 16) (oi := { dst := some 19, op := Op.pick (Operand.tmp 13) (Operand.tmp 18) (Operand.const (Value.bool false)), type := 4, pos := "layout.go:150", after := #[{ on := 10, ground := Ground.data }, { on := 15, ground := Ground.data }], guard := none }) (v := ?_) rfl (by kernel_rfl) (by kernel_rfl) (by kernel_rfl) (fun _ _ _ h => h) (Or.inl ⟨by rfl, ?_⟩) (by assumption) ?_
      rotate_left
      · (intro w' hSw; go_simp; try with_reducible rfl)
      try simp only [Act.put, List.setIfInBounds_toArray, List.set_cons_zero, List.set_cons_succ]
      refine wpAnyH_take (i := 17) (oi := { dst := some 2, op := Op.assign (Operand.tmp 19), type := 4, pos := "layout.go:150", after := #[{ on := 16, ground := Ground.data }, { on := 14, ground := Ground.chain }, { on := 0, ground := Ground.phase }, { on := 1, ground := Ground.phase }, { on := 2, ground := Ground.phase }, { on := 3, ground := Ground.phase }, { on := 4, ground := Ground.phase }, { on := 5, ground := Ground.phase }, { on := 6, ground := Ground.phase }, { on := 7, ground := Ground.phase }, { on := 8, ground := Ground.phase }, { on := 9, ground := Ground.phase }, { on := 10, ground := Ground.phase }, { on := 11, ground := Ground.phase }, { on := 12, ground := Ground.phase }, { on := 13, ground := Ground.phase }, { on := 14, ground := Ground.phase }, { on := 15, ground := Ground.phase }, { on := 16, ground := Ground.phase }], guard := none }) (v := ?_) rfl (by kernel_rfl) (by kernel_rfl) (by kernel_rfl) (fun _ _ _ h => h) (Or.inl ⟨by rfl, ?_⟩) (by assumption) ?_
      rotate_left
      · (intro w' hSw; go_simp; try with_reducible rfl)
      try simp only [Act.put, List.setIfInBounds_toArray, List.set_cons_zero, List.set_cons_succ]
      refine wpAnyH_done (by kernel_rfl) ?_ _
      go_wp2_with fail
      go_ret
      exact ⟨ret_bool (by rw [HM.out]; rfl), below_drew h2⟩
    | false =>
      rw [hd] at Q0 HM
      clear hd
      go_enter Try.func25, Try.ntmps25
      go_wp2_with fail
      have h0 := Below.refl w.drew.heap.size w.drew
      refine wp_region_held_drew (S := ext w.drew) (by kernel_rfl) (Below.refl _ _) (fun hH0 => ?_)
      refine wpAnyH_take (i := 0) (oi := { dst := some 3, op := Op.move (Operand.tmp 0), type := 42, pos := "layout.go:150", after := #[], guard := none }) (v := ?_) rfl (by kernel_rfl) (by kernel_rfl) (by kernel_rfl) (fun _ _ _ h => h) (Or.inl ⟨by rfl, ?_⟩) (by assumption) ?_
      rotate_left
      · (intro w' hSw; go_simp; try with_reducible rfl)
      try simp only [Act.put, List.setIfInBounds_toArray, List.set_cons_zero, List.set_cons_succ]
      refine wpAnyH_take (i := 1) (oi := { dst := some 4, op := Op.call { callee := Callee.builtin Builtin.len, args := #[Operand.tmp 3], argTypes := #[42] }, type := 3, pos := "layout.go:150", after := #[{ on := 0, ground := Ground.data }], guard := none }) (v := ?_) rfl (by kernel_rfl) (by kernel_rfl) (by kernel_rfl) (fun _ _ _ h => h) (Or.inl ⟨by rfl, ?_⟩) (by assumption) ?_
      rotate_left
      · (intro w' hSw; go_simp; try with_reducible rfl)
      try simp only [Act.put, List.setIfInBounds_toArray, List.set_cons_zero, List.set_cons_succ]
      refine wpAnyH_take (i := 2) (oi := { dst := some 5, op := Op.binOp BinOp.eql 3 (Operand.tmp 4) (Operand.const (Value.int IntKind.i64 65)) 3, type := 4, pos := "layout.go:150", after := #[{ on := 1, ground := Ground.data }], guard := none }) (v := ?_) rfl (by kernel_rfl) (by kernel_rfl) (by kernel_rfl) (fun _ _ _ h => h) (Or.inl ⟨by rfl, ?_⟩) (by assumption) ?_
      rotate_left
      · (intro w' hSw; go_simp; try with_reducible rfl)
      try simp only [Act.put, List.setIfInBounds_toArray, List.set_cons_zero, List.set_cons_succ]
      refine wpAnyH_take (i := 3) (oi := { dst := some 6, op := Op.move (Operand.tmp 5), type := 4, pos := "layout.go:150", after := #[{ on := 2, ground := Ground.data }], guard := none }) (v := ?_) rfl (by kernel_rfl) (by kernel_rfl) (by kernel_rfl) (fun _ _ _ h => h) (Or.inl ⟨by rfl, ?_⟩) (by assumption) ?_
      rotate_left
      · (intro w' hSw; go_simp; try with_reducible rfl)
      try simp only [Act.put, List.setIfInBounds_toArray, List.set_cons_zero, List.set_cons_succ]
      refine wpAnyH_take (i := 4) (oi := { dst := some 7, op := Op.move (Operand.tmp 0), type := 42, pos := "layout.go:150", after := #[{ on := 3, ground := Ground.guard }], guard := some (3, true) }) (v := ?_) rfl (by kernel_rfl) (by kernel_rfl) (by kernel_rfl) (fun _ _ _ h => h) (Or.inl ⟨by rfl, ?_⟩) (by assumption) ?_
      rotate_left
      · (intro w' hSw; go_simp; try with_reducible rfl)
      try simp only [Act.put, List.setIfInBounds_toArray, List.set_cons_zero, List.set_cons_succ]
      refine wpAnyH_take (i := 5) (oi := { dst := some 8, op := Op.indexAddr 42 (Operand.tmp 7) (Operand.const (Value.int IntKind.i64 0)), type := 0, pos := "layout.go:150", after := #[{ on := 4, ground := Ground.data }, { on := 3, ground := Ground.guard }], guard := some (3, true) }) (v := ?_) rfl (by kernel_rfl) (by kernel_rfl) (by kernel_rfl) (fun _ _ _ h => h) (Or.inl ⟨by rfl, ?_⟩) (by assumption) ?_
      rotate_left
      · (intro w' hSw; go_simp; try with_reducible rfl)
      try simp only [Act.put, List.setIfInBounds_toArray, List.set_cons_zero, List.set_cons_succ]
      refine' wpAnyH_take (i := 6) (oi := { dst := some 9, op := Op.load 26 (Operand.tmp 8), type := 26, pos := "layout.go:150", after := #[{ on := 5, ground := Ground.data }, { on := 3, ground := Ground.guard }], guard := some (3, true) }) (v := _) rfl (by kernel_rfl) (by kernel_rfl) (by kernel_rfl) (fun _ _ _ h => h) (ld_sec (by rfl) _ rfl b1 o1 rfl s0 S0.out.1 (fun w' hw => R0.out w' (below_drew hw))) (by assumption) ?_
      try simp only [Act.put, List.setIfInBounds_toArray, List.set_cons_zero, List.set_cons_succ]
      -- 7
      refine wpAnyH_ready (rs := [7]) (by kernel_rfl) (by simp) ?_
      refine AllReadyH.cons (o := { dst := some 10, op := Op.call { callee := Callee.value (Operand.func 34), args := #[], argTypes := #[] }, type := 26, pos := "layout.go:150", after := #[{ on := 3, ground := Ground.chain }, { on := 3, ground := Ground.guard }], guard := some (3, true) }) rfl (fun K hK => ?_) AllReadyH.nil
      go_simp
      refine (HS.out _).mono ?_
      rintro e v1 ⟨rfl, hb1⟩
      have h1 := below_trans h0 hb1
      dsimp only
      refine hK.out _ _ ?_ (fun hHeld => ?_)
      · exact h1
      clear hK K
      try simp only [Act.put, List.setIfInBounds_toArray, List.set_cons_zero, List.set_cons_succ]
      refine wpAnyH_take (i := 8) (oi := { dst := some 11, op := Op.binOp BinOp.eql 26 (Operand.tmp 9) (Operand.tmp 10) 26, type := 4, pos := "layout.go:150", after := #[{ on := 6, ground := Ground.data }, { on := 7, ground := Ground.data }, { on := 3, ground := Ground.guard }], guard := some (3, true) }) (v := ?_) rfl (by kernel_rfl) (by kernel_rfl) (by kernel_rfl) (fun _ _ _ h => h) (Or.inl ⟨by rfl, ?_⟩) (by assumption) ?_
      rotate_left
      · (intro w' hSw; have hg := guard_sec; have hq := Q0.out w'; go_simp; try with_reducible rfl)
      try simp only [Act.put, List.setIfInBounds_toArray, List.set_cons_zero, List.set_cons_succ]
      refine wpAnyH_take (i := 9) (oi := { dst := some 12, op := Op.pick (Operand.tmp 6) (Operand.tmp 11) (Operand.const (Value.bool false)), type := 4, pos := "layout.go:150", after := #[{ on := 3, ground := Ground.data }, { on := 8, ground := Ground.data }], guard := none }) (v := ?_) rfl (by kernel_rfl) (by kernel_rfl) (by kernel_rfl) (fun _ _ _ h => h) (Or.inl ⟨by rfl, ?_⟩) (by assumption) ?_
      rotate_left
      · (intro w' hSw; go_simp; try with_reducible rfl)
      try simp only [Act.put, List.setIfInBounds_toArray, List.set_cons_zero, List.set_cons_succ]
      refine wpAnyH_take (i := 10) (oi := { dst := some 13, op := Op.move (Operand.tmp 12), type := 4, pos := "layout.go:150", after := #[{ on := 9, ground := Ground.data }, { on := 7, ground := Ground.chain }], guard := none }) (v := ?_) rfl (by kernel_rfl) (by kernel_rfl) (by kernel_rfl) (fun _ _ _ h => h) (Or.inl ⟨by rfl, ?_⟩) (by assumption) ?_
      rotate_left
      · (intro w' hSw; go_simp; try with_reducible rfl)
      try simp only [Act.put, List.setIfInBounds_toArray, List.set_cons_zero, List.set_cons_succ]
      refine wpAnyH_take (i := 11) (oi := { dst := some 14, op := Op.move (Operand.tmp 0), type := 42, pos := "layout.go:150", after := #[{ on := 10, ground := Ground.guard }], guard := some (10, true) }) (v := undef) rfl (by kernel_rfl) (by kernel_rfl) (by kernel_rfl) (fun _ _ _ h => h) (Or.inr ⟨by rfl, rfl⟩) (by assumption) ?_
      try simp only [Act.put, List.setIfInBounds_toArray, List.set_cons_zero, List.set_cons_succ]
      refine wpAnyH_take (i := 12) (oi := { dst := some 15, op := Op.indexAddr 42 (Operand.tmp 14) (Operand.const (Value.int IntKind.i64 1)), type := 0, pos := "layout.go:150", after := #[{ on := 11, ground := Ground.data }, { on := 10, ground := Ground.guard }], guard := some (10, true) }) (v := undef) rfl (by kernel_rfl) (by kernel_rfl) (by kernel_rfl) (fun _ _ _ h => h) (Or.inr ⟨by rfl, rfl⟩) (by assumption) ?_
      try simp only [Act.put, List.setIfInBounds_toArray, List.set_cons_zero, List.set_cons_succ]
      refine wpAnyH_take (i := 13) (oi := { dst := some 16, op := Op.load 26 (Operand.tmp 15), type := 26, pos := "layout.go:150", after := #[{ on := 12, ground := Ground.data }, { on := 10, ground := Ground.guard }], guard := some (10, true) }) (v := undef) rfl (by kernel_rfl) (by kernel_rfl) (by kernel_rfl) (fun _ _ _ h => h) (Or.inr ⟨by rfl, rfl⟩) (by assumption) ?_
      try simp only [Act.put, List.setIfInBounds_toArray, List.set_cons_zero, List.set_cons_succ]
      refine wpAnyH_take (i := 14) (oi := { dst := some 17, op := Op.call { callee := Callee.value (Operand.func 35), args := #[], argTypes := #[] }, type := 26, pos := "layout.go:150", after := #[{ on := 10, ground := Ground.chain }, { on := 10, ground := Ground.guard }], guard := some (10, true) }) (v := undef) rfl (by kernel_rfl) (by kernel_rfl) (by kernel_rfl) (fun _ _ _ h => h) (Or.inr ⟨by rfl, rfl⟩) (by assumption) ?_
      try simp only [Act.put, List.setIfInBounds_toArray, List.set_cons_zero, List.set_cons_succ]
      refine wpAnyH_take (i := 15) (oi := { dst := some 18, op := Op.binOp BinOp.eql 26 (Operand.tmp 16) (Operand.tmp 17) 26, type := 4, pos := "layout.go:150", after := #[{ on := 13, ground := Ground.data }, { on := 14, ground := Ground.data }, { on := 10, ground := Ground.guard }], guard := some (10, true) }) (v := undef) rfl (by kernel_rfl) (by kernel_rfl) (by kernel_rfl) (fun _ _ _ h => h) (Or.inr ⟨by rfl, rfl⟩) (by assumption) ?_
      try simp only [Act.put, List.setIfInBounds_toArray, List.set_cons_zero, List.set_cons_succ]
      refine wpAnyH_take (i := 16) (oi := { dst := some 19, op := Op.pick (Operand.tmp 13) (Operand.tmp 18) (Operand.const (Value.bool false)), type := 4, pos := "layout.go:150", after := #[{ on := 10, ground := Ground.data }, { on := 15, ground := Ground.data }], guard := none }) (v := ?_) rfl (by kernel_rfl) (by kernel_rfl) (by kernel_rfl) (fun _ _ _ h => h) (Or.inl ⟨by rfl, ?_⟩) (by assumption) ?_
      rotate_left
      · (intro w' hSw; go_simp; try with_reducible rfl)
      try simp only [Act.put, List.setIfInBounds_toArray, List.set_cons_zero, List.set_cons_succ]
      refine wpAnyH_take (i := 17) (oi := { dst := some 2, op := Op.assign (Operand.tmp 19), type := 4, pos := "layout.go:150", after := #[{ on := 16, ground := Ground.data }, { on := 14, ground := Ground.chain }, { on := 0, ground := Ground.phase }, { on := 1, ground := Ground.phase }, { on := 2, ground := Ground.phase }, { on := 3, ground := Ground.phase }, { on := 4, ground := Ground.phase }, { on := 5, ground := Ground.phase }, { on := 6, ground := Ground.phase }, { on := 7, ground := Ground.phase }, { on := 8, ground := Ground.phase }, { on := 9, ground := Ground.phase }, { on := 10, ground := Ground.phase }, { on := 11, ground := Ground.phase }, { on := 12, ground := Ground.phase }, { on := 13, ground := Ground.phase }, { on := 14, ground := Ground.phase }, { on := 15, ground := Ground.phase }, { on := 16, ground := Ground.phase }], guard := none }) (v := ?_) rfl (by kernel_rfl) (by kernel_rfl) (by kernel_rfl) (fun _ _ _ h => h) (Or.inl ⟨by rfl, ?_⟩) (by assumption) ?_
      rotate_left
      · (intro w' hSw; go_simp; try with_reducible rfl)
      try simp only [Act.put, List.setIfInBounds_toArray, List.set_cons_zero, List.set_cons_succ]
      refine wpAnyH_done (by kernel_rfl) ?_ _
      go_wp2_with fail
      go_ret
      exact ⟨ret_bool (by rw [HM.out]; rfl), below_drew h1⟩
  · have HN := Lib.hid (mountsB_no (ss := ss) (by omega))
    have hne : ((n : Int) == 65) = false := by rw [beq_eq_false_iff_ne]; omega
    clear hr hl hs
    unfold maxLen at hn
    go_enter Try.func25, Try.ntmps25
    go_wp2_with fail
    go_quiet (fail)
    go_wp2_with fail
    go_ret
    exact ⟨ret_bool HN.out.symm, blw_drewN (Below.refl _ _) _⟩
end Go.Proofs.Ytkbnfofklofkoaa.ly
/- Steps that EntryOf's walks need. -/
namespace Go.Proofs.Ytkbnfofklofkoaa.ly
set_option maxRecDepth 100000
open Go.ChangeShapes Go.WideShapes Go.ChangeAt Go.RowKit
open Go.Proofs.Ytkbnfofklofkoaa.rows
open Go.Proofs.Ytkbnfofklofkoaa.sec
open Go.Proofs.Ytkbnfofklofkoaa.dsk (wf64 cell_row frozen_row setCell_heap row_later row_alloc ld_cell)
set_option linter.unusedVariables false
set_option linter.unusedSimpArgs false

/-- the boxes of a function that takes a sector and returns an entry -/
structure BoxesT (w W : World) (s : List Int) : Prop where
  sec : At W w.heap.size s
  ent : AtE W (w.heap.size + 1) ent0
  below : Below w.heap.size w W
theorem BoxesT.later {w W W' : World} {s : List Int} (h : BoxesT w W s) (hb : Below W.heap.size W W') : BoxesT w W' s := ⟨h.sec.later hb, h.ent.later hb, below_trans h.below hb⟩
theorem BoxesT.drew {w W : World} {s : List Int} (h : BoxesT w W s) : BoxesT w W.drew s := ⟨h.sec, h.ent, h.below.drew⟩
end Go.Proofs.Ytkbnfofklofkoaa.ly
/- knows of layer 7. -/
namespace Go.Proofs.Ytkbnfofklofkoaa.ly
set_option maxRecDepth 100000
open Go.ChangeShapes Go.WideShapes Go.ChangeAt Go.RowKit
open Go.Proofs.Ytkbnfofklofkoaa.rows
open Go.Proofs.Ytkbnfofklofkoaa.sec
open Go.Proofs.Ytkbnfofklofkoaa.dsk (wf64 cell_row frozen_row setCell_heap row_later row_alloc)
set_option linter.unusedVariables false
set_option linter.unusedSimpArgs false

def bEnt : Ent := ⟨true, 0, { data := #[98] }, 3⟩
def bSec : List Int := [1, 0, 3, 1, 0, 0, 0, 0, 0, 0, 0, 0, 0, 0, 0, 0, 98, 0, 0, 0, 0, 0, 0, 0, 0, 0, 0, 0, 0, 0, 0, 0]
theorem bSec_is : Sec bSec := ⟨by decide, by decide⟩
theorem bEnt_ok : bEnt.ok := ⟨wf_byte (by simp [bEnt]), wf_byte (by simp [bEnt]), by decide⟩
theorem bEnt_right : rightE bEnt = true := by decide
theorem bEnt_sec : entV bEnt = bSec := by rw [entV, if_pos bEnt_right]; decide
theorem a1_name : nameB { data := #[97, 46, 49] } = true := by decide
theorem empty_mounts : mountsB emptyImg = true := by kernel_rfl
theorem eqIn_bSec (w : World) : (Op.equalIn 10000 26 (agg bSec) (.agg #[.int .u8 1, .int .u8 0, .int .u8 3, .int .u8 1, .int .u8 0, .int .u8 0, .int .u8 0, .int .u8 0, .int .u8 0, .int .u8 0, .int .u8 0, .int .u8 0, .int .u8 0, .int .u8 0, .int .u8 0, .int .u8 0, .int .u8 98, .int .u8 0, .int .u8 0, .int .u8 0, .int .u8 0, .int .u8 0, .int .u8 0, .int .u8 0, .int .u8 0, .int .u8 0, .int .u8 0, .int .u8 0, .int .u8 0, .int .u8 0, .int .u8 0, .int .u8 0])).run Try.prog w = .ok true w := by
  have h := eqIn_sec w bSec_is bSec_is
  rw [decide_eq_true rfl] at h
  exact h
set_option maxRecDepth 100000 in
set_option maxHeartbeats 1600000 in
theorem knows_any (w : World) : Calls Try.prog 13 #[] w fun e w' => e = .returned (.bool true) ∧ Below w.heap.size w w' := by
  have HE := Lib.hid fun w => entry_any bEnt bEnt_ok w
  rw [bEnt_sec, bEnt_right] at HE
  have HEM := Lib.hid fun w => empty_any w
  have HM := Lib.hid fun p c w hr => mounts_any p 65 c emptyImg w emptyImg_secs hr (by unfold maxLen; omega)
  rw [empty_mounts] at HM
  have HN := Lib.hid fun w => name_of { data := #[97, 46, 49] } true a1_name (by decide) w
  have hg := guard_sec
  have hq := eqIn_bSec
  go_enter Try.func13, Try.ntmps13
  go_wp2_with (first | (go_at_call 14; refine (HE.out _).mono ?_; rintro e w2 ⟨rfl, hb2⟩; have HB2 := Lib.hid hb2; clear hb2) | (refine store_at rfl _ _ rfl rfl w2.heap.size bSec zero32 rfl rfl bSec_is.1 (by decide) (at_lit w2) ?_; intro w3 hA hB3 hO3; have A3 := Lib.hid hA; have HB3 := Lib.hid ((below_alloc HB2.out _).trans (hB3.mono HB2.out.size)); clear hA hB3 hO3) | (refine load_at_g ?_ _ rfl w2.heap.size rfl bSec bSec_is.1 A3.out ?_; · rfl) | (go_at_call 23; refine (HEM.out _).mono ?_; rintro e w4 ⟨p4, c4, rfl, hr4, hb4⟩; have HR4 := Lib.hid hr4; have HB4 := Lib.hid (below_trans HB3.out hb4); clear hr4 hb4) | (go_at_call 25; refine (HM.out _ _ _ HR4.out).mono ?_; rintro e w5 ⟨rfl, hb5⟩; have HB5 := Lib.hid (below_trans HB4.out hb5); clear hb5) | (go_at_call 20; refine (HN.out _).mono ?_; rintro e w6 ⟨rfl, rfl⟩))
  go_ret
  exact ⟨rfl, HB5.out⟩
end Go.Proofs.Ytkbnfofklofkoaa.ly
/- The arguments of layer 7's laws: inodes and entries. -/
namespace Go.Proofs.Ytkbnfofklofkoaa.ly
set_option maxRecDepth 100000
open Go.ChangeShapes Go.WideShapes Go.ChangeAt Go.RowKit
open Go.Proofs.Ytkbnfofklofkoaa.rows
open Go.Proofs.Ytkbnfofklofkoaa.sec
open Go.Proofs.Ytkbnfofklofkoaa.dsk (wf64 field_trod cut_piece int_of_cells cellsInt und_int)
set_option linter.unusedVariables false
set_option linter.unusedSimpArgs false

theorem cellsIno : Try.prog.cellsOf 24 = 6 := by kernel_rfl
theorem cellsFour : Try.prog.cellsOf 22 = 4 := by kernel_rfl
theorem fields_ino2 : (Try.prog.fieldsOf 24).toList.map (fun f => (f.type, f.offset)) = [(3, 0), (3, 1), (22, 2)] := by kernel_rfl
section
variable {H : Type} {enc : TypeId × Value → H} {W : World} {base : Nat} {spare : Nat → Bool} {held : Bool}
theorem four_of_cells {n : Nat} {cs : List Value} {x : DataW H × List MemPlace} (h : DataW.trod enc Try.prog W base spare held n 22 cs = some x) : ∃ b : List Int, b.length = 4 ∧ (∀ z ∈ b, wf64 z) ∧ cs = i64s b := by
  obtain ⟨xs, m, rfl, _, hl, hx, hi⟩ := DataW.trod_array und_four h
  rw [cellsFour] at hl
  have one : ∀ i (h : i < cs.length), ∃ z : Int, cs[i] = .int .i64 z ∧ wf64 z := by
    intro i hic
    have h1 := hi i (by omega)
    rw [cellsInt, Nat.mul_one, List.getElem?_eq_getElem (by omega)] at h1
    obtain ⟨z, hz, _, hw⟩ := DataW.trod_int und_int h1
    rw [List.drop_eq_getElem_cons hic, List.take_succ_cons, List.take_zero] at hz
    exact ⟨z, by simpa using hz, hw⟩
  refine ⟨cs.map (fun v => match v with | .int _ z => z | _ => 0), by simpa using hl, ?_, ?_⟩
  · intro x hx
    obtain ⟨v, hv, rfl⟩ := List.mem_map.1 hx
    obtain ⟨i, hi, rfl⟩ := List.getElem_of_mem hv
    obtain ⟨z, hz, h0⟩ := one i hi
    rw [hz]; exact h0
  · unfold i64s
    rw [List.map_map]
    symm
    apply List.ext_getElem (by simp)
    intro i h1 h2
    rw [List.getElem_map]
    obtain ⟨z, hz, _⟩ := one i h2
    simp [hz]
theorem ino_of_trod {v : Value} {d : DataW H} {ps : List MemPlace} (hv : Value.okWide Try.prog W .any base 24 v) (h : DataW.Trod enc Try.prog W 0 (fun _ => true) true 24 v d ps) :
    ∃ x : Ino, x.ok ∧ v = aggI x := by
  simp only [Value.okWide, und_ino] at hv
  obtain ⟨cs, rfl, _⟩ := hv
  obtain ⟨fuel, hf⟩ := h
  obtain ⟨hl, hf⟩ := field_trod und_ino fields_ino2 hf
  rw [cellsIno] at hl
  obtain ⟨_, _, h0⟩ := hf 0 _ _ rfl
  obtain ⟨_, _, h1⟩ := hf 1 _ _ rfl
  obtain ⟨_, _, h2⟩ := hf 2 _ _ rfl
  rw [cellsInt] at h0 h1
  rw [cellsFour] at h2
  obtain ⟨k, wk, e0⟩ := int_of_cells h0
  obtain ⟨z, wz, e1⟩ := int_of_cells h1
  obtain ⟨b, hb, wb, e2⟩ := four_of_cells h2
  refine ⟨⟨k, z, b⟩, ⟨hb, wk, wz, wb⟩, ?_⟩
  have hc : (Value.agg cs).cells.toList = (⟨k, z, b⟩ : Ino).c := by
    have q0 := cut_piece (Value.agg cs).cells.toList 0 1
    have q1 := cut_piece (Value.agg cs).cells.toList 1 1
    have q2 := cut_piece (Value.agg cs).cells.toList 2 4
    rw [e0] at q0
    rw [e1] at q1
    rw [e2, List.drop_of_length_le (i := 2 + 4) (by omega), List.append_nil] at q2
    simp only [Nat.reduceAdd] at q0 q1
    rw [List.drop_zero, ← q1, ← q2] at q0
    exact q0.symm
  have : cs = (⟨k, z, b⟩ : Ino).c.toArray := by
    apply Array.ext'
    simpa [Value.cells] using hc
  rw [this]
end
theorem AtE.range {w : World} {g : Nat} {x : Ent} (h : AtE w g x) : w.rangeAt g 0 [.bool x.used, .int .i64 x.parent, .string x.name, .int .i64 x.target] := by
  have := World.rangeAt_of_block h 0 4
  simpa using this
end Go.Proofs.Ytkbnfofklofkoaa.ly
/- LayoutInodes' walk. -/
namespace Go.Proofs.Ytkbnfofklofkoaa.ly
set_option maxRecDepth 100000
open Go.ChangeShapes Go.WideShapes Go.ChangeAt Go.RowKit
open Go.Proofs.Ytkbnfofklofkoaa.rows
open Go.Proofs.Ytkbnfofklofkoaa.sec
open Go.Proofs.Ytkbnfofklofkoaa.dsk (wf64 cell_row frozen_row setCell_heap row_later row_alloc)
set_option linter.unusedVariables false
set_option linter.unusedSimpArgs false

/-- the six boxes of the law -/
structure SixI (w W : World) (x : Ino) (s : List Int) (ga gb gc gd : Nat) (a : List Int) (c : Ino) : Prop where
  fx : AtI W w.heap.size x
  fa : At W ga a
  fb : At W gb a
  fc : AtI W gc c
  fd : AtI W gd c
  below : Below w.heap.size w W
theorem SixI.later {w W W' : World} {x : Ino} {s : List Int} {ga gb gc gd : Nat} {a : List Int} {c : Ino} (h : SixI w W x s ga gb gc gd a c) (hb : Below W.heap.size W W') : SixI w W' x s ga gb gc gd a c :=
  ⟨h.fx.later hb, h.fa.later hb, h.fb.later hb, h.fc.later hb, h.fd.later hb, below_trans h.below hb⟩
theorem boxesXS (w : World) (x : Ino) (s : List Int) : ∃ W, (w.alloc (.cells x.c.toArray 24)).alloc (.cells (u8s s).toArray 26) = W ∧ AtI W w.heap.size x ∧ At W (w.heap.size + 1) s ∧ Below w.heap.size w W :=
  ⟨_, rfl, (atI_new w x).alloc _, by have := at_new (w.alloc (.cells x.c.toArray 24)) s; simpa using this, below_alloc (below_alloc (Below.refl _ _) _) _⟩
set_option maxRecDepth 100000 in
set_option maxHeartbeats 6400000 in
theorem walkLayoutInodes (x : Ino) (hx : x.ok) (s : List Int) (hs : Sec s) (w : World) :
    Calls Try.prog 3 #[aggI x, agg s] w fun e w' => e = .returned (.bool true) ∧ Below w.heap.size w w' := by
  obtain ⟨W, hW, hx1, hs1, hb1⟩ := boxesXS w x s
  have A0 := Lib.hid hx1
  have B0 := Lib.hid hs1
  have H0 := Lib.hid hb1
  have HK := Lib.hid knows_any
  have HX := Lib.hid hx
  have HS := Lib.hid hs
  have C1 := Lib.hid fun w => inode_any x hx w
  have C2 := Lib.hid fun w => rinode_any x hx w
  have C3 := Lib.hid fun w => inodeOf_any s hs w
  have C4 := Lib.hid fun w => rinodeOf_any s hs w
  have C5 := Lib.hid fun w => rightI_any x hx w
  have C6 := Lib.hid fun w => rrightI_any x hx w
  have VA := Lib.hid (inoV_sec hx.four)
  have VC := Lib.hid (inoOfV_four hs)
  generalize inoV x = va at C1 C2 VA
  generalize rightI x = ra at C1 C2 C5 C6
  generalize inoOfV s = vc at C3 C4 VC
  generalize inoOfB s = rc at C3 C4
  clear hx1 hs1 hb1 hx hs
  go_enter Try.func3, Try.ntmps3
  go_upto_region 1 with fail
  try rw [hW]
  clear hW
  go_upto_region 5 with (first
    | (go_at_call 7; refine (C1.out _).mono ?_; rintro e w1 ⟨rfl, hb⟩; have H1 := Lib.hid (below_trans H0.out hb); have A1 := Lib.hid (A0.out.later hb); have B1 := Lib.hid (B0.out.later hb); clear hb)
    | (refine store_at rfl _ _ rfl rfl w1.heap.size va zero32 rfl rfl VA.out.1 (by decide) (at_lit w1) ?_; intro w2 hA hB _; have k1 := (below_alloc (Below.refl w1.heap.size w1) _).trans hB; have a2 := Lib.hid hA; have H2 := Lib.hid (below_trans H1.out k1); have A2 := Lib.hid (A1.out.later k1); have B2 := Lib.hid (B1.out.later k1); clear hA hB k1)
    | (go_at_call 8; refine (C2.out _).mono ?_; rintro e w3 ⟨rfl, hb⟩; have H3 := Lib.hid (below_trans H2.out hb); have A3 := Lib.hid (A2.out.later hb); have B3 := Lib.hid (B2.out.later hb); have a3 := Lib.hid (a2.out.later hb); clear hb)
    | (refine store_at rfl _ _ rfl rfl w3.heap.size va zero32 rfl rfl VA.out.1 (by decide) (at_lit w3) ?_; intro w4 hA hB _; have k1 := (below_alloc (Below.refl w3.heap.size w3) _).trans hB; have b4 := Lib.hid hA; have H4 := Lib.hid (below_trans H3.out k1); have A4 := Lib.hid (A3.out.later k1); have B4 := Lib.hid (B3.out.later k1); have a4 := Lib.hid (a3.out.later k1); clear hA hB k1)
    | (go_at_call 9; refine (C3.out _).mono ?_; rintro e w5 ⟨rfl, hb⟩; have H5 := Lib.hid (below_trans H4.out hb); have A5 := Lib.hid (A4.out.later hb); have B5 := Lib.hid (B4.out.later hb); have a5 := Lib.hid (a4.out.later hb); have b5 := Lib.hid (b4.out.later hb); clear hb)
    | (refine store_ino rfl _ _ rfl rfl w5.heap.size vc ino0 rfl rfl VC.out rfl (atI_new w5 ino0) ?_; intro w6 hA hB _; have k1 := (below_alloc (Below.refl w5.heap.size w5) _).trans hB; have c6 := Lib.hid hA; have H6 := Lib.hid (below_trans H5.out k1); have A6 := Lib.hid (A5.out.later k1); have B6 := Lib.hid (B5.out.later k1); have a6 := Lib.hid (a5.out.later k1); have b6 := Lib.hid (b5.out.later k1); clear hA hB k1)
    | (go_at_call 10; refine (C4.out _).mono ?_; rintro e w7 ⟨rfl, hb⟩; have H7 := Lib.hid (below_trans H6.out hb); have A7 := Lib.hid (A6.out.later hb); have B7 := Lib.hid (B6.out.later hb); have a7 := Lib.hid (a6.out.later hb); have b7 := Lib.hid (b6.out.later hb); have c7 := Lib.hid (c6.out.later hb); clear hb)
    | (refine store_ino rfl _ _ rfl rfl w7.heap.size vc ino0 rfl rfl VC.out rfl (atI_new w7 ino0) ?_; intro w8 hA hB _; have k1 := (below_alloc (Below.refl w7.heap.size w7) _).trans hB; have HA8 : Hid (SixI w w8 x s w1.heap.size w3.heap.size w5.heap.size w7.heap.size va vc) := Lib.hid ⟨A7.out.later k1, a7.out.later k1, b7.out.later k1, c7.out.later k1, hA, below_trans H7.out k1⟩; clear hA hB k1)
    | (refine load_ino rfl _ rfl w.heap.size rfl x HX.out.four A0.out ?_) | (refine load_ino rfl _ rfl w.heap.size rfl x HX.out.four A2.out ?_) | (refine load_at rfl _ rfl (w.heap.size + 1) rfl s HS.out.1 B4.out ?_) | (refine load_at rfl _ rfl (w.heap.size + 1) rfl s HS.out.1 B6.out ?_))
  clear A0 B0 H0 C1 C2 C3 C4 H1 A1 B1 H2 A2 B2 a2 H3 A3 B3 a3 H4 A4 B4 a4 b4 H5 A5 B5 a5 b5 H6 A6 B6 a6 b6 c6 H7 A7 B7 a7 b7 c7
  have Q1 := Lib.hid fun w => eqIn_sec w VA.out VA.out
  have Q2 := Lib.hid fun w => eqIn_ino w VC.out VC.out
  rw [decide_eq_true rfl] at Q1
  rw [decide_eq_true rfl] at Q2
  have h0 := Below.refl w8.drew.heap.size w8.drew
  refine wp_region_held_drew (S := ext w8.drew) (by kernel_rfl) (Below.refl _ _) (fun hH0 => ?_)
  refine' wpAnyH_take (i := 0) (oi := { dst := some 33, op := Op.load 26 (Operand.tmp 5), type := 26, pos := "law.go:24", after := #[], guard := none }) (v := _) rfl (by kernel_rfl) (by kernel_rfl) (by kernel_rfl) (fun _ _ _ h => h) (ld_sec (by rfl) _ rfl w1.heap.size 0 rfl va VA.out.1 (fun w' hw => (HA8.out.later (below_drew hw)).fa.range)) (by assumption) ?_
  try simp only [Act.put, List.setIfInBounds_toArray, List.set_cons_zero, List.set_cons_succ]
  refine' wpAnyH_take (i := 1) (oi := { dst := some 34, op := Op.load 26 (Operand.tmp 7), type := 26, pos := "law.go:24", after := #[], guard := none }) (v := _) rfl (by kernel_rfl) (by kernel_rfl) (by kernel_rfl) (fun _ _ _ h => h) (ld_sec (by rfl) _ rfl w3.heap.size 0 rfl va VA.out.1 (fun w' hw => (HA8.out.later (below_drew hw)).fb.range)) (by assumption) ?_
  try simp only [Act.put, List.setIfInBounds_toArray, List.set_cons_zero, List.set_cons_succ]
  refine wpAnyH_take (i := 2) (oi := { dst := some 35, op := Op.binOp BinOp.eql 26 (Operand.tmp 33) (Operand.tmp 34) 26, type := 4, pos := "law.go:24", after := #[{ on := 0, ground := Ground.data }, { on := 1, ground := Ground.data }], guard := none }) (v := ?_) rfl (by kernel_rfl) (by kernel_rfl) (by kernel_rfl) (fun _ _ _ h => h) (Or.inl ⟨by rfl, ?_⟩) (by assumption) ?_
  rotate_left
  · (intro w' hSw; have hg := guard_sec; have hq := Q1.out w'; go_simp; try with_reducible rfl)
  try simp only [Act.put, List.setIfInBounds_toArray, List.set_cons_zero, List.set_cons_succ]
  refine wpAnyH_take (i := 3) (oi := { dst := some 36, op := Op.move (Operand.tmp 35), type := 4, pos := "law.go:24", after := #[{ on := 2, ground := Ground.data }], guard := none }) (v := ?_) rfl (by kernel_rfl) (by kernel_rfl) (by kernel_rfl) (fun _ _ _ h => h) (Or.inl ⟨by rfl, ?_⟩) (by assumption) ?_
  rotate_left
  · (intro w' hSw; go_simp; try with_reducible rfl)
  try simp only [Act.put, List.setIfInBounds_toArray, List.set_cons_zero, List.set_cons_succ]
  refine wpAnyH_take (i := 4) (oi := { dst := some 37, op := Op.move (Operand.tmp 6), type := 4, pos := "law.go:24", after := #[{ on := 3, ground := Ground.guard }], guard := some (3, true) }) (v := ?_) rfl (by kernel_rfl) (by kernel_rfl) (by kernel_rfl) (fun _ _ _ h => h) (Or.inl ⟨by rfl, ?_⟩) (by assumption) ?_
  rotate_left
  · (intro w' hSw; go_simp; try with_reducible rfl)
  try simp only [Act.put, List.setIfInBounds_toArray, List.set_cons_zero, List.set_cons_succ]
  refine wpAnyH_take (i := 5) (oi := { dst := some 38, op := Op.move (Operand.tmp 8), type := 4, pos := "law.go:24", after := #[{ on := 3, ground := Ground.guard }], guard := some (3, true) }) (v := ?_) rfl (by kernel_rfl) (by kernel_rfl) (by kernel_rfl) (fun _ _ _ h => h) (Or.inl ⟨by rfl, ?_⟩) (by assumption) ?_
  rotate_left
  · (intro w' hSw; go_simp; try with_reducible rfl)
  try simp only [Act.put, List.setIfInBounds_toArray, List.set_cons_zero, List.set_cons_succ]
  refine wpAnyH_take (i := 6) (oi := { dst := some 39, op := Op.binOp BinOp.eql 4 (Operand.tmp 37) (Operand.tmp 38) 4, type := 4, pos := "law.go:24", after := #[{ on := 4, ground := Ground.data }, { on := 5, ground := Ground.data }, { on := 3, ground := Ground.guard }], guard := some (3, true) }) (v := ?_) rfl (by kernel_rfl) (by kernel_rfl) (by kernel_rfl) (fun _ _ _ h => h) (Or.inl ⟨by rfl, ?_⟩) (by assumption) ?_
  rotate_left
  · (intro w' hSw; go_simp; try with_reducible rfl)
  try simp only [Act.put, List.setIfInBounds_toArray, List.set_cons_zero, List.set_cons_succ]
  refine wpAnyH_take (i := 7) (oi := { dst := some 40, op := Op.pick (Operand.tmp 36) (Operand.tmp 39) (Operand.const (Value.bool false)), type := 4, pos := "law.go:24", after := #[{ on := 3, ground := Ground.data }, { on := 6, ground := Ground.data }], guard := none }) (v := ?_) rfl (by kernel_rfl) (by kernel_rfl) (by kernel_rfl) (fun _ _ _ h => h) (Or.inl ⟨by rfl, ?_⟩) (by assumption) ?_
  rotate_left
  · (intro w' hSw; go_simp; try with_reducible rfl)
  try simp only [Act.put, List.setIfInBounds_toArray, List.set_cons_zero, List.set_cons_succ]
  refine wpAnyH_take (i := 8) (oi := { dst := some 41, op := Op.move (Operand.tmp 40), type := 4, pos := "law.go:24", after := #[{ on := 7, ground := Ground.data }, { on := 3, ground := Ground.chain }], guard := none }) (v := ?_) rfl (by kernel_rfl) (by kernel_rfl) (by kernel_rfl) (fun _ _ _ h => h) (Or.inl ⟨by rfl, ?_⟩) (by assumption) ?_
  rotate_left
  · (intro w' hSw; go_simp; try with_reducible rfl)
  try simp only [Act.put, List.setIfInBounds_toArray, List.set_cons_zero, List.set_cons_succ]
  refine' wpAnyH_take (i := 9) (oi := { dst := some 42, op := Op.load 24 (Operand.tmp 9), type := 24, pos := "law.go:24", after := #[{ on := 8, ground := Ground.guard }], guard := some (8, true) }) (v := _) rfl (by kernel_rfl) (by kernel_rfl) (by kernel_rfl) (fun _ _ _ h => h) (ld_ino (by rfl) _ rfl w5.heap.size rfl vc VC.out (fun w' hw => (HA8.out.later (below_drew hw)).fc)) (by assumption) ?_
  try simp only [Act.put, List.setIfInBounds_toArray, List.set_cons_zero, List.set_cons_succ]
  refine' wpAnyH_take (i := 10) (oi := { dst := some 43, op := Op.load 24 (Operand.tmp 11), type := 24, pos := "law.go:24", after := #[{ on := 8, ground := Ground.guard }], guard := some (8, true) }) (v := _) rfl (by kernel_rfl) (by kernel_rfl) (by kernel_rfl) (fun _ _ _ h => h) (ld_ino (by rfl) _ rfl w7.heap.size rfl vc VC.out (fun w' hw => (HA8.out.later (below_drew hw)).fd)) (by assumption) ?_
  try simp only [Act.put, List.setIfInBounds_toArray, List.set_cons_zero, List.set_cons_succ]
  refine' wpAnyH_take (i := 11) (oi := { dst := some 44, op := Op.binOp BinOp.eql 24 (Operand.tmp 42) (Operand.tmp 43) 24, type := 4, pos := "law.go:24", after := #[{ on := 9, ground := Ground.data }, { on := 10, ground := Ground.data }, { on := 8, ground := Ground.guard }], guard := some (8, true) }) (v := _) rfl (by kernel_rfl) (by kernel_rfl) (by kernel_rfl) (fun _ _ _ h => h) (Go.Proofs.Ytkbnfofklofkoaa.dsk.eql_yields (by rfl) 24 _ _ _ rfl _ _ rfl rfl guard_ino true Q2.out) (by assumption) ?_
  try simp only [Act.put, List.setIfInBounds_toArray, List.set_cons_zero, List.set_cons_succ]
  refine wpAnyH_take (i := 12) (oi := { dst := some 45, op := Op.pick (Operand.tmp 41) (Operand.tmp 44) (Operand.const (Value.bool false)), type := 4, pos := "law.go:24", after := #[{ on := 8, ground := Ground.data }, { on := 11, ground := Ground.data }], guard := none }) (v := ?_) rfl (by kernel_rfl) (by kernel_rfl) (by kernel_rfl) (fun _ _ _ h => h) (Or.inl ⟨by rfl, ?_⟩) (by assumption) ?_
  rotate_left
  · (intro w' hSw; go_simp; try with_reducible rfl)
  try simp only [Act.put, List.setIfInBounds_toArray, List.set_cons_zero, List.set_cons_succ]
  refine wpAnyH_take (i := 13) (oi := { dst := some 46, op := Op.move (Operand.tmp 45), type := 4, pos := "law.go:24", after := #[{ on := 12, ground := Ground.data }, { on := 8, ground := Ground.chain }], guard := none }) (v := ?_) rfl (by kernel_rfl) (by kernel_rfl) (by kernel_rfl) (fun _ _ _ h => h) (Or.inl ⟨by rfl, ?_⟩) (by assumption) ?_
  rotate_left
  · (intro w' hSw; go_simp; try with_reducible rfl)
  try simp only [Act.put, List.setIfInBounds_toArray, List.set_cons_zero, List.set_cons_succ]
  refine wpAnyH_take (i := 14) (oi := { dst := some 47, op := Op.move (Operand.tmp 10), type := 4, pos := "law.go:24", after := #[{ on := 13, ground := Ground.guard }], guard := some (13, true) }) (v := ?_) rfl (by kernel_rfl) (by kernel_rfl) (by kernel_rfl) (fun _ _ _ h => h) (Or.inl ⟨by rfl, ?_⟩) (by assumption) ?_
  rotate_left
  · (intro w' hSw; go_simp; try with_reducible rfl)
  try simp only [Act.put, List.setIfInBounds_toArray, List.set_cons_zero, List.set_cons_succ]
  refine wpAnyH_take (i := 15) (oi := { dst := some 48, op := Op.move (Operand.tmp 12), type := 4, pos := "law.go:24", after := #[{ on := 13, ground := Ground.guard }], guard := some (13, true) }) (v := ?_) rfl (by kernel_rfl) (by kernel_rfl) (by kernel_rfl) (fun _ _ _ h => h) (Or.inl ⟨by rfl, ?_⟩) (by assumption) ?_
  rotate_left
  · (intro w' hSw; go_simp; try with_reducible rfl)
  try simp only [Act.put, List.setIfInBounds_toArray, List.set_cons_zero, List.set_cons_succ]
  refine wpAnyH_take (i := 16) (oi := { dst := some 49, op := Op.binOp BinOp.eql 4 (Operand.tmp 47) (Operand.tmp 48) 4, type := 4, pos := "law.go:24", after := #[{ on := 14, ground := Ground.data }, { on := 15, ground := Ground.data }, { on := 13, ground := Ground.guard }], guard := some (13, true) }) (v := ?_) rfl (by kernel_rfl) (by kernel_rfl) (by kernel_rfl) (fun _ _ _ h => h) (Or.inl ⟨by rfl, ?_⟩) (by assumption) ?_
  rotate_left
  · (intro w' hSw; go_simp; try with_reducible rfl)
  try simp only [Act.put, List.setIfInBounds_toArray, List.set_cons_zero, List.set_cons_succ]
  refine wpAnyH_take (i := 17) (oi := { dst := some 50, op := Op.pick (Operand.tmp 46) (Operand.tmp 49) (Operand.const (Value.bool false)), type := 4, pos := "law.go:24", after := #[{ on := 13, ground := Ground.data }, { on := 16, ground := Ground.data }], guard := none }) (v := ?_) rfl (by kernel_rfl) (by kernel_rfl) (by kernel_rfl) (fun _ _ _ h => h) (Or.inl ⟨by rfl, ?_⟩) (by assumption) ?_
  rotate_left
  · (intro w' hSw; go_simp; try with_reducible rfl)
  try simp only [Act.put, List.setIfInBounds_toArray, List.set_cons_zero, List.set_cons_succ]
  refine wpAnyH_take (i := 18) (oi := { dst := some 51, op := Op.move (Operand.tmp 50), type := 4, pos := "law.go:24", after := #[{ on := 17, ground := Ground.data }, { on := 13, ground := Ground.chain }], guard := none }) (v := ?_) rfl (by kernel_rfl) (by kernel_rfl) (by kernel_rfl) (fun _ _ _ h => h) (Or.inl ⟨by rfl, ?_⟩) (by assumption) ?_
  rotate_left
  · (intro w' hSw; go_simp; try with_reducible rfl)
  try simp only [Act.put, List.setIfInBounds_toArray, List.set_cons_zero, List.set_cons_succ]
  refine' wpAnyH_take (i := 19) (oi := { dst := some 52, op := Op.load 24 (Operand.tmp 2), type := 24, pos := "law.go:24", after := #[{ on := 18, ground := Ground.guard }], guard := some (18, true) }) (v := _) rfl (by kernel_rfl) (by kernel_rfl) (by kernel_rfl) (fun _ _ _ h => h) (ld_ino (by rfl) _ rfl w.heap.size rfl x HX.out.four (fun w' hw => (HA8.out.later (below_drew hw)).fx)) (by assumption) ?_
  try simp only [Act.put, List.setIfInBounds_toArray, List.set_cons_zero, List.set_cons_succ]
  refine' wpAnyH_take (i := 21) (oi := { dst := some 54, op := Op.load 24 (Operand.tmp 2), type := 24, pos := "law.go:24", after := #[{ on := 18, ground := Ground.guard }], guard := some (18, true) }) (v := _) rfl (by kernel_rfl) (by kernel_rfl) (by kernel_rfl) (fun _ _ _ h => h) (ld_ino (by rfl) _ rfl w.heap.size rfl x HX.out.four (fun w' hw => (HA8.out.later (below_drew hw)).fx)) (by assumption) ?_
  try simp only [Act.put, List.setIfInBounds_toArray, List.set_cons_zero, List.set_cons_succ]
  -- 20
  refine wpAnyH_ready (rs := [20]) (by kernel_rfl) (by simp) ?_
  refine AllReadyH.cons (o := { dst := some 53, op := Op.call { callee := Callee.value (Operand.func 11), args := #[Operand.tmp 52], argTypes := #[24] }, type := 4, pos := "law.go:24", after := #[{ on := 19, ground := Ground.data }, { on := 18, ground := Ground.chain }, { on := 18, ground := Ground.guard }], guard := some (18, true) }) rfl (fun K hK => ?_) AllReadyH.nil
  go_simp
  refine (C5.out _).mono ?_
  rintro e v1 ⟨rfl, hb1⟩
  have h1 := below_trans h0 hb1
  dsimp only
  refine hK.out _ _ ?_ (fun hHeld => ?_)
  · exact h1
  clear hK K
  try simp only [Act.put, List.setIfInBounds_toArray, List.set_cons_zero, List.set_cons_succ]
  -- 22
  refine wpAnyH_ready (rs := [22]) (by kernel_rfl) (by simp) ?_
  refine AllReadyH.cons (o := { dst := some 55, op := Op.call { callee := Callee.value (Operand.func 12), args := #[Operand.tmp 54], argTypes := #[24] }, type := 4, pos := "law.go:24", after := #[{ on := 21, ground := Ground.data }, { on := 20, ground := Ground.chain }, { on := 18, ground := Ground.guard }], guard := some (18, true) }) rfl (fun K hK => ?_) AllReadyH.nil
  go_simp
  refine (C6.out _).mono ?_
  rintro e v2 ⟨rfl, hb2⟩
  have h2 := below_trans h1 hb2
  dsimp only
  refine hK.out _ _ ?_ (fun hHeld => ?_)
  · exact h2
  clear hK K
  try simp only [Act.put, List.setIfInBounds_toArray, List.set_cons_zero, List.set_cons_succ]
  refine wpAnyH_take (i := 23) (oi := { dst := some 56, op := Op.binOp BinOp.eql 4 (Operand.tmp 53) (Operand.tmp 55) 4, type := 4, pos := "law.go:24", after := #[{ on := 20, ground := Ground.data }, { on := 22, ground := Ground.data }, { on := 18, ground := Ground.guard }], guard := some (18, true) }) (v := ?_) rfl (by kernel_rfl) (by kernel_rfl) (by kernel_rfl) (fun _ _ _ h => h) (Or.inl ⟨by rfl, ?_⟩) (by assumption) ?_
  rotate_left
  · (intro w' hSw; go_simp; try with_reducible rfl)
  try simp only [Act.put, List.setIfInBounds_toArray, List.set_cons_zero, List.set_cons_succ]
  refine wpAnyH_take (i := 24) (oi := { dst := some 57, op := Op.pick (Operand.tmp 51) (Operand.tmp 56) (Operand.const (Value.bool false)), type := 4, pos := "law.go:24", after := #[{ on := 18, ground := Ground.data }, { on := 23, ground := Ground.data }], guard := none }) (v := ?_) rfl (by kernel_rfl) (by kernel_rfl) (by kernel_rfl) (fun _ _ _ h => h) (Or.inl ⟨by rfl, ?_⟩) (by assumption) ?_
  rotate_left
  · (intro w' hSw; go_simp; try with_reducible rfl)
  try simp only [Act.put, List.setIfInBounds_toArray, List.set_cons_zero, List.set_cons_succ]
  refine wpAnyH_take (i := 25) (oi := { dst := some 58, op := Op.move (Operand.tmp 57), type := 4, pos := "law.go:24", after := #[{ on := 24, ground := Ground.data }, { on := 22, ground := Ground.chain }], guard := none }) (v := ?_) rfl (by kernel_rfl) (by kernel_rfl) (by kernel_rfl) (fun _ _ _ h => h) (Or.inl ⟨by rfl, ?_⟩) (by assumption) ?_
  rotate_left
  · (intro w' hSw; go_simp; try with_reducible rfl)
  try simp only [Act.put, List.setIfInBounds_toArray, List.set_cons_zero, List.set_cons_succ]
  -- 26
  refine wpAnyH_ready (rs := [26]) (by kernel_rfl) (by simp) ?_
  refine AllReadyH.cons (o := { dst := some 59, op := Op.call { callee := Callee.value (Operand.func 13), args := #[], argTypes := #[] }, type := 4, pos := "law.go:24", after := #[{ on := 25, ground := Ground.chain }, { on := 25, ground := Ground.guard }], guard := some (25, true) }) rfl (fun K hK => ?_) AllReadyH.nil
  go_simp
  refine (HK.out _).mono ?_
  rintro e v3 ⟨rfl, hb3⟩
  have h3 := below_trans h2 hb3
  dsimp only
  refine hK.out _ _ ?_ (fun hHeld => ?_)
  · exact h3
  clear hK K
  try simp only [Act.put, List.setIfInBounds_toArray, List.set_cons_zero, List.set_cons_succ]
  refine wpAnyH_take (i := 27) (oi := { dst := some 60, op := Op.pick (Operand.tmp 58) (Operand.tmp 59) (Operand.const (Value.bool false)), type := 4, pos := "law.go:24", after := #[{ on := 25, ground := Ground.data }, { on := 26, ground := Ground.data }], guard := none }) (v := ?_) rfl (by kernel_rfl) (by kernel_rfl) (by kernel_rfl) (fun _ _ _ h => h) (Or.inl ⟨by rfl, ?_⟩) (by assumption) ?_
  rotate_left
  · (intro w' hSw; go_simp; try with_reducible rfl)
  try simp only [Act.put, List.setIfInBounds_toArray, List.set_cons_zero, List.set_cons_succ]
  refine wpAnyH_take (i := 28) (oi := { dst := some 4, op := Op.assign (Operand.tmp 60), type := 4, pos := "law.go:24", after := #[{ on := 27, ground := Ground.data }, { on := 26, ground := Ground.chain }, { on := 0, ground := Ground.phase }, { on := 1, ground := Ground.phase }, { on := 2, ground := Ground.phase }, { on := 3, ground := Ground.phase }, { on := 4, ground := Ground.phase }, { on := 5, ground := Ground.phase }, { on := 6, ground := Ground.phase }, { on := 7, ground := Ground.phase }, { on := 8, ground := Ground.phase }, { on := 9, ground := Ground.phase }, { on := 10, ground := Ground.phase }, { on := 11, ground := Ground.phase }, { on := 12, ground := Ground.phase }, { on := 13, ground := Ground.phase }, { on := 14, ground := Ground.phase }, { on := 15, ground := Ground.phase }, { on := 16, ground := Ground.phase }, { on := 17, ground := Ground.phase }, { on := 18, ground := Ground.phase }, { on := 19, ground := Ground.phase }, { on := 20, ground := Ground.phase }, { on := 21, ground := Ground.phase }, { on := 22, ground := Ground.phase }, { on := 23, ground := Ground.phase }, { on := 24, ground := Ground.phase }, { on := 25, ground := Ground.phase }, { on := 26, ground := Ground.phase }, { on := 27, ground := Ground.phase }], guard := none }) (v := ?_) rfl (by kernel_rfl) (by kernel_rfl) (by kernel_rfl) (fun _ _ _ h => h) (Or.inl ⟨by rfl, ?_⟩) (by assumption) ?_
  rotate_left
  · (intro w' hSw; go_simp; try with_reducible rfl)
  try simp only [Act.put, List.setIfInBounds_toArray, List.set_cons_zero, List.set_cons_succ]
  refine wpAnyH_done (by kernel_rfl) ?_ _
  have HZ := Lib.hid (below_trans HA8.out.below (below_drew h3))
  clear hHeld hH0
  go_wp2_with fail
  go_ret
  exact ⟨rfl, HZ.out⟩
end Go.Proofs.Ytkbnfofklofkoaa.ly
