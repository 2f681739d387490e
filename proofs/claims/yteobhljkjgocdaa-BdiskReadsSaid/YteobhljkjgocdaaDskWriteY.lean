/- What the reference's Write gives where it writes. -/
import Derived.Test.YteobhljkjgocdaaDskWrite
import Derived.Test.YteobhljkjgocdaaDskSteps
import Derived.Deep.Cut
namespace Go.Proofs.Yteobhljkjgocdaa.dsk
open Go.ChangeShapes Go.WideShapes Go.ChangeAt Go.RowKit
open Go.Proofs.Yteobhljkjgocdaa.rows
open Go.Proofs.Yteobhljkjgocdaa.sec
set_option linter.unusedVariables false
set_option linter.unusedSimpArgs false

theorem At.touch {S : Nat → Prop} {w w' : World} {g : Nat} {s : List Int} (h : At w g s) (ht : Touch S w w') (hs : ¬ S g) : At w' g s := (ht.block g (Array.getElem?_eq_some_iff.1 h).1 hs).trans h
theorem row_touch {S : Nat → Prop} {w w' : World} {g : Nat} {o : Obj} (h : w.heap[g]? = some o) (ht : Touch S w w') (hs : ¬ S g) : w'.heap[g]? = some o := (ht.block g (Array.getElem?_eq_some_iff.1 h).1 hs).trans h
theorem tag_range {w : World} {g : Nat} {k i : Int} (h : w.heap[g]? = some (.cells #[.int .i64 k, .int .i64 i] 37 (0, 0))) : w.rangeAt g 0 [.int .i64 k, .int .i64 i] := by
  have := World.rangeAt_of_block h 0 2
  simpa using this
theorem info_tag : (Try.prog.info? 37).map (·.size) = some 2 := by kernel_rfl
/-- a load of a tag, taken first in a region that draws its order -/
theorem ld_tag {ops : Array Oper} {S : World → Prop} {op : Oper} {a : Act} (hw : Region.wanted op (yielded ops a.tmps) = true) (x : Operand) (ho : op.op = .load 37 x)
    (b o : Nat) (hx : a.eval x = .pointer (some ⟨b, o, none⟩)) (k i : Int) (hS : ∀ w, S w → w.rangeAt b o [.int .i64 k, .int .i64 i]) : YieldsIf Try.prog ops S op (.agg #[.int .i64 k, .int .i64 i]) a :=
  yieldsIf_load_mid hw _ x ho b o hx [.int .i64 k, .int .i64 i] _ hS und_tag rfl (by rw [info_tag]; rfl)
/-- the write x lies in block g -/
def AtW (w : World) (g : Nat) (x : Wr) : Prop := w.heap[g]? = some (.cells x.c.toArray 74 (0, 0))
theorem AtW.range {w : World} {g : Nat} {x : Wr} (h : AtW w g x) : w.rangeAt g 0 x.c := by
  have := World.rangeAt_of_block h 0 x.c.toArray.size
  simpa using this
/-- a write stored into a block of its own, as one step of a region that draws its order -/
theorem step_store_wr {w : World} {ops : Array Oper} {o : Oper} {a : Act} {K : Act → World → Prop} {Q : Exit → Act → World → Prop} {F : Prop} (hw : Region.wanted o (yielded ops a.tmps) = true) (x y : Operand) (ho : o.op = .store 74 x y)
    (g : Nat) (hx : a.eval x = .pointer (some ⟨g, 0, none⟩)) (z old : Wr) (hy : a.eval y = .agg z.c.toArray) (hs : Sec z.s) (hold : Sec old.s) (hg : AtW w g old)
    (h : ∀ w', AtW w' g z → Below g w w' → K (a.put o.dst undef) w') : if Region.wanted o (yielded ops a.tmps) = true then Oper.wp Try.prog o a w K Q else F := by
  rw [if_pos hw]
  refine wp_store_row 74 x y ho g z.c.toArray hx hy 74 _ hg (by rw [info_wr]; simp [Wr.c_len hs]) (by simp [Wr.c_len hs, Wr.c_len hold]) (by simp only [List.all_toArray]; exact List.all_eq_true.2 (wr_ones z)) ?_
  exact h _ (setRow_heap w g _ _ _ _ hg) ((Below.refl g w).trans ⟨rfl, rfl, rfl, by simp [World.setRow], fun k hk => setRow_other w g k _ (by omega)⟩)
/-- the write x has been added to what waits -/
def AfterWait (w2 wc : World) (g : Nat) (ps : Option Addr) (n cs : Nat) (pl : Option Addr) (l cl : Nat) (vb : Value) (st : St) (m : Nat) (x : Wr) : Prop := ∃ pq cq, wc.heap[g]? = some (.cells #[.slice ps n cs, .slice pq (m + 1) cq, .int .i64 st.ep, .slice pl l cl, vb, .int .i64 (st.asked + 1)] 53 (0, 0)) ∧
  Own wc w2.heap.size 74 36 (.slice pq (m + 1) cq) (m + 1) (wrsC st.wait ++ x.c) ∧ Touch (· = g) w2 wc
set_option maxHeartbeats 3200000 in
theorem rwrite_yes (S : Nat → Prop) (g : Nat) (st : St) (w : World) (h : RefIs w S g st) (hf : st.few) (hsl : st.safe.length ≤ 1000) (i : Int) (s : List Int) (k id : Int) (hs : Sec s) (hi : 0 ≤ i ∧ i < (st.safe.length : Int)) (hn : asks st = false) :
    Calls Try.prog 38 #[.pointer (some ⟨g, 0, none⟩), .int .i64 i, agg s, .agg #[.int .i64 k, .int .i64 id]] w (RefDone S g w (0, { st with asked := st.asked + 1, wait := st.wait ++ [⟨i, s, k, id, st.ep⟩], log := st.log ++ [(1, ⟨i, s, k, id, st.ep⟩, [])] })) := by
  obtain ⟨vs, vw, vl, vb, h⟩ := h
  obtain ⟨ps, cs, hvs⟩ := slice_of h.safe
  subst hvs
  obtain ⟨pw, cw, hvw⟩ := slice_of h.wait
  subst hvw
  obtain ⟨es, hes⟩ := h.log
  obtain ⟨pl, cl, hvl⟩ := slice_of hes.cells
  subst hvl
  obtain ⟨W, hW⟩ : ∃ W, W = (w.alloc (.cells (u8s s).toArray 35)).alloc (.cells #[.int .i64 k, .int .i64 id] 37) := ⟨_, rfl⟩
  have hbW : Below w.heap.size w W := by rw [hW]; exact below_alloc (below_alloc (Below.refl _ _) _) _
  have hWs : W.heap.size = w.heap.size + 1 + 1 := by rw [hW]; simp
  have hA := refAt_later h hbW
  have HA := Lib.hid hA
  have hlt := h.lt
  have HF := Lib.hid (rfails' S g st _ _ _ vb W hA (by have := hf.bn; omega) ⟨hf.as0, by have := hf.as1; omega⟩)
  rw [show decide (st.asked ∈ st.bad) = false from hn] at HF
  have A60 : Hid (At W w.heap.size s) := Lib.hid (by rw [hW]; exact (at_new w s).alloc _)
  have A70 : Hid (W.heap[w.heap.size + 1]? = some (.cells #[.int .i64 k, .int .i64 id] 37 (0, 0))) := Lib.hid (by
    rw [hW]
    have := heap_alloc_new (w.alloc (.cells (u8s s).toArray 35)) (.cells #[.int .i64 k, .int .i64 id] 37)
    rwa [size_alloc] at this)
  have HE := Lib.hid hes
  have HBW := Lib.hid hbW
  have HW := Lib.hid hW
  have HWS := Lib.hid hWs
  have HS := Lib.hid hs
  obtain ⟨hi0, hi1⟩ := hi
  have d0 : decide (i < 0) = false := by simp; omega
  have d1 : decide ((st.safe.length : Int) ≤ i) = false := by simp; omega
  have hep := hf.ep0
  have hep1 := hf.ep1
  have hln := hf.ln
  have hwn := hf.wn
  generalize hnn : st.safe.length = n at *
  have HN := Lib.hid hnn
  generalize hmm : st.wait.length = m at *
  have HM := Lib.hid hmm
  generalize hll : st.log.length = l at *
  have HL := Lib.hid hll
  clear h hA hbW hW hWs hn hf hes hs hnn hmm hll
  go_enter Try.func38, Try.ntmps38
  go_wp2_with fail
  rw [← HW.out]
  refine HF.out.mono ?_
  rintro e w1 ⟨rfl, hrow, ht, hsz⟩
  have c0 : w1.cell? ⟨g, 0, none⟩ = some (.slice ps n cs) := cell_row hrow 0 _ rfl
  have C2 : Hid (w1.cell? ⟨g, 2, none⟩ = some (.int .i64 st.ep)) := Lib.hid (cell_row hrow 2 _ rfl)
  have HROW := Lib.hid hrow
  have A6 := Lib.hid (A60.out.touch ht (by omega))
  have A7 := Lib.hid (row_touch A70.out ht (by omega))
  have HT := Lib.hid ht
  have HSZ : Hid (w1.heap.size = w.heap.size + 1 + 1) := Lib.hid (hsz.trans HWS.out)
  have hg1 : g < w1.heap.size := (Array.getElem?_eq_some_iff.1 hrow).1
  have hg6 : w.heap.size < w1.heap.size := by have := HSZ.out; omega
  have hg7 : w.heap.size + 1 < w1.heap.size := by have := HSZ.out; omega
  clear hrow ht hsz A60 A70
  go_wp2_with fail
  have h0 := Below.refl w1.drew.heap.size w1.drew
  refine wp_region_held_drew (S := ext w1.drew) (by kernel_rfl) (Below.refl _ _) (fun hH0 => ?_)
  refine wpAnyH_take (i := 0) (oi := { dst := some 25, op := Op.move (Operand.tmp 1), type := 3, pos := "ref.go:60", after := #[], guard := none }) (v := ?_) rfl (by kernel_rfl) (by kernel_rfl) (by kernel_rfl) (fun _ _ _ h => h) (Or.inl ⟨by rfl, ?_⟩) (by assumption) ?_
  rotate_left
  · (intro w' hSw; go_simp; try with_reducible rfl)
  try simp only [Act.put, List.setIfInBounds_toArray, List.set_cons_zero, List.set_cons_succ]
  refine' wpAnyH_take (i := 1) (oi := { dst := some 26, op := Op.load 35 (Operand.tmp 6), type := 35, pos := "ref.go:60", after := #[], guard := none }) (v := _) rfl (by kernel_rfl) (by kernel_rfl) (by kernel_rfl) (fun _ _ _ h => h) (ld_sec (by rfl) _ rfl w.heap.size 0 rfl s HS.out.1 (fun w' hw => (A6.out.later (below_drew hw)).range)) (by assumption) ?_
  try simp only [Act.put, List.setIfInBounds_toArray, List.set_cons_zero, List.set_cons_succ]
  refine' wpAnyH_take (i := 2) (oi := { dst := some 27, op := Op.load 37 (Operand.tmp 7), type := 37, pos := "ref.go:60", after := #[], guard := none }) (v := _) rfl (by kernel_rfl) (by kernel_rfl) (by kernel_rfl) (fun _ _ _ h => h) (ld_tag (by rfl) _ rfl (w.heap.size + 1) 0 rfl k id (fun w' hw => tag_range (row_later A7.out (below_drew hw) hg7))) (by assumption) ?_
  try simp only [Act.put, List.setIfInBounds_toArray, List.set_cons_zero, List.set_cons_succ]
  refine wpAnyH_take (i := 3) (oi := { dst := some 28, op := Op.move (Operand.tmp 0), type := 30, pos := "ref.go:60", after := #[], guard := none }) (v := ?_) rfl (by kernel_rfl) (by kernel_rfl) (by kernel_rfl) (fun _ _ _ h => h) (Or.inl ⟨by rfl, ?_⟩) (by assumption) ?_
  rotate_left
  · (intro w' hSw; go_simp; try with_reducible rfl)
  try simp only [Act.put, List.setIfInBounds_toArray, List.set_cons_zero, List.set_cons_succ]
  refine wpAnyH_take (i := 4) (oi := { dst := some 29, op := Op.nilCheck (Operand.tmp 28), type := 0, pos := "ref.go:60", after := #[{ on := 3, ground := Ground.data }], guard := none }) (v := ?_) rfl (by kernel_rfl) (by kernel_rfl) (by kernel_rfl) (fun _ _ _ h => h) (Or.inl ⟨by rfl, ?_⟩) (by assumption) ?_
  rotate_left
  · (intro w' hSw; go_simp; try with_reducible rfl)
  try simp only [Act.put, List.setIfInBounds_toArray, List.set_cons_zero, List.set_cons_succ]
  refine wpAnyH_take (i := 5) (oi := { dst := some 30, op := Op.fieldAddr 53 (Operand.tmp 29) 2, type := 0, pos := "ref.go:60", after := #[{ on := 4, ground := Ground.data }], guard := none }) (v := ?_) rfl (by kernel_rfl) (by kernel_rfl) (by kernel_rfl) (fun _ _ _ h => h) (Or.inl ⟨by rfl, ?_⟩) (by assumption) ?_
  rotate_left
  · (intro w' hSw; go_simp; try with_reducible rfl)
  try simp only [Act.put, List.setIfInBounds_toArray, List.set_cons_zero, List.set_cons_succ]
  refine' wpAnyH_take (i := 6) (oi := { dst := some 31, op := Op.load 3 (Operand.tmp 30), type := 3, pos := "ref.go:60", after := #[{ on := 5, ground := Ground.data }], guard := none }) (v := _) rfl (by kernel_rfl) (by kernel_rfl) (by kernel_rfl) (fun _ _ _ h => h) (ld_cell (by rfl) 3 _ und_int rfl _ rfl g 2 rfl (.int .i64 st.ep) (fun w' hw => ((below_drew hw).cell (p := ⟨g, 2, none⟩) hg1).trans C2.out)) (by assumption) ?_
  try simp only [Act.put, List.setIfInBounds_toArray, List.set_cons_zero, List.set_cons_succ]
  refine' wpAnyH_take (i := 7) (oi := { dst := some 32, op := Op.build 74 #[(0, Operand.tmp 25), (1, Operand.tmp 26), (2, Operand.tmp 27), (3, Operand.tmp 31)], type := 74, pos := "ref.go:60", after := #[{ on := 0, ground := Ground.data }, { on := 1, ground := Ground.data }, { on := 2, ground := Ground.data }, { on := 6, ground := Ground.data }], guard := none }) (v := _) rfl (by kernel_rfl) (by kernel_rfl) (by kernel_rfl) (fun _ _ _ h => h) (build_yields (by rfl) 74 _ rfl [(0, .int .i64 i), (1, .agg (u8s s).toArray), (2, .agg #[.int .i64 k, .int .i64 id]), (3, .int .i64 st.ep)] rfl _ (built_wr ⟨i, s, k, id, st.ep⟩ HS.out)) (by assumption) ?_
  try simp only [Act.put, List.setIfInBounds_toArray, List.set_cons_zero, List.set_cons_succ]
  -- 8
  refine wpAnyH_ready (rs := [8]) (by kernel_rfl) (by simp) ?_
  refine AllReadyH.cons (o := { dst := some 10, op := Op.alloc 74, type := 0, pos := "ref.go:60", after := #[], guard := none }) rfl (fun K hK => ?_) AllReadyH.nil
  refine step_alloc zero_wr (by rfl) rfl ?_
  intro gx v1 hgx hrx hb1
  have h1 := below_trans h0 hb1
  have HX := Lib.hid hrx
  refine hK.out _ _ ?_ (fun hHeld => ?_)
  · exact h1
  clear hK K hrx
  try simp only [Act.put, List.setIfInBounds_toArray, List.set_cons_zero, List.set_cons_succ]
  -- 9
  refine wpAnyH_ready (rs := [9]) (by kernel_rfl) (by simp) ?_
  refine AllReadyH.cons (o := { dst := none, op := Op.store 74 (Operand.tmp 10) (Operand.tmp 32), type := 0, pos := "ref.go:60", after := #[{ on := 8, ground := Ground.data }, { on := 7, ground := Ground.data }, { on := 0, ground := Ground.phase }, { on := 1, ground := Ground.phase }, { on := 2, ground := Ground.phase }, { on := 3, ground := Ground.phase }, { on := 4, ground := Ground.phase }, { on := 5, ground := Ground.phase }, { on := 6, ground := Ground.phase }, { on := 7, ground := Ground.phase }, { on := 8, ground := Ground.phase }], guard := none }) rfl (fun K hK => ?_) AllReadyH.nil
  refine step_store_wr (by rfl) _ _ (by rfl) gx (by rfl) ⟨i, s, k, id, st.ep⟩ w0 (by rfl) HS.out sec_zero HX.out ?_
  intro w2 hx2 hb2
  have hb2' : Below w1.heap.size w1 w2 := below_drew (h1.trans (hb2.mono hgx))
  have HX2 := Lib.hid hx2
  refine hK.out _ _ ?_ (fun hHeld => ?_)
  · exact h1.trans (hb2.mono hgx)
  clear hK K hx2
  try simp only [Act.put, List.setIfInBounds_toArray, List.set_cons_zero, List.set_cons_succ]
  refine wpAnyH_done (by kernel_rfl) ?_ _
  clear hHeld hH0
  have HROW2 := Lib.hid (row_later HROW.out hb2' hg1)
  have hg2 : g < w2.heap.size := Nat.lt_of_lt_of_le hg1 hb2'.size
  have hgx2 : gx < w2.heap.size := (Array.getElem?_eq_some_iff.1 HX2.out).1
  have hgxg : gx ≠ g := by have : w1.heap.size ≤ gx := hgx; omega
  have C1 : Hid (w2.cell? ⟨g, 1, none⟩ = some (.slice pw m cw)) := Lib.hid (cell_row HROW2.out 1 _ rfl)
  have HWT2 : Hid (Rd w2 36 (.slice pw m cw) m (wrsC st.wait)) := Lib.hid (by
    have h1 := (HA.out.keepWait HT.out).1
    rw [HM.out] at h1
    exact h1.later hb2')
  have HWO : Hid (∀ u ∈ wrsC st.wait, u.oneCell' = true) := Lib.hid (fun u hu => by
    obtain ⟨l, hl, hul⟩ := List.mem_flatten.1 hu
    obtain ⟨x, _, rfl⟩ := List.mem_map.1 hl
    exact wr_ones x u hul)
  have HFIN7 : ∀ (pq : Option Addr) (cq : Nat) (v9 : World), Own v9 w2.heap.size 74 36 (.slice pq (0 + m + 1) cq) (0 + m + 1) ([] ++ wrsC st.wait ++ Wr.c (⟨i, s, k, id, st.ep⟩ : Wr)) → Below w2.drew.heap.size w2.drew v9 →
      v9.heap[g]? = some (.cells #[.slice ps n cs, .slice pw m cw, .int .i64 st.ep, .slice pl l cl, vb, .int .i64 (st.asked + 1)] 53 (0, 0)) → AfterWait w2 (v9.setCell ⟨g, 1, none⟩ (.slice pq (m + 1) cq)) g ps n cs pl l cl vb st m (⟨i, s, k, id, st.ep⟩ : Wr) := fun pq cq v9 ho hb hr => by
    rw [Nat.zero_add, List.nil_append] at ho
    exact ⟨pq, cq, setCell_heap hr _, ownsRow_setCell_below ho (a := ⟨g, 1, none⟩) hg2 _, Touch.setCell (S := (· = g)) (Touch.of_below (below_drew hb)) ⟨g, 1, none⟩ rfl _⟩
  go_wp2_with fail
  go_cut [] from 33 (fun wc => AfterWait w2 wc g ps n cs pl l cl vb st m (⟨i, s, k, id, st.ep⟩ : Wr))
  case first =>
    have h0 := Below.refl w2.drew.heap.size w2.drew
    refine wp_region_last (S := ext w2.drew) 12 (by kernel_rfl) (Below.refl _ _) (fun hH0 => ?_)
    refine wpAnyL_take (i := 0) (oi := { dst := some 33, op := Op.move (Operand.tmp 0), type := 30, pos := "ref.go:61", after := #[], guard := none }) (v := ?_) rfl (by kernel_rfl) (by kernel_rfl) (by kernel_rfl) (by kernel_rfl) (fun _ _ _ h => h) (Or.inl ⟨by rfl, ?_⟩) (by assumption) ?_
    rotate_left
    · (intro w' hSw; go_simp; try with_reducible rfl)
    try simp only [Act.put, List.setIfInBounds_toArray, List.set_cons_zero, List.set_cons_succ]
    refine wpAnyL_take (i := 2) (oi := { dst := some 35, op := Op.move (Operand.tmp 0), type := 30, pos := "ref.go:61", after := #[], guard := none }) (v := ?_) rfl (by kernel_rfl) (by kernel_rfl) (by kernel_rfl) (by kernel_rfl) (fun _ _ _ h => h) (Or.inl ⟨by rfl, ?_⟩) (by assumption) ?_
    rotate_left
    · (intro w' hSw; go_simp; try with_reducible rfl)
    try simp only [Act.put, List.setIfInBounds_toArray, List.set_cons_zero, List.set_cons_succ]
    refine wpAnyL_take (i := 3) (oi := { dst := some 36, op := Op.nilCheck (Operand.tmp 35), type := 0, pos := "ref.go:61", after := #[{ on := 2, ground := Ground.data }], guard := none }) (v := ?_) rfl (by kernel_rfl) (by kernel_rfl) (by kernel_rfl) (by kernel_rfl) (fun _ _ _ h => h) (Or.inl ⟨by rfl, ?_⟩) (by assumption) ?_
    rotate_left
    · (intro w' hSw; go_simp; try with_reducible rfl)
    try simp only [Act.put, List.setIfInBounds_toArray, List.set_cons_zero, List.set_cons_succ]
    refine wpAnyL_take (i := 4) (oi := { dst := some 37, op := Op.fieldAddr 53 (Operand.tmp 36) 1, type := 0, pos := "ref.go:61", after := #[{ on := 3, ground := Ground.data }], guard := none }) (v := ?_) rfl (by kernel_rfl) (by kernel_rfl) (by kernel_rfl) (by kernel_rfl) (fun _ _ _ h => h) (Or.inl ⟨by rfl, ?_⟩) (by assumption) ?_
    rotate_left
    · (intro w' hSw; go_simp; try with_reducible rfl)
    try simp only [Act.put, List.setIfInBounds_toArray, List.set_cons_zero, List.set_cons_succ]
    refine' wpAnyL_take (i := 5) (oi := { dst := some 38, op := Op.load 50 (Operand.tmp 37), type := 50, pos := "ref.go:61", after := #[{ on := 4, ground := Ground.data }], guard := none }) (v := _) rfl (by kernel_rfl) (by kernel_rfl) (by kernel_rfl) (by kernel_rfl) (fun _ _ _ h => h) (ld_cell (by rfl) 50 _ und_wrs rfl _ rfl g 1 rfl (.slice pw m cw) (fun w' hw => ((below_drew hw).cell (p := ⟨g, 1, none⟩) hg2).trans C1.out)) (by assumption) ?_
    try simp only [Act.put, List.setIfInBounds_toArray, List.set_cons_zero, List.set_cons_succ]
    refine' wpAnyL_take (i := 7) (oi := { dst := some 40, op := Op.load 74 (Operand.tmp 10), type := 74, pos := "ref.go:61", after := #[], guard := none }) (v := _) rfl (by kernel_rfl) (by kernel_rfl) (by kernel_rfl) (by kernel_rfl) (fun _ _ _ h => h) (ld_wr (by rfl) _ rfl gx 0 rfl (⟨i, s, k, id, st.ep⟩ : Wr) HS.out (fun w' hw => AtW.range (row_later HX2.out (below_drew hw) hgx2))) (by assumption) ?_
    try simp only [Act.put, List.setIfInBounds_toArray, List.set_cons_zero, List.set_cons_succ]
    -- 1, 8
    refine wpAnyL_ready (rs := [1, 8]) (by kernel_rfl) (by simp) ?_
    refine AllReadyL.cons (o := { dst := some 34, op := Op.buildSlice 50 0 #[], type := 50, pos := "ref.go:61", after := #[], guard := none }) rfl (fun K hK => ?_) (AllReadyL.cons (o := { dst := some 41, op := Op.buildSlice 50 1 #[(0, Operand.tmp 40)], type := 50, pos := "ref.go:61", after := #[{ on := 7, ground := Ground.data }], guard := none }) rfl (fun K hK => ?_) AllReadyL.nil)
    · refine step_made elem_wrs w2.heap.size (by rfl) rfl (h0).size ?_
      intro b1 v1 hv1 ho1 hb1
      have h1 := below_trans h0 hb1
      have o1 := Lib.hid ho1
      clear ho1
      refine hK.out _ _ (Or.inr h1) (fun hHeld => ?_)
      clear hK K
      try simp only [Act.put, List.setIfInBounds_toArray, List.set_cons_zero, List.set_cons_succ]
      -- 6, 8
      refine wpAnyL_ready (rs := [6, 8]) (by kernel_rfl) (by simp) ?_
      refine AllReadyL.cons (o := { dst := some 39, op := Op.call { callee := Callee.builtin Builtin.append, args := #[Operand.tmp 34, Operand.tmp 38], argTypes := #[50, 50] }, type := 50, pos := "ref.go:61", after := #[{ on := 1, ground := Ground.data }, { on := 5, ground := Ground.data }], guard := none }) rfl (fun K hK => ?_) (AllReadyL.cons (o := { dst := some 41, op := Op.buildSlice 50 1 #[(0, Operand.tmp 40)], type := 50, pos := "ref.go:61", after := #[{ on := 7, ground := Ground.data }], guard := none }) rfl (fun K hK => ?_) AllReadyL.nil)
      · refine step_ap2 elem_wrs (by rfl) (.tmp 34) (.tmp 38) rfl w2.heap.size (.slice (some ⟨b1, 0, none⟩) 0 0) 0 [] rfl (by first | exact o1.out | exact own_later o1.out (by assumption)) _ m _ rfl (HWT2.out.later (below_drew h1)) HWO.out (by omega) (h1).size ?_
        intro p6 c6 v2 ho2 hb2 ht6
        have h2 := (h1).trans hb2
        have o2 := Lib.hid ho2
        clear ho2
        refine hK.out _ _ (Or.inr h2) (fun hHeld => ?_)
        clear hK K
        try simp only [Act.put, List.setIfInBounds_toArray, List.set_cons_zero, List.set_cons_succ]
        -- 8
        refine wpAnyL_ready (rs := [8]) (by kernel_rfl) (by simp) ?_
        refine AllReadyL.cons (o := { dst := some 41, op := Op.buildSlice 50 1 #[(0, Operand.tmp 40)], type := 50, pos := "ref.go:61", after := #[{ on := 7, ground := Ground.data }], guard := none }) rfl (fun K hK => ?_) AllReadyL.nil
        refine step_one elem_wrs (by decide) (by rfl) (.tmp 40) rfl (Wr.c ⟨i, s, k, id, st.ep⟩) rfl (Wr.c_len HS.out) ?_
        intro b8 v3 hv8 hr3 hb3
        have h3 := below_trans h2 hb3
        have r3 := Lib.hid hr3
        clear hr3
        refine hK.out _ _ (Or.inr h3) (fun hHeld => ?_)
        clear hK K
        try simp only [Act.put, List.setIfInBounds_toArray, List.set_cons_zero, List.set_cons_succ]
        -- 9
        refine wpAnyL_ready (rs := [9]) (by kernel_rfl) (by simp) ?_
        refine AllReadyL.cons (o := { dst := some 42, op := Op.call { callee := Callee.builtin Builtin.append, args := #[Operand.tmp 39, Operand.tmp 41], argTypes := #[50, 50] }, type := 50, pos := "ref.go:61", after := #[{ on := 6, ground := Ground.data }, { on := 8, ground := Ground.data }, { on := 6, ground := Ground.chain }], guard := none }) rfl (fun K hK => ?_) AllReadyL.nil
        refine step_ap2 elem_wrs (by rfl) (.tmp 39) (.tmp 41) rfl w2.heap.size _ (0 + m) _ rfl (by first | exact o2.out | exact own_later o2.out (by assumption)) _ 1 _ rfl (by first | exact r3.out | exact Rd.apart r3.out ht6 (fun e => by have e2 : some b1 = some b8 := e; have e3 := Option.some.inj e2; omega) | exact Rd.apart (r3.out.later (by assumption)) ht6 (fun e => by have e2 : some b1 = some b8 := e; have e3 := Option.some.inj e2; omega)) (wr_ones _) (by omega) (h3).size ?_
        intro pq cq v9 ho4 hb4 ht9
        have h4 := (h3).trans hb4
        have o9 := Lib.hid ho4
        have h9 := Lib.hid h4
        clear ho4
        refine hK.out _ _ (Or.inr h4) (fun hHeld => ?_)
        clear hK K
        try simp only [Act.put, List.setIfInBounds_toArray, List.set_cons_zero, List.set_cons_succ]
        -- 10
        refine wpAnyL_ready (rs := [10]) (by kernel_rfl) (by simp) ?_
        refine AllReadyL.cons (o := { dst := some 43, op := Op.nilCheck (Operand.tmp 33), type := 0, pos := "ref.go:61", after := #[{ on := 0, ground := Ground.data }, { on := 0, ground := Ground.phase }, { on := 1, ground := Ground.phase }, { on := 2, ground := Ground.phase }, { on := 3, ground := Ground.phase }, { on := 4, ground := Ground.phase }, { on := 5, ground := Ground.phase }, { on := 6, ground := Ground.phase }, { on := 7, ground := Ground.phase }, { on := 8, ground := Ground.phase }, { on := 9, ground := Ground.phase }], guard := none }) rfl (fun K hK => ?_) AllReadyL.nil
        go_simp
        refine hK.out _ _ (Or.inr (by assumption)) (fun hHeld => ?_)
        clear hK K
        try simp only [Act.put, List.setIfInBounds_toArray, List.set_cons_zero, List.set_cons_succ]
        refine wpAnyL_take (i := 11) (oi := { dst := some 44, op := Op.fieldAddr 53 (Operand.tmp 43) 1, type := 0, pos := "ref.go:61", after := #[{ on := 10, ground := Ground.data }, { on := 0, ground := Ground.phase }, { on := 1, ground := Ground.phase }, { on := 2, ground := Ground.phase }, { on := 3, ground := Ground.phase }, { on := 4, ground := Ground.phase }, { on := 5, ground := Ground.phase }, { on := 6, ground := Ground.phase }, { on := 7, ground := Ground.phase }, { on := 8, ground := Ground.phase }, { on := 9, ground := Ground.phase }], guard := none }) (v := ?_) rfl (by kernel_rfl) (by kernel_rfl) (by kernel_rfl) (by kernel_rfl) (fun _ _ _ h => h) (Or.inl ⟨by rfl, ?_⟩) (by assumption) ?_
        rotate_left
        · (intro w' hSw; go_simp; try with_reducible rfl)
        try simp only [Act.put, List.setIfInBounds_toArray, List.set_cons_zero, List.set_cons_succ]
        -- 12
        refine wpAnyL_ready (rs := [12]) (by kernel_rfl) (by simp) ?_
        refine AllReadyL.cons (o := { dst := none, op := Op.store 50 (Operand.tmp 44) (Operand.tmp 42), type := 0, pos := "ref.go:61", after := #[{ on := 11, ground := Ground.data }, { on := 9, ground := Ground.data }, { on := 9, ground := Ground.chain }, { on := 0, ground := Ground.phase }, { on := 1, ground := Ground.phase }, { on := 2, ground := Ground.phase }, { on := 3, ground := Ground.phase }, { on := 4, ground := Ground.phase }, { on := 5, ground := Ground.phase }, { on := 6, ground := Ground.phase }, { on := 7, ground := Ground.phase }, { on := 8, ground := Ground.phase }, { on := 9, ground := Ground.phase }], guard := none }) rfl (fun K hK => ?_) AllReadyL.nil
        have hrow12 := row_later HROW2.out (below_drew h9.out) hg2
        have c12 := cell_row hrow12 1 (.slice pw m cw) rfl
        have z12 := frozen_row hrow12 1
        have HR12 := Lib.hid hrow12
        clear hrow12
        go_simp
        refine hK.out _ _ (Or.inl rfl) (fun hHeld => ?_)
        clear hK K c12 z12
        try simp only [Act.put, List.setIfInBounds_toArray, List.set_cons_zero, List.set_cons_succ]
        refine wpAnyL_done (by kernel_rfl) ?_ _
        go_wp2_with fail
        go_meet
        case rel => exact HFIN7 _ _ _ o9.out h9.out HR12.out
      · refine step_one elem_wrs (by decide) (by rfl) (.tmp 40) rfl (Wr.c ⟨i, s, k, id, st.ep⟩) rfl (Wr.c_len HS.out) ?_
        intro b8 v7 hv8 hr7 hb7
        have h7 := below_trans h1 hb7
        have r7 := Lib.hid hr7
        clear hr7
        refine hK.out _ _ (Or.inr h7) (fun hHeld => ?_)
        clear hK K
        try simp only [Act.put, List.setIfInBounds_toArray, List.set_cons_zero, List.set_cons_succ]
        -- 6
        refine wpAnyL_ready (rs := [6]) (by kernel_rfl) (by simp) ?_
        refine AllReadyL.cons (o := { dst := some 39, op := Op.call { callee := Callee.builtin Builtin.append, args := #[Operand.tmp 34, Operand.tmp 38], argTypes := #[50, 50] }, type := 50, pos := "ref.go:61", after := #[{ on := 1, ground := Ground.data }, { on := 5, ground := Ground.data }], guard := none }) rfl (fun K hK => ?_) AllReadyL.nil
        refine step_ap2 elem_wrs (by rfl) (.tmp 34) (.tmp 38) rfl w2.heap.size (.slice (some ⟨b1, 0, none⟩) 0 0) 0 [] rfl (by first | exact o1.out | exact own_later o1.out (by assumption)) _ m _ rfl (HWT2.out.later (below_drew h7)) HWO.out (by omega) (h7).size ?_
        intro p6 c6 v8 ho8 hb8 ht6
        have h8 := (h7).trans hb8
        have o8 := Lib.hid ho8
        clear ho8
        refine hK.out _ _ (Or.inr h8) (fun hHeld => ?_)
        clear hK K
        try simp only [Act.put, List.setIfInBounds_toArray, List.set_cons_zero, List.set_cons_succ]
        -- 9
        refine wpAnyL_ready (rs := [9]) (by kernel_rfl) (by simp) ?_
        refine AllReadyL.cons (o := { dst := some 42, op := Op.call { callee := Callee.builtin Builtin.append, args := #[Operand.tmp 39, Operand.tmp 41], argTypes := #[50, 50] }, type := 50, pos := "ref.go:61", after := #[{ on := 6, ground := Ground.data }, { on := 8, ground := Ground.data }, { on := 6, ground := Ground.chain }], guard := none }) rfl (fun K hK => ?_) AllReadyL.nil
        refine step_ap2 elem_wrs (by rfl) (.tmp 39) (.tmp 41) rfl w2.heap.size _ (0 + m) _ rfl (by first | exact o8.out | exact own_later o8.out (by assumption)) _ 1 _ rfl (by first | exact r7.out | exact Rd.apart r7.out ht6 (fun e => by have e2 : some b1 = some b8 := e; have e3 := Option.some.inj e2; omega) | exact Rd.apart (r7.out.later (by assumption)) ht6 (fun e => by have e2 : some b1 = some b8 := e; have e3 := Option.some.inj e2; omega)) (wr_ones _) (by omega) (h8).size ?_
        intro pq cq v9 ho9 hb9 ht9
        have h9 := (h8).trans hb9
        have o9 := Lib.hid ho9
        have h9 := Lib.hid h9
        clear ho9
        refine hK.out _ _ (Or.inr h9) (fun hHeld => ?_)
        clear hK K
        try simp only [Act.put, List.setIfInBounds_toArray, List.set_cons_zero, List.set_cons_succ]
        -- 10
        refine wpAnyL_ready (rs := [10]) (by kernel_rfl) (by simp) ?_
        refine AllReadyL.cons (o := { dst := some 43, op := Op.nilCheck (Operand.tmp 33), type := 0, pos := "ref.go:61", after := #[{ on := 0, ground := Ground.data }, { on := 0, ground := Ground.phase }, { on := 1, ground := Ground.phase }, { on := 2, ground := Ground.phase }, { on := 3, ground := Ground.phase }, { on := 4, ground := Ground.phase }, { on := 5, ground := Ground.phase }, { on := 6, ground := Ground.phase }, { on := 7, ground := Ground.phase }, { on := 8, ground := Ground.phase }, { on := 9, ground := Ground.phase }], guard := none }) rfl (fun K hK => ?_) AllReadyL.nil
        go_simp
        refine hK.out _ _ (Or.inr (by assumption)) (fun hHeld => ?_)
        clear hK K
        try simp only [Act.put, List.setIfInBounds_toArray, List.set_cons_zero, List.set_cons_succ]
        refine wpAnyL_take (i := 11) (oi := { dst := some 44, op := Op.fieldAddr 53 (Operand.tmp 43) 1, type := 0, pos := "ref.go:61", after := #[{ on := 10, ground := Ground.data }, { on := 0, ground := Ground.phase }, { on := 1, ground := Ground.phase }, { on := 2, ground := Ground.phase }, { on := 3, ground := Ground.phase }, { on := 4, ground := Ground.phase }, { on := 5, ground := Ground.phase }, { on := 6, ground := Ground.phase }, { on := 7, ground := Ground.phase }, { on := 8, ground := Ground.phase }, { on := 9, ground := Ground.phase }], guard := none }) (v := ?_) rfl (by kernel_rfl) (by kernel_rfl) (by kernel_rfl) (by kernel_rfl) (fun _ _ _ h => h) (Or.inl ⟨by rfl, ?_⟩) (by assumption) ?_
        rotate_left
        · (intro w' hSw; go_simp; try with_reducible rfl)
        try simp only [Act.put, List.setIfInBounds_toArray, List.set_cons_zero, List.set_cons_succ]
        -- 12
        refine wpAnyL_ready (rs := [12]) (by kernel_rfl) (by simp) ?_
        refine AllReadyL.cons (o := { dst := none, op := Op.store 50 (Operand.tmp 44) (Operand.tmp 42), type := 0, pos := "ref.go:61", after := #[{ on := 11, ground := Ground.data }, { on := 9, ground := Ground.data }, { on := 9, ground := Ground.chain }, { on := 0, ground := Ground.phase }, { on := 1, ground := Ground.phase }, { on := 2, ground := Ground.phase }, { on := 3, ground := Ground.phase }, { on := 4, ground := Ground.phase }, { on := 5, ground := Ground.phase }, { on := 6, ground := Ground.phase }, { on := 7, ground := Ground.phase }, { on := 8, ground := Ground.phase }, { on := 9, ground := Ground.phase }], guard := none }) rfl (fun K hK => ?_) AllReadyL.nil
        have hrow12 := row_later HROW2.out (below_drew h9.out) hg2
        have c12 := cell_row hrow12 1 (.slice pw m cw) rfl
        have z12 := frozen_row hrow12 1
        have HR12 := Lib.hid hrow12
        clear hrow12
        go_simp
        refine hK.out _ _ (Or.inl rfl) (fun hHeld => ?_)
        clear hK K c12 z12
        try simp only [Act.put, List.setIfInBounds_toArray, List.set_cons_zero, List.set_cons_succ]
        refine wpAnyL_done (by kernel_rfl) ?_ _
        go_wp2_with fail
        go_meet
        case rel => exact HFIN7 _ _ _ o9.out h9.out HR12.out
    · refine step_one elem_wrs (by decide) (by rfl) (.tmp 40) rfl (Wr.c ⟨i, s, k, id, st.ep⟩) rfl (Wr.c_len HS.out) ?_
      intro b8 v12 hv8 hr12 hb12
      have h12 := below_trans h0 hb12
      have r12 := Lib.hid hr12
      clear hr12
      refine hK.out _ _ (Or.inr h12) (fun hHeld => ?_)
      clear hK K
      try simp only [Act.put, List.setIfInBounds_toArray, List.set_cons_zero, List.set_cons_succ]
      -- 1
      refine wpAnyL_ready (rs := [1]) (by kernel_rfl) (by simp) ?_
      refine AllReadyL.cons (o := { dst := some 34, op := Op.buildSlice 50 0 #[], type := 50, pos := "ref.go:61", after := #[], guard := none }) rfl (fun K hK => ?_) AllReadyL.nil
      refine step_made elem_wrs w2.heap.size (by rfl) rfl (h12).size ?_
      intro b1 v13 hv1 ho13 hb13
      have h13 := below_trans h12 hb13
      have o13 := Lib.hid ho13
      clear ho13
      refine hK.out _ _ (Or.inr h13) (fun hHeld => ?_)
      clear hK K
      try simp only [Act.put, List.setIfInBounds_toArray, List.set_cons_zero, List.set_cons_succ]
      -- 6
      refine wpAnyL_ready (rs := [6]) (by kernel_rfl) (by simp) ?_
      refine AllReadyL.cons (o := { dst := some 39, op := Op.call { callee := Callee.builtin Builtin.append, args := #[Operand.tmp 34, Operand.tmp 38], argTypes := #[50, 50] }, type := 50, pos := "ref.go:61", after := #[{ on := 1, ground := Ground.data }, { on := 5, ground := Ground.data }], guard := none }) rfl (fun K hK => ?_) AllReadyL.nil
      refine step_ap2 elem_wrs (by rfl) (.tmp 34) (.tmp 38) rfl w2.heap.size (.slice (some ⟨b1, 0, none⟩) 0 0) 0 [] rfl (by first | exact o13.out | exact own_later o13.out (by assumption)) _ m _ rfl (HWT2.out.later (below_drew h13)) HWO.out (by omega) (h13).size ?_
      intro p6 c6 v14 ho14 hb14 ht6
      have h14 := (h13).trans hb14
      have o14 := Lib.hid ho14
      clear ho14
      refine hK.out _ _ (Or.inr h14) (fun hHeld => ?_)
      clear hK K
      try simp only [Act.put, List.setIfInBounds_toArray, List.set_cons_zero, List.set_cons_succ]
      -- 9
      refine wpAnyL_ready (rs := [9]) (by kernel_rfl) (by simp) ?_
      refine AllReadyL.cons (o := { dst := some 42, op := Op.call { callee := Callee.builtin Builtin.append, args := #[Operand.tmp 39, Operand.tmp 41], argTypes := #[50, 50] }, type := 50, pos := "ref.go:61", after := #[{ on := 6, ground := Ground.data }, { on := 8, ground := Ground.data }, { on := 6, ground := Ground.chain }], guard := none }) rfl (fun K hK => ?_) AllReadyL.nil
      refine step_ap2 elem_wrs (by rfl) (.tmp 39) (.tmp 41) rfl w2.heap.size _ (0 + m) _ rfl (by first | exact o14.out | exact own_later o14.out (by assumption)) _ 1 _ rfl (by first | exact r12.out | exact Rd.apart r12.out ht6 (fun e => by have e2 : some b1 = some b8 := e; have e3 := Option.some.inj e2; omega) | exact Rd.apart (r12.out.later (by assumption)) ht6 (fun e => by have e2 : some b1 = some b8 := e; have e3 := Option.some.inj e2; omega)) (wr_ones _) (by omega) (h14).size ?_
      intro pq cq v9 ho15 hb15 ht9
      have h15 := (h14).trans hb15
      have o9 := Lib.hid ho15
      have h9 := Lib.hid h15
      clear ho15
      refine hK.out _ _ (Or.inr h15) (fun hHeld => ?_)
      clear hK K
      try simp only [Act.put, List.setIfInBounds_toArray, List.set_cons_zero, List.set_cons_succ]
      -- 10
      refine wpAnyL_ready (rs := [10]) (by kernel_rfl) (by simp) ?_
      refine AllReadyL.cons (o := { dst := some 43, op := Op.nilCheck (Operand.tmp 33), type := 0, pos := "ref.go:61", after := #[{ on := 0, ground := Ground.data }, { on := 0, ground := Ground.phase }, { on := 1, ground := Ground.phase }, { on := 2, ground := Ground.phase }, { on := 3, ground := Ground.phase }, { on := 4, ground := Ground.phase }, { on := 5, ground := Ground.phase }, { on := 6, ground := Ground.phase }, { on := 7, ground := Ground.phase }, { on := 8, ground := Ground.phase }, { on := 9, ground := Ground.phase }], guard := none }) rfl (fun K hK => ?_) AllReadyL.nil
      go_simp
      refine hK.out _ _ (Or.inr (by assumption)) (fun hHeld => ?_)
      clear hK K
      try simp only [Act.put, List.setIfInBounds_toArray, List.set_cons_zero, List.set_cons_succ]
      refine wpAnyL_take (i := 11) (oi := { dst := some 44, op := Op.fieldAddr 53 (Operand.tmp 43) 1, type := 0, pos := "ref.go:61", after := #[{ on := 10, ground := Ground.data }, { on := 0, ground := Ground.phase }, { on := 1, ground := Ground.phase }, { on := 2, ground := Ground.phase }, { on := 3, ground := Ground.phase }, { on := 4, ground := Ground.phase }, { on := 5, ground := Ground.phase }, { on := 6, ground := Ground.phase }, { on := 7, ground := Ground.phase }, { on := 8, ground := Ground.phase }, { on := 9, ground := Ground.phase }], guard := none }) (v := ?_) rfl (by kernel_rfl) (by kernel_rfl) (by kernel_rfl) (by kernel_rfl) (fun _ _ _ h => h) (Or.inl ⟨by rfl, ?_⟩) (by assumption) ?_
      rotate_left
      · (intro w' hSw; go_simp; try with_reducible rfl)
      try simp only [Act.put, List.setIfInBounds_toArray, List.set_cons_zero, List.set_cons_succ]
      -- 12
      refine wpAnyL_ready (rs := [12]) (by kernel_rfl) (by simp) ?_
      refine AllReadyL.cons (o := { dst := none, op := Op.store 50 (Operand.tmp 44) (Operand.tmp 42), type := 0, pos := "ref.go:61", after := #[{ on := 11, ground := Ground.data }, { on := 9, ground := Ground.data }, { on := 9, ground := Ground.chain }, { on := 0, ground := Ground.phase }, { on := 1, ground := Ground.phase }, { on := 2, ground := Ground.phase }, { on := 3, ground := Ground.phase }, { on := 4, ground := Ground.phase }, { on := 5, ground := Ground.phase }, { on := 6, ground := Ground.phase }, { on := 7, ground := Ground.phase }, { on := 8, ground := Ground.phase }, { on := 9, ground := Ground.phase }], guard := none }) rfl (fun K hK => ?_) AllReadyL.nil
      have hrow12 := row_later HROW2.out (below_drew h9.out) hg2
      have c12 := cell_row hrow12 1 (.slice pw m cw) rfl
      have z12 := frozen_row hrow12 1
      have HR12 := Lib.hid hrow12
      clear hrow12
      go_simp
      refine hK.out _ _ (Or.inl rfl) (fun hHeld => ?_)
      clear hK K c12 z12
      try simp only [Act.put, List.setIfInBounds_toArray, List.set_cons_zero, List.set_cons_succ]
      refine wpAnyL_done (by kernel_rfl) ?_ _
      go_wp2_with fail
      go_meet
      case rel => exact HFIN7 _ _ _ o9.out h9.out HR12.out
  case rest =>
    obtain ⟨pq, cq, hrq, hoq, htq⟩ := hcut
    clear HFIN7 HWO HWT2 C1 HROW2
    have hT1 : Touch (· = g) W wc := (HT.out.trans (Touch.of_below hb2')).trans htq
    have hgc : g < wc.heap.size := (Array.getElem?_eq_some_iff.1 hrq).1
    have HRC := Lib.hid hrq
    have HXC : Hid (AtW wc gx (⟨i, s, k, id, st.ep⟩ : Wr)) := Lib.hid (row_touch HX2.out htq hgxg)
    have hgxc : gx < wc.heap.size := (Array.getElem?_eq_some_iff.1 HXC.out).1
    have C3 : Hid (wc.cell? ⟨g, 3, none⟩ = some (.slice pl l cl)) := Lib.hid (cell_row hrq 3 _ rfl)
    have HEC := Lib.hid (evs_kept HE.out (S' := fun b => S b ∧ b ≠ g) (Keeps.trans (Keeps.of_below HBW.out) (hT1.keeps fun b hb => hb.2)) fun b hb => hb)
    have HLT2 := Lib.hid HEC.out.cells
    have HLO := Lib.hid (evs_ones HE.out)
    have HEO := Lib.hid (evC_ones (1, (⟨i, s, k, id, st.ep⟩ : Wr), []) (.slice none 0 0) rfl)
    obtain ⟨cl', hcl'⟩ : ∃ c, ((st.log.zip es).map fun x => evC x.1 x.2).flatten = c := ⟨_, rfl⟩
    rw [hcl'] at HLT2 HLO
    have HCL := Lib.hid hcl'
    have HOQ := Lib.hid hoq
    have HT1 := Lib.hid hT1
    have HTQ := Lib.hid htq
    clear hrq hcl' hoq hT1 htq
    have HFIN8 : ∀ (pq2 : Option Addr) (cq2 : Nat) (v10 : World), Own v10 wc.heap.size 79 38 (.slice pq2 (0 + l + 1) cq2) (0 + l + 1) ([] ++ cl' ++ evC (1, (⟨i, s, k, id, st.ep⟩ : Wr), []) (.slice none 0 0)) → Below wc.drew.heap.size wc.drew v10 →
        v10.heap[g]? = some (.cells #[.slice ps n cs, .slice pq (m + 1) cq, .int .i64 st.ep, .slice pl l cl, vb, .int .i64 (st.asked + 1)] 53 (0, 0)) → RefDone S g w (0, { st with asked := st.asked + 1, wait := st.wait ++ [⟨i, s, k, id, st.ep⟩], log := st.log ++ [(1, ⟨i, s, k, id, st.ep⟩, [])] }) (.returned (.int .i64 0)) (v10.setCell ⟨g, 3, none⟩ (.slice pq2 (l + 1) cq2)) := fun pq2 cq2 v10 ho hb hr => by
      rw [Nat.zero_add, List.nil_append, ← HCL.out] at ho
      have hb' := below_drew hb
      have hTW : Touch (· = g) W (v10.setCell ⟨g, 3, none⟩ (.slice pq2 (l + 1) cq2)) := Touch.setCell (S := (· = g)) (HT1.out.trans (Touch.of_below hb')) ⟨g, 3, none⟩ rfl _
      have hT : Touch (· = g) w (v10.setCell ⟨g, 3, none⟩ (.slice pq2 (l + 1) cq2)) := (Touch.of_below HBW.out).trans hTW
      have hsz := size_set v10 ⟨g, 3, none⟩ (.slice pq2 (l + 1) cq2)
      have hgr : ∀ b, grow S W (v10.setCell ⟨g, 3, none⟩ (.slice pq2 (l + 1) cq2)) b ∧ b ≠ g → grow S w (v10.setCell ⟨g, 3, none⟩ (.slice pq2 (l + 1) cq2)) b ∧ b ≠ g := fun b hb => ⟨by
        rcases hb.1 with h | h
        · exact Or.inl h
        · exact Or.inr ⟨by have := HBW.out.size; omega, h.2⟩, hb.2⟩
      have hwW := HBW.out.size
      have hWc := HT1.out.size
      have hcv := hb'.size
      have hw2 := HTQ.out.size
      have hw12 := hb2'.size
      have hWw1 := HT.out.size
      have hio := own_inS ho
      have hiq := own_inS HOQ.out
      have hn1 := HN.out
      have hm1 := HM.out
      have hl1 := HL.out
      refine ⟨rfl, ⟨_, _, _, _, setCell_heap hr _, Or.inl HA.out.own, (HA.out.keepSafe hTW).1, (HA.out.keepSafe hTW).2.mono hgr, ?_, ?_, ⟨es ++ [.slice none 0 0], ?_⟩, (HA.out.keepBad hTW).1, (HA.out.keepBad hTW).2.mono hgr⟩, hT⟩
      · show Rd _ 36 _ (st.wait ++ [(⟨i, s, k, id, st.ep⟩ : Wr)]).length (wrsC (st.wait ++ [(⟨i, s, k, id, st.ep⟩ : Wr)]))
        have e1 : (st.wait ++ [(⟨i, s, k, id, st.ep⟩ : Wr)]).length = m + 1 := by simp [hm1]
        have e2 : wrsC (st.wait ++ [(⟨i, s, k, id, st.ep⟩ : Wr)]) = wrsC st.wait ++ Wr.c (⟨i, s, k, id, st.ep⟩ : Wr) := by simp [wrsC]
        rw [e1, e2]
        exact Rd.set (HOQ.out.rd.later hb') (hiq.mono fun b hb => by have := hb.1; omega)
      · exact hiq.mono fun b hb => ⟨Or.inr ⟨by have := hb.1; omega, by rw [hsz]; have := hb.2; omega⟩, by have := hb.1; omega⟩
      · show EvsIn _ _ _ (st.log ++ [(1, (⟨i, s, k, id, st.ep⟩ : Wr), [])]) (st.log ++ [(1, (⟨i, s, k, id, st.ep⟩ : Wr), [])]).length _
        have e1 : (st.log ++ [(1, (⟨i, s, k, id, st.ep⟩ : Wr), [])]).length = l + 1 := by simp [hl1]
        rw [e1]
        exact evs_more HE.out hl1.symm (hT.keeps fun b hb => hb.2) (fun b hb => ⟨Or.inl hb.1, hb.2⟩) (Rd.set ho.rd (hio.mono fun b hb => by have := hb.1; omega)) (hio.mono fun b hb => ⟨Or.inr ⟨by have := hb.1; omega, by rw [hsz]; exact hb.2⟩, by have := hb.1; omega⟩) ⟨none, 0, rfl, rd_nil _ 2, inS_nil _⟩
    go_wp2_with fail
    have h0 := Below.refl wc.drew.heap.size wc.drew
    refine wp_region_last (S := ext wc.drew) 13 (by kernel_rfl) (Below.refl _ _) (fun hH0 => ?_)
    refine wpAnyL_take (i := 0) (oi := { dst := some 45, op := Op.move (Operand.tmp 0), type := 30, pos := "ref.go:62", after := #[], guard := none }) (v := ?_) rfl (by kernel_rfl) (by kernel_rfl) (by kernel_rfl) (by kernel_rfl) (fun _ _ _ h => h) (Or.inl ⟨by rfl, ?_⟩) (by assumption) ?_
    rotate_left
    · (intro w' hSw; go_simp; try with_reducible rfl)
    try simp only [Act.put, List.setIfInBounds_toArray, List.set_cons_zero, List.set_cons_succ]
    refine wpAnyL_take (i := 2) (oi := { dst := some 47, op := Op.move (Operand.tmp 0), type := 30, pos := "ref.go:62", after := #[], guard := none }) (v := ?_) rfl (by kernel_rfl) (by kernel_rfl) (by kernel_rfl) (by kernel_rfl) (fun _ _ _ h => h) (Or.inl ⟨by rfl, ?_⟩) (by assumption) ?_
    rotate_left
    · (intro w' hSw; go_simp; try with_reducible rfl)
    try simp only [Act.put, List.setIfInBounds_toArray, List.set_cons_zero, List.set_cons_succ]
    refine wpAnyL_take (i := 3) (oi := { dst := some 48, op := Op.nilCheck (Operand.tmp 47), type := 0, pos := "ref.go:62", after := #[{ on := 2, ground := Ground.data }], guard := none }) (v := ?_) rfl (by kernel_rfl) (by kernel_rfl) (by kernel_rfl) (by kernel_rfl) (fun _ _ _ h => h) (Or.inl ⟨by rfl, ?_⟩) (by assumption) ?_
    rotate_left
    · (intro w' hSw; go_simp; try with_reducible rfl)
    try simp only [Act.put, List.setIfInBounds_toArray, List.set_cons_zero, List.set_cons_succ]
    refine wpAnyL_take (i := 4) (oi := { dst := some 49, op := Op.fieldAddr 53 (Operand.tmp 48) 3, type := 0, pos := "ref.go:62", after := #[{ on := 3, ground := Ground.data }], guard := none }) (v := ?_) rfl (by kernel_rfl) (by kernel_rfl) (by kernel_rfl) (by kernel_rfl) (fun _ _ _ h => h) (Or.inl ⟨by rfl, ?_⟩) (by assumption) ?_
    rotate_left
    · (intro w' hSw; go_simp; try with_reducible rfl)
    try simp only [Act.put, List.setIfInBounds_toArray, List.set_cons_zero, List.set_cons_succ]
    refine' wpAnyL_take (i := 5) (oi := { dst := some 50, op := Op.load 51 (Operand.tmp 49), type := 51, pos := "ref.go:62", after := #[{ on := 4, ground := Ground.data }], guard := none }) (v := _) rfl (by kernel_rfl) (by kernel_rfl) (by kernel_rfl) (by kernel_rfl) (fun _ _ _ h => h) (ld_cell (by rfl) 51 _ und_evsl rfl _ rfl g 3 rfl (.slice pl l cl) (fun w' hw => ((below_drew hw).cell (p := ⟨g, 3, none⟩) hgc).trans C3.out)) (by assumption) ?_
    try simp only [Act.put, List.setIfInBounds_toArray, List.set_cons_zero, List.set_cons_succ]
    refine' wpAnyL_take (i := 7) (oi := { dst := some 52, op := Op.load 74 (Operand.tmp 10), type := 74, pos := "ref.go:62", after := #[], guard := none }) (v := _) rfl (by kernel_rfl) (by kernel_rfl) (by kernel_rfl) (by kernel_rfl) (fun _ _ _ h => h) (ld_wr (by rfl) _ rfl gx 0 rfl (⟨i, s, k, id, st.ep⟩ : Wr) HS.out (fun w' hw => AtW.range (row_later HXC.out (below_drew hw) hgxc))) (by assumption) ?_
    try simp only [Act.put, List.setIfInBounds_toArray, List.set_cons_zero, List.set_cons_succ]
    refine' wpAnyL_take (i := 8) (oi := { dst := some 53, op := Op.build 79 #[(0, Operand.const (Value.int IntKind.i64 1)), (1, Operand.tmp 52)], type := 79, pos := "ref.go:62", after := #[{ on := 7, ground := Ground.data }], guard := none }) (v := _) rfl (by kernel_rfl) (by kernel_rfl) (by kernel_rfl) (by kernel_rfl) (fun _ _ _ h => h) (build_yields (by rfl) 79 _ rfl [(0, .int .i64 1), (1, .agg (Wr.c ⟨i, s, k, id, st.ep⟩).toArray)] rfl _ (built_evw ⟨i, s, k, id, st.ep⟩ HS.out)) (by assumption) ?_
    try simp only [Act.put, List.setIfInBounds_toArray, List.set_cons_zero, List.set_cons_succ]
    -- 1, 9
    refine wpAnyL_ready (rs := [1, 9]) (by kernel_rfl) (by simp) ?_
    refine AllReadyL.cons (o := { dst := some 46, op := Op.buildSlice 51 0 #[], type := 51, pos := "ref.go:62", after := #[], guard := none }) rfl (fun K hK => ?_) (AllReadyL.cons (o := { dst := some 54, op := Op.buildSlice 51 1 #[(0, Operand.tmp 53)], type := 51, pos := "ref.go:62", after := #[{ on := 8, ground := Ground.data }], guard := none }) rfl (fun K hK => ?_) AllReadyL.nil)
    · refine step_made elem_evs wc.heap.size (by rfl) rfl (h0).size ?_
      intro b1 v1 hv1 ho1 hb1
      have h1 := below_trans h0 hb1
      have o1 := Lib.hid ho1
      clear ho1
      refine hK.out _ _ (Or.inr h1) (fun hHeld => ?_)
      clear hK K
      try simp only [Act.put, List.setIfInBounds_toArray, List.set_cons_zero, List.set_cons_succ]
      -- 6, 9
      refine wpAnyL_ready (rs := [6, 9]) (by kernel_rfl) (by simp) ?_
      refine AllReadyL.cons (o := { dst := some 51, op := Op.call { callee := Callee.builtin Builtin.append, args := #[Operand.tmp 46, Operand.tmp 50], argTypes := #[51, 51] }, type := 51, pos := "ref.go:62", after := #[{ on := 1, ground := Ground.data }, { on := 5, ground := Ground.data }], guard := none }) rfl (fun K hK => ?_) (AllReadyL.cons (o := { dst := some 54, op := Op.buildSlice 51 1 #[(0, Operand.tmp 53)], type := 51, pos := "ref.go:62", after := #[{ on := 8, ground := Ground.data }], guard := none }) rfl (fun K hK => ?_) AllReadyL.nil)
      · refine step_ap2 elem_evs (by rfl) (.tmp 46) (.tmp 50) rfl wc.heap.size (.slice (some ⟨b1, 0, none⟩) 0 0) 0 [] rfl (by first | exact o1.out | exact own_later o1.out (by assumption)) _ l _ rfl (HLT2.out.later (below_drew h1)) HLO.out (by omega) (h1).size ?_
        intro p6 c6 v2 ho2 hb2 ht6
        have h2 := (h1).trans hb2
        have o2 := Lib.hid ho2
        clear ho2
        refine hK.out _ _ (Or.inr h2) (fun hHeld => ?_)
        clear hK K
        try simp only [Act.put, List.setIfInBounds_toArray, List.set_cons_zero, List.set_cons_succ]
        -- 9
        refine wpAnyL_ready (rs := [9]) (by kernel_rfl) (by simp) ?_
        refine AllReadyL.cons (o := { dst := some 54, op := Op.buildSlice 51 1 #[(0, Operand.tmp 53)], type := 51, pos := "ref.go:62", after := #[{ on := 8, ground := Ground.data }], guard := none }) rfl (fun K hK => ?_) AllReadyL.nil
        refine step_one elem_evs (by decide) (by rfl) (.tmp 53) rfl (evC (1, (⟨i, s, k, id, st.ep⟩ : Wr), []) (.slice none 0 0)) rfl (evC_len HS.out) ?_
        intro b9 v3 hv9 hr3 hb3
        have h3 := below_trans h2 hb3
        have r3 := Lib.hid hr3
        clear hr3
        refine hK.out _ _ (Or.inr h3) (fun hHeld => ?_)
        clear hK K
        try simp only [Act.put, List.setIfInBounds_toArray, List.set_cons_zero, List.set_cons_succ]
        -- 10
        refine wpAnyL_ready (rs := [10]) (by kernel_rfl) (by simp) ?_
        refine AllReadyL.cons (o := { dst := some 55, op := Op.call { callee := Callee.builtin Builtin.append, args := #[Operand.tmp 51, Operand.tmp 54], argTypes := #[51, 51] }, type := 51, pos := "ref.go:62", after := #[{ on := 6, ground := Ground.data }, { on := 9, ground := Ground.data }, { on := 6, ground := Ground.chain }], guard := none }) rfl (fun K hK => ?_) AllReadyL.nil
        refine step_ap2 elem_evs (by rfl) (.tmp 51) (.tmp 54) rfl wc.heap.size _ (0 + l) _ rfl (by first | exact o2.out | exact own_later o2.out (by assumption)) _ 1 _ rfl (by first | exact r3.out | exact Rd.apart r3.out ht6 (fun e => by have e2 : some b1 = some b9 := e; have e3 := Option.some.inj e2; omega) | exact Rd.apart (r3.out.later (by assumption)) ht6 (fun e => by have e2 : some b1 = some b9 := e; have e3 := Option.some.inj e2; omega)) HEO.out (by omega) (h3).size ?_
        intro pq2 cq2 v10 ho4 hb4 ht10
        have h4 := (h3).trans hb4
        have o10 := Lib.hid ho4
        have h10 := Lib.hid h4
        clear ho4
        refine hK.out _ _ (Or.inr h4) (fun hHeld => ?_)
        clear hK K
        try simp only [Act.put, List.setIfInBounds_toArray, List.set_cons_zero, List.set_cons_succ]
        -- 11
        refine wpAnyL_ready (rs := [11]) (by kernel_rfl) (by simp) ?_
        refine AllReadyL.cons (o := { dst := some 56, op := Op.nilCheck (Operand.tmp 45), type := 0, pos := "ref.go:62", after := #[{ on := 0, ground := Ground.data }, { on := 0, ground := Ground.phase }, { on := 1, ground := Ground.phase }, { on := 2, ground := Ground.phase }, { on := 3, ground := Ground.phase }, { on := 4, ground := Ground.phase }, { on := 5, ground := Ground.phase }, { on := 6, ground := Ground.phase }, { on := 7, ground := Ground.phase }, { on := 8, ground := Ground.phase }, { on := 9, ground := Ground.phase }, { on := 10, ground := Ground.phase }], guard := none }) rfl (fun K hK => ?_) AllReadyL.nil
        go_simp
        refine hK.out _ _ (Or.inr (by assumption)) (fun hHeld => ?_)
        clear hK K
        try simp only [Act.put, List.setIfInBounds_toArray, List.set_cons_zero, List.set_cons_succ]
        refine wpAnyL_take (i := 12) (oi := { dst := some 57, op := Op.fieldAddr 53 (Operand.tmp 56) 3, type := 0, pos := "ref.go:62", after := #[{ on := 11, ground := Ground.data }, { on := 0, ground := Ground.phase }, { on := 1, ground := Ground.phase }, { on := 2, ground := Ground.phase }, { on := 3, ground := Ground.phase }, { on := 4, ground := Ground.phase }, { on := 5, ground := Ground.phase }, { on := 6, ground := Ground.phase }, { on := 7, ground := Ground.phase }, { on := 8, ground := Ground.phase }, { on := 9, ground := Ground.phase }, { on := 10, ground := Ground.phase }], guard := none }) (v := ?_) rfl (by kernel_rfl) (by kernel_rfl) (by kernel_rfl) (by kernel_rfl) (fun _ _ _ h => h) (Or.inl ⟨by rfl, ?_⟩) (by assumption) ?_
        rotate_left
        · (intro w' hSw; go_simp; try with_reducible rfl)
        try simp only [Act.put, List.setIfInBounds_toArray, List.set_cons_zero, List.set_cons_succ]
        -- 13
        refine wpAnyL_ready (rs := [13]) (by kernel_rfl) (by simp) ?_
        refine AllReadyL.cons (o := { dst := none, op := Op.store 51 (Operand.tmp 57) (Operand.tmp 55), type := 0, pos := "ref.go:62", after := #[{ on := 12, ground := Ground.data }, { on := 10, ground := Ground.data }, { on := 10, ground := Ground.chain }, { on := 0, ground := Ground.phase }, { on := 1, ground := Ground.phase }, { on := 2, ground := Ground.phase }, { on := 3, ground := Ground.phase }, { on := 4, ground := Ground.phase }, { on := 5, ground := Ground.phase }, { on := 6, ground := Ground.phase }, { on := 7, ground := Ground.phase }, { on := 8, ground := Ground.phase }, { on := 9, ground := Ground.phase }, { on := 10, ground := Ground.phase }], guard := none }) rfl (fun K hK => ?_) AllReadyL.nil
        have hrow13 := row_later HRC.out (below_drew h10.out) hgc
        have c13 := cell_row hrow13 3 (.slice pl l cl) rfl
        have z13 := frozen_row hrow13 3
        have HR13 := Lib.hid hrow13
        clear hrow13
        go_simp
        refine hK.out _ _ (Or.inl rfl) (fun hHeld => ?_)
        clear hK K c13 z13
        try simp only [Act.put, List.setIfInBounds_toArray, List.set_cons_zero, List.set_cons_succ]
        refine wpAnyL_done (by kernel_rfl) ?_ _
        go_wp2_with fail
        have hfin := HFIN8 _ _ _ o10.out h10.out HR13.out
        go_ret
        exact hfin
      · refine step_one elem_evs (by decide) (by rfl) (.tmp 53) rfl (evC (1, (⟨i, s, k, id, st.ep⟩ : Wr), []) (.slice none 0 0)) rfl (evC_len HS.out) ?_
        intro b9 v7 hv9 hr7 hb7
        have h7 := below_trans h1 hb7
        have r7 := Lib.hid hr7
        clear hr7
        refine hK.out _ _ (Or.inr h7) (fun hHeld => ?_)
        clear hK K
        try simp only [Act.put, List.setIfInBounds_toArray, List.set_cons_zero, List.set_cons_succ]
        -- 6
        refine wpAnyL_ready (rs := [6]) (by kernel_rfl) (by simp) ?_
        refine AllReadyL.cons (o := { dst := some 51, op := Op.call { callee := Callee.builtin Builtin.append, args := #[Operand.tmp 46, Operand.tmp 50], argTypes := #[51, 51] }, type := 51, pos := "ref.go:62", after := #[{ on := 1, ground := Ground.data }, { on := 5, ground := Ground.data }], guard := none }) rfl (fun K hK => ?_) AllReadyL.nil
        refine step_ap2 elem_evs (by rfl) (.tmp 46) (.tmp 50) rfl wc.heap.size (.slice (some ⟨b1, 0, none⟩) 0 0) 0 [] rfl (by first | exact o1.out | exact own_later o1.out (by assumption)) _ l _ rfl (HLT2.out.later (below_drew h7)) HLO.out (by omega) (h7).size ?_
        intro p6 c6 v8 ho8 hb8 ht6
        have h8 := (h7).trans hb8
        have o8 := Lib.hid ho8
        clear ho8
        refine hK.out _ _ (Or.inr h8) (fun hHeld => ?_)
        clear hK K
        try simp only [Act.put, List.setIfInBounds_toArray, List.set_cons_zero, List.set_cons_succ]
        -- 10
        refine wpAnyL_ready (rs := [10]) (by kernel_rfl) (by simp) ?_
        refine AllReadyL.cons (o := { dst := some 55, op := Op.call { callee := Callee.builtin Builtin.append, args := #[Operand.tmp 51, Operand.tmp 54], argTypes := #[51, 51] }, type := 51, pos := "ref.go:62", after := #[{ on := 6, ground := Ground.data }, { on := 9, ground := Ground.data }, { on := 6, ground := Ground.chain }], guard := none }) rfl (fun K hK => ?_) AllReadyL.nil
        refine step_ap2 elem_evs (by rfl) (.tmp 51) (.tmp 54) rfl wc.heap.size _ (0 + l) _ rfl (by first | exact o8.out | exact own_later o8.out (by assumption)) _ 1 _ rfl (by first | exact r7.out | exact Rd.apart r7.out ht6 (fun e => by have e2 : some b1 = some b9 := e; have e3 := Option.some.inj e2; omega) | exact Rd.apart (r7.out.later (by assumption)) ht6 (fun e => by have e2 : some b1 = some b9 := e; have e3 := Option.some.inj e2; omega)) HEO.out (by omega) (h8).size ?_
        intro pq2 cq2 v10 ho9 hb9 ht10
        have h9 := (h8).trans hb9
        have o10 := Lib.hid ho9
        have h10 := Lib.hid h9
        clear ho9
        refine hK.out _ _ (Or.inr h9) (fun hHeld => ?_)
        clear hK K
        try simp only [Act.put, List.setIfInBounds_toArray, List.set_cons_zero, List.set_cons_succ]
        -- 11
        refine wpAnyL_ready (rs := [11]) (by kernel_rfl) (by simp) ?_
        refine AllReadyL.cons (o := { dst := some 56, op := Op.nilCheck (Operand.tmp 45), type := 0, pos := "ref.go:62", after := #[{ on := 0, ground := Ground.data }, { on := 0, ground := Ground.phase }, { on := 1, ground := Ground.phase }, { on := 2, ground := Ground.phase }, { on := 3, ground := Ground.phase }, { on := 4, ground := Ground.phase }, { on := 5, ground := Ground.phase }, { on := 6, ground := Ground.phase }, { on := 7, ground := Ground.phase }, { on := 8, ground := Ground.phase }, { on := 9, ground := Ground.phase }, { on := 10, ground := Ground.phase }], guard := none }) rfl (fun K hK => ?_) AllReadyL.nil
        go_simp
        refine hK.out _ _ (Or.inr (by assumption)) (fun hHeld => ?_)
        clear hK K
        try simp only [Act.put, List.setIfInBounds_toArray, List.set_cons_zero, List.set_cons_succ]
        refine wpAnyL_take (i := 12) (oi := { dst := some 57, op := Op.fieldAddr 53 (Operand.tmp 56) 3, type := 0, pos := "ref.go:62", after := #[{ on := 11, ground := Ground.data }, { on := 0, ground := Ground.phase }, { on := 1, ground := Ground.phase }, { on := 2, ground := Ground.phase }, { on := 3, ground := Ground.phase }, { on := 4, ground := Ground.phase }, { on := 5, ground := Ground.phase }, { on := 6, ground := Ground.phase }, { on := 7, ground := Ground.phase }, { on := 8, ground := Ground.phase }, { on := 9, ground := Ground.phase }, { on := 10, ground := Ground.phase }], guard := none }) (v := ?_) rfl (by kernel_rfl) (by kernel_rfl) (by kernel_rfl) (by kernel_rfl) (fun _ _ _ h => h) (Or.inl ⟨by rfl, ?_⟩) (by assumption) ?_
        rotate_left
        · (intro w' hSw; go_simp; try with_reducible rfl)
        try simp only [Act.put, List.setIfInBounds_toArray, List.set_cons_zero, List.set_cons_succ]
        -- 13
        refine wpAnyL_ready (rs := [13]) (by kernel_rfl) (by simp) ?_
        refine AllReadyL.cons (o := { dst := none, op := Op.store 51 (Operand.tmp 57) (Operand.tmp 55), type := 0, pos := "ref.go:62", after := #[{ on := 12, ground := Ground.data }, { on := 10, ground := Ground.data }, { on := 10, ground := Ground.chain }, { on := 0, ground := Ground.phase }, { on := 1, ground := Ground.phase }, { on := 2, ground := Ground.phase }, { on := 3, ground := Ground.phase }, { on := 4, ground := Ground.phase }, { on := 5, ground := Ground.phase }, { on := 6, ground := Ground.phase }, { on := 7, ground := Ground.phase }, { on := 8, ground := Ground.phase }, { on := 9, ground := Ground.phase }, { on := 10, ground := Ground.phase }], guard := none }) rfl (fun K hK => ?_) AllReadyL.nil
        have hrow13 := row_later HRC.out (below_drew h10.out) hgc
        have c13 := cell_row hrow13 3 (.slice pl l cl) rfl
        have z13 := frozen_row hrow13 3
        have HR13 := Lib.hid hrow13
        clear hrow13
        go_simp
        refine hK.out _ _ (Or.inl rfl) (fun hHeld => ?_)
        clear hK K c13 z13
        try simp only [Act.put, List.setIfInBounds_toArray, List.set_cons_zero, List.set_cons_succ]
        refine wpAnyL_done (by kernel_rfl) ?_ _
        go_wp2_with fail
        have hfin := HFIN8 _ _ _ o10.out h10.out HR13.out
        go_ret
        exact hfin
    · refine step_one elem_evs (by decide) (by rfl) (.tmp 53) rfl (evC (1, (⟨i, s, k, id, st.ep⟩ : Wr), []) (.slice none 0 0)) rfl (evC_len HS.out) ?_
      intro b9 v12 hv9 hr12 hb12
      have h12 := below_trans h0 hb12
      have r12 := Lib.hid hr12
      clear hr12
      refine hK.out _ _ (Or.inr h12) (fun hHeld => ?_)
      clear hK K
      try simp only [Act.put, List.setIfInBounds_toArray, List.set_cons_zero, List.set_cons_succ]
      -- 1
      refine wpAnyL_ready (rs := [1]) (by kernel_rfl) (by simp) ?_
      refine AllReadyL.cons (o := { dst := some 46, op := Op.buildSlice 51 0 #[], type := 51, pos := "ref.go:62", after := #[], guard := none }) rfl (fun K hK => ?_) AllReadyL.nil
      refine step_made elem_evs wc.heap.size (by rfl) rfl (h12).size ?_
      intro b1 v13 hv1 ho13 hb13
      have h13 := below_trans h12 hb13
      have o13 := Lib.hid ho13
      clear ho13
      refine hK.out _ _ (Or.inr h13) (fun hHeld => ?_)
      clear hK K
      try simp only [Act.put, List.setIfInBounds_toArray, List.set_cons_zero, List.set_cons_succ]
      -- 6
      refine wpAnyL_ready (rs := [6]) (by kernel_rfl) (by simp) ?_
      refine AllReadyL.cons (o := { dst := some 51, op := Op.call { callee := Callee.builtin Builtin.append, args := #[Operand.tmp 46, Operand.tmp 50], argTypes := #[51, 51] }, type := 51, pos := "ref.go:62", after := #[{ on := 1, ground := Ground.data }, { on := 5, ground := Ground.data }], guard := none }) rfl (fun K hK => ?_) AllReadyL.nil
      refine step_ap2 elem_evs (by rfl) (.tmp 46) (.tmp 50) rfl wc.heap.size (.slice (some ⟨b1, 0, none⟩) 0 0) 0 [] rfl (by first | exact o13.out | exact own_later o13.out (by assumption)) _ l _ rfl (HLT2.out.later (below_drew h13)) HLO.out (by omega) (h13).size ?_
      intro p6 c6 v14 ho14 hb14 ht6
      have h14 := (h13).trans hb14
      have o14 := Lib.hid ho14
      clear ho14
      refine hK.out _ _ (Or.inr h14) (fun hHeld => ?_)
      clear hK K
      try simp only [Act.put, List.setIfInBounds_toArray, List.set_cons_zero, List.set_cons_succ]
      -- 10
      refine wpAnyL_ready (rs := [10]) (by kernel_rfl) (by simp) ?_
      refine AllReadyL.cons (o := { dst := some 55, op := Op.call { callee := Callee.builtin Builtin.append, args := #[Operand.tmp 51, Operand.tmp 54], argTypes := #[51, 51] }, type := 51, pos := "ref.go:62", after := #[{ on := 6, ground := Ground.data }, { on := 9, ground := Ground.data }, { on := 6, ground := Ground.chain }], guard := none }) rfl (fun K hK => ?_) AllReadyL.nil
      refine step_ap2 elem_evs (by rfl) (.tmp 51) (.tmp 54) rfl wc.heap.size _ (0 + l) _ rfl (by first | exact o14.out | exact own_later o14.out (by assumption)) _ 1 _ rfl (by first | exact r12.out | exact Rd.apart r12.out ht6 (fun e => by have e2 : some b1 = some b9 := e; have e3 := Option.some.inj e2; omega) | exact Rd.apart (r12.out.later (by assumption)) ht6 (fun e => by have e2 : some b1 = some b9 := e; have e3 := Option.some.inj e2; omega)) HEO.out (by omega) (h14).size ?_
      intro pq2 cq2 v10 ho15 hb15 ht10
      have h15 := (h14).trans hb15
      have o10 := Lib.hid ho15
      have h10 := Lib.hid h15
      clear ho15
      refine hK.out _ _ (Or.inr h15) (fun hHeld => ?_)
      clear hK K
      try simp only [Act.put, List.setIfInBounds_toArray, List.set_cons_zero, List.set_cons_succ]
      -- 11
      refine wpAnyL_ready (rs := [11]) (by kernel_rfl) (by simp) ?_
      refine AllReadyL.cons (o := { dst := some 56, op := Op.nilCheck (Operand.tmp 45), type := 0, pos := "ref.go:62", after := #[{ on := 0, ground := Ground.data }, { on := 0, ground := Ground.phase }, { on := 1, ground := Ground.phase }, { on := 2, ground := Ground.phase }, { on := 3, ground := Ground.phase }, { on := 4, ground := Ground.phase }, { on := 5, ground := Ground.phase }, { on := 6, ground := Ground.phase }, { on := 7, ground := Ground.phase }, { on := 8, ground := Ground.phase }, { on := 9, ground := Ground.phase }, { on := 10, ground := Ground.phase }], guard := none }) rfl (fun K hK => ?_) AllReadyL.nil
      go_simp
      refine hK.out _ _ (Or.inr (by assumption)) (fun hHeld => ?_)
      clear hK K
      try simp only [Act.put, List.setIfInBounds_toArray, List.set_cons_zero, List.set_cons_succ]
      refine wpAnyL_take (i := 12) (oi := { dst := some 57, op := Op.fieldAddr 53 (Operand.tmp 56) 3, type := 0, pos := "ref.go:62", after := #[{ on := 11, ground := Ground.data }, { on := 0, ground := Ground.phase }, { on := 1, ground := Ground.phase }, { on := 2, ground := Ground.phase }, { on := 3, ground := Ground.phase }, { on := 4, ground := Ground.phase }, { on := 5, ground := Ground.phase }, { on := 6, ground := Ground.phase }, { on := 7, ground := Ground.phase }, { on := 8, ground := Ground.phase }, { on := 9, ground := Ground.phase }, { on := 10, ground := Ground.phase }], guard := none }) (v := ?_) rfl (by kernel_rfl) (by kernel_rfl) (by kernel_rfl) (by kernel_rfl) (fun _ _ _ h => h) (Or.inl ⟨by rfl, ?_⟩) (by assumption) ?_
      rotate_left
      · (intro w' hSw; go_simp; try with_reducible rfl)
      try simp only [Act.put, List.setIfInBounds_toArray, List.set_cons_zero, List.set_cons_succ]
      -- 13
      refine wpAnyL_ready (rs := [13]) (by kernel_rfl) (by simp) ?_
      refine AllReadyL.cons (o := { dst := none, op := Op.store 51 (Operand.tmp 57) (Operand.tmp 55), type := 0, pos := "ref.go:62", after := #[{ on := 12, ground := Ground.data }, { on := 10, ground := Ground.data }, { on := 10, ground := Ground.chain }, { on := 0, ground := Ground.phase }, { on := 1, ground := Ground.phase }, { on := 2, ground := Ground.phase }, { on := 3, ground := Ground.phase }, { on := 4, ground := Ground.phase }, { on := 5, ground := Ground.phase }, { on := 6, ground := Ground.phase }, { on := 7, ground := Ground.phase }, { on := 8, ground := Ground.phase }, { on := 9, ground := Ground.phase }, { on := 10, ground := Ground.phase }], guard := none }) rfl (fun K hK => ?_) AllReadyL.nil
      have hrow13 := row_later HRC.out (below_drew h10.out) hgc
      have c13 := cell_row hrow13 3 (.slice pl l cl) rfl
      have z13 := frozen_row hrow13 3
      have HR13 := Lib.hid hrow13
      clear hrow13
      go_simp
      refine hK.out _ _ (Or.inl rfl) (fun hHeld => ?_)
      clear hK K c13 z13
      try simp only [Act.put, List.setIfInBounds_toArray, List.set_cons_zero, List.set_cons_succ]
      refine wpAnyL_done (by kernel_rfl) ?_ _
      go_wp2_with fail
      have hfin := HFIN8 _ _ _ o10.out h10.out HR13.out
      go_ret
      exact hfin
theorem rwrite (S : Nat → Prop) (g : Nat) (st : St) (w : World) (h : RefIs w S g st) (hf : st.few) (hsl : st.safe.length ≤ 1000) (i : Int) (s : List Int) (k id : Int) (hs : Sec s) (hi : (Lit.int .i64 i).wf = true) :
    Calls Try.prog 38 #[.pointer (some ⟨g, 0, none⟩), .int .i64 i, agg s, .agg #[.int .i64 k, .int .i64 id]] w (RefDone S g w (writeR st i s k id)) := by
  by_cases hin : 0 ≤ i ∧ i < (st.safe.length : Int)
  · by_cases ha : asks st = true
    · have e : writeR st i s k id = (3, st.asked1) := by rw [writeR, if_pos hin, if_pos ha]
      have := rwrite_no S g st w h hf hsl i s k id hi (Or.inr ha)
      rw [if_pos hin] at this
      rw [e]; exact this
    · have e : writeR st i s k id = (0, { st with asked := st.asked + 1, wait := st.wait ++ [⟨i, s, k, id, st.ep⟩], log := st.log ++ [(1, ⟨i, s, k, id, st.ep⟩, [])] }) := by rw [writeR, if_pos hin, if_neg ha]
      rw [e]
      exact rwrite_yes S g st w h hf hsl i s k id hs hin (by simpa using ha)
  · have e : writeR st i s k id = (1, st.asked1) := by rw [writeR, if_neg hin]
    have := rwrite_no S g st w h hf hsl i s k id hi (Or.inl hin)
    rw [if_neg hin] at this
    rw [e]; exact this
end Go.Proofs.Yteobhljkjgocdaa.dsk
