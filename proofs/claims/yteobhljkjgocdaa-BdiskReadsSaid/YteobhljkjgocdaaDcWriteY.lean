/- What the code's Write gives where it writes. -/
import Derived.Test.YteobhljkjgocdaaDcWrite
namespace Go.Proofs.Yteobhljkjgocdaa.dsk
open Go.ChangeShapes Go.WideShapes Go.ChangeAt Go.RowKit
open Go.Proofs.Yteobhljkjgocdaa.rows
open Go.Proofs.Yteobhljkjgocdaa.sec
open Go.Maps
set_option linter.unusedVariables false
set_option linter.unusedSimpArgs false

theorem seenOf_more (st : St) (x : Wr) : outOf (fun _ => true) (st.wait ++ [x]) st.safe = (seenOf st).set x.pos.toNat x.s := by
  simp [outOf, seenOf, List.foldl_append, outStep]
set_option maxHeartbeats 3200000 in
theorem cwrite_yes (w : World) (F : Nat → Prop) (d : Value) (st : St) (i : Int) (s : List Int) (k id : Int) (h : CA w F d st) (hFlt : ∀ b, F b → b < w.heap.size) (hf : st.fine) (hi : wf64 i) (hs : Sec s) (hkw : wf64 k) (hidw : wf64 id) (hin : 0 ≤ i ∧ i < (st.safe.length : Int)) (hn : asks st = false) :
    Calls Try.prog 12 #[d, .int .i64 i, agg s, .agg #[.int .i64 k, .int .i64 id]] w (CodeDone CA F d w (0, { st with asked := st.asked + 1, wait := st.wait ++ [⟨i, s, k, id, st.ep⟩], log := st.log ++ [(1, ⟨i, s, k, id, st.ep⟩, [])] })) := by
  obtain ⟨z, g, vs, vw, vn, vl, vf, rfl, h⟩ := h
  obtain ⟨W, hW⟩ : ∃ W, W = (w.alloc (.cells (u8s s).toArray 35)).alloc (.cells #[.int .i64 k, .int .i64 id] 37) := ⟨_, rfl⟩
  have hbW : Below w.heap.size w W := by rw [hW]; exact below_alloc (below_alloc (Below.refl _ _) _) _
  have hWs : W.heap.size = w.heap.size + 1 + 1 := by rw [hW]; simp
  have hA := codeAt_kept h (Keeps.of_below hbW)
  have A60 : At W w.heap.size s := by rw [hW]; exact (at_new w s).alloc _
  have A70 : W.heap[w.heap.size + 1]? = some (.cells #[.int .i64 k, .int .i64 id] 37 (0, 0)) := by
    rw [hW]
    have := heap_alloc_new (w.alloc (.cells (u8s s).toArray 35)) (.cells #[.int .i64 k, .int .i64 id] 37)
    rwa [size_alloc] at this
  obtain ⟨ps, cs, hvs⟩ := h.safe.slice
  subst hvs
  obtain ⟨j, rfl⟩ : ∃ j : Nat, i = (j : Int) := ⟨i.toNat, by omega⟩
  have hjn : j < st.safe.length := by omega
  obtain ⟨pn, cn, hvn⟩ := h.seen.slice
  subst hvn
  obtain ⟨gn, rfl⟩ := own_some h.seen (by omega)
  obtain ⟨pw, cw, hvw⟩ := h.wait.slice
  subst hvw
  obtain ⟨es0, hes0⟩ := h.log
  obtain ⟨pl, cl, hvl⟩ := hes0.own.slice
  subst hvl
  have HM := Lib.hid (cmade g W (cell_row hA.row 0 _ rfl))
  have HF := Lib.hid (ccount F z g st _ _ _ _ vf W hA ⟨hf.few.as0, by have := hf.few.as1; omega⟩)
  unfold CountDone at HF
  rw [hn] at HF
  have hn1 := hf.n1
  have HH := Lib.hid fun w' (h' : CodeAt w' F z g st.asked1 (.slice ps st.safe.length cs) (.slice pw st.wait.length cw) (.slice (some ⟨gn, 0, none⟩) st.safe.length cn) (.slice pl st.log.length cl) vf) => chas g st.safe.length cs ps j w' (cell_row h'.row 1 _ rfl) hi (by omega)
  rw [decide_eq_true hin] at HH
  have HW := Lib.hid hW
  have HBW := Lib.hid hbW
  have HFL := Lib.hid hFlt
  have HS := Lib.hid hs
  have HSS := Lib.hid (seenOf_secs hf)
  have HSL := Lib.hid (seenOf_len st)
  have HKW := Lib.hid hkw
  have HIW := Lib.hid hidw
  have H6 := Lib.hid A60
  have H7 := Lib.hid A70
  have hep := hf.few.ep0
  have hep1 := hf.few.ep1
  have hln := hf.few.ln
  have hwn := hf.few.wn
  generalize hnn : st.safe.length = n at *
  have HN := Lib.hid hnn
  generalize hmm : st.wait.length = m at *
  have HMM := Lib.hid hmm
  generalize hll : st.log.length = l at *
  have HL := Lib.hid hll
  have hj1 : (j:Int) < n := by omega
  clear h hA hf hW hbW hn hin hi hes0 hFlt hs hkw hidw A60 A70 hnn hmm hll
  go_enter Try.func12, Try.ntmps12
  go_wp2_with fail
  rw [← HW.out]
  refine HM.out.mono ?_
  rintro e w0 ⟨rfl, rfl⟩
  go_wp2_with (go_at_call 34; refine HF.out.mono ?_; rintro e w1 ⟨rfl, hc, ht⟩; have HC := Lib.hid hc; have HT := Lib.hid ht; clear hc ht)
  refine (HH.out _ HC.out).mono ?_
  rintro e w1' ⟨rfl, rfl⟩
  have hnF6 : ¬ F w.heap.size := fun hF => by have := HFL.out _ hF; omega
  have hnF7 : ¬ F (w.heap.size + 1) := fun hF => by have := HFL.out _ hF; omega
  have A6 := Lib.hid (H6.out.touch HT.out (fun hb => hnF6 hb.1))
  have A7 := Lib.hid (row_touch H7.out HT.out (fun hb => hnF7 hb.1))
  have hsz1 : w.heap.size + 1 + 1 ≤ w1.heap.size := by have := HT.out.size; omega
  have hg1 : g < w1.heap.size := HC.out.lt
  have hg6 : w.heap.size < w1.heap.size := by omega
  have hg7 : w.heap.size + 1 < w1.heap.size := by omega
  have C4 : Hid (w1.cell? ⟨g, 4, none⟩ = some (.int .i64 st.ep)) := Lib.hid (cell_row HC.out.row 4 _ rfl)
  clear hnF6 hnF7 H6 H7 HH HF HM
  go_wp2_with fail
  have h0 := Below.refl w1.drew.heap.size w1.drew
  refine wp_region_held_drew (S := ext w1.drew) (by kernel_rfl) (Below.refl _ _) (fun hH0 => ?_)
  refine wpAnyH_take (i := 0) (oi := { dst := some 21, op := Op.move (Operand.tmp 1), type := 3, pos := "bdisk.go:72", after := #[], guard := none }) (v := ?_) rfl (by kernel_rfl) (by kernel_rfl) (by kernel_rfl) (fun _ _ _ h => h) (Or.inl ⟨by rfl, ?_⟩) (by assumption) ?_
  rotate_left
  · (intro w' hSw; go_simp; try with_reducible rfl)
  try simp only [Act.put, List.setIfInBounds_toArray, List.set_cons_zero, List.set_cons_succ]
  refine' wpAnyH_take (i := 1) (oi := { dst := some 22, op := Op.load 35 (Operand.tmp 6), type := 35, pos := "bdisk.go:72", after := #[], guard := none }) (v := _) rfl (by kernel_rfl) (by kernel_rfl) (by kernel_rfl) (fun _ _ _ h => h) (ld_sec (by rfl) _ rfl w.heap.size 0 rfl s HS.out.1 (fun w' hw => (A6.out.later (below_drew hw)).range)) (by assumption) ?_
  try simp only [Act.put, List.setIfInBounds_toArray, List.set_cons_zero, List.set_cons_succ]
  refine' wpAnyH_take (i := 2) (oi := { dst := some 23, op := Op.load 37 (Operand.tmp 7), type := 37, pos := "bdisk.go:72", after := #[], guard := none }) (v := _) rfl (by kernel_rfl) (by kernel_rfl) (by kernel_rfl) (fun _ _ _ h => h) (ld_tag (by rfl) _ rfl (w.heap.size + 1) 0 rfl k id (fun w' hw => tag_range (row_later A7.out (below_drew hw) hg7))) (by assumption) ?_
  try simp only [Act.put, List.setIfInBounds_toArray, List.set_cons_zero, List.set_cons_succ]
  refine wpAnyH_take (i := 3) (oi := { dst := some 24, op := Op.move (Operand.tmp 0), type := 26, pos := "bdisk.go:72", after := #[], guard := none }) (v := ?_) rfl (by kernel_rfl) (by kernel_rfl) (by kernel_rfl) (fun _ _ _ h => h) (Or.inl ⟨by rfl, ?_⟩) (by assumption) ?_
  rotate_left
  · (intro w' hSw; go_simp; try with_reducible rfl)
  try simp only [Act.put, List.setIfInBounds_toArray, List.set_cons_zero, List.set_cons_succ]
  refine wpAnyH_take (i := 4) (oi := { dst := some 25, op := Op.nilCheck (Operand.tmp 24), type := 0, pos := "bdisk.go:72", after := #[{ on := 3, ground := Ground.data }], guard := none }) (v := ?_) rfl (by kernel_rfl) (by kernel_rfl) (by kernel_rfl) (fun _ _ _ h => h) (Or.inl ⟨by rfl, ?_⟩) (by assumption) ?_
  rotate_left
  · (intro w' hSw; go_simp; try with_reducible rfl)
  try simp only [Act.put, List.setIfInBounds_toArray, List.set_cons_zero, List.set_cons_succ]
  refine wpAnyH_take (i := 5) (oi := { dst := some 26, op := Op.fieldAddr 70 (Operand.tmp 25) 4, type := 0, pos := "bdisk.go:72", after := #[{ on := 4, ground := Ground.data }], guard := none }) (v := ?_) rfl (by kernel_rfl) (by kernel_rfl) (by kernel_rfl) (fun _ _ _ h => h) (Or.inl ⟨by rfl, ?_⟩) (by assumption) ?_
  rotate_left
  · (intro w' hSw; go_simp; try with_reducible rfl)
  try simp only [Act.put, List.setIfInBounds_toArray, List.set_cons_zero, List.set_cons_succ]
  refine' wpAnyH_take (i := 6) (oi := { dst := some 27, op := Op.load 3 (Operand.tmp 26), type := 3, pos := "bdisk.go:72", after := #[{ on := 5, ground := Ground.data }], guard := none }) (v := _) rfl (by kernel_rfl) (by kernel_rfl) (by kernel_rfl) (fun _ _ _ h => h) (ld_cell (by rfl) 3 _ und_int rfl _ rfl g 4 rfl (.int .i64 st.ep) (fun w' hw => ((below_drew hw).cell (p := ⟨g, 4, none⟩) hg1).trans C4.out)) (by assumption) ?_
  try simp only [Act.put, List.setIfInBounds_toArray, List.set_cons_zero, List.set_cons_succ]
  refine' wpAnyH_take (i := 7) (oi := { dst := some 28, op := Op.build 74 #[(0, Operand.tmp 21), (1, Operand.tmp 22), (2, Operand.tmp 23), (3, Operand.tmp 27)], type := 74, pos := "bdisk.go:72", after := #[{ on := 0, ground := Ground.data }, { on := 1, ground := Ground.data }, { on := 2, ground := Ground.data }, { on := 6, ground := Ground.data }], guard := none }) (v := _) rfl (by kernel_rfl) (by kernel_rfl) (by kernel_rfl) (fun _ _ _ h => h) (build_yields (by rfl) 74 _ rfl [(0, .int .i64 (j:Int)), (1, .agg (u8s s).toArray), (2, .agg #[.int .i64 k, .int .i64 id]), (3, .int .i64 st.ep)] rfl _ (built_wr ⟨(j:Int), s, k, id, st.ep⟩ HS.out)) (by assumption) ?_
  try simp only [Act.put, List.setIfInBounds_toArray, List.set_cons_zero, List.set_cons_succ]
  -- 8
  refine wpAnyH_ready (rs := [8]) (by kernel_rfl) (by simp) ?_
  refine AllReadyH.cons (o := { dst := some 10, op := Op.alloc 74, type := 0, pos := "bdisk.go:72", after := #[], guard := none }) rfl (fun K hK => ?_) AllReadyH.nil
  refine step_alloc zero_wr (by rfl) rfl ?_
  intro gx v1 hgx hrx hb1
  have h1 := below_trans h0 hb1
  have HX := Lib.hid hrx
  refine hK.out _ _ ?_ (fun hHeld => ?_)
  · exact h1
  clear hK K hrx
  try simp only [Act.put, List.setIfInBounds_toArray, List.set_cons_zero, List.set_cons_succ]
  -- 9
  refine wpAnyH_ready (rs := [9]) (by kernel_rfl) (by simp) ?_
  refine AllReadyH.cons (o := { dst := none, op := Op.store 74 (Operand.tmp 10) (Operand.tmp 28), type := 0, pos := "bdisk.go:72", after := #[{ on := 8, ground := Ground.data }, { on := 7, ground := Ground.data }, { on := 0, ground := Ground.phase }, { on := 1, ground := Ground.phase }, { on := 2, ground := Ground.phase }, { on := 3, ground := Ground.phase }, { on := 4, ground := Ground.phase }, { on := 5, ground := Ground.phase }, { on := 6, ground := Ground.phase }, { on := 7, ground := Ground.phase }, { on := 8, ground := Ground.phase }], guard := none }) rfl (fun K hK => ?_) AllReadyH.nil
  refine step_store_wr (by rfl) _ _ (by rfl) gx (by rfl) ⟨(j:Int), s, k, id, st.ep⟩ w0 (by rfl) HS.out sec_zero HX.out ?_
  intro w2 hx2 hb2
  have h2 := h1.trans (hb2.mono hgx)
  have HX2 := Lib.hid hx2
  refine hK.out _ _ ?_ (fun hHeld => ?_)
  · exact h2
  clear hK K hx2
  try simp only [Act.put, List.setIfInBounds_toArray, List.set_cons_zero, List.set_cons_succ]
  refine wpAnyH_done (by kernel_rfl) ?_ _
  have HB2 : Hid (Below w1.heap.size w1 w2) := Lib.hid (below_drew h2)
  have HC2 := Lib.hid (codeAt_kept HC.out (Keeps.of_below HB2.out))
  have hg2 : g < w2.heap.size := HC2.out.lt
  have hgx2 : gx < w2.heap.size := (Array.getElem?_eq_some_iff.1 HX2.out).1
  have hgx1 : w1.heap.size ≤ gx := hgx
  have hgn0 := own_blk HC.out.seen (k := gn) rfl
  have hgnz : Zn F z 3 gn := HC.out.seenS gn rfl
  have hgng : gn ≠ g := zne hgnz HC.out.own (by decide)
  have hgn6 : gn ≠ w.heap.size := fun e => by have := HFL.out _ hgnz.1; omega
  have A62 := Lib.hid (A6.out.later (HB2.out.mono (Nat.le_refl _)))
  have C3 : Hid (w2.cell? ⟨g, 3, none⟩ = some (.slice (some ⟨gn, 0, none⟩) n cn)) := Lib.hid (by have h := cell_row HC2.out.row 3 _ rfl; simpa using h)
  have hg62 : w.heap.size < w2.heap.size := by have := HB2.out.size; omega
  obtain ⟨es, hes⟩ := HC2.out.log
  have HES := Lib.hid hes
  clear hes
  have HSE : Hid (Own w2 0 35 32 (.slice (some ⟨gn, 0, none⟩) n cn) n (cellsOf (seenOf st))) := Lib.hid (by have h := HC2.out.seen; rw [show st.asked1.safe.length = n from HN.out] at h; exact h)
  clear hHeld hH0 h0 h1 h2 hb1 hb2 HX A6 A7 C4 hgx
  go_wp2_with fail
  have h0 : Touch (· = gn) w2.drew w2.drew := Touch.refl _ _
  refine wp_region_held_drew (S := Touch (· = gn) w2.drew) (by kernel_rfl) (Touch.refl _ _) (fun hH0 => ?_)
  refine wpAnyH_take (i := 0) (oi := { dst := some 29, op := Op.move (Operand.tmp 0), type := 26, pos := "bdisk.go:73", after := #[], guard := none }) (v := ?_) rfl (by kernel_rfl) (by kernel_rfl) (by kernel_rfl) (fun _ _ _ h => h) (Or.inl ⟨by rfl, ?_⟩) (by assumption) ?_
  rotate_left
  · (intro w' hSw; go_simp; try with_reducible rfl)
  try simp only [Act.put, List.setIfInBounds_toArray, List.set_cons_zero, List.set_cons_succ]
  refine wpAnyH_take (i := 1) (oi := { dst := some 30, op := Op.nilCheck (Operand.tmp 29), type := 0, pos := "bdisk.go:73", after := #[{ on := 0, ground := Ground.data }], guard := none }) (v := ?_) rfl (by kernel_rfl) (by kernel_rfl) (by kernel_rfl) (fun _ _ _ h => h) (Or.inl ⟨by rfl, ?_⟩) (by assumption) ?_
  rotate_left
  · (intro w' hSw; go_simp; try with_reducible rfl)
  try simp only [Act.put, List.setIfInBounds_toArray, List.set_cons_zero, List.set_cons_succ]
  refine wpAnyH_take (i := 2) (oi := { dst := some 31, op := Op.fieldAddr 70 (Operand.tmp 30) 3, type := 0, pos := "bdisk.go:73", after := #[{ on := 1, ground := Ground.data }], guard := none }) (v := ?_) rfl (by kernel_rfl) (by kernel_rfl) (by kernel_rfl) (fun _ _ _ h => h) (Or.inl ⟨by rfl, ?_⟩) (by assumption) ?_
  rotate_left
  · (intro w' hSw; go_simp; try with_reducible rfl)
  try simp only [Act.put, List.setIfInBounds_toArray, List.set_cons_zero, List.set_cons_succ]
  refine' wpAnyH_take (i := 3) (oi := { dst := some 32, op := Op.load 22 (Operand.tmp 31), type := 22, pos := "bdisk.go:73", after := #[{ on := 2, ground := Ground.data }], guard := none }) (v := _) rfl (by kernel_rfl) (by kernel_rfl) (by kernel_rfl) (fun _ _ _ h => h) (ld_cell (by rfl) 22 _ und_secs rfl _ rfl g 3 rfl (.slice (some ⟨gn, 0, none⟩) n cn) (fun w' hw => (hw.drewL.cell (p := ⟨g, 3, none⟩) hg2 (fun e => hgng e.symm)).trans C3.out)) (by assumption) ?_
  try simp only [Act.put, List.setIfInBounds_toArray, List.set_cons_zero, List.set_cons_succ]
  refine wpAnyH_take (i := 4) (oi := { dst := some 33, op := Op.move (Operand.tmp 1), type := 3, pos := "bdisk.go:73", after := #[], guard := none }) (v := ?_) rfl (by kernel_rfl) (by kernel_rfl) (by kernel_rfl) (fun _ _ _ h => h) (Or.inl ⟨by rfl, ?_⟩) (by assumption) ?_
  rotate_left
  · (intro w' hSw; go_simp; try with_reducible rfl)
  try simp only [Act.put, List.setIfInBounds_toArray, List.set_cons_zero, List.set_cons_succ]
  refine' wpAnyH_take (i := 5) (oi := { dst := some 34, op := Op.load 35 (Operand.tmp 6), type := 35, pos := "bdisk.go:73", after := #[], guard := none }) (v := _) rfl (by kernel_rfl) (by kernel_rfl) (by kernel_rfl) (fun _ _ _ h => h) (ld_sec (by rfl) _ rfl w.heap.size 0 rfl s HS.out.1 (fun w' hw => (A62.out.touch hw.drewL (fun e => hgn6 e.symm)).range)) (by assumption) ?_
  try simp only [Act.put, List.setIfInBounds_toArray, List.set_cons_zero, List.set_cons_succ]
  refine wpAnyH_take (i := 6) (oi := { dst := some 35, op := Op.indexAddr 22 (Operand.tmp 32) (Operand.tmp 33), type := 0, pos := "bdisk.go:73", after := #[{ on := 3, ground := Ground.data }, { on := 4, ground := Ground.data }, { on := 0, ground := Ground.phase }, { on := 1, ground := Ground.phase }, { on := 2, ground := Ground.phase }, { on := 3, ground := Ground.phase }, { on := 4, ground := Ground.phase }, { on := 5, ground := Ground.phase }], guard := none }) (v := ?_) rfl (by kernel_rfl) (by kernel_rfl) (by kernel_rfl) (fun _ _ _ h => h) (Or.inl ⟨by rfl, ?_⟩) (by assumption) ?_
  rotate_left
  · (intro w' hSw; go_simp; try with_reducible rfl)
  try simp only [Act.put, List.setIfInBounds_toArray, List.set_cons_zero, List.set_cons_succ]
  -- 7
  refine wpAnyH_ready (rs := [7]) (by kernel_rfl) (by simp) ?_
  refine AllReadyH.cons (o := { dst := none, op := Op.store 35 (Operand.tmp 35) (Operand.tmp 34), type := 0, pos := "bdisk.go:73", after := #[{ on := 6, ground := Ground.data }, { on := 5, ground := Ground.data }, { on := 0, ground := Ground.phase }, { on := 1, ground := Ground.phase }, { on := 2, ground := Ground.phase }, { on := 3, ground := Ground.phase }, { on := 4, ground := Ground.phase }, { on := 5, ground := Ground.phase }], guard := none }) rfl (fun K hK => ?_) AllReadyH.nil
  refine step_store_own (by rfl) _ _ rfl 0 gn j n cn (by rfl) s (by rfl) HS.out _ HSS.out (by rw [HSL.out]; exact hjn) HSE.out.drew ?_
  intro w3 ho3 ht3
  have HO3 := Lib.hid ho3
  have HT3 := Lib.hid ht3.drewL
  have h1 := ht3
  refine hK.out _ _ ?_ (fun hHeld => ?_)
  · exact ht3
  clear hK K ho3
  try simp only [Act.put, List.setIfInBounds_toArray, List.set_cons_zero, List.set_cons_succ]
  refine wpAnyH_done (by kernel_rfl) ?_ _
  have hg3 : g < w3.heap.size := Nat.lt_of_lt_of_le hg2 HT3.out.size
  have hgxgn : gx ≠ gn := fun e => by have := hgn0.2; omega
  have HX3 : Hid (AtW w3 gx (⟨(j:Int), s, k, id, st.ep⟩ : Wr)) := Lib.hid (row_touch HX2.out HT3.out hgxgn)
  have HR3 := Lib.hid (row_touch HC2.out.row HT3.out (fun e => hgng e.symm))
  have hwz : ∀ b, (Value.slice pw m cw).ownBlock = some b → Zn F z 2 b := HC.out.waitS
  have hwng : ∀ b, (Value.slice pw m cw).ownBlock = some b → b ≠ g := fun b hb => zne (hwz b hb) HC.out.own (by decide)
  have hwngx : ∀ b, (Value.slice pw m cw).ownBlock = some b → b ≠ gx := fun b hb e => by have := HFL.out _ (hwz b hb).1; have := HBW.out.size; omega
  have C2 : Hid (w3.cell? ⟨g, 2, none⟩ = some (.slice pw m cw)) := Lib.hid (cell_row HR3.out 2 _ rfl)
  have HWO : Hid (Own w3 0 74 36 (.slice pw m cw) m (wrsC st.wait)) := Lib.hid (by
    have h1 := own_kept (own_kept HC.out.wait (S := fun b => b < w1.heap.size) (fun b hb => (own_blk HC.out.wait hb).2) (Keeps.of_below HB2.out)) (S := Zn F z 2) HC.out.waitS (zn_off HT3.out fun b hb hb2 => by have h1 := hgnz.2; rw [hb] at hb2; have h2 := hb2.2; omega)
    rw [show st.asked1.wait.length = m from HMM.out] at h1
    exact h1)
  have hgx3 : gx < w3.heap.size := (Array.getElem?_eq_some_iff.1 HX3.out).1
  have HWN := Lib.hid (wr_ones (⟨(j:Int), s, k, id, st.ep⟩ : Wr))
  clear hHeld hH0 h0 h1 ht3 C3 A62 HX2
  go_wp2_with fail
  have h0 : Touch (fun b => (Value.slice pw m cw).ownBlock = some b) w3.drew w3.drew := Touch.refl _ _
  refine wp_region_last (S := Touch (fun b => (Value.slice pw m cw).ownBlock = some b) w3.drew) 10 (by kernel_rfl) (Touch.refl _ _) (fun hH0 => ?_)
  refine wpAnyL_take (i := 0) (oi := { dst := some 36, op := Op.move (Operand.tmp 0), type := 26, pos := "bdisk.go:74", after := #[], guard := none }) (v := ?_) rfl (by kernel_rfl) (by kernel_rfl) (by kernel_rfl) (by kernel_rfl) (fun _ _ _ h => h) (Or.inl ⟨by rfl, ?_⟩) (by assumption) ?_
  rotate_left
  · (intro w' hSw; go_simp; try with_reducible rfl)
  try simp only [Act.put, List.setIfInBounds_toArray, List.set_cons_zero, List.set_cons_succ]
  refine wpAnyL_take (i := 1) (oi := { dst := some 37, op := Op.move (Operand.tmp 0), type := 26, pos := "bdisk.go:74", after := #[], guard := none }) (v := ?_) rfl (by kernel_rfl) (by kernel_rfl) (by kernel_rfl) (by kernel_rfl) (fun _ _ _ h => h) (Or.inl ⟨by rfl, ?_⟩) (by assumption) ?_
  rotate_left
  · (intro w' hSw; go_simp; try with_reducible rfl)
  try simp only [Act.put, List.setIfInBounds_toArray, List.set_cons_zero, List.set_cons_succ]
  refine wpAnyL_take (i := 2) (oi := { dst := some 38, op := Op.nilCheck (Operand.tmp 37), type := 0, pos := "bdisk.go:74", after := #[{ on := 1, ground := Ground.data }], guard := none }) (v := ?_) rfl (by kernel_rfl) (by kernel_rfl) (by kernel_rfl) (by kernel_rfl) (fun _ _ _ h => h) (Or.inl ⟨by rfl, ?_⟩) (by assumption) ?_
  rotate_left
  · (intro w' hSw; go_simp; try with_reducible rfl)
  try simp only [Act.put, List.setIfInBounds_toArray, List.set_cons_zero, List.set_cons_succ]
  refine wpAnyL_take (i := 3) (oi := { dst := some 39, op := Op.fieldAddr 70 (Operand.tmp 38) 2, type := 0, pos := "bdisk.go:74", after := #[{ on := 2, ground := Ground.data }], guard := none }) (v := ?_) rfl (by kernel_rfl) (by kernel_rfl) (by kernel_rfl) (by kernel_rfl) (fun _ _ _ h => h) (Or.inl ⟨by rfl, ?_⟩) (by assumption) ?_
  rotate_left
  · (intro w' hSw; go_simp; try with_reducible rfl)
  try simp only [Act.put, List.setIfInBounds_toArray, List.set_cons_zero, List.set_cons_succ]
  refine' wpAnyL_take (i := 4) (oi := { dst := some 40, op := Op.load 50 (Operand.tmp 39), type := 50, pos := "bdisk.go:74", after := #[{ on := 3, ground := Ground.data }], guard := none }) (v := _) rfl (by kernel_rfl) (by kernel_rfl) (by kernel_rfl) (by kernel_rfl) (fun _ _ _ h => h) (ld_cell (by rfl) 50 _ Try.underlying50 rfl _ rfl g 2 rfl (.slice pw m cw) (fun w' hw => (hw.drewL.cell (p := ⟨g, 2, none⟩) hg3 (fun e => hwng g e rfl)).trans C2.out)) (by assumption) ?_
  try simp only [Act.put, List.setIfInBounds_toArray, List.set_cons_zero, List.set_cons_succ]
  refine' wpAnyL_take (i := 5) (oi := { dst := some 41, op := Op.load 74 (Operand.tmp 10), type := 74, pos := "bdisk.go:74", after := #[], guard := none }) (v := _) rfl (by kernel_rfl) (by kernel_rfl) (by kernel_rfl) (by kernel_rfl) (fun _ _ _ h => h) (ld_wr (by rfl) _ rfl gx 0 rfl (⟨(j:Int), s, k, id, st.ep⟩ : Wr) HS.out (fun w' hw => AtW.range (row_touch HX3.out hw.drewL (fun e => hwngx gx e rfl)))) (by assumption) ?_
  try simp only [Act.put, List.setIfInBounds_toArray, List.set_cons_zero, List.set_cons_succ]
  -- 6
  refine wpAnyL_ready (rs := [6]) (by kernel_rfl) (by simp) ?_
  refine AllReadyL.cons (o := { dst := some 42, op := Op.buildSlice 50 1 #[(0, Operand.tmp 41)], type := 50, pos := "bdisk.go:74", after := #[{ on := 5, ground := Ground.data }], guard := none }) rfl (fun K hK => ?_) AllReadyL.nil
  refine step_one elem_wrs (by decide) (by rfl) _ rfl (Wr.c (⟨(j:Int), s, k, id, st.ep⟩ : Wr)) rfl (Wr.c_len HS.out) ?_
  intro b4 w4 hb4 hrd4 hbel4
  have HRD4 := Lib.hid hrd4
  have HB4 := Lib.hid hbel4
  have h1 : Touch (fun b => (Value.slice pw m cw).ownBlock = some b) w3.drew w4 := Touch.of_below hbel4
  refine hK.out _ _ (Or.inr h1) (fun hHeld => ?_)
  clear hK K hrd4
  try simp only [Act.put, List.setIfInBounds_toArray, List.set_cons_zero, List.set_cons_succ]
  -- 7
  refine wpAnyL_ready (rs := [7]) (by kernel_rfl) (by simp) ?_
  refine AllReadyL.cons (o := { dst := some 43, op := Op.call { callee := Callee.builtin Builtin.append, args := #[Operand.tmp 40, Operand.tmp 42], argTypes := #[50, 50] }, type := 50, pos := "bdisk.go:74", after := #[{ on := 4, ground := Ground.data }, { on := 6, ground := Ground.data }], guard := none }) rfl (fun K hK => ?_) AllReadyL.nil
  refine step_ap3 elem_wrs (by rfl) _ _ rfl (.slice pw m cw) m (wrsC st.wait) (by rfl) (own_later HWO.out.drew HB4.out) _ 1 (Wr.c (⟨(j:Int), s, k, id, st.ep⟩ : Wr)) (by rfl) HRD4.out HWN.out (by omega) ?_
  intro pq cq w5 ho5 ht5 hloc5
  have HO5 := Lib.hid ho5
  have HLOC5 := Lib.hid hloc5
  have h2 := h1.trans ht5
  have HT5 := Lib.hid h2
  refine hK.out _ _ (Or.inr h2) (fun hHeld => ?_)
  clear hK K ho5 hloc5
  try simp only [Act.put, List.setIfInBounds_toArray, List.set_cons_zero, List.set_cons_succ]
  -- 8
  refine wpAnyL_ready (rs := [8]) (by kernel_rfl) (by simp) ?_
  refine AllReadyL.cons (o := { dst := some 44, op := Op.nilCheck (Operand.tmp 36), type := 0, pos := "bdisk.go:74", after := #[{ on := 0, ground := Ground.data }, { on := 0, ground := Ground.phase }, { on := 1, ground := Ground.phase }, { on := 2, ground := Ground.phase }, { on := 3, ground := Ground.phase }, { on := 4, ground := Ground.phase }, { on := 5, ground := Ground.phase }, { on := 6, ground := Ground.phase }, { on := 7, ground := Ground.phase }], guard := none }) rfl (fun K hK => ?_) AllReadyL.nil
  go_simp
  refine hK.out _ _ (Or.inr (by assumption)) (fun hHeld => ?_)
  clear hK K
  try simp only [Act.put, List.setIfInBounds_toArray, List.set_cons_zero, List.set_cons_succ]
  refine wpAnyL_take (i := 9) (oi := { dst := some 45, op := Op.fieldAddr 70 (Operand.tmp 44) 2, type := 0, pos := "bdisk.go:74", after := #[{ on := 8, ground := Ground.data }, { on := 0, ground := Ground.phase }, { on := 1, ground := Ground.phase }, { on := 2, ground := Ground.phase }, { on := 3, ground := Ground.phase }, { on := 4, ground := Ground.phase }, { on := 5, ground := Ground.phase }, { on := 6, ground := Ground.phase }, { on := 7, ground := Ground.phase }], guard := none }) (v := ?_) rfl (by kernel_rfl) (by kernel_rfl) (by kernel_rfl) (by kernel_rfl) (fun _ _ _ h => h) (Or.inl ⟨by rfl, ?_⟩) (by assumption) ?_
  rotate_left
  · (intro w' hSw; go_simp; try with_reducible rfl)
  try simp only [Act.put, List.setIfInBounds_toArray, List.set_cons_zero, List.set_cons_succ]
  -- 10
  refine wpAnyL_ready (rs := [10]) (by kernel_rfl) (by simp) ?_
  refine AllReadyL.cons (o := { dst := none, op := Op.store 50 (Operand.tmp 45) (Operand.tmp 43), type := 0, pos := "bdisk.go:74", after := #[{ on := 9, ground := Ground.data }, { on := 7, ground := Ground.data }, { on := 7, ground := Ground.chain }, { on := 0, ground := Ground.phase }, { on := 1, ground := Ground.phase }, { on := 2, ground := Ground.phase }, { on := 3, ground := Ground.phase }, { on := 4, ground := Ground.phase }, { on := 5, ground := Ground.phase }, { on := 6, ground := Ground.phase }, { on := 7, ground := Ground.phase }], guard := none }) rfl (fun K hK => ?_) AllReadyL.nil
  have HR5 := Lib.hid (row_touch HR3.out HT5.out.drewL (fun e => hwng g e rfl))
  have c12 := cell_row HR5.out 2 (.slice pw m cw) rfl
  have z12 := frozen_row HR5.out 2
  have h4 := HT5.out
  go_simp
  refine hK.out _ _ (Or.inl rfl) (fun hHeld => ?_)
  clear hK K c12 z12
  try simp only [Act.put, List.setIfInBounds_toArray, List.set_cons_zero, List.set_cons_succ]
  refine wpAnyL_done (by kernel_rfl) ?_ _
  obtain ⟨W6, hW6⟩ : ∃ W6, W6 = w5.setCell ⟨g, 2, none⟩ (.slice pq (m + 1) cq) := ⟨_, rfl⟩
  have hgz : Zn F z 0 g := HC.out.own
  have T25 : Touch (fun b => F b ∧ (z b = 0 ∨ z b = 2 ∨ z b = 3)) w2 w5 := (HT3.out.mono fun b hb => by rw [hb]; exact ⟨hgnz.1, Or.inr (Or.inr hgnz.2)⟩).trans (HT5.out.drewL.mono fun b hb => ⟨(hwz b hb).1, Or.inr (Or.inl (hwz b hb).2)⟩)
  have T6 : Touch (fun b => F b ∧ (z b = 0 ∨ z b = 2 ∨ z b = 3)) w2 W6 := by rw [hW6]; exact Touch.setCell T25 ⟨g, 2, none⟩ ⟨hgz.1, Or.inl hgz.2⟩ _
  have HR6 : Hid (W6.heap[g]? = some (.cells #[.pointer (some ⟨g, 0, none⟩), .slice ps n cs, .slice pq (m + 1) cq, .slice (some ⟨gn, 0, none⟩) n cn, .int .i64 st.ep, .slice pl l cl, .int .i64 (st.asked + 1), vf] 70 (0, 0))) := Lib.hid (by rw [hW6]; exact setCell_heap HR5.out _)
  have hgxF : ¬ F gx := fun hF => by have := HFL.out _ hF; omega
  have HX6 : Hid (AtW W6 gx (⟨(j:Int), s, k, id, st.ep⟩ : Wr)) := by
    have h1 := row_touch HX3.out HT5.out.drewL (fun e => hwngx gx e rfl)
    rw [hW6]
    refine Lib.hid ((Below.heap_setCell _ _ _ _ (fun e => ?_)).trans h1)
    have e1 : gx = g := e
    omega
  have HT6 := Lib.hid T6
  have HE2 : Hid (LogIn (Zn F z 6) w2 (.slice pl l cl) st.asked1.log es) := HES
  have HLO : Hid (Own W6 0 79 38 (.slice pl l cl) l (((st.log.zip es).map fun x => evC x.1 x.2).flatten)) := Lib.hid (by
    have h1 := own_kept HE2.out.own (S := Zn F z 4) HC2.out.logS (zn_off T6 fun b hb hb2 => by have h1 := hb.2; have h2 := hb2.2; omega)
    rw [show st.asked1.log.length = l from HL.out] at h1
    exact h1)
  have C5 : Hid (W6.cell? ⟨g, 5, none⟩ = some (.slice pl l cl)) := Lib.hid (cell_row HR6.out 5 _ rfl)
  have hlz : ∀ b, (Value.slice pl l cl).ownBlock = some b → Zn F z 4 b := HC.out.logS
  have hlng : ∀ b, (Value.slice pl l cl).ownBlock = some b → b ≠ g := fun b hb => zne (hlz b hb) hgz (by decide)
  have hlngx : ∀ b, (Value.slice pl l cl).ownBlock = some b → b ≠ gx := fun b hb e => hgxF (e ▸ (hlz b hb).1)
  have HWT6 : Hid (Own W6 0 74 36 (.slice pq (m + 1) cq) (m + 1) (wrsC st.wait ++ Wr.c (⟨(j:Int), s, k, id, st.ep⟩ : Wr))) := by
    rw [hW6]
    refine Lib.hid (own_set_other HO5.out fun b mm c hv e => ?_)
    have hb : (Value.slice pq (m + 1) cq).ownBlock = some b := by rw [hv]; rfl
    rcases HLOC5.out b hb with h | ⟨h, _⟩
    · exact hwng b h e
    · have := HT3.out.size; have := HB4.out.size; have : w3.drew.heap.size = w3.heap.size := rfl; omega
  have hWL6 : ∀ b, (Value.slice pq (m + 1) cq).ownBlock = some b → (Value.slice pw m cw).ownBlock = some b ∨ (w2.heap.size ≤ b ∧ b < W6.heap.size) := fun b hb => by
    rcases HLOC5.out b hb with h | ⟨h, h2⟩
    · exact Or.inl h
    · have := HT3.out.size; have := HB4.out.size; have : w3.drew.heap.size = w3.heap.size := rfl
      exact Or.inr ⟨by omega, by rw [hW6, size_set]; exact h2⟩
  have HWL6 := Lib.hid hWL6
  have HSE6 : Hid (Own W6 0 35 32 (.slice (some ⟨gn, 0, none⟩) n cn) n (cellsOf ((seenOf st).set j s))) := by
    have T36 : Touch (fun b => F b ∧ (z b = 0 ∨ z b = 2)) w3 W6 := by rw [hW6]; exact Touch.setCell (HT5.out.drewL.mono fun b hb => ⟨(hwz b hb).1, Or.inr (hwz b hb).2⟩) ⟨g, 2, none⟩ ⟨hgz.1, Or.inl hgz.2⟩ _
    exact Lib.hid (own_kept HO3.out (S := fun b => b = gn) (fun b hb => by cases hb; rfl) (T36.keeps fun b hb hb2 => by have h1 := hgnz.2; rw [hb] at hb2; have h2 := hb2.2; omega))
  have hg6' : g < W6.heap.size := (Array.getElem?_eq_some_iff.1 HR6.out).1
  have HEN := Lib.hid (evC_ones (1, (⟨(j:Int), s, k, id, st.ep⟩ : Wr), []) (.slice none 0 0) rfl)
  rw [← hW6]
  clear hHeld hH0 h0 h1 h2 h4 hW6 T25 T6 C2 HWO HX3 HO5 HLOC5 HT5 HRD4 HB4 HR5 hWL6 ht5 hbel4 hb4 HR3
  go_wp2_with fail
  have h0 : Touch (fun b => (Value.slice pl l cl).ownBlock = some b) W6.drew W6.drew := Touch.refl _ _
  refine wp_region_last (S := Touch (fun b => (Value.slice pl l cl).ownBlock = some b) W6.drew) 11 (by kernel_rfl) (Touch.refl _ _) (fun hH0 => ?_)
  refine wpAnyL_take (i := 0) (oi := { dst := some 46, op := Op.move (Operand.tmp 0), type := 26, pos := "bdisk.go:75", after := #[], guard := none }) (v := ?_) rfl (by kernel_rfl) (by kernel_rfl) (by kernel_rfl) (by kernel_rfl) (fun _ _ _ h => h) (Or.inl ⟨by rfl, ?_⟩) (by assumption) ?_
  rotate_left
  · (intro w' hSw; go_simp; try with_reducible rfl)
  try simp only [Act.put, List.setIfInBounds_toArray, List.set_cons_zero, List.set_cons_succ]
  refine wpAnyL_take (i := 1) (oi := { dst := some 47, op := Op.move (Operand.tmp 0), type := 26, pos := "bdisk.go:75", after := #[], guard := none }) (v := ?_) rfl (by kernel_rfl) (by kernel_rfl) (by kernel_rfl) (by kernel_rfl) (fun _ _ _ h => h) (Or.inl ⟨by rfl, ?_⟩) (by assumption) ?_
  rotate_left
  · (intro w' hSw; go_simp; try with_reducible rfl)
  try simp only [Act.put, List.setIfInBounds_toArray, List.set_cons_zero, List.set_cons_succ]
  refine wpAnyL_take (i := 2) (oi := { dst := some 48, op := Op.nilCheck (Operand.tmp 47), type := 0, pos := "bdisk.go:75", after := #[{ on := 1, ground := Ground.data }], guard := none }) (v := ?_) rfl (by kernel_rfl) (by kernel_rfl) (by kernel_rfl) (by kernel_rfl) (fun _ _ _ h => h) (Or.inl ⟨by rfl, ?_⟩) (by assumption) ?_
  rotate_left
  · (intro w' hSw; go_simp; try with_reducible rfl)
  try simp only [Act.put, List.setIfInBounds_toArray, List.set_cons_zero, List.set_cons_succ]
  refine wpAnyL_take (i := 3) (oi := { dst := some 49, op := Op.fieldAddr 70 (Operand.tmp 48) 5, type := 0, pos := "bdisk.go:75", after := #[{ on := 2, ground := Ground.data }], guard := none }) (v := ?_) rfl (by kernel_rfl) (by kernel_rfl) (by kernel_rfl) (by kernel_rfl) (fun _ _ _ h => h) (Or.inl ⟨by rfl, ?_⟩) (by assumption) ?_
  rotate_left
  · (intro w' hSw; go_simp; try with_reducible rfl)
  try simp only [Act.put, List.setIfInBounds_toArray, List.set_cons_zero, List.set_cons_succ]
  refine' wpAnyL_take (i := 4) (oi := { dst := some 50, op := Op.load 51 (Operand.tmp 49), type := 51, pos := "bdisk.go:75", after := #[{ on := 3, ground := Ground.data }], guard := none }) (v := _) rfl (by kernel_rfl) (by kernel_rfl) (by kernel_rfl) (by kernel_rfl) (fun _ _ _ h => h) (ld_cell (by rfl) 51 _ Try.underlying51 rfl _ rfl g 5 rfl (.slice pl l cl) (fun w' hw => (hw.drewL.cell (p := ⟨g, 5, none⟩) hg6' (fun e => hlng g e rfl)).trans C5.out)) (by assumption) ?_
  try simp only [Act.put, List.setIfInBounds_toArray, List.set_cons_zero, List.set_cons_succ]
  refine' wpAnyL_take (i := 5) (oi := { dst := some 51, op := Op.load 74 (Operand.tmp 10), type := 74, pos := "bdisk.go:75", after := #[], guard := none }) (v := _) rfl (by kernel_rfl) (by kernel_rfl) (by kernel_rfl) (by kernel_rfl) (fun _ _ _ h => h) (ld_wr (by rfl) _ rfl gx 0 rfl (⟨(j:Int), s, k, id, st.ep⟩ : Wr) HS.out (fun w' hw => AtW.range (row_touch HX6.out hw.drewL (fun e => hlngx gx e rfl)))) (by assumption) ?_
  try simp only [Act.put, List.setIfInBounds_toArray, List.set_cons_zero, List.set_cons_succ]
  refine' wpAnyL_take (i := 6) (oi := { dst := some 52, op := Op.build 79 #[(0, Operand.const (Value.int IntKind.i64 1)), (1, Operand.tmp 51)], type := 79, pos := "bdisk.go:75", after := #[{ on := 5, ground := Ground.data }], guard := none }) (v := _) rfl (by kernel_rfl) (by kernel_rfl) (by kernel_rfl) (by kernel_rfl) (fun _ _ _ h => h) (build_yields (by rfl) 79 _ rfl [(0, .int .i64 1), (1, .agg (Wr.c (⟨(j:Int), s, k, id, st.ep⟩ : Wr)).toArray)] rfl _ (built_evw (⟨(j:Int), s, k, id, st.ep⟩ : Wr) HS.out)) (by assumption) ?_
  try simp only [Act.put, List.setIfInBounds_toArray, List.set_cons_zero, List.set_cons_succ]
  -- 7
  refine wpAnyL_ready (rs := [7]) (by kernel_rfl) (by simp) ?_
  refine AllReadyL.cons (o := { dst := some 53, op := Op.buildSlice 51 1 #[(0, Operand.tmp 52)], type := 51, pos := "bdisk.go:75", after := #[{ on := 6, ground := Ground.data }], guard := none }) rfl (fun K hK => ?_) AllReadyL.nil
  refine step_one elem_evs (by decide) (by rfl) _ rfl (evC (1, (⟨(j:Int), s, k, id, st.ep⟩ : Wr), []) (.slice none 0 0)) rfl (evC_len HS.out) ?_
  intro b7 w7 hb7 hrd7 hbel7
  have HRD7 := Lib.hid hrd7
  have HB7 := Lib.hid hbel7
  have h1 : Touch (fun b => (Value.slice pl l cl).ownBlock = some b) W6.drew w7 := Touch.of_below hbel7
  refine hK.out _ _ (Or.inr h1) (fun hHeld => ?_)
  clear hK K hrd7
  try simp only [Act.put, List.setIfInBounds_toArray, List.set_cons_zero, List.set_cons_succ]
  -- 8
  refine wpAnyL_ready (rs := [8]) (by kernel_rfl) (by simp) ?_
  refine AllReadyL.cons (o := { dst := some 54, op := Op.call { callee := Callee.builtin Builtin.append, args := #[Operand.tmp 50, Operand.tmp 53], argTypes := #[51, 51] }, type := 51, pos := "bdisk.go:75", after := #[{ on := 4, ground := Ground.data }, { on := 7, ground := Ground.data }], guard := none }) rfl (fun K hK => ?_) AllReadyL.nil
  refine step_ap3 elem_evs (by rfl) _ _ rfl (.slice pl l cl) l _ (by rfl) (own_later HLO.out.drew HB7.out) _ 1 (evC (1, (⟨(j:Int), s, k, id, st.ep⟩ : Wr), []) (.slice none 0 0)) (by rfl) HRD7.out HEN.out (by omega) ?_
  intro pr cr w8 ho8 ht8 hloc8
  have HO8 := Lib.hid ho8
  have HLOC8 := Lib.hid hloc8
  have h2 := h1.trans ht8
  have HT8 := Lib.hid h2
  refine hK.out _ _ (Or.inr h2) (fun hHeld => ?_)
  clear hK K ho8 hloc8
  try simp only [Act.put, List.setIfInBounds_toArray, List.set_cons_zero, List.set_cons_succ]
  -- 9
  refine wpAnyL_ready (rs := [9]) (by kernel_rfl) (by simp) ?_
  refine AllReadyL.cons (o := { dst := some 55, op := Op.nilCheck (Operand.tmp 46), type := 0, pos := "bdisk.go:75", after := #[{ on := 0, ground := Ground.data }, { on := 0, ground := Ground.phase }, { on := 1, ground := Ground.phase }, { on := 2, ground := Ground.phase }, { on := 3, ground := Ground.phase }, { on := 4, ground := Ground.phase }, { on := 5, ground := Ground.phase }, { on := 6, ground := Ground.phase }, { on := 7, ground := Ground.phase }, { on := 8, ground := Ground.phase }], guard := none }) rfl (fun K hK => ?_) AllReadyL.nil
  go_simp
  refine hK.out _ _ (Or.inr (by assumption)) (fun hHeld => ?_)
  clear hK K
  try simp only [Act.put, List.setIfInBounds_toArray, List.set_cons_zero, List.set_cons_succ]
  refine wpAnyL_take (i := 10) (oi := { dst := some 56, op := Op.fieldAddr 70 (Operand.tmp 55) 5, type := 0, pos := "bdisk.go:75", after := #[{ on := 9, ground := Ground.data }, { on := 0, ground := Ground.phase }, { on := 1, ground := Ground.phase }, { on := 2, ground := Ground.phase }, { on := 3, ground := Ground.phase }, { on := 4, ground := Ground.phase }, { on := 5, ground := Ground.phase }, { on := 6, ground := Ground.phase }, { on := 7, ground := Ground.phase }, { on := 8, ground := Ground.phase }], guard := none }) (v := ?_) rfl (by kernel_rfl) (by kernel_rfl) (by kernel_rfl) (by kernel_rfl) (fun _ _ _ h => h) (Or.inl ⟨by rfl, ?_⟩) (by assumption) ?_
  rotate_left
  · (intro w' hSw; go_simp; try with_reducible rfl)
  try simp only [Act.put, List.setIfInBounds_toArray, List.set_cons_zero, List.set_cons_succ]
  -- 11
  refine wpAnyL_ready (rs := [11]) (by kernel_rfl) (by simp) ?_
  refine AllReadyL.cons (o := { dst := none, op := Op.store 51 (Operand.tmp 56) (Operand.tmp 54), type := 0, pos := "bdisk.go:75", after := #[{ on := 10, ground := Ground.data }, { on := 8, ground := Ground.data }, { on := 8, ground := Ground.chain }, { on := 0, ground := Ground.phase }, { on := 1, ground := Ground.phase }, { on := 2, ground := Ground.phase }, { on := 3, ground := Ground.phase }, { on := 4, ground := Ground.phase }, { on := 5, ground := Ground.phase }, { on := 6, ground := Ground.phase }, { on := 7, ground := Ground.phase }, { on := 8, ground := Ground.phase }], guard := none }) rfl (fun K hK => ?_) AllReadyL.nil
  have HR8 := Lib.hid (row_touch HR6.out HT8.out.drewL (fun e => hlng g e rfl))
  have c12 := cell_row HR8.out 5 (.slice pl l cl) rfl
  have z12 := frozen_row HR8.out 5
  have h4 := HT8.out
  go_simp
  refine hK.out _ _ (Or.inl rfl) (fun hHeld => ?_)
  clear hK K c12 z12
  try simp only [Act.put, List.setIfInBounds_toArray, List.set_cons_zero, List.set_cons_succ]
  refine wpAnyL_done (by kernel_rfl) ?_ _
  obtain ⟨W9, hW9⟩ : ∃ W9, W9 = w8.setCell ⟨g, 5, none⟩ (.slice pr (l + 1) cr) := ⟨_, rfl⟩
  have T69 : Touch (fun b => F b ∧ (z b = 0 ∨ z b = 4)) W6 W9 := by rw [hW9]; exact Touch.setCell (HT8.out.drewL.mono fun b hb => ⟨(hlz b hb).1, Or.inr (hlz b hb).2⟩) ⟨g, 5, none⟩ ⟨hgz.1, Or.inl hgz.2⟩ _
  have T29 : Touch (fun b => F b ∧ (z b = 0 ∨ z b = 2 ∨ z b = 3 ∨ z b = 4)) w2 W9 := (HT6.out.mono fun b hb => ⟨hb.1, by have := hb.2; omega⟩).trans (T69.mono fun b hb => ⟨hb.1, by have := hb.2; omega⟩)
  have s26 := HT6.out.size
  have s69 := T69.size
  have s67 : W6.heap.size ≤ w7.heap.size := HB7.out.size
  have hrow : W9.heap[g]? = some (.cells #[.pointer (some ⟨g, 0, none⟩), .slice ps n cs, .slice pq (m + 1) cq, .slice (some ⟨gn, 0, none⟩) n cn, .int .i64 st.ep, .slice pr (l + 1) cr, .int .i64 (st.asked + 1), vf] 70 (0, 0)) := by rw [hW9]; exact setCell_heap HR8.out _
  have hseen : Own W9 0 35 32 (.slice (some ⟨gn, 0, none⟩) n cn) n (cellsOf ((seenOf st).set j s)) := own_kept HSE6.out (S := fun b => b = gn) (fun b hb => by cases hb; rfl) (T69.keeps fun b hb hb2 => by have h1 := hgnz.2; rw [hb] at hb2; have h2 := hb2.2; omega)
  have hwait : Own W9 0 74 36 (.slice pq (m + 1) cq) (m + 1) (wrsC st.wait ++ Wr.c (⟨(j:Int), s, k, id, st.ep⟩ : Wr)) := own_kept HWT6.out (S := fun b => (Value.slice pq (m + 1) cq).ownBlock = some b) (fun b hb => hb) (T69.keeps fun b hb hb2 => by
    rcases HWL6.out b hb with h | ⟨h, _⟩
    · have h1 := (hwz b h).2; have h2 := hb2.2; omega
    · have h1 := HFL.out b hb2.1; have h2 := HB2.out.size; omega)
  have hlog : Own W9 0 79 38 (.slice pr (l + 1) cr) (l + 1) (((st.log.zip es).map fun x => evC x.1 x.2).flatten ++ evC (1, (⟨(j:Int), s, k, id, st.ep⟩ : Wr), []) (.slice none 0 0)) := by
    rw [hW9]
    refine own_set_other HO8.out fun b mm c hv e => ?_
    have hb : (Value.slice pr (l + 1) cr).ownBlock = some b := by rw [hv]; rfl
    rcases HLOC8.out b hb with h | ⟨h, _⟩
    · exact hlng b h e
    · omega
  have hfin := codeAt_write (st := st.asked1) (x := (⟨(j:Int), s, k, id, st.ep⟩ : Wr)) (t := .slice none 0 0) (z' := fun b => if b < w2.heap.size then z b else if b < W6.heap.size then 2 else 4) HC2.out HES.out T29 (fun b hb => hb) (fun b hb => if_pos hb) hrow
    (by
      have e : outOf (fun _ => true) (st.asked1.wait ++ [(⟨(j:Int), s, k, id, st.ep⟩ : Wr)]) st.asked1.safe = (seenOf st).set j s := seenOf_more st _
      rw [e, show st.asked1.safe.length = n from HN.out]
      exact hseen)
    (by rw [show st.asked1.wait.length = m from HMM.out]; exact hwait)
    (fun b hb => by
      rcases HWL6.out b hb with h | ⟨h, h2⟩
      · exact Or.inl h
      · exact Or.inr ⟨h, by omega, by rw [if_neg (by omega), if_pos h2]⟩)
    (by rw [show st.asked1.log.length = l from HL.out]; exact hlog)
    (fun b hb => by
      rcases HLOC8.out b hb with h | ⟨h, h2⟩
      · exact Or.inl h
      · exact Or.inr ⟨by omega, by rw [hW9, size_set]; exact h2, by rw [if_neg (by omega), if_neg (by omega)]⟩)
    ⟨hep, HKW.out, HIW.out⟩
  have hTT : Touch F w W9 := (((Touch.of_below HBW.out).trans (HT.out.mono fun b hb => hb.1)).trans (Touch.of_below HB2.out)).trans (T29.mono fun b hb => hb.1)
  have HD : CodeDone CA F (.pointer (some ⟨g, 0, none⟩)) w (0, { st with asked := st.asked + 1, wait := st.wait ++ [⟨(j:Int), s, k, id, st.ep⟩], log := st.log ++ [(1, ⟨(j:Int), s, k, id, st.ep⟩, [])] }) (.returned (.int .i64 0)) W9 := by
    refine ⟨rfl, ⟨_, g, _, _, _, _, vf, rfl, hfin.wider (fun b hb => ?_) (fun _ _ => rfl)⟩, hTT⟩
    have s12 := HB2.out.size
    rcases hb with h | ⟨h4, h5⟩
    · exact Or.inl h
    · exact Or.inr ⟨by omega, h5⟩
  rw [hW9] at HD
  clear hfin
  go_wp2_with fail
  go_ret
  exact HD
theorem CA.narrow {w : World} {F : Nat → Prop} {d : Value} {st : St} (h : CA w F d st) : CA w (fun b => F b ∧ b < w.heap.size) d st := by
  obtain ⟨z, g, vs, vw, vn, vl, vf, rfl, h⟩ := h
  obtain ⟨es, he⟩ := h.log
  refine ⟨z, g, vs, vw, vn, vl, vf, rfl, h.row, ⟨⟨h.own.1, h.lt⟩, h.own.2⟩, h.safe, fun k hk => ⟨⟨(h.safeS k hk).1, (own_blk h.safe hk).2⟩, (h.safeS k hk).2⟩, h.wait, fun k hk => ⟨⟨(h.waitS k hk).1, (own_blk h.wait hk).2⟩, (h.waitS k hk).2⟩, h.seen, fun k hk => ⟨⟨(h.seenS k hk).1, (own_blk h.seen hk).2⟩, (h.seenS k hk).2⟩, ⟨es, he.mono fun b hb hT => ⟨⟨hT.1, hb⟩, hT.2⟩⟩, fun k hk => ⟨⟨(h.logS k hk).1, (own_blk he.own hk).2⟩, (h.logS k hk).2⟩, h.faults.mono fun b hb hT => ⟨⟨hT.1, hb⟩, hT.2⟩, h.eps⟩
theorem codeDone_wide {w w' : World} {F : Nat → Prop} {d : Value} {r : Int × St} {e : Ending} (h : CodeDone CA (fun b => F b ∧ b < w.heap.size) d w r e w') : CodeDone CA F d w r e w' := by
  obtain ⟨h1, ⟨z, g, vs, vw, vn, vl, vf, hd, h2⟩, h3⟩ := h
  refine ⟨h1, ⟨z, g, vs, vw, vn, vl, vf, hd, h2.wider (fun b hb => ?_) (fun _ _ => rfl)⟩, h3.mono fun b hb => hb.1⟩
  rcases hb with h | h
  · exact Or.inl h.1
  · exact Or.inr h
theorem cwrite (w : World) (F : Nat → Prop) (d : Value) (st : St) (i : Int) (s : List Int) (k id : Int) (h : CA w F d st) (hf : st.fine) (hi : wf64 i) (hs : Sec s) (hk : wf64 k) (hid : wf64 id) :
    Calls Try.prog 12 #[d, .int .i64 i, agg s, .agg #[.int .i64 k, .int .i64 id]] w (CodeDone CA F d w (writeR st i s k id)) := by
  unfold writeR
  by_cases hin : 0 ≤ i ∧ i < (st.safe.length : Int)
  · rw [if_pos hin]
    by_cases ha : asks st = true
    · rw [if_pos ha]
      have := cwrite_no w F d st i s k id h hf hi (Or.inr ha)
      rw [if_pos hin] at this
      exact this
    · rw [if_neg ha]
      exact (cwrite_yes w _ d st i s k id h.narrow (fun b hb => hb.2) hf hi hs hk hid hin (by simpa using ha)).mono fun e w' hd => codeDone_wide hd
  · rw [if_neg hin]
    have := cwrite_no w F d st i s k id h hf hi (Or.inl hin)
    rw [if_neg hin] at this
    exact this
end Go.Proofs.Yteobhljkjgocdaa.dsk
