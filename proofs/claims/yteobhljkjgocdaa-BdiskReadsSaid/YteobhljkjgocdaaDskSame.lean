/- What the reference's comparisons give of two lists that hold the same. -/
import Derived.Test.YteobhljkjgocdaaDskEq
namespace Go.Proofs.Yteobhljkjgocdaa.dsk
open Go.ChangeShapes Go.WideShapes Go.ChangeAt Go.RowKit
open Go.Proofs.Yteobhljkjgocdaa.rows
open Go.Proofs.Yteobhljkjgocdaa.sec
set_option linter.unusedVariables false

theorem tags_same (p1 p2 : Option Addr) (n c1 c2 : Nat) (ts : List (Int × Int)) (w : World) (h1 : Rd w 2 (.slice p1 n c1) n (tagsC ts)) (h2 : Rd w 2 (.slice p2 n c2) n (tagsC ts)) (l1 : n ≤ 1000) :
    Calls Try.prog 44 #[.slice p1 n c1, .slice p2 n c2] w fun e w' => e = .returned (.bool true) ∧ ∃ k, w' = w.drewN k := by
  have H1 := Lib.hid h1
  have H2 := Lib.hid h2
  have HZ : Hid (ts.length = n) := Lib.hid (Rd.count tagC h1 (fun x _ => rfl) (by decide))
  have hb1 : (n:Int) ≤ 1000 := by omega
  clear h1 h2
  go_enter Try.func44, Try.ntmps44
  go_wp2
  go_loopw [5] (fun iv wr => ∃ (j m : Nat), j ≤ n ∧ iv = .int .i64 (j : Int) ∧ wr = w.drewN m) (fun iv _ => n - (intOf iv).toNat)
  case atStart => exact ⟨0, 0, by omega, rfl, rfl⟩
  case round =>
    obtain ⟨j, m, hj, rfl, rfl⟩ := hrel
    by_cases ha : j < n
    · have ha1 : (j:Int) < n := by omega
      have hjl : j < ts.length := by rw [HZ.out]; exact ha
      obtain ⟨b1, o1, rfl, hc1, hm1, hh1, hl1, HR1⟩ := Rd.chunk tagC H1.out (fun x _ => rfl) (by decide) ha
      obtain ⟨b2, o2, rfl, hc2, hm2, hh2, hl2, HR2⟩ := Rd.chunk tagC H2.out (fun x _ => rfl) (by decide) ha
      have hr1 := HR1 j hjl
      have hr2 := HR2 j hjl
      generalize ts[j] = x at *
      obtain ⟨x1, x2⟩ := x
      have hx1 := hr1 0 _ rfl
      have hx2 := hr1 1 _ rfl
      have hy1 := hr2 0 _ rfl
      have hy2 := hr2 1 _ rfl
      rw [Nat.add_zero] at hx1 hy1
      clear HR1 HR2 hl1 hl2 hr1 hr2
      go_wp2_with fail
      go_region
      go_wp2_with fail
      go_roundw
      case rel => exact ⟨j + 1, m + 1, by omega, by go_num, by simp⟩
      case measure => simp [intOf]; omega
    · have hjm : j = n := by omega
      go_wp2_with fail
      go_ret
      exact ⟨rfl, _, rfl⟩
/-- == and != of two structs, taken first in a region that draws its order -/
theorem neq_yields {ops : Array Oper} {S : World → Prop} {op : Oper} {a : Act} (hw : Region.wanted op (yielded ops a.tmps) = true) (T r : TypeId) (x y : Operand) (ho : op.op = .binOp .neq T x y r)
    (xs ys : Array Value) (hx : a.eval x = .agg xs) (hy : a.eval y = .agg ys) (hg : Try.prog.eqGuardType Try.prog.depth T = false) (q : Bool) (he : ∀ w, (Op.equalIn 10000 T (.agg xs) (.agg ys)).run Try.prog w = .ok q w) : YieldsIf Try.prog ops S op (.bool (!q)) a :=
  .inl ⟨hw, fun w _ => by
    unfold execOp
    simp only [ho, hx, hy, Sem.run_bind, run_eqGuard_agg w .neq T x y xs ys hg, run_neq_struct, he, Result.andThen_ok, Sem.run_pure]⟩
theorem eql_yields {ops : Array Oper} {S : World → Prop} {op : Oper} {a : Act} (hw : Region.wanted op (yielded ops a.tmps) = true) (T r : TypeId) (x y : Operand) (ho : op.op = .binOp .eql T x y r)
    (xs ys : Array Value) (hx : a.eval x = .agg xs) (hy : a.eval y = .agg ys) (hg : Try.prog.eqGuardType Try.prog.depth T = false) (q : Bool) (he : ∀ w, (Op.equalIn 10000 T (.agg xs) (.agg ys)).run Try.prog w = .ok q w) : YieldsIf Try.prog ops S op (.bool q) a :=
  .inl ⟨hw, fun w _ => by
    unfold execOp
    simp only [ho, hx, hy, Sem.run_bind, run_eqGuard_agg w .eql T x y xs ys hg, run_eql_struct, he, Result.andThen_ok, Sem.run_pure]⟩
/-- a load of one cell, taken first in a region that draws its order -/
theorem ld_cell {ops : Array Oper} {S : World → Prop} {op : Oper} {a : Act} (hw : Region.wanted op (yielded ops a.tmps) = true) (T : TypeId) (d : TypeDesc) (hu : Try.prog.underlying T = some d) (hd : d.isRow = false) (x : Operand) (ho : op.op = .load T x)
    (b o : Nat) (hx : a.eval x = .pointer (some ⟨b, o, none⟩)) (v : Value) (hS : ∀ w, S w → w.cell? ⟨b, o, none⟩ = some v) : YieldsIf Try.prog ops S op v a :=
  .inl ⟨hw, fun w h => by
    have hagg : (isAgg T).run Try.prog w = .ok false w := by
      unfold isAgg
      rw [Sem.run_bind, run_underlying hu w]
      cases d <;> simp_all
    unfold execOp
    simp only [ho, hx, Instr.loadAt, Instr.sureAddr, Sem.run_bind, Sem.run_pure, Result.andThen_ok, loadVar, hagg, Bool.false_eq_true, if_false]
    simp [hS w h]⟩
theorem info_wr : (Try.prog.info? 74).map (·.size) = some 36 := by kernel_rfl
/-- a load of a write, taken first in a region that draws its order -/
theorem ld_wr {ops : Array Oper} {S : World → Prop} {op : Oper} {a : Act} (hw : Region.wanted op (yielded ops a.tmps) = true) (x : Operand) (ho : op.op = .load 74 x)
    (b o : Nat) (hx : a.eval x = .pointer (some ⟨b, o, none⟩)) (y : Wr) (hs : Sec y.s) (hS : ∀ w, S w → w.rangeAt b o y.c) : YieldsIf Try.prog ops S op (.agg y.c.toArray) a :=
  yieldsIf_load_mid hw _ x ho b o hx y.c _ hS und_wr rfl (by rw [info_wr, Wr.c_len hs])
def Wrs (ws : List Wr) : Prop := ∀ x ∈ ws, x.ok
theorem writes_same (p1 p2 : Option Addr) (n c1 c2 : Nat) (ws : List Wr) (w : World) (hw : ∀ x ∈ ws, Sec x.s) (h1 : Rd w 36 (.slice p1 n c1) n (wrsC ws)) (h2 : Rd w 36 (.slice p2 n c2) n (wrsC ws)) (l1 : n ≤ 1000) :
    Calls Try.prog 18 #[.slice p1 n c1, .slice p2 n c2] w fun e w' => e = .returned (.bool true) ∧ ∃ k, w' = w.drewN k := by
  have H1 := Lib.hid h1
  have H2 := Lib.hid h2
  have HW := Lib.hid fun x hx => Wr.c_len (hw x hx)
  have HZ : Hid (ws.length = n) := Lib.hid (Rd.count Wr.c h1 HW.out (by decide))
  have hb1 : (n:Int) ≤ 1000 := by omega
  clear h1 h2
  go_enter Try.func18, Try.ntmps18
  go_wp2
  go_loopw [5] (fun iv wr => ∃ (j m : Nat), j ≤ n ∧ iv = .int .i64 (j : Int) ∧ wr = w.drewN m) (fun iv _ => n - (intOf iv).toNat)
  case atStart => exact ⟨0, 0, by omega, rfl, rfl⟩
  case round =>
    obtain ⟨j, m, hj, rfl, rfl⟩ := hrel
    by_cases ha : j < n
    · have ha1 : (j:Int) < n := by omega
      have hjl : j < ws.length := by rw [HZ.out]; exact ha
      obtain ⟨b1, o1, rfl, hc1, hm1, hh1, hl1, HR1⟩ := Rd.chunk Wr.c H1.out HW.out (by decide) ha
      obtain ⟨b2, o2, rfl, hc2, hm2, hh2, hl2, HR2⟩ := Rd.chunk Wr.c H2.out HW.out (by decide) ha
      have hr1 := Lib.hid (HR1 j hjl)
      have hr2 := Lib.hid (HR2 j hjl)
      have hsx := Lib.hid (hw _ (List.getElem_mem hjl))
      generalize ws[j] = x at *
      clear HR1 HR2 hl1 hl2
      go_wp2_with fail
      refine wp_region_held_drew (S := fun w' => w' = (w.drewN m).drew) (by kernel_rfl) rfl (fun hH0 => ?_)
      refine wpAnyH_take (i := 0) (oi := { dst := some 17, op := Op.move (Operand.tmp 0), type := 50, pos := "ref.go:163", after := #[], guard := none }) (v := ?_) rfl (by kernel_rfl) (by kernel_rfl) (by kernel_rfl) (fun _ _ _ h => h) (Or.inl ⟨by rfl, ?_⟩) (by assumption) ?_
      rotate_left
      · (intro w' hSw; go_simp; try with_reducible rfl)
      try simp only [Act.put, List.setIfInBounds_toArray, List.set_cons_zero, List.set_cons_succ]
      refine wpAnyH_take (i := 1) (oi := { dst := some 18, op := Op.move (Operand.tmp 5), type := 3, pos := "ref.go:163", after := #[], guard := none }) (v := ?_) rfl (by kernel_rfl) (by kernel_rfl) (by kernel_rfl) (fun _ _ _ h => h) (Or.inl ⟨by rfl, ?_⟩) (by assumption) ?_
      rotate_left
      · (intro w' hSw; go_simp; try with_reducible rfl)
      try simp only [Act.put, List.setIfInBounds_toArray, List.set_cons_zero, List.set_cons_succ]
      refine wpAnyH_take (i := 2) (oi := { dst := some 19, op := Op.indexAddr 50 (Operand.tmp 17) (Operand.tmp 18), type := 0, pos := "ref.go:163", after := #[{ on := 0, ground := Ground.data }, { on := 1, ground := Ground.data }], guard := none }) (v := ?_) rfl (by kernel_rfl) (by kernel_rfl) (by kernel_rfl) (fun _ _ _ h => h) (Or.inl ⟨by rfl, ?_⟩) (by assumption) ?_
      rotate_left
      · (intro w' hSw; go_simp; try with_reducible rfl)
      try simp only [Act.put, List.setIfInBounds_toArray, List.set_cons_zero, List.set_cons_succ]
      refine' wpAnyH_take (i := 3) (oi := { dst := some 20, op := Op.load 74 (Operand.tmp 19), type := 74, pos := "ref.go:163", after := #[{ on := 2, ground := Ground.data }], guard := none }) (v := _) rfl (by kernel_rfl) (by kernel_rfl) (by kernel_rfl) (fun _ _ _ h => h) (ld_wr (by rfl) _ rfl b1 (o1 + j * 36) rfl x hsx.out (fun w' hw => Rd.rangeLater hr1.out hh1 (by rw [hw]; exact (blw_drewN (Below.refl w.heap.size w) m).drew))) (by assumption) ?_
      try simp only [Act.put, List.setIfInBounds_toArray, List.set_cons_zero, List.set_cons_succ]
      refine wpAnyH_take (i := 4) (oi := { dst := some 21, op := Op.move (Operand.tmp 1), type := 50, pos := "ref.go:163", after := #[], guard := none }) (v := ?_) rfl (by kernel_rfl) (by kernel_rfl) (by kernel_rfl) (fun _ _ _ h => h) (Or.inl ⟨by rfl, ?_⟩) (by assumption) ?_
      rotate_left
      · (intro w' hSw; go_simp; try with_reducible rfl)
      try simp only [Act.put, List.setIfInBounds_toArray, List.set_cons_zero, List.set_cons_succ]
      refine wpAnyH_take (i := 5) (oi := { dst := some 22, op := Op.move (Operand.tmp 5), type := 3, pos := "ref.go:163", after := #[], guard := none }) (v := ?_) rfl (by kernel_rfl) (by kernel_rfl) (by kernel_rfl) (fun _ _ _ h => h) (Or.inl ⟨by rfl, ?_⟩) (by assumption) ?_
      rotate_left
      · (intro w' hSw; go_simp; try with_reducible rfl)
      try simp only [Act.put, List.setIfInBounds_toArray, List.set_cons_zero, List.set_cons_succ]
      refine wpAnyH_take (i := 6) (oi := { dst := some 23, op := Op.indexAddr 50 (Operand.tmp 21) (Operand.tmp 22), type := 0, pos := "ref.go:163", after := #[{ on := 4, ground := Ground.data }, { on := 5, ground := Ground.data }], guard := none }) (v := ?_) rfl (by kernel_rfl) (by kernel_rfl) (by kernel_rfl) (fun _ _ _ h => h) (Or.inl ⟨by rfl, ?_⟩) (by assumption) ?_
      rotate_left
      · (intro w' hSw; go_simp; try with_reducible rfl)
      try simp only [Act.put, List.setIfInBounds_toArray, List.set_cons_zero, List.set_cons_succ]
      refine' wpAnyH_take (i := 7) (oi := { dst := some 24, op := Op.load 74 (Operand.tmp 23), type := 74, pos := "ref.go:163", after := #[{ on := 6, ground := Ground.data }], guard := none }) (v := _) rfl (by kernel_rfl) (by kernel_rfl) (by kernel_rfl) (fun _ _ _ h => h) (ld_wr (by rfl) _ rfl b2 (o2 + j * 36) rfl x hsx.out (fun w' hw => Rd.rangeLater hr2.out hh2 (by rw [hw]; exact (blw_drewN (Below.refl w.heap.size w) m).drew))) (by assumption) ?_
      try simp only [Act.put, List.setIfInBounds_toArray, List.set_cons_zero, List.set_cons_succ]
      refine' wpAnyH_take (i := 8) (oi := { dst := some 25, op := Op.binOp BinOp.neq 74 (Operand.tmp 20) (Operand.tmp 24) 74, type := 4, pos := "ref.go:163", after := #[{ on := 3, ground := Ground.data }, { on := 7, ground := Ground.data }], guard := none }) (v := _) rfl (by kernel_rfl) (by kernel_rfl) (by kernel_rfl) (fun _ _ _ h => h) (neq_yields (by rfl) 74 74 _ _ rfl x.c.toArray x.c.toArray rfl rfl guard_wr true (fun w' => by rw [eqIn_wr w' hsx.out hsx.out, Wr.eqB_self])) (by assumption) ?_
      try simp only [Act.put, List.setIfInBounds_toArray, List.set_cons_zero, List.set_cons_succ]
      refine wpAnyH_done (by kernel_rfl) ?_ _
      go_wp2_with fail
      go_roundw
      case rel => exact ⟨j + 1, m + 1, by omega, by go_num, by simp⟩
      case measure => simp [intOf]; omega
    · have hjm : j = n := by omega
      go_wp2_with fail
      go_ret
      exact ⟨rfl, _, rfl⟩
theorem und_wrs : Try.prog.underlying 50 = some (.slice 74) := Try.underlying50
theorem und_evsl : Try.prog.underlying 51 = some (.slice 79) := Try.underlying51
theorem und_secs : Try.prog.underlying 22 = some (.slice 35) := Try.underlying22
theorem Touch.drewL {S : Nat → Prop} {a b : World} (h : Touch S a.drew b) : Touch S a b := ⟨h.os, h.tape, h.output, h.size, h.block⟩
theorem und_tags : Try.prog.underlying 38 = some (.slice 37) := Try.underlying38
theorem evC_len {e : Ev} {v : Value} (h : Sec e.2.1.s) : (evC e v).length = 38 := by simp [evC, Wr.c_len h]
theorem cells_evs (es : List Ev) (vs : List Value) : ((es.zip vs).map fun x => evC x.1 x.2).flatten = ((es.zip vs).map fun x => evC x.1 x.2).flatten := rfl
theorem range_mid {w : World} {b o k : Nat} {cs : List Value} (h : w.rangeAt b o cs) : w.rangeAt b (o + k) (cs.drop k) := fun j u hj => by
  rw [List.getElem?_drop] at hj
  rw [Nat.add_assoc]
  exact h (k + j) u hj
theorem range_left {w : World} {b o : Nat} {l r : List Value} (h : w.rangeAt b o (l ++ r)) : w.rangeAt b o l := fun j u hj => h j u (by rw [List.getElem?_append_left (List.getElem?_eq_some_iff.1 hj).1]; exact hj)
/-- one event of a list, in memory -/
theorem ev_at {S : Nat → Prop} {w : World} {p : Option Addr} {c n : Nat} {es : List Ev} {vs : List Value} (h : EvsIn S w (.slice p n c) es n vs) (hs : ∀ e ∈ es, Sec e.2.1.s) {j : Nat} (hj : j < n) :
    ∃ b o, p = some ⟨b, o, none⟩ ∧ n ≤ c ∧ c ≤ maxLen ∧ b < w.heap.size ∧ ∃ hl : j < es.length, ∃ pt ct, w.cell? ⟨b, o + j * 38, none⟩ = some (.int .i64 es[j].1) ∧ w.rangeAt b (o + j * 38 + 1) es[j].2.1.c ∧
      w.cell? ⟨b, o + j * 38 + 37, none⟩ = some (.slice pt es[j].2.2.length ct) ∧ Rd w 2 (.slice pt es[j].2.2.length ct) es[j].2.2.length (tagsC es[j].2.2) := by
  have he : ∀ x ∈ es.zip vs, (evC x.1 x.2).length = 38 := fun x hx => evC_len (hs _ (List.of_mem_zip hx).1)
  obtain ⟨b, o, rfl, h1, h2, h3, h4, h5⟩ := Rd.chunk (fun x : Ev × Value => evC x.1 x.2) h.cells he (by decide) hj
  have hl : j < es.length := by simp [h.len] at h4; omega
  have hlz : j < (es.zip vs).length := by omega
  obtain ⟨pt, ct, hv, hr, _⟩ := h.tags j hl
  have hvl : j < vs.length := by rw [h.len]; exact hl
  have hr1 := h5 j hlz
  have hz : (es.zip vs)[j] = (es[j], vs[j]) := by simp
  have hvj : vs[j] = .slice pt es[j].2.2.length ct := by
    rw [List.getElem?_eq_getElem hvl] at hv
    exact Option.some.inj hv
  rw [hz] at hr1
  have hcl := Wr.c_len (hs _ (List.getElem_mem hl))
  refine ⟨b, o, rfl, h1, h2, h3, hl, pt, ct, ?_, ?_, ?_, hr⟩
  · have := hr1 0 _ rfl
    simpa using this
  · have := range_mid (k := 1) hr1
    exact range_left this
  · refine hr1 37 _ ?_
    show (evC es[j] vs[j])[37]? = _
    rw [evC, List.getElem?_cons_succ, List.getElem?_append_right (by omega), hcl, hvj]
    rfl
theorem events_same (S1 S2 : Nat → Prop) (p1 p2 : Option Addr) (n c1 c2 : Nat) (es : List Ev) (vs1 vs2 : List Value) (w : World) (hs : ∀ e ∈ es, Sec e.2.1.s) (ht : ∀ e ∈ es, e.2.2.length ≤ 1000) (h1 : EvsIn S1 w (.slice p1 n c1) es n vs1) (h2 : EvsIn S2 w (.slice p2 n c2) es n vs2) (l1 : n ≤ 1000) :
    Calls Try.prog 20 #[.slice p1 n c1, .slice p2 n c2] w fun e w' => e = .returned (.bool true) ∧ ∃ k, w' = w.drewN k := by
  have H1 := Lib.hid h1
  have H2 := Lib.hid h2
  have HS := Lib.hid hs
  have HT := Lib.hid ht
  have hb1 : (n:Int) ≤ 1000 := by omega
  clear h1 h2 hs ht
  go_enter Try.func20, Try.ntmps20
  go_wp2
  go_loopw [5] (fun iv wr => ∃ (j m : Nat), j ≤ n ∧ iv = .int .i64 (j : Int) ∧ wr = w.drewN m) (fun iv _ => n - (intOf iv).toNat)
  case atStart => exact ⟨0, 0, by omega, rfl, rfl⟩
  case round =>
    obtain ⟨j, m, hj, rfl, rfl⟩ := hrel
    by_cases ha : j < n
    · have ha1 : (j:Int) < n := by omega
      obtain ⟨b1, o1, rfl, hc1, hm1, hh1, hl, pt1, ct1, hk1, hw1, hv1, hg1⟩ := ev_at H1.out HS.out ha
      obtain ⟨b2, o2, rfl, hc2, hm2, hh2, _, pt2, ct2, hk2, hw2, hv2, hg2⟩ := ev_at H2.out HS.out ha
      have HW1 := Lib.hid hw1
      have HW2 := Lib.hid hw2
      have HV1 := Lib.hid hv1
      have HV2 := Lib.hid hv2
      have HK1 := Lib.hid hk1
      have HK2 := Lib.hid hk2
      have hsx := Lib.hid (HS.out _ (List.getElem_mem hl))
      have hlt := HT.out _ (List.getElem_mem hl)
      have HTS := Lib.hid fun q => tags_same pt1 pt2 _ ct1 ct2 es[j].2.2 (w.drewN q) (Rd.drewN hg1 q) (Rd.drewN hg2 q) hlt
      generalize es[j] = e at *
      obtain ⟨k, x, ts⟩ := e
      dsimp only at HW1 HW2 HV1 HV2 HK1 HK2 hsx hlt HTS
      have HG1 := Lib.hid hg1
      have HG2 := Lib.hid hg2
      dsimp only at HG1 HG2
      clear hw1 hw2 hk1 hk2 hv1 hv2 hg1 hg2
      generalize ts.length = tl at *
      go_wp2_with fail
      refine wp_region_held_drew (S := fun w' => ∃ k, w' = w.drewN k) (by kernel_rfl) ⟨m + 1, by simp⟩ (fun hH0 => ?_)
      refine wpAnyH_take (i := 0) (oi := { dst := some 17, op := Op.move (Operand.tmp 0), type := 51, pos := "ref.go:175", after := #[], guard := none }) (v := ?_) rfl (by kernel_rfl) (by kernel_rfl) (by kernel_rfl) (fun _ _ _ h => h) (Or.inl ⟨by rfl, ?_⟩) (by assumption) ?_
      rotate_left
      · (intro w' hSw; go_simp; try with_reducible rfl)
      try simp only [Act.put, List.setIfInBounds_toArray, List.set_cons_zero, List.set_cons_succ]
      refine wpAnyH_take (i := 1) (oi := { dst := some 18, op := Op.move (Operand.tmp 5), type := 3, pos := "ref.go:175", after := #[], guard := none }) (v := ?_) rfl (by kernel_rfl) (by kernel_rfl) (by kernel_rfl) (fun _ _ _ h => h) (Or.inl ⟨by rfl, ?_⟩) (by assumption) ?_
      rotate_left
      · (intro w' hSw; go_simp; try with_reducible rfl)
      try simp only [Act.put, List.setIfInBounds_toArray, List.set_cons_zero, List.set_cons_succ]
      refine wpAnyH_take (i := 2) (oi := { dst := some 19, op := Op.indexAddr 51 (Operand.tmp 17) (Operand.tmp 18), type := 0, pos := "ref.go:175", after := #[{ on := 0, ground := Ground.data }, { on := 1, ground := Ground.data }], guard := none }) (v := ?_) rfl (by kernel_rfl) (by kernel_rfl) (by kernel_rfl) (fun _ _ _ h => h) (Or.inl ⟨by rfl, ?_⟩) (by assumption) ?_
      rotate_left
      · (intro w' hSw; go_simp; try with_reducible rfl)
      try simp only [Act.put, List.setIfInBounds_toArray, List.set_cons_zero, List.set_cons_succ]
      refine wpAnyH_take (i := 3) (oi := { dst := some 20, op := Op.fieldAddr 79 (Operand.tmp 19) 0, type := 0, pos := "ref.go:175", after := #[{ on := 2, ground := Ground.data }], guard := none }) (v := ?_) rfl (by kernel_rfl) (by kernel_rfl) (by kernel_rfl) (fun _ _ _ h => h) (Or.inl ⟨by rfl, ?_⟩) (by assumption) ?_
      rotate_left
      · (intro w' hSw; go_simp; try with_reducible rfl)
      try simp only [Act.put, List.setIfInBounds_toArray, List.set_cons_zero, List.set_cons_succ]
      refine' wpAnyH_take (i := 4) (oi := { dst := some 21, op := Op.load 3 (Operand.tmp 20), type := 3, pos := "ref.go:175", after := #[{ on := 3, ground := Ground.data }], guard := none }) (v := _) rfl (by kernel_rfl) (by kernel_rfl) (by kernel_rfl) (fun _ _ _ h => h) (ld_cell (by rfl) 3 _ und_int rfl _ rfl b1 (o1 + j * 38) rfl (.int .i64 k) (by rintro w' ⟨q, rfl⟩; exact HK1.out)) (by assumption) ?_
      try simp only [Act.put, List.setIfInBounds_toArray, List.set_cons_zero, List.set_cons_succ]
      refine wpAnyH_take (i := 5) (oi := { dst := some 22, op := Op.move (Operand.tmp 1), type := 51, pos := "ref.go:175", after := #[], guard := none }) (v := ?_) rfl (by kernel_rfl) (by kernel_rfl) (by kernel_rfl) (fun _ _ _ h => h) (Or.inl ⟨by rfl, ?_⟩) (by assumption) ?_
      rotate_left
      · (intro w' hSw; go_simp; try with_reducible rfl)
      try simp only [Act.put, List.setIfInBounds_toArray, List.set_cons_zero, List.set_cons_succ]
      refine wpAnyH_take (i := 6) (oi := { dst := some 23, op := Op.move (Operand.tmp 5), type := 3, pos := "ref.go:175", after := #[], guard := none }) (v := ?_) rfl (by kernel_rfl) (by kernel_rfl) (by kernel_rfl) (fun _ _ _ h => h) (Or.inl ⟨by rfl, ?_⟩) (by assumption) ?_
      rotate_left
      · (intro w' hSw; go_simp; try with_reducible rfl)
      try simp only [Act.put, List.setIfInBounds_toArray, List.set_cons_zero, List.set_cons_succ]
      refine wpAnyH_take (i := 7) (oi := { dst := some 24, op := Op.indexAddr 51 (Operand.tmp 22) (Operand.tmp 23), type := 0, pos := "ref.go:175", after := #[{ on := 5, ground := Ground.data }, { on := 6, ground := Ground.data }], guard := none }) (v := ?_) rfl (by kernel_rfl) (by kernel_rfl) (by kernel_rfl) (fun _ _ _ h => h) (Or.inl ⟨by rfl, ?_⟩) (by assumption) ?_
      rotate_left
      · (intro w' hSw; go_simp; try with_reducible rfl)
      try simp only [Act.put, List.setIfInBounds_toArray, List.set_cons_zero, List.set_cons_succ]
      refine wpAnyH_take (i := 8) (oi := { dst := some 25, op := Op.fieldAddr 79 (Operand.tmp 24) 0, type := 0, pos := "ref.go:175", after := #[{ on := 7, ground := Ground.data }], guard := none }) (v := ?_) rfl (by kernel_rfl) (by kernel_rfl) (by kernel_rfl) (fun _ _ _ h => h) (Or.inl ⟨by rfl, ?_⟩) (by assumption) ?_
      rotate_left
      · (intro w' hSw; go_simp; try with_reducible rfl)
      try simp only [Act.put, List.setIfInBounds_toArray, List.set_cons_zero, List.set_cons_succ]
      refine' wpAnyH_take (i := 9) (oi := { dst := some 26, op := Op.load 3 (Operand.tmp 25), type := 3, pos := "ref.go:175", after := #[{ on := 8, ground := Ground.data }], guard := none }) (v := _) rfl (by kernel_rfl) (by kernel_rfl) (by kernel_rfl) (fun _ _ _ h => h) (ld_cell (by rfl) 3 _ und_int rfl _ rfl b2 (o2 + j * 38) rfl (.int .i64 k) (by rintro w' ⟨q, rfl⟩; exact HK2.out)) (by assumption) ?_
      try simp only [Act.put, List.setIfInBounds_toArray, List.set_cons_zero, List.set_cons_succ]
      refine wpAnyH_take (i := 10) (oi := { dst := some 27, op := Op.binOp BinOp.neq 3 (Operand.tmp 21) (Operand.tmp 26) 3, type := 4, pos := "ref.go:175", after := #[{ on := 4, ground := Ground.data }, { on := 9, ground := Ground.data }], guard := none }) (v := ?_) rfl (by kernel_rfl) (by kernel_rfl) (by kernel_rfl) (fun _ _ _ h => h) (Or.inl ⟨by rfl, ?_⟩) (by assumption) ?_
      rotate_left
      · (intro w' hSw; go_simp; try with_reducible rfl)
      try simp only [Act.put, List.setIfInBounds_toArray, List.set_cons_zero, List.set_cons_succ]
      refine wpAnyH_take (i := 11) (oi := { dst := some 28, op := Op.move (Operand.tmp 27), type := 4, pos := "ref.go:175", after := #[{ on := 10, ground := Ground.data }], guard := none }) (v := ?_) rfl (by kernel_rfl) (by kernel_rfl) (by kernel_rfl) (fun _ _ _ h => h) (Or.inl ⟨by rfl, ?_⟩) (by assumption) ?_
      rotate_left
      · (intro w' hSw; go_simp; try with_reducible rfl)
      try simp only [Act.put, List.setIfInBounds_toArray, List.set_cons_zero, List.set_cons_succ]
      refine wpAnyH_take (i := 12) (oi := { dst := some 29, op := Op.move (Operand.tmp 0), type := 51, pos := "ref.go:175", after := #[{ on := 11, ground := Ground.guard }], guard := some (11, false) }) (v := ?_) rfl (by kernel_rfl) (by kernel_rfl) (by kernel_rfl) (fun _ _ _ h => h) (Or.inl ⟨by rfl, ?_⟩) (by assumption) ?_
      rotate_left
      · (intro w' hSw; go_simp; try with_reducible rfl)
      try simp only [Act.put, List.setIfInBounds_toArray, List.set_cons_zero, List.set_cons_succ]
      refine wpAnyH_take (i := 13) (oi := { dst := some 30, op := Op.move (Operand.tmp 5), type := 3, pos := "ref.go:175", after := #[{ on := 11, ground := Ground.guard }], guard := some (11, false) }) (v := ?_) rfl (by kernel_rfl) (by kernel_rfl) (by kernel_rfl) (fun _ _ _ h => h) (Or.inl ⟨by rfl, ?_⟩) (by assumption) ?_
      rotate_left
      · (intro w' hSw; go_simp; try with_reducible rfl)
      try simp only [Act.put, List.setIfInBounds_toArray, List.set_cons_zero, List.set_cons_succ]
      refine wpAnyH_take (i := 14) (oi := { dst := some 31, op := Op.indexAddr 51 (Operand.tmp 29) (Operand.tmp 30), type := 0, pos := "ref.go:175", after := #[{ on := 12, ground := Ground.data }, { on := 13, ground := Ground.data }, { on := 11, ground := Ground.guard }], guard := some (11, false) }) (v := ?_) rfl (by kernel_rfl) (by kernel_rfl) (by kernel_rfl) (fun _ _ _ h => h) (Or.inl ⟨by rfl, ?_⟩) (by assumption) ?_
      rotate_left
      · (intro w' hSw; go_simp; try with_reducible rfl)
      try simp only [Act.put, List.setIfInBounds_toArray, List.set_cons_zero, List.set_cons_succ]
      refine wpAnyH_take (i := 15) (oi := { dst := some 32, op := Op.fieldAddr 79 (Operand.tmp 31) 1, type := 0, pos := "ref.go:175", after := #[{ on := 14, ground := Ground.data }, { on := 11, ground := Ground.guard }], guard := some (11, false) }) (v := ?_) rfl (by kernel_rfl) (by kernel_rfl) (by kernel_rfl) (fun _ _ _ h => h) (Or.inl ⟨by rfl, ?_⟩) (by assumption) ?_
      rotate_left
      · (intro w' hSw; go_simp; try with_reducible rfl)
      try simp only [Act.put, List.setIfInBounds_toArray, List.set_cons_zero, List.set_cons_succ]
      refine' wpAnyH_take (i := 16) (oi := { dst := some 33, op := Op.load 74 (Operand.tmp 32), type := 74, pos := "ref.go:175", after := #[{ on := 15, ground := Ground.data }, { on := 11, ground := Ground.guard }], guard := some (11, false) }) (v := _) rfl (by kernel_rfl) (by kernel_rfl) (by kernel_rfl) (fun _ _ _ h => h) (ld_wr (by rfl) _ rfl b1 (o1 + j * 38 + 1) rfl x hsx.out (by rintro w' ⟨q, rfl⟩; exact HW1.out)) (by assumption) ?_
      try simp only [Act.put, List.setIfInBounds_toArray, List.set_cons_zero, List.set_cons_succ]
      refine wpAnyH_take (i := 17) (oi := { dst := some 34, op := Op.move (Operand.tmp 1), type := 51, pos := "ref.go:175", after := #[{ on := 11, ground := Ground.guard }], guard := some (11, false) }) (v := ?_) rfl (by kernel_rfl) (by kernel_rfl) (by kernel_rfl) (fun _ _ _ h => h) (Or.inl ⟨by rfl, ?_⟩) (by assumption) ?_
      rotate_left
      · (intro w' hSw; go_simp; try with_reducible rfl)
      try simp only [Act.put, List.setIfInBounds_toArray, List.set_cons_zero, List.set_cons_succ]
      refine wpAnyH_take (i := 18) (oi := { dst := some 35, op := Op.move (Operand.tmp 5), type := 3, pos := "ref.go:175", after := #[{ on := 11, ground := Ground.guard }], guard := some (11, false) }) (v := ?_) rfl (by kernel_rfl) (by kernel_rfl) (by kernel_rfl) (fun _ _ _ h => h) (Or.inl ⟨by rfl, ?_⟩) (by assumption) ?_
      rotate_left
      · (intro w' hSw; go_simp; try with_reducible rfl)
      try simp only [Act.put, List.setIfInBounds_toArray, List.set_cons_zero, List.set_cons_succ]
      refine wpAnyH_take (i := 19) (oi := { dst := some 36, op := Op.indexAddr 51 (Operand.tmp 34) (Operand.tmp 35), type := 0, pos := "ref.go:175", after := #[{ on := 17, ground := Ground.data }, { on := 18, ground := Ground.data }, { on := 11, ground := Ground.guard }], guard := some (11, false) }) (v := ?_) rfl (by kernel_rfl) (by kernel_rfl) (by kernel_rfl) (fun _ _ _ h => h) (Or.inl ⟨by rfl, ?_⟩) (by assumption) ?_
      rotate_left
      · (intro w' hSw; go_simp; try with_reducible rfl)
      try simp only [Act.put, List.setIfInBounds_toArray, List.set_cons_zero, List.set_cons_succ]
      refine wpAnyH_take (i := 20) (oi := { dst := some 37, op := Op.fieldAddr 79 (Operand.tmp 36) 1, type := 0, pos := "ref.go:175", after := #[{ on := 19, ground := Ground.data }, { on := 11, ground := Ground.guard }], guard := some (11, false) }) (v := ?_) rfl (by kernel_rfl) (by kernel_rfl) (by kernel_rfl) (fun _ _ _ h => h) (Or.inl ⟨by rfl, ?_⟩) (by assumption) ?_
      rotate_left
      · (intro w' hSw; go_simp; try with_reducible rfl)
      try simp only [Act.put, List.setIfInBounds_toArray, List.set_cons_zero, List.set_cons_succ]
      refine' wpAnyH_take (i := 21) (oi := { dst := some 38, op := Op.load 74 (Operand.tmp 37), type := 74, pos := "ref.go:175", after := #[{ on := 20, ground := Ground.data }, { on := 11, ground := Ground.guard }], guard := some (11, false) }) (v := _) rfl (by kernel_rfl) (by kernel_rfl) (by kernel_rfl) (fun _ _ _ h => h) (ld_wr (by rfl) _ rfl b2 (o2 + j * 38 + 1) rfl x hsx.out (by rintro w' ⟨q, rfl⟩; exact HW2.out)) (by assumption) ?_
      try simp only [Act.put, List.setIfInBounds_toArray, List.set_cons_zero, List.set_cons_succ]
      refine' wpAnyH_take (i := 22) (oi := { dst := some 39, op := Op.binOp BinOp.neq 74 (Operand.tmp 33) (Operand.tmp 38) 74, type := 4, pos := "ref.go:175", after := #[{ on := 16, ground := Ground.data }, { on := 21, ground := Ground.data }, { on := 11, ground := Ground.guard }], guard := some (11, false) }) (v := _) rfl (by kernel_rfl) (by kernel_rfl) (by kernel_rfl) (fun _ _ _ h => h) (neq_yields (by rfl) 74 74 _ _ rfl x.c.toArray x.c.toArray rfl rfl guard_wr true (fun w' => by rw [eqIn_wr w' hsx.out hsx.out, Wr.eqB_self])) (by assumption) ?_
      try simp only [Act.put, List.setIfInBounds_toArray, List.set_cons_zero, List.set_cons_succ]
      refine wpAnyH_take (i := 23) (oi := { dst := some 40, op := Op.pick (Operand.tmp 28) (Operand.const (Value.bool true)) (Operand.tmp 39), type := 4, pos := "ref.go:175", after := #[{ on := 11, ground := Ground.data }, { on := 22, ground := Ground.data }], guard := none }) (v := ?_) rfl (by kernel_rfl) (by kernel_rfl) (by kernel_rfl) (fun _ _ _ h => h) (Or.inl ⟨by rfl, ?_⟩) (by assumption) ?_
      rotate_left
      · (intro w' hSw; go_simp; try with_reducible rfl)
      try simp only [Act.put, List.setIfInBounds_toArray, List.set_cons_zero, List.set_cons_succ]
      refine wpAnyH_take (i := 24) (oi := { dst := some 41, op := Op.move (Operand.tmp 40), type := 4, pos := "ref.go:175", after := #[{ on := 23, ground := Ground.data }, { on := 11, ground := Ground.chain }], guard := none }) (v := ?_) rfl (by kernel_rfl) (by kernel_rfl) (by kernel_rfl) (fun _ _ _ h => h) (Or.inl ⟨by rfl, ?_⟩) (by assumption) ?_
      rotate_left
      · (intro w' hSw; go_simp; try with_reducible rfl)
      try simp only [Act.put, List.setIfInBounds_toArray, List.set_cons_zero, List.set_cons_succ]
      refine wpAnyH_take (i := 25) (oi := { dst := some 42, op := Op.move (Operand.tmp 0), type := 51, pos := "ref.go:175", after := #[{ on := 24, ground := Ground.guard }], guard := some (24, false) }) (v := ?_) rfl (by kernel_rfl) (by kernel_rfl) (by kernel_rfl) (fun _ _ _ h => h) (Or.inl ⟨by rfl, ?_⟩) (by assumption) ?_
      rotate_left
      · (intro w' hSw; go_simp; try with_reducible rfl)
      try simp only [Act.put, List.setIfInBounds_toArray, List.set_cons_zero, List.set_cons_succ]
      refine wpAnyH_take (i := 26) (oi := { dst := some 43, op := Op.move (Operand.tmp 5), type := 3, pos := "ref.go:175", after := #[{ on := 24, ground := Ground.guard }], guard := some (24, false) }) (v := ?_) rfl (by kernel_rfl) (by kernel_rfl) (by kernel_rfl) (fun _ _ _ h => h) (Or.inl ⟨by rfl, ?_⟩) (by assumption) ?_
      rotate_left
      · (intro w' hSw; go_simp; try with_reducible rfl)
      try simp only [Act.put, List.setIfInBounds_toArray, List.set_cons_zero, List.set_cons_succ]
      refine wpAnyH_take (i := 27) (oi := { dst := some 44, op := Op.indexAddr 51 (Operand.tmp 42) (Operand.tmp 43), type := 0, pos := "ref.go:175", after := #[{ on := 25, ground := Ground.data }, { on := 26, ground := Ground.data }, { on := 24, ground := Ground.guard }], guard := some (24, false) }) (v := ?_) rfl (by kernel_rfl) (by kernel_rfl) (by kernel_rfl) (fun _ _ _ h => h) (Or.inl ⟨by rfl, ?_⟩) (by assumption) ?_
      rotate_left
      · (intro w' hSw; go_simp; try with_reducible rfl)
      try simp only [Act.put, List.setIfInBounds_toArray, List.set_cons_zero, List.set_cons_succ]
      refine wpAnyH_take (i := 28) (oi := { dst := some 45, op := Op.fieldAddr 79 (Operand.tmp 44) 2, type := 0, pos := "ref.go:175", after := #[{ on := 27, ground := Ground.data }, { on := 24, ground := Ground.guard }], guard := some (24, false) }) (v := ?_) rfl (by kernel_rfl) (by kernel_rfl) (by kernel_rfl) (fun _ _ _ h => h) (Or.inl ⟨by rfl, ?_⟩) (by assumption) ?_
      rotate_left
      · (intro w' hSw; go_simp; try with_reducible rfl)
      try simp only [Act.put, List.setIfInBounds_toArray, List.set_cons_zero, List.set_cons_succ]
      refine' wpAnyH_take (i := 29) (oi := { dst := some 46, op := Op.load 38 (Operand.tmp 45), type := 38, pos := "ref.go:175", after := #[{ on := 28, ground := Ground.data }, { on := 24, ground := Ground.guard }], guard := some (24, false) }) (v := _) rfl (by kernel_rfl) (by kernel_rfl) (by kernel_rfl) (fun _ _ _ h => h) (ld_cell (by rfl) 38 _ und_tags rfl _ rfl b1 (o1 + j * 38 + 37) rfl (.slice pt1 tl ct1) (by rintro w' ⟨q, rfl⟩; exact HV1.out)) (by assumption) ?_
      try simp only [Act.put, List.setIfInBounds_toArray, List.set_cons_zero, List.set_cons_succ]
      refine wpAnyH_take (i := 30) (oi := { dst := some 47, op := Op.move (Operand.tmp 1), type := 51, pos := "ref.go:175", after := #[{ on := 24, ground := Ground.guard }], guard := some (24, false) }) (v := ?_) rfl (by kernel_rfl) (by kernel_rfl) (by kernel_rfl) (fun _ _ _ h => h) (Or.inl ⟨by rfl, ?_⟩) (by assumption) ?_
      rotate_left
      · (intro w' hSw; go_simp; try with_reducible rfl)
      try simp only [Act.put, List.setIfInBounds_toArray, List.set_cons_zero, List.set_cons_succ]
      refine wpAnyH_take (i := 31) (oi := { dst := some 48, op := Op.move (Operand.tmp 5), type := 3, pos := "ref.go:175", after := #[{ on := 24, ground := Ground.guard }], guard := some (24, false) }) (v := ?_) rfl (by kernel_rfl) (by kernel_rfl) (by kernel_rfl) (fun _ _ _ h => h) (Or.inl ⟨by rfl, ?_⟩) (by assumption) ?_
      rotate_left
      · (intro w' hSw; go_simp; try with_reducible rfl)
      try simp only [Act.put, List.setIfInBounds_toArray, List.set_cons_zero, List.set_cons_succ]
      refine wpAnyH_take (i := 32) (oi := { dst := some 49, op := Op.indexAddr 51 (Operand.tmp 47) (Operand.tmp 48), type := 0, pos := "ref.go:175", after := #[{ on := 30, ground := Ground.data }, { on := 31, ground := Ground.data }, { on := 24, ground := Ground.guard }], guard := some (24, false) }) (v := ?_) rfl (by kernel_rfl) (by kernel_rfl) (by kernel_rfl) (fun _ _ _ h => h) (Or.inl ⟨by rfl, ?_⟩) (by assumption) ?_
      rotate_left
      · (intro w' hSw; go_simp; try with_reducible rfl)
      try simp only [Act.put, List.setIfInBounds_toArray, List.set_cons_zero, List.set_cons_succ]
      refine wpAnyH_take (i := 33) (oi := { dst := some 50, op := Op.fieldAddr 79 (Operand.tmp 49) 2, type := 0, pos := "ref.go:175", after := #[{ on := 32, ground := Ground.data }, { on := 24, ground := Ground.guard }], guard := some (24, false) }) (v := ?_) rfl (by kernel_rfl) (by kernel_rfl) (by kernel_rfl) (fun _ _ _ h => h) (Or.inl ⟨by rfl, ?_⟩) (by assumption) ?_
      rotate_left
      · (intro w' hSw; go_simp; try with_reducible rfl)
      try simp only [Act.put, List.setIfInBounds_toArray, List.set_cons_zero, List.set_cons_succ]
      refine' wpAnyH_take (i := 34) (oi := { dst := some 51, op := Op.load 38 (Operand.tmp 50), type := 38, pos := "ref.go:175", after := #[{ on := 33, ground := Ground.data }, { on := 24, ground := Ground.guard }], guard := some (24, false) }) (v := _) rfl (by kernel_rfl) (by kernel_rfl) (by kernel_rfl) (fun _ _ _ h => h) (ld_cell (by rfl) 38 _ und_tags rfl _ rfl b2 (o2 + j * 38 + 37) rfl (.slice pt2 tl ct2) (by rintro w' ⟨q, rfl⟩; exact HV2.out)) (by assumption) ?_
      try simp only [Act.put, List.setIfInBounds_toArray, List.set_cons_zero, List.set_cons_succ]
      -- 35
      refine wpAnyH_ready (rs := [35]) (by kernel_rfl) (by simp) ?_
      refine AllReadyH.cons (o := { dst := some 52, op := Op.call { callee := Callee.value (Operand.func 44), args := #[Operand.tmp 46, Operand.tmp 51], argTypes := #[38, 38] }, type := 4, pos := "ref.go:175", after := #[{ on := 29, ground := Ground.data }, { on := 34, ground := Ground.data }, { on := 24, ground := Ground.chain }, { on := 24, ground := Ground.guard }], guard := some (24, false) }) rfl (fun K hK => ?_) AllReadyH.nil
      go_simp
      refine (HTS.out (m + 1)).mono ?_
      rintro e w1 ⟨rfl, q1, rfl⟩
      dsimp only
      refine hK.out _ _ ⟨m + 1 + q1, by simp⟩ (fun hHeld => ?_)
      clear hK K
      try simp only [Act.put, List.setIfInBounds_toArray, List.set_cons_zero, List.set_cons_succ]
      refine wpAnyH_take (i := 36) (oi := { dst := some 53, op := Op.unOp UnOp.not 4 (Operand.tmp 52), type := 4, pos := "ref.go:175", after := #[{ on := 35, ground := Ground.data }, { on := 24, ground := Ground.guard }], guard := some (24, false) }) (v := ?_) rfl (by kernel_rfl) (by kernel_rfl) (by kernel_rfl) (fun _ _ _ h => h) (Or.inl ⟨by rfl, ?_⟩) (by assumption) ?_
      rotate_left
      · (intro w' hSw; go_simp; try with_reducible rfl)
      try simp only [Act.put, List.setIfInBounds_toArray, List.set_cons_zero, List.set_cons_succ]
      refine wpAnyH_take (i := 37) (oi := { dst := some 54, op := Op.pick (Operand.tmp 41) (Operand.const (Value.bool true)) (Operand.tmp 53), type := 4, pos := "ref.go:175", after := #[{ on := 24, ground := Ground.data }, { on := 36, ground := Ground.data }], guard := none }) (v := ?_) rfl (by kernel_rfl) (by kernel_rfl) (by kernel_rfl) (fun _ _ _ h => h) (Or.inl ⟨by rfl, ?_⟩) (by assumption) ?_
      rotate_left
      · (intro w' hSw; go_simp; try with_reducible rfl)
      try simp only [Act.put, List.setIfInBounds_toArray, List.set_cons_zero, List.set_cons_succ]
      refine wpAnyH_done (by kernel_rfl) ?_ _
      go_wp2_with fail
      go_roundw
      case rel => exact ⟨j + 1, m + 1 + q1, by omega, by go_num, by first | rfl | simp⟩
      case measure => simp [intOf]; omega
    · have hjm : j = n := by omega
      go_wp2_with fail
      go_ret
      exact ⟨rfl, _, rfl⟩
end Go.Proofs.Yteobhljkjgocdaa.dsk
