/- What the reference's Sync gives. -/
import Derived.Test.YteobhljkjgocdaaDskSettle
import Derived.Deep.Cut
namespace Go.Proofs.Yteobhljkjgocdaa.dsk
open Go.ChangeShapes Go.WideShapes Go.ChangeAt Go.RowKit
open Go.Proofs.Yteobhljkjgocdaa.rows
open Go.Proofs.Yteobhljkjgocdaa.sec
set_option linter.unusedVariables false
set_option linter.unusedSimpArgs false

def syncR (st : St) (ts : List (Int × Int)) : Int × St :=
  if asks st = true then (3, st.asked1) else (0, { st with safe := (settle st.safe st.wait ts).1, wait := (settle st.safe st.wait ts).2, asked := st.asked + 1, log := st.log ++ [(2, w0, ts)] })
set_option maxHeartbeats 3200000 in
theorem rsync_no (S : Nat → Prop) (g : Nat) (st : St) (w : World) (h : RefIs w S g st) (hf : st.few) (p : Option Addr) (q c : Nat) (ts : List (Int × Int)) (hn : asks st = true) :
    Calls Try.prog 39 #[.pointer (some ⟨g, 0, none⟩), .slice p q c] w (RefDone S g w (3, st.asked1)) := by
  obtain ⟨vs, vw, vl, vb, h⟩ := h
  have HA := Lib.hid h
  have HF := Lib.hid (rfails' S g st _ _ _ vb w h (by have := hf.bn; omega) ⟨hf.as0, by have := hf.as1; omega⟩)
  rw [show decide (st.asked ∈ st.bad) = true from hn] at HF
  clear h hf hn
  go_enter Try.func39, Try.ntmps39
  go_wp2_with (go_at_call 48; refine HF.out.mono ?_; rintro e w1 ⟨rfl, hrow, ht, hsz⟩; have HR := Lib.hid (asked1_done HA.out ht hrow); have HT := Lib.hid ht; clear hrow ht hsz)
  go_ret
  exact ⟨rfl, HR.out, HT.out⟩
theorem ap_rd2 {t e : TypeId} {sz by_ : Nat} {z : Value} (E : Elem t e sz by_ z) {w : World} {ops : Array Oper} {rest : List Oper} {o : Oper} {a : Act} {Q : Exit → Act → World → Prop} (hgd : o.guard = none) (s x : Operand)
    (ho : o.op = .call { callee := .builtin .append, args := #[s, x], argTypes := #[t, t] })
    (B : Nat) (v : Value) (n : Nat) (cs : List Value) (hs : a.eval s = v) (hown : Own w B e sz v n cs) (y : Value) (m : Nat) (ds : List Value) (hx : a.eval x = y) (hrd : Rd w sz y m ds) (h1 : ∀ u ∈ ds, u.oneCell' = true) (hl : n + m ≤ 1000000) (hB : B ≤ w.heap.size)
    (h : ∀ p c w', Own w' B e sz (.slice p (n + m) c) (n + m) (cs ++ ds) → Below B w w' → Touch (fun k => v.ownBlock = some k) w w' → wpList Try.prog ops Q rest (a.put o.dst (.slice p (n + m) c)) w') : wpList Try.prog ops Q (o :: rest) a w := by
  refine wpList_plain hgd fun K hK => ?_
  obtain ⟨p, c, w', hr, h2, h3, h4⟩ := run_ap2 E (w := w) o.type B v n cs hown y m ds hrd h1 hl hB
  unfold Oper.wp
  simp [execOp, ho, resolve, invoke, builtin, hs, hx, hr, Result.andThen]
  exact hK _ _ (h p c w' h2 h3 h4)
theorem build_to {ops : Array Oper} {rest : List Oper} {o : Oper} {a : Act} {w : World} {Q : Exit → Act → World → Prop} (hgd : o.guard = none) (T : TypeId) (parts : Array (Nat × Operand)) (ho : o.op = .build T parts) (vs : List (Nat × Value)) (hx : (parts.toList.map fun x => (x.1, a.eval x.2)) = vs) (cells : Array Value) (hf : Try.prog.built T vs = some cells)
    (h : wpList Try.prog ops Q rest (a.put o.dst (.agg cells)) w) : wpList Try.prog ops Q (o :: rest) a w := by
  refine wpList_plain hgd fun K hK => ?_
  have hr := run_build (P := Try.prog) w T (parts.map fun x => (x.1, a.eval x.2)) cells (by rw [Array.toList_map, hx]; exact hf)
  unfold Oper.wp execOp
  simp only [ho, Sem.run_bind, hr, Result.andThen_ok]
  exact hK _ _ h
theorem below_in {a b c : World} {B : Nat} {o : Obj} (h : Below B a b) (hB : B ≤ b.heap.size) {k : Nat} (hk : Below k (b.alloc o) c) (hkB : B ≤ k) (hkb : k ≤ b.heap.size) : Below B a c := (h.alloc hB o).trans (hk.mono hkB)
/-- what was settled has been laid into the disk -/
def AfterSync (w1 wc : World) (g n : Nat) (pl : Option Addr) (l cl : Nat) (vb : Value) (st : St) (SO : List (List Int) × List Wr) : Prop := ∃ po co pl2 nl cl2, wc.heap[g]? = some (.cells #[.slice po n co, .slice pl2 nl cl2, .int .i64 st.ep, .slice pl l cl, vb, .int .i64 (st.asked + 1)] 53 (0, 0)) ∧
  Own wc w1.heap.size 35 32 (.slice po n co) n (cellsOf SO.1) ∧ Own wc w1.heap.size 74 36 (.slice pl2 nl cl2) nl (wrsC SO.2) ∧ nl = SO.2.length ∧ Touch (· = g) w1 wc
set_option maxHeartbeats 3200000 in
theorem rsync_yes (S : Nat → Prop) (g : Nat) (st : St) (w : World) (h : RefIs w S g st) (hf : st.few) (hsl : st.safe.length ≤ 1000) (hpos : ∀ x ∈ st.wait, 0 ≤ x.pos ∧ x.pos < (st.safe.length : Int)) (p : Option Addr) (q c : Nat) (ts : List (Int × Int)) (ht : Rd w 2 (.slice p q c) q (tagsC ts)) (hti : InS (· ≠ g) (.slice p q c)) (hq : q ≤ 1000) (hn : asks st = false) :
    Calls Try.prog 39 #[.pointer (some ⟨g, 0, none⟩), .slice p q c] w (RefDone S g w (0, { st with safe := (settle st.safe st.wait ts).1, wait := (settle st.safe st.wait ts).2, asked := st.asked + 1, log := st.log ++ [(2, w0, ts)] })) := by
  obtain ⟨vs, vw, vl, vb, h⟩ := h
  obtain ⟨ps, cs, hvs⟩ := slice_of h.safe
  subst hvs
  obtain ⟨pw, cw, hvw⟩ := slice_of h.wait
  subst hvw
  obtain ⟨es, hes⟩ := h.log
  obtain ⟨pl, cl, hvl⟩ := slice_of hes.cells
  subst hvl
  have HA := Lib.hid h
  have hlt := h.lt
  have HF := Lib.hid (rfails' S g st _ _ _ vb w h (by have := hf.bn; omega) ⟨hf.as0, by have := hf.as1; omega⟩)
  rw [show decide (st.asked ∈ st.bad) = false from hn] at HF
  have HE := Lib.hid hes
  have HTG := Lib.hid ht
  have HTI := Lib.hid hti
  have hql : ts.length = q := Rd.count tagC ht (fun x _ => rfl) (by decide)
  have HQL := Lib.hid hql
  have HFEW := Lib.hid hf
  have HPOS := Lib.hid hpos
  have hln := hf.ln
  have hwn := hf.wn
  have hqi : (q : Int) ≤ 1000 := by omega
  clear h hf hes ht hti hql hpos hn
  go_enter Try.func39, Try.ntmps39
  go_wp2_with fail
  refine HF.out.mono ?_
  rintro e w1 ⟨rfl, hrow, ht1, hsz⟩
  have c0 : w1.cell? ⟨g, 0, none⟩ = some (.slice ps st.safe.length cs) := cell_row hrow 0 _ rfl
  have c1 : w1.cell? ⟨g, 1, none⟩ = some (.slice pw st.wait.length cw) := cell_row hrow 1 _ rfl
  have HROW := Lib.hid hrow
  have HT := Lib.hid ht1
  have HSZ := Lib.hid hsz
  have hg1 : g < w1.heap.size := by omega
  have HTG1 : Hid (Rd w1 2 (.slice p q c) q (tagsC ts)) := Lib.hid (Rd.kept HTG.out HTI.out (ht1.keeps fun b hb => hb))
  have HSI : Hid (SetIn w1.drew ps st.safe.length cs pw st.wait.length cw p q c st.safe st.wait ts) := Lib.hid
    ⟨(HA.out.keepSafe ht1).1, HFEW.out.ss, rfl, hsl, (HA.out.keepWait ht1).1, HFEW.out.ws, rfl, by omega, HPOS.out, HTG1.out, hq⟩
  have HSET := Lib.hid (rsettle w1.drew ps st.safe.length cs pw st.wait.length cw p q c st.safe st.wait ts HSI.out)
  obtain ⟨SO, hSO⟩ : ∃ SO, settle st.safe st.wait ts = SO := ⟨_, rfl⟩
  rw [hSO] at HSET ⊢
  have HSO := Lib.hid hSO
  clear hrow ht1 hsz hSO HSI
  go_wp2_with fail
  go_cut [] from 7 (fun wc => AfterSync w1 wc g st.safe.length pl st.log.length cl vb st SO)
  case first =>
    have htr : True := trivial
    refine wp_region_held_drew (S := fun _ => True) (by kernel_rfl) trivial (fun hH0 => ?_)
    refine wpAnyH_take (i := 0) (oi := { dst := some 8, op := Op.move (Operand.tmp 0), type := 30, pos := "ref.go:125", after := #[], guard := none }) (v := ?_) rfl (by kernel_rfl) (by kernel_rfl) (by kernel_rfl) (fun _ _ _ h => h) (Or.inl ⟨by rfl, ?_⟩) (by assumption) ?_
    rotate_left
    · (intro w' hSw; go_simp; try with_reducible rfl)
    try simp only [Act.put, List.setIfInBounds_toArray, List.set_cons_zero, List.set_cons_succ]
    refine wpAnyH_take (i := 1) (oi := { dst := some 9, op := Op.move (Operand.tmp 0), type := 30, pos := "ref.go:125", after := #[{ on := 17, ground := Ground.gcOnly Departure.lateStores }], guard := none }) (v := ?_) rfl (by kernel_rfl) (by kernel_rfl) (by kernel_rfl) (fun _ _ _ h => h) (Or.inl ⟨by rfl, ?_⟩) (by assumption) ?_
    rotate_left
    · (intro w' hSw; go_simp; try with_reducible rfl)
    try simp only [Act.put, List.setIfInBounds_toArray, List.set_cons_zero, List.set_cons_succ]
    refine wpAnyH_take (i := 2) (oi := { dst := some 10, op := Op.move (Operand.tmp 0), type := 30, pos := "ref.go:125", after := #[], guard := none }) (v := ?_) rfl (by kernel_rfl) (by kernel_rfl) (by kernel_rfl) (fun _ _ _ h => h) (Or.inl ⟨by rfl, ?_⟩) (by assumption) ?_
    rotate_left
    · (intro w' hSw; go_simp; try with_reducible rfl)
    try simp only [Act.put, List.setIfInBounds_toArray, List.set_cons_zero, List.set_cons_succ]
    refine wpAnyH_take (i := 3) (oi := { dst := some 11, op := Op.nilCheck (Operand.tmp 10), type := 0, pos := "ref.go:125", after := #[{ on := 2, ground := Ground.data }], guard := none }) (v := ?_) rfl (by kernel_rfl) (by kernel_rfl) (by kernel_rfl) (fun _ _ _ h => h) (Or.inl ⟨by rfl, ?_⟩) (by assumption) ?_
    rotate_left
    · (intro w' hSw; go_simp; try with_reducible rfl)
    try simp only [Act.put, List.setIfInBounds_toArray, List.set_cons_zero, List.set_cons_succ]
    refine wpAnyH_take (i := 4) (oi := { dst := some 12, op := Op.fieldAddr 53 (Operand.tmp 11) 0, type := 0, pos := "ref.go:125", after := #[{ on := 3, ground := Ground.data }], guard := none }) (v := ?_) rfl (by kernel_rfl) (by kernel_rfl) (by kernel_rfl) (fun _ _ _ h => h) (Or.inl ⟨by rfl, ?_⟩) (by assumption) ?_
    rotate_left
    · (intro w' hSw; go_simp; try with_reducible rfl)
    try simp only [Act.put, List.setIfInBounds_toArray, List.set_cons_zero, List.set_cons_succ]
    refine wpAnyH_take (i := 6) (oi := { dst := some 14, op := Op.move (Operand.tmp 0), type := 30, pos := "ref.go:125", after := #[], guard := none }) (v := ?_) rfl (by kernel_rfl) (by kernel_rfl) (by kernel_rfl) (fun _ _ _ h => h) (Or.inl ⟨by rfl, ?_⟩) (by assumption) ?_
    rotate_left
    · (intro w' hSw; go_simp; try with_reducible rfl)
    try simp only [Act.put, List.setIfInBounds_toArray, List.set_cons_zero, List.set_cons_succ]
    refine wpAnyH_take (i := 7) (oi := { dst := some 15, op := Op.nilCheck (Operand.tmp 14), type := 0, pos := "ref.go:125", after := #[{ on := 6, ground := Ground.data }], guard := none }) (v := ?_) rfl (by kernel_rfl) (by kernel_rfl) (by kernel_rfl) (fun _ _ _ h => h) (Or.inl ⟨by rfl, ?_⟩) (by assumption) ?_
    rotate_left
    · (intro w' hSw; go_simp; try with_reducible rfl)
    try simp only [Act.put, List.setIfInBounds_toArray, List.set_cons_zero, List.set_cons_succ]
    refine wpAnyH_take (i := 8) (oi := { dst := some 16, op := Op.fieldAddr 53 (Operand.tmp 15) 1, type := 0, pos := "ref.go:125", after := #[{ on := 7, ground := Ground.data }], guard := none }) (v := ?_) rfl (by kernel_rfl) (by kernel_rfl) (by kernel_rfl) (fun _ _ _ h => h) (Or.inl ⟨by rfl, ?_⟩) (by assumption) ?_
    rotate_left
    · (intro w' hSw; go_simp; try with_reducible rfl)
    try simp only [Act.put, List.setIfInBounds_toArray, List.set_cons_zero, List.set_cons_succ]
    refine wpAnyH_take (i := 10) (oi := { dst := some 18, op := Op.move (Operand.tmp 1), type := 38, pos := "ref.go:125", after := #[], guard := none }) (v := ?_) rfl (by kernel_rfl) (by kernel_rfl) (by kernel_rfl) (fun _ _ _ h => h) (Or.inl ⟨by rfl, ?_⟩) (by assumption) ?_
    rotate_left
    · (intro w' hSw; go_simp; try with_reducible rfl)
    try simp only [Act.put, List.setIfInBounds_toArray, List.set_cons_zero, List.set_cons_succ]
    -- 5, 9
    refine wpAnyH_ready (rs := [5, 9]) (by kernel_rfl) (by simp) ?_
    refine AllReadyH.cons (o := { dst := some 13, op := Op.load 22 (Operand.tmp 12), type := 22, pos := "ref.go:125", after := #[{ on := 4, ground := Ground.data }], guard := none }) rfl (fun K hK => ?_) (AllReadyH.cons (o := { dst := some 17, op := Op.load 50 (Operand.tmp 16), type := 50, pos := "ref.go:125", after := #[{ on := 8, ground := Ground.data }], guard := none }) rfl (fun K hK => ?_) AllReadyH.nil)
    · go_simp
      refine hK.out _ _ trivial (fun hHeld => ?_)
      clear hK K
      try simp only [Act.put, List.setIfInBounds_toArray, List.set_cons_zero, List.set_cons_succ]
      -- 9
      refine wpAnyH_ready (rs := [9]) (by kernel_rfl) (by simp) ?_
      refine AllReadyH.cons (o := { dst := some 17, op := Op.load 50 (Operand.tmp 16), type := 50, pos := "ref.go:125", after := #[{ on := 8, ground := Ground.data }], guard := none }) rfl (fun K hK => ?_) AllReadyH.nil
      go_simp
      refine hK.out _ _ trivial (fun hHeld => ?_)
      clear hK K
      try simp only [Act.put, List.setIfInBounds_toArray, List.set_cons_zero, List.set_cons_succ]
      -- 11
      refine wpAnyH_ready (rs := [11]) (by kernel_rfl) (by simp) ?_
      refine AllReadyH.cons (o := { dst := some 19, op := Op.call { callee := Callee.value (Operand.func 49), args := #[Operand.tmp 13, Operand.tmp 17, Operand.tmp 18], argTypes := #[22, 50, 38] }, type := 91, pos := "ref.go:125", after := #[{ on := 5, ground := Ground.data }, { on := 9, ground := Ground.data }, { on := 10, ground := Ground.data }], guard := none }) rfl (fun K hK => ?_) AllReadyH.nil
      go_simp
      refine HSET.out.mono ?_
      rintro e w2 ⟨po, co, pl2, nl, cl2, rfl, hnl, hoo, hol, hb2⟩
      have hrow2 := row_later HROW.out (below_drew hb2) hg1
      have c0b := cell_row hrow2 0 (.slice ps st.safe.length cs) rfl
      have c1b := cell_row hrow2 1 (.slice pw st.wait.length cw) rfl
      have z0b := frozen_row hrow2 0
      have z1b := frozen_row hrow2 1
      have HR2 := Lib.hid hrow2
      have HOO := Lib.hid hoo
      have HOL := Lib.hid hol
      have HNL := Lib.hid hnl
      have HB2 := Lib.hid (below_drew hb2)
      clear hrow2 hoo hol hnl hb2
      dsimp only
      refine hK.out _ _ trivial (fun hHeld => ?_)
      clear hK K
      try simp only [Act.put, List.setIfInBounds_toArray, List.set_cons_zero, List.set_cons_succ]
      refine wpAnyH_take (i := 12) (oi := { dst := some 7, op := Op.move (Operand.tmp 19), type := 91, pos := "ref.go:125", after := #[{ on := 11, ground := Ground.data }], guard := none }) (v := ?_) rfl (by kernel_rfl) (by kernel_rfl) (by kernel_rfl) (fun _ _ _ h => h) (Or.inl ⟨by rfl, ?_⟩) (by assumption) ?_
      rotate_left
      · (intro w' hSw; go_simp; try with_reducible rfl)
      try simp only [Act.put, List.setIfInBounds_toArray, List.set_cons_zero, List.set_cons_succ]
      refine wpAnyH_take (i := 13) (oi := { dst := some 20, op := Op.extract (Operand.tmp 7) 0, type := 22, pos := "ref.go:125", after := #[{ on := 12, ground := Ground.data }], guard := none }) (v := ?_) rfl (by kernel_rfl) (by kernel_rfl) (by kernel_rfl) (fun _ _ _ h => h) (Or.inl ⟨by rfl, ?_⟩) (by assumption) ?_
      rotate_left
      · (intro w' hSw; go_simp; try with_reducible rfl)
      try simp only [Act.put, List.setIfInBounds_toArray, List.set_cons_zero, List.set_cons_succ]
      refine wpAnyH_take (i := 14) (oi := { dst := some 21, op := Op.extract (Operand.tmp 7) 1, type := 50, pos := "ref.go:125", after := #[{ on := 12, ground := Ground.data }, { on := 17, ground := Ground.gcOnly Departure.lateStores }], guard := none }) (v := ?_) rfl (by kernel_rfl) (by kernel_rfl) (by kernel_rfl) (fun _ _ _ h => h) (Or.inl ⟨by rfl, ?_⟩) (by assumption) ?_
      rotate_left
      · (intro w' hSw; go_simp; try with_reducible rfl)
      try simp only [Act.put, List.setIfInBounds_toArray, List.set_cons_zero, List.set_cons_succ]
      refine wpAnyH_take (i := 15) (oi := { dst := some 22, op := Op.nilCheck (Operand.tmp 8), type := 0, pos := "ref.go:125", after := #[{ on := 0, ground := Ground.data }, { on := 0, ground := Ground.phase }, { on := 1, ground := Ground.textOnly Departure.lateStores }, { on := 2, ground := Ground.phase }, { on := 3, ground := Ground.phase }, { on := 4, ground := Ground.phase }, { on := 5, ground := Ground.phase }, { on := 6, ground := Ground.phase }, { on := 7, ground := Ground.phase }, { on := 8, ground := Ground.phase }, { on := 9, ground := Ground.phase }, { on := 10, ground := Ground.phase }, { on := 11, ground := Ground.phase }, { on := 12, ground := Ground.phase }, { on := 13, ground := Ground.phase }, { on := 14, ground := Ground.textOnly Departure.lateStores }], guard := none }) (v := ?_) rfl (by kernel_rfl) (by kernel_rfl) (by kernel_rfl) (fun _ _ _ h => h) (Or.inl ⟨by rfl, ?_⟩) (by assumption) ?_
      rotate_left
      · (intro w' hSw; go_simp; try with_reducible rfl)
      try simp only [Act.put, List.setIfInBounds_toArray, List.set_cons_zero, List.set_cons_succ]
      refine wpAnyH_take (i := 16) (oi := { dst := some 23, op := Op.fieldAddr 53 (Operand.tmp 22) 0, type := 0, pos := "ref.go:125", after := #[{ on := 15, ground := Ground.data }, { on := 0, ground := Ground.phase }, { on := 1, ground := Ground.textOnly Departure.lateStores }, { on := 2, ground := Ground.phase }, { on := 3, ground := Ground.phase }, { on := 4, ground := Ground.phase }, { on := 5, ground := Ground.phase }, { on := 6, ground := Ground.phase }, { on := 7, ground := Ground.phase }, { on := 8, ground := Ground.phase }, { on := 9, ground := Ground.phase }, { on := 10, ground := Ground.phase }, { on := 11, ground := Ground.phase }, { on := 12, ground := Ground.phase }, { on := 13, ground := Ground.phase }, { on := 14, ground := Ground.textOnly Departure.lateStores }], guard := none }) (v := ?_) rfl (by kernel_rfl) (by kernel_rfl) (by kernel_rfl) (fun _ _ _ h => h) (Or.inl ⟨by rfl, ?_⟩) (by assumption) ?_
      rotate_left
      · (intro w' hSw; go_simp; try with_reducible rfl)
      try simp only [Act.put, List.setIfInBounds_toArray, List.set_cons_zero, List.set_cons_succ]
      -- 17
      refine wpAnyH_ready (rs := [17]) (by kernel_rfl) (by simp) ?_
      refine AllReadyH.cons (o := { dst := none, op := Op.store 22 (Operand.tmp 23) (Operand.tmp 20), type := 0, pos := "ref.go:125", after := #[{ on := 16, ground := Ground.data }, { on := 13, ground := Ground.data }, { on := 11, ground := Ground.chain }, { on := 0, ground := Ground.phase }, { on := 1, ground := Ground.textOnly Departure.lateStores }, { on := 2, ground := Ground.phase }, { on := 3, ground := Ground.phase }, { on := 4, ground := Ground.phase }, { on := 5, ground := Ground.phase }, { on := 6, ground := Ground.phase }, { on := 7, ground := Ground.phase }, { on := 8, ground := Ground.phase }, { on := 9, ground := Ground.phase }, { on := 10, ground := Ground.phase }, { on := 11, ground := Ground.phase }, { on := 12, ground := Ground.phase }, { on := 13, ground := Ground.phase }, { on := 14, ground := Ground.textOnly Departure.lateStores }], guard := none }) rfl (fun K hK => ?_) AllReadyH.nil
      go_simp
      refine hK.out _ _ trivial (fun hHeld => ?_)
      clear hK K
      try simp only [Act.put, List.setIfInBounds_toArray, List.set_cons_zero, List.set_cons_succ]
      refine wpAnyH_take (i := 18) (oi := { dst := some 24, op := Op.nilCheck (Operand.tmp 9), type := 0, pos := "ref.go:125", after := #[{ on := 1, ground := Ground.data }, { on := 0, ground := Ground.phase }, { on := 1, ground := Ground.phase }, { on := 2, ground := Ground.phase }, { on := 3, ground := Ground.phase }, { on := 4, ground := Ground.phase }, { on := 5, ground := Ground.phase }, { on := 6, ground := Ground.phase }, { on := 7, ground := Ground.phase }, { on := 8, ground := Ground.phase }, { on := 9, ground := Ground.phase }, { on := 10, ground := Ground.phase }, { on := 11, ground := Ground.phase }, { on := 12, ground := Ground.phase }, { on := 13, ground := Ground.phase }, { on := 14, ground := Ground.phase }, { on := 15, ground := Ground.phase }, { on := 16, ground := Ground.phase }, { on := 17, ground := Ground.phase }], guard := none }) (v := ?_) rfl (by kernel_rfl) (by kernel_rfl) (by kernel_rfl) (fun _ _ _ h => h) (Or.inl ⟨by rfl, ?_⟩) (by assumption) ?_
      rotate_left
      · (intro w' hSw; go_simp; try with_reducible rfl)
      try simp only [Act.put, List.setIfInBounds_toArray, List.set_cons_zero, List.set_cons_succ]
      refine wpAnyH_take (i := 19) (oi := { dst := some 25, op := Op.fieldAddr 53 (Operand.tmp 24) 1, type := 0, pos := "ref.go:125", after := #[{ on := 18, ground := Ground.data }, { on := 0, ground := Ground.phase }, { on := 1, ground := Ground.phase }, { on := 2, ground := Ground.phase }, { on := 3, ground := Ground.phase }, { on := 4, ground := Ground.phase }, { on := 5, ground := Ground.phase }, { on := 6, ground := Ground.phase }, { on := 7, ground := Ground.phase }, { on := 8, ground := Ground.phase }, { on := 9, ground := Ground.phase }, { on := 10, ground := Ground.phase }, { on := 11, ground := Ground.phase }, { on := 12, ground := Ground.phase }, { on := 13, ground := Ground.phase }, { on := 14, ground := Ground.phase }, { on := 15, ground := Ground.phase }, { on := 16, ground := Ground.phase }, { on := 17, ground := Ground.phase }], guard := none }) (v := ?_) rfl (by kernel_rfl) (by kernel_rfl) (by kernel_rfl) (fun _ _ _ h => h) (Or.inl ⟨by rfl, ?_⟩) (by assumption) ?_
      rotate_left
      · (intro w' hSw; go_simp; try with_reducible rfl)
      try simp only [Act.put, List.setIfInBounds_toArray, List.set_cons_zero, List.set_cons_succ]
      -- 20
      refine wpAnyH_ready (rs := [20]) (by kernel_rfl) (by simp) ?_
      refine AllReadyH.cons (o := { dst := none, op := Op.store 50 (Operand.tmp 25) (Operand.tmp 21), type := 0, pos := "ref.go:125", after := #[{ on := 19, ground := Ground.data }, { on := 14, ground := Ground.data }, { on := 17, ground := Ground.chain }, { on := 0, ground := Ground.phase }, { on := 1, ground := Ground.phase }, { on := 2, ground := Ground.phase }, { on := 3, ground := Ground.phase }, { on := 4, ground := Ground.phase }, { on := 5, ground := Ground.phase }, { on := 6, ground := Ground.phase }, { on := 7, ground := Ground.phase }, { on := 8, ground := Ground.phase }, { on := 9, ground := Ground.phase }, { on := 10, ground := Ground.phase }, { on := 11, ground := Ground.phase }, { on := 12, ground := Ground.phase }, { on := 13, ground := Ground.phase }, { on := 14, ground := Ground.phase }, { on := 15, ground := Ground.phase }, { on := 16, ground := Ground.phase }, { on := 17, ground := Ground.phase }], guard := none }) rfl (fun K hK => ?_) AllReadyH.nil
      go_simp
      refine hK.out _ _ trivial (fun hHeld => ?_)
      clear hK K
      try simp only [Act.put, List.setIfInBounds_toArray, List.set_cons_zero, List.set_cons_succ]
      refine wpAnyH_done (by kernel_rfl) ?_ _
      go_wp2_with fail
      go_meet
      case rel => exact ⟨po, co, pl2, nl, cl2, setCell_heap (setCell_heap HR2.out _) _, ownsRow_setCell_below (ownsRow_setCell_below HOO.out (a := ⟨g, 0, none⟩) hg1 _) (a := ⟨g, 1, none⟩) hg1 _, ownsRow_setCell_below (ownsRow_setCell_below HOL.out (a := ⟨g, 0, none⟩) hg1 _) (a := ⟨g, 1, none⟩) hg1 _, HNL.out, Touch.setCell (S := (· = g)) (Touch.setCell (S := (· = g)) (Touch.of_below HB2.out) ⟨g, 0, none⟩ rfl _) ⟨g, 1, none⟩ rfl _⟩
    · go_simp
      refine hK.out _ _ trivial (fun hHeld => ?_)
      clear hK K
      try simp only [Act.put, List.setIfInBounds_toArray, List.set_cons_zero, List.set_cons_succ]
      -- 5
      refine wpAnyH_ready (rs := [5]) (by kernel_rfl) (by simp) ?_
      refine AllReadyH.cons (o := { dst := some 13, op := Op.load 22 (Operand.tmp 12), type := 22, pos := "ref.go:125", after := #[{ on := 4, ground := Ground.data }], guard := none }) rfl (fun K hK => ?_) AllReadyH.nil
      go_simp
      refine hK.out _ _ trivial (fun hHeld => ?_)
      clear hK K
      try simp only [Act.put, List.setIfInBounds_toArray, List.set_cons_zero, List.set_cons_succ]
      -- 11
      refine wpAnyH_ready (rs := [11]) (by kernel_rfl) (by simp) ?_
      refine AllReadyH.cons (o := { dst := some 19, op := Op.call { callee := Callee.value (Operand.func 49), args := #[Operand.tmp 13, Operand.tmp 17, Operand.tmp 18], argTypes := #[22, 50, 38] }, type := 91, pos := "ref.go:125", after := #[{ on := 5, ground := Ground.data }, { on := 9, ground := Ground.data }, { on := 10, ground := Ground.data }], guard := none }) rfl (fun K hK => ?_) AllReadyH.nil
      go_simp
      refine HSET.out.mono ?_
      rintro e w2 ⟨po, co, pl2, nl, cl2, rfl, hnl, hoo, hol, hb2⟩
      have hrow2 := row_later HROW.out (below_drew hb2) hg1
      have c0b := cell_row hrow2 0 (.slice ps st.safe.length cs) rfl
      have c1b := cell_row hrow2 1 (.slice pw st.wait.length cw) rfl
      have z0b := frozen_row hrow2 0
      have z1b := frozen_row hrow2 1
      have HR2 := Lib.hid hrow2
      have HOO := Lib.hid hoo
      have HOL := Lib.hid hol
      have HNL := Lib.hid hnl
      have HB2 := Lib.hid (below_drew hb2)
      clear hrow2 hoo hol hnl hb2
      dsimp only
      refine hK.out _ _ trivial (fun hHeld => ?_)
      clear hK K
      try simp only [Act.put, List.setIfInBounds_toArray, List.set_cons_zero, List.set_cons_succ]
      refine wpAnyH_take (i := 12) (oi := { dst := some 7, op := Op.move (Operand.tmp 19), type := 91, pos := "ref.go:125", after := #[{ on := 11, ground := Ground.data }], guard := none }) (v := ?_) rfl (by kernel_rfl) (by kernel_rfl) (by kernel_rfl) (fun _ _ _ h => h) (Or.inl ⟨by rfl, ?_⟩) (by assumption) ?_
      rotate_left
      · (intro w' hSw; go_simp; try with_reducible rfl)
      try simp only [Act.put, List.setIfInBounds_toArray, List.set_cons_zero, List.set_cons_succ]
      refine wpAnyH_take (i := 13) (oi := { dst := some 20, op := Op.extract (Operand.tmp 7) 0, type := 22, pos := "ref.go:125", after := #[{ on := 12, ground := Ground.data }], guard := none }) (v := ?_) rfl (by kernel_rfl) (by kernel_rfl) (by kernel_rfl) (fun _ _ _ h => h) (Or.inl ⟨by rfl, ?_⟩) (by assumption) ?_
      rotate_left
      · (intro w' hSw; go_simp; try with_reducible rfl)
      try simp only [Act.put, List.setIfInBounds_toArray, List.set_cons_zero, List.set_cons_succ]
      refine wpAnyH_take (i := 14) (oi := { dst := some 21, op := Op.extract (Operand.tmp 7) 1, type := 50, pos := "ref.go:125", after := #[{ on := 12, ground := Ground.data }, { on := 17, ground := Ground.gcOnly Departure.lateStores }], guard := none }) (v := ?_) rfl (by kernel_rfl) (by kernel_rfl) (by kernel_rfl) (fun _ _ _ h => h) (Or.inl ⟨by rfl, ?_⟩) (by assumption) ?_
      rotate_left
      · (intro w' hSw; go_simp; try with_reducible rfl)
      try simp only [Act.put, List.setIfInBounds_toArray, List.set_cons_zero, List.set_cons_succ]
      refine wpAnyH_take (i := 15) (oi := { dst := some 22, op := Op.nilCheck (Operand.tmp 8), type := 0, pos := "ref.go:125", after := #[{ on := 0, ground := Ground.data }, { on := 0, ground := Ground.phase }, { on := 1, ground := Ground.textOnly Departure.lateStores }, { on := 2, ground := Ground.phase }, { on := 3, ground := Ground.phase }, { on := 4, ground := Ground.phase }, { on := 5, ground := Ground.phase }, { on := 6, ground := Ground.phase }, { on := 7, ground := Ground.phase }, { on := 8, ground := Ground.phase }, { on := 9, ground := Ground.phase }, { on := 10, ground := Ground.phase }, { on := 11, ground := Ground.phase }, { on := 12, ground := Ground.phase }, { on := 13, ground := Ground.phase }, { on := 14, ground := Ground.textOnly Departure.lateStores }], guard := none }) (v := ?_) rfl (by kernel_rfl) (by kernel_rfl) (by kernel_rfl) (fun _ _ _ h => h) (Or.inl ⟨by rfl, ?_⟩) (by assumption) ?_
      rotate_left
      · (intro w' hSw; go_simp; try with_reducible rfl)
      try simp only [Act.put, List.setIfInBounds_toArray, List.set_cons_zero, List.set_cons_succ]
      refine wpAnyH_take (i := 16) (oi := { dst := some 23, op := Op.fieldAddr 53 (Operand.tmp 22) 0, type := 0, pos := "ref.go:125", after := #[{ on := 15, ground := Ground.data }, { on := 0, ground := Ground.phase }, { on := 1, ground := Ground.textOnly Departure.lateStores }, { on := 2, ground := Ground.phase }, { on := 3, ground := Ground.phase }, { on := 4, ground := Ground.phase }, { on := 5, ground := Ground.phase }, { on := 6, ground := Ground.phase }, { on := 7, ground := Ground.phase }, { on := 8, ground := Ground.phase }, { on := 9, ground := Ground.phase }, { on := 10, ground := Ground.phase }, { on := 11, ground := Ground.phase }, { on := 12, ground := Ground.phase }, { on := 13, ground := Ground.phase }, { on := 14, ground := Ground.textOnly Departure.lateStores }], guard := none }) (v := ?_) rfl (by kernel_rfl) (by kernel_rfl) (by kernel_rfl) (fun _ _ _ h => h) (Or.inl ⟨by rfl, ?_⟩) (by assumption) ?_
      rotate_left
      · (intro w' hSw; go_simp; try with_reducible rfl)
      try simp only [Act.put, List.setIfInBounds_toArray, List.set_cons_zero, List.set_cons_succ]
      -- 17
      refine wpAnyH_ready (rs := [17]) (by kernel_rfl) (by simp) ?_
      refine AllReadyH.cons (o := { dst := none, op := Op.store 22 (Operand.tmp 23) (Operand.tmp 20), type := 0, pos := "ref.go:125", after := #[{ on := 16, ground := Ground.data }, { on := 13, ground := Ground.data }, { on := 11, ground := Ground.chain }, { on := 0, ground := Ground.phase }, { on := 1, ground := Ground.textOnly Departure.lateStores }, { on := 2, ground := Ground.phase }, { on := 3, ground := Ground.phase }, { on := 4, ground := Ground.phase }, { on := 5, ground := Ground.phase }, { on := 6, ground := Ground.phase }, { on := 7, ground := Ground.phase }, { on := 8, ground := Ground.phase }, { on := 9, ground := Ground.phase }, { on := 10, ground := Ground.phase }, { on := 11, ground := Ground.phase }, { on := 12, ground := Ground.phase }, { on := 13, ground := Ground.phase }, { on := 14, ground := Ground.textOnly Departure.lateStores }], guard := none }) rfl (fun K hK => ?_) AllReadyH.nil
      go_simp
      refine hK.out _ _ trivial (fun hHeld => ?_)
      clear hK K
      try simp only [Act.put, List.setIfInBounds_toArray, List.set_cons_zero, List.set_cons_succ]
      refine wpAnyH_take (i := 18) (oi := { dst := some 24, op := Op.nilCheck (Operand.tmp 9), type := 0, pos := "ref.go:125", after := #[{ on := 1, ground := Ground.data }, { on := 0, ground := Ground.phase }, { on := 1, ground := Ground.phase }, { on := 2, ground := Ground.phase }, { on := 3, ground := Ground.phase }, { on := 4, ground := Ground.phase }, { on := 5, ground := Ground.phase }, { on := 6, ground := Ground.phase }, { on := 7, ground := Ground.phase }, { on := 8, ground := Ground.phase }, { on := 9, ground := Ground.phase }, { on := 10, ground := Ground.phase }, { on := 11, ground := Ground.phase }, { on := 12, ground := Ground.phase }, { on := 13, ground := Ground.phase }, { on := 14, ground := Ground.phase }, { on := 15, ground := Ground.phase }, { on := 16, ground := Ground.phase }, { on := 17, ground := Ground.phase }], guard := none }) (v := ?_) rfl (by kernel_rfl) (by kernel_rfl) (by kernel_rfl) (fun _ _ _ h => h) (Or.inl ⟨by rfl, ?_⟩) (by assumption) ?_
      rotate_left
      · (intro w' hSw; go_simp; try with_reducible rfl)
      try simp only [Act.put, List.setIfInBounds_toArray, List.set_cons_zero, List.set_cons_succ]
      refine wpAnyH_take (i := 19) (oi := { dst := some 25, op := Op.fieldAddr 53 (Operand.tmp 24) 1, type := 0, pos := "ref.go:125", after := #[{ on := 18, ground := Ground.data }, { on := 0, ground := Ground.phase }, { on := 1, ground := Ground.phase }, { on := 2, ground := Ground.phase }, { on := 3, ground := Ground.phase }, { on := 4, ground := Ground.phase }, { on := 5, ground := Ground.phase }, { on := 6, ground := Ground.phase }, { on := 7, ground := Ground.phase }, { on := 8, ground := Ground.phase }, { on := 9, ground := Ground.phase }, { on := 10, ground := Ground.phase }, { on := 11, ground := Ground.phase }, { on := 12, ground := Ground.phase }, { on := 13, ground := Ground.phase }, { on := 14, ground := Ground.phase }, { on := 15, ground := Ground.phase }, { on := 16, ground := Ground.phase }, { on := 17, ground := Ground.phase }], guard := none }) (v := ?_) rfl (by kernel_rfl) (by kernel_rfl) (by kernel_rfl) (fun _ _ _ h => h) (Or.inl ⟨by rfl, ?_⟩) (by assumption) ?_
      rotate_left
      · (intro w' hSw; go_simp; try with_reducible rfl)
      try simp only [Act.put, List.setIfInBounds_toArray, List.set_cons_zero, List.set_cons_succ]
      -- 20
      refine wpAnyH_ready (rs := [20]) (by kernel_rfl) (by simp) ?_
      refine AllReadyH.cons (o := { dst := none, op := Op.store 50 (Operand.tmp 25) (Operand.tmp 21), type := 0, pos := "ref.go:125", after := #[{ on := 19, ground := Ground.data }, { on := 14, ground := Ground.data }, { on := 17, ground := Ground.chain }, { on := 0, ground := Ground.phase }, { on := 1, ground := Ground.phase }, { on := 2, ground := Ground.phase }, { on := 3, ground := Ground.phase }, { on := 4, ground := Ground.phase }, { on := 5, ground := Ground.phase }, { on := 6, ground := Ground.phase }, { on := 7, ground := Ground.phase }, { on := 8, ground := Ground.phase }, { on := 9, ground := Ground.phase }, { on := 10, ground := Ground.phase }, { on := 11, ground := Ground.phase }, { on := 12, ground := Ground.phase }, { on := 13, ground := Ground.phase }, { on := 14, ground := Ground.phase }, { on := 15, ground := Ground.phase }, { on := 16, ground := Ground.phase }, { on := 17, ground := Ground.phase }], guard := none }) rfl (fun K hK => ?_) AllReadyH.nil
      go_simp
      refine hK.out _ _ trivial (fun hHeld => ?_)
      clear hK K
      try simp only [Act.put, List.setIfInBounds_toArray, List.set_cons_zero, List.set_cons_succ]
      refine wpAnyH_done (by kernel_rfl) ?_ _
      go_wp2_with fail
      go_meet
      case rel => exact ⟨po, co, pl2, nl, cl2, setCell_heap (setCell_heap HR2.out _) _, ownsRow_setCell_below (ownsRow_setCell_below HOO.out (a := ⟨g, 0, none⟩) hg1 _) (a := ⟨g, 1, none⟩) hg1 _, ownsRow_setCell_below (ownsRow_setCell_below HOL.out (a := ⟨g, 0, none⟩) hg1 _) (a := ⟨g, 1, none⟩) hg1 _, HNL.out, Touch.setCell (S := (· = g)) (Touch.setCell (S := (· = g)) (Touch.of_below HB2.out) ⟨g, 0, none⟩ rfl _) ⟨g, 1, none⟩ rfl _⟩
  case rest =>
    obtain ⟨po, co, pl2, nl, cl2, hrq, hoo, hol, hnl, htq⟩ := hcut
    have hT1 : Touch (· = g) w wc := HT.out.trans htq
    have hgc : g < wc.heap.size := (Array.getElem?_eq_some_iff.1 hrq).1
    have c3 : wc.cell? ⟨g, 3, none⟩ = some (.slice pl st.log.length cl) := cell_row hrq 3 _ rfl
    have HRC := Lib.hid hrq
    have HEC := Lib.hid (evs_kept HE.out (S' := fun b => S b ∧ b ≠ g) (hT1.keeps fun b hb => hb.2) fun b hb => hb)
    have HLT2 := Lib.hid (HEC.out.cells)
    have HLO := Lib.hid (evs_ones HE.out)
    have HTC : Hid (Rd wc 2 (.slice p q c) q (tagsC ts)) := Lib.hid (Rd.kept HTG.out HTI.out (hT1.keeps fun b hb => hb))
    have HTO : Hid (∀ u ∈ tagsC ts, u.oneCell' = true) := Lib.hid (fun u hu => by
      obtain ⟨l, hl, hul⟩ := List.mem_flatten.1 hu
      obtain ⟨x, _, rfl⟩ := List.mem_map.1 hl
      simp only [tagC, List.mem_cons, List.not_mem_nil, or_false] at hul
      rcases hul with rfl | rfl <;> rfl)
    obtain ⟨cl', hcl'⟩ : ∃ c, ((st.log.zip es).map fun x => evC x.1 x.2).flatten = c := ⟨_, rfl⟩
    rw [hcl'] at HLT2 HLO
    have HCL := Lib.hid hcl'
    have HOO := Lib.hid hoo
    have HOL := Lib.hid hol
    have HNL := Lib.hid hnl
    have HT1 := Lib.hid hT1
    have HTQ := Lib.hid htq
    clear hrq hcl' hoo hol hnl hT1 htq c0 c1
    generalize hll : st.log.length = l at *
    have HLL := Lib.hid hll
    clear hll
    have HLA := Lib.hid (HLT2.out.later (below_alloc (Below.refl _ wc) (.cells #[] 79)))
    have HFIN4 : ∀ (pz : Option Addr) (cz : Nat) (pt2 : Option Addr) (ct2 : Nat) (wz : World), Own wz wc.heap.size 79 38 (.slice pz (l + 1) cz) (l + 1) (cl' ++ evC (2, w0, ts) (.slice pt2 q ct2)) → Below wc.heap.size wc wz → Rd wz 2 (.slice pt2 q ct2) q (tagsC ts) → InS (fun b => wc.heap.size ≤ b ∧ b < wz.heap.size) (.slice pt2 q ct2) →
        wz.heap[g]? = some (.cells #[.slice po st.safe.length co, .slice pl2 nl cl2, .int .i64 st.ep, .slice pl l cl, vb, .int .i64 (st.asked + 1)] 53 (0, 0)) → RefDone S g w (0, { st with safe := (settle st.safe st.wait ts).1, wait := (settle st.safe st.wait ts).2, asked := st.asked + 1, log := st.log ++ [(2, w0, ts)] }) (.returned (.int .i64 0)) (wz.setCell ⟨g, 3, none⟩ (.slice pz (l + 1) cz)) := fun pz cz pt2 ct2 wz ho hb htr hti hr => by
      rw [HSO.out]
      rw [← HCL.out] at ho
      have hT : Touch (· = g) w (wz.setCell ⟨g, 3, none⟩ (.slice pz (l + 1) cz)) := Touch.setCell (S := (· = g)) (HT1.out.trans (Touch.of_below hb)) ⟨g, 3, none⟩ rfl _
      have hsz := size_set wz ⟨g, 3, none⟩ (.slice pz (l + 1) cz)
      have hWc := HT1.out.size
      have hcv := hb.size
      have hw1 := HTQ.out.size
      have hs1 := HSZ.out
      have hio := own_inS ho
      have hi1 := own_inS HOO.out
      have hi2 := own_inS HOL.out
      have hl1 := HLL.out
      have hlen : SO.1.length = st.safe.length := by rw [← HSO.out, settle]; exact outOf_len _ _ _
      have hql := HQL.out
      have hnl := HNL.out
      refine ⟨rfl, ⟨_, _, _, _, setCell_heap hr _, Or.inl HA.out.own, ?_, ?_, ?_, ?_, ⟨es ++ [(.slice pt2 q ct2)], ?_⟩, (HA.out.keepBad hT).1, (HA.out.keepBad hT).2⟩, hT⟩
      · show Rd _ 32 _ SO.1.length (cellsOf SO.1)
        rw [hlen]
        exact Rd.set (HOO.out.rd.later hb) (hi1.mono fun b hb => by have := hb.1; omega)
      · exact hi1.mono fun b hb => ⟨Or.inr ⟨by have := hb.1; omega, by rw [hsz]; have := hb.2; omega⟩, by have := hb.1; omega⟩
      · show Rd _ 36 _ SO.2.length (wrsC SO.2)
        rw [← hnl]
        exact Rd.set (HOL.out.rd.later hb) (hi2.mono fun b hb => by have := hb.1; omega)
      · exact hi2.mono fun b hb => ⟨Or.inr ⟨by have := hb.1; omega, by rw [hsz]; have := hb.2; omega⟩, by have := hb.1; omega⟩
      · show EvsIn _ _ _ (st.log ++ [((2 : Int), w0, ts)]) (st.log ++ [((2 : Int), w0, ts)]).length _
        have e1 : (st.log ++ [((2 : Int), w0, ts)]).length = l + 1 := by simp [hl1]
        rw [e1]
        exact evs_more HE.out hl1.symm (hT.keeps fun b hb => hb.2) (fun b hb => ⟨Or.inl hb.1, hb.2⟩) (Rd.set ho.rd (hio.mono fun b hb => by have := hb.1; omega)) (hio.mono fun b hb => ⟨Or.inr ⟨by have := hb.1; omega, by rw [hsz]; exact hb.2⟩, by have := hb.1; omega⟩)
          ⟨pt2, ct2, by show Value.slice pt2 q ct2 = .slice pt2 ts.length ct2; rw [hql], by show Rd _ 2 _ ts.length _; rw [hql]; exact Rd.set htr (hti.mono fun b hb => by have := hb.1; omega), hti.mono fun b hb => ⟨Or.inr ⟨by have := hb.1; omega, by rw [hsz]; exact hb.2⟩, by have := hb.1; omega⟩⟩
    go_wp2_with (first | (at_builtin; refine ap_rd elem_evs rfl (.tmp 27) (.tmp 31) rfl wc.heap.size _ 0 [] rfl (own_made' _ _ _ _ rfl (Nat.le_refl _)) _ l _ rfl HLA.out HLO.out (by omega) (by rw [size_alloc]; omega) ?_; intro pa ca wa ho hba; rw [Nat.zero_add, List.nil_append] at ho; have HOA := Lib.hid ho; clear ho; have hba2 : Below wc.heap.size wc wa := (below_alloc (Below.refl _ wc) _).trans hba; have HTA := Lib.hid (HTC.out.later (hba2.alloc hba2.size (.cells #[] 37)))) | (at_builtin; refine ap_rd elem_tags rfl (.tmp 33) (.tmp 34) rfl wa.heap.size _ 0 [] rfl (own_made' _ _ _ _ rfl (Nat.le_refl _)) _ q _ rfl HTA.out HTO.out (by omega) (by rw [size_alloc]; omega) ?_; intro pt2 ct2 wt hot hbt; have hbat : Below wa.heap.size wa wt := (below_alloc (Below.refl _ wa) _).trans hbt; have HOA2 := Lib.hid (own_later HOA.out hbat); rw [Nat.zero_add, List.nil_append] at hot; have HOT := Lib.hid hot; clear hot) | (refine build_to rfl 79 #[(0, .const (.int .i64 2)), (2, .tmp 35)] rfl [(0, .int .i64 2), (2, .slice pt2 q ct2)] rfl _ (built_evs ts _ rfl) ?_) | (refine build_one elem_evs (by decide) rfl (.tmp 36) rfl (evC (2, w0, ts) (.slice pt2 q ct2)) rfl rfl ?_) | (at_builtin; refine ap_rd2 elem_evs rfl (.tmp 32) (.tmp 37) rfl wc.heap.size (.slice pa l ca) l cl' rfl (HOA2.out.alloc _) _ 1 _ rfl (rd_laid _ _ _ _ rfl) (evC_ones _ _ rfl) (by omega) (by rw [size_alloc]; have := hba2.size; have := hbat.size; omega) ?_; intro pz cz wz hoz hbz htz; have HOZ := Lib.hid hoz; clear hoz; have hbz2 : Below wc.heap.size wc wz := (hba2.trans ((below_alloc hbat _).mono hba2.size)).trans hbz; have hrz := row_later HRC.out hbz2 hgc; have c3z : wz.cell? ⟨g, 3, none⟩ = some (.slice pl l cl) := cell_row hrz 3 _ rfl; have z3z := frozen_row hrz 3; have HRZ := Lib.hid hrz; have HTZ : Hid (Touch (fun k => (Value.slice pa l ca).ownBlock = some k) (wt.alloc _) wz) := Lib.hid htz; clear hrz htz))
    have hdis : ∀ k, wa.heap.size ≤ k → ¬ ((Value.slice pa l ca).ownBlock = some k) := fun k hk e => by
      cases pa with
      | none => cases e
      | some ad =>
        have e2 : some ad.block = some k := e
        have e3 := Option.some.inj e2
        rcases HOA.out.2 with ⟨h2, _⟩ | ⟨g', cap, cur, h1, h2, h3, _⟩
        · cases h2
        · cases h1
          have h4 := (Array.getElem?_eq_some_iff.1 h3).1
          dsimp only at e3
          omega
    have hti := own_inS HOT.out
    have htr : Rd wz 2 (.slice pt2 q ct2) q (tagsC ts) := Rd.kept (S := fun k => wa.heap.size ≤ k) (HOT.out.rd.later (below_alloc (Below.refl _ wt) _)) (hti.mono fun b hb => hb.1) (HTZ.out.keeps hdis)
    have hwt := hbat.size
    have hwa := hba2.size
    have hwz := HTZ.out.size
    rw [size_alloc] at hwz
    have hfin := HFIN4 pz cz pt2 ct2 wz HOZ.out hbz2 htr (hti.mono fun b hb => ⟨by have := hb.1; omega, by have := hb.2; omega⟩) HRZ.out
    go_ret
    exact hfin
theorem rsync (S : Nat → Prop) (g : Nat) (st : St) (w : World) (h : RefIs w S g st) (hf : st.few) (hsl : st.safe.length ≤ 1000) (hpos : ∀ x ∈ st.wait, 0 ≤ x.pos ∧ x.pos < (st.safe.length : Int)) (p : Option Addr) (q c : Nat) (ts : List (Int × Int)) (ht : Rd w 2 (.slice p q c) q (tagsC ts)) (hti : InS (· ≠ g) (.slice p q c)) (hq : q ≤ 1000) :
    Calls Try.prog 39 #[.pointer (some ⟨g, 0, none⟩), .slice p q c] w (RefDone S g w (syncR st ts)) := by
  by_cases ha : asks st = true
  · have e : syncR st ts = (3, st.asked1) := by rw [syncR, if_pos ha]
    rw [e]
    exact rsync_no S g st w h hf p q c ts ha
  · have e : syncR st ts = (0, { st with safe := (settle st.safe st.wait ts).1, wait := (settle st.safe st.wait ts).2, asked := st.asked + 1, log := st.log ++ [(2, w0, ts)] }) := by rw [syncR, if_neg ha]
    rw [e]
    exact rsync_yes S g st w h hf hsl hpos p q c ts ht hti hq (by simpa using ha)
end Go.Proofs.Yteobhljkjgocdaa.dsk
