/- What count gives: whether the operation that is asked for now is to fail; its number goes up by one. -/
import Derived.Test.YteobhljkjgocdaaDcA
namespace Go.Proofs.Yteobhljkjgocdaa.dsk
open Go.ChangeShapes Go.WideShapes Go.ChangeAt Go.RowKit
open Go.Proofs.Yteobhljkjgocdaa.rows
open Go.Proofs.Yteobhljkjgocdaa.sec
open Go.Maps
set_option linter.unusedVariables false
set_option linter.unusedSimpArgs false

theorem faults_look {S : Nat → Prop} {w : World} {v : Value} {bad : List Int} {asked : Int} (h : FaultsIn S w v bad asked) (ha : wf64 asked) :
    (Instr.lookup 68 v (.int .i64 asked) true).run Try.prog w = .ok (.tuple #[.agg #[], .bool (decide (asked ∈ bad))]) w := by
  rcases h with ⟨rfl, rfl⟩ | ⟨b, n, D, rfl, hS, hn, ho, hk⟩
  · have := Maps.look_nil true key_int und_faults (zero_unit w) (keyAt_int ha)
    simpa using this
  · obtain ⟨u, ps, hr, hu⟩ := ho.look_ok key_int und_faults (zero_unit w) (unitElem_mk) (keyAt_int ha)
    obtain ⟨rfl, _⟩ := unitElem_inv hu
    rw [hr, hk asked ha (Int.le_refl _)]
theorem mapTurned_touch {S : Nat → Prop} {w w' : World} {b : Nat} (h : w.mapTurned w' b) (hS : S b) : Touch S w w' := by
  have g := h.grown
  exact ⟨g.os, g.tape, g.output, g.size, fun k hk hn => g.block k hk (fun e => hn (by cases e; exact hS))⟩
theorem faults_drop {S : Nat → Prop} {w : World} {v : Value} {bad : List Int} {asked : Int} (h : FaultsIn S w v bad asked) (ha : wf64 asked) (ty : TypeId) :
    ∃ w', (Builtin.delete_ #[68, 3] ty #[v, .int .i64 asked]).run Try.prog w = .ok (.tuple #[]) w' ∧ FaultsIn S w' v bad (asked + 1) ∧ Touch S w w' := by
  rcases h with ⟨rfl, rfl⟩ | ⟨b, n, D, rfl, hS, hn, ho, hk⟩
  · exact ⟨w, Maps.drop_nil key_int und_faults (keyAt_int ha) ty, Or.inl ⟨rfl, rfl⟩, Touch.refl _ _⟩
  · obtain ⟨w', hr, ho', ht⟩ := ho.drop key_int und_faults (keyAt_int ha) ty
    refine ⟨w', hr, Or.inr ⟨b, n, _, rfl, hS, hn, ho', fun k hw hle => ?_⟩, mapTurned_touch ht hS⟩
    rw [Maps.has_del_other (by intro e; injection e; omega)]
    exact hk k hw (by omega)
/-- a pure operation on the map -/
theorem look_yields {ops : Array Oper} {S : World → Prop} {op : Oper} {a : Act} (hw : Region.wanted op (yielded ops a.tmps) = true) (t : TypeId) (m x : Operand) (ho : op.op = .lookup t m x true) (mv xv : Value) (hm : a.eval m = mv) (hx : a.eval x = xv) (v : Value)
    (hr : ∀ w, S w → (Instr.lookup t mv xv true).run Try.prog w = .ok v w) : YieldsIf Try.prog ops S op v a :=
  .inl ⟨hw, fun w hS => by
    unfold execOp
    simp only [ho, hm, hx, Sem.run_bind, hr w hS, Result.andThen_ok]
    rfl⟩
theorem und_map : Try.prog.underlying 68 = some (.map 3 77) := und_faults
theorem zero_unit_info : (Try.prog.info? 77).map (·.zero) = some (some (.agg ([] : List Value).toArray)) := by kernel_rfl
theorem info_unit : (Try.prog.info? 77).map (·.size) = some 0 := by kernel_rfl
theorem step_store_unit {w : World} {ops : Array Oper} {o : Oper} {a : Act} {K : Act → World → Prop} {Q : Exit → Act → World → Prop} {F : Prop} (hw : Region.wanted o (yielded ops a.tmps) = true) (x y : Operand) (ho : o.op = .store 77 x y)
    (g : Nat) (hx : a.eval x = .pointer (some ⟨g, 0, none⟩)) (hy : a.eval y = .agg #[]) (hg : w.heap[g]? = some (.cells #[] 77 (0, 0)))
    (h : ∀ w', Below g w w' → K (a.put o.dst undef) w') : if Region.wanted o (yielded ops a.tmps) = true then Oper.wp Try.prog o a w K Q else F := by
  rw [if_pos hw]
  refine wp_store_row 77 x y ho g #[] hx hy 77 _ hg (by rw [info_unit]; simp) (by simp) (by simp) ?_
  exact h _ ((Below.refl g w).trans ⟨rfl, rfl, rfl, by simp [World.setRow], fun k hk => setRow_other w g k _ (by omega)⟩)
theorem step_delete {S : Nat → Prop} {w : World} {ops : Array Oper} {o : Oper} {a : Act} {K : Act → World → Prop} {Q : Exit → Act → World → Prop} {F : Prop} (hw : Region.wanted o (yielded ops a.tmps) = true) (m x : Operand) (ho : o.op = Op.call { callee := Callee.builtin Builtin.delete, args := #[m, x], argTypes := #[68, 3] })
    {v : Value} {asked : Int} (hm : a.eval m = v) (hx : a.eval x = .int .i64 asked) {bad : List Int} (h : FaultsIn S w v bad asked) (ha : wf64 asked) (hK : ∀ w', FaultsIn S w' v bad (asked + 1) → Touch S w w' → K (a.put o.dst (.tuple #[])) w') : if Region.wanted o (yielded ops a.tmps) = true then Oper.wp Try.prog o a w K Q else F := by
  rw [if_pos hw]
  obtain ⟨w', hr, h1, h2⟩ := faults_drop h ha o.type
  unfold Oper.wp
  simp [execOp, ho, resolve, invoke, builtin, hm, hx, hr, Result.andThen]
  exact hK w' h1 h2
def CountDone (F : Nat → Prop) (z : Nat → Nat) (g : Nat) (st : St) (vs vw vn vl vf : Value) (w : World) (e : Ending) (w' : World) : Prop :=
  e = .returned (.bool (asks st)) ∧ CodeAt w' F z g st.asked1 vs vw vn vl vf ∧ Touch (fun b => F b ∧ (z b = 0 ∨ z b = 5)) w w'
set_option maxHeartbeats 1600000 in
theorem ccount (F : Nat → Prop) (z : Nat → Nat) (g : Nat) (st : St) (vs vw vn vl vf : Value) (w : World) (h : CodeAt w F z g st vs vw vn vl vf) (ha : 0 ≤ st.asked ∧ st.asked ≤ 1000) :
    Calls Try.prog 34 #[.pointer (some ⟨g, 0, none⟩)] w (CountDone F z g st vs vw vn vl vf w) := by
  have hwf : wf64 st.asked := WalkArith.wf_i64 (by omega)
  obtain ⟨a0, a1⟩ := ha
  have HA := Lib.hid h
  have HW := Lib.hid hwf
  have hlt := h.lt
  have C6 := Lib.hid (cell_row h.row 6 _ rfl)
  have C7 := Lib.hid (cell_row h.row 7 _ rfl)
  have HFL := Lib.hid h.faults
  obtain ⟨q, hq⟩ : ∃ q, decide (st.asked ∈ st.bad) = q := ⟨_, rfl⟩
  have HQ : Hid (asks st = q) := Lib.hid hq
  have HLK : Hid (∀ w', Below w.heap.size w w' → (Instr.lookup 68 vf (.int .i64 st.asked) true).run Try.prog w' = .ok (.tuple #[.agg #[], .bool q]) w') := Lib.hid fun w' hb => by
    rw [← hq]
    exact faults_look (faults_kept h.faults (Keeps.of_below hb)) hwf
  clear h hq hwf
  go_enter Try.func34, Try.ntmps34
  go_wp2_with fail
  have h0 := Below.refl w.drew.heap.size w.drew
  refine wp_region_held_drew (S := ext w.drew) (by kernel_rfl) (Below.refl _ _) (fun hH0 => ?_)
  refine wpAnyH_take (i := 0) (oi := { dst := some 6, op := Op.move (Operand.tmp 0), type := 26, pos := "bdisk.go:107", after := #[], guard := none }) (v := ?_) rfl (by kernel_rfl) (by kernel_rfl) (by kernel_rfl) (fun _ _ _ h => h) (Or.inl ⟨by rfl, ?_⟩) (by assumption) ?_
  rotate_left
  · (intro w' hSw; go_simp; try with_reducible rfl)
  try simp only [Act.put, List.setIfInBounds_toArray, List.set_cons_zero, List.set_cons_succ]
  refine wpAnyH_take (i := 1) (oi := { dst := some 7, op := Op.nilCheck (Operand.tmp 6), type := 0, pos := "bdisk.go:107", after := #[{ on := 0, ground := Ground.data }], guard := none }) (v := ?_) rfl (by kernel_rfl) (by kernel_rfl) (by kernel_rfl) (fun _ _ _ h => h) (Or.inl ⟨by rfl, ?_⟩) (by assumption) ?_
  rotate_left
  · (intro w' hSw; go_simp; try with_reducible rfl)
  try simp only [Act.put, List.setIfInBounds_toArray, List.set_cons_zero, List.set_cons_succ]
  refine wpAnyH_take (i := 2) (oi := { dst := some 8, op := Op.fieldAddr 70 (Operand.tmp 7) 7, type := 0, pos := "bdisk.go:107", after := #[{ on := 1, ground := Ground.data }], guard := none }) (v := ?_) rfl (by kernel_rfl) (by kernel_rfl) (by kernel_rfl) (fun _ _ _ h => h) (Or.inl ⟨by rfl, ?_⟩) (by assumption) ?_
  rotate_left
  · (intro w' hSw; go_simp; try with_reducible rfl)
  try simp only [Act.put, List.setIfInBounds_toArray, List.set_cons_zero, List.set_cons_succ]
  refine' wpAnyH_take (i := 3) (oi := { dst := some 9, op := Op.load 68 (Operand.tmp 8), type := 68, pos := "bdisk.go:107", after := #[{ on := 2, ground := Ground.data }], guard := none }) (v := _) rfl (by kernel_rfl) (by kernel_rfl) (by kernel_rfl) (fun _ _ _ h => h) (ld_cell (by rfl) 68 _ und_map rfl _ rfl g 7 rfl vf (fun w' hw => ((below_drew hw).cell (p := ⟨g, 7, none⟩) hlt).trans C7.out)) (by assumption) ?_
  try simp only [Act.put, List.setIfInBounds_toArray, List.set_cons_zero, List.set_cons_succ]
  refine wpAnyH_take (i := 4) (oi := { dst := some 10, op := Op.move (Operand.tmp 0), type := 26, pos := "bdisk.go:107", after := #[], guard := none }) (v := ?_) rfl (by kernel_rfl) (by kernel_rfl) (by kernel_rfl) (fun _ _ _ h => h) (Or.inl ⟨by rfl, ?_⟩) (by assumption) ?_
  rotate_left
  · (intro w' hSw; go_simp; try with_reducible rfl)
  try simp only [Act.put, List.setIfInBounds_toArray, List.set_cons_zero, List.set_cons_succ]
  refine wpAnyH_take (i := 5) (oi := { dst := some 11, op := Op.nilCheck (Operand.tmp 10), type := 0, pos := "bdisk.go:107", after := #[{ on := 4, ground := Ground.data }], guard := none }) (v := ?_) rfl (by kernel_rfl) (by kernel_rfl) (by kernel_rfl) (fun _ _ _ h => h) (Or.inl ⟨by rfl, ?_⟩) (by assumption) ?_
  rotate_left
  · (intro w' hSw; go_simp; try with_reducible rfl)
  try simp only [Act.put, List.setIfInBounds_toArray, List.set_cons_zero, List.set_cons_succ]
  refine wpAnyH_take (i := 6) (oi := { dst := some 12, op := Op.fieldAddr 70 (Operand.tmp 11) 6, type := 0, pos := "bdisk.go:107", after := #[{ on := 5, ground := Ground.data }], guard := none }) (v := ?_) rfl (by kernel_rfl) (by kernel_rfl) (by kernel_rfl) (fun _ _ _ h => h) (Or.inl ⟨by rfl, ?_⟩) (by assumption) ?_
  rotate_left
  · (intro w' hSw; go_simp; try with_reducible rfl)
  try simp only [Act.put, List.setIfInBounds_toArray, List.set_cons_zero, List.set_cons_succ]
  refine' wpAnyH_take (i := 7) (oi := { dst := some 13, op := Op.load 3 (Operand.tmp 12), type := 3, pos := "bdisk.go:107", after := #[{ on := 6, ground := Ground.data }], guard := none }) (v := _) rfl (by kernel_rfl) (by kernel_rfl) (by kernel_rfl) (fun _ _ _ h => h) (ld_cell (by rfl) 3 _ und_int rfl _ rfl g 6 rfl (.int .i64 st.asked) (fun w' hw => ((below_drew hw).cell (p := ⟨g, 6, none⟩) hlt).trans C6.out)) (by assumption) ?_
  try simp only [Act.put, List.setIfInBounds_toArray, List.set_cons_zero, List.set_cons_succ]
  refine' wpAnyH_take (i := 8) (oi := { dst := some 14, op := Op.lookup 68 (Operand.tmp 9) (Operand.tmp 13) true, type := 87, pos := "bdisk.go:107", after := #[{ on := 3, ground := Ground.data }, { on := 7, ground := Ground.data }], guard := none }) (v := _) rfl (by kernel_rfl) (by kernel_rfl) (by kernel_rfl) (fun _ _ _ h => h) (look_yields (by rfl) 68 _ _ rfl vf (.int .i64 st.asked) (by rfl) (by rfl) (.tuple #[.agg #[], .bool q]) (fun w' hw => HLK.out w' (below_drew hw))) (by assumption) ?_
  try simp only [Act.put, List.setIfInBounds_toArray, List.set_cons_zero, List.set_cons_succ]
  refine wpAnyH_take (i := 9) (oi := { dst := some 5, op := Op.move (Operand.tmp 14), type := 87, pos := "bdisk.go:107", after := #[{ on := 8, ground := Ground.data }], guard := none }) (v := ?_) rfl (by kernel_rfl) (by kernel_rfl) (by kernel_rfl) (fun _ _ _ h => h) (Or.inl ⟨by rfl, ?_⟩) (by assumption) ?_
  rotate_left
  · (intro w' hSw; go_simp; try with_reducible rfl)
  try simp only [Act.put, List.setIfInBounds_toArray, List.set_cons_zero, List.set_cons_succ]
  refine wpAnyH_take (i := 10) (oi := { dst := some 15, op := Op.extract (Operand.tmp 5) 0, type := 77, pos := "bdisk.go:107", after := #[{ on := 9, ground := Ground.data }], guard := none }) (v := ?_) rfl (by kernel_rfl) (by kernel_rfl) (by kernel_rfl) (fun _ _ _ h => h) (Or.inl ⟨by rfl, ?_⟩) (by assumption) ?_
  rotate_left
  · (intro w' hSw; go_simp; try with_reducible rfl)
  try simp only [Act.put, List.setIfInBounds_toArray, List.set_cons_zero, List.set_cons_succ]
  refine wpAnyH_take (i := 11) (oi := { dst := some 16, op := Op.extract (Operand.tmp 5) 1, type := 4, pos := "bdisk.go:107", after := #[{ on := 9, ground := Ground.data }, { on := 13, ground := Ground.gcOnly Departure.lateStores }], guard := none }) (v := ?_) rfl (by kernel_rfl) (by kernel_rfl) (by kernel_rfl) (fun _ _ _ h => h) (Or.inl ⟨by rfl, ?_⟩) (by assumption) ?_
  rotate_left
  · (intro w' hSw; go_simp; try with_reducible rfl)
  try simp only [Act.put, List.setIfInBounds_toArray, List.set_cons_zero, List.set_cons_succ]
  -- 12
  refine wpAnyH_ready (rs := [12]) (by kernel_rfl) (by simp) ?_
  refine AllReadyH.cons (o := { dst := some 3, op := Op.alloc 77, type := 0, pos := "bdisk.go:107", after := #[], guard := none }) rfl (fun K hK => ?_) AllReadyH.nil
  refine step_alloc zero_unit_info (by rfl) rfl ?_
  intro gx v1 hgx hrx hb1
  have h1 := below_trans h0 hb1
  have HX := Lib.hid hrx
  refine hK.out _ _ ?_ (fun hHeld => ?_)
  · exact h1
  clear hK K hrx
  try simp only [Act.put, List.setIfInBounds_toArray, List.set_cons_zero, List.set_cons_succ]
  -- 13
  refine wpAnyH_ready (rs := [13]) (by kernel_rfl) (by simp) ?_
  refine AllReadyH.cons (o := { dst := none, op := Op.store 77 (Operand.tmp 3) (Operand.tmp 15), type := 0, pos := "bdisk.go:107", after := #[{ on := 12, ground := Ground.data }, { on := 10, ground := Ground.data }, { on := 0, ground := Ground.phase }, { on := 1, ground := Ground.phase }, { on := 2, ground := Ground.phase }, { on := 3, ground := Ground.phase }, { on := 4, ground := Ground.phase }, { on := 5, ground := Ground.phase }, { on := 6, ground := Ground.phase }, { on := 7, ground := Ground.phase }, { on := 8, ground := Ground.phase }, { on := 9, ground := Ground.phase }, { on := 10, ground := Ground.phase }, { on := 11, ground := Ground.textOnly Departure.lateStores }, { on := 12, ground := Ground.phase }], guard := none }) rfl (fun K hK => ?_) AllReadyH.nil
  refine step_store_unit (by rfl) _ _ (by rfl) gx (by rfl) (by rfl) HX.out ?_
  intro v2 hb2
  have h2 := h1.trans (hb2.mono hgx)
  refine hK.out _ _ ?_ (fun hHeld => ?_)
  · exact h2
  clear hK K
  try simp only [Act.put, List.setIfInBounds_toArray, List.set_cons_zero, List.set_cons_succ]
  refine wpAnyH_take (i := 14) (oi := { dst := some 4, op := Op.assign (Operand.tmp 16), type := 4, pos := "bdisk.go:107", after := #[{ on := 11, ground := Ground.data }, { on := 13, ground := Ground.chain }, { on := 0, ground := Ground.phase }, { on := 1, ground := Ground.phase }, { on := 2, ground := Ground.phase }, { on := 3, ground := Ground.phase }, { on := 4, ground := Ground.phase }, { on := 5, ground := Ground.phase }, { on := 6, ground := Ground.phase }, { on := 7, ground := Ground.phase }, { on := 8, ground := Ground.phase }, { on := 9, ground := Ground.phase }, { on := 10, ground := Ground.phase }, { on := 11, ground := Ground.phase }, { on := 12, ground := Ground.phase }, { on := 13, ground := Ground.phase }], guard := none }) (v := ?_) rfl (by kernel_rfl) (by kernel_rfl) (by kernel_rfl) (fun _ _ _ h => h) (Or.inl ⟨by rfl, ?_⟩) (by assumption) ?_
  rotate_left
  · (intro w' hSw; go_simp; try with_reducible rfl)
  try simp only [Act.put, List.setIfInBounds_toArray, List.set_cons_zero, List.set_cons_succ]
  refine wpAnyH_done (by kernel_rfl) ?_ _
  have HC := Lib.hid (codeAt_kept HA.out (Keeps.of_below (below_drew h2)))
  have HB2 := Lib.hid (below_drew h2)
  have hl2 := HC.out.lt
  have D6 := Lib.hid (cell_row HC.out.row 6 _ rfl)
  have D7 := Lib.hid (cell_row HC.out.row 7 _ rfl)
  clear h0 h1 h2 hb1 hb2 hgx HX C6 C7 hH0 HLK
  have hdist : ∀ b, Zn F z 5 b → b ≠ g := fun b hb e => by have h1 := hb.2; have h2 := HC.out.own.2; rw [e, h2] at h1; omega
  go_wp2_with fail
  have t0 : Touch (Zn F z 5) v2.drew v2.drew := Touch.refl _ _
  refine wp_region_held_drew (S := Touch (Zn F z 5) v2.drew) (by kernel_rfl) (Touch.refl _ _) (fun hH0 => ?_)
  refine wpAnyH_take (i := 0) (oi := { dst := some 17, op := Op.move (Operand.tmp 0), type := 26, pos := "bdisk.go:108", after := #[], guard := none }) (v := ?_) rfl (by kernel_rfl) (by kernel_rfl) (by kernel_rfl) (fun _ _ _ h => h) (Or.inl ⟨by rfl, ?_⟩) (by assumption) ?_
  rotate_left
  · (intro w' hSw; go_simp; try with_reducible rfl)
  try simp only [Act.put, List.setIfInBounds_toArray, List.set_cons_zero, List.set_cons_succ]
  refine wpAnyH_take (i := 1) (oi := { dst := some 18, op := Op.nilCheck (Operand.tmp 17), type := 0, pos := "bdisk.go:108", after := #[{ on := 0, ground := Ground.data }], guard := none }) (v := ?_) rfl (by kernel_rfl) (by kernel_rfl) (by kernel_rfl) (fun _ _ _ h => h) (Or.inl ⟨by rfl, ?_⟩) (by assumption) ?_
  rotate_left
  · (intro w' hSw; go_simp; try with_reducible rfl)
  try simp only [Act.put, List.setIfInBounds_toArray, List.set_cons_zero, List.set_cons_succ]
  refine wpAnyH_take (i := 2) (oi := { dst := some 19, op := Op.fieldAddr 70 (Operand.tmp 18) 7, type := 0, pos := "bdisk.go:108", after := #[{ on := 1, ground := Ground.data }], guard := none }) (v := ?_) rfl (by kernel_rfl) (by kernel_rfl) (by kernel_rfl) (fun _ _ _ h => h) (Or.inl ⟨by rfl, ?_⟩) (by assumption) ?_
  rotate_left
  · (intro w' hSw; go_simp; try with_reducible rfl)
  try simp only [Act.put, List.setIfInBounds_toArray, List.set_cons_zero, List.set_cons_succ]
  refine' wpAnyH_take (i := 3) (oi := { dst := some 20, op := Op.load 68 (Operand.tmp 19), type := 68, pos := "bdisk.go:108", after := #[{ on := 2, ground := Ground.data }], guard := none }) (v := _) rfl (by kernel_rfl) (by kernel_rfl) (by kernel_rfl) (fun _ _ _ h => h) (ld_cell (by rfl) 68 _ und_map rfl _ rfl g 7 rfl vf (fun w' hw => (hw.drewL.cell (p := ⟨g, 7, none⟩) hl2 (fun e => hdist _ e rfl)).trans D7.out)) (by assumption) ?_
  try simp only [Act.put, List.setIfInBounds_toArray, List.set_cons_zero, List.set_cons_succ]
  refine wpAnyH_take (i := 4) (oi := { dst := some 21, op := Op.move (Operand.tmp 0), type := 26, pos := "bdisk.go:108", after := #[], guard := none }) (v := ?_) rfl (by kernel_rfl) (by kernel_rfl) (by kernel_rfl) (fun _ _ _ h => h) (Or.inl ⟨by rfl, ?_⟩) (by assumption) ?_
  rotate_left
  · (intro w' hSw; go_simp; try with_reducible rfl)
  try simp only [Act.put, List.setIfInBounds_toArray, List.set_cons_zero, List.set_cons_succ]
  refine wpAnyH_take (i := 5) (oi := { dst := some 22, op := Op.nilCheck (Operand.tmp 21), type := 0, pos := "bdisk.go:108", after := #[{ on := 4, ground := Ground.data }], guard := none }) (v := ?_) rfl (by kernel_rfl) (by kernel_rfl) (by kernel_rfl) (fun _ _ _ h => h) (Or.inl ⟨by rfl, ?_⟩) (by assumption) ?_
  rotate_left
  · (intro w' hSw; go_simp; try with_reducible rfl)
  try simp only [Act.put, List.setIfInBounds_toArray, List.set_cons_zero, List.set_cons_succ]
  refine wpAnyH_take (i := 6) (oi := { dst := some 23, op := Op.fieldAddr 70 (Operand.tmp 22) 6, type := 0, pos := "bdisk.go:108", after := #[{ on := 5, ground := Ground.data }], guard := none }) (v := ?_) rfl (by kernel_rfl) (by kernel_rfl) (by kernel_rfl) (fun _ _ _ h => h) (Or.inl ⟨by rfl, ?_⟩) (by assumption) ?_
  rotate_left
  · (intro w' hSw; go_simp; try with_reducible rfl)
  try simp only [Act.put, List.setIfInBounds_toArray, List.set_cons_zero, List.set_cons_succ]
  refine' wpAnyH_take (i := 7) (oi := { dst := some 24, op := Op.load 3 (Operand.tmp 23), type := 3, pos := "bdisk.go:108", after := #[{ on := 6, ground := Ground.data }], guard := none }) (v := _) rfl (by kernel_rfl) (by kernel_rfl) (by kernel_rfl) (fun _ _ _ h => h) (ld_cell (by rfl) 3 _ und_int rfl _ rfl g 6 rfl (.int .i64 st.asked) (fun w' hw => (hw.drewL.cell (p := ⟨g, 6, none⟩) hl2 (fun e => hdist _ e rfl)).trans D6.out)) (by assumption) ?_
  try simp only [Act.put, List.setIfInBounds_toArray, List.set_cons_zero, List.set_cons_succ]
  -- 8
  refine wpAnyH_ready (rs := [8]) (by kernel_rfl) (by simp) ?_
  refine AllReadyH.cons (o := { dst := none, op := Op.call { callee := Callee.builtin Builtin.delete, args := #[Operand.tmp 20, Operand.tmp 24], argTypes := #[68, 3] }, type := 0, pos := "bdisk.go:108", after := #[{ on := 3, ground := Ground.data }, { on := 7, ground := Ground.data }], guard := none }) rfl (fun K hK => ?_) AllReadyH.nil
  refine step_delete (by rfl) _ _ rfl (by rfl) (by rfl) (faults_kept HC.out.faults (Keeps.of_below ((Below.refl _ v2).drew))) HW.out ?_
  intro v3 hf3 ht3
  have HF3 := Lib.hid hf3
  have HT3 := Lib.hid ht3
  clear hf3
  have h1 := ht3
  refine hK.out _ _ ?_ (fun hHeld => ?_)
  · exact ht3
  clear hK K
  try simp only [Act.put, List.setIfInBounds_toArray, List.set_cons_zero, List.set_cons_succ]
  refine wpAnyH_done (by kernel_rfl) ?_ _
  have hl3 : g < v3.heap.size := Nat.lt_of_lt_of_le hl2 HT3.out.size
  have R3 : Hid (v3.heap[g]? = some (.cells #[.pointer (some ⟨g, 0, none⟩), vs, vw, vn, .int .i64 st.ep, vl, .int .i64 st.asked, vf] 70 (0, 0))) := Lib.hid ((HT3.out.drewL.block g hl2 (fun e => hdist _ e rfl)).trans HC.out.row)
  have e6 := cell_row R3.out 6 (.int .i64 st.asked) rfl
  have z6 := frozen_row R3.out 6
  clear hH0 t0 D6 D7 ht3
  go_wp2_with fail
  have hz0 : z g = 0 := HC.out.own.2
  have hF0 : F g := HC.out.own.1
  have T2 : Touch (fun b => F b ∧ (z b = 0 ∨ z b = 5)) v2 (v3.setCell ⟨g, 6, none⟩ (.int .i64 (st.asked + 1))) := Touch.setCell (HT3.out.drewL.mono fun b hb => ⟨hb.1, Or.inr hb.2⟩) ⟨g, 6, none⟩ ⟨hF0, Or.inl hz0⟩ _
  have hfin : CodeAt (v3.setCell ⟨g, 6, none⟩ (.int .i64 (st.asked + 1))) F z g st.asked1 vs vw vn vl vf := HC.out.change (st := st) T2 (fun b hb h => by have h1 := hb.2; have h2 := h.2; omega) (fun b hb h => by have h1 := hb.2; have h2 := h.2; omega) (fun b hb h => by have h1 := hb.2; have h2 := h.2; omega) (fun b hb h => by have h1 := hb.2; have h2 := h.2; omega) (fun b hb h => by have h1 := hb.2; have h2 := h.2; omega)
    (setCell_heap R3.out _) (faults_kept HF3.out (Keeps.set hdist _))
  have hT : Touch (fun b => F b ∧ (z b = 0 ∨ z b = 5)) w (v3.setCell ⟨g, 6, none⟩ (.int .i64 (st.asked + 1))) := (Touch.of_below HB2.out).trans T2
  go_ret
  exact ⟨ret_bool HQ.out.symm, hfin, hT⟩
end Go.Proofs.Yteobhljkjgocdaa.dsk
