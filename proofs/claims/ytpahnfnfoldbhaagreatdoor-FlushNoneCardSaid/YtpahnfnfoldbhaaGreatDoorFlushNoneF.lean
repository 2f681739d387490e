/- What FlushNone wants, part 6. -/
import Derived.Test.YtpahnfnfoldbhaaGreatDoorFlushNoneE
import Derived.LaidEqlPtr
import Derived.Maps.AppendAt
import Derived.Lib.SliceRun
import Derived.Deep.Cut
set_option linter.unusedVariables false
set_option linter.unusedSimpArgs false
namespace Go.Proofs.YtpahnfnfoldbhaaGreatDoor
namespace dsk
set_option maxRecDepth 100000
open Go.ChangeShapes Go.WideShapes Go.ChangeAt Go.RowKit
open rows
open sec
open Go.Maps
theorem info_disk : (Tryz.prog.info? 109).map (·.size) = some 8 := by kernel_rfl
theorem und_pdisk : Tryz.prog.underlying 26 = some (.pointer 109) := by kernel_rfl
theorem eql_same (g : Nat) (w : World) : (binOp .eql 26 (.pointer (some ⟨g, 0, none⟩)) (.pointer (some ⟨g, 0, none⟩))).run Tryz.prog w = .ok (.bool true) w := by
 cases hq : Tryz.prog.info? 109 with
 | none => have := info_disk; simp [hq] at this
 | some q => exact run_eql_ptr_same w _ und_pdisk hq
theorem eql_nil (g : Nat) (w : World) : (binOp .eql 26 (.pointer none) (.pointer (some ⟨g, 0, none⟩))).run Tryz.prog w = .ok (.bool false) w := by
 have h : ∀ d : Nat, (Op.equalIn (d + 1) 26 (.pointer none) (.pointer (some ⟨g, 0, none⟩))).run Tryz.prog w = .ok false w := fun d => by
  simp [Op.equalIn, run_underlying und_pdisk]
 simp only [binOp]
 simp [Op.equal, Op.maxDepth, h 9999]
theorem cmade (g : Nat) (w : World) (h : w.cell? ⟨g, 0, none⟩ = some (.pointer (some ⟨g, 0, none⟩))) :
  Calls Tryz.prog 86 #[.pointer (some ⟨g, 0, none⟩)] w fun e w' => e = .returned (.bool true) ∧ w = w' := by
 have q1 := eql_same g
 have q2 := eql_nil g
 go_enter Tryz.func86, Tryz.ntmps86
 go_wp2
 go_ret
 exact ⟨rfl, rfl⟩
theorem cmade_nil (w : World) :
  Calls Tryz.prog 86 #[.pointer none] w fun e w' => e = .returned (.bool false) ∧ w = w' := by
 go_enter Tryz.func86, Tryz.ntmps86
 go_wp2
 go_ret
 exact ⟨rfl, rfl⟩
theorem cmade_no (g : Nat) (w : World) (h : w.cell? ⟨g, 0, none⟩ = some (.pointer none)) :
  Calls Tryz.prog 86 #[.pointer (some ⟨g, 0, none⟩)] w fun e w' => e = .returned (.bool false) ∧ w = w' := by
 have q1 := eql_same g
 have q2 := eql_nil g
 go_enter Tryz.func86, Tryz.ntmps86
 go_wp2
 go_ret
 exact ⟨rfl, rfl⟩
theorem cpossible (n : Int) (w : World) (h : wf64 n) :
  Calls Tryz.prog 59 #[.int .i64 n] w fun e w' => e = .returned (.bool (decide (1 ≤ n ∧ n ≤ 65))) ∧ w = w' := by
 have hx := wf_i64 h
 obtain ⟨d, hd⟩ : ∃ d, decide (1 ≤ n ∧ n ≤ 65) = d := ⟨_, rfl⟩
 rw [hd]
 have HD := Lib.hid hd
 clear hd
 by_cases h1 : 1 ≤ n
 ·have q1 : decide (1 ≤ n) = true := by simp; omega
  by_cases h2 : n ≤ 65
  ·have q2 : decide (n ≤ 65) = true := by simp; omega
   go_enter Tryz.func59, Tryz.ntmps59
   go_wp2
   go_ret
   exact ⟨ret_bool (by rw [← HD.out]; simp; omega), rfl⟩
  ·have q2 : decide (n ≤ 65) = false := by simp; omega
   go_enter Tryz.func59, Tryz.ntmps59
   go_wp2
   go_ret
   exact ⟨ret_bool (by rw [← HD.out]; simp; omega), rfl⟩
 ·have q1 : decide (1 ≤ n) = false := by simp; omega
  go_enter Tryz.func59, Tryz.ntmps59
  go_wp2
  go_ret
  exact ⟨ret_bool (by rw [← HD.out]; simp; omega), rfl⟩
theorem chas (g : Nat) (n c : Nat) (p : Option Addr) (i : Int) (w : World) (h : w.cell? ⟨g, 1, none⟩ = some (.slice p n c)) (hi : wf64 i) (hn : n ≤ 1000) :
  Calls Tryz.prog 114 #[.pointer (some ⟨g, 0, none⟩), .int .i64 i] w fun e w' => e = .returned (.bool (decide (0 ≤ i ∧ i < (n : Int)))) ∧ w = w' := by
 have hx := wf_i64 hi
 obtain ⟨d, hd⟩ : ∃ d, decide (0 ≤ i ∧ i < (n : Int)) = d := ⟨_, rfl⟩
 rw [hd]
 have HD := Lib.hid hd
 clear hd
 by_cases h1 : 0 ≤ i
 ·have q1 : decide (0 ≤ i) = true := by simp; omega
  by_cases h2 : i < (n : Int)
  ·have q2 : decide (i < (n : Int)) = true := by simp; omega
   go_enter Tryz.func114, Tryz.ntmps114
   go_wp2
   go_ret
   exact ⟨ret_bool (by rw [← HD.out]; simp; omega), rfl⟩
  ·have q2 : decide (i < (n : Int)) = false := by simp; omega
   go_enter Tryz.func114, Tryz.ntmps114
   go_wp2
   go_ret
   exact ⟨ret_bool (by rw [← HD.out]; simp; omega), rfl⟩
 ·have q1 : decide (0 ≤ i) = false := by simp; omega
  go_enter Tryz.func114, Tryz.ntmps114
  go_wp2
  go_ret
  exact ⟨ret_bool (by rw [← HD.out]; simp; omega), rfl⟩
end dsk
namespace dsk
set_option maxRecDepth 100000
open Go.ChangeShapes Go.WideShapes Go.ChangeAt Go.RowKit
open rows
open sec
open Go.Maps
theorem faults_look {S : Nat → Prop} {w : World} {v : Value} {bad : List Int} {asked : Int} (h : FaultsIn S w v bad asked) (ha : wf64 asked) :
  (Instr.lookup 107 v (.int .i64 asked) true).run Tryz.prog w = .ok (.tuple #[.agg #[], .bool (decide (asked ∈ bad))]) w := by
 rcases h with ⟨rfl, rfl⟩ | ⟨b, n, D, rfl, hS, hn, ho, hk⟩
 ·have := Maps.look_nil true key_int und_faults (zero_unit w) (keyAt_int ha)
  simpa using this
 ·obtain ⟨u, ps, hr, hu⟩ := ho.look_ok key_int und_faults (zero_unit w) (unitElem_mk) (keyAt_int ha)
  obtain ⟨rfl, _⟩ := unitElem_inv hu
  rw [hr, hk asked ha (Int.le_refl _)]
theorem mapTurned_touch {S : Nat → Prop} {w w' : World} {b : Nat} (h : w.mapTurned w' b) (hS : S b) : Touch S w w' := by
 have g := h.grown
 exact ⟨g.os, g.tape, g.output, g.size, fun k hk hn => g.block k hk (fun e => hn (by cases e; exact hS))⟩
theorem faults_drop {S : Nat → Prop} {w : World} {v : Value} {bad : List Int} {asked : Int} (h : FaultsIn S w v bad asked) (ha : wf64 asked) (ty : TypeId) :
  ∃ w', (Builtin.delete_ #[107, 3] ty #[v, .int .i64 asked]).run Tryz.prog w = .ok (.tuple #[]) w' ∧ FaultsIn S w' v bad (asked + 1) ∧ Touch S w w' := by
 rcases h with ⟨rfl, rfl⟩ | ⟨b, n, D, rfl, hS, hn, ho, hk⟩
 ·exact ⟨w, Maps.drop_nil key_int und_faults (keyAt_int ha) ty, Or.inl ⟨rfl, rfl⟩, Touch.refl _ _⟩
 ·obtain ⟨w', hr, ho', ht⟩ := ho.drop key_int und_faults (keyAt_int ha) ty
  refine ⟨w', hr, Or.inr ⟨b, n, _, rfl, hS, hn, ho', fun k hw hle => ?_⟩, mapTurned_touch ht hS⟩
  rw [Maps.has_del_other (by intro e; injection e; omega)]
  exact hk k hw (by omega)
theorem look_yields {ops : Array Oper} {S : World → Prop} {op : Oper} {a : Act} (hw : Region.wanted op (yielded ops a.tmps) = true) (t : TypeId) (m x : Operand) (ho : op.op = .lookup t m x true) (mv xv : Value) (hm : a.eval m = mv) (hx : a.eval x = xv) (v : Value)
  (hr : ∀ w, S w → (Instr.lookup t mv xv true).run Tryz.prog w = .ok v w) : YieldsIf Tryz.prog ops S op v a :=
 .inl ⟨hw, fun w hS => by
  unfold execOp
  simp only [ho, hm, hx, Sem.run_bind, hr w hS, Result.andThen_ok]
  rfl⟩
theorem und_map : Tryz.prog.underlying 107 = some (.map 3 205) := und_faults
theorem zero_unit_info : (Tryz.prog.info? 205).map (·.zero) = some (some (.agg ([] : List Value).toArray)) := by kernel_rfl
theorem info_unit : (Tryz.prog.info? 205).map (·.size) = some 0 := by kernel_rfl
theorem step_store_unit {w : World} {ops : Array Oper} {o : Oper} {a : Act} {K : Act → World → Prop} {Q : Exit → Act → World → Prop} {F : Prop} (hw : Region.wanted o (yielded ops a.tmps) = true) (x y : Operand) (ho : o.op = .store 205 x y)
  (g : Nat) (hx : a.eval x = .pointer (some ⟨g, 0, none⟩)) (hy : a.eval y = .agg #[]) (hg : w.heap[g]? = some (.cells #[] 205 (0, 0)))
  (h : ∀ w', Below g w w' → K (a.put o.dst undef) w') : if Region.wanted o (yielded ops a.tmps) = true then Oper.wp Tryz.prog o a w K Q else F := by
 rw [if_pos hw]
 refine wp_store_row 205 x y ho g #[] hx hy 205 _ hg (by rw [info_unit]; simp) (by simp) (by simp) ?_
 exact h _ ((Below.refl g w).trans ⟨rfl, rfl, rfl, by simp [World.setRow], fun k hk => setRow_other w g k _ (by omega)⟩)
theorem step_delete {S : Nat → Prop} {w : World} {ops : Array Oper} {o : Oper} {a : Act} {K : Act → World → Prop} {Q : Exit → Act → World → Prop} {F : Prop} (hw : Region.wanted o (yielded ops a.tmps) = true) (m x : Operand) (ho : o.op = Op.call { callee := Callee.builtin Builtin.delete, args := #[m, x], argTypes := #[107, 3] })
  {v : Value} {asked : Int} (hm : a.eval m = v) (hx : a.eval x = .int .i64 asked) {bad : List Int} (h : FaultsIn S w v bad asked) (ha : wf64 asked) (hK : ∀ w', FaultsIn S w' v bad (asked + 1) → Touch S w w' → K (a.put o.dst (.tuple #[])) w') : if Region.wanted o (yielded ops a.tmps) = true then Oper.wp Tryz.prog o a w K Q else F := by
 rw [if_pos hw]
 obtain ⟨w', hr, h1, h2⟩ := faults_drop h ha o.type
 unfold Oper.wp
 simp [execOp, ho, resolve, invoke, builtin, hm, hx, hr, Result.andThen]
 exact hK w' h1 h2
def CountDone (F : Nat → Prop) (z : Nat → Nat) (g : Nat) (st : St) (vs vw vn vl vf : Value) (w : World) (e : Ending) (w' : World) : Prop :=
 e = .returned (.bool (asks st)) ∧ CodeAt w' F z g st.asked1 vs vw vn vl vf ∧ Touch (fun b => F b ∧ (z b = 0 ∨ z b = 5)) w w'
set_option maxHeartbeats 1600000 in
theorem ccount (F : Nat → Prop) (z : Nat → Nat) (g : Nat) (st : St) (vs vw vn vl vf : Value) (w : World) (h : CodeAt w F z g st vs vw vn vl vf) (ha : 0 ≤ st.asked ∧ st.asked ≤ 1000) :
  Calls Tryz.prog 162 #[.pointer (some ⟨g, 0, none⟩)] w (CountDone F z g st vs vw vn vl vf w) := by
 have hwf : wf64 st.asked := WalkArith.wf_i64 (by omega)
 obtain ⟨a0, a1⟩ := ha
 have HA := Lib.hid h
 have HW := Lib.hid hwf
 have hlt := h.lt
 have C6 := Lib.hid (cell_row h.row 6 _ rfl)
 have C7 := Lib.hid (cell_row h.row 7 _ rfl)
 have HFL := Lib.hid h.faults
 obtain ⟨q, hq⟩ : ∃ q, decide (st.asked ∈ st.bad) = q := ⟨_, rfl⟩
 have HQ : Hid (asks st = q) := Lib.hid hq
 have HLK : Hid (∀ w', Below w.heap.size w w' → (Instr.lookup 107 vf (.int .i64 st.asked) true).run Tryz.prog w' = .ok (.tuple #[.agg #[], .bool q]) w') := Lib.hid fun w' hb => by
  rw [← hq]
  exact faults_look (faults_kept h.faults (Keeps.of_below hb)) hwf
 clear h hq hwf
 go_enter Tryz.func162, Tryz.ntmps162
 go_wp2_with fail
 have h0 := Below.refl w.drew.heap.size w.drew
 refine wp_region_held_drew (S := ext w.drew) (by kernel_rfl) (Below.refl _ _) (fun hH0 => ?_)
 refine wpAnyH_take (i := 0) (oi := { dst := some 6, op := Op.move (Operand.tmp 0), type := 26, pos := "bdisk.go:107", after := #[], guard := none }) (v := ?_) rfl (by kernel_rfl) (by kernel_rfl) (by kernel_rfl) (fun _ _ _ h => h) (Or.inl ⟨by rfl, ?_⟩) (by assumption) ?_
 rotate_left
 ·(intro w' hSw; go_simp; try with_reducible rfl)
 try simp only [Act.put, List.setIfInBounds_toArray, List.set_cons_zero, List.set_cons_succ]
 refine wpAnyH_take (i := 1) (oi := { dst := some 7, op := Op.nilCheck (Operand.tmp 6), type := 0, pos := "bdisk.go:107", after := #[{ on := 0, ground := Ground.data }], guard := none }) (v := ?_) rfl (by kernel_rfl) (by kernel_rfl) (by kernel_rfl) (fun _ _ _ h => h) (Or.inl ⟨by rfl, ?_⟩) (by assumption) ?_
 rotate_left
 ·(intro w' hSw; go_simp; try with_reducible rfl)
 try simp only [Act.put, List.setIfInBounds_toArray, List.set_cons_zero, List.set_cons_succ]
 refine wpAnyH_take (i := 2) (oi := { dst := some 8, op := Op.fieldAddr 109 (Operand.tmp 7) 7, type := 0, pos := "bdisk.go:107", after := #[{ on := 1, ground := Ground.data }], guard := none }) (v := ?_) rfl (by kernel_rfl) (by kernel_rfl) (by kernel_rfl) (fun _ _ _ h => h) (Or.inl ⟨by rfl, ?_⟩) (by assumption) ?_
 rotate_left
 ·(intro w' hSw; go_simp; try with_reducible rfl)
 try simp only [Act.put, List.setIfInBounds_toArray, List.set_cons_zero, List.set_cons_succ]
 refine' wpAnyH_take (i := 3) (oi := { dst := some 9, op := Op.load 107 (Operand.tmp 8), type := 107, pos := "bdisk.go:107", after := #[{ on := 2, ground := Ground.data }], guard := none }) (v := _) rfl (by kernel_rfl) (by kernel_rfl) (by kernel_rfl) (fun _ _ _ h => h) (ld_cell (by rfl) 107 _ und_map rfl _ rfl g 7 rfl vf (fun w' hw => ((below_drew hw).cell (p := ⟨g, 7, none⟩) hlt).trans C7.out)) (by assumption) ?_
 try simp only [Act.put, List.setIfInBounds_toArray, List.set_cons_zero, List.set_cons_succ]
 refine wpAnyH_take (i := 4) (oi := { dst := some 10, op := Op.move (Operand.tmp 0), type := 26, pos := "bdisk.go:107", after := #[], guard := none }) (v := ?_) rfl (by kernel_rfl) (by kernel_rfl) (by kernel_rfl) (fun _ _ _ h => h) (Or.inl ⟨by rfl, ?_⟩) (by assumption) ?_
 rotate_left
 ·(intro w' hSw; go_simp; try with_reducible rfl)
 try simp only [Act.put, List.setIfInBounds_toArray, List.set_cons_zero, List.set_cons_succ]
 refine wpAnyH_take (i := 5) (oi := { dst := some 11, op := Op.nilCheck (Operand.tmp 10), type := 0, pos := "bdisk.go:107", after := #[{ on := 4, ground := Ground.data }], guard := none }) (v := ?_) rfl (by kernel_rfl) (by kernel_rfl) (by kernel_rfl) (fun _ _ _ h => h) (Or.inl ⟨by rfl, ?_⟩) (by assumption) ?_
 rotate_left
 ·(intro w' hSw; go_simp; try with_reducible rfl)
 try simp only [Act.put, List.setIfInBounds_toArray, List.set_cons_zero, List.set_cons_succ]
 refine wpAnyH_take (i := 6) (oi := { dst := some 12, op := Op.fieldAddr 109 (Operand.tmp 11) 6, type := 0, pos := "bdisk.go:107", after := #[{ on := 5, ground := Ground.data }], guard := none }) (v := ?_) rfl (by kernel_rfl) (by kernel_rfl) (by kernel_rfl) (fun _ _ _ h => h) (Or.inl ⟨by rfl, ?_⟩) (by assumption) ?_
 rotate_left
 ·(intro w' hSw; go_simp; try with_reducible rfl)
 try simp only [Act.put, List.setIfInBounds_toArray, List.set_cons_zero, List.set_cons_succ]
 refine' wpAnyH_take (i := 7) (oi := { dst := some 13, op := Op.load 3 (Operand.tmp 12), type := 3, pos := "bdisk.go:107", after := #[{ on := 6, ground := Ground.data }], guard := none }) (v := _) rfl (by kernel_rfl) (by kernel_rfl) (by kernel_rfl) (fun _ _ _ h => h) (ld_cell (by rfl) 3 _ und_int rfl _ rfl g 6 rfl (.int .i64 st.asked) (fun w' hw => ((below_drew hw).cell (p := ⟨g, 6, none⟩) hlt).trans C6.out)) (by assumption) ?_
 try simp only [Act.put, List.setIfInBounds_toArray, List.set_cons_zero, List.set_cons_succ]
 refine' wpAnyH_take (i := 8) (oi := { dst := some 14, op := Op.lookup 107 (Operand.tmp 9) (Operand.tmp 13) true, type := 257, pos := "bdisk.go:107", after := #[{ on := 3, ground := Ground.data }, { on := 7, ground := Ground.data }], guard := none }) (v := _) rfl (by kernel_rfl) (by kernel_rfl) (by kernel_rfl) (fun _ _ _ h => h) (look_yields (by rfl) 107 _ _ rfl vf (.int .i64 st.asked) (by rfl) (by rfl) (.tuple #[.agg #[], .bool q]) (fun w' hw => HLK.out w' (below_drew hw))) (by assumption) ?_
 try simp only [Act.put, List.setIfInBounds_toArray, List.set_cons_zero, List.set_cons_succ]
 refine wpAnyH_take (i := 9) (oi := { dst := some 5, op := Op.move (Operand.tmp 14), type := 257, pos := "bdisk.go:107", after := #[{ on := 8, ground := Ground.data }], guard := none }) (v := ?_) rfl (by kernel_rfl) (by kernel_rfl) (by kernel_rfl) (fun _ _ _ h => h) (Or.inl ⟨by rfl, ?_⟩) (by assumption) ?_
 rotate_left
 ·(intro w' hSw; go_simp; try with_reducible rfl)
 try simp only [Act.put, List.setIfInBounds_toArray, List.set_cons_zero, List.set_cons_succ]
 refine wpAnyH_take (i := 10) (oi := { dst := some 15, op := Op.extract (Operand.tmp 5) 0, type := 205, pos := "bdisk.go:107", after := #[{ on := 9, ground := Ground.data }], guard := none }) (v := ?_) rfl (by kernel_rfl) (by kernel_rfl) (by kernel_rfl) (fun _ _ _ h => h) (Or.inl ⟨by rfl, ?_⟩) (by assumption) ?_
 rotate_left
 ·(intro w' hSw; go_simp; try with_reducible rfl)
 try simp only [Act.put, List.setIfInBounds_toArray, List.set_cons_zero, List.set_cons_succ]
 refine wpAnyH_take (i := 11) (oi := { dst := some 16, op := Op.extract (Operand.tmp 5) 1, type := 4, pos := "bdisk.go:107", after := #[{ on := 9, ground := Ground.data }, { on := 13, ground := Ground.gcOnly Departure.lateStores }], guard := none }) (v := ?_) rfl (by kernel_rfl) (by kernel_rfl) (by kernel_rfl) (fun _ _ _ h => h) (Or.inl ⟨by rfl, ?_⟩) (by assumption) ?_
 rotate_left
 ·(intro w' hSw; go_simp; try with_reducible rfl)
 try simp only [Act.put, List.setIfInBounds_toArray, List.set_cons_zero, List.set_cons_succ]
 refine wpAnyH_ready (rs := [12]) (by kernel_rfl) (by simp) ?_
 refine AllReadyH.cons (o := { dst := some 3, op := Op.alloc 205, type := 0, pos := "bdisk.go:107", after := #[], guard := none }) rfl (fun K hK => ?_) AllReadyH.nil
 refine step_alloc zero_unit_info (by rfl) rfl ?_
 intro gx v1 hgx hrx hb1
 have h1 := below_trans h0 hb1
 have HX := Lib.hid hrx
 refine hK.out _ _ ?_ (fun hHeld => ?_)
 ·exact h1
 clear hK K hrx
 try simp only [Act.put, List.setIfInBounds_toArray, List.set_cons_zero, List.set_cons_succ]
 refine wpAnyH_ready (rs := [13]) (by kernel_rfl) (by simp) ?_
 refine AllReadyH.cons (o := { dst := none, op := Op.store 205 (Operand.tmp 3) (Operand.tmp 15), type := 0, pos := "bdisk.go:107", after := #[{ on := 12, ground := Ground.data }, { on := 10, ground := Ground.data }, { on := 0, ground := Ground.phase }, { on := 1, ground := Ground.phase }, { on := 2, ground := Ground.phase }, { on := 3, ground := Ground.phase }, { on := 4, ground := Ground.phase }, { on := 5, ground := Ground.phase }, { on := 6, ground := Ground.phase }, { on := 7, ground := Ground.phase }, { on := 8, ground := Ground.phase }, { on := 9, ground := Ground.phase }, { on := 10, ground := Ground.phase }, { on := 11, ground := Ground.textOnly Departure.lateStores }, { on := 12, ground := Ground.phase }], guard := none }) rfl (fun K hK => ?_) AllReadyH.nil
 refine step_store_unit (by rfl) _ _ (by rfl) gx (by rfl) (by rfl) HX.out ?_
 intro v2 hb2
 have h2 := h1.trans (hb2.mono hgx)
 refine hK.out _ _ ?_ (fun hHeld => ?_)
 ·exact h2
 clear hK K
 try simp only [Act.put, List.setIfInBounds_toArray, List.set_cons_zero, List.set_cons_succ]
 refine wpAnyH_take (i := 14) (oi := { dst := some 4, op := Op.assign (Operand.tmp 16), type := 4, pos := "bdisk.go:107", after := #[{ on := 11, ground := Ground.data }, { on := 13, ground := Ground.chain }, { on := 0, ground := Ground.phase }, { on := 1, ground := Ground.phase }, { on := 2, ground := Ground.phase }, { on := 3, ground := Ground.phase }, { on := 4, ground := Ground.phase }, { on := 5, ground := Ground.phase }, { on := 6, ground := Ground.phase }, { on := 7, ground := Ground.phase }, { on := 8, ground := Ground.phase }, { on := 9, ground := Ground.phase }, { on := 10, ground := Ground.phase }, { on := 11, ground := Ground.phase }, { on := 12, ground := Ground.phase }, { on := 13, ground := Ground.phase }], guard := none }) (v := ?_) rfl (by kernel_rfl) (by kernel_rfl) (by kernel_rfl) (fun _ _ _ h => h) (Or.inl ⟨by rfl, ?_⟩) (by assumption) ?_
 rotate_left
 ·(intro w' hSw; go_simp; try with_reducible rfl)
 try simp only [Act.put, List.setIfInBounds_toArray, List.set_cons_zero, List.set_cons_succ]
 refine wpAnyH_done (by kernel_rfl) ?_ _
 have HC := Lib.hid (codeAt_kept HA.out (Keeps.of_below (below_drew h2)))
 have HB2 := Lib.hid (below_drew h2)
 have hl2 := HC.out.lt
 have D6 := Lib.hid (cell_row HC.out.row 6 _ rfl)
 have D7 := Lib.hid (cell_row HC.out.row 7 _ rfl)
 clear h0 h1 h2 hb1 hb2 hgx HX C6 C7 hH0 HLK
 have hdist : ∀ b, Zn F z 5 b → b ≠ g := fun b hb e => by have h1 := hb.2; have h2 := HC.out.own.2; rw [e, h2] at h1; omega
 go_wp2_with fail
 have t0 : Touch (Zn F z 5) v2.drew v2.drew := Touch.refl _ _
 refine wp_region_held_drew (S := Touch (Zn F z 5) v2.drew) (by kernel_rfl) (Touch.refl _ _) (fun hH0 => ?_)
 refine wpAnyH_take (i := 0) (oi := { dst := some 17, op := Op.move (Operand.tmp 0), type := 26, pos := "bdisk.go:108", after := #[], guard := none }) (v := ?_) rfl (by kernel_rfl) (by kernel_rfl) (by kernel_rfl) (fun _ _ _ h => h) (Or.inl ⟨by rfl, ?_⟩) (by assumption) ?_
 rotate_left
 ·(intro w' hSw; go_simp; try with_reducible rfl)
 try simp only [Act.put, List.setIfInBounds_toArray, List.set_cons_zero, List.set_cons_succ]
 refine wpAnyH_take (i := 1) (oi := { dst := some 18, op := Op.nilCheck (Operand.tmp 17), type := 0, pos := "bdisk.go:108", after := #[{ on := 0, ground := Ground.data }], guard := none }) (v := ?_) rfl (by kernel_rfl) (by kernel_rfl) (by kernel_rfl) (fun _ _ _ h => h) (Or.inl ⟨by rfl, ?_⟩) (by assumption) ?_
 rotate_left
 ·(intro w' hSw; go_simp; try with_reducible rfl)
 try simp only [Act.put, List.setIfInBounds_toArray, List.set_cons_zero, List.set_cons_succ]
 refine wpAnyH_take (i := 2) (oi := { dst := some 19, op := Op.fieldAddr 109 (Operand.tmp 18) 7, type := 0, pos := "bdisk.go:108", after := #[{ on := 1, ground := Ground.data }], guard := none }) (v := ?_) rfl (by kernel_rfl) (by kernel_rfl) (by kernel_rfl) (fun _ _ _ h => h) (Or.inl ⟨by rfl, ?_⟩) (by assumption) ?_
 rotate_left
 ·(intro w' hSw; go_simp; try with_reducible rfl)
 try simp only [Act.put, List.setIfInBounds_toArray, List.set_cons_zero, List.set_cons_succ]
 refine' wpAnyH_take (i := 3) (oi := { dst := some 20, op := Op.load 107 (Operand.tmp 19), type := 107, pos := "bdisk.go:108", after := #[{ on := 2, ground := Ground.data }], guard := none }) (v := _) rfl (by kernel_rfl) (by kernel_rfl) (by kernel_rfl) (fun _ _ _ h => h) (ld_cell (by rfl) 107 _ und_map rfl _ rfl g 7 rfl vf (fun w' hw => (hw.drewL.cell (p := ⟨g, 7, none⟩) hl2 (fun e => hdist _ e rfl)).trans D7.out)) (by assumption) ?_
 try simp only [Act.put, List.setIfInBounds_toArray, List.set_cons_zero, List.set_cons_succ]
 refine wpAnyH_take (i := 4) (oi := { dst := some 21, op := Op.move (Operand.tmp 0), type := 26, pos := "bdisk.go:108", after := #[], guard := none }) (v := ?_) rfl (by kernel_rfl) (by kernel_rfl) (by kernel_rfl) (fun _ _ _ h => h) (Or.inl ⟨by rfl, ?_⟩) (by assumption) ?_
 rotate_left
 ·(intro w' hSw; go_simp; try with_reducible rfl)
 try simp only [Act.put, List.setIfInBounds_toArray, List.set_cons_zero, List.set_cons_succ]
 refine wpAnyH_take (i := 5) (oi := { dst := some 22, op := Op.nilCheck (Operand.tmp 21), type := 0, pos := "bdisk.go:108", after := #[{ on := 4, ground := Ground.data }], guard := none }) (v := ?_) rfl (by kernel_rfl) (by kernel_rfl) (by kernel_rfl) (fun _ _ _ h => h) (Or.inl ⟨by rfl, ?_⟩) (by assumption) ?_
 rotate_left
 ·(intro w' hSw; go_simp; try with_reducible rfl)
 try simp only [Act.put, List.setIfInBounds_toArray, List.set_cons_zero, List.set_cons_succ]
 refine wpAnyH_take (i := 6) (oi := { dst := some 23, op := Op.fieldAddr 109 (Operand.tmp 22) 6, type := 0, pos := "bdisk.go:108", after := #[{ on := 5, ground := Ground.data }], guard := none }) (v := ?_) rfl (by kernel_rfl) (by kernel_rfl) (by kernel_rfl) (fun _ _ _ h => h) (Or.inl ⟨by rfl, ?_⟩) (by assumption) ?_
 rotate_left
 ·(intro w' hSw; go_simp; try with_reducible rfl)
 try simp only [Act.put, List.setIfInBounds_toArray, List.set_cons_zero, List.set_cons_succ]
 refine' wpAnyH_take (i := 7) (oi := { dst := some 24, op := Op.load 3 (Operand.tmp 23), type := 3, pos := "bdisk.go:108", after := #[{ on := 6, ground := Ground.data }], guard := none }) (v := _) rfl (by kernel_rfl) (by kernel_rfl) (by kernel_rfl) (fun _ _ _ h => h) (ld_cell (by rfl) 3 _ und_int rfl _ rfl g 6 rfl (.int .i64 st.asked) (fun w' hw => (hw.drewL.cell (p := ⟨g, 6, none⟩) hl2 (fun e => hdist _ e rfl)).trans D6.out)) (by assumption) ?_
 try simp only [Act.put, List.setIfInBounds_toArray, List.set_cons_zero, List.set_cons_succ]
 refine wpAnyH_ready (rs := [8]) (by kernel_rfl) (by simp) ?_
 refine AllReadyH.cons (o := { dst := none, op := Op.call { callee := Callee.builtin Builtin.delete, args := #[Operand.tmp 20, Operand.tmp 24], argTypes := #[107, 3] }, type := 0, pos := "bdisk.go:108", after := #[{ on := 3, ground := Ground.data }, { on := 7, ground := Ground.data }], guard := none }) rfl (fun K hK => ?_) AllReadyH.nil
 refine step_delete (by rfl) _ _ rfl (by rfl) (by rfl) (faults_kept HC.out.faults (Keeps.of_below ((Below.refl _ v2).drew))) HW.out ?_
 intro v3 hf3 ht3
 have HF3 := Lib.hid hf3
 have HT3 := Lib.hid ht3
 clear hf3
 have h1 := ht3
 refine hK.out _ _ ?_ (fun hHeld => ?_)
 ·exact ht3
 clear hK K
 try simp only [Act.put, List.setIfInBounds_toArray, List.set_cons_zero, List.set_cons_succ]
 refine wpAnyH_done (by kernel_rfl) ?_ _
 have hl3 : g < v3.heap.size := Nat.lt_of_lt_of_le hl2 HT3.out.size
 have R3 : Hid (v3.heap[g]? = some (.cells #[.pointer (some ⟨g, 0, none⟩), vs, vw, vn, .int .i64 st.ep, vl, .int .i64 st.asked, vf] 109 (0, 0))) := Lib.hid ((HT3.out.drewL.block g hl2 (fun e => hdist _ e rfl)).trans HC.out.row)
 have e6 := cell_row R3.out 6 (.int .i64 st.asked) rfl
 have z6 := frozen_row R3.out 6
 clear hH0 t0 D6 D7 ht3
 go_wp2_with fail
 have hz0 : z g = 0 := HC.out.own.2
 have hF0 : F g := HC.out.own.1
 have T2 : Touch (fun b => F b ∧ (z b = 0 ∨ z b = 5)) v2 (v3.setCell ⟨g, 6, none⟩ (.int .i64 (st.asked + 1))) := Touch.setCell (HT3.out.drewL.mono fun b hb => ⟨hb.1, Or.inr hb.2⟩) ⟨g, 6, none⟩ ⟨hF0, Or.inl hz0⟩ _
 have hfin : CodeAt (v3.setCell ⟨g, 6, none⟩ (.int .i64 (st.asked + 1))) F z g st.asked1 vs vw vn vl vf := HC.out.change (st := st) T2 (fun b hb h => by have h1 := hb.2; have h2 := h.2; omega) (fun b hb h => by have h1 := hb.2; have h2 := h.2; omega) (fun b hb h => by have h1 := hb.2; have h2 := h.2; omega) (fun b hb h => by have h1 := hb.2; have h2 := h.2; omega) (fun b hb h => by have h1 := hb.2; have h2 := h.2; omega)
  (setCell_heap R3.out _) (faults_kept HF3.out (Keeps.set hdist _))
 have hT : Touch (fun b => F b ∧ (z b = 0 ∨ z b = 5)) w (v3.setCell ⟨g, 6, none⟩ (.int .i64 (st.asked + 1))) := (Touch.of_below HB2.out).trans T2
 go_ret
 exact ⟨ret_bool HQ.out.symm, hfin, hT⟩
end dsk
namespace dsk
set_option maxRecDepth 100000
open Go.ChangeShapes Go.WideShapes Go.ChangeAt Go.RowKit
open rows
open sec
open Go.Maps
theorem run_ap3 {t e : TypeId} {sz by_ : Nat} {z : Value} (E : Elem t e sz by_ z) {w : World} (ty : TypeId) (v : Value) (n : Nat) (cs : List Value) (hown : Own w 0 e sz v n cs)
  (y : Value) (m : Nat) (ds : List Value) (hrd : Rd w sz y m ds) (h1 : ∀ u ∈ ds, u.oneCell' = true) (hl : n + m ≤ 1000000) :
  ∃ p c w', (Builtin.append_ #[t, t] ty #[v, y]).run Tryz.prog w = .ok (.slice p (n + m) c) w' ∧ Own w' 0 e sz (.slice p (n + m) c) (n + m) (cs ++ ds) ∧ Touch (fun k => v.ownBlock = some k) w w' ∧ ∀ k, (Value.slice p (n + m) c).ownBlock = some k → v.ownBlock = some k ∨ (w.heap.size ≤ k ∧ k < w'.heap.size) := by
 obtain ⟨i0, hi, hz0, hz1, hz2⟩ := info_parts E.info
 have hby : (n + m) * by_ ≤ 140737488355328 := by
  have : (n + m) * by_ ≤ 1000000 * 1000 := Nat.mul_le_mul hl E.few
  omega
 have key : ∀ (ad : Addr) (c : Nat), y = .slice (some ad) m c → ds.length = m * sz → (∀ j u, ds[j]? = some u → w.cell? (ad.add j) = some u) → ∃ p c w', (Builtin.append_ #[t, t] ty #[v, y]).run Tryz.prog w = .ok (.slice p (n + m) c) w' ∧ Own w' 0 e sz (.slice p (n + m) c) (n + m) (cs ++ ds) ∧ Touch (fun k => v.ownBlock = some k) w w' ∧ ∀ k, (Value.slice p (n + m) c).ownBlock = some k → v.ownBlock = some k ∨ (w.heap.size ≤ k ∧ k < w'.heap.size) := by
  intro ad c hy hm hc
  subst hy
  obtain ⟨v', w', hr, h2, h3, _, h5⟩ := run_append_own_at (P := Tryz.prog) w 0 t ty e i0 z sz by_ E.und hi hz0 hz1 hz2 E.zs E.pos v n cs hown ad m c ds hm hc h1 (by unfold maxLen; omega) hby (Nat.zero_le _)
  obtain ⟨p, c', rfl, h4, _⟩ := own_out hown (Nat.zero_le _) h2 h3
  refine ⟨p, c', w', hr, h4, ⟨h3.os, h3.tape, h3.output, h3.size, fun k hk hn => h3.block k hk (fun e => hn e.symm)⟩, fun k hk => ?_⟩
  rcases h5 with h5 | h5
  ·exact Or.inl (h5.symm.trans hk)
  ·have : w.heap.size = k := Option.some.inj (h5.symm.trans hk)
   exact Or.inr ⟨by omega, (own_blk h4 hk).2⟩
 rcases hrd with ⟨p, cap, rfl, rfl, rfl, hp⟩ | ⟨b, off, cap, rfl, h2, h2a, h2b, h3, h4, h5⟩
 ·cases p with
  | none =>
   obtain rfl := hp rfl
   have hr := run_append_owned_none (P := Tryz.prog) (w := w) 0 t ty e i0 sz E.und hi v n cs hown
   obtain ⟨p, c, hv⟩ := hown.slice
   subst hv
   exact ⟨p, c, w, hr, by rw [List.append_nil]; exact hown, Touch.refl _ w, fun k hk => Or.inl hk⟩
  | some ad => exact key ad cap rfl (by simp) (by simp)
 ·refine key ⟨b, off, none⟩ cap rfl h4 ?_
  intro j u hj
  rw [Addr.add_mid]
  exact h5 j u hj
theorem ap_rd3 {t e : TypeId} {sz by_ : Nat} {z : Value} (E : Elem t e sz by_ z) {w : World} {ops : Array Oper} {rest : List Oper} {o : Oper} {a : Act} {Q : Exit → Act → World → Prop} (hgd : o.guard = none) (s x : Operand)
  (ho : o.op = .call { callee := .builtin .append, args := #[s, x], argTypes := #[t, t] })
  (v : Value) (n : Nat) (cs : List Value) (hs : a.eval s = v) (hown : Own w 0 e sz v n cs) (y : Value) (m : Nat) (ds : List Value) (hx : a.eval x = y) (hrd : Rd w sz y m ds) (h1 : ∀ u ∈ ds, u.oneCell' = true) (hl : n + m ≤ 1000000)
  (h : ∀ p c w', Own w' 0 e sz (.slice p (n + m) c) (n + m) (cs ++ ds) → Touch (fun k => v.ownBlock = some k) w w' → (∀ k, (Value.slice p (n + m) c).ownBlock = some k → v.ownBlock = some k ∨ (w.heap.size ≤ k ∧ k < w'.heap.size)) → wpList Tryz.prog ops Q rest (a.put o.dst (.slice p (n + m) c)) w') : wpList Tryz.prog ops Q (o :: rest) a w := by
 refine wpList_plain hgd fun K hK => ?_
 obtain ⟨p, c, w', hr, h2, h3, h4⟩ := run_ap3 E (w := w) o.type v n cs hown y m ds hrd h1 hl
 unfold Oper.wp
 simp [execOp, ho, resolve, invoke, builtin, hs, hx, hr, Result.andThen]
 exact hK _ _ (h p c w' h2 h3 h4)
theorem step_ap3 {t e : TypeId} {sz by_ : Nat} {z : Value} (E : Elem t e sz by_ z) {w : World} {ops : Array Oper} {o : Oper} {a : Act} {K : Act → World → Prop} {Q : Exit → Act → World → Prop} {F : Prop} (hw : Region.wanted o (yielded ops a.tmps) = true) (s x : Operand)
  (ho : o.op = .call { callee := .builtin .append, args := #[s, x], argTypes := #[t, t] })
  (v : Value) (n : Nat) (cs : List Value) (hs : a.eval s = v) (hown : Own w 0 e sz v n cs) (y : Value) (m : Nat) (ds : List Value) (hx : a.eval x = y) (hrd : Rd w sz y m ds) (h1 : ∀ u ∈ ds, u.oneCell' = true) (hl : n + m ≤ 1000000)
  (h : ∀ p c w', Own w' 0 e sz (.slice p (n + m) c) (n + m) (cs ++ ds) → Touch (fun k => v.ownBlock = some k) w w' → (∀ k, (Value.slice p (n + m) c).ownBlock = some k → v.ownBlock = some k ∨ (w.heap.size ≤ k ∧ k < w'.heap.size)) → K (a.put o.dst (.slice p (n + m) c)) w') :
  if Region.wanted o (yielded ops a.tmps) = true then Oper.wp Tryz.prog o a w K Q else F := by
 rw [if_pos hw]
 obtain ⟨p, c, w', hr, h2, h3, h4⟩ := run_ap3 E (w := w) o.type v n cs hown y m ds hrd h1 hl
 unfold Oper.wp
 simp [execOp, ho, resolve, invoke, builtin, hs, hx, hr, Result.andThen]
 exact h p c w' h2 h3 h4
theorem log_more {T T' : Nat → Prop} {w w' : World} {v v' t : Value} {es : List Ev} {vs : List Value} {ev : Ev} (h : LogIn T w v es vs) (k : Keeps T w w') (hT : ∀ b, b < w.heap.size → T b → T' b)
  (own : Own w' 0 146 38 v' (es.length + 1) (((es.zip vs).map fun x => evC x.1 x.2).flatten ++ evC ev t)) (ht : ∃ p c, t = .slice p ev.2.2.length c ∧ Rd w' 2 (.slice p ev.2.2.length c) ev.2.2.length (tagsC ev.2.2) ∧ InS T' (.slice p ev.2.2.length c)) : LogIn T' w' v' (es ++ [ev]) (vs ++ [t]) := by
 refine ⟨by simp [h.len], ?_, fun i hi => ?_⟩
 ·have hz : (es ++ [ev]).zip (vs ++ [t]) = es.zip vs ++ [(ev, t)] := by rw [List.zip_append h.len.symm]; rfl
  rw [hz, List.map_append, List.flatten_append]
  simpa using own
 ·by_cases hlt : i < es.length
  ·obtain ⟨p, c, h1, h2, h3⟩ := (h.mono hT).tags i hlt
   refine ⟨p, c, ?_, ?_, ?_⟩
   ·rw [List.getElem_append_left hlt, List.getElem?_append_left (by rw [h.len]; exact hlt)]; exact h1
   ·rw [List.getElem_append_left hlt]
    obtain ⟨p', c', h1', h2', h3'⟩ := h.tags i hlt
    have := h1.symm.trans h1'
    cases this
    exact Rd.kept h2' h3' k
   ·rw [List.getElem_append_left hlt]; exact h3
  ·have : i = es.length := by simp at hi; omega
   subst this
   rw [List.getElem_append_right (Nat.le_refl _), List.getElem?_append_right (by rw [h.len]; exact Nat.le_refl _)]
   obtain ⟨p, c, h1, h2, h3⟩ := ht
   exact ⟨p, c, by simp [h.len, h1], by simpa using h2, by simpa using h3⟩
theorem codeAt_log {w w' : World} {F T : Nat → Prop} {z z' : Nat → Nat} {g : Nat} {st : St} {vs vw vn vl vf vl' t : Value} {es : List Value} {ev : Ev} {ep : Int} (h : CodeAt w F z g st vs vw vn vl vf) (he : LogIn (Zn F z 6) w vl st.log es) (ht : Touch T w w') (hT : ∀ b, T b → F b ∧ (z b = 0 ∨ z b = 4)) (hz : ∀ b, b < w.heap.size → z' b = z b)
  (row : w'.heap[g]? = some (.cells #[.pointer (some ⟨g, 0, none⟩), vs, vw, vn, .int .i64 ep, vl', .int .i64 st.asked, vf] 109 (0, 0)))
  (own : Own w' 0 146 38 vl' (st.log.length + 1) (((st.log.zip es).map fun x => evC x.1 x.2).flatten ++ evC ev t)) (loc : ∀ k, vl'.ownBlock = some k → vl.ownBlock = some k ∨ (w.heap.size ≤ k ∧ k < w'.heap.size ∧ z' k = 4))
  (htg : ∃ p c, t = .slice p ev.2.2.length c ∧ Rd w' 2 (.slice p ev.2.2.length c) ev.2.2.length (tagsC ev.2.2) ∧ InS (Zn (grow F w w') z' 6) (.slice p ev.2.2.length c)) :
  CodeAt w' (grow F w w') z' g { st with ep := ep, log := st.log ++ [ev] } vs vw vn vl' vf := by
 have hF : ∀ b, F b → grow F w w' b := fun b hb => Or.inl hb
 have off : ∀ k, k ≠ 0 → k ≠ 4 → Keeps (Zn F z k) w w' := fun k h0 h4 => zn_off ht fun b hb hb2 => by have h1 := (hT b hb).2; have h2 := hb2.2; omega
 refine ⟨row, ⟨hF _ h.own.1, (hz _ h.lt).trans h.own.2⟩, own_kept h.safe h.safeS (off 1 (by decide) (by decide)), h.safeS.next h.safe hF hz, own_kept h.wait h.waitS (off 2 (by decide) (by decide)), h.waitS.next h.wait hF hz, own_kept h.seen h.seenS (off 3 (by decide) (by decide)), h.seenS.next h.seen hF hz,
  ⟨es ++ [t], ?_⟩, ?_, faults_next h.faults (off 5 (by decide) (by decide)) fun b hb hb2 => ⟨hF b hb2.1, (hz b hb).trans hb2.2⟩, h.eps⟩
 ·exact log_more he (off 6 (by decide) (by decide)) (fun b hb hb2 => ⟨hF b hb2.1, (hz b hb).trans hb2.2⟩) own htg
 ·intro k hk
  rcases loc k hk with h1 | ⟨h1, h2, h3⟩
  ·exact h.logS.next he.own hF hz k h1
  ·exact ⟨Or.inr ⟨h1, h2⟩, h3⟩
end dsk
namespace dsk
set_option maxRecDepth 100000
open Go.ChangeShapes Go.WideShapes Go.ChangeAt Go.RowKit
open rows
open sec
open Go.Maps
theorem asked_done {F : Nat → Prop} {z : Nat → Nat} {g : Nat} {st : St} {vs vw vn vl vf : Value} {w w' : World} {r : Int} (h : CodeAt w' F z g st.asked1 vs vw vn vl vf) (ht : Touch (fun b => F b ∧ (z b = 0 ∨ z b = 5)) w w') :
  CodeDone CA F (.pointer (some ⟨g, 0, none⟩)) w (r, st.asked1) (.returned (.int .i64 r)) w' :=
 ⟨rfl, ⟨z, g, vs, vw, vn, vl, vf, rfl, h.wider (fun b hb => Or.inl hb) fun _ _ => rfl⟩, ht.mono fun b hb => hb.1⟩
theorem zne {F : Nat → Prop} {z : Nat → Nat} {i j b c : Nat} (h : Zn F z i b) (k : Zn F z j c) (hij : i ≠ j) : b ≠ c := fun e => hij (by rw [← h.2, ← k.2, e])
set_option maxHeartbeats 1600000 in
theorem cbarrier (w : World) (F : Nat → Prop) (d : Value) (st : St) (h : CA w F d st) (hf : st.fine) : Calls Tryz.prog 111 #[d] w (CodeDone CA F d w (barrier st)) := by
 obtain ⟨z, g, vs, vw, vn, vl, vf, rfl, h⟩ := h
 have HM := Lib.hid (cmade g w (cell_row h.row 0 _ rfl))
 have HF := Lib.hid (ccount F z g st vs vw vn vl vf w h ⟨hf.few.as0, by have := hf.few.as1; omega⟩)
 have hep := hf.few.ep0
 have hep1 := hf.few.ep1
 have hln := hf.few.ln
 by_cases hd : asks st = true
 ·have hb : barrier st = (3, st.asked1) := if_pos hd
  rw [hb]
  unfold CountDone at HF
  rw [hd] at HF
  clear h hf hb hd
  go_enter Tryz.func111, Tryz.ntmps111
  go_wp2_with (first | (go_at_call 86; refine HM.out.mono ?_; rintro e w0 ⟨rfl, rfl⟩) | (go_at_call 162; refine HF.out.mono ?_; rintro e w1 ⟨rfl, hc, ht⟩; have HC := Lib.hid hc; have HT := Lib.hid ht; clear hc ht))
  go_ret
  exact asked_done HC.out HT.out
 ·have hb : barrier st = (0, { st with asked := st.asked + 1, ep := st.ep + 1, log := st.log ++ [(3, w0, [])] }) := if_neg hd
  rw [hb]
  unfold CountDone at HF
  rw [Bool.not_eq_true] at hd
  rw [hd] at HF
  generalize hn : st.log.length = n at *
  have HN := Lib.hid hn
  have HZ0 := Lib.hid h.own
  clear h hf hb hd hn
  go_enter Tryz.func111, Tryz.ntmps111
  go_wp2_with (go_at_call 86; refine HM.out.mono ?_; rintro e w0 ⟨rfl, rfl⟩)
  refine HF.out.mono ?_
  rintro e w1 ⟨rfl, hc, ht⟩
  obtain ⟨es, hes⟩ := hc.log
  obtain ⟨pl, cl, hvl⟩ := hes.own.slice
  have hn2 : st.asked1.log.length = n := HN.out
  rw [hn2] at hvl
  subst hvl
  have HC := Lib.hid hc
  have HT := Lib.hid ht
  have HES := Lib.hid hes
  have hlt1 := hc.lt
  have c4 : w1.cell? ⟨g, 4, none⟩ = some (.int .i64 st.ep) := cell_row hc.row 4 _ rfl
  have z4 := frozen_row hc.row 4
  have c5 : w1.cell? ⟨g, 5, none⟩ = some (.slice pl n cl) := cell_row hc.row 5 _ rfl
  have hon : ∀ k, (Value.slice pl n cl).ownBlock = some k → Zn F z 4 k := hc.logS
  have hng : ∀ k, (Value.slice pl n cl).ownBlock = some k → k ≠ g := fun k hk => zne (hon k hk) hc.own (by decide)
  have HO : Hid (Own ((w1.setCell ⟨g, 4, none⟩ (.int .i64 (st.ep + 1))).alloc (.cells (evC (3, w0, []) (.slice none 0 0)).toArray 146)) 0 146 38 (.slice pl n cl) n (((st.log.zip es).map fun x => evC x.1 x.2).flatten)) := by
   have h1 := hes.own
   rw [hn2] at h1
   exact Lib.hid ((own_kept h1 (S := (· ≠ g)) (fun k hk => hng k hk) (Keeps.set (fun k hk => hk) _)).alloc _)
  have HON2 := Lib.hid (evC_ones (3, w0, []) (.slice none 0 0) rfl)
  clear hc ht hes
  go_wp2_with (first | (refine wpList_buildTo rfl 146 #[(0, .const (.int .i64 3))] rfl (some 20) rfl (evC (3, w0, []) (.slice none 0 0)).toArray (by kernel_rfl) ?_) | (refine build_one elem_evs (by decide) rfl (.tmp 20) rfl (evC (3, w0, []) (.slice none 0 0)) rfl rfl ?_) | (at_builtin; refine ap_rd3 elem_evs rfl (.tmp 19) (.tmp 21) rfl _ n _ rfl HO.out _ 1 _ rfl (rd_laid _ _ _ _ rfl) HON2.out (by omega) ?_; intro pb cb wb ho hT hloc; have HO2 := Lib.hid ho; have HTB := Lib.hid hT; have HLOC := Lib.hid hloc; have hrb : wb.heap[g]? = _ := (hT.block g (by rw [size_alloc, size_set]; omega) (fun e => hng g e rfl)).trans (row_alloc (setCell_heap HC.out.row (.int .i64 (st.ep + 1))) _); have c5b : wb.cell? ⟨g, 5, none⟩ = some (.slice pl n cl) := cell_row hrb 5 _ rfl; have z5b := frozen_row hrb 5; have HRB := Lib.hid hrb; clear hrb ho hT hloc))
  have hz0 : z g = 0 := HZ0.out.2
  have hF0 : F g := HZ0.out.1
  have T2 : Touch (fun b => F b ∧ (z b = 0 ∨ z b = 4)) w1 (wb.setCell ⟨g, 5, none⟩ (.slice pb (n + 1) cb)) := by
   have h1 : Touch (fun b => F b ∧ (z b = 0 ∨ z b = 4)) w1 ((w1.setCell ⟨g, 4, none⟩ (.int .i64 (st.ep + 1))).alloc (.cells (evC (3, w0, []) (.slice none 0 0)).toArray 146)) := (Touch.setCell (Touch.refl _ w1) ⟨g, 4, none⟩ ⟨hF0, Or.inl hz0⟩ _).alloc _
   exact Touch.setCell (h1.trans (HTB.out.mono fun b hb => ⟨(hon b hb).1, Or.inr (hon b hb).2⟩)) ⟨g, 5, none⟩ ⟨hF0, Or.inl hz0⟩ _
  have hsz : (w1.setCell ⟨g, 4, none⟩ (.int .i64 (st.ep + 1))).heap.size = w1.heap.size := size_set _ _ _
  have hfin := codeAt_log (ev := (3, w0, [])) (t := .slice none 0 0) (ep := st.ep + 1) (z' := fun b => if b < w1.heap.size then z b else 4) HC.out HES.out T2 (fun b hb => hb) (fun b hb => if_pos hb) (setCell_heap HRB.out _)
   (by
    have h1 := HO2.out
    have h2 : st.asked1.log.length = n := HN.out
    rw [h2]
    exact own_kept h1 (S := (· ≠ g)) (fun k hk => by
     rcases HLOC.out k hk with h | ⟨h, _⟩
     ·exact hng k h
     ·rw [size_alloc, size_set] at h; omega) (Keeps.set (fun k hk => hk) _))
   (fun k hk => by
    rcases HLOC.out k hk with h | ⟨h, h2⟩
    ·exact Or.inl h
    ·rw [size_alloc, size_set] at h
     exact Or.inr ⟨by omega, by rw [size_set]; exact h2, if_neg (by omega)⟩)
   ⟨none, 0, rfl, rd_nil _ 2, inS_nil _⟩
  have hT : Touch F w (wb.setCell ⟨g, 5, none⟩ (.slice pb (n + 1) cb)) := (HT.out.mono fun b hb => hb.1).trans (T2.mono fun b hb => hb.1)
  go_ret
  refine ⟨rfl, ⟨_, g, vs, vw, vn, _, vf, rfl, hfin.wider (fun b hb => ?_) (fun _ _ => rfl)⟩, hT⟩
  have hs := HT.out.size
  rcases hb with hb | ⟨h1, h2⟩
  ·exact Or.inl hb
  ·exact Or.inr ⟨by omega, h2⟩
end dsk
namespace dsk
set_option maxRecDepth 100000
open Go.ChangeShapes Go.WideShapes Go.ChangeAt Go.RowKit
open rows
open sec
open Go.Maps
def CloneDone (e0 : TypeId) (sz n : Nat) (cs : List Value) (w : World) (e : Ending) (w' : World) : Prop := ∃ p' c', e = .returned (.slice p' n c') ∧ Own w' w.heap.size e0 sz (.slice p' n c') n cs ∧ Below w.heap.size w w'
theorem clone_secs (p : Option Addr) (n c : Nat) (cs : List Value) (w : World) (h : Rd w 32 (.slice p n c) n cs) (h1 : ∀ u ∈ cs, u.oneCell' = true) (hn : n ≤ 1000) :
  Calls Tryz.prog 60 #[.slice p n c] w (CloneDone 84 32 n cs w) := by
 cases p with
 | none =>
  have h0 : n = 0 ∧ c = 0 ∧ cs = [] := by
   rcases h with ⟨p', cap', e1, e2, e3, e4⟩ | ⟨b, off, cap', e1, _⟩
   ·cases e1; exact ⟨e2, e4 rfl, e3⟩
   ·cases e1
  obtain ⟨rfl, rfl, rfl⟩ := h0
  have q22 : ∀ (w : World) (a : Option Addr) (n c n' c' : Nat), (binOp .eql 22 (.slice a n c) (.slice none n' c')).run Tryz.prog w = .ok (.bool a.isNone) w := fun w a n c n' c' => Lib.run_eql_slice_nil w _ _ a n c n' c' Tryz.underlying22
  go_enter Tryz.func60, Tryz.ntmps60
  go_wp2
  go_ret
  exact ⟨none, 0, rfl, own_nil _ _ _ _, Below.refl _ _⟩
 | some a =>
  have H := Lib.hid h
  have H1 := Lib.hid h1
  clear h h1
  have q22 : ∀ (w : World) (a : Option Addr) (n c n' c' : Nat), (binOp .eql 22 (.slice a n c) (.slice none n' c')).run Tryz.prog w = .ok (.bool a.isNone) w := fun w a n c n' c' => Lib.run_eql_slice_nil w _ _ a n c n' c' Tryz.underlying22
  go_enter Tryz.func60, Tryz.ntmps60
  go_wp2_with (at_builtin; refine ap_rd elem_secs rfl (.tmp 5) (.tmp 6) rfl w.heap.size _ 0 [] rfl (own_made w _ _ (Nat.le_refl _)) _ n cs rfl (H.out.later (below_alloc (Below.refl _ _) _)) H1.out (by omega) (by rw [size_alloc]; omega) ?_; intro pa ca wa ho hb; rw [Nat.zero_add, List.nil_append] at ho; have HO := Lib.hid ho; have HB := Lib.hid hb; clear ho hb)
  go_ret
  exact ⟨pa, ca, by simp, HO.out, (below_alloc (Below.refl _ w) _).trans HB.out⟩
theorem clone_wrs (p : Option Addr) (n c : Nat) (cs : List Value) (w : World) (h : Rd w 36 (.slice p n c) n cs) (h1 : ∀ u ∈ cs, u.oneCell' = true) (hn : n ≤ 1000) :
  Calls Tryz.prog 113 #[.slice p n c] w (CloneDone 92 36 n cs w) := by
 cases p with
 | none =>
  have h0 : n = 0 ∧ c = 0 ∧ cs = [] := by
   rcases h with ⟨p', cap', e1, e2, e3, e4⟩ | ⟨b, off, cap', e1, _⟩
   ·cases e1; exact ⟨e2, e4 rfl, e3⟩
   ·cases e1
  obtain ⟨rfl, rfl, rfl⟩ := h0
  have q22 : ∀ (w : World) (a : Option Addr) (n c n' c' : Nat), (binOp .eql 54 (.slice a n c) (.slice none n' c')).run Tryz.prog w = .ok (.bool a.isNone) w := fun w a n c n' c' => Lib.run_eql_slice_nil w _ _ a n c n' c' Tryz.underlying54
  go_enter Tryz.func113, Tryz.ntmps113
  go_wp2
  go_ret
  exact ⟨none, 0, rfl, own_nil _ _ _ _, Below.refl _ _⟩
 | some a =>
  have H := Lib.hid h
  have H1 := Lib.hid h1
  clear h h1
  have q22 : ∀ (w : World) (a : Option Addr) (n c n' c' : Nat), (binOp .eql 54 (.slice a n c) (.slice none n' c')).run Tryz.prog w = .ok (.bool a.isNone) w := fun w a n c n' c' => Lib.run_eql_slice_nil w _ _ a n c n' c' Tryz.underlying54
  go_enter Tryz.func113, Tryz.ntmps113
  go_wp2_with (at_builtin; refine ap_rd elem_wrs rfl (.tmp 5) (.tmp 6) rfl w.heap.size _ 0 [] rfl (own_made w _ _ (Nat.le_refl _)) _ n cs rfl (H.out.later (below_alloc (Below.refl _ _) _)) H1.out (by omega) (by rw [size_alloc]; omega) ?_; intro pa ca wa ho hb; rw [Nat.zero_add, List.nil_append] at ho; have HO := Lib.hid ho; have HB := Lib.hid hb; clear ho hb)
  go_ret
  exact ⟨pa, ca, by simp, HO.out, (below_alloc (Below.refl _ w) _).trans HB.out⟩
theorem clone_tags (p : Option Addr) (n c : Nat) (cs : List Value) (w : World) (h : Rd w 2 (.slice p n c) n cs) (h1 : ∀ u ∈ cs, u.oneCell' = true) (hn : n ≤ 1000) :
  Calls Tryz.prog 149 #[.slice p n c] w (CloneDone 90 2 n cs w) := by
 cases p with
 | none =>
  have h0 : n = 0 ∧ c = 0 ∧ cs = [] := by
   rcases h with ⟨p', cap', e1, e2, e3, e4⟩ | ⟨b, off, cap', e1, _⟩
   ·cases e1; exact ⟨e2, e4 rfl, e3⟩
   ·cases e1
  obtain ⟨rfl, rfl, rfl⟩ := h0
  have q22 : ∀ (w : World) (a : Option Addr) (n c n' c' : Nat), (binOp .eql 144 (.slice a n c) (.slice none n' c')).run Tryz.prog w = .ok (.bool a.isNone) w := fun w a n c n' c' => Lib.run_eql_slice_nil w _ _ a n c n' c' Tryz.underlying144
  go_enter Tryz.func149, Tryz.ntmps149
  go_wp2
  go_ret
  exact ⟨none, 0, rfl, own_nil _ _ _ _, Below.refl _ _⟩
 | some a =>
  have H := Lib.hid h
  have H1 := Lib.hid h1
  clear h h1
  have q22 : ∀ (w : World) (a : Option Addr) (n c n' c' : Nat), (binOp .eql 144 (.slice a n c) (.slice none n' c')).run Tryz.prog w = .ok (.bool a.isNone) w := fun w a n c n' c' => Lib.run_eql_slice_nil w _ _ a n c n' c' Tryz.underlying144
  go_enter Tryz.func149, Tryz.ntmps149
  go_wp2_with (at_builtin; refine ap_rd elem_tags rfl (.tmp 5) (.tmp 6) rfl w.heap.size _ 0 [] rfl (own_made w _ _ (Nat.le_refl _)) _ n cs rfl (H.out.later (below_alloc (Below.refl _ _) _)) H1.out (by omega) (by rw [size_alloc]; omega) ?_; intro pa ca wa ho hb; rw [Nat.zero_add, List.nil_append] at ho; have HO := Lib.hid ho; have HB := Lib.hid hb; clear ho hb)
  go_ret
  exact ⟨pa, ca, by simp, HO.out, (below_alloc (Below.refl _ w) _).trans HB.out⟩
end dsk
namespace dsk
set_option maxRecDepth 100000
open Go.ChangeShapes Go.WideShapes Go.ChangeAt Go.RowKit
open rows
open sec
open Go.Maps
theorem wrs_ones (ws : List Wr) : ∀ u ∈ wrsC ws, u.oneCell' = true := by
 intro u hu
 obtain ⟨l, hl, hul⟩ := List.mem_flatten.1 hu
 obtain ⟨x, hx, rfl⟩ := List.mem_map.1 hl
 exact wr_ones x u hul
theorem csafeO (w : World) (F : Nat → Prop) (d : Value) (st : St) (h : CA w F d st) (hf : st.fine) : Calls Tryz.prog 107 #[d] w fun e w' => ∃ p c, e = .returned (.slice p st.safe.length c) ∧ Own w' w.heap.size 84 32 (.slice p st.safe.length c) st.safe.length (cellsOf st.safe) ∧ Below w.heap.size w w' := by
 obtain ⟨z, g, vs, vw, vn, vl, vf, rfl, h⟩ := h
 obtain ⟨ps, cs, hvs⟩ := h.safe.slice
 subst hvs
 have HM := Lib.hid (cmade g w (cell_row h.row 0 _ rfl))
 have c1 : w.cell? ⟨g, 1, none⟩ = some (.slice ps st.safe.length cs) := cell_row h.row 1 _ rfl
 have HC := Lib.hid (clone_secs ps st.safe.length cs _ w h.safe.rd (one_ints .u8 _) (by have := hf.n1; omega))
 generalize st.safe.length = n at *
 clear h hf
 go_enter Tryz.func107, Tryz.ntmps107
 go_wp2_with (first | (go_at_call 86; refine HM.out.mono ?_; rintro e w0 ⟨rfl, rfl⟩) | (go_at_call 60; refine HC.out.mono ?_; rintro e w1 ⟨p1, c1, rfl, ho, hb⟩; have HO := Lib.hid ho; clear ho))
 go_ret
 exact ⟨p1, c1, rfl, HO.out, hb⟩
theorem cwaitingO (w : World) (F : Nat → Prop) (d : Value) (st : St) (h : CA w F d st) (hf : st.fine) : Calls Tryz.prog 47 #[d] w fun e w' => ∃ p c, e = .returned (.slice p st.wait.length c) ∧ Own w' w.heap.size 92 36 (.slice p st.wait.length c) st.wait.length (wrsC st.wait) ∧ Below w.heap.size w w' := by
 obtain ⟨z, g, vs, vw, vn, vl, vf, rfl, h⟩ := h
 obtain ⟨ps, cs, hvs⟩ := h.wait.slice
 subst hvs
 have HM := Lib.hid (cmade g w (cell_row h.row 0 _ rfl))
 have c1 : w.cell? ⟨g, 2, none⟩ = some (.slice ps st.wait.length cs) := cell_row h.row 2 _ rfl
 have HC := Lib.hid (clone_wrs ps st.wait.length cs _ w h.wait.rd (wrs_ones _) (by have := hf.few.wn; omega))
 generalize st.wait.length = n at *
 clear h hf
 go_enter Tryz.func47, Tryz.ntmps47
 go_wp2_with (first | (go_at_call 86; refine HM.out.mono ?_; rintro e w0 ⟨rfl, rfl⟩) | (go_at_call 113; refine HC.out.mono ?_; rintro e w1 ⟨p1, c1, rfl, ho, hb⟩; have HO := Lib.hid ho; clear ho))
 go_ret
 exact ⟨p1, c1, rfl, HO.out, hb⟩
theorem seen_at (i : Nat) : ∀ (ws : List Wr) (safe : List (List Int)), (∀ x ∈ ws, 0 ≤ x.pos) → i < safe.length → (outOf (fun _ => true) ws safe)[i]? = some (lastOf (i:Int) (safe.getD i []) ws)
 | [], safe, _, h => by simp [outOf, lastOf, h]
 | x :: ws, safe, hp, h => by
  have h0 := hp x (List.mem_cons_self ..)
  have ih := seen_at i ws (safe.set x.pos.toNat x.s) (fun y hy => hp y (List.mem_cons_of_mem _ hy)) (by simpa using h)
  have e1 : outOf (fun _ => true) (x :: ws) safe = outOf (fun _ => true) ws (safe.set x.pos.toNat x.s) := by simp [outOf, outStep]
  have e2 : lastOf (i:Int) (safe.getD i []) (x :: ws) = lastOf (i:Int) (if x.pos = i then x.s else safe.getD i []) ws := rfl
  rw [e1, ih, e2]
  congr 2
  rw [List.getD_eq_getElem?_getD, List.getElem?_set]
  by_cases hpi : x.pos = (i : Int)
  ·rw [if_pos hpi, if_pos (by omega), if_pos (by omega)]; rfl
  ·rw [if_neg hpi, if_neg (by omega), List.getD_eq_getElem?_getD]
theorem seenOf_len (st : St) : (seenOf st).length = st.safe.length := outOf_len _ _ _
theorem seenOf_secs {st : St} (hf : st.fine) : Secs (seenOf st) := outOf_secs _ _ _ hf.few.ss hf.few.ws
set_option maxHeartbeats 1600000 in
theorem cread (w : World) (F : Nat → Prop) (d : Value) (st : St) (i : Int) (h : CA w F d st) (hf : st.fine) (hi : wf64 i) : Calls Tryz.prog 48 #[d, .int .i64 i] w fun e w' => e = .returned (readR st i) ∧ Below w.heap.size w w' := by
 obtain ⟨z, g, vs, vw, vn, vl, vf, rfl, h⟩ := h
 obtain ⟨ps, cs, hvs⟩ := h.safe.slice
 subst hvs
 obtain ⟨pn, cn, hvn⟩ := h.seen.slice
 subst hvn
 have hlt := h.lt
 have hn1 := hf.n1
 have hlw : ∀ w', Below w.heap.size w w' → w'.heap[g]? = w.heap[g]? := fun w' hb => hb.block g hlt
 have HM := Lib.hid fun w' (hb : Below w.heap.size w w') => cmade g w' (cell_row ((hlw w' hb).trans h.row) 0 _ rfl)
 have HH := Lib.hid fun w' (hb : Below w.heap.size w w') => chas g st.safe.length cs ps i w' (cell_row ((hlw w' hb).trans h.row) 1 _ rfl) hi (by omega)
 have hb0 := below_alloc (Below.refl w.heap.size w) (.cells (u8s zero32).toArray 84)
 rw [← lit_zero] at hb0
 have HB := Lib.hid hb0
 have C3 := Lib.hid fun w' (hb : Below w.heap.size w w') => cell_row ((hlw w' hb).trans h.row) 3 (.slice pn st.safe.length cn) rfl
 by_cases hin : 0 ≤ i ∧ i < (st.safe.length : Int)
 ·have hr : readR st i = .tuple #[agg (readOf st i.toNat), .int .i64 0] := if_pos hin
  rw [hr]
  rw [decide_eq_true hin] at HH
  obtain ⟨k, rfl⟩ : ∃ k : Nat, i = (k : Int) := ⟨i.toNat, by omega⟩
  have hk : k < st.safe.length := by omega
  have hss := seenOf_secs hf
  obtain ⟨gn, rfl⟩ := own_some h.seen (by omega)
  obtain ⟨bs, os, hbo, hcs1, hcs2, hbs, hsl, HSR⟩ := row_at h.seen.rd hss hk
  cases hbo
  have hsk := HSR k (by rw [seenOf_len]; exact hk)
  have e := seen_at k st.wait st.safe (fun x hx => (hf.pos x hx).1) hk
  have e2 : (seenOf st)[k]'(by rw [seenOf_len]; exact hk) = readOf st k := by
   have h1 : some ((seenOf st)[k]'(by rw [seenOf_len]; exact hk)) = some (readOf st k) := (List.getElem?_eq_getElem _).symm.trans e
   exact Option.some.inj h1
  rw [e2] at hsk
  have hsec : Sec (readOf st k) := by rw [← e2]; exact hss _ (List.getElem_mem (l := seenOf st) (by rw [seenOf_len]; exact hk))
  rw [Nat.zero_add] at hsk
  have HSK := Lib.hid (Rd.rangeLater hsk hbs HB.out)
  have HSC := Lib.hid hsec
  rw [Int.toNat_natCast]
  have hsl2 := hsl
  clear hsl e2 e HSR hsk hsec hss
  generalize readOf st k = s at *
  have hk1 : (k : Int) < st.safe.length := by omega
  generalize st.safe.length = n at *
  clear h hf hlw hr hin hsl2
  go_enter Tryz.func48, Tryz.ntmps48
  go_wp2_with (first | (go_at_call 86; refine (HM.out _ HB.out).mono ?_; rintro e w0 ⟨rfl, rfl⟩) | (go_at_call 114; refine (HH.out _ HB.out).mono ?_; rintro e w0 ⟨rfl, rfl⟩; have c3 := C3.out _ HB.out) | (refine load_mid rfl (.tmp 21) rfl gn (k * 32) rfl s HSC.out.1 HSK.out ?_) | (refine store_at rfl _ _ rfl rfl w.heap.size s zero32 rfl rfl HSC.out.1 (by decide) (at_lit w) ?_; intro w2 hA hB2 _; have A2 := Lib.hid hA; clear hA))
  exact ret_sec2 rfl w.heap.size _ _ rfl rfl HSC.out.1 A2.out rfl ⟨rfl, HB.out.trans hB2⟩
 ·have hr : readR st i = .tuple #[agg zero32, .int .i64 1] := if_neg hin
  rw [hr]
  rw [decide_eq_false hin] at HH
  clear h hf hlw hr
  generalize st.safe.length = n at *
  go_enter Tryz.func48, Tryz.ntmps48
  go_wp2_with (first | (go_at_call 86; refine (HM.out _ HB.out).mono ?_; rintro e w0 ⟨rfl, rfl⟩) | (go_at_call 114; refine (HH.out _ HB.out).mono ?_; rintro e w0 ⟨rfl, rfl⟩) | (refine store_at rfl _ _ rfl rfl w.heap.size zero32 zero32 rfl (congrArg Value.agg lit_zero) (by decide) (by decide) (at_lit w) ?_; intro w2 hA hB2 _; have A2 := Lib.hid hA; clear hA))
  exact ret_sec2 rfl w.heap.size _ _ rfl rfl (by decide) A2.out rfl ⟨rfl, HB.out.trans hB2⟩
end dsk
namespace dsk
set_option maxRecDepth 100000
open Go.ChangeShapes Go.WideShapes Go.ChangeAt Go.RowKit
open rows
open sec
open Go.Maps
theorem run_makeHint {t k e : TypeId} (hu : Tryz.prog.underlying t = some (.map k e)) (q : Nat) (hq : q ≤ 1000) (w : World) : (Instr.makeMap t (some (.int .i64 (q : Int)))).run Tryz.prog w = .ok (.map (some w.heap.size)) (w.alloc (.map #[] 0)) := by
 simp [Instr.makeMap, run_underlying hu, go_sem, Result.andThen]
theorem mem_take_succ {zs : List Int} {j : Nat} (h : j < zs.length) (k : Int) : (k ∈ zs.take (j + 1)) ↔ (k ∈ zs.take j ∨ k = zs[j]) := by
 rw [List.take_succ_eq_append_getElem h, List.mem_append, List.mem_singleton]
set_option maxHeartbeats 1600000 in
theorem cfail (w : World) (F : Nat → Prop) (d : Value) (st : St) (p : Option Addr) (q c : Nat) (zs : List Int) (h : CA w F d st) (hf : st.fine) (hz : Rd w 1 (.slice p q c) q (i64s zs)) (hzi : InS (fun b => ¬ F b) (.slice p q c)) (hq : q ≤ 50) (hwz : ∀ x ∈ zs, wf64 x) :
  Calls Tryz.prog 82 #[d, .slice p q c] w fun e w' => e = .returned (.tuple #[]) ∧ CA w' (grow F w w') d (fail st zs) ∧ Touch F w w' := by
 obtain ⟨z, g, vs, vw, vn, vl, vf, rfl, h⟩ := h
 have HM := Lib.hid (cmade g w (cell_row h.row 0 _ rfl))
 have HA := Lib.hid h
 have hlt := h.lt
 have c6 : w.cell? ⟨g, 6, none⟩ = some (.int .i64 st.asked) := cell_row h.row 6 _ rfl
 have z6 := frozen_row h.row 6
 have c7 : w.cell? ⟨g, 7, none⟩ = some vf := cell_row h.row 7 _ rfl
 have z7 := frozen_row h.row 7
 have hmm := fun w => run_makeHint und_faults q (by omega) w
 have hzl : zs.length = q := by have := hz.cells; simpa [i64s] using this
 have HZL := Lib.hid hzl
 have HWZ := Lib.hid hwz
 have HZ := Lib.hid hz
 have HZI := Lib.hid hzi
 clear hzl hwz hz hzi
 clear h hf
 go_enter Tryz.func82, Tryz.ntmps82
 go_wp2_with (go_at_call 86; refine HM.out.mono ?_; rintro e w0 ⟨rfl, rfl⟩)
 obtain ⟨W2, hW2⟩ : ∃ W2, W2 = ((w.setCell ⟨g, 6, none⟩ (.int .i64 0)).setCell ⟨g, 7, none⟩ (.map (some w.heap.size))).alloc (.map #[] 0) := ⟨_, rfl⟩
 have hs2 : W2.heap.size = w.heap.size + 1 := by rw [hW2, size_alloc, size_set, size_set]
 have hT2 : Touch (· = g) w W2 := by
  rw [hW2]
  exact (Touch.setCell (S := (· = g)) (Touch.setCell (S := (· = g)) (Touch.refl _ w) ⟨g, 6, none⟩ rfl _) ⟨g, 7, none⟩ rfl _).alloc _
 have HR2 : Hid (W2.heap[g]? = some (.cells #[.pointer (some ⟨g, 0, none⟩), vs, vw, vn, .int .i64 st.ep, vl, .int .i64 0, .map (some w.heap.size)] 109 (0, 0))) := by
  rw [hW2]
  exact Lib.hid (row_alloc (setCell_heap (setCell_heap HA.out.row (.int .i64 0)) _) _)
 have HO0 : Hid (∃ D : DataW Unit, W2.ownsMap Tryz.prog 3 unitElem w.heap.size 0 D ∧ ∀ k : Int, wf64 k → 0 ≤ k → Maps.has D (.int .i64 k) = decide (k ∈ zs.take 0)) := by
  refine Lib.hid ⟨.map [], ?_, fun k _ _ => by simp [Maps.has]⟩
  have h1 := World.ownsMap_made (H := Unit) ((w.setCell ⟨g, 6, none⟩ (.int .i64 0)).setCell ⟨g, 7, none⟩ (.map (some w.heap.size))) Tryz.prog 3 unitElem
  rw [size_set, size_set] at h1
  rw [hW2]
  exact h1
 have HT2 := Lib.hid hT2
 rw [← hW2]
 clear hW2 c6 z6 c7 z7 hT2
 go_loopw [20] (fun iv wr => ∃ (j : Nat), j ≤ q ∧ iv = .int .i64 (j : Int) ∧ Hid (∃ D : DataW Unit, wr.ownsMap Tryz.prog 3 unitElem w.heap.size j D ∧ ∀ k : Int, wf64 k → 0 ≤ k → Maps.has D (.int .i64 k) = decide (k ∈ zs.take j)) ∧ Hid (Touch (· = w.heap.size) W2 wr)) (fun iv _ => q - (intOf iv).toNat)
 case atStart => exact ⟨0, by omega, rfl, HO0, Lib.hid (Touch.refl _ _)⟩
 case round =>
  clear HO0
  obtain ⟨j, hj, rfl, HO, HT⟩ := hrel
  by_cases ha : j < q
  ·have ha1 : (j:Int) < q := by omega
   have hjl : j < zs.length := by rw [HZL.out]; exact ha
   have c7 : wr.cell? ⟨g, 7, none⟩ = some (.map (some w.heap.size)) := cell_row ((HT.out.block g (by omega) (by omega)).trans HR2.out) 7 _ rfl
   have HZR : Hid (Rd wr 1 (.slice p q c) q (i64s zs)) := Lib.hid (Rd.kept (S := fun b => b < w.heap.size ∧ b ≠ g) HZ.out (fun a n c' hv hn => by
    refine ⟨?_, fun e => HZI.out a n c' hv hn (by rw [e]; exact HA.out.own.1)⟩
    rcases HZ.out with ⟨p', cap', e1, e2, _⟩ | ⟨b, off, cap', e1, _, _, _, hlt, _⟩
    ·rw [e1] at hv; cases hv; omega
    ·rw [e1] at hv; cases hv; exact hlt) ⟨by have := HT.out.size; omega, fun k hk hk2 => (HT.out.block k (by omega) (by omega)).trans (HT2.out.block k hk hk2.2)⟩)
   obtain ⟨b1, o1, rfl, hc1, hm1, hh1, hl1, HR1⟩ := HZR.out.at ha
   have hr1 := HR1 j ha
   have HX : Hid (zs[j] = zs.getD j 0) := Lib.hid (by simp [List.getD, hjl])
   have hwx : wf64 (zs.getD j 0) := by rw [← HX.out]; exact HWZ.out _ (List.getElem_mem hjl)
   have HTK := Lib.hid (mem_take_succ hjl)
   rw [HX.out] at HTK
   obtain ⟨D, hD, hhas⟩ := HO.out
   have HH := Lib.hid hhas
   generalize zs.getD j 0 = x at *
   have HWX := Lib.hid hwx
   have hxx := wf_i64 hwx
   clear HR1 hl1 HO hhas hwx HZR
   by_cases hx : 0 ≤ x
   ·have dx : decide (0 ≤ x) = true := by simpa using hx
    go_wp2_with (at_mapUpdate; refine wpList_mapUpdate_own _ rfl _ _ _ 107 rfl 3 205 key_int und_faults unitElem w.heap.size j D rfl hD (by unfold maxLen; omega) _ _ (.int .i64 x) rfl rfl (keyAt_int HWX.out) (.agg []) [] unitElem_mk ?_; intro w3 hown3 hgrow3)
    have HO3 : Hid (∃ D : DataW Unit, w3.ownsMap Tryz.prog 3 unitElem w.heap.size (j + 1) D ∧ ∀ k : Int, wf64 k → 0 ≤ k → Maps.has D (.int .i64 k) = decide (k ∈ zs.take (j + 1))) := Lib.hid ⟨_, hown3, fun k hk hk0 => by
     have h1 := HTK.out k
     by_cases e : k = x
     ·subst e
      rw [Maps.has_put_same hD.isMap (isKey_int k), decide_eq_true (h1.2 (Or.inr rfl))]
     ·rw [Maps.has_put_other (by intro e2; injection e2; omega), HH.out k hk hk0]
      simp [h1, e]⟩
    have HT3 : Hid (Touch (· = w.heap.size) W2 w3) := Lib.hid (HT.out.trans ⟨hgrow3.os, hgrow3.tape, hgrow3.output, hgrow3.size, fun k hk hn => hgrow3.block k hk (fun e => hn (by injection e))⟩)
    go_roundw
    case rel => exact ⟨j + 1, by omega, by go_num, HO3, HT3⟩
    case measure => simp [intOf]; omega
   ·have dx : decide (0 ≤ x) = false := by simp; omega
    go_wp2_with fail
    have HO3 : Hid (∃ D : DataW Unit, wr.ownsMap Tryz.prog 3 unitElem w.heap.size (j + 1) D ∧ ∀ k : Int, wf64 k → 0 ≤ k → Maps.has D (.int .i64 k) = decide (k ∈ zs.take (j + 1))) := Lib.hid ⟨_, hD.mono (Nat.le_succ _), fun k hk hk0 => by
     have h1 := HTK.out k
     rw [HH.out k hk hk0]
     have e : k ≠ x := by omega
     simp [h1, e]⟩
    go_roundw
    case rel => exact ⟨j + 1, by omega, by go_num, HO3, HT⟩
    case measure => simp [intOf]; omega
  ·obtain rfl : j = q := by omega
   obtain ⟨D, hD, hhas⟩ := HO.out
   have hTw : Touch (· = g) w wr := HT2.out.trans' HT.out (fun i hi => Or.inr (by omega))
   have hfin : CodeAt wr (grow F w wr) (fun b => if b < w.heap.size then z b else 5) g (fail st zs) vs vw vn vl (.map (some w.heap.size)) := by
    have h1 : CodeAt w (grow F w wr) (fun b => if b < w.heap.size then z b else 5) g st vs vw vn vl vf := HA.out.wider (fun b hb => Or.inl hb) (fun b hb => if_pos hb)
    have hg0 : ¬ ∃ k, k ≠ 0 ∧ (if g < w.heap.size then z g else 5) = k := by rw [if_pos hlt, HA.out.own.2]; rintro ⟨k, h1, h2⟩; omega
    have hsz := HT.out.size
    refine h1.change (st := st) (ep := st.ep) (ask := 0) (bad := zs) hTw ?_ ?_ ?_ ?_ ?_ ((HT.out.block g (by omega) (by omega)).trans HR2.out) ?_
    ·rintro b rfl hb; exact hg0 ⟨1, by decide, hb.2⟩
    ·rintro b rfl hb; exact hg0 ⟨2, by decide, hb.2⟩
    ·rintro b rfl hb; exact hg0 ⟨3, by decide, hb.2⟩
    ·rintro b rfl hb; exact hg0 ⟨4, by decide, hb.2⟩
    ·rintro b rfl hb; exact hg0 ⟨6, by decide, hb.2⟩
    ·refine Or.inr ⟨w.heap.size, j, D, rfl, ⟨Or.inr ⟨Nat.le_refl _, by omega⟩, if_neg (by omega)⟩, by omega, hD, fun k hk hk0 => ?_⟩
     rw [hhas k hk hk0, List.take_of_length_le (by rw [HZL.out]; omega)]
   go_wp2_with fail
   go_end0
   exact ⟨rfl, ⟨_, g, vs, vw, vn, vl, _, rfl, hfin⟩, hTw.mono fun b hb => by rw [hb]; exact HA.out.own.1⟩
end dsk
namespace dsk
set_option maxRecDepth 100000
open Go.ChangeShapes Go.WideShapes Go.ChangeAt Go.RowKit
open rows
open sec
open Go.Maps
set_option maxHeartbeats 1600000 in
theorem cwrite_no (w : World) (F : Nat → Prop) (d : Value) (st : St) (i : Int) (s : List Int) (k id : Int) (h : CA w F d st) (hf : st.fine) (hi : wf64 i) (hn : ¬ (0 ≤ i ∧ i < (st.safe.length : Int)) ∨ asks st = true) :
  Calls Tryz.prog 181 #[d, .int .i64 i, agg s, .agg #[.int .i64 k, .int .i64 id]] w (CodeDone CA F d w (if 0 ≤ i ∧ i < (st.safe.length : Int) then 3 else 1, st.asked1)) := by
 obtain ⟨z, g, vs, vw, vn, vl, vf, rfl, h⟩ := h
 obtain ⟨W, hW⟩ : ∃ W, W = (w.alloc (.cells (u8s s).toArray 84)).alloc (.cells #[.int .i64 k, .int .i64 id] 90) := ⟨_, rfl⟩
 have hbW : Below w.heap.size w W := by rw [hW]; exact below_alloc (below_alloc (Below.refl _ _) _) _
 have hA := codeAt_kept h (Keeps.of_below hbW)
 obtain ⟨ps, cs, hvs⟩ := h.safe.slice
 subst hvs
 have HM := Lib.hid (cmade g W (cell_row hA.row 0 _ rfl))
 have HF := Lib.hid (ccount F z g st _ vw vn vl vf W hA ⟨hf.few.as0, by have := hf.few.as1; omega⟩)
 unfold CountDone at HF
 have hn1 := hf.n1
 have HH := Lib.hid fun w' (h' : CodeAt w' F z g st.asked1 (.slice ps st.safe.length cs) vw vn vl vf) => chas g st.safe.length cs ps i w' (cell_row h'.row 1 _ rfl) hi (by omega)
 have HW := Lib.hid hW
 have HBW := Lib.hid hbW
 generalize st.safe.length = n at *
 by_cases hin : 0 ≤ i ∧ i < (n : Int)
 ·have ha : asks st = true := by rcases hn with h | h; exact absurd hin h; exact h
  rw [if_pos hin]
  rw [ha] at HF
  rw [decide_eq_true hin] at HH
  clear h hA hf hW hbW hn hin ha hi
  go_enter Tryz.func181, Tryz.ntmps181
  go_wp2_with fail
  rw [← HW.out]
  refine HM.out.mono ?_
  rintro e w0 ⟨rfl, rfl⟩
  go_wp2_with (first | (go_at_call 162; refine HF.out.mono ?_; rintro e w1 ⟨rfl, hc, ht⟩; have HC := Lib.hid hc; have HT := Lib.hid ht; clear hc ht) | (go_at_call 114; refine (HH.out _ HC.out).mono ?_; rintro e w2 ⟨rfl, rfl⟩))
  have hfin : CodeDone CA F (.pointer (some ⟨g, 0, none⟩)) w (3, st.asked1) (.returned (.int .i64 3)) w1 := by
   obtain ⟨a1, ⟨z2, g2, b1, b2, b3, b4, b5, e1, a2⟩, a3⟩ := asked_done (r := 3) HC.out HT.out
   have hs := HBW.out.size
   refine ⟨rfl, ⟨z2, g2, b1, b2, b3, b4, b5, e1, a2.wider (fun b hb2 => ?_) (fun _ _ => rfl)⟩, (Touch.of_below HBW.out).trans a3⟩
   rcases hb2 with h | ⟨h4, h5⟩
   ·exact Or.inl h
   ·exact Or.inr ⟨by omega, h5⟩
  go_ret
  exact hfin
 ·rw [if_neg hin]
  rw [decide_eq_false hin] at HH
  clear h hA hf hW hbW hn hin hi
  go_enter Tryz.func181, Tryz.ntmps181
  go_wp2_with fail
  rw [← HW.out]
  refine HM.out.mono ?_
  rintro e w0 ⟨rfl, rfl⟩
  go_wp2_with (first | (go_at_call 162; refine HF.out.mono ?_; rintro e w1 ⟨rfl, hc, ht⟩; have HC := Lib.hid hc; have HT := Lib.hid ht; clear hc ht) | (go_at_call 114; refine (HH.out _ HC.out).mono ?_; rintro e w2 ⟨rfl, rfl⟩))
  have hfin : CodeDone CA F (.pointer (some ⟨g, 0, none⟩)) w (1, st.asked1) (.returned (.int .i64 1)) w1 := by
   obtain ⟨a1, ⟨z2, g2, b1, b2, b3, b4, b5, e1, a2⟩, a3⟩ := asked_done (r := 1) HC.out HT.out
   have hs := HBW.out.size
   refine ⟨rfl, ⟨z2, g2, b1, b2, b3, b4, b5, e1, a2.wider (fun b hb2 => ?_) (fun _ _ => rfl)⟩, (Touch.of_below HBW.out).trans a3⟩
   rcases hb2 with h | ⟨h4, h5⟩
   ·exact Or.inl h
   ·exact Or.inr ⟨by omega, h5⟩
  go_ret
  exact hfin
theorem codeAt_write {w w' : World} {F T : Nat → Prop} {z z' : Nat → Nat} {g : Nat} {st : St} {vs vw vn vl vf vw' vl' t : Value} {es : List Value} {x : Wr} (h : CodeAt w F z g st vs vw vn vl vf) (he : LogIn (Zn F z 6) w vl st.log es) (ht : Touch T w w') (hT : ∀ b, T b → F b ∧ (z b = 0 ∨ z b = 2 ∨ z b = 3 ∨ z b = 4)) (hz : ∀ b, b < w.heap.size → z' b = z b)
  (row : w'.heap[g]? = some (.cells #[.pointer (some ⟨g, 0, none⟩), vs, vw', vn, .int .i64 st.ep, vl', .int .i64 st.asked, vf] 109 (0, 0)))
  (seen : Own w' 0 84 32 vn st.safe.length (cellsOf (outOf (fun _ => true) (st.wait ++ [x]) st.safe)))
  (wait : Own w' 0 92 36 vw' (st.wait.length + 1) (wrsC st.wait ++ x.c)) (wloc : ∀ k, vw'.ownBlock = some k → vw.ownBlock = some k ∨ (w.heap.size ≤ k ∧ k < w'.heap.size ∧ z' k = 2))
  (own : Own w' 0 146 38 vl' (st.log.length + 1) (((st.log.zip es).map fun x => evC x.1 x.2).flatten ++ evC (1, x, []) (.slice none 0 0))) (loc : ∀ k, vl'.ownBlock = some k → vl.ownBlock = some k ∨ (w.heap.size ≤ k ∧ k < w'.heap.size ∧ z' k = 4))
  (hx : 0 ≤ x.ep ∧ wf64 x.kind ∧ wf64 x.id) :
  CodeAt w' (grow F w w') z' g { st with wait := st.wait ++ [x], log := st.log ++ [(1, x, [])] } vs vw' vn vl' vf := by
 have hF : ∀ b, F b → grow F w w' b := fun b hb => Or.inl hb
 have off : ∀ k, k = 1 ∨ k = 5 ∨ k = 6 → Keeps (Zn F z k) w w' := fun k hk => zn_off ht fun b hb hb2 => by have h1 := (hT b hb).2; have h2 := hb2.2; omega
 refine ⟨row, ⟨hF _ h.own.1, (hz _ h.lt).trans h.own.2⟩, own_kept h.safe h.safeS (off 1 (by decide)), h.safeS.next h.safe hF hz, by simpa [wrsC] using wait, fun k hk => ?_, seen, h.seenS.next h.seen hF hz, ⟨es ++ [.slice none 0 0], ?_⟩, fun k hk => ?_, faults_next h.faults (off 5 (by decide)) fun b hb hb2 => ⟨hF b hb2.1, (hz b hb).trans hb2.2⟩, fun y hy => ?_⟩
 ·rcases wloc k hk with h1 | ⟨h1, h2, h3⟩
  ·exact h.waitS.next h.wait hF hz k h1
  ·exact ⟨Or.inr ⟨h1, h2⟩, h3⟩
 ·exact log_more he (off 6 (by decide)) (fun b hb hb2 => ⟨hF b hb2.1, (hz b hb).trans hb2.2⟩) own ⟨none, 0, rfl, rd_nil _ 2, inS_nil _⟩
 ·rcases loc k hk with h1 | ⟨h1, h2, h3⟩
  ·exact h.logS.next he.own hF hz k h1
  ·exact ⟨Or.inr ⟨h1, h2⟩, h3⟩
 ·rcases List.mem_append.1 hy with hy | hy
  ·exact h.eps y hy
  ·rw [List.mem_singleton.1 hy]; exact hx
end dsk
namespace dsk
set_option maxRecDepth 100000
open Go.ChangeShapes Go.WideShapes Go.ChangeAt Go.RowKit
open rows
open sec
open Go.Maps
theorem seenOf_more (st : St) (x : Wr) : outOf (fun _ => true) (st.wait ++ [x]) st.safe = (seenOf st).set x.pos.toNat x.s := by
 simp [outOf, seenOf, List.foldl_append, outStep]
set_option maxHeartbeats 3200000 in
theorem cwrite_yes (w : World) (F : Nat → Prop) (d : Value) (st : St) (i : Int) (s : List Int) (k id : Int) (h : CA w F d st) (hFlt : ∀ b, F b → b < w.heap.size) (hf : st.fine) (hi : wf64 i) (hs : Sec s) (hkw : wf64 k) (hidw : wf64 id) (hin : 0 ≤ i ∧ i < (st.safe.length : Int)) (hn : asks st = false) :
  Calls Tryz.prog 181 #[d, .int .i64 i, agg s, .agg #[.int .i64 k, .int .i64 id]] w (CodeDone CA F d w (0, { st with asked := st.asked + 1, wait := st.wait ++ [⟨i, s, k, id, st.ep⟩], log := st.log ++ [(1, ⟨i, s, k, id, st.ep⟩, [])] })) := by
 obtain ⟨z, g, vs, vw, vn, vl, vf, rfl, h⟩ := h
 obtain ⟨W, hW⟩ : ∃ W, W = (w.alloc (.cells (u8s s).toArray 84)).alloc (.cells #[.int .i64 k, .int .i64 id] 90) := ⟨_, rfl⟩
 have hbW : Below w.heap.size w W := by rw [hW]; exact below_alloc (below_alloc (Below.refl _ _) _) _
 have hWs : W.heap.size = w.heap.size + 1 + 1 := by rw [hW]; simp
 have hA := codeAt_kept h (Keeps.of_below hbW)
 have A60 : At W w.heap.size s := by rw [hW]; exact (at_new w s).alloc _
 have A70 : W.heap[w.heap.size + 1]? = some (.cells #[.int .i64 k, .int .i64 id] 90 (0, 0)) := by
  rw [hW]
  have := heap_alloc_new (w.alloc (.cells (u8s s).toArray 84)) (.cells #[.int .i64 k, .int .i64 id] 90)
  rwa [size_alloc] at this
 obtain ⟨ps, cs, hvs⟩ := h.safe.slice
 subst hvs
 obtain ⟨j, rfl⟩ : ∃ j : Nat, i = (j : Int) := ⟨i.toNat, by omega⟩
 have hjn : j < st.safe.length := by omega
 obtain ⟨pn, cn, hvn⟩ := h.seen.slice
 subst hvn
 obtain ⟨gn, rfl⟩ := own_some h.seen (by omega)
 obtain ⟨pw, cw, hvw⟩ := h.wait.slice
 subst hvw
 obtain ⟨es0, hes0⟩ := h.log
 obtain ⟨pl, cl, hvl⟩ := hes0.own.slice
 subst hvl
 have HM := Lib.hid (cmade g W (cell_row hA.row 0 _ rfl))
 have HF := Lib.hid (ccount F z g st _ _ _ _ vf W hA ⟨hf.few.as0, by have := hf.few.as1; omega⟩)
 unfold CountDone at HF
 rw [hn] at HF
 have hn1 := hf.n1
 have HH := Lib.hid fun w' (h' : CodeAt w' F z g st.asked1 (.slice ps st.safe.length cs) (.slice pw st.wait.length cw) (.slice (some ⟨gn, 0, none⟩) st.safe.length cn) (.slice pl st.log.length cl) vf) => chas g st.safe.length cs ps j w' (cell_row h'.row 1 _ rfl) hi (by omega)
 rw [decide_eq_true hin] at HH
 have HW := Lib.hid hW
 have HBW := Lib.hid hbW
 have HFL := Lib.hid hFlt
 have HS := Lib.hid hs
 have HSS := Lib.hid (seenOf_secs hf)
 have HSL := Lib.hid (seenOf_len st)
 have HKW := Lib.hid hkw
 have HIW := Lib.hid hidw
 have H6 := Lib.hid A60
 have H7 := Lib.hid A70
 have hep := hf.few.ep0
 have hep1 := hf.few.ep1
 have hln := hf.few.ln
 have hwn := hf.few.wn
 generalize hnn : st.safe.length = n at *
 have HN := Lib.hid hnn
 generalize hmm : st.wait.length = m at *
 have HMM := Lib.hid hmm
 generalize hll : st.log.length = l at *
 have HL := Lib.hid hll
 have hj1 : (j:Int) < n := by omega
 clear h hA hf hW hbW hn hin hi hes0 hFlt hs hkw hidw A60 A70 hnn hmm hll
 go_enter Tryz.func181, Tryz.ntmps181
 go_wp2_with fail
 rw [← HW.out]
 refine HM.out.mono ?_
 rintro e w0 ⟨rfl, rfl⟩
 go_wp2_with (go_at_call 162; refine HF.out.mono ?_; rintro e w1 ⟨rfl, hc, ht⟩; have HC := Lib.hid hc; have HT := Lib.hid ht; clear hc ht)
 refine (HH.out _ HC.out).mono ?_
 rintro e w1' ⟨rfl, rfl⟩
 have hnF6 : ¬ F w.heap.size := fun hF => by have := HFL.out _ hF; omega
 have hnF7 : ¬ F (w.heap.size + 1) := fun hF => by have := HFL.out _ hF; omega
 have A6 := Lib.hid (H6.out.touch HT.out (fun hb => hnF6 hb.1))
 have A7 := Lib.hid (row_touch H7.out HT.out (fun hb => hnF7 hb.1))
 have hsz1 : w.heap.size + 1 + 1 ≤ w1.heap.size := by have := HT.out.size; omega
 have hg1 : g < w1.heap.size := HC.out.lt
 have hg6 : w.heap.size < w1.heap.size := by omega
 have hg7 : w.heap.size + 1 < w1.heap.size := by omega
 have C4 : Hid (w1.cell? ⟨g, 4, none⟩ = some (.int .i64 st.ep)) := Lib.hid (cell_row HC.out.row 4 _ rfl)
 clear hnF6 hnF7 H6 H7 HH HF HM
 go_wp2_with fail
 have h0 := Below.refl w1.drew.heap.size w1.drew
 refine wp_region_held_drew (S := ext w1.drew) (by kernel_rfl) (Below.refl _ _) (fun hH0 => ?_)
 refine wpAnyH_take (i := 0) (oi := { dst := some 21, op := Op.move (Operand.tmp 1), type := 3, pos := "bdisk.go:72", after := #[], guard := none }) (v := ?_) rfl (by kernel_rfl) (by kernel_rfl) (by kernel_rfl) (fun _ _ _ h => h) (Or.inl ⟨by rfl, ?_⟩) (by assumption) ?_
 rotate_left
 ·(intro w' hSw; go_simp; try with_reducible rfl)
 try simp only [Act.put, List.setIfInBounds_toArray, List.set_cons_zero, List.set_cons_succ]
 refine' wpAnyH_take (i := 1) (oi := { dst := some 22, op := Op.load 84 (Operand.tmp 6), type := 84, pos := "bdisk.go:72", after := #[], guard := none }) (v := _) rfl (by kernel_rfl) (by kernel_rfl) (by kernel_rfl) (fun _ _ _ h => h) (ld_sec (by rfl) _ rfl w.heap.size 0 rfl s HS.out.1 (fun w' hw => (A6.out.later (below_drew hw)).range)) (by assumption) ?_
 try simp only [Act.put, List.setIfInBounds_toArray, List.set_cons_zero, List.set_cons_succ]
 refine' wpAnyH_take (i := 2) (oi := { dst := some 23, op := Op.load 90 (Operand.tmp 7), type := 90, pos := "bdisk.go:72", after := #[], guard := none }) (v := _) rfl (by kernel_rfl) (by kernel_rfl) (by kernel_rfl) (fun _ _ _ h => h) (ld_tag (by rfl) _ rfl (w.heap.size + 1) 0 rfl k id (fun w' hw => tag_range (row_later A7.out (below_drew hw) hg7))) (by assumption) ?_
 try simp only [Act.put, List.setIfInBounds_toArray, List.set_cons_zero, List.set_cons_succ]
 refine wpAnyH_take (i := 3) (oi := { dst := some 24, op := Op.move (Operand.tmp 0), type := 26, pos := "bdisk.go:72", after := #[], guard := none }) (v := ?_) rfl (by kernel_rfl) (by kernel_rfl) (by kernel_rfl) (fun _ _ _ h => h) (Or.inl ⟨by rfl, ?_⟩) (by assumption) ?_
 rotate_left
 ·(intro w' hSw; go_simp; try with_reducible rfl)
 try simp only [Act.put, List.setIfInBounds_toArray, List.set_cons_zero, List.set_cons_succ]
 refine wpAnyH_take (i := 4) (oi := { dst := some 25, op := Op.nilCheck (Operand.tmp 24), type := 0, pos := "bdisk.go:72", after := #[{ on := 3, ground := Ground.data }], guard := none }) (v := ?_) rfl (by kernel_rfl) (by kernel_rfl) (by kernel_rfl) (fun _ _ _ h => h) (Or.inl ⟨by rfl, ?_⟩) (by assumption) ?_
 rotate_left
 ·(intro w' hSw; go_simp; try with_reducible rfl)
 try simp only [Act.put, List.setIfInBounds_toArray, List.set_cons_zero, List.set_cons_succ]
 refine wpAnyH_take (i := 5) (oi := { dst := some 26, op := Op.fieldAddr 109 (Operand.tmp 25) 4, type := 0, pos := "bdisk.go:72", after := #[{ on := 4, ground := Ground.data }], guard := none }) (v := ?_) rfl (by kernel_rfl) (by kernel_rfl) (by kernel_rfl) (fun _ _ _ h => h) (Or.inl ⟨by rfl, ?_⟩) (by assumption) ?_
 rotate_left
 ·(intro w' hSw; go_simp; try with_reducible rfl)
 try simp only [Act.put, List.setIfInBounds_toArray, List.set_cons_zero, List.set_cons_succ]
 refine' wpAnyH_take (i := 6) (oi := { dst := some 27, op := Op.load 3 (Operand.tmp 26), type := 3, pos := "bdisk.go:72", after := #[{ on := 5, ground := Ground.data }], guard := none }) (v := _) rfl (by kernel_rfl) (by kernel_rfl) (by kernel_rfl) (fun _ _ _ h => h) (ld_cell (by rfl) 3 _ und_int rfl _ rfl g 4 rfl (.int .i64 st.ep) (fun w' hw => ((below_drew hw).cell (p := ⟨g, 4, none⟩) hg1).trans C4.out)) (by assumption) ?_
 try simp only [Act.put, List.setIfInBounds_toArray, List.set_cons_zero, List.set_cons_succ]
 refine' wpAnyH_take (i := 7) (oi := { dst := some 28, op := Op.build 92 #[(0, Operand.tmp 21), (1, Operand.tmp 22), (2, Operand.tmp 23), (3, Operand.tmp 27)], type := 92, pos := "bdisk.go:72", after := #[{ on := 0, ground := Ground.data }, { on := 1, ground := Ground.data }, { on := 2, ground := Ground.data }, { on := 6, ground := Ground.data }], guard := none }) (v := _) rfl (by kernel_rfl) (by kernel_rfl) (by kernel_rfl) (fun _ _ _ h => h) (build_yields (by rfl) 92 _ rfl [(0, .int .i64 (j:Int)), (1, .agg (u8s s).toArray), (2, .agg #[.int .i64 k, .int .i64 id]), (3, .int .i64 st.ep)] rfl _ (built_wr ⟨(j:Int), s, k, id, st.ep⟩ HS.out)) (by assumption) ?_
 try simp only [Act.put, List.setIfInBounds_toArray, List.set_cons_zero, List.set_cons_succ]
 refine wpAnyH_ready (rs := [8]) (by kernel_rfl) (by simp) ?_
 refine AllReadyH.cons (o := { dst := some 10, op := Op.alloc 92, type := 0, pos := "bdisk.go:72", after := #[], guard := none }) rfl (fun K hK => ?_) AllReadyH.nil
 refine step_alloc zero_wr (by rfl) rfl ?_
 intro gx v1 hgx hrx hb1
 have h1 := below_trans h0 hb1
 have HX := Lib.hid hrx
 refine hK.out _ _ ?_ (fun hHeld => ?_)
 ·exact h1
 clear hK K hrx
 try simp only [Act.put, List.setIfInBounds_toArray, List.set_cons_zero, List.set_cons_succ]
 refine wpAnyH_ready (rs := [9]) (by kernel_rfl) (by simp) ?_
 refine AllReadyH.cons (o := { dst := none, op := Op.store 92 (Operand.tmp 10) (Operand.tmp 28), type := 0, pos := "bdisk.go:72", after := #[{ on := 8, ground := Ground.data }, { on := 7, ground := Ground.data }, { on := 0, ground := Ground.phase }, { on := 1, ground := Ground.phase }, { on := 2, ground := Ground.phase }, { on := 3, ground := Ground.phase }, { on := 4, ground := Ground.phase }, { on := 5, ground := Ground.phase }, { on := 6, ground := Ground.phase }, { on := 7, ground := Ground.phase }, { on := 8, ground := Ground.phase }], guard := none }) rfl (fun K hK => ?_) AllReadyH.nil
 refine step_store_wr (by rfl) _ _ (by rfl) gx (by rfl) ⟨(j:Int), s, k, id, st.ep⟩ w0 (by rfl) HS.out sec_zero HX.out ?_
 intro w2 hx2 hb2
 have h2 := h1.trans (hb2.mono hgx)
 have HX2 := Lib.hid hx2
 refine hK.out _ _ ?_ (fun hHeld => ?_)
 ·exact h2
 clear hK K hx2
 try simp only [Act.put, List.setIfInBounds_toArray, List.set_cons_zero, List.set_cons_succ]
 refine wpAnyH_done (by kernel_rfl) ?_ _
 have HB2 : Hid (Below w1.heap.size w1 w2) := Lib.hid (below_drew h2)
 have HC2 := Lib.hid (codeAt_kept HC.out (Keeps.of_below HB2.out))
 have hg2 : g < w2.heap.size := HC2.out.lt
 have hgx2 : gx < w2.heap.size := (Array.getElem?_eq_some_iff.1 HX2.out).1
 have hgx1 : w1.heap.size ≤ gx := hgx
 have hgn0 := own_blk HC.out.seen (k := gn) rfl
 have hgnz : Zn F z 3 gn := HC.out.seenS gn rfl
 have hgng : gn ≠ g := zne hgnz HC.out.own (by decide)
 have hgn6 : gn ≠ w.heap.size := fun e => by have := HFL.out _ hgnz.1; omega
 have A62 := Lib.hid (A6.out.later (HB2.out.mono (Nat.le_refl _)))
 have C3 : Hid (w2.cell? ⟨g, 3, none⟩ = some (.slice (some ⟨gn, 0, none⟩) n cn)) := Lib.hid (by have h := cell_row HC2.out.row 3 _ rfl; simpa using h)
 have hg62 : w.heap.size < w2.heap.size := by have := HB2.out.size; omega
 obtain ⟨es, hes⟩ := HC2.out.log
 have HES := Lib.hid hes
 clear hes
 have HSE : Hid (Own w2 0 84 32 (.slice (some ⟨gn, 0, none⟩) n cn) n (cellsOf (seenOf st))) := Lib.hid (by have h := HC2.out.seen; rw [show st.asked1.safe.length = n from HN.out] at h; exact h)
 clear hHeld hH0 h0 h1 h2 hb1 hb2 HX A6 A7 C4 hgx
 go_wp2_with fail
 have h0 : Touch (· = gn) w2.drew w2.drew := Touch.refl _ _
 refine wp_region_held_drew (S := Touch (· = gn) w2.drew) (by kernel_rfl) (Touch.refl _ _) (fun hH0 => ?_)
 refine wpAnyH_take (i := 0) (oi := { dst := some 29, op := Op.move (Operand.tmp 0), type := 26, pos := "bdisk.go:73", after := #[], guard := none }) (v := ?_) rfl (by kernel_rfl) (by kernel_rfl) (by kernel_rfl) (fun _ _ _ h => h) (Or.inl ⟨by rfl, ?_⟩) (by assumption) ?_
 rotate_left
 ·(intro w' hSw; go_simp; try with_reducible rfl)
 try simp only [Act.put, List.setIfInBounds_toArray, List.set_cons_zero, List.set_cons_succ]
 refine wpAnyH_take (i := 1) (oi := { dst := some 30, op := Op.nilCheck (Operand.tmp 29), type := 0, pos := "bdisk.go:73", after := #[{ on := 0, ground := Ground.data }], guard := none }) (v := ?_) rfl (by kernel_rfl) (by kernel_rfl) (by kernel_rfl) (fun _ _ _ h => h) (Or.inl ⟨by rfl, ?_⟩) (by assumption) ?_
 rotate_left
 ·(intro w' hSw; go_simp; try with_reducible rfl)
 try simp only [Act.put, List.setIfInBounds_toArray, List.set_cons_zero, List.set_cons_succ]
 refine wpAnyH_take (i := 2) (oi := { dst := some 31, op := Op.fieldAddr 109 (Operand.tmp 30) 3, type := 0, pos := "bdisk.go:73", after := #[{ on := 1, ground := Ground.data }], guard := none }) (v := ?_) rfl (by kernel_rfl) (by kernel_rfl) (by kernel_rfl) (fun _ _ _ h => h) (Or.inl ⟨by rfl, ?_⟩) (by assumption) ?_
 rotate_left
 ·(intro w' hSw; go_simp; try with_reducible rfl)
 try simp only [Act.put, List.setIfInBounds_toArray, List.set_cons_zero, List.set_cons_succ]
 refine' wpAnyH_take (i := 3) (oi := { dst := some 32, op := Op.load 22 (Operand.tmp 31), type := 22, pos := "bdisk.go:73", after := #[{ on := 2, ground := Ground.data }], guard := none }) (v := _) rfl (by kernel_rfl) (by kernel_rfl) (by kernel_rfl) (fun _ _ _ h => h) (ld_cell (by rfl) 22 _ und_secs rfl _ rfl g 3 rfl (.slice (some ⟨gn, 0, none⟩) n cn) (fun w' hw => (hw.drewL.cell (p := ⟨g, 3, none⟩) hg2 (fun e => hgng e.symm)).trans C3.out)) (by assumption) ?_
 try simp only [Act.put, List.setIfInBounds_toArray, List.set_cons_zero, List.set_cons_succ]
 refine wpAnyH_take (i := 4) (oi := { dst := some 33, op := Op.move (Operand.tmp 1), type := 3, pos := "bdisk.go:73", after := #[], guard := none }) (v := ?_) rfl (by kernel_rfl) (by kernel_rfl) (by kernel_rfl) (fun _ _ _ h => h) (Or.inl ⟨by rfl, ?_⟩) (by assumption) ?_
 rotate_left
 ·(intro w' hSw; go_simp; try with_reducible rfl)
 try simp only [Act.put, List.setIfInBounds_toArray, List.set_cons_zero, List.set_cons_succ]
 refine' wpAnyH_take (i := 5) (oi := { dst := some 34, op := Op.load 84 (Operand.tmp 6), type := 84, pos := "bdisk.go:73", after := #[], guard := none }) (v := _) rfl (by kernel_rfl) (by kernel_rfl) (by kernel_rfl) (fun _ _ _ h => h) (ld_sec (by rfl) _ rfl w.heap.size 0 rfl s HS.out.1 (fun w' hw => (A62.out.touch hw.drewL (fun e => hgn6 e.symm)).range)) (by assumption) ?_
 try simp only [Act.put, List.setIfInBounds_toArray, List.set_cons_zero, List.set_cons_succ]
 refine wpAnyH_take (i := 6) (oi := { dst := some 35, op := Op.indexAddr 22 (Operand.tmp 32) (Operand.tmp 33), type := 0, pos := "bdisk.go:73", after := #[{ on := 3, ground := Ground.data }, { on := 4, ground := Ground.data }, { on := 0, ground := Ground.phase }, { on := 1, ground := Ground.phase }, { on := 2, ground := Ground.phase }, { on := 3, ground := Ground.phase }, { on := 4, ground := Ground.phase }, { on := 5, ground := Ground.phase }], guard := none }) (v := ?_) rfl (by kernel_rfl) (by kernel_rfl) (by kernel_rfl) (fun _ _ _ h => h) (Or.inl ⟨by rfl, ?_⟩) (by assumption) ?_
 rotate_left
 ·(intro w' hSw; go_simp; try with_reducible rfl)
 try simp only [Act.put, List.setIfInBounds_toArray, List.set_cons_zero, List.set_cons_succ]
 refine wpAnyH_ready (rs := [7]) (by kernel_rfl) (by simp) ?_
 refine AllReadyH.cons (o := { dst := none, op := Op.store 84 (Operand.tmp 35) (Operand.tmp 34), type := 0, pos := "bdisk.go:73", after := #[{ on := 6, ground := Ground.data }, { on := 5, ground := Ground.data }, { on := 0, ground := Ground.phase }, { on := 1, ground := Ground.phase }, { on := 2, ground := Ground.phase }, { on := 3, ground := Ground.phase }, { on := 4, ground := Ground.phase }, { on := 5, ground := Ground.phase }], guard := none }) rfl (fun K hK => ?_) AllReadyH.nil
 refine step_store_own (by rfl) _ _ rfl 0 gn j n cn (by rfl) s (by rfl) HS.out _ HSS.out (by rw [HSL.out]; exact hjn) HSE.out.drew ?_
 intro w3 ho3 ht3
 have HO3 := Lib.hid ho3
 have HT3 := Lib.hid ht3.drewL
 have h1 := ht3
 refine hK.out _ _ ?_ (fun hHeld => ?_)
 ·exact ht3
 clear hK K ho3
 try simp only [Act.put, List.setIfInBounds_toArray, List.set_cons_zero, List.set_cons_succ]
 refine wpAnyH_done (by kernel_rfl) ?_ _
 have hg3 : g < w3.heap.size := Nat.lt_of_lt_of_le hg2 HT3.out.size
 have hgxgn : gx ≠ gn := fun e => by have := hgn0.2; omega
 have HX3 : Hid (AtW w3 gx (⟨(j:Int), s, k, id, st.ep⟩ : Wr)) := Lib.hid (row_touch HX2.out HT3.out hgxgn)
 have HR3 := Lib.hid (row_touch HC2.out.row HT3.out (fun e => hgng e.symm))
 have hwz : ∀ b, (Value.slice pw m cw).ownBlock = some b → Zn F z 2 b := HC.out.waitS
 have hwng : ∀ b, (Value.slice pw m cw).ownBlock = some b → b ≠ g := fun b hb => zne (hwz b hb) HC.out.own (by decide)
 have hwngx : ∀ b, (Value.slice pw m cw).ownBlock = some b → b ≠ gx := fun b hb e => by have := HFL.out _ (hwz b hb).1; have := HBW.out.size; omega
 have C2 : Hid (w3.cell? ⟨g, 2, none⟩ = some (.slice pw m cw)) := Lib.hid (cell_row HR3.out 2 _ rfl)
 have HWO : Hid (Own w3 0 92 36 (.slice pw m cw) m (wrsC st.wait)) := Lib.hid (by
  have h1 := own_kept (own_kept HC.out.wait (S := fun b => b < w1.heap.size) (fun b hb => (own_blk HC.out.wait hb).2) (Keeps.of_below HB2.out)) (S := Zn F z 2) HC.out.waitS (zn_off HT3.out fun b hb hb2 => by have h1 := hgnz.2; rw [hb] at hb2; have h2 := hb2.2; omega)
  rw [show st.asked1.wait.length = m from HMM.out] at h1
  exact h1)
 have hgx3 : gx < w3.heap.size := (Array.getElem?_eq_some_iff.1 HX3.out).1
 have HWN := Lib.hid (wr_ones (⟨(j:Int), s, k, id, st.ep⟩ : Wr))
 clear hHeld hH0 h0 h1 ht3 C3 A62 HX2
 go_wp2_with fail
 have h0 : Touch (fun b => (Value.slice pw m cw).ownBlock = some b) w3.drew w3.drew := Touch.refl _ _
 refine wp_region_last (S := Touch (fun b => (Value.slice pw m cw).ownBlock = some b) w3.drew) 10 (by kernel_rfl) (Touch.refl _ _) (fun hH0 => ?_)
 refine wpAnyL_take (i := 0) (oi := { dst := some 36, op := Op.move (Operand.tmp 0), type := 26, pos := "bdisk.go:74", after := #[], guard := none }) (v := ?_) rfl (by kernel_rfl) (by kernel_rfl) (by kernel_rfl) (by kernel_rfl) (fun _ _ _ h => h) (Or.inl ⟨by rfl, ?_⟩) (by assumption) ?_
 rotate_left
 ·(intro w' hSw; go_simp; try with_reducible rfl)
 try simp only [Act.put, List.setIfInBounds_toArray, List.set_cons_zero, List.set_cons_succ]
 refine wpAnyL_take (i := 1) (oi := { dst := some 37, op := Op.move (Operand.tmp 0), type := 26, pos := "bdisk.go:74", after := #[], guard := none }) (v := ?_) rfl (by kernel_rfl) (by kernel_rfl) (by kernel_rfl) (by kernel_rfl) (fun _ _ _ h => h) (Or.inl ⟨by rfl, ?_⟩) (by assumption) ?_
 rotate_left
 ·(intro w' hSw; go_simp; try with_reducible rfl)
 try simp only [Act.put, List.setIfInBounds_toArray, List.set_cons_zero, List.set_cons_succ]
 refine wpAnyL_take (i := 2) (oi := { dst := some 38, op := Op.nilCheck (Operand.tmp 37), type := 0, pos := "bdisk.go:74", after := #[{ on := 1, ground := Ground.data }], guard := none }) (v := ?_) rfl (by kernel_rfl) (by kernel_rfl) (by kernel_rfl) (by kernel_rfl) (fun _ _ _ h => h) (Or.inl ⟨by rfl, ?_⟩) (by assumption) ?_
 rotate_left
 ·(intro w' hSw; go_simp; try with_reducible rfl)
 try simp only [Act.put, List.setIfInBounds_toArray, List.set_cons_zero, List.set_cons_succ]
 refine wpAnyL_take (i := 3) (oi := { dst := some 39, op := Op.fieldAddr 109 (Operand.tmp 38) 2, type := 0, pos := "bdisk.go:74", after := #[{ on := 2, ground := Ground.data }], guard := none }) (v := ?_) rfl (by kernel_rfl) (by kernel_rfl) (by kernel_rfl) (by kernel_rfl) (fun _ _ _ h => h) (Or.inl ⟨by rfl, ?_⟩) (by assumption) ?_
 rotate_left
 ·(intro w' hSw; go_simp; try with_reducible rfl)
 try simp only [Act.put, List.setIfInBounds_toArray, List.set_cons_zero, List.set_cons_succ]
 refine' wpAnyL_take (i := 4) (oi := { dst := some 40, op := Op.load 54 (Operand.tmp 39), type := 54, pos := "bdisk.go:74", after := #[{ on := 3, ground := Ground.data }], guard := none }) (v := _) rfl (by kernel_rfl) (by kernel_rfl) (by kernel_rfl) (by kernel_rfl) (fun _ _ _ h => h) (ld_cell (by rfl) 54 _ Tryz.underlying54 rfl _ rfl g 2 rfl (.slice pw m cw) (fun w' hw => (hw.drewL.cell (p := ⟨g, 2, none⟩) hg3 (fun e => hwng g e rfl)).trans C2.out)) (by assumption) ?_
 try simp only [Act.put, List.setIfInBounds_toArray, List.set_cons_zero, List.set_cons_succ]
 refine' wpAnyL_take (i := 5) (oi := { dst := some 41, op := Op.load 92 (Operand.tmp 10), type := 92, pos := "bdisk.go:74", after := #[], guard := none }) (v := _) rfl (by kernel_rfl) (by kernel_rfl) (by kernel_rfl) (by kernel_rfl) (fun _ _ _ h => h) (ld_wr (by rfl) _ rfl gx 0 rfl (⟨(j:Int), s, k, id, st.ep⟩ : Wr) HS.out (fun w' hw => AtW.range (row_touch HX3.out hw.drewL (fun e => hwngx gx e rfl)))) (by assumption) ?_
 try simp only [Act.put, List.setIfInBounds_toArray, List.set_cons_zero, List.set_cons_succ]
 refine wpAnyL_ready (rs := [6]) (by kernel_rfl) (by simp) ?_
 refine AllReadyL.cons (o := { dst := some 42, op := Op.buildSlice 54 1 #[(0, Operand.tmp 41)], type := 54, pos := "bdisk.go:74", after := #[{ on := 5, ground := Ground.data }], guard := none }) rfl (fun K hK => ?_) AllReadyL.nil
 refine step_one elem_wrs (by decide) (by rfl) _ rfl (Wr.c (⟨(j:Int), s, k, id, st.ep⟩ : Wr)) rfl (Wr.c_len HS.out) ?_
 intro b4 w4 hb4 hrd4 hbel4
 have HRD4 := Lib.hid hrd4
 have HB4 := Lib.hid hbel4
 have h1 : Touch (fun b => (Value.slice pw m cw).ownBlock = some b) w3.drew w4 := Touch.of_below hbel4
 refine hK.out _ _ (Or.inr h1) (fun hHeld => ?_)
 clear hK K hrd4
 try simp only [Act.put, List.setIfInBounds_toArray, List.set_cons_zero, List.set_cons_succ]
 refine wpAnyL_ready (rs := [7]) (by kernel_rfl) (by simp) ?_
 refine AllReadyL.cons (o := { dst := some 43, op := Op.call { callee := Callee.builtin Builtin.append, args := #[Operand.tmp 40, Operand.tmp 42], argTypes := #[54, 54] }, type := 54, pos := "bdisk.go:74", after := #[{ on := 4, ground := Ground.data }, { on := 6, ground := Ground.data }], guard := none }) rfl (fun K hK => ?_) AllReadyL.nil
 refine step_ap3 elem_wrs (by rfl) _ _ rfl (.slice pw m cw) m (wrsC st.wait) (by rfl) (own_later HWO.out.drew HB4.out) _ 1 (Wr.c (⟨(j:Int), s, k, id, st.ep⟩ : Wr)) (by rfl) HRD4.out HWN.out (by omega) ?_
 intro pq cq w5 ho5 ht5 hloc5
 have HO5 := Lib.hid ho5
 have HLOC5 := Lib.hid hloc5
 have h2 := h1.trans ht5
 have HT5 := Lib.hid h2
 refine hK.out _ _ (Or.inr h2) (fun hHeld => ?_)
 clear hK K ho5 hloc5
 try simp only [Act.put, List.setIfInBounds_toArray, List.set_cons_zero, List.set_cons_succ]
 refine wpAnyL_ready (rs := [8]) (by kernel_rfl) (by simp) ?_
 refine AllReadyL.cons (o := { dst := some 44, op := Op.nilCheck (Operand.tmp 36), type := 0, pos := "bdisk.go:74", after := #[{ on := 0, ground := Ground.data }, { on := 0, ground := Ground.phase }, { on := 1, ground := Ground.phase }, { on := 2, ground := Ground.phase }, { on := 3, ground := Ground.phase }, { on := 4, ground := Ground.phase }, { on := 5, ground := Ground.phase }, { on := 6, ground := Ground.phase }, { on := 7, ground := Ground.phase }], guard := none }) rfl (fun K hK => ?_) AllReadyL.nil
 go_simp
 refine hK.out _ _ (Or.inr (by assumption)) (fun hHeld => ?_)
 clear hK K
 try simp only [Act.put, List.setIfInBounds_toArray, List.set_cons_zero, List.set_cons_succ]
 refine wpAnyL_take (i := 9) (oi := { dst := some 45, op := Op.fieldAddr 109 (Operand.tmp 44) 2, type := 0, pos := "bdisk.go:74", after := #[{ on := 8, ground := Ground.data }, { on := 0, ground := Ground.phase }, { on := 1, ground := Ground.phase }, { on := 2, ground := Ground.phase }, { on := 3, ground := Ground.phase }, { on := 4, ground := Ground.phase }, { on := 5, ground := Ground.phase }, { on := 6, ground := Ground.phase }, { on := 7, ground := Ground.phase }], guard := none }) (v := ?_) rfl (by kernel_rfl) (by kernel_rfl) (by kernel_rfl) (by kernel_rfl) (fun _ _ _ h => h) (Or.inl ⟨by rfl, ?_⟩) (by assumption) ?_
 rotate_left
 ·(intro w' hSw; go_simp; try with_reducible rfl)
 try simp only [Act.put, List.setIfInBounds_toArray, List.set_cons_zero, List.set_cons_succ]
 refine wpAnyL_ready (rs := [10]) (by kernel_rfl) (by simp) ?_
 refine AllReadyL.cons (o := { dst := none, op := Op.store 54 (Operand.tmp 45) (Operand.tmp 43), type := 0, pos := "bdisk.go:74", after := #[{ on := 9, ground := Ground.data }, { on := 7, ground := Ground.data }, { on := 7, ground := Ground.chain }, { on := 0, ground := Ground.phase }, { on := 1, ground := Ground.phase }, { on := 2, ground := Ground.phase }, { on := 3, ground := Ground.phase }, { on := 4, ground := Ground.phase }, { on := 5, ground := Ground.phase }, { on := 6, ground := Ground.phase }, { on := 7, ground := Ground.phase }], guard := none }) rfl (fun K hK => ?_) AllReadyL.nil
 have HR5 := Lib.hid (row_touch HR3.out HT5.out.drewL (fun e => hwng g e rfl))
 have c12 := cell_row HR5.out 2 (.slice pw m cw) rfl
 have z12 := frozen_row HR5.out 2
 have h4 := HT5.out
 go_simp
 refine hK.out _ _ (Or.inl rfl) (fun hHeld => ?_)
 clear hK K c12 z12
 try simp only [Act.put, List.setIfInBounds_toArray, List.set_cons_zero, List.set_cons_succ]
 refine wpAnyL_done (by kernel_rfl) ?_ _
 obtain ⟨W6, hW6⟩ : ∃ W6, W6 = w5.setCell ⟨g, 2, none⟩ (.slice pq (m + 1) cq) := ⟨_, rfl⟩
 have hgz : Zn F z 0 g := HC.out.own
 have T25 : Touch (fun b => F b ∧ (z b = 0 ∨ z b = 2 ∨ z b = 3)) w2 w5 := (HT3.out.mono fun b hb => by rw [hb]; exact ⟨hgnz.1, Or.inr (Or.inr hgnz.2)⟩).trans (HT5.out.drewL.mono fun b hb => ⟨(hwz b hb).1, Or.inr (Or.inl (hwz b hb).2)⟩)
 have T6 : Touch (fun b => F b ∧ (z b = 0 ∨ z b = 2 ∨ z b = 3)) w2 W6 := by rw [hW6]; exact Touch.setCell T25 ⟨g, 2, none⟩ ⟨hgz.1, Or.inl hgz.2⟩ _
 have HR6 : Hid (W6.heap[g]? = some (.cells #[.pointer (some ⟨g, 0, none⟩), .slice ps n cs, .slice pq (m + 1) cq, .slice (some ⟨gn, 0, none⟩) n cn, .int .i64 st.ep, .slice pl l cl, .int .i64 (st.asked + 1), vf] 109 (0, 0))) := Lib.hid (by rw [hW6]; exact setCell_heap HR5.out _)
 have hgxF : ¬ F gx := fun hF => by have := HFL.out _ hF; omega
 have HX6 : Hid (AtW W6 gx (⟨(j:Int), s, k, id, st.ep⟩ : Wr)) := by
  have h1 := row_touch HX3.out HT5.out.drewL (fun e => hwngx gx e rfl)
  rw [hW6]
  refine Lib.hid ((Below.heap_setCell _ _ _ _ (fun e => ?_)).trans h1)
  have e1 : gx = g := e
  omega
 have HT6 := Lib.hid T6
 have HE2 : Hid (LogIn (Zn F z 6) w2 (.slice pl l cl) st.asked1.log es) := HES
 have HLO : Hid (Own W6 0 146 38 (.slice pl l cl) l (((st.log.zip es).map fun x => evC x.1 x.2).flatten)) := Lib.hid (by
  have h1 := own_kept HE2.out.own (S := Zn F z 4) HC2.out.logS (zn_off T6 fun b hb hb2 => by have h1 := hb.2; have h2 := hb2.2; omega)
  rw [show st.asked1.log.length = l from HL.out] at h1
  exact h1)
 have C5 : Hid (W6.cell? ⟨g, 5, none⟩ = some (.slice pl l cl)) := Lib.hid (cell_row HR6.out 5 _ rfl)
 have hlz : ∀ b, (Value.slice pl l cl).ownBlock = some b → Zn F z 4 b := HC.out.logS
 have hlng : ∀ b, (Value.slice pl l cl).ownBlock = some b → b ≠ g := fun b hb => zne (hlz b hb) hgz (by decide)
 have hlngx : ∀ b, (Value.slice pl l cl).ownBlock = some b → b ≠ gx := fun b hb e => hgxF (e ▸ (hlz b hb).1)
 have HWT6 : Hid (Own W6 0 92 36 (.slice pq (m + 1) cq) (m + 1) (wrsC st.wait ++ Wr.c (⟨(j:Int), s, k, id, st.ep⟩ : Wr))) := by
  rw [hW6]
  refine Lib.hid (own_set_other HO5.out fun b mm c hv e => ?_)
  have hb : (Value.slice pq (m + 1) cq).ownBlock = some b := by rw [hv]; rfl
  rcases HLOC5.out b hb with h | ⟨h, _⟩
  ·exact hwng b h e
  ·have := HT3.out.size; have := HB4.out.size; have : w3.drew.heap.size = w3.heap.size := rfl; omega
 have hWL6 : ∀ b, (Value.slice pq (m + 1) cq).ownBlock = some b → (Value.slice pw m cw).ownBlock = some b ∨ (w2.heap.size ≤ b ∧ b < W6.heap.size) := fun b hb => by
  rcases HLOC5.out b hb with h | ⟨h, h2⟩
  ·exact Or.inl h
  ·have := HT3.out.size; have := HB4.out.size; have : w3.drew.heap.size = w3.heap.size := rfl
   exact Or.inr ⟨by omega, by rw [hW6, size_set]; exact h2⟩
 have HWL6 := Lib.hid hWL6
 have HSE6 : Hid (Own W6 0 84 32 (.slice (some ⟨gn, 0, none⟩) n cn) n (cellsOf ((seenOf st).set j s))) := by
  have T36 : Touch (fun b => F b ∧ (z b = 0 ∨ z b = 2)) w3 W6 := by rw [hW6]; exact Touch.setCell (HT5.out.drewL.mono fun b hb => ⟨(hwz b hb).1, Or.inr (hwz b hb).2⟩) ⟨g, 2, none⟩ ⟨hgz.1, Or.inl hgz.2⟩ _
  exact Lib.hid (own_kept HO3.out (S := fun b => b = gn) (fun b hb => by cases hb; rfl) (T36.keeps fun b hb hb2 => by have h1 := hgnz.2; rw [hb] at hb2; have h2 := hb2.2; omega))
 have hg6' : g < W6.heap.size := (Array.getElem?_eq_some_iff.1 HR6.out).1
 have HEN := Lib.hid (evC_ones (1, (⟨(j:Int), s, k, id, st.ep⟩ : Wr), []) (.slice none 0 0) rfl)
 rw [← hW6]
 clear hHeld hH0 h0 h1 h2 h4 hW6 T25 T6 C2 HWO HX3 HO5 HLOC5 HT5 HRD4 HB4 HR5 hWL6 ht5 hbel4 hb4 HR3
 go_wp2_with fail
 have h0 : Touch (fun b => (Value.slice pl l cl).ownBlock = some b) W6.drew W6.drew := Touch.refl _ _
 refine wp_region_last (S := Touch (fun b => (Value.slice pl l cl).ownBlock = some b) W6.drew) 11 (by kernel_rfl) (Touch.refl _ _) (fun hH0 => ?_)
 refine wpAnyL_take (i := 0) (oi := { dst := some 46, op := Op.move (Operand.tmp 0), type := 26, pos := "bdisk.go:75", after := #[], guard := none }) (v := ?_) rfl (by kernel_rfl) (by kernel_rfl) (by kernel_rfl) (by kernel_rfl) (fun _ _ _ h => h) (Or.inl ⟨by rfl, ?_⟩) (by assumption) ?_
 rotate_left
 ·(intro w' hSw; go_simp; try with_reducible rfl)
 try simp only [Act.put, List.setIfInBounds_toArray, List.set_cons_zero, List.set_cons_succ]
 refine wpAnyL_take (i := 1) (oi := { dst := some 47, op := Op.move (Operand.tmp 0), type := 26, pos := "bdisk.go:75", after := #[], guard := none }) (v := ?_) rfl (by kernel_rfl) (by kernel_rfl) (by kernel_rfl) (by kernel_rfl) (fun _ _ _ h => h) (Or.inl ⟨by rfl, ?_⟩) (by assumption) ?_
 rotate_left
 ·(intro w' hSw; go_simp; try with_reducible rfl)
 try simp only [Act.put, List.setIfInBounds_toArray, List.set_cons_zero, List.set_cons_succ]
 refine wpAnyL_take (i := 2) (oi := { dst := some 48, op := Op.nilCheck (Operand.tmp 47), type := 0, pos := "bdisk.go:75", after := #[{ on := 1, ground := Ground.data }], guard := none }) (v := ?_) rfl (by kernel_rfl) (by kernel_rfl) (by kernel_rfl) (by kernel_rfl) (fun _ _ _ h => h) (Or.inl ⟨by rfl, ?_⟩) (by assumption) ?_
 rotate_left
 ·(intro w' hSw; go_simp; try with_reducible rfl)
 try simp only [Act.put, List.setIfInBounds_toArray, List.set_cons_zero, List.set_cons_succ]
 refine wpAnyL_take (i := 3) (oi := { dst := some 49, op := Op.fieldAddr 109 (Operand.tmp 48) 5, type := 0, pos := "bdisk.go:75", after := #[{ on := 2, ground := Ground.data }], guard := none }) (v := ?_) rfl (by kernel_rfl) (by kernel_rfl) (by kernel_rfl) (by kernel_rfl) (fun _ _ _ h => h) (Or.inl ⟨by rfl, ?_⟩) (by assumption) ?_
 rotate_left
 ·(intro w' hSw; go_simp; try with_reducible rfl)
 try simp only [Act.put, List.setIfInBounds_toArray, List.set_cons_zero, List.set_cons_succ]
 refine' wpAnyL_take (i := 4) (oi := { dst := some 50, op := Op.load 52 (Operand.tmp 49), type := 52, pos := "bdisk.go:75", after := #[{ on := 3, ground := Ground.data }], guard := none }) (v := _) rfl (by kernel_rfl) (by kernel_rfl) (by kernel_rfl) (by kernel_rfl) (fun _ _ _ h => h) (ld_cell (by rfl) 52 _ Tryz.underlying52 rfl _ rfl g 5 rfl (.slice pl l cl) (fun w' hw => (hw.drewL.cell (p := ⟨g, 5, none⟩) hg6' (fun e => hlng g e rfl)).trans C5.out)) (by assumption) ?_
 try simp only [Act.put, List.setIfInBounds_toArray, List.set_cons_zero, List.set_cons_succ]
 refine' wpAnyL_take (i := 5) (oi := { dst := some 51, op := Op.load 92 (Operand.tmp 10), type := 92, pos := "bdisk.go:75", after := #[], guard := none }) (v := _) rfl (by kernel_rfl) (by kernel_rfl) (by kernel_rfl) (by kernel_rfl) (fun _ _ _ h => h) (ld_wr (by rfl) _ rfl gx 0 rfl (⟨(j:Int), s, k, id, st.ep⟩ : Wr) HS.out (fun w' hw => AtW.range (row_touch HX6.out hw.drewL (fun e => hlngx gx e rfl)))) (by assumption) ?_
 try simp only [Act.put, List.setIfInBounds_toArray, List.set_cons_zero, List.set_cons_succ]
 refine' wpAnyL_take (i := 6) (oi := { dst := some 52, op := Op.build 146 #[(0, Operand.const (Value.int IntKind.i64 1)), (1, Operand.tmp 51)], type := 146, pos := "bdisk.go:75", after := #[{ on := 5, ground := Ground.data }], guard := none }) (v := _) rfl (by kernel_rfl) (by kernel_rfl) (by kernel_rfl) (by kernel_rfl) (fun _ _ _ h => h) (build_yields (by rfl) 146 _ rfl [(0, .int .i64 1), (1, .agg (Wr.c (⟨(j:Int), s, k, id, st.ep⟩ : Wr)).toArray)] rfl _ (built_evw (⟨(j:Int), s, k, id, st.ep⟩ : Wr) HS.out)) (by assumption) ?_
 try simp only [Act.put, List.setIfInBounds_toArray, List.set_cons_zero, List.set_cons_succ]
 refine wpAnyL_ready (rs := [7]) (by kernel_rfl) (by simp) ?_
 refine AllReadyL.cons (o := { dst := some 53, op := Op.buildSlice 52 1 #[(0, Operand.tmp 52)], type := 52, pos := "bdisk.go:75", after := #[{ on := 6, ground := Ground.data }], guard := none }) rfl (fun K hK => ?_) AllReadyL.nil
 refine step_one elem_evs (by decide) (by rfl) _ rfl (evC (1, (⟨(j:Int), s, k, id, st.ep⟩ : Wr), []) (.slice none 0 0)) rfl (evC_len HS.out) ?_
 intro b7 w7 hb7 hrd7 hbel7
 have HRD7 := Lib.hid hrd7
 have HB7 := Lib.hid hbel7
 have h1 : Touch (fun b => (Value.slice pl l cl).ownBlock = some b) W6.drew w7 := Touch.of_below hbel7
 refine hK.out _ _ (Or.inr h1) (fun hHeld => ?_)
 clear hK K hrd7
 try simp only [Act.put, List.setIfInBounds_toArray, List.set_cons_zero, List.set_cons_succ]
 refine wpAnyL_ready (rs := [8]) (by kernel_rfl) (by simp) ?_
 refine AllReadyL.cons (o := { dst := some 54, op := Op.call { callee := Callee.builtin Builtin.append, args := #[Operand.tmp 50, Operand.tmp 53], argTypes := #[52, 52] }, type := 52, pos := "bdisk.go:75", after := #[{ on := 4, ground := Ground.data }, { on := 7, ground := Ground.data }], guard := none }) rfl (fun K hK => ?_) AllReadyL.nil
 refine step_ap3 elem_evs (by rfl) _ _ rfl (.slice pl l cl) l _ (by rfl) (own_later HLO.out.drew HB7.out) _ 1 (evC (1, (⟨(j:Int), s, k, id, st.ep⟩ : Wr), []) (.slice none 0 0)) (by rfl) HRD7.out HEN.out (by omega) ?_
 intro pr cr w8 ho8 ht8 hloc8
 have HO8 := Lib.hid ho8
 have HLOC8 := Lib.hid hloc8
 have h2 := h1.trans ht8
 have HT8 := Lib.hid h2
 refine hK.out _ _ (Or.inr h2) (fun hHeld => ?_)
 clear hK K ho8 hloc8
 try simp only [Act.put, List.setIfInBounds_toArray, List.set_cons_zero, List.set_cons_succ]
 refine wpAnyL_ready (rs := [9]) (by kernel_rfl) (by simp) ?_
 refine AllReadyL.cons (o := { dst := some 55, op := Op.nilCheck (Operand.tmp 46), type := 0, pos := "bdisk.go:75", after := #[{ on := 0, ground := Ground.data }, { on := 0, ground := Ground.phase }, { on := 1, ground := Ground.phase }, { on := 2, ground := Ground.phase }, { on := 3, ground := Ground.phase }, { on := 4, ground := Ground.phase }, { on := 5, ground := Ground.phase }, { on := 6, ground := Ground.phase }, { on := 7, ground := Ground.phase }, { on := 8, ground := Ground.phase }], guard := none }) rfl (fun K hK => ?_) AllReadyL.nil
 go_simp
 refine hK.out _ _ (Or.inr (by assumption)) (fun hHeld => ?_)
 clear hK K
 try simp only [Act.put, List.setIfInBounds_toArray, List.set_cons_zero, List.set_cons_succ]
 refine wpAnyL_take (i := 10) (oi := { dst := some 56, op := Op.fieldAddr 109 (Operand.tmp 55) 5, type := 0, pos := "bdisk.go:75", after := #[{ on := 9, ground := Ground.data }, { on := 0, ground := Ground.phase }, { on := 1, ground := Ground.phase }, { on := 2, ground := Ground.phase }, { on := 3, ground := Ground.phase }, { on := 4, ground := Ground.phase }, { on := 5, ground := Ground.phase }, { on := 6, ground := Ground.phase }, { on := 7, ground := Ground.phase }, { on := 8, ground := Ground.phase }], guard := none }) (v := ?_) rfl (by kernel_rfl) (by kernel_rfl) (by kernel_rfl) (by kernel_rfl) (fun _ _ _ h => h) (Or.inl ⟨by rfl, ?_⟩) (by assumption) ?_
 rotate_left
 ·(intro w' hSw; go_simp; try with_reducible rfl)
 try simp only [Act.put, List.setIfInBounds_toArray, List.set_cons_zero, List.set_cons_succ]
 refine wpAnyL_ready (rs := [11]) (by kernel_rfl) (by simp) ?_
 refine AllReadyL.cons (o := { dst := none, op := Op.store 52 (Operand.tmp 56) (Operand.tmp 54), type := 0, pos := "bdisk.go:75", after := #[{ on := 10, ground := Ground.data }, { on := 8, ground := Ground.data }, { on := 8, ground := Ground.chain }, { on := 0, ground := Ground.phase }, { on := 1, ground := Ground.phase }, { on := 2, ground := Ground.phase }, { on := 3, ground := Ground.phase }, { on := 4, ground := Ground.phase }, { on := 5, ground := Ground.phase }, { on := 6, ground := Ground.phase }, { on := 7, ground := Ground.phase }, { on := 8, ground := Ground.phase }], guard := none }) rfl (fun K hK => ?_) AllReadyL.nil
 have HR8 := Lib.hid (row_touch HR6.out HT8.out.drewL (fun e => hlng g e rfl))
 have c12 := cell_row HR8.out 5 (.slice pl l cl) rfl
 have z12 := frozen_row HR8.out 5
 have h4 := HT8.out
 go_simp
 refine hK.out _ _ (Or.inl rfl) (fun hHeld => ?_)
 clear hK K c12 z12
 try simp only [Act.put, List.setIfInBounds_toArray, List.set_cons_zero, List.set_cons_succ]
 refine wpAnyL_done (by kernel_rfl) ?_ _
 obtain ⟨W9, hW9⟩ : ∃ W9, W9 = w8.setCell ⟨g, 5, none⟩ (.slice pr (l + 1) cr) := ⟨_, rfl⟩
 have T69 : Touch (fun b => F b ∧ (z b = 0 ∨ z b = 4)) W6 W9 := by rw [hW9]; exact Touch.setCell (HT8.out.drewL.mono fun b hb => ⟨(hlz b hb).1, Or.inr (hlz b hb).2⟩) ⟨g, 5, none⟩ ⟨hgz.1, Or.inl hgz.2⟩ _
 have T29 : Touch (fun b => F b ∧ (z b = 0 ∨ z b = 2 ∨ z b = 3 ∨ z b = 4)) w2 W9 := (HT6.out.mono fun b hb => ⟨hb.1, by have := hb.2; omega⟩).trans (T69.mono fun b hb => ⟨hb.1, by have := hb.2; omega⟩)
 have s26 := HT6.out.size
 have s69 := T69.size
 have s67 : W6.heap.size ≤ w7.heap.size := HB7.out.size
 have hrow : W9.heap[g]? = some (.cells #[.pointer (some ⟨g, 0, none⟩), .slice ps n cs, .slice pq (m + 1) cq, .slice (some ⟨gn, 0, none⟩) n cn, .int .i64 st.ep, .slice pr (l + 1) cr, .int .i64 (st.asked + 1), vf] 109 (0, 0)) := by rw [hW9]; exact setCell_heap HR8.out _
 have hseen : Own W9 0 84 32 (.slice (some ⟨gn, 0, none⟩) n cn) n (cellsOf ((seenOf st).set j s)) := own_kept HSE6.out (S := fun b => b = gn) (fun b hb => by cases hb; rfl) (T69.keeps fun b hb hb2 => by have h1 := hgnz.2; rw [hb] at hb2; have h2 := hb2.2; omega)
 have hwait : Own W9 0 92 36 (.slice pq (m + 1) cq) (m + 1) (wrsC st.wait ++ Wr.c (⟨(j:Int), s, k, id, st.ep⟩ : Wr)) := own_kept HWT6.out (S := fun b => (Value.slice pq (m + 1) cq).ownBlock = some b) (fun b hb => hb) (T69.keeps fun b hb hb2 => by
  rcases HWL6.out b hb with h | ⟨h, _⟩
  ·have h1 := (hwz b h).2; have h2 := hb2.2; omega
  ·have h1 := HFL.out b hb2.1; have h2 := HB2.out.size; omega)
 have hlog : Own W9 0 146 38 (.slice pr (l + 1) cr) (l + 1) (((st.log.zip es).map fun x => evC x.1 x.2).flatten ++ evC (1, (⟨(j:Int), s, k, id, st.ep⟩ : Wr), []) (.slice none 0 0)) := by
  rw [hW9]
  refine own_set_other HO8.out fun b mm c hv e => ?_
  have hb : (Value.slice pr (l + 1) cr).ownBlock = some b := by rw [hv]; rfl
  rcases HLOC8.out b hb with h | ⟨h, _⟩
  ·exact hlng b h e
  ·omega
 have hfin := codeAt_write (st := st.asked1) (x := (⟨(j:Int), s, k, id, st.ep⟩ : Wr)) (t := .slice none 0 0) (z' := fun b => if b < w2.heap.size then z b else if b < W6.heap.size then 2 else 4) HC2.out HES.out T29 (fun b hb => hb) (fun b hb => if_pos hb) hrow
  (by
   have e : outOf (fun _ => true) (st.asked1.wait ++ [(⟨(j:Int), s, k, id, st.ep⟩ : Wr)]) st.asked1.safe = (seenOf st).set j s := seenOf_more st _
   rw [e, show st.asked1.safe.length = n from HN.out]
   exact hseen)
  (by rw [show st.asked1.wait.length = m from HMM.out]; exact hwait)
  (fun b hb => by
   rcases HWL6.out b hb with h | ⟨h, h2⟩
   ·exact Or.inl h
   ·exact Or.inr ⟨h, by omega, by rw [if_neg (by omega), if_pos h2]⟩)
  (by rw [show st.asked1.log.length = l from HL.out]; exact hlog)
  (fun b hb => by
   rcases HLOC8.out b hb with h | ⟨h, h2⟩
   ·exact Or.inl h
   ·exact Or.inr ⟨by omega, by rw [hW9, size_set]; exact h2, by rw [if_neg (by omega), if_neg (by omega)]⟩)
  ⟨hep, HKW.out, HIW.out⟩
 have hTT : Touch F w W9 := (((Touch.of_below HBW.out).trans (HT.out.mono fun b hb => hb.1)).trans (Touch.of_below HB2.out)).trans (T29.mono fun b hb => hb.1)
 have HD : CodeDone CA F (.pointer (some ⟨g, 0, none⟩)) w (0, { st with asked := st.asked + 1, wait := st.wait ++ [⟨(j:Int), s, k, id, st.ep⟩], log := st.log ++ [(1, ⟨(j:Int), s, k, id, st.ep⟩, [])] }) (.returned (.int .i64 0)) W9 := by
  refine ⟨rfl, ⟨_, g, _, _, _, _, vf, rfl, hfin.wider (fun b hb => ?_) (fun _ _ => rfl)⟩, hTT⟩
  have s12 := HB2.out.size
  rcases hb with h | ⟨h4, h5⟩
  ·exact Or.inl h
  ·exact Or.inr ⟨by omega, h5⟩
 rw [hW9] at HD
 clear hfin
 go_wp2_with fail
 go_ret
 exact HD
theorem CA.narrow {w : World} {F : Nat → Prop} {d : Value} {st : St} (h : CA w F d st) : CA w (fun b => F b ∧ b < w.heap.size) d st := by
 obtain ⟨z, g, vs, vw, vn, vl, vf, rfl, h⟩ := h
 obtain ⟨es, he⟩ := h.log
 refine ⟨z, g, vs, vw, vn, vl, vf, rfl, h.row, ⟨⟨h.own.1, h.lt⟩, h.own.2⟩, h.safe, fun k hk => ⟨⟨(h.safeS k hk).1, (own_blk h.safe hk).2⟩, (h.safeS k hk).2⟩, h.wait, fun k hk => ⟨⟨(h.waitS k hk).1, (own_blk h.wait hk).2⟩, (h.waitS k hk).2⟩, h.seen, fun k hk => ⟨⟨(h.seenS k hk).1, (own_blk h.seen hk).2⟩, (h.seenS k hk).2⟩, ⟨es, he.mono fun b hb hT => ⟨⟨hT.1, hb⟩, hT.2⟩⟩, fun k hk => ⟨⟨(h.logS k hk).1, (own_blk he.own hk).2⟩, (h.logS k hk).2⟩, h.faults.mono fun b hb hT => ⟨⟨hT.1, hb⟩, hT.2⟩, h.eps⟩
theorem codeDone_wide {w w' : World} {F : Nat → Prop} {d : Value} {r : Int × St} {e : Ending} (h : CodeDone CA (fun b => F b ∧ b < w.heap.size) d w r e w') : CodeDone CA F d w r e w' := by
 obtain ⟨h1, ⟨z, g, vs, vw, vn, vl, vf, hd, h2⟩, h3⟩ := h
 refine ⟨h1, ⟨z, g, vs, vw, vn, vl, vf, hd, h2.wider (fun b hb => ?_) (fun _ _ => rfl)⟩, h3.mono fun b hb => hb.1⟩
 rcases hb with h | h
 ·exact Or.inl h.1
 ·exact Or.inr h
theorem cwrite (w : World) (F : Nat → Prop) (d : Value) (st : St) (i : Int) (s : List Int) (k id : Int) (h : CA w F d st) (hf : st.fine) (hi : wf64 i) (hs : Sec s) (hk : wf64 k) (hid : wf64 id) :
  Calls Tryz.prog 181 #[d, .int .i64 i, agg s, .agg #[.int .i64 k, .int .i64 id]] w (CodeDone CA F d w (writeR st i s k id)) := by
 unfold writeR
 by_cases hin : 0 ≤ i ∧ i < (st.safe.length : Int)
 ·rw [if_pos hin]
  by_cases ha : asks st = true
  ·rw [if_pos ha]
   have := cwrite_no w F d st i s k id h hf hi (Or.inr ha)
   rw [if_pos hin] at this
   exact this
  ·rw [if_neg ha]
   exact (cwrite_yes w _ d st i s k id h.narrow (fun b hb => hb.2) hf hi hs hk hid hin (by simpa using ha)).mono fun e w' hd => codeDone_wide hd
 ·rw [if_neg hin]
  have := cwrite_no w F d st i s k id h hf hi (Or.inl hin)
  rw [if_neg hin] at this
  exact this
end dsk
namespace dsk
set_option maxRecDepth 100000
open Go.ChangeShapes Go.WideShapes Go.ChangeAt Go.RowKit
open rows
open sec
theorem null_eq {t e : TypeId} (hu : Tryz.prog.underlying t = some (.pointer e)) (p : Option Addr) (w : World) : (binOp .eql t (.pointer p) (.pointer none)).run Tryz.prog w = .ok (.bool p.isNone) w := by
 have h : ∀ d : Nat, (Op.equalIn (d + 1) t (.pointer p) (.pointer none)).run Tryz.prog w = .ok p.isNone w := fun d => by
  cases p <;> simp [Op.equalIn, run_underlying hu]
 simp only [binOp]
 simp [Op.equal, Op.maxDepth, h 9999]
end dsk
end Go.Proofs.YtpahnfnfoldbhaaGreatDoor
