/- What the reference's New and From give. -/
import Derived.Test.YteobhljkjgocdaaDskSame
namespace Go.Proofs.Yteobhljkjgocdaa.dsk
open Go.ChangeShapes Go.WideShapes Go.ChangeAt Go.RowKit
open Go.Proofs.Yteobhljkjgocdaa.rows
open Go.Proofs.Yteobhljkjgocdaa.sec
set_option linter.unusedVariables false
set_option linter.unusedSimpArgs false

def zero32 : List Int := List.replicate 32 0
theorem sec_zero : Sec zero32 := by
  refine ⟨by simp [zero32], fun x hx => ?_⟩
  have := List.eq_of_mem_replicate hx
  omega
theorem cellsOf_map (ss : List (List Int)) : cellsOf ss = (ss.map u8s).flatten := by
  simp only [cellsOf, u8s, List.map_flatten]
  rfl
theorem u8s_len (s : List Int) : (u8s s).length = s.length := by simp [u8s]
theorem secs_zero (n : Nat) : Secs (List.replicate n zero32) := fun s hs => by rw [List.eq_of_mem_replicate hs]; exact sec_zero
theorem cellsOf_zero (n : Nat) : cellsOf (List.replicate n zero32) = List.replicate (n * 32) (.int .u8 0) := by
  unfold cellsOf u8s zero32
  rw [List.flatten_replicate_replicate, List.map_replicate]
theorem made_rep (k n : Nat) (v : Value) (hk : 0 < k) : (madeCells (List.replicate k v).toArray n).toList = List.replicate n v := by
  apply List.ext_getElem
  · simp [size_madeCells]
  · intro i h1 h2
    have : i % k < k := Nat.mod_lt _ hk
    simp [madeCells, this]
theorem made_secs (n : Nat) : (madeCells (Value.agg (u8s (List.replicate 32 0)).toArray).cells (n * 32)).toList = cellsOf (List.replicate n zero32) := by
  rw [cellsOf_zero]
  have hz : (Value.agg (u8s (List.replicate 32 0)).toArray).cells = (List.replicate 32 (Value.int .u8 0)).toArray := by simp [Value.cells, u8s]
  rw [hz, made_rep 32 _ _ (by decide)]
theorem put_chunk {α : Type} (enc : α → List Value) (sz : Nat) : ∀ (l : List α) (i : Nat) (x : α), (∀ y ∈ l, (enc y).length = sz) → (enc x).length = sz → i < l.length →
    ((l.map enc).flatten).take (i * sz) ++ enc x ++ ((l.map enc).flatten).drop (i * sz + sz) = ((l.set i x).map enc).flatten
  | [], i, _, _, _, h => by simp at h
  | y :: t, 0, x, hl, hx, _ => by
    have hy := hl y (List.mem_cons_self ..)
    rw [List.map_cons, List.flatten_cons, Nat.zero_mul, List.take_zero, List.nil_append, Nat.zero_add, List.drop_left' hy]
    rfl
  | y :: t, i + 1, x, hl, hx, h => by
    have hy := hl y (List.mem_cons_self ..)
    have ih := put_chunk enc sz t i x (fun z hz => hl z (List.mem_cons_of_mem _ hz)) hx (by simpa using h)
    rw [List.map_cons, List.flatten_cons, List.set_cons_succ, List.map_cons, List.flatten_cons, ← ih]
    have e1 : (i + 1) * sz = (enc y).length + i * sz := by rw [hy, Nat.succ_mul]; omega
    have e2 : (i + 1) * sz + sz = (enc y).length + (i * sz + sz) := by rw [e1]; omega
    rw [e1, show (enc y).length + i * sz + sz = (enc y).length + (i * sz + sz) by omega, List.take_length_add_append, List.drop_length_add_append]
    simp [List.append_assoc]
/-- block g holds the sectors ss, all of it -/
def Rows (w : World) (g : Nat) (ss : List (List Int)) : Prop := w.heap[g]? = some (.cells (cellsOf ss).toArray 35 (0, 0))
theorem rows_rd {w : World} {g : Nat} {ss : List (List Int)} (h : Rows w g ss) (hs : Secs ss) (hm : ss.length ≤ maxLen) : Rd w 32 (.slice (some ⟨g, 0, none⟩) ss.length ss.length) ss.length (cellsOf ss) := by
  by_cases h0 : ss.length = 0
  · have : ss = [] := List.eq_nil_of_length_eq_zero h0
    subst this
    exact Or.inl ⟨_, _, rfl, rfl, rfl, fun h => by cases h⟩
  · refine Or.inr ⟨g, 0, _, rfl, by omega, Nat.le_refl _, hm, (Array.getElem?_eq_some_iff.1 h).1, cellsOf_len hs, fun i u hi => ?_⟩
    rw [Nat.zero_add, cell_of_row _ _ i _ _ (0, 0) h]
    simpa using hi
theorem rows_made {w : World} {B g n : Nat} {ss : List (List Int)} (h : w.ownsRow B 35 32 (.slice (some ⟨g, 0, none⟩) n n) n (cellsOf ss)) : Rows w g ss := by
  rcases h.2 with ⟨h2, _⟩ | ⟨g', cap, cur, h1, h2, h3, h4, h5, h6, h7⟩
  · cases h2
  · cases h1
    rw [List.take_of_length_le (by simp [h6])] at h7
    rw [Rows, ← h7]
    exact h3
/-- a sector into the middle of a block of sectors -/
theorem run_store_mid {w : World} {g i : Nat} {ss : List (List Int)} (h : Rows w g ss) (hs : Secs ss) (hi : i < ss.length) {s : List Int} (hl : Sec s) :
    (storeVar 35 ⟨g, i * 32, none⟩ (.agg (u8s s).toArray)).run Try.prog w = .ok () (w.setRow g (cellsOf (ss.set i s)).toArray) := by
  have h1 := run_storeCells_at (P := Try.prog) g (i * 32) 35 (u8s s) 0 (cellsOf ss).toArray w h (by simp [cellsOf_len hs, u8s_len, hl.1]; omega) (one_ints .u8 s)
  rw [Nat.add_zero, u8s_len, hl.1] at h1
  have e : (cellsOf ss).toArray.toList.take (i * 32) ++ u8s s ++ (cellsOf ss).toArray.toList.drop (i * 32 + 32) = cellsOf (ss.set i s) := by
    rw [cellsOf_map, cellsOf_map]
    exact put_chunk u8s 32 ss i s (fun y hy => by rw [u8s_len, (hs y hy).1]) (by rw [u8s_len, hl.1]) hi
  rw [e] at h1
  cases hq : Try.prog.info? 35 with
  | none => have := info_sec; simp [hq] at this
  | some q =>
    have hsz : q.size = 32 := by have := info_sec; simpa [hq] using this
    have hc : (Value.agg (u8s s).toArray).cells = (u8s s).toArray := rfl
    simp [storeVar, sizeOf, typeInfo, hq, hsz, hc, u8s_len, hl.1, h1]
theorem rows_set {w : World} {g : Nat} {ss ss' : List (List Int)} (h : Rows w g ss) : Rows (w.setRow g (cellsOf ss').toArray) g ss' := setRow_heap w g _ _ _ _ h
theorem touch_setRow (w : World) (g : Nat) (cs : Array Value) : Touch (· = g) w (w.setRow g cs) := ⟨rfl, rfl, rfl, by simp [World.setRow], fun k _ hk => setRow_other w g k cs hk⟩
/-- the same as one step of a region that draws its order -/
theorem step_store_mid {w : World} {ops : Array Oper} {o : Oper} {a : Act} {K : Act → World → Prop} {Q : Exit → Act → World → Prop} {F : Prop} (hw : Region.wanted o (yielded ops a.tmps) = true) (x y : Operand) (ho : o.op = .store 35 x y)
    (g i : Nat) (hx : a.eval x = .pointer (some ⟨g, i * 32, none⟩)) (s : List Int) (hy : a.eval y = .agg (u8s s).toArray) (hl : Sec s) (ss : List (List Int)) (hs : Secs ss) (hi : i < ss.length) (hg : Rows w g ss)
    (h : ∀ w', Rows w' g (ss.set i s) → Touch (· = g) w w' → K (a.put o.dst undef) w') : if Region.wanted o (yielded ops a.tmps) = true then Oper.wp Try.prog o a w K Q else F := by
  rw [if_pos hw]
  have hrun := run_store_mid hg hs hi hl
  unfold Oper.wp execOp
  simp only [ho, hx, hy, Instr.storeAt, Instr.sureAddr, Sem.run_bind, Sem.run_pure, Result.andThen_ok, hrun]
  exact h _ (rows_set hg) (touch_setRow w g _)
theorem secs_set {ss : List (List Int)} (hs : Secs ss) {s : List Int} (h : Sec s) (i : Nat) : Secs (ss.set i s) := fun x hx => by
  rcases List.mem_or_eq_of_mem_set hx with h1 | rfl
  · exact hs x h1
  · exact h

def st0 (ss : List (List Int)) : St := ⟨ss, [], 0, [], [], 0⟩
theorem rnew_no (n : Int) (w : World) (h : (Lit.int .i64 n).wf = true) (hn : n < 1 ∨ 65 < n) :
    Calls Try.prog 29 #[.int .i64 n] w fun e w' => e = .returned (.tuple #[.pointer none, .int .i64 1]) ∧ w = w' := by
  have hx := wf_i64 h
  rcases hn with hn | hn
  · go_enter Try.func29, Try.ntmps29
    go_wp2
    go_ret2
    exact ⟨rfl, rfl⟩
  · have h1 : decide (n < 1) = false := by simp; omega
    go_enter Try.func29, Try.ntmps29
    go_wp2
    go_ret2
    exact ⟨rfl, rfl⟩
theorem rnew_yes (n : Nat) (w : World) (h1 : 1 ≤ n) (h2 : n ≤ 65) :
    Calls Try.prog 29 #[.int .i64 (n:Int)] w fun e w' => ∃ g gs, e = .returned (.tuple #[.pointer (some ⟨g, 0, none⟩), .int .i64 0]) ∧ w.heap.size ≤ gs ∧ w.heap.size ≤ g ∧ gs ≠ g ∧ Rows w' gs (List.replicate n zero32) ∧
      w'.heap[g]? = some (.cells #[.slice (some ⟨gs, 0, none⟩) n n, .slice none 0 0, .int .i64 0, .slice none 0 0, .slice none 0 0, .int .i64 0] 53 (0, 0)) ∧ Below w.heap.size w w' := by
  obtain ⟨i0, hi, hz0, hz1, hz2⟩ := info_parts elem_secs.info
  have q1 : decide ((n:Int) < 1) = false := by simp; omega
  have q2 : decide ((65:Int) < n) = false := by simp; omega
  go_enter Try.func29, Try.ntmps29
  go_wp2_with (first | (at_make; refine wpList_make_full _ rfl _ _ 22 rfl w.heap.size 35 i0 (.agg (u8s (List.replicate 32 0)).toArray) 32 Try.underlying22 hi hz0 hz1 .i64 .i64 _ _ n rfl rfl rfl rfl (by rw [hz2]; omega) (by unfold maxLen; omega) (Nat.le_refl _) ?_; intro w3 ho3 hg3; rw [made_secs] at ho3; have hb3 := below_made hg3; have R3 := Lib.hid (rows_made ho3); clear ho3 hg3))
  go_ret2
  have hlt : w.heap.size < w3.heap.size := (Array.getElem?_eq_some_iff.1 R3.out).1
  exact ⟨w3.heap.size, w.heap.size, rfl, Nat.le_refl _, hb3.size, by omega, (Below.heap_alloc _ _ _ hlt).trans R3.out, heap_alloc_new _ _, below_alloc hb3 _⟩
theorem set_take (xs ss : List (List Int)) (j : Nat) (h : ss.length = xs.length) (hj : j < xs.length) : ((xs.take j ++ ss.drop j).set j xs[j]) = xs.take (j + 1) ++ ss.drop (j + 1) := by
  have h1 : (xs.take j).length = j := by simp; omega
  rw [List.set_append_right _ _ (by omega), h1, Nat.sub_self, List.drop_eq_getElem_cons (by omega), List.set_cons_zero, List.take_succ_eq_append_getElem hj, List.append_assoc]
  rfl
set_option maxHeartbeats 1600000 in
theorem rfrom_yes (p : Option Addr) (n c : Nat) (xs : List (List Int)) (w : World) (hx : Secs xs) (hr : Rd w 32 (.slice p n c) n (cellsOf xs)) (h1 : 1 ≤ n) (h2 : n ≤ 65) :
    Calls Try.prog 8 #[.slice p n c] w fun e w' => ∃ g gs, e = .returned (.tuple #[.pointer (some ⟨g, 0, none⟩), .int .i64 0]) ∧ w.heap.size ≤ gs ∧ w.heap.size ≤ g ∧ gs ≠ g ∧ Rows w' gs xs ∧
      w'.heap[g]? = some (.cells #[.slice (some ⟨gs, 0, none⟩) n n, .slice none 0 0, .int .i64 0, .slice none 0 0, .slice none 0 0, .int .i64 0] 53 (0, 0)) ∧ Below w.heap.size w w' := by
  have hn : xs.length = n := by have := hr.cells; rw [cellsOf_len hx] at this; omega
  have HX := Lib.hid hx
  have HR := Lib.hid hr
  have HN := Lib.hid hn
  have HNEW := Lib.hid (rnew_yes n w h1 h2)
  have hb1 : (n:Int) ≤ 65 := by omega
  clear hr hn hx
  go_enter Try.func8, Try.ntmps8
  go_wp2_with (go_at_call 29; refine HNEW.out.mono ?_; rintro e w1 ⟨g, gs, rfl, hgs, hg, hne, hrows, hrow, hb⟩; have HRW := Lib.hid hrows; have HRG := Lib.hid hrow; clear hrows hrow)
  have HRW0 : Hid (Rows w1 gs (xs.take 0 ++ (List.replicate n zero32).drop 0)) := Lib.hid (by simpa using HRW.out)
  go_loopw [6] (fun iv wr => ∃ (j : Nat), j ≤ n ∧ iv = .int .i64 (j : Int) ∧ Hid (Rows wr gs (xs.take j ++ (List.replicate n zero32).drop j)) ∧ Hid (wr.heap[g]? = some (.cells #[.slice (some ⟨gs, 0, none⟩) n n, .slice none 0 0, .int .i64 0, .slice none 0 0, .slice none 0 0, .int .i64 0] 53 (0, 0))) ∧ Below w.heap.size w wr) (fun iv _ => n - (intOf iv).toNat)
  case atStart => exact ⟨0, by omega, rfl, HRW0, HRG, hb⟩
  case round =>
    clear HRW HRG HRW0 hb HNEW w1
    obtain ⟨j, hj, rfl, HRW, HRG, hbr⟩ := hrel
    by_cases ha : j < n
    · have ha1 : (j:Int) < n := by omega
      obtain ⟨b1, o1, rfl, hc1, hm1, hh1, hl1, HR1⟩ := row_at HR.out HX.out ha
      have hjl : j < xs.length := by rw [HN.out]; exact ha
      have hr1 := Rd.rangeLater (HR1 j hjl) hh1 hbr
      have hsx := Lib.hid (HX.out _ (List.getElem_mem hjl))
      have hst := set_take xs (List.replicate n zero32) j (by simp [HN.out]) hjl
      have hll : (xs.take j ++ (List.replicate n zero32).drop j).length = n := by simp; omega
      have hss : Secs (xs.take j ++ (List.replicate n zero32).drop j) := fun s hs => by
        rcases List.mem_append.1 hs with h | h
        · exact HX.out s (List.mem_of_mem_take h)
        · exact secs_zero n s (List.mem_of_mem_drop h)
      have HST := Lib.hid hst
      have HLL := Lib.hid hll
      have HSS := Lib.hid hss
      generalize xs[j] = s at *
      have HRR := Lib.hid hr1
      have c0 := Lib.hid (cell_row HRG.out 0 _ rfl)
      have hgl := (Array.getElem?_eq_some_iff.1 HRG.out).1
      have hb2 : b1 < wr.heap.size := Nat.lt_of_lt_of_le hh1 hbr.size
      clear HR1 hl1 hr1 hst hll hss
      go_wp2_with fail
      refine wp_region_held_drew (S := Touch (· = gs) wr.drew) (by kernel_rfl) (Touch.refl _ _) (fun hH0 => ?_)
      refine wpAnyH_take (i := 0) (oi := { dst := some 22, op := Op.move (Operand.tmp 4), type := 30, pos := "ref.go:30", after := #[], guard := none }) (v := ?_) rfl (by kernel_rfl) (by kernel_rfl) (by kernel_rfl) (fun _ _ _ h => h) (Or.inl ⟨by rfl, ?_⟩) (by assumption) ?_
      rotate_left
      · (intro w' hSw; go_simp; try with_reducible rfl)
      try simp only [Act.put, List.setIfInBounds_toArray, List.set_cons_zero, List.set_cons_succ]
      refine wpAnyH_take (i := 1) (oi := { dst := some 23, op := Op.nilCheck (Operand.tmp 22), type := 0, pos := "ref.go:30", after := #[{ on := 0, ground := Ground.data }], guard := none }) (v := ?_) rfl (by kernel_rfl) (by kernel_rfl) (by kernel_rfl) (fun _ _ _ h => h) (Or.inl ⟨by rfl, ?_⟩) (by assumption) ?_
      rotate_left
      · (intro w' hSw; go_simp; try with_reducible rfl)
      try simp only [Act.put, List.setIfInBounds_toArray, List.set_cons_zero, List.set_cons_succ]
      refine wpAnyH_take (i := 2) (oi := { dst := some 24, op := Op.fieldAddr 53 (Operand.tmp 23) 0, type := 0, pos := "ref.go:30", after := #[{ on := 1, ground := Ground.data }], guard := none }) (v := ?_) rfl (by kernel_rfl) (by kernel_rfl) (by kernel_rfl) (fun _ _ _ h => h) (Or.inl ⟨by rfl, ?_⟩) (by assumption) ?_
      rotate_left
      · (intro w' hSw; go_simp; try with_reducible rfl)
      try simp only [Act.put, List.setIfInBounds_toArray, List.set_cons_zero, List.set_cons_succ]
      refine' wpAnyH_take (i := 3) (oi := { dst := some 25, op := Op.load 22 (Operand.tmp 24), type := 22, pos := "ref.go:30", after := #[{ on := 2, ground := Ground.data }], guard := none }) (v := _) rfl (by kernel_rfl) (by kernel_rfl) (by kernel_rfl) (fun _ _ _ h => h) (ld_cell (by rfl) 22 _ und_secs rfl _ rfl g 0 rfl (.slice (some ⟨gs, 0, none⟩) n n) (fun w' hw => by rw [hw.drewL.cell (p := ⟨g, 0, none⟩) hgl (fun e => hne e.symm)]; exact c0.out)) (by assumption) ?_
      try simp only [Act.put, List.setIfInBounds_toArray, List.set_cons_zero, List.set_cons_succ]
      refine wpAnyH_take (i := 4) (oi := { dst := some 26, op := Op.move (Operand.tmp 6), type := 3, pos := "ref.go:30", after := #[], guard := none }) (v := ?_) rfl (by kernel_rfl) (by kernel_rfl) (by kernel_rfl) (fun _ _ _ h => h) (Or.inl ⟨by rfl, ?_⟩) (by assumption) ?_
      rotate_left
      · (intro w' hSw; go_simp; try with_reducible rfl)
      try simp only [Act.put, List.setIfInBounds_toArray, List.set_cons_zero, List.set_cons_succ]
      refine wpAnyH_take (i := 5) (oi := { dst := some 27, op := Op.move (Operand.tmp 0), type := 22, pos := "ref.go:30", after := #[], guard := none }) (v := ?_) rfl (by kernel_rfl) (by kernel_rfl) (by kernel_rfl) (fun _ _ _ h => h) (Or.inl ⟨by rfl, ?_⟩) (by assumption) ?_
      rotate_left
      · (intro w' hSw; go_simp; try with_reducible rfl)
      try simp only [Act.put, List.setIfInBounds_toArray, List.set_cons_zero, List.set_cons_succ]
      refine wpAnyH_take (i := 6) (oi := { dst := some 28, op := Op.move (Operand.tmp 6), type := 3, pos := "ref.go:30", after := #[], guard := none }) (v := ?_) rfl (by kernel_rfl) (by kernel_rfl) (by kernel_rfl) (fun _ _ _ h => h) (Or.inl ⟨by rfl, ?_⟩) (by assumption) ?_
      rotate_left
      · (intro w' hSw; go_simp; try with_reducible rfl)
      try simp only [Act.put, List.setIfInBounds_toArray, List.set_cons_zero, List.set_cons_succ]
      refine wpAnyH_take (i := 7) (oi := { dst := some 29, op := Op.indexAddr 22 (Operand.tmp 27) (Operand.tmp 28), type := 0, pos := "ref.go:30", after := #[{ on := 5, ground := Ground.data }, { on := 6, ground := Ground.data }], guard := none }) (v := ?_) rfl (by kernel_rfl) (by kernel_rfl) (by kernel_rfl) (fun _ _ _ h => h) (Or.inl ⟨by rfl, ?_⟩) (by assumption) ?_
      rotate_left
      · (intro w' hSw; go_simp; try with_reducible rfl)
      try simp only [Act.put, List.setIfInBounds_toArray, List.set_cons_zero, List.set_cons_succ]
      refine' wpAnyH_take (i := 8) (oi := { dst := some 30, op := Op.load 35 (Operand.tmp 29), type := 35, pos := "ref.go:30", after := #[{ on := 7, ground := Ground.data }], guard := none }) (v := _) rfl (by kernel_rfl) (by kernel_rfl) (by kernel_rfl) (fun _ _ _ h => h) (ld_sec (by rfl) _ rfl b1 (o1 + j * 32) rfl s hsx.out.1 (fun w' hw => hw.drewL.range hb2 (by omega) HRR.out)) (by assumption) ?_
      try simp only [Act.put, List.setIfInBounds_toArray, List.set_cons_zero, List.set_cons_succ]
      refine wpAnyH_take (i := 9) (oi := { dst := some 31, op := Op.indexAddr 22 (Operand.tmp 25) (Operand.tmp 26), type := 0, pos := "ref.go:30", after := #[{ on := 3, ground := Ground.data }, { on := 4, ground := Ground.data }, { on := 0, ground := Ground.phase }, { on := 1, ground := Ground.phase }, { on := 2, ground := Ground.phase }, { on := 3, ground := Ground.phase }, { on := 4, ground := Ground.phase }, { on := 5, ground := Ground.phase }, { on := 6, ground := Ground.phase }, { on := 7, ground := Ground.phase }, { on := 8, ground := Ground.phase }], guard := none }) (v := ?_) rfl (by kernel_rfl) (by kernel_rfl) (by kernel_rfl) (fun _ _ _ h => h) (Or.inl ⟨by rfl, ?_⟩) (by assumption) ?_
      rotate_left
      · (intro w' hSw; go_simp; try with_reducible rfl)
      try simp only [Act.put, List.setIfInBounds_toArray, List.set_cons_zero, List.set_cons_succ]
      -- 10
      refine wpAnyH_ready (rs := [10]) (by kernel_rfl) (by simp) ?_
      refine AllReadyH.cons (o := { dst := none, op := Op.store 35 (Operand.tmp 31) (Operand.tmp 30), type := 0, pos := "ref.go:30", after := #[{ on := 9, ground := Ground.data }, { on := 8, ground := Ground.data }, { on := 0, ground := Ground.phase }, { on := 1, ground := Ground.phase }, { on := 2, ground := Ground.phase }, { on := 3, ground := Ground.phase }, { on := 4, ground := Ground.phase }, { on := 5, ground := Ground.phase }, { on := 6, ground := Ground.phase }, { on := 7, ground := Ground.phase }, { on := 8, ground := Ground.phase }], guard := none }) rfl (fun K hK => ?_) AllReadyH.nil
      refine step_store_mid (by rfl) _ _ rfl gs j (by rfl) s (by rfl) hsx.out _ HSS.out (by rw [HLL.out]; exact ha) HRW.out ?_
      intro w2 hrw2 ht2
      rw [HST.out] at hrw2
      have HR2 := Lib.hid hrw2
      have HG2 : Hid (w2.heap[g]? = _) := Lib.hid ((ht2.block g hgl (by omega)).trans HRG.out)
      have hb2' : Below w.heap.size w w2 := hbr.drew.trans (ht2.below hbr.size (fun i hi => by rw [hi]; exact hgs))
      clear hrw2
      dsimp only
      refine hK.out _ _ ?_ (fun hHeld => ?_)
      · exact ht2
      clear hK K
      try simp only [Act.put, List.setIfInBounds_toArray, List.set_cons_zero, List.set_cons_succ]
      refine wpAnyH_done (by kernel_rfl) ?_ _
      go_wp2_with fail
      go_roundw
      case rel => exact ⟨j + 1, by omega, by go_num, HR2, HG2, hb2'⟩
      case measure => simp [intOf]; omega
    · obtain rfl : j = n := by omega
      have HRW2 : Hid (Rows wr gs xs) := Lib.hid (by
        have h := HRW.out
        rw [List.take_of_length_le (by rw [HN.out]; omega), List.drop_of_length_le (by simp), List.append_nil] at h
        exact h)
      clear HRW
      go_wp2_with fail
      go_ret2
      exact ⟨g, gs, rfl, hgs, hg, hne, HRW2.out, HRG.out, hbr⟩
end Go.Proofs.Yteobhljkjgocdaa.dsk
