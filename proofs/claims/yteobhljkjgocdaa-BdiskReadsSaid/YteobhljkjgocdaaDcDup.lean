/- What the code's Clone gives. -/
import Derived.Test.YteobhljkjgocdaaDcMake
import Derived.Shelf.SlMaps.Clone
namespace Go.Proofs.Yteobhljkjgocdaa.dsk
open Go.ChangeShapes Go.WideShapes Go.ChangeAt Go.RowKit
open Go.Proofs.Yteobhljkjgocdaa.rows
open Go.Proofs.Yteobhljkjgocdaa.sec
open Go.Maps
set_option linter.unusedVariables false
set_option linter.unusedSimpArgs false

theorem cmap (b : Nat) (es : Array MapEntry) (clock : Nat) (w : World) (hb : w.heap[b]? = some (.map es clock)) :
    Calls Try.prog 33 #[.map (some b)] w fun e w' => e = .returned (.map (some w.heap.size)) ∧ w' = w.alloc (.map es clock) := by
  have hq := fun w => run_eql_map_nil_sl (P := Try.prog) w 68 _ _ (some b) und_faults
  go_enter Try.func33, Try.ntmps33
  go_wp2
  rw [run_callFunc_extern Try.func46 (by kernel_rfl) (by kernel_rfl) (by kernel_rfl) (e := Extern.MapsClone.clone) (by kernel_rfl), run_maps_clone_sl w 68 hb]
  simp only [Result.andThen]
  rw [Oper.upon_value]
  go_wp2
  rw [run_typeAssert_map_sl _ 68 20 _ _ _ und_faults]
  simp only [Result.andThen]
  rw [Oper.upon_value]
  go_wp2
  go_ret
  exact ⟨rfl, rfl⟩
theorem cmap_nil (w : World) : Calls Try.prog 33 #[.map none] w fun e w' => e = .returned (.map none) ∧ w' = w := by
  have hq := fun w => run_eql_map_nil_sl (P := Try.prog) w 68 _ _ none und_faults
  go_enter Try.func33, Try.ntmps33
  go_wp2
  go_ret
  exact ⟨rfl, rfl⟩
theorem cmap_faults {S : Nat → Prop} {w : World} {v : Value} {bad : List Int} {asked : Int} (h : FaultsIn S w v bad asked) :
    Calls Try.prog 33 #[v] w fun e w' => ∃ v', e = .returned (.map v') ∧ FaultsIn (fun b => w.heap.size ≤ b ∧ b < w'.heap.size) w' (.map v') bad asked ∧ Below w.heap.size w w' := by
  rcases h with ⟨rfl, hb⟩ | ⟨b, n, D, rfl, hS, hn, ho, hk⟩
  · refine (cmap_nil w).mono ?_
    rintro e w' ⟨rfl, rfl⟩
    exact ⟨_, rfl, Or.inl ⟨rfl, hb⟩, Below.refl _ _⟩
  · obtain ⟨es, clock, he, r⟩ := ho
    refine (cmap b es clock w he).mono ?_
    rintro e w' ⟨rfl, rfl⟩
    exact ⟨_, rfl, Or.inr ⟨w.heap.size, n, D, rfl, ⟨Nat.le_refl _, by rw [size_alloc]; omega⟩, hn, ⟨es, clock, (MapKept.heap_alloc w _).1, r⟩, hk⟩, below_alloc (Below.refl _ _) _⟩
set_option maxHeartbeats 3200000 in
theorem cclone (w : World) (F : Nat → Prop) (d : Value) (st : St) (h : CA w F d st) (hf : st.fine) : Calls Try.prog 10 #[d] w fun e w' => ∃ ad, e = .returned (.pointer (some ad)) ∧ CA w' (fun b => w.heap.size ≤ b ∧ b < w'.heap.size) (.pointer (some ad)) st ∧ Below w.heap.size w w' := by
  obtain ⟨z, g, vs, vw, vn, vl, vf, rfl, h⟩ := h
  have HM := Lib.hid (cmade g w (cell_row h.row 0 _ rfl))
  obtain ⟨es, hes⟩ := h.log
  obtain ⟨ps, cs, hvs⟩ := h.safe.slice
  obtain ⟨pw, cw, hvw⟩ := h.wait.slice
  obtain ⟨pn, cn, hvn⟩ := h.seen.slice
  obtain ⟨pl, cl, hvl⟩ := hes.own.slice
  subst hvs hvw hvn hvl
  have HA := Lib.hid h
  have HES := Lib.hid hes
  have HF := Lib.hid hf
  have hlt := h.lt
  have C1 := Lib.hid (cell_row h.row 1 _ rfl)
  have C2 := Lib.hid (cell_row h.row 2 _ rfl)
  have C3 := Lib.hid (cell_row h.row 3 _ rfl)
  have C4 := Lib.hid (cell_row h.row 4 _ rfl)
  have C5 := Lib.hid (cell_row h.row 5 _ rfl)
  have C6 := Lib.hid (cell_row h.row 6 _ rfl)
  have C7 := Lib.hid (cell_row h.row 7 _ rfl)
  have HS1 : Hid (∀ ss : List (List Int), ∀ u ∈ cellsOf ss, u.oneCell' = true) := Lib.hid (by intro ss; rw [cellsOf_map]; intro u hu; obtain ⟨l, hl, hul⟩ := List.mem_flatten.1 hu; obtain ⟨x, _, rfl⟩ := List.mem_map.1 hl; exact one_ints .u8 x u hul)
  clear h hes hf
  go_enter Try.func10, Try.ntmps10
  go_wp2_with (go_at_call 30; refine HM.out.mono ?_; rintro e w0 ⟨rfl, rfl⟩)
  have h0 := Below.refl w.drew.heap.size w.drew
  refine wp_region_held_drew (S := ext w.drew) (by kernel_rfl) (Below.refl _ _) (fun hH0 => ?_)
  refine wpAnyH_take (i := 0) (oi := { dst := some 7, op := Op.move (Operand.tmp 0), type := 26, pos := "bdisk.go:216", after := #[], guard := none }) (v := ?_) rfl (by kernel_rfl) (by kernel_rfl) (by kernel_rfl) (fun _ _ _ h => h) (Or.inl ⟨by rfl, ?_⟩) (by assumption) ?_
  rotate_left
  · (intro w' hSw; go_simp; try with_reducible rfl)
  try simp only [Act.put, List.setIfInBounds_toArray, List.set_cons_zero, List.set_cons_succ]
  refine wpAnyH_take (i := 1) (oi := { dst := some 8, op := Op.nilCheck (Operand.tmp 7), type := 0, pos := "bdisk.go:216", after := #[{ on := 0, ground := Ground.data }], guard := none }) (v := ?_) rfl (by kernel_rfl) (by kernel_rfl) (by kernel_rfl) (fun _ _ _ h => h) (Or.inl ⟨by rfl, ?_⟩) (by assumption) ?_
  rotate_left
  · (intro w' hSw; go_simp; try with_reducible rfl)
  try simp only [Act.put, List.setIfInBounds_toArray, List.set_cons_zero, List.set_cons_succ]
  refine wpAnyH_take (i := 2) (oi := { dst := some 9, op := Op.fieldAddr 70 (Operand.tmp 8) 1, type := 0, pos := "bdisk.go:216", after := #[{ on := 1, ground := Ground.data }], guard := none }) (v := ?_) rfl (by kernel_rfl) (by kernel_rfl) (by kernel_rfl) (fun _ _ _ h => h) (Or.inl ⟨by rfl, ?_⟩) (by assumption) ?_
  rotate_left
  · (intro w' hSw; go_simp; try with_reducible rfl)
  try simp only [Act.put, List.setIfInBounds_toArray, List.set_cons_zero, List.set_cons_succ]
  refine' wpAnyH_take (i := 3) (oi := { dst := some 10, op := Op.load 22 (Operand.tmp 9), type := 22, pos := "bdisk.go:216", after := #[{ on := 2, ground := Ground.data }], guard := none }) (v := _) rfl (by kernel_rfl) (by kernel_rfl) (by kernel_rfl) (fun _ _ _ h => h) (ld_cell (by rfl) 22 _ und_secs rfl _ rfl g 1 rfl (.slice ps st.safe.length cs) (fun w' hw => ((below_drew hw).cell (p := ⟨g, 1, none⟩) hlt).trans C1.out)) (by assumption) ?_
  try simp only [Act.put, List.setIfInBounds_toArray, List.set_cons_zero, List.set_cons_succ]
  refine wpAnyH_take (i := 5) (oi := { dst := some 12, op := Op.move (Operand.tmp 0), type := 26, pos := "bdisk.go:216", after := #[], guard := none }) (v := ?_) rfl (by kernel_rfl) (by kernel_rfl) (by kernel_rfl) (fun _ _ _ h => h) (Or.inl ⟨by rfl, ?_⟩) (by assumption) ?_
  rotate_left
  · (intro w' hSw; go_simp; try with_reducible rfl)
  try simp only [Act.put, List.setIfInBounds_toArray, List.set_cons_zero, List.set_cons_succ]
  refine wpAnyH_take (i := 6) (oi := { dst := some 13, op := Op.nilCheck (Operand.tmp 12), type := 0, pos := "bdisk.go:216", after := #[{ on := 5, ground := Ground.data }], guard := none }) (v := ?_) rfl (by kernel_rfl) (by kernel_rfl) (by kernel_rfl) (fun _ _ _ h => h) (Or.inl ⟨by rfl, ?_⟩) (by assumption) ?_
  rotate_left
  · (intro w' hSw; go_simp; try with_reducible rfl)
  try simp only [Act.put, List.setIfInBounds_toArray, List.set_cons_zero, List.set_cons_succ]
  refine wpAnyH_take (i := 7) (oi := { dst := some 14, op := Op.fieldAddr 70 (Operand.tmp 13) 2, type := 0, pos := "bdisk.go:216", after := #[{ on := 6, ground := Ground.data }], guard := none }) (v := ?_) rfl (by kernel_rfl) (by kernel_rfl) (by kernel_rfl) (fun _ _ _ h => h) (Or.inl ⟨by rfl, ?_⟩) (by assumption) ?_
  rotate_left
  · (intro w' hSw; go_simp; try with_reducible rfl)
  try simp only [Act.put, List.setIfInBounds_toArray, List.set_cons_zero, List.set_cons_succ]
  refine' wpAnyH_take (i := 8) (oi := { dst := some 15, op := Op.load 50 (Operand.tmp 14), type := 50, pos := "bdisk.go:216", after := #[{ on := 7, ground := Ground.data }], guard := none }) (v := _) rfl (by kernel_rfl) (by kernel_rfl) (by kernel_rfl) (fun _ _ _ h => h) (ld_cell (by rfl) 50 _ und_wrs rfl _ rfl g 2 rfl (.slice pw st.wait.length cw) (fun w' hw => ((below_drew hw).cell (p := ⟨g, 2, none⟩) hlt).trans C2.out)) (by assumption) ?_
  try simp only [Act.put, List.setIfInBounds_toArray, List.set_cons_zero, List.set_cons_succ]
  refine wpAnyH_take (i := 10) (oi := { dst := some 17, op := Op.move (Operand.tmp 0), type := 26, pos := "bdisk.go:216", after := #[], guard := none }) (v := ?_) rfl (by kernel_rfl) (by kernel_rfl) (by kernel_rfl) (fun _ _ _ h => h) (Or.inl ⟨by rfl, ?_⟩) (by assumption) ?_
  rotate_left
  · (intro w' hSw; go_simp; try with_reducible rfl)
  try simp only [Act.put, List.setIfInBounds_toArray, List.set_cons_zero, List.set_cons_succ]
  refine wpAnyH_take (i := 11) (oi := { dst := some 18, op := Op.nilCheck (Operand.tmp 17), type := 0, pos := "bdisk.go:216", after := #[{ on := 10, ground := Ground.data }], guard := none }) (v := ?_) rfl (by kernel_rfl) (by kernel_rfl) (by kernel_rfl) (fun _ _ _ h => h) (Or.inl ⟨by rfl, ?_⟩) (by assumption) ?_
  rotate_left
  · (intro w' hSw; go_simp; try with_reducible rfl)
  try simp only [Act.put, List.setIfInBounds_toArray, List.set_cons_zero, List.set_cons_succ]
  refine wpAnyH_take (i := 12) (oi := { dst := some 19, op := Op.fieldAddr 70 (Operand.tmp 18) 3, type := 0, pos := "bdisk.go:216", after := #[{ on := 11, ground := Ground.data }], guard := none }) (v := ?_) rfl (by kernel_rfl) (by kernel_rfl) (by kernel_rfl) (fun _ _ _ h => h) (Or.inl ⟨by rfl, ?_⟩) (by assumption) ?_
  rotate_left
  · (intro w' hSw; go_simp; try with_reducible rfl)
  try simp only [Act.put, List.setIfInBounds_toArray, List.set_cons_zero, List.set_cons_succ]
  refine' wpAnyH_take (i := 13) (oi := { dst := some 20, op := Op.load 22 (Operand.tmp 19), type := 22, pos := "bdisk.go:216", after := #[{ on := 12, ground := Ground.data }], guard := none }) (v := _) rfl (by kernel_rfl) (by kernel_rfl) (by kernel_rfl) (fun _ _ _ h => h) (ld_cell (by rfl) 22 _ und_secs rfl _ rfl g 3 rfl (.slice pn st.safe.length cn) (fun w' hw => ((below_drew hw).cell (p := ⟨g, 3, none⟩) hlt).trans C3.out)) (by assumption) ?_
  try simp only [Act.put, List.setIfInBounds_toArray, List.set_cons_zero, List.set_cons_succ]
  refine wpAnyH_take (i := 15) (oi := { dst := some 22, op := Op.move (Operand.tmp 0), type := 26, pos := "bdisk.go:216", after := #[], guard := none }) (v := ?_) rfl (by kernel_rfl) (by kernel_rfl) (by kernel_rfl) (fun _ _ _ h => h) (Or.inl ⟨by rfl, ?_⟩) (by assumption) ?_
  rotate_left
  · (intro w' hSw; go_simp; try with_reducible rfl)
  try simp only [Act.put, List.setIfInBounds_toArray, List.set_cons_zero, List.set_cons_succ]
  refine wpAnyH_take (i := 16) (oi := { dst := some 23, op := Op.nilCheck (Operand.tmp 22), type := 0, pos := "bdisk.go:216", after := #[{ on := 15, ground := Ground.data }], guard := none }) (v := ?_) rfl (by kernel_rfl) (by kernel_rfl) (by kernel_rfl) (fun _ _ _ h => h) (Or.inl ⟨by rfl, ?_⟩) (by assumption) ?_
  rotate_left
  · (intro w' hSw; go_simp; try with_reducible rfl)
  try simp only [Act.put, List.setIfInBounds_toArray, List.set_cons_zero, List.set_cons_succ]
  refine wpAnyH_take (i := 17) (oi := { dst := some 24, op := Op.fieldAddr 70 (Operand.tmp 23) 4, type := 0, pos := "bdisk.go:216", after := #[{ on := 16, ground := Ground.data }], guard := none }) (v := ?_) rfl (by kernel_rfl) (by kernel_rfl) (by kernel_rfl) (fun _ _ _ h => h) (Or.inl ⟨by rfl, ?_⟩) (by assumption) ?_
  rotate_left
  · (intro w' hSw; go_simp; try with_reducible rfl)
  try simp only [Act.put, List.setIfInBounds_toArray, List.set_cons_zero, List.set_cons_succ]
  refine' wpAnyH_take (i := 18) (oi := { dst := some 25, op := Op.load 3 (Operand.tmp 24), type := 3, pos := "bdisk.go:216", after := #[{ on := 17, ground := Ground.data }], guard := none }) (v := _) rfl (by kernel_rfl) (by kernel_rfl) (by kernel_rfl) (fun _ _ _ h => h) (ld_cell (by rfl) 3 _ und_int rfl _ rfl g 4 rfl (.int .i64 st.ep) (fun w' hw => ((below_drew hw).cell (p := ⟨g, 4, none⟩) hlt).trans C4.out)) (by assumption) ?_
  try simp only [Act.put, List.setIfInBounds_toArray, List.set_cons_zero, List.set_cons_succ]
  refine wpAnyH_take (i := 19) (oi := { dst := some 26, op := Op.move (Operand.tmp 0), type := 26, pos := "bdisk.go:216", after := #[], guard := none }) (v := ?_) rfl (by kernel_rfl) (by kernel_rfl) (by kernel_rfl) (fun _ _ _ h => h) (Or.inl ⟨by rfl, ?_⟩) (by assumption) ?_
  rotate_left
  · (intro w' hSw; go_simp; try with_reducible rfl)
  try simp only [Act.put, List.setIfInBounds_toArray, List.set_cons_zero, List.set_cons_succ]
  refine wpAnyH_take (i := 20) (oi := { dst := some 27, op := Op.nilCheck (Operand.tmp 26), type := 0, pos := "bdisk.go:216", after := #[{ on := 19, ground := Ground.data }], guard := none }) (v := ?_) rfl (by kernel_rfl) (by kernel_rfl) (by kernel_rfl) (fun _ _ _ h => h) (Or.inl ⟨by rfl, ?_⟩) (by assumption) ?_
  rotate_left
  · (intro w' hSw; go_simp; try with_reducible rfl)
  try simp only [Act.put, List.setIfInBounds_toArray, List.set_cons_zero, List.set_cons_succ]
  refine wpAnyH_take (i := 21) (oi := { dst := some 28, op := Op.fieldAddr 70 (Operand.tmp 27) 5, type := 0, pos := "bdisk.go:216", after := #[{ on := 20, ground := Ground.data }], guard := none }) (v := ?_) rfl (by kernel_rfl) (by kernel_rfl) (by kernel_rfl) (fun _ _ _ h => h) (Or.inl ⟨by rfl, ?_⟩) (by assumption) ?_
  rotate_left
  · (intro w' hSw; go_simp; try with_reducible rfl)
  try simp only [Act.put, List.setIfInBounds_toArray, List.set_cons_zero, List.set_cons_succ]
  refine' wpAnyH_take (i := 22) (oi := { dst := some 29, op := Op.load 51 (Operand.tmp 28), type := 51, pos := "bdisk.go:216", after := #[{ on := 21, ground := Ground.data }], guard := none }) (v := _) rfl (by kernel_rfl) (by kernel_rfl) (by kernel_rfl) (fun _ _ _ h => h) (ld_cell (by rfl) 51 _ und_evsl rfl _ rfl g 5 rfl (.slice pl st.log.length cl) (fun w' hw => ((below_drew hw).cell (p := ⟨g, 5, none⟩) hlt).trans C5.out)) (by assumption) ?_
  try simp only [Act.put, List.setIfInBounds_toArray, List.set_cons_zero, List.set_cons_succ]
  refine wpAnyH_take (i := 24) (oi := { dst := some 31, op := Op.move (Operand.tmp 0), type := 26, pos := "bdisk.go:216", after := #[], guard := none }) (v := ?_) rfl (by kernel_rfl) (by kernel_rfl) (by kernel_rfl) (fun _ _ _ h => h) (Or.inl ⟨by rfl, ?_⟩) (by assumption) ?_
  rotate_left
  · (intro w' hSw; go_simp; try with_reducible rfl)
  try simp only [Act.put, List.setIfInBounds_toArray, List.set_cons_zero, List.set_cons_succ]
  refine wpAnyH_take (i := 25) (oi := { dst := some 32, op := Op.nilCheck (Operand.tmp 31), type := 0, pos := "bdisk.go:216", after := #[{ on := 24, ground := Ground.data }], guard := none }) (v := ?_) rfl (by kernel_rfl) (by kernel_rfl) (by kernel_rfl) (fun _ _ _ h => h) (Or.inl ⟨by rfl, ?_⟩) (by assumption) ?_
  rotate_left
  · (intro w' hSw; go_simp; try with_reducible rfl)
  try simp only [Act.put, List.setIfInBounds_toArray, List.set_cons_zero, List.set_cons_succ]
  refine wpAnyH_take (i := 26) (oi := { dst := some 33, op := Op.fieldAddr 70 (Operand.tmp 32) 6, type := 0, pos := "bdisk.go:216", after := #[{ on := 25, ground := Ground.data }], guard := none }) (v := ?_) rfl (by kernel_rfl) (by kernel_rfl) (by kernel_rfl) (fun _ _ _ h => h) (Or.inl ⟨by rfl, ?_⟩) (by assumption) ?_
  rotate_left
  · (intro w' hSw; go_simp; try with_reducible rfl)
  try simp only [Act.put, List.setIfInBounds_toArray, List.set_cons_zero, List.set_cons_succ]
  refine' wpAnyH_take (i := 27) (oi := { dst := some 34, op := Op.load 3 (Operand.tmp 33), type := 3, pos := "bdisk.go:216", after := #[{ on := 26, ground := Ground.data }], guard := none }) (v := _) rfl (by kernel_rfl) (by kernel_rfl) (by kernel_rfl) (fun _ _ _ h => h) (ld_cell (by rfl) 3 _ und_int rfl _ rfl g 6 rfl (.int .i64 st.asked) (fun w' hw => ((below_drew hw).cell (p := ⟨g, 6, none⟩) hlt).trans C6.out)) (by assumption) ?_
  try simp only [Act.put, List.setIfInBounds_toArray, List.set_cons_zero, List.set_cons_succ]
  refine wpAnyH_take (i := 28) (oi := { dst := some 35, op := Op.move (Operand.tmp 0), type := 26, pos := "bdisk.go:216", after := #[], guard := none }) (v := ?_) rfl (by kernel_rfl) (by kernel_rfl) (by kernel_rfl) (fun _ _ _ h => h) (Or.inl ⟨by rfl, ?_⟩) (by assumption) ?_
  rotate_left
  · (intro w' hSw; go_simp; try with_reducible rfl)
  try simp only [Act.put, List.setIfInBounds_toArray, List.set_cons_zero, List.set_cons_succ]
  refine wpAnyH_take (i := 29) (oi := { dst := some 36, op := Op.nilCheck (Operand.tmp 35), type := 0, pos := "bdisk.go:216", after := #[{ on := 28, ground := Ground.data }], guard := none }) (v := ?_) rfl (by kernel_rfl) (by kernel_rfl) (by kernel_rfl) (fun _ _ _ h => h) (Or.inl ⟨by rfl, ?_⟩) (by assumption) ?_
  rotate_left
  · (intro w' hSw; go_simp; try with_reducible rfl)
  try simp only [Act.put, List.setIfInBounds_toArray, List.set_cons_zero, List.set_cons_succ]
  refine wpAnyH_take (i := 30) (oi := { dst := some 37, op := Op.fieldAddr 70 (Operand.tmp 36) 7, type := 0, pos := "bdisk.go:216", after := #[{ on := 29, ground := Ground.data }], guard := none }) (v := ?_) rfl (by kernel_rfl) (by kernel_rfl) (by kernel_rfl) (fun _ _ _ h => h) (Or.inl ⟨by rfl, ?_⟩) (by assumption) ?_
  rotate_left
  · (intro w' hSw; go_simp; try with_reducible rfl)
  try simp only [Act.put, List.setIfInBounds_toArray, List.set_cons_zero, List.set_cons_succ]
  refine' wpAnyH_take (i := 31) (oi := { dst := some 38, op := Op.load 68 (Operand.tmp 37), type := 68, pos := "bdisk.go:216", after := #[{ on := 30, ground := Ground.data }], guard := none }) (v := _) rfl (by kernel_rfl) (by kernel_rfl) (by kernel_rfl) (fun _ _ _ h => h) (ld_cell (by rfl) 68 _ und_map rfl _ rfl g 7 rfl vf (fun w' hw => ((below_drew hw).cell (p := ⟨g, 7, none⟩) hlt).trans C7.out)) (by assumption) ?_
  try simp only [Act.put, List.setIfInBounds_toArray, List.set_cons_zero, List.set_cons_succ]
  -- 4
  refine wpAnyH_ready (rs := [4]) (by kernel_rfl) (by simp) ?_
  refine AllReadyH.cons (o := { dst := some 11, op := Op.call { callee := Callee.value (Operand.func 28), args := #[Operand.tmp 10], argTypes := #[22] }, type := 22, pos := "bdisk.go:217", after := #[{ on := 3, ground := Ground.data }], guard := none }) rfl (fun K hK => ?_) AllReadyH.nil
  go_simp
  refine (clone_secs ps _ cs _ _ (HA.out.safe.rd.later (below_drew h0)) (HS1.out _) (by have := HF.out.n1; omega)).mono ?_
  rintro e v4 ⟨p4, c4, rfl, ho4, hb4⟩
  have HO4 := Lib.hid ho4
  clear ho4
  have h1 := below_trans h0 hb4
  have HB4 := Lib.hid hb4
  dsimp only
  refine hK.out _ _ ?_ (fun hHeld => ?_)
  · exact h1
  clear hK K hb4
  try simp only [Act.put, List.setIfInBounds_toArray, List.set_cons_zero, List.set_cons_succ]
  -- 9
  refine wpAnyH_ready (rs := [9]) (by kernel_rfl) (by simp) ?_
  refine AllReadyH.cons (o := { dst := some 16, op := Op.call { callee := Callee.value (Operand.func 31), args := #[Operand.tmp 15], argTypes := #[50] }, type := 50, pos := "bdisk.go:218", after := #[{ on := 8, ground := Ground.data }, { on := 4, ground := Ground.chain }], guard := none }) rfl (fun K hK => ?_) AllReadyH.nil
  go_simp
  refine (clone_wrs pw _ cw _ _ (HA.out.wait.rd.later (below_drew h1)) (wrs_ones _) (by have := HF.out.few.wn; omega)).mono ?_
  rintro e v9 ⟨p9, c9, rfl, ho9, hb9⟩
  have HO9 := Lib.hid ho9
  clear ho9
  have h2 := below_trans h1 hb9
  have HB9 := Lib.hid hb9
  dsimp only
  refine hK.out _ _ ?_ (fun hHeld => ?_)
  · exact h2
  clear hK K hb9
  try simp only [Act.put, List.setIfInBounds_toArray, List.set_cons_zero, List.set_cons_succ]
  -- 14
  refine wpAnyH_ready (rs := [14]) (by kernel_rfl) (by simp) ?_
  refine AllReadyH.cons (o := { dst := some 21, op := Op.call { callee := Callee.value (Operand.func 28), args := #[Operand.tmp 20], argTypes := #[22] }, type := 22, pos := "bdisk.go:219", after := #[{ on := 13, ground := Ground.data }, { on := 9, ground := Ground.chain }], guard := none }) rfl (fun K hK => ?_) AllReadyH.nil
  go_simp
  refine (clone_secs pn _ cn _ _ (HA.out.seen.rd.later (below_drew h2)) (HS1.out _) (by have := HF.out.n1; omega)).mono ?_
  rintro e v14 ⟨p14, c14, rfl, ho14, hb14⟩
  have HO14 := Lib.hid ho14
  clear ho14
  have h3 := below_trans h2 hb14
  have HB14 := Lib.hid hb14
  dsimp only
  refine hK.out _ _ ?_ (fun hHeld => ?_)
  · exact h3
  clear hK K hb14
  try simp only [Act.put, List.setIfInBounds_toArray, List.set_cons_zero, List.set_cons_succ]
  -- 23
  refine wpAnyH_ready (rs := [23]) (by kernel_rfl) (by simp) ?_
  refine AllReadyH.cons (o := { dst := some 30, op := Op.call { callee := Callee.value (Operand.func 32), args := #[Operand.tmp 29], argTypes := #[51] }, type := 51, pos := "bdisk.go:221", after := #[{ on := 22, ground := Ground.data }, { on := 14, ground := Ground.chain }], guard := none }) rfl (fun K hK => ?_) AllReadyH.nil
  go_simp
  refine (ccopy (Zn F z 6) _ st.log es _ (logIn_kept HES.out HA.out.logS (Keeps.of_below (below_drew h3)) (Keeps.of_below (below_drew h3))) HF.out.few.es HF.out.few.ts (by have := HF.out.few.ln; omega)).mono ?_
  rintro e v23 ⟨p23, c23, us, rfl, ho23, hl23, hb23⟩
  have HO23 := Lib.hid ho23
  clear ho23
  have HL23 := Lib.hid hl23
  clear hl23
  have h4 := below_trans h3 hb23
  have HB23 := Lib.hid hb23
  dsimp only
  refine hK.out _ _ ?_ (fun hHeld => ?_)
  · exact h4
  clear hK K hb23
  try simp only [Act.put, List.setIfInBounds_toArray, List.set_cons_zero, List.set_cons_succ]
  -- 32
  refine wpAnyH_ready (rs := [32]) (by kernel_rfl) (by simp) ?_
  refine AllReadyH.cons (o := { dst := some 39, op := Op.call { callee := Callee.value (Operand.func 33), args := #[Operand.tmp 38], argTypes := #[68] }, type := 68, pos := "bdisk.go:223", after := #[{ on := 31, ground := Ground.data }, { on := 23, ground := Ground.chain }], guard := none }) rfl (fun K hK => ?_) AllReadyH.nil
  go_simp
  refine (cmap_faults (faults_kept HA.out.faults (Keeps.of_below (below_drew h4)))).mono ?_
  rintro e v32 ⟨m32, rfl, ho32, hb32⟩
  have HO32 := Lib.hid ho32
  clear ho32
  have h5 := below_trans h4 hb32
  have HB32 := Lib.hid hb32
  dsimp only
  refine hK.out _ _ ?_ (fun hHeld => ?_)
  · exact h5
  clear hK K hb32
  try simp only [Act.put, List.setIfInBounds_toArray, List.set_cons_zero, List.set_cons_succ]
  refine wpAnyH_take (i := 33) (oi := { dst := some 40, op := Op.build 70 #[(1, Operand.tmp 11), (2, Operand.tmp 16), (3, Operand.tmp 21), (4, Operand.tmp 25), (5, Operand.tmp 30), (6, Operand.tmp 34), (7, Operand.tmp 39)], type := 70, pos := "bdisk.go:216", after := #[{ on := 4, ground := Ground.data }, { on := 9, ground := Ground.data }, { on := 14, ground := Ground.data }, { on := 18, ground := Ground.data }, { on := 23, ground := Ground.data }, { on := 27, ground := Ground.data }, { on := 32, ground := Ground.data }], guard := none }) (v := ?_) rfl (by kernel_rfl) (by kernel_rfl) (by kernel_rfl) (fun _ _ _ h => h) (Or.inl ⟨by rfl, ?_⟩) (by assumption) ?_
  rotate_left
  · (intro w' hSw; go_simp; try with_reducible rfl)
  try simp only [Act.put, List.setIfInBounds_toArray, List.set_cons_zero, List.set_cons_succ]
  -- 34
  refine wpAnyH_ready (rs := [34]) (by kernel_rfl) (by simp) ?_
  refine AllReadyH.cons (o := { dst := some 41, op := Op.box 70 (Operand.tmp 40), type := 26, pos := "bdisk.go:216", after := #[{ on := 33, ground := Ground.data }], guard := none }) rfl (fun K hK => ?_) AllReadyH.nil
  go_simp
  have h6 := h5
  refine hK.out _ _ (below_alloc h5 _) (fun hHeld => ?_)
  clear hK K
  try simp only [Act.put, List.setIfInBounds_toArray, List.set_cons_zero, List.set_cons_succ]
  refine wpAnyH_take (i := 35) (oi := { dst := some 3, op := Op.assign (Operand.tmp 41), type := 26, pos := "bdisk.go:216", after := #[{ on := 34, ground := Ground.data }, { on := 32, ground := Ground.chain }, { on := 0, ground := Ground.phase }, { on := 1, ground := Ground.phase }, { on := 2, ground := Ground.phase }, { on := 3, ground := Ground.phase }, { on := 4, ground := Ground.phase }, { on := 5, ground := Ground.phase }, { on := 6, ground := Ground.phase }, { on := 7, ground := Ground.phase }, { on := 8, ground := Ground.phase }, { on := 9, ground := Ground.phase }, { on := 10, ground := Ground.phase }, { on := 11, ground := Ground.phase }, { on := 12, ground := Ground.phase }, { on := 13, ground := Ground.phase }, { on := 14, ground := Ground.phase }, { on := 15, ground := Ground.phase }, { on := 16, ground := Ground.phase }, { on := 17, ground := Ground.phase }, { on := 18, ground := Ground.phase }, { on := 19, ground := Ground.phase }, { on := 20, ground := Ground.phase }, { on := 21, ground := Ground.phase }, { on := 22, ground := Ground.phase }, { on := 23, ground := Ground.phase }, { on := 24, ground := Ground.phase }, { on := 25, ground := Ground.phase }, { on := 26, ground := Ground.phase }, { on := 27, ground := Ground.phase }, { on := 28, ground := Ground.phase }, { on := 29, ground := Ground.phase }, { on := 30, ground := Ground.phase }, { on := 31, ground := Ground.phase }, { on := 32, ground := Ground.phase }, { on := 33, ground := Ground.phase }, { on := 34, ground := Ground.phase }], guard := none }) (v := ?_) rfl (by kernel_rfl) (by kernel_rfl) (by kernel_rfl) (fun _ _ _ h => h) (Or.inl ⟨by rfl, ?_⟩) (by assumption) ?_
  rotate_left
  · (intro w' hSw; go_simp; try with_reducible rfl)
  try simp only [Act.put, List.setIfInBounds_toArray, List.set_cons_zero, List.set_cons_succ]
  refine wpAnyH_done (by kernel_rfl) ?_ _
  have HF9 := Lib.hid h6
  clear hHeld hH0
  have s4 : w.heap.size ≤ v4.heap.size := HB4.out.size
  have s9 := HB9.out.size
  have s14 := HB14.out.size
  have s23 := HB23.out.size
  have s32 := HB32.out.size
  have HO4' : Hid (Own v4 w.heap.size 35 32 (.slice p4 st.safe.length c4) st.safe.length (cellsOf st.safe)) := HO4
  have HBW : Hid (Below w.heap.size w v32) := Lib.hid (below_drew HF9.out)
  clear h0 h1 h2 h3 h4 h5 h6 HF9 HB4 HO4 C1 C2 C3 C4 C5 C6 C7 HM
  go_wp2_with fail
  have b9 := below_trans (below_trans (below_trans HB9.out HB14.out) HB23.out) HB32.out
  have b14 := below_trans (below_trans HB14.out HB23.out) HB32.out
  have b23 := below_trans HB23.out HB32.out
  have hfin : CodeAt (v32.alloc (.cells #[.pointer (some ⟨v32.heap.size, 0, none⟩), .slice p4 st.safe.length c4, .slice p9 st.wait.length c9, .slice p14 st.safe.length c14, .int .i64 st.ep, .slice p23 st.log.length c23, .int .i64 st.asked, .map m32] 70)) (fun b => w.heap.size ≤ b ∧ b < v32.heap.size + 1)
      (fun b => if b < v4.heap.size then 1 else if b < v9.heap.size then 2 else if b < v14.heap.size then 3 else if b < v23.heap.size then (if (Value.slice p23 st.log.length c23).ownBlock = some b then 4 else 6) else if b < v32.heap.size then 5 else 0) v32.heap.size st (.slice p4 st.safe.length c4) (.slice p9 st.wait.length c9) (.slice p14 st.safe.length c14) (.slice p23 st.log.length c23) (.map m32) := by
    refine ⟨heap_alloc_new _ _, ⟨⟨by omega, by omega⟩, by dsimp only; rw [if_neg (by omega), if_neg (by omega), if_neg (by omega), if_neg (by omega), if_neg (by omega)]⟩, own_later (own_base HO4'.out (Nat.zero_le _)) (below_alloc b9 _), fun k hk => ?_, own_later (own_base HO9.out (Nat.zero_le _)) (below_alloc b14 _), fun k hk => ?_, own_later (own_base HO14.out (Nat.zero_le _)) (below_alloc b23 _), fun k hk => ?_, ⟨us, LogIn.mono (logIn_kept HO23.out (S := fun _ => True) (fun _ _ => trivial) (Keeps.of_below (below_alloc HB32.out _)) (Keeps.of_below (below_alloc HB32.out _))) fun b hb hT => ?_⟩, fun k hk => ?_, FaultsIn.mono (faults_kept HO32.out (Keeps.of_below (below_alloc (Below.refl _ _) _))) fun b hb hT => ?_, HA.out.eps⟩
    · have h := own_blk HO4'.out hk
      exact ⟨⟨h.1, by omega⟩, if_pos h.2⟩
    · have h := own_blk HO9.out hk
      exact ⟨⟨by omega, by omega⟩, by dsimp only; rw [if_neg (by omega), if_pos h.2]⟩
    · have h := own_blk HO14.out hk
      exact ⟨⟨by omega, by omega⟩, by dsimp only; rw [if_neg (by omega), if_neg (by omega), if_pos h.2]⟩
    · obtain ⟨h1, h2, h3⟩ := hT
      exact ⟨⟨by omega, by omega⟩, by dsimp only; rw [if_neg (by omega), if_neg (by omega), if_neg (by omega), if_pos h2, if_neg h3]⟩
    · have h := own_blk HO23.out.own hk
      have h2 := HL23.out k hk
      exact ⟨⟨by omega, by omega⟩, by dsimp only; rw [if_neg (by omega), if_neg (by omega), if_neg (by omega), if_pos h.2, if_pos hk]⟩
    · obtain ⟨h1, h2⟩ := hT
      exact ⟨⟨by omega, by omega⟩, by dsimp only; rw [if_neg (by omega), if_neg (by omega), if_neg (by omega), if_neg (by omega), if_pos h2]⟩
  have HFI := Lib.hid hfin
  clear hfin
  go_ret
  exact ⟨_, rfl, ⟨_, v32.heap.size, _, _, _, _, _, rfl, HFI.out.wider (fun b hb => ⟨hb.1, by rw [size_alloc]; exact hb.2⟩) (fun _ _ => rfl)⟩, below_alloc HBW.out _⟩
end Go.Proofs.Yteobhljkjgocdaa.dsk
/- The code's disk gives what is asked of it. -/
namespace Go.Proofs.Yteobhljkjgocdaa.dsk
open Go.ChangeShapes Go.WideShapes Go.ChangeAt Go.RowKit
open Go.Proofs.Yteobhljkjgocdaa.rows
open Go.Proofs.Yteobhljkjgocdaa.sec
open Go.Maps
set_option linter.unusedVariables false
set_option linter.unusedSimpArgs false

theorem diskIs : DiskIs CA where
  kept := fun w w' F d st h k => by
    obtain ⟨z, g, vs, vw, vn, vl, vf, hd, h⟩ := h
    exact ⟨z, g, vs, vw, vn, vl, vf, hd, codeAt_kept h k⟩
  barrier := cbarrier
  write := cwrite
  sync := csync
  fail := cfail
  read := cread
theorem diskTells : DiskTells CA where
  from_yes := cfrom_yes
  from_no := cfrom_no
  safe := csafe
  waiting := cwaiting
  log := clog
  epoch := cepoch
  clone := cclone
end Go.Proofs.Yteobhljkjgocdaa.dsk
