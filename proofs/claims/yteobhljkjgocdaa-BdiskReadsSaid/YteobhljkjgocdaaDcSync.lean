/- What the code's Sync gives. -/
import Derived.Test.YteobhljkjgocdaaDcSettleN
namespace Go.Proofs.Yteobhljkjgocdaa.dsk
open Go.ChangeShapes Go.WideShapes Go.ChangeAt Go.RowKit
open Go.Proofs.Yteobhljkjgocdaa.rows
open Go.Proofs.Yteobhljkjgocdaa.sec
open Go.Maps
set_option linter.unusedVariables false
set_option linter.unusedSimpArgs false

theorem csettle_any (w : World) (F : Nat → Prop) (z : Nat → Nat) (g : Nat) (st : St) (vs vw vn vl vf : Value) (h : CodeAt w F z g st vs vw vn vl vf) (hf : Mild st) (p : Option Addr) (q c : Nat) (ts : List (Int × Int))
    (ht : Rd w 2 (.slice p q c) q (tagsC ts)) (hti : InS (fun b => ¬ F b) (.slice p q c)) (hq : q ≤ 50) (hwt : ∀ t ∈ ts, wf64 t.1 ∧ wf64 t.2) :
    Calls Try.prog 36 #[.pointer (some ⟨g, 0, none⟩), .slice p q c] w fun e w' => e = .returned (.tuple #[]) ∧ ∃ vw', CodeAt w' F z g { st with safe := (settle st.safe st.wait ts).1, wait := (settle st.safe st.wait ts).2 } vs vw' vn vl vf ∧ Touch (fun b => F b ∧ (z b = 0 ∨ z b = 1 ∨ z b = 2)) w w' := by
  obtain ⟨pw, cw, rfl⟩ := h.wait.slice
  cases pw with
  | none =>
    have h0 : (Value.slice none st.wait.length cw) = .slice none 0 0 ∧ st.wait = [] := by
      rcases h.wait.2 with ⟨h1, h2⟩ | ⟨g', cap, cur, h1, _⟩
      · exact ⟨h1, List.eq_nil_of_length_eq_zero h2⟩
      · cases h1
    rw [h0.1] at h
    exact csettle_nil w F z g st vs vn vl vf h h0.2 hf p q c ts ht hti hq hwt
  | some a =>
    have h0 : ∃ gw, a = ⟨gw, 0, none⟩ := by
      rcases h.wait.2 with ⟨h1, h2⟩ | ⟨g', cap, cur, h1, _⟩
      · cases h1
      · cases h1; exact ⟨g', rfl⟩
    obtain ⟨gw, rfl⟩ := h0
    exact csettle w F z g st vs vn vl vf gw cw h hf p q c ts ht hti hq hwt
theorem csync_no (w : World) (F : Nat → Prop) (d : Value) (st : St) (p : Option Addr) (q c : Nat) (h : CA w F d st) (hf : st.fine) (hd : asks st = true) :
    Calls Try.prog 13 #[d, .slice p q c] w (CodeDone CA F d w (3, st.asked1)) := by
  obtain ⟨z, g, vs, vw, vn, vl, vf, rfl, h⟩ := h
  have HM := Lib.hid (cmade g w (cell_row h.row 0 _ rfl))
  have HF := Lib.hid (ccount F z g st vs vw vn vl vf w h ⟨hf.few.as0, by have := hf.few.as1; omega⟩)
  unfold CountDone at HF
  rw [hd] at HF
  clear h hf hd
  go_enter Try.func13, Try.ntmps13
  go_wp2_with (first | (go_at_call 30; refine HM.out.mono ?_; rintro e w0 ⟨rfl, rfl⟩) | (go_at_call 34; refine HF.out.mono ?_; rintro e w1 ⟨rfl, hc, ht⟩; have HC := Lib.hid hc; have HT := Lib.hid ht; clear hc ht))
  go_ret
  exact asked_done HC.out HT.out
set_option maxHeartbeats 3200000 in
theorem csync_yes (w : World) (F : Nat → Prop) (d : Value) (st : St) (p : Option Addr) (q c : Nat) (ts : List (Int × Int)) (h : CA w F d st) (hf : st.fine) (ht : Rd w 2 (.slice p q c) q (tagsC ts)) (hti : InS (fun b => ¬ F b) (.slice p q c)) (hq : q ≤ 50) (hwt : ∀ t ∈ ts, wf64 t.1 ∧ wf64 t.2) (hd : asks st = false) :
    Calls Try.prog 13 #[d, .slice p q c] w (CodeDone CA F d w (0, { st with safe := (settle st.safe st.wait ts).1, wait := (settle st.safe st.wait ts).2, asked := st.asked + 1, log := st.log ++ [(2, w0, ts)] })) := by
  obtain ⟨z, g, vs, vw, vn, vl, vf, rfl, h⟩ := h
  have HM := Lib.hid (cmade g w (cell_row h.row 0 _ rfl))
  have HF := Lib.hid (ccount F z g st vs vw vn vl vf w h ⟨hf.few.as0, by have := hf.few.as1; omega⟩)
  unfold CountDone at HF
  rw [hd] at HF
  have HTG := Lib.hid ht
  have HTI := Lib.hid hti
  have HQL := Lib.hid (Rd.count tagC ht (fun x _ => rfl) (by decide))
  have HST := Lib.hid fun w1 (hc : CodeAt w1 F z g st.asked1 vs vw vn vl vf) (h1 : Rd w1 2 (.slice p q c) q (tagsC ts)) => csettle_any w1 F z g st.asked1 vs vw vn vl vf hc hf.mild p q c ts h1 hti hq hwt
  have hln := hf.few.ln
  have HTO : Hid (∀ u ∈ tagsC ts, u.oneCell' = true) := Lib.hid (fun u hu => by
    obtain ⟨l, hl, hul⟩ := List.mem_flatten.1 hu
    obtain ⟨x, _, rfl⟩ := List.mem_map.1 hl
    simp only [tagC, List.mem_cons, List.not_mem_nil, or_false] at hul
    rcases hul with rfl | rfl <;> rfl)
  clear h hf hd ht hti hwt
  go_enter Try.func13, Try.ntmps13
  go_wp2_with (first | (go_at_call 30; refine HM.out.mono ?_; rintro e w0 ⟨rfl, rfl⟩) | (go_at_call 34; refine HF.out.mono ?_; rintro e w1 ⟨rfl, hc, ht⟩; have HC := Lib.hid hc; have HT := Lib.hid ht; clear hc ht))
  refine (HST.out _ HC.out (Rd.kept HTG.out HTI.out (HT.out.keeps fun k hk hk2 => hk hk2.1))).mono ?_
  rintro e w2 ⟨rfl, vw', hc2, ht2⟩
  obtain ⟨es, hes⟩ := hc2.log
  obtain ⟨pl, cl, hvl⟩ := hes.own.slice
  subst hvl
  have HC2 := Lib.hid hc2
  have HT2 := Lib.hid ht2
  have HES := Lib.hid hes
  have HLO := Lib.hid hes.own
  have HTG2 : Hid (Rd w2 2 (.slice p q c) q (tagsC ts)) := Lib.hid (Rd.kept HTG.out HTI.out ((HT.out.keeps fun k hk hk2 => hk hk2.1).trans (ht2.keeps fun k hk hk2 => hk hk2.1)))
  have hlt2 := hc2.lt
  have hgz := hc2.own
  have hlz : ∀ k, (Value.slice pl st.log.length cl).ownBlock = some k → Zn F z 4 k := hc2.logS
  have hlng : ∀ k, (Value.slice pl st.log.length cl).ownBlock = some k → k ≠ g := fun k hk => zne (hlz k hk) hgz (by decide)
  have C5 : Hid (w2.cell? ⟨g, 5, none⟩ = some (.slice pl st.log.length cl)) := Lib.hid (cell_row hc2.row 5 _ rfl)
  have HR2 := Lib.hid hc2.row
  clear hc2 ht2 hes
  go_wp2_with fail
  have h0 : Touch (fun b => (Value.slice pl st.log.length cl).ownBlock = some b) w2.drew w2.drew := Touch.refl _ _
  refine wp_region_last (S := Touch (fun b => (Value.slice pl st.log.length cl).ownBlock = some b) w2.drew) 12 (by kernel_rfl) (Touch.refl _ _) (fun hH0 => ?_)
  refine wpAnyL_take (i := 0) (oi := { dst := some 13, op := Op.move (Operand.tmp 0), type := 26, pos := "bdisk.go:88", after := #[], guard := none }) (v := ?_) rfl (by kernel_rfl) (by kernel_rfl) (by kernel_rfl) (by kernel_rfl) (fun _ _ _ h => h) (Or.inl ⟨by rfl, ?_⟩) (by assumption) ?_
  rotate_left
  · (intro w' hSw; go_simp; try with_reducible rfl)
  try simp only [Act.put, List.setIfInBounds_toArray, List.set_cons_zero, List.set_cons_succ]
  refine wpAnyL_take (i := 1) (oi := { dst := some 14, op := Op.move (Operand.tmp 0), type := 26, pos := "bdisk.go:88", after := #[], guard := none }) (v := ?_) rfl (by kernel_rfl) (by kernel_rfl) (by kernel_rfl) (by kernel_rfl) (fun _ _ _ h => h) (Or.inl ⟨by rfl, ?_⟩) (by assumption) ?_
  rotate_left
  · (intro w' hSw; go_simp; try with_reducible rfl)
  try simp only [Act.put, List.setIfInBounds_toArray, List.set_cons_zero, List.set_cons_succ]
  refine wpAnyL_take (i := 2) (oi := { dst := some 15, op := Op.nilCheck (Operand.tmp 14), type := 0, pos := "bdisk.go:88", after := #[{ on := 1, ground := Ground.data }], guard := none }) (v := ?_) rfl (by kernel_rfl) (by kernel_rfl) (by kernel_rfl) (by kernel_rfl) (fun _ _ _ h => h) (Or.inl ⟨by rfl, ?_⟩) (by assumption) ?_
  rotate_left
  · (intro w' hSw; go_simp; try with_reducible rfl)
  try simp only [Act.put, List.setIfInBounds_toArray, List.set_cons_zero, List.set_cons_succ]
  refine wpAnyL_take (i := 3) (oi := { dst := some 16, op := Op.fieldAddr 70 (Operand.tmp 15) 5, type := 0, pos := "bdisk.go:88", after := #[{ on := 2, ground := Ground.data }], guard := none }) (v := ?_) rfl (by kernel_rfl) (by kernel_rfl) (by kernel_rfl) (by kernel_rfl) (fun _ _ _ h => h) (Or.inl ⟨by rfl, ?_⟩) (by assumption) ?_
  rotate_left
  · (intro w' hSw; go_simp; try with_reducible rfl)
  try simp only [Act.put, List.setIfInBounds_toArray, List.set_cons_zero, List.set_cons_succ]
  refine' wpAnyL_take (i := 4) (oi := { dst := some 17, op := Op.load 51 (Operand.tmp 16), type := 51, pos := "bdisk.go:88", after := #[{ on := 3, ground := Ground.data }], guard := none }) (v := _) rfl (by kernel_rfl) (by kernel_rfl) (by kernel_rfl) (by kernel_rfl) (fun _ _ _ h => h) (ld_cell (by rfl) 51 _ und_evsl rfl _ rfl g 5 rfl (.slice pl st.log.length cl) (fun w' hw => (hw.drewL.cell (p := ⟨g, 5, none⟩) hlt2 (fun e => hlng _ e rfl)).trans C5.out)) (by assumption) ?_
  try simp only [Act.put, List.setIfInBounds_toArray, List.set_cons_zero, List.set_cons_succ]
  refine wpAnyL_take (i := 5) (oi := { dst := some 18, op := Op.move (Operand.tmp 1), type := 38, pos := "bdisk.go:88", after := #[], guard := none }) (v := ?_) rfl (by kernel_rfl) (by kernel_rfl) (by kernel_rfl) (by kernel_rfl) (fun _ _ _ h => h) (Or.inl ⟨by rfl, ?_⟩) (by assumption) ?_
  rotate_left
  · (intro w' hSw; go_simp; try with_reducible rfl)
  try simp only [Act.put, List.setIfInBounds_toArray, List.set_cons_zero, List.set_cons_succ]
  -- 6
  refine wpAnyL_ready (rs := [6]) (by kernel_rfl) (by simp) ?_
  refine AllReadyL.cons (o := { dst := some 19, op := Op.call { callee := Callee.value (Operand.func 37), args := #[Operand.tmp 18], argTypes := #[38] }, type := 38, pos := "bdisk.go:88", after := #[{ on := 5, ground := Ground.data }], guard := none }) rfl (fun K hK => ?_) AllReadyL.nil
  go_simp
  refine (clone_tags p q c (tagsC ts) w2.drew (HTG2.out.later (Below.refl _ _).drew) HTO.out (by omega)).mono ?_
  rintro e w3 ⟨pt, ct, rfl, ho3, hb3⟩
  have HO3 := Lib.hid ho3
  have HB3 := Lib.hid hb3
  have h1 : Touch (fun b => (Value.slice pl st.log.length cl).ownBlock = some b) w2.drew w3 := Touch.of_below hb3
  dsimp only
  refine hK.out _ _ (Or.inr h1) (fun hHeld => ?_)
  clear hK K ho3
  try simp only [Act.put, List.setIfInBounds_toArray, List.set_cons_zero, List.set_cons_succ]
  refine' wpAnyL_take (i := 7) (oi := { dst := some 20, op := Op.build 79 #[(0, Operand.const (Value.int IntKind.i64 2)), (2, Operand.tmp 19)], type := 79, pos := "bdisk.go:88", after := #[{ on := 6, ground := Ground.data }], guard := none }) (v := _) rfl (by kernel_rfl) (by kernel_rfl) (by kernel_rfl) (by kernel_rfl) (fun _ _ _ h => h) (build_yields (by rfl) 79 _ rfl [(0, .int .i64 2), (2, .slice pt q ct)] rfl _ (built_evs ts (.slice pt q ct) rfl)) (by assumption) ?_
  try simp only [Act.put, List.setIfInBounds_toArray, List.set_cons_zero, List.set_cons_succ]
  -- 8
  refine wpAnyL_ready (rs := [8]) (by kernel_rfl) (by simp) ?_
  refine AllReadyL.cons (o := { dst := some 21, op := Op.buildSlice 51 1 #[(0, Operand.tmp 20)], type := 51, pos := "bdisk.go:88", after := #[{ on := 7, ground := Ground.data }], guard := none }) rfl (fun K hK => ?_) AllReadyL.nil
  refine step_one elem_evs (by decide) (by rfl) _ rfl (evC (2, w0, ts) (.slice pt q ct)) rfl (evC_len sec_zero) ?_
  intro b8 w8 hb8 hrd8 hbel8
  have HRD8 := Lib.hid hrd8
  have HB8 := Lib.hid (hb3.trans (hbel8.mono hb3.size))
  have HB8' := Lib.hid hbel8
  have h2 : Touch (fun b => (Value.slice pl st.log.length cl).ownBlock = some b) w2.drew w8 := Touch.of_below HB8.out
  refine hK.out _ _ (Or.inr h2) (fun hHeld => ?_)
  clear hK K hrd8
  try simp only [Act.put, List.setIfInBounds_toArray, List.set_cons_zero, List.set_cons_succ]
  -- 9
  refine wpAnyL_ready (rs := [9]) (by kernel_rfl) (by simp) ?_
  refine AllReadyL.cons (o := { dst := some 22, op := Op.call { callee := Callee.builtin Builtin.append, args := #[Operand.tmp 17, Operand.tmp 21], argTypes := #[51, 51] }, type := 51, pos := "bdisk.go:88", after := #[{ on := 4, ground := Ground.data }, { on := 8, ground := Ground.data }, { on := 6, ground := Ground.chain }], guard := none }) rfl (fun K hK => ?_) AllReadyL.nil
  refine step_ap3 elem_evs (by rfl) _ _ rfl (.slice pl st.log.length cl) st.log.length _ (by rfl) (own_later HLO.out.drew HB8.out) _ 1 (evC (2, w0, ts) (.slice pt q ct)) (by rfl) HRD8.out (evC_ones _ _ rfl) (by omega) ?_
  intro pr cr w9 ho9 ht9 hloc9
  have HO9 := Lib.hid ho9
  have HLOC9 := Lib.hid hloc9
  have HT89 := Lib.hid ht9
  have h3 := h2.trans ht9
  have HT9 := Lib.hid h3
  refine hK.out _ _ (Or.inr h3) (fun hHeld => ?_)
  clear hK K ho9 hloc9
  try simp only [Act.put, List.setIfInBounds_toArray, List.set_cons_zero, List.set_cons_succ]
  -- 10
  refine wpAnyL_ready (rs := [10]) (by kernel_rfl) (by simp) ?_
  refine AllReadyL.cons (o := { dst := some 23, op := Op.nilCheck (Operand.tmp 13), type := 0, pos := "bdisk.go:88", after := #[{ on := 0, ground := Ground.data }, { on := 0, ground := Ground.phase }, { on := 1, ground := Ground.phase }, { on := 2, ground := Ground.phase }, { on := 3, ground := Ground.phase }, { on := 4, ground := Ground.phase }, { on := 5, ground := Ground.phase }, { on := 6, ground := Ground.phase }, { on := 7, ground := Ground.phase }, { on := 8, ground := Ground.phase }, { on := 9, ground := Ground.phase }], guard := none }) rfl (fun K hK => ?_) AllReadyL.nil
  go_simp
  refine hK.out _ _ (Or.inr (by assumption)) (fun hHeld => ?_)
  clear hK K
  try simp only [Act.put, List.setIfInBounds_toArray, List.set_cons_zero, List.set_cons_succ]
  refine wpAnyL_take (i := 11) (oi := { dst := some 24, op := Op.fieldAddr 70 (Operand.tmp 23) 5, type := 0, pos := "bdisk.go:88", after := #[{ on := 10, ground := Ground.data }, { on := 0, ground := Ground.phase }, { on := 1, ground := Ground.phase }, { on := 2, ground := Ground.phase }, { on := 3, ground := Ground.phase }, { on := 4, ground := Ground.phase }, { on := 5, ground := Ground.phase }, { on := 6, ground := Ground.phase }, { on := 7, ground := Ground.phase }, { on := 8, ground := Ground.phase }, { on := 9, ground := Ground.phase }], guard := none }) (v := ?_) rfl (by kernel_rfl) (by kernel_rfl) (by kernel_rfl) (by kernel_rfl) (fun _ _ _ h => h) (Or.inl ⟨by rfl, ?_⟩) (by assumption) ?_
  rotate_left
  · (intro w' hSw; go_simp; try with_reducible rfl)
  try simp only [Act.put, List.setIfInBounds_toArray, List.set_cons_zero, List.set_cons_succ]
  -- 12
  refine wpAnyL_ready (rs := [12]) (by kernel_rfl) (by simp) ?_
  refine AllReadyL.cons (o := { dst := none, op := Op.store 51 (Operand.tmp 24) (Operand.tmp 22), type := 0, pos := "bdisk.go:88", after := #[{ on := 11, ground := Ground.data }, { on := 9, ground := Ground.data }, { on := 9, ground := Ground.chain }, { on := 0, ground := Ground.phase }, { on := 1, ground := Ground.phase }, { on := 2, ground := Ground.phase }, { on := 3, ground := Ground.phase }, { on := 4, ground := Ground.phase }, { on := 5, ground := Ground.phase }, { on := 6, ground := Ground.phase }, { on := 7, ground := Ground.phase }, { on := 8, ground := Ground.phase }, { on := 9, ground := Ground.phase }], guard := none }) rfl (fun K hK => ?_) AllReadyL.nil
  have HR9 := Lib.hid (row_touch HR2.out HT9.out.drewL (fun e => hlng g e rfl))
  have c12 := cell_row HR9.out 5 (.slice pl st.log.length cl) rfl
  have z12 := frozen_row HR9.out 5
  go_simp
  refine hK.out _ _ (Or.inl rfl) (fun hHeld => ?_)
  clear hK K c12 z12
  try simp only [Act.put, List.setIfInBounds_toArray, List.set_cons_zero, List.set_cons_succ]
  refine wpAnyL_done (by kernel_rfl) ?_ _
  obtain ⟨W9, hW9⟩ : ∃ W9, W9 = w9.setCell ⟨g, 5, none⟩ (.slice pr (st.log.length + 1) cr) := ⟨_, rfl⟩
  have s23 : w2.heap.size ≤ w3.heap.size := HB3.out.size
  have s28 : w2.heap.size ≤ w8.heap.size := HB8.out.size
  have s38 := HB8'.out.size
  have s89 := HT89.out.size
  have T29 : Touch (fun b => F b ∧ (z b = 0 ∨ z b = 4)) w2 W9 := by rw [hW9]; exact Touch.setCell (HT9.out.drewL.mono fun b hb => ⟨(hlz b hb).1, Or.inr (hlz b hb).2⟩) ⟨g, 5, none⟩ ⟨hgz.1, Or.inl hgz.2⟩ _
  have hrow : W9.heap[g]? = some (.cells #[.pointer (some ⟨g, 0, none⟩), vs, vw', vn, .int .i64 st.ep, .slice pr (st.log.length + 1) cr, .int .i64 (st.asked + 1), vf] 70 (0, 0)) := by rw [hW9]; exact setCell_heap HR9.out _
  have hlog : Own W9 0 79 38 (.slice pr (st.log.length + 1) cr) (st.log.length + 1) (((st.log.zip es).map fun x => evC x.1 x.2).flatten ++ evC (2, w0, ts) (.slice pt q ct)) := by
    rw [hW9]
    refine own_set_other HO9.out fun b mm c hv e => ?_
    have hb : (Value.slice pr (st.log.length + 1) cr).ownBlock = some b := by rw [hv]; rfl
    rcases HLOC9.out b hb with h | ⟨h, _⟩
    · exact hlng b h e
    · omega
  have hti3 := own_inS HO3.out
  have htr9 : Rd W9 2 (.slice pt q ct) q (tagsC ts) := by
    have k38 : Keeps (fun k => w2.heap.size ≤ k) w3 w8 := Keeps.of_below HB8'.out
    have k89 : Keeps (fun k => w2.heap.size ≤ k) w8 w9 := HT89.out.keeps fun k hk e => by have := own_blk HLO.out e; omega
    have k9 : Keeps (fun k => w2.heap.size ≤ k) w9 W9 := by rw [hW9]; exact Keeps.set (fun k hk => by omega) _
    exact Rd.kept (S := fun k => w2.heap.size ≤ k) HO3.out.rd (hti3.mono fun b hb => hb.1) (k38.trans (k89.trans k9))
  have s9 : W9.heap.size = w9.heap.size := by rw [hW9, size_set]
  have hfin := codeAt_log (ev := (2, w0, ts)) (t := .slice pt q ct) (ep := st.ep) (z' := fun b => if b < w2.heap.size then z b else if b < w3.heap.size then 6 else 4) HC2.out HES.out T29 (fun b hb => hb) (fun b hb => if_pos hb) hrow hlog
    (fun k hk => by
      rcases HLOC9.out k hk with h | ⟨h, h2⟩
      · exact Or.inl h
      · exact Or.inr ⟨by omega, by rw [s9]; exact h2, by rw [if_neg (by omega), if_neg (by omega)]⟩)
    (by
      rw [show ((2 : Int), w0, ts).2.2 = ts from rfl, HQL.out]
      exact ⟨pt, ct, rfl, htr9, hti3.mono fun b hb => ⟨Or.inr ⟨hb.1, by omega⟩, by
        have h1 : w2.heap.size ≤ b := hb.1
        dsimp only
        rw [if_neg (by omega), if_pos hb.2]⟩⟩)
  have hTT : Touch F w W9 := ((HT.out.mono fun b hb => hb.1).trans (HT2.out.mono fun b hb => hb.1)).trans (T29.mono fun b hb => hb.1)
  have HD : CodeDone CA F (.pointer (some ⟨g, 0, none⟩)) w (0, { st with safe := (settle st.safe st.wait ts).1, wait := (settle st.safe st.wait ts).2, asked := st.asked + 1, log := st.log ++ [(2, w0, ts)] }) (.returned (.int .i64 0)) W9 := by
    refine ⟨rfl, ⟨_, g, _, _, _, _, vf, rfl, hfin.wider (fun b hb => ?_) (fun _ _ => rfl)⟩, hTT⟩
    have s1 := HT.out.size
    have s2 := HT2.out.size
    rcases hb with h | ⟨h4, h5⟩
    · exact Or.inl h
    · exact Or.inr ⟨by omega, h5⟩
  rw [hW9] at HD
  clear hfin
  go_wp2_with fail
  go_ret
  exact HD
theorem csync (w : World) (F : Nat → Prop) (d : Value) (st : St) (p : Option Addr) (q c : Nat) (ts : List (Int × Int)) (h : CA w F d st) (hf : st.fine) (ht : Rd w 2 (.slice p q c) q (tagsC ts)) (hti : InS (fun b => ¬ F b) (.slice p q c)) (hq : q ≤ 50) (hwt : ∀ t ∈ ts, wf64 t.1 ∧ wf64 t.2) :
    Calls Try.prog 13 #[d, .slice p q c] w (CodeDone CA F d w (syncR st ts)) := by
  by_cases ha : asks st = true
  · have e : syncR st ts = (3, st.asked1) := by rw [syncR, if_pos ha]
    rw [e]
    exact csync_no w F d st p q c h hf ha
  · have e : syncR st ts = (0, { st with safe := (settle st.safe st.wait ts).1, wait := (settle st.safe st.wait ts).2, asked := st.asked + 1, log := st.log ++ [(2, w0, ts)] }) := by rw [syncR, if_neg ha]
    rw [e]
    exact csync_yes w F d st p q c ts h hf ht hti hq hwt (by simpa using ha)
end Go.Proofs.Yteobhljkjgocdaa.dsk
