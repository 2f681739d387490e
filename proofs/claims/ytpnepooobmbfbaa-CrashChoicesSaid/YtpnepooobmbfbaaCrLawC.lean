/- CrashChoices' walk. -/
import Derived.Test.YtpnepooobmbfbaaCrKnows
import Derived.Test.YtpnepooobmbfbaaCrArgs
namespace Go.Proofs.Ytpnepooobmbfbaa.dsk
set_option maxRecDepth 100000
open Go.ChangeShapes Go.WideShapes Go.ChangeAt Go.RowKit
open Go.Proofs.Ytpnepooobmbfbaa.rows
open Go.Proofs.Ytpnepooobmbfbaa.sec
open Go.Proofs.Ytpnepooobmbfbaa.choMath
set_option linter.unusedVariables false
set_option linter.unusedSimpArgs false

theorem img_uni {c : Nat} {ss : List (List Int)} {ws : List Wr} {n : Nat} {w : World} {e : Ending} {w' : World} (h : ImgDone c ss ws n w e w') :
    Below w.heap.size w w' ∧ ∃ p cc, e = .returned (.tuple #[.slice p (if imgOk c ws n = true then n else 0) cc, .bool (imgOk c ws n)]) ∧ Rd w' 32 (.slice p (if imgOk c ws n = true then n else 0) cc) (if imgOk c ws n = true then n else 0) (cellsOf (if imgOk c ws n = true then imgUpto c ws ss ws.length else [])) := by
  refine ⟨h.1, ?_⟩
  rcases h.2 with ⟨h0, he⟩ | ⟨h1, p, cc, he, ho⟩
  · rw [h0]
    exact ⟨none, 0, he, rd_nil _ _⟩
  · rw [h1]
    exact ⟨p, cc, he, ho.rd⟩
theorem und_rst : Try.prog.underlying 31 = some (.struct (Try.prog.fieldsOf 31)) := by kernel_rfl
theorem und_cst : Try.prog.underlying 28 = some (.struct (Try.prog.fieldsOf 28)) := by kernel_rfl
theorem info_rst : (Try.prog.info? 31).map (·.size) = some 2 := by kernel_rfl
theorem info_cst : (Try.prog.info? 28).map (·.size) = some 2 := by kernel_rfl
theorem range_two {w : World} {b : Nat} {v1 v2 : Value} {t : TypeId} (h : w.heap[b]? = some (.cells #[v1, v2] t (0, 0))) : w.rangeAt b 0 [v1, v2] := fun i u hi => by
  rw [Nat.zero_add]
  exact cell_row h i u (by simpa using hi)
theorem ld_rst {ops : Array Oper} {S : World → Prop} {op : Oper} {a : Act} (hw : Region.wanted op (yielded ops a.tmps) = true) (x : Operand) (ho : op.op = .load 31 x)
    (b : Nat) (hx : a.eval x = .pointer (some ⟨b, 0, none⟩)) (v1 v2 : Value) (hS : ∀ w, S w → w.heap[b]? = some (.cells #[v1, v2] 31 (0, 0))) : YieldsIf Try.prog ops S op (.agg #[v1, v2]) a :=
  yieldsIf_load_mid hw _ x ho b 0 hx [v1, v2] _ (fun w h => range_two (hS w h)) und_rst rfl (by rw [info_rst]; rfl)
theorem ld_cst {ops : Array Oper} {S : World → Prop} {op : Oper} {a : Act} (hw : Region.wanted op (yielded ops a.tmps) = true) (x : Operand) (ho : op.op = .load 28 x)
    (b : Nat) (hx : a.eval x = .pointer (some ⟨b, 0, none⟩)) (v1 v2 : Value) (hS : ∀ w, S w → w.heap[b]? = some (.cells #[v1, v2] 28 (0, 0))) : YieldsIf Try.prog ops S op (.agg #[v1, v2]) a :=
  yieldsIf_load_mid hw _ x ho b 0 hx [v1, v2] _ (fun w h => range_two (hS w h)) und_cst rfl (by rw [info_cst]; rfl)
theorem img_secs {c : Nat} {ss : List (List Int)} {ws : List Wr} {n : Nat} (hss : Secs ss) (hws : ∀ x ∈ ws, Sec x.s) (hn : ss.length = n) : Secs (if imgOk c ws n = true then imgUpto c ws ss ws.length else []) := by
  split
  · rename_i h
    refine imgUpto_secs c ws ss hss hws _ fun k hk _ => ?_
    rw [imgOk, Bool.and_eq_true, Bool.not_eq_true'] at h
    have := h.2
    rw [List.any_eq_false] at this
    rw [hn]
    simpa using this _ (List.getElem_mem hk)
  · intro s hs; cases hs
theorem u64s_eq (l : List Nat) : u64s l = (l.map fun c : Nat => (c : Int)).map (Value.int .u64) := by simp [u64s]
theorem allR_len (ws : List Wr) (t : Bool) (most : Int) : (allR ws t most).1.length ≤ 6561 := by
  rw [allR]
  split
  · exact Nat.zero_le _
  · rename_i h
    have h1 := accs_len ws t (cnt (ws.length : Int) t)
    have h2 := cnt_small (m := ws.length) (by omega) t
    rw [cutAt]
    split
    · show (accs ws t (cnt (ws.length : Int) t)).length ≤ 6561
      omega
    · show ((accs ws t (cnt (ws.length : Int) t)).take most.toNat).length ≤ 6561
      rw [List.length_take]
      omega
/-- two boxes, laid behind w, and what lies in them -/
structure Two (w : World) (b1 b2 : Nat) (v1 v2 : Value) (W : World) : Prop where
  r1 : W.heap[b1]? = some (.cells #[v1, v2] 31 (0, 0))
  r2 : W.heap[b2]? = some (.cells #[v1, v2] 28 (0, 0))
  below : Below w.heap.size w W
theorem Two.later {w : World} {b1 b2 : Nat} {v1 v2 : Value} {W W' : World} (h : Two w b1 b2 v1 v2 W) (hb : Below W.heap.size W W') : Two w b1 b2 v1 v2 W' :=
  ⟨row_later h.r1 hb (Array.getElem?_eq_some_iff.1 h.r1).1, row_later h.r2 hb (Array.getElem?_eq_some_iff.1 h.r2).1, below_trans h.below hb⟩
set_option maxRecDepth 100000 in
set_option maxHeartbeats 3200000 in
theorem walkCh (ps : Option Addr) (n cs : Nat) (pw : Option Addr) (m cw : Nat) (ss : List (List Int)) (ws : List Wr) (c : Nat) (t : Bool) (most : Int) (w : World) (hc : c < 18446744073709551616) (wm : (Lit.int .i64 most).wf = true)
    (hs : Rd w 32 (.slice ps n cs) n (cellsOf ss)) (hn : n ≤ maxLen) (hss : Secs ss) (hw : Rd w 36 (.slice pw m cw) m (wrsC ws)) (hm : m ≤ maxLen) (hws : ∀ x ∈ ws, Sec x.s) :
    Calls Try.prog 4 #[stV ps n cs pw m cw, .int .u64 (c : Int), .bool t, .int .i64 most] w fun e w' => e = .returned (.bool true) ∧ Below w.heap.size w w' := by
  have HK := Lib.hid cknows
  have HB1 : Hid (Below w.heap.size w (w.alloc (.cells #[.slice ps n cs, .slice pw m cw] 31))) := Lib.hid (below_alloc (Below.refl _ _) _)
  by_cases hbig : 105 < n ∨ 100 < m
  · unfold stV
    by_cases h1 : 105 < n
    · have h1i : (105 : Int) < n := by omega
      clear hbig hs hw
      go_enter Try.func4, Try.ntmps4
      go_wp2_with (go_at_call 7; refine (HK.out _).mono ?_; rintro e w2 ⟨rfl, hb2⟩)
      go_ret
      exact ⟨rfl, below_trans HB1.out hb2⟩
    · have h1i : (n : Int) ≤ 105 := by omega
      have h2i : (100 : Int) < m := by omega
      clear hbig hs hw
      go_enter Try.func4, Try.ntmps4
      go_wp2_with (go_at_call 7; refine (HK.out _).mono ?_; rintro e w2 ⟨rfl, hb2⟩)
      go_ret
      exact ⟨rfl, below_trans HB1.out hb2⟩
  · have hn1 : n ≤ 105 := by omega
    have hm1 : m ≤ 100 := by omega
    have h1i : (n : Int) ≤ 105 := by omega
    have h2i : (m : Int) ≤ 100 := by omega
    have hsn : ss.length = n := by
      have h := hs.cells
      rw [cellsOf_len hss] at h
      omega
    have HIN : Hid (∀ W, Below w.heap.size w W → imgIn W ps n cs pw m cw ss ws) := Lib.hid (fun W hb => ⟨hs.later hb, hss, hsn, by omega, hw.later hb, hws, by omega⟩)
    have HWL : Hid (∀ W, Below w.heap.size w W → allIn W pw m cw ws) := Lib.hid (fun W hb => ⟨hw.later hb, hws, by omega⟩)
    obtain ⟨ok, hok⟩ : ∃ b, imgOk c ws n = b := ⟨_, rfl⟩
    obtain ⟨N, hN⟩ : ∃ N, (if imgOk c ws n = true then n else 0) = N := ⟨_, rfl⟩
    obtain ⟨X, hX⟩ : ∃ X, (if imgOk c ws n = true then imgUpto c ws ss ws.length else []) = X := ⟨_, rfl⟩
    have hN5 : N ≤ 105 := by rw [← hN]; split <;> omega
    have HXS : Hid (Secs X) := Lib.hid (hX ▸ img_secs hss hws hsn)
    have HIM := Lib.hid fun W (hb : Below w.heap.size w W) => (cimage c ps n cs pw m cw ss ws W hc (HIN.out W hb)).mono (fun e w' h => img_uni h)
    have HRM := Lib.hid fun W (hb : Below w.heap.size w W) => (rimage c ps n cs pw m cw ss ws W hc (HIN.out W hb)).mono (fun e w' h => img_uni h)
    rw [hN, hX, hok] at HIM HRM
    unfold stV at HIM HRM
    clear hok hN hX
    have HCA : Hid (∀ W, Below w.heap.size w W → Calls Try.prog 17 #[.agg #[.slice ps n cs, .slice pw m cw], .int .u64 (c : Int)] W fun e w' => e = .returned (.bool (alB c (eps ws))) ∧ Below W.heap.size W w') := Lib.hid (fun W hb => callowed c ps n cs pw m cw ws W hc hws (hw.later hb) (by omega))
    have HRA : Hid (∀ W, Below w.heap.size w W → Calls Try.prog 18 #[.agg #[.slice ps n cs, .slice pw m cw], .int .u64 (c : Int)] W fun e w' => e = .returned (.bool (alB c (eps ws))) ∧ Below W.heap.size W w') := Lib.hid (fun W hb => rallowed c ps n cs pw m cw ws W hc hws (hw.later hb) (by omega))
    have HAL : Hid (∀ W, Below w.heap.size w W → Calls Try.prog 19 #[.agg #[.slice ps n cs, .slice pw m cw], .bool t, .int .i64 most] W (AllDone ws t most W)) := Lib.hid (fun W hb => call_any ps n cs pw m cw ws t most W (HWL.out W hb))
    have HRL : Hid (∀ W, Below w.heap.size w W → Calls Try.prog 20 #[.agg #[.slice ps n cs, .slice pw m cw], .bool t, .int .i64 most] W (AllDone ws t most W)) := Lib.hid (fun W hb => rall ps n cs pw m cw ws t most W (HWL.out W hb))
    have HCC : Hid (∀ W, Below w.heap.size w W → Calls Try.prog 21 #[.agg #[.slice ps n cs, .slice pw m cw], .bool t, .int .i64 most] W fun e w' => e = .returned (.tuple #[.int .i64 ((allR ws t most).1.length : Int), .bool (allR ws t most).2]) ∧ Below W.heap.size W w') := Lib.hid (fun W hb => ccnt ps n cs pw m cw ws t most W (HWL.out W hb))
    obtain ⟨L, hL⟩ : ∃ L, (allR ws t most).1 = L := ⟨_, rfl⟩
    obtain ⟨all, hall⟩ : ∃ all, (allR ws t most).2 = all := ⟨_, rfl⟩
    have hLl : L.length ≤ 6561 := hL ▸ allR_len ws t most
    unfold AllDone at HAL HRL
    rw [hL, hall] at HAL HRL HCC
    clear hL hall
    obtain ⟨q, hq⟩ : ∃ q, L.length = q := ⟨_, rfl⟩
    rw [hq] at HAL HRL HCC hLl
    have hq1 : (q : Int) ≤ 6561 := by omega
    clear hq
    have HSS := Lib.hid hss
    clear hbig hs hw hss hws hsn hc
    unfold stV
    go_enter Try.func4, Try.ntmps4
    go_upto_region 5 with (go_at_call 7; refine (HK.out _).mono ?_; rintro e w2 ⟨rfl, hb2⟩; have HB2 := Lib.hid hb2; have HR2 := Lib.hid (row_later (heap_alloc_new _ _) hb2 (by rw [size_alloc]; omega)); have c0 := cell_row HR2.out 0 _ rfl; have c1 := cell_row HR2.out 1 _ rfl; clear hb2)
    obtain ⟨W0, hW0⟩ : ∃ W0, w2.alloc (.cells #[.slice ps n cs, .slice pw m cw] 28) = W0 := ⟨_, rfl⟩
    have hT0 : Two w w.heap.size w2.heap.size (.slice ps n cs) (.slice pw m cw) W0 := by
      rw [← hW0]
      exact ⟨row_alloc HR2.out _, heap_alloc_new _ _, below_alloc (below_trans HB1.out HB2.out) _⟩
    have HT0 := Lib.hid hT0
    rw [hW0]
    have e0 := cell_row hT0.r2 0 _ rfl
    have e1 := cell_row hT0.r2 1 _ rfl
    clear hW0 hT0 c0 c1 HB2 HR2
    go_upto_region 7 with (first | (go_at_call 14; refine (HIM.out _ HT0.out.below).mono ?_; rintro e w3 ⟨hb3, p3, c3, rfl, hr3⟩; have HT3 := Lib.hid (HT0.out.later hb3); have HR3 := Lib.hid hr3; have d0 := cell_row HT3.out.r1 0 _ rfl; have d1 := cell_row HT3.out.r1 1 _ rfl; clear hb3 hr3) | (go_at_call 15; refine (HRM.out _ HT3.out.below).mono ?_; rintro e w4 ⟨hb4, p4, c4, rfl, hr4⟩; have HT4 := Lib.hid (HT3.out.later hb4); have HR34 := Lib.hid (HR3.out.later hb4); have HR4 := Lib.hid hr4; clear hb4 hr4))
    clear e0 e1 d0 d1 HT0 HT3 HR3
    have HD4 : Hid (Below w4.heap.size w4 w4.drew) := Lib.hid ((Below.refl _ _).drew)
    refine wp_region_held_drew (S := ext w4.drew) (by kernel_rfl) (Below.refl _ _) (fun hH0 => ?_)
    refine wpAnyH_take (i := 0) (oi := { dst := some 51, op := Op.move (Operand.tmp 12), type := 4, pos := "law.go:58", after := #[], guard := none }) (v := ?_) rfl (by kernel_rfl) (by kernel_rfl) (by kernel_rfl) (fun _ _ _ h => h) (Or.inl ⟨by rfl, ?_⟩) (by assumption) ?_
    rotate_left
    · (intro w' hSw; go_simp; try with_reducible rfl)
    try simp only [Act.put, List.setIfInBounds_toArray, List.set_cons_zero, List.set_cons_succ]
    refine wpAnyH_take (i := 1) (oi := { dst := some 52, op := Op.move (Operand.tmp 14), type := 4, pos := "law.go:58", after := #[], guard := none }) (v := ?_) rfl (by kernel_rfl) (by kernel_rfl) (by kernel_rfl) (fun _ _ _ h => h) (Or.inl ⟨by rfl, ?_⟩) (by assumption) ?_
    rotate_left
    · (intro w' hSw; go_simp; try with_reducible rfl)
    try simp only [Act.put, List.setIfInBounds_toArray, List.set_cons_zero, List.set_cons_succ]
    refine wpAnyH_take (i := 2) (oi := { dst := some 53, op := Op.binOp BinOp.neq 4 (Operand.tmp 51) (Operand.tmp 52) 4, type := 4, pos := "law.go:58", after := #[{ on := 0, ground := Ground.data }, { on := 1, ground := Ground.data }], guard := none }) (v := ?_) rfl (by kernel_rfl) (by kernel_rfl) (by kernel_rfl) (fun _ _ _ h => h) (Or.inl ⟨by rfl, ?_⟩) (by assumption) ?_
    rotate_left
    · (intro w' hSw; go_simp; try with_reducible rfl)
    try simp only [Act.put, List.setIfInBounds_toArray, List.set_cons_zero, List.set_cons_succ]
    refine wpAnyH_take (i := 3) (oi := { dst := some 54, op := Op.move (Operand.tmp 53), type := 4, pos := "law.go:58", after := #[{ on := 2, ground := Ground.data }], guard := none }) (v := ?_) rfl (by kernel_rfl) (by kernel_rfl) (by kernel_rfl) (fun _ _ _ h => h) (Or.inl ⟨by rfl, ?_⟩) (by assumption) ?_
    rotate_left
    · (intro w' hSw; go_simp; try with_reducible rfl)
    try simp only [Act.put, List.setIfInBounds_toArray, List.set_cons_zero, List.set_cons_succ]
    refine wpAnyH_take (i := 4) (oi := { dst := some 55, op := Op.move (Operand.tmp 11), type := 22, pos := "law.go:58", after := #[{ on := 3, ground := Ground.guard }], guard := some (3, false) }) (v := ?_) rfl (by kernel_rfl) (by kernel_rfl) (by kernel_rfl) (fun _ _ _ h => h) (Or.inl ⟨by rfl, ?_⟩) (by assumption) ?_
    rotate_left
    · (intro w' hSw; go_simp; try with_reducible rfl)
    try simp only [Act.put, List.setIfInBounds_toArray, List.set_cons_zero, List.set_cons_succ]
    refine wpAnyH_take (i := 5) (oi := { dst := some 56, op := Op.move (Operand.tmp 13), type := 22, pos := "law.go:58", after := #[{ on := 3, ground := Ground.guard }], guard := some (3, false) }) (v := ?_) rfl (by kernel_rfl) (by kernel_rfl) (by kernel_rfl) (fun _ _ _ h => h) (Or.inl ⟨by rfl, ?_⟩) (by assumption) ?_
    rotate_left
    · (intro w' hSw; go_simp; try with_reducible rfl)
    try simp only [Act.put, List.setIfInBounds_toArray, List.set_cons_zero, List.set_cons_succ]
    -- 6
    refine wpAnyH_ready (rs := [6]) (by kernel_rfl) (by simp) ?_
    refine AllReadyH.cons (o := { dst := some 57, op := Op.call { callee := Callee.value (Operand.func 16), args := #[Operand.tmp 55, Operand.tmp 56], argTypes := #[22, 22] }, type := 4, pos := "law.go:58", after := #[{ on := 4, ground := Ground.data }, { on := 5, ground := Ground.data }, { on := 3, ground := Ground.chain }, { on := 3, ground := Ground.guard }], guard := some (3, false) }) rfl (fun K hK => ?_) AllReadyH.nil
    go_simp
    refine (same_any p3 p4 N c3 c4 X _ HXS.out (HR34.out.later HD4.out) (HR4.out.later HD4.out) (by omega)).mono ?_
    rintro e v6 ⟨rfl, hb6⟩
    have HB6 := Lib.hid (below_trans (Below.refl w4.drew.heap.size w4.drew) hb6)
    clear hb6
    dsimp only
    refine hK.out _ _ ?_ (fun hHeld => ?_)
    · exact HB6.out
    clear hK K
    try simp only [Act.put, List.setIfInBounds_toArray, List.set_cons_zero, List.set_cons_succ]
    refine wpAnyH_take (i := 7) (oi := { dst := some 58, op := Op.unOp UnOp.not 4 (Operand.tmp 57), type := 4, pos := "law.go:58", after := #[{ on := 6, ground := Ground.data }, { on := 3, ground := Ground.guard }], guard := some (3, false) }) (v := ?_) rfl (by kernel_rfl) (by kernel_rfl) (by kernel_rfl) (fun _ _ _ h => h) (Or.inl ⟨by rfl, ?_⟩) (by assumption) ?_
    rotate_left
    · (intro w' hSw; go_simp; try with_reducible rfl)
    try simp only [Act.put, List.setIfInBounds_toArray, List.set_cons_zero, List.set_cons_succ]
    refine wpAnyH_take (i := 8) (oi := { dst := some 59, op := Op.pick (Operand.tmp 54) (Operand.const (Value.bool true)) (Operand.tmp 58), type := 4, pos := "law.go:58", after := #[{ on := 3, ground := Ground.data }, { on := 7, ground := Ground.data }], guard := none }) (v := ?_) rfl (by kernel_rfl) (by kernel_rfl) (by kernel_rfl) (fun _ _ _ h => h) (Or.inl ⟨by rfl, ?_⟩) (by assumption) ?_
    rotate_left
    · (intro w' hSw; go_simp; try with_reducible rfl)
    try simp only [Act.put, List.setIfInBounds_toArray, List.set_cons_zero, List.set_cons_succ]
    refine wpAnyH_take (i := 9) (oi := { dst := some 60, op := Op.move (Operand.tmp 59), type := 4, pos := "law.go:58", after := #[{ on := 8, ground := Ground.data }, { on := 6, ground := Ground.chain }], guard := none }) (v := ?_) rfl (by kernel_rfl) (by kernel_rfl) (by kernel_rfl) (fun _ _ _ h => h) (Or.inl ⟨by rfl, ?_⟩) (by assumption) ?_
    rotate_left
    · (intro w' hSw; go_simp; try with_reducible rfl)
    try simp only [Act.put, List.setIfInBounds_toArray, List.set_cons_zero, List.set_cons_succ]
    refine' wpAnyH_take (i := 10) (oi := { dst := some 61, op := Op.load 28 (Operand.tmp 10), type := 28, pos := "law.go:58", after := #[{ on := 9, ground := Ground.guard }], guard := some (9, false) }) (v := _) rfl (by kernel_rfl) (by kernel_rfl) (by kernel_rfl) (fun _ _ _ h => h) (ld_cst (by rfl) _ rfl w2.heap.size rfl _ _ (fun w' hw => (HT4.out.later (below_trans HD4.out hw)).r2)) (by assumption) ?_
    try simp only [Act.put, List.setIfInBounds_toArray, List.set_cons_zero, List.set_cons_succ]
    refine wpAnyH_take (i := 11) (oi := { dst := some 62, op := Op.move (Operand.tmp 1), type := 40, pos := "law.go:58", after := #[{ on := 9, ground := Ground.guard }], guard := some (9, false) }) (v := ?_) rfl (by kernel_rfl) (by kernel_rfl) (by kernel_rfl) (fun _ _ _ h => h) (Or.inl ⟨by rfl, ?_⟩) (by assumption) ?_
    rotate_left
    · (intro w' hSw; go_simp; try with_reducible rfl)
    try simp only [Act.put, List.setIfInBounds_toArray, List.set_cons_zero, List.set_cons_succ]
    refine' wpAnyH_take (i := 13) (oi := { dst := some 64, op := Op.load 31 (Operand.tmp 4), type := 31, pos := "law.go:58", after := #[{ on := 9, ground := Ground.guard }], guard := some (9, false) }) (v := _) rfl (by kernel_rfl) (by kernel_rfl) (by kernel_rfl) (fun _ _ _ h => h) (ld_rst (by rfl) _ rfl w.heap.size rfl _ _ (fun w' hw => (HT4.out.later (below_trans HD4.out hw)).r1)) (by assumption) ?_
    try simp only [Act.put, List.setIfInBounds_toArray, List.set_cons_zero, List.set_cons_succ]
    refine wpAnyH_take (i := 14) (oi := { dst := some 65, op := Op.move (Operand.tmp 1), type := 40, pos := "law.go:58", after := #[{ on := 9, ground := Ground.guard }], guard := some (9, false) }) (v := ?_) rfl (by kernel_rfl) (by kernel_rfl) (by kernel_rfl) (fun _ _ _ h => h) (Or.inl ⟨by rfl, ?_⟩) (by assumption) ?_
    rotate_left
    · (intro w' hSw; go_simp; try with_reducible rfl)
    try simp only [Act.put, List.setIfInBounds_toArray, List.set_cons_zero, List.set_cons_succ]
    -- 12
    refine wpAnyH_ready (rs := [12]) (by kernel_rfl) (by simp) ?_
    refine AllReadyH.cons (o := { dst := some 63, op := Op.call { callee := Callee.value (Operand.func 17), args := #[Operand.tmp 61, Operand.tmp 62], argTypes := #[28, 40] }, type := 4, pos := "law.go:58", after := #[{ on := 10, ground := Ground.data }, { on := 11, ground := Ground.data }, { on := 9, ground := Ground.chain }, { on := 9, ground := Ground.guard }], guard := some (9, false) }) rfl (fun K hK => ?_) AllReadyH.nil
    go_simp
    refine (HCA.out _ (below_trans HT4.out.below (below_trans HD4.out HB6.out))).mono ?_
    rintro e v12 ⟨rfl, hb12⟩
    have HB12 := Lib.hid (below_trans HB6.out hb12)
    clear hb12
    dsimp only
    refine hK.out _ _ ?_ (fun hHeld => ?_)
    · exact HB12.out
    clear hK K
    try simp only [Act.put, List.setIfInBounds_toArray, List.set_cons_zero, List.set_cons_succ]
    -- 15
    refine wpAnyH_ready (rs := [15]) (by kernel_rfl) (by simp) ?_
    refine AllReadyH.cons (o := { dst := some 66, op := Op.call { callee := Callee.value (Operand.func 18), args := #[Operand.tmp 64, Operand.tmp 65], argTypes := #[31, 40] }, type := 4, pos := "law.go:58", after := #[{ on := 13, ground := Ground.data }, { on := 14, ground := Ground.data }, { on := 12, ground := Ground.chain }, { on := 9, ground := Ground.guard }], guard := some (9, false) }) rfl (fun K hK => ?_) AllReadyH.nil
    go_simp
    refine (HRA.out _ (below_trans HT4.out.below (below_trans HD4.out HB12.out))).mono ?_
    rintro e v15 ⟨rfl, hb15⟩
    have HB15 := Lib.hid (below_trans HB12.out hb15)
    clear hb15
    dsimp only
    refine hK.out _ _ ?_ (fun hHeld => ?_)
    · exact HB15.out
    clear hK K
    try simp only [Act.put, List.setIfInBounds_toArray, List.set_cons_zero, List.set_cons_succ]
    refine wpAnyH_take (i := 16) (oi := { dst := some 67, op := Op.binOp BinOp.neq 4 (Operand.tmp 63) (Operand.tmp 66) 4, type := 4, pos := "law.go:58", after := #[{ on := 12, ground := Ground.data }, { on := 15, ground := Ground.data }, { on := 9, ground := Ground.guard }], guard := some (9, false) }) (v := ?_) rfl (by kernel_rfl) (by kernel_rfl) (by kernel_rfl) (fun _ _ _ h => h) (Or.inl ⟨by rfl, ?_⟩) (by assumption) ?_
    rotate_left
    · (intro w' hSw; go_simp; try with_reducible rfl)
    try simp only [Act.put, List.setIfInBounds_toArray, List.set_cons_zero, List.set_cons_succ]
    refine wpAnyH_take (i := 17) (oi := { dst := some 68, op := Op.pick (Operand.tmp 60) (Operand.const (Value.bool true)) (Operand.tmp 67), type := 4, pos := "law.go:58", after := #[{ on := 9, ground := Ground.data }, { on := 16, ground := Ground.data }], guard := none }) (v := ?_) rfl (by kernel_rfl) (by kernel_rfl) (by kernel_rfl) (fun _ _ _ h => h) (Or.inl ⟨by rfl, ?_⟩) (by assumption) ?_
    rotate_left
    · (intro w' hSw; go_simp; try with_reducible rfl)
    try simp only [Act.put, List.setIfInBounds_toArray, List.set_cons_zero, List.set_cons_succ]
    refine wpAnyH_done (by kernel_rfl) ?_ _
    have HT5 := Lib.hid (HT4.out.later (below_trans HD4.out HB15.out))
    clear HB6 HB12 HB15 HD4 HT4 hHeld hH0
    have e0 := cell_row HT5.out.r2 0 _ rfl
    have e1 := cell_row HT5.out.r2 1 _ rfl
    go_upto_region 12 with (first | (go_at_call 19; refine (HAL.out _ HT5.out.below).mono ?_; rintro e w20 ⟨hb20, p20, c20, rfl, ho20⟩; have HT20 := Lib.hid (HT5.out.later hb20); have HO20 := Lib.hid ho20.rd; have d0 := cell_row HT20.out.r1 0 _ rfl; have d1 := cell_row HT20.out.r1 1 _ rfl; clear hb20 ho20) | (go_at_call 20; refine (HRL.out _ HT20.out.below).mono ?_; rintro e w21 ⟨hb21, p21, c21, rfl, ho21⟩; have HT21 := Lib.hid (HT20.out.later hb21); have HO20b := Lib.hid (HO20.out.later hb21); have HO21 := Lib.hid ho21.rd; have k0 := cell_row HT21.out.r2 0 _ rfl; have k1 := cell_row HT21.out.r2 1 _ rfl; clear hb21 ho21) | (go_at_call 21; refine (HCC.out _ HT21.out.below).mono ?_; rintro e w22 ⟨rfl, hb22⟩; have HA := Lib.hid (HO20b.out.later hb22); have HB := Lib.hid (HO21.out.later hb22); have hbw := (HT21.out.later hb22).below; clear hb22))
    clear e0 e1 d0 d1 k0 k1 HT5 HT20 HT21 HO20 HO20b HO21 HAL HRL HCC
    go_wp2_with fail
    go_loopw [21] (fun iv wv => ∃ (j d : Nat), j ≤ q ∧ iv = .int .i64 (j : Int) ∧ wv = w22.drewN d) (fun iv _ => q - (intOf iv).toNat)
    case atStart => exact ⟨0, 0, by omega, rfl, rfl⟩
    case round =>
      obtain ⟨j, d, hj, rfl, rfl⟩ := hrel
      by_cases ha : j < q
      · have ha1 : (j : Int) < q := by omega
        have hA := HA.out
        have hB := HB.out
        rw [u64s_eq] at hA hB
        obtain ⟨b1, o1, rfl, hc1, hm1', hh1, _, r1⟩ := hA.at ha
        obtain ⟨b2, o2, rfl, hc2, hm2', hh2, _, r2⟩ := hB.at ha
        have s1 := r1 j ha
        have s2 := r2 j ha
        generalize (L.map fun c : Nat => (c : Int)).getD j 0 = z at *
        clear r1 r2 hA hB
        go_wp2_with fail
        go_quiet (fail)
        go_wp2_with fail
        go_roundw
        case rel => exact ⟨j + 1, _, by omega, by go_num, by first | rfl | simp⟩
        case measure => simp [intOf]; omega
      · obtain rfl : q = j := by omega
        go_wp2_with fail
        go_ret
        exact ⟨rfl, blw_drewN hbw d⟩
theorem walkCrashChoices (ps : Option Addr) (n cs : Nat) (pw : Option Addr) (m cw : Nat) (ss : List (List Int)) (ws : List Wr) (c : Int) (hc : (Lit.int .u64 c).wf = true) (t : Bool) (most : Int) (wm : (Lit.int .i64 most).wf = true) (w : World)
    (hs : Rd w 32 (.slice ps n cs) n (cellsOf ss)) (hn : n ≤ maxLen) (hss : Secs ss) (hw : Rd w 36 (.slice pw m cw) m (wrsC ws)) (hm : m ≤ maxLen) (hws : ∀ x ∈ ws, x.ok) :
    Calls Try.prog 4 #[.agg #[.slice ps n cs, .slice pw m cw], .int .u64 c, .bool t, .int .i64 most] w fun e w' => e = .returned (.bool true) ∧ Below w.heap.size w w' := by
  obtain ⟨k, rfl, hk⟩ := wf_u64 hc
  exact walkCh ps n cs pw m cw ss ws k t most w hk wm hs hn hss hw hm (fun x hx => (hws x hx).1)
end Go.Proofs.Ytpnepooobmbfbaa.dsk
