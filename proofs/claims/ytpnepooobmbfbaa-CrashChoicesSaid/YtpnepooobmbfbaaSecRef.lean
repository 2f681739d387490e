/- What the reference of layer 4 gives. -/
import Derived.Test.YtpnepooobmbfbaaSecMath
namespace Go.Proofs.Ytpnepooobmbfbaa.sec
set_option maxRecDepth 100000
open Go.ChangeShapes Go.WideShapes Go.ChangeAt Go.RowKit
open Go.Proofs.Ytpnepooobmbfbaa.rows
set_option linter.unusedVariables false

theorem row_at {w : World} {p : Option Addr} {n c : Nat} {ss : List (List Int)} (h : Rd w 32 (.slice p n c) n (cellsOf ss)) (hs : Secs ss) {j : Nat} (hj : j < n) :
    ∃ b off, p = some ⟨b, off, none⟩ ∧ n ≤ c ∧ c ≤ maxLen ∧ b < w.heap.size ∧ ss.length = n ∧ ∀ j (hj : j < ss.length), w.rangeAt b (off + j * 32) (u8s ss[j]) := by
  have hlen := h.cells
  rw [cellsOf_len hs] at hlen
  have hl : ss.length = n := by omega
  rcases h with ⟨p', cap', h1, rfl, _⟩ | ⟨b, off, cap', h1, h2, h3, h4, h5, h6, h7⟩
  · omega
  · cases h1
    refine ⟨b, off, rfl, h3, h4, h5, hl, fun j hj i u hi => ?_⟩
    rw [Nat.add_assoc]
    exact h7 _ u (cellsOf_at hs hj i u hi)

set_option maxHeartbeats 1600000 in
theorem runlike_any (p1 p2 : Option Addr) (n1 c1 n2 c2 : Nat) (xs ys : List (List Int)) (w : World) (hx : Secs xs) (hy : Secs ys) (h1 : Rd w 32 (.slice p1 n1 c1) n1 (cellsOf xs)) (h2 : Rd w 32 (.slice p2 n2 c2) n2 (cellsOf ys)) (l1 : n1 ≤ 1000) (l2 : n2 ≤ 1000) :
    Calls Try.prog 39 #[.slice p1 n1 c1, .slice p2 n2 c2] w fun e w' => ∃ p' n' c', e = .returned (.slice p' n' c') ∧ n' = (unl xs ys (max n1 n2)).length ∧ Own w' w.heap.size 3 1 (.slice p' n' c') n' (i64s (unl xs ys (max n1 n2))) ∧ Below w.heap.size w w' := by
  have hn1 : xs.length = n1 := by have := h1.cells; rw [cellsOf_len hx] at this; omega
  have hn2 : ys.length = n2 := by have := h2.cells; rw [cellsOf_len hy] at this; omega
  have H1 := Lib.hid h1
  have H2 := Lib.hid h2
  have HN1 := Lib.hid hn1
  have HN2 := Lib.hid hn2
  have hb1 : (n1:Int) ≤ 1000 := by omega
  have hb2 : (n2:Int) ≤ 1000 := by omega
  clear h1 h2 hn1 hn2
  go_enter Try.func39, Try.ntmps39
  go_wp2
  go_loopw [5, 6] (fun out iv wr => ∃ (j : Nat) (p' : Option Addr) (n' c' : Nat), j ≤ max n1 n2 ∧ iv = .int .i64 (j : Int) ∧ out = .slice p' n' c' ∧ n' = (unl xs ys j).length ∧ Hid (Own wr w.heap.size 3 1 (.slice p' n' c') n' (i64s (unl xs ys j))) ∧ Below w.heap.size w wr) (fun _ iv _ => max n1 n2 - (intOf iv).toNat)
  case atStart => exact ⟨0, none, 0, 0, by omega, rfl, rfl, by simp [unl], Lib.hid (own_nil _ _ _ _), Below.refl _ _⟩
  case round =>
    obtain ⟨j, p', n', c', hj, rfl, rfl, hn', HO, hbr⟩ := hrel
    have HN' := Lib.hid hn'
    have HUL := Lib.hid (unl_len xs ys j)
    clear hn'
    by_cases ha : j < n1
    · by_cases hb : j < n2
      · have ha1 : (j:Int) < n1 := by omega
        have hb1 : (j:Int) < n2 := by omega
        have ga : decide ((n1:Int) ≤ j) = false := by simp; omega
        have ga' : decide (n1 ≤ j) = false := by simp; omega
        have gb : decide ((n2:Int) ≤ j) = false := by simp; omega
        have gb' : decide (n2 ≤ j) = false := by simp; omega
        obtain ⟨b1, o1, rfl, hc1, hm1, hh1, hl1, HR1⟩ := row_at (H1.out.later hbr) hx ha
        obtain ⟨b2, o2, rfl, hc2, hm2, hh2, hl2, HR2⟩ := row_at (H2.out.later hbr) hy hb
        have hj1 : j < xs.length := by omega
        have hj2 : j < ys.length := by omega
        have hr1 := HR1 j hj1
        have hr2 := HR2 j hj2
        have hs1 := hx _ (List.getElem_mem hj1)
        have hs2 := hy _ (List.getElem_mem hj2)
        have HE1 : Hid (xs[j]? = some xs[j]) := Lib.hid (List.getElem?_eq_getElem hj1)
        have HE2 : Hid (ys[j]? = some ys[j]) := Lib.hid (List.getElem?_eq_getElem hj2)
        generalize xs[j] = s1 at *
        generalize ys[j] = s2 at *
        have HS1 := Lib.hid hs1
        have HS2 := Lib.hid hs2
        have HQ1 := Lib.hid fun w' (hw : Below wr.heap.size wr w') => Rd.rangeLater hr1 hh1 hw
        have HQ2 := Lib.hid fun w' (hw : Below wr.heap.size wr w') => Rd.rangeLater hr2 hh2 hw
        clear hr1 hr2 hs1 hs2 HR1 HR2 hj1 hj2
        obtain ⟨q, hd⟩ : ∃ q, decide (s1 = s2) = q := ⟨_, rfl⟩
        have HD := Lib.hid hd
        clear hd
        go_wp2_with fail
        refine wp_region_held_drew (S := ext wr.drew) (by kernel_rfl) (Below.refl _ _) (fun hH0 => ?_)
        refine wpAnyH_take (i := 0) (oi := { dst := some 19, op := Op.move (Operand.tmp 6), type := 3, pos := "ref.go:76", after := #[], guard := none }) (v := ?_) rfl (by kernel_rfl) (by kernel_rfl) (by kernel_rfl) (fun _ _ _ h => h) (Or.inl ⟨by rfl, ?_⟩) (by assumption) ?_
        rotate_left
        · (intro w' hSw; go_simp; try with_reducible rfl)
        try simp only [Act.put, List.setIfInBounds_toArray, List.set_cons_zero, List.set_cons_succ]
        refine wpAnyH_take (i := 1) (oi := { dst := some 20, op := Op.move (Operand.tmp 0), type := 22, pos := "ref.go:76", after := #[], guard := none }) (v := ?_) rfl (by kernel_rfl) (by kernel_rfl) (by kernel_rfl) (fun _ _ _ h => h) (Or.inl ⟨by rfl, ?_⟩) (by assumption) ?_
        rotate_left
        · (intro w' hSw; go_simp; try with_reducible rfl)
        try simp only [Act.put, List.setIfInBounds_toArray, List.set_cons_zero, List.set_cons_succ]
        refine wpAnyH_take (i := 2) (oi := { dst := some 21, op := Op.call { callee := Callee.builtin Builtin.len, args := #[Operand.tmp 20], argTypes := #[22] }, type := 3, pos := "ref.go:76", after := #[{ on := 1, ground := Ground.data }], guard := none }) (v := ?_) rfl (by kernel_rfl) (by kernel_rfl) (by kernel_rfl) (fun _ _ _ h => h) (Or.inl ⟨by rfl, ?_⟩) (by assumption) ?_
        rotate_left
        · (intro w' hSw; go_simp; try with_reducible rfl)
        try simp only [Act.put, List.setIfInBounds_toArray, List.set_cons_zero, List.set_cons_succ]
        refine wpAnyH_take (i := 3) (oi := { dst := some 22, op := Op.binOp BinOp.geq 3 (Operand.tmp 19) (Operand.tmp 21) 3, type := 4, pos := "ref.go:76", after := #[{ on := 0, ground := Ground.data }, { on := 2, ground := Ground.data }], guard := none }) (v := ?_) rfl (by kernel_rfl) (by kernel_rfl) (by kernel_rfl) (fun _ _ _ h => h) (Or.inl ⟨by rfl, ?_⟩) (by assumption) ?_
        rotate_left
        · (intro w' hSw; go_simp; try with_reducible rfl)
        try simp only [Act.put, List.setIfInBounds_toArray, List.set_cons_zero, List.set_cons_succ]
        refine wpAnyH_take (i := 4) (oi := { dst := some 23, op := Op.move (Operand.tmp 22), type := 4, pos := "ref.go:76", after := #[{ on := 3, ground := Ground.data }], guard := none }) (v := ?_) rfl (by kernel_rfl) (by kernel_rfl) (by kernel_rfl) (fun _ _ _ h => h) (Or.inl ⟨by rfl, ?_⟩) (by assumption) ?_
        rotate_left
        · (intro w' hSw; go_simp; try with_reducible rfl)
        try simp only [Act.put, List.setIfInBounds_toArray, List.set_cons_zero, List.set_cons_succ]
        refine wpAnyH_take (i := 5) (oi := { dst := some 24, op := Op.move (Operand.tmp 6), type := 3, pos := "ref.go:76", after := #[{ on := 4, ground := Ground.guard }], guard := some (4, false) }) (v := ?_) rfl (by kernel_rfl) (by kernel_rfl) (by kernel_rfl) (fun _ _ _ h => h) (Or.inl ⟨by rfl, ?_⟩) (by assumption) ?_
        rotate_left
        · (intro w' hSw; go_simp; try with_reducible rfl)
        try simp only [Act.put, List.setIfInBounds_toArray, List.set_cons_zero, List.set_cons_succ]
        refine wpAnyH_take (i := 6) (oi := { dst := some 25, op := Op.move (Operand.tmp 1), type := 22, pos := "ref.go:76", after := #[{ on := 4, ground := Ground.guard }], guard := some (4, false) }) (v := ?_) rfl (by kernel_rfl) (by kernel_rfl) (by kernel_rfl) (fun _ _ _ h => h) (Or.inl ⟨by rfl, ?_⟩) (by assumption) ?_
        rotate_left
        · (intro w' hSw; go_simp; try with_reducible rfl)
        try simp only [Act.put, List.setIfInBounds_toArray, List.set_cons_zero, List.set_cons_succ]
        refine wpAnyH_take (i := 7) (oi := { dst := some 26, op := Op.call { callee := Callee.builtin Builtin.len, args := #[Operand.tmp 25], argTypes := #[22] }, type := 3, pos := "ref.go:76", after := #[{ on := 6, ground := Ground.data }, { on := 4, ground := Ground.guard }], guard := some (4, false) }) (v := ?_) rfl (by kernel_rfl) (by kernel_rfl) (by kernel_rfl) (fun _ _ _ h => h) (Or.inl ⟨by rfl, ?_⟩) (by assumption) ?_
        rotate_left
        · (intro w' hSw; go_simp; try with_reducible rfl)
        try simp only [Act.put, List.setIfInBounds_toArray, List.set_cons_zero, List.set_cons_succ]
        refine wpAnyH_take (i := 8) (oi := { dst := some 27, op := Op.binOp BinOp.geq 3 (Operand.tmp 24) (Operand.tmp 26) 3, type := 4, pos := "ref.go:76", after := #[{ on := 5, ground := Ground.data }, { on := 7, ground := Ground.data }, { on := 4, ground := Ground.guard }], guard := some (4, false) }) (v := ?_) rfl (by kernel_rfl) (by kernel_rfl) (by kernel_rfl) (fun _ _ _ h => h) (Or.inl ⟨by rfl, ?_⟩) (by assumption) ?_
        rotate_left
        · (intro w' hSw; go_simp; try with_reducible rfl)
        try simp only [Act.put, List.setIfInBounds_toArray, List.set_cons_zero, List.set_cons_succ]
        refine wpAnyH_take (i := 9) (oi := { dst := some 28, op := Op.pick (Operand.tmp 23) (Operand.const (Value.bool true)) (Operand.tmp 27), type := 4, pos := "ref.go:76", after := #[{ on := 4, ground := Ground.data }, { on := 8, ground := Ground.data }], guard := none }) (v := ?_) rfl (by kernel_rfl) (by kernel_rfl) (by kernel_rfl) (fun _ _ _ h => h) (Or.inl ⟨by rfl, ?_⟩) (by assumption) ?_
        rotate_left
        · (intro w' hSw; go_simp; try with_reducible rfl)
        try simp only [Act.put, List.setIfInBounds_toArray, List.set_cons_zero, List.set_cons_succ]
        refine wpAnyH_take (i := 10) (oi := { dst := some 29, op := Op.move (Operand.tmp 28), type := 4, pos := "ref.go:76", after := #[{ on := 9, ground := Ground.data }, { on := 4, ground := Ground.chain }], guard := none }) (v := ?_) rfl (by kernel_rfl) (by kernel_rfl) (by kernel_rfl) (fun _ _ _ h => h) (Or.inl ⟨by rfl, ?_⟩) (by assumption) ?_
        rotate_left
        · (intro w' hSw; go_simp; try with_reducible rfl)
        try simp only [Act.put, List.setIfInBounds_toArray, List.set_cons_zero, List.set_cons_succ]
        refine wpAnyH_take (i := 11) (oi := { dst := some 30, op := Op.move (Operand.tmp 0), type := 22, pos := "ref.go:76", after := #[{ on := 10, ground := Ground.guard }], guard := some (10, false) }) (v := ?_) rfl (by kernel_rfl) (by kernel_rfl) (by kernel_rfl) (fun _ _ _ h => h) (Or.inl ⟨by rfl, ?_⟩) (by assumption) ?_
        rotate_left
        · (intro w' hSw; go_simp; try with_reducible rfl)
        try simp only [Act.put, List.setIfInBounds_toArray, List.set_cons_zero, List.set_cons_succ]
        refine wpAnyH_take (i := 12) (oi := { dst := some 31, op := Op.move (Operand.tmp 6), type := 3, pos := "ref.go:76", after := #[{ on := 10, ground := Ground.guard }], guard := some (10, false) }) (v := ?_) rfl (by kernel_rfl) (by kernel_rfl) (by kernel_rfl) (fun _ _ _ h => h) (Or.inl ⟨by rfl, ?_⟩) (by assumption) ?_
        rotate_left
        · (intro w' hSw; go_simp; try with_reducible rfl)
        try simp only [Act.put, List.setIfInBounds_toArray, List.set_cons_zero, List.set_cons_succ]
        refine wpAnyH_take (i := 13) (oi := { dst := some 32, op := Op.indexAddr 22 (Operand.tmp 30) (Operand.tmp 31), type := 0, pos := "ref.go:76", after := #[{ on := 11, ground := Ground.data }, { on := 12, ground := Ground.data }, { on := 10, ground := Ground.guard }], guard := some (10, false) }) (v := ?_) rfl (by kernel_rfl) (by kernel_rfl) (by kernel_rfl) (fun _ _ _ h => h) (Or.inl ⟨by rfl, ?_⟩) (by assumption) ?_
        rotate_left
        · (intro w' hSw; go_simp; try with_reducible rfl)
        try simp only [Act.put, List.setIfInBounds_toArray, List.set_cons_zero, List.set_cons_succ]
        refine' wpAnyH_take (i := 14) (oi := { dst := some 33, op := Op.load 62 (Operand.tmp 32), type := 62, pos := "ref.go:76", after := #[{ on := 13, ground := Ground.data }, { on := 10, ground := Ground.guard }], guard := some (10, false) }) (v := _) rfl (by kernel_rfl) (by kernel_rfl) (by kernel_rfl) (fun _ _ _ h => h) (ld_sec (by rfl) _ rfl b1 (o1 + j * 32) rfl s1 HS1.out.1 (fun w' hw => HQ1.out w' (below_drew hw))) (by assumption) ?_
        try simp only [Act.put, List.setIfInBounds_toArray, List.set_cons_zero, List.set_cons_succ]
        refine wpAnyH_take (i := 15) (oi := { dst := some 34, op := Op.move (Operand.tmp 1), type := 22, pos := "ref.go:76", after := #[{ on := 10, ground := Ground.guard }], guard := some (10, false) }) (v := ?_) rfl (by kernel_rfl) (by kernel_rfl) (by kernel_rfl) (fun _ _ _ h => h) (Or.inl ⟨by rfl, ?_⟩) (by assumption) ?_
        rotate_left
        · (intro w' hSw; go_simp; try with_reducible rfl)
        try simp only [Act.put, List.setIfInBounds_toArray, List.set_cons_zero, List.set_cons_succ]
        refine wpAnyH_take (i := 16) (oi := { dst := some 35, op := Op.move (Operand.tmp 6), type := 3, pos := "ref.go:76", after := #[{ on := 10, ground := Ground.guard }], guard := some (10, false) }) (v := ?_) rfl (by kernel_rfl) (by kernel_rfl) (by kernel_rfl) (fun _ _ _ h => h) (Or.inl ⟨by rfl, ?_⟩) (by assumption) ?_
        rotate_left
        · (intro w' hSw; go_simp; try with_reducible rfl)
        try simp only [Act.put, List.setIfInBounds_toArray, List.set_cons_zero, List.set_cons_succ]
        refine wpAnyH_take (i := 17) (oi := { dst := some 36, op := Op.indexAddr 22 (Operand.tmp 34) (Operand.tmp 35), type := 0, pos := "ref.go:76", after := #[{ on := 15, ground := Ground.data }, { on := 16, ground := Ground.data }, { on := 10, ground := Ground.guard }], guard := some (10, false) }) (v := ?_) rfl (by kernel_rfl) (by kernel_rfl) (by kernel_rfl) (fun _ _ _ h => h) (Or.inl ⟨by rfl, ?_⟩) (by assumption) ?_
        rotate_left
        · (intro w' hSw; go_simp; try with_reducible rfl)
        try simp only [Act.put, List.setIfInBounds_toArray, List.set_cons_zero, List.set_cons_succ]
        refine' wpAnyH_take (i := 18) (oi := { dst := some 37, op := Op.load 62 (Operand.tmp 36), type := 62, pos := "ref.go:76", after := #[{ on := 17, ground := Ground.data }, { on := 10, ground := Ground.guard }], guard := some (10, false) }) (v := _) rfl (by kernel_rfl) (by kernel_rfl) (by kernel_rfl) (fun _ _ _ h => h) (ld_sec (by rfl) _ rfl b2 (o2 + j * 32) rfl s2 HS2.out.1 (fun w' hw => HQ2.out w' (below_drew hw))) (by assumption) ?_
        try simp only [Act.put, List.setIfInBounds_toArray, List.set_cons_zero, List.set_cons_succ]
        refine wpAnyH_take (i := 19) (oi := { dst := some 38, op := Op.binOp BinOp.neq 62 (Operand.tmp 33) (Operand.tmp 37) 62, type := 4, pos := "ref.go:76", after := #[{ on := 14, ground := Ground.data }, { on := 18, ground := Ground.data }, { on := 10, ground := Ground.guard }], guard := some (10, false) }) (v := ?_) rfl (by kernel_rfl) (by kernel_rfl) (by kernel_rfl) (fun _ _ _ h => h) (Or.inl ⟨by rfl, ?_⟩) (by assumption) ?_
        rotate_left
        · (intro w' hSw; have hg := guard_sec; have hq := eqIn_sec w' HS1.out HS2.out; rw [HD.out] at hq; go_simp; try with_reducible rfl)
        try simp only [Act.put, List.setIfInBounds_toArray, List.set_cons_zero, List.set_cons_succ]
        refine wpAnyH_take (i := 20) (oi := { dst := some 39, op := Op.pick (Operand.tmp 29) (Operand.const (Value.bool true)) (Operand.tmp 38), type := 4, pos := "ref.go:76", after := #[{ on := 10, ground := Ground.data }, { on := 19, ground := Ground.data }], guard := none }) (v := ?_) rfl (by kernel_rfl) (by kernel_rfl) (by kernel_rfl) (fun _ _ _ h => h) (Or.inl ⟨by rfl, ?_⟩) (by assumption) ?_
        rotate_left
        · (intro w' hSw; go_simp; try with_reducible rfl)
        try simp only [Act.put, List.setIfInBounds_toArray, List.set_cons_zero, List.set_cons_succ]
        refine wpAnyH_done (by kernel_rfl) ?_ _
        cases q with
        | true =>
          have heq : s1 = s2 := of_decide_eq_true HD.out
          have HM : Hid (xs[j]? = ys[j]?) := Lib.hid (by rw [HE1.out, HE2.out, heq])
          go_wp2_with fail
          go_roundw
          case rel => exact ⟨j + 1, p', n', c', by omega, by go_num, rfl, by rw [unl_miss HM.out, HN'.out], Lib.hid (by rw [unl_miss HM.out]; exact HO.out.drew), hbr.drew⟩
          case measure => simp [intOf]; omega
        | false =>
          have hne : s1 ≠ s2 := of_decide_eq_false HD.out
          have HM : Hid (xs[j]? ≠ ys[j]?) := Lib.hid (by rw [HE1.out, HE2.out]; intro h; exact hne (Option.some.inj h))
          go_wp2_with (at_builtin; refine ap_rd elem_ints rfl (.tmp 40) (.tmp 42) rfl w.heap.size _ _ (i64s (unl xs ys j)) rfl (HO.out.drew.alloc _) _ 1 [.int .i64 (j:Int)] rfl (rd_one _ _ 1 #[.int .i64 (j:Int)] rfl) (one_ints .i64 [(j:Int)]) (by have := HN'.out; have := HUL.out; omega) (by have := hbr.size; simp; omega) ?_; intro pa ca wa ho hb; have HO2 := Lib.hid ho; clear ho)
          go_roundw
          case rel => exact ⟨j + 1, pa, n' + 1, ca, by omega, by go_num, rfl, by rw [unl_hit HM.out, List.length_append, HN'.out]; rfl, Lib.hid (by rw [unl_hit HM.out]; simpa [i64s] using HO2.out), below_trans' (below_alloc (hbr.drew) _) hb (Nat.le_refl _)⟩
          case measure => simp [intOf]; omega
      · have ha1 : (j:Int) < n1 := by omega
        have ga : decide ((n1:Int) ≤ j) = false := by simp; omega
        have ga' : decide (n1 ≤ j) = false := by simp; omega
        have gb : decide ((n2:Int) ≤ j) = true := by simp; omega
        have gb' : decide (n2 ≤ j) = true := by simp; omega
        have HM : Hid (xs[j]? ≠ ys[j]?) := Lib.hid (by rw [List.getElem?_eq_none (l := ys) (by rw [HN2.out]; omega), List.getElem?_eq_getElem (by rw [HN1.out]; omega)]; simp)
        go_wp2_with fail
        go_quiet (fail)
        go_wp2_with (at_builtin; refine ap_rd elem_ints rfl (.tmp 40) (.tmp 42) rfl w.heap.size _ _ (i64s (unl xs ys j)) rfl ((HO.out.drewN nq).alloc _) _ 1 [.int .i64 (j:Int)] rfl (rd_one _ _ 1 #[.int .i64 (j:Int)] rfl) (one_ints .i64 [(j:Int)]) (by have := HN'.out; have := HUL.out; omega) (by have := hbr.size; simp; omega) ?_; intro pa ca wa ho hb; have HO2 := Lib.hid ho; clear ho)
        go_roundw
        case rel => exact ⟨j + 1, pa, n' + 1, ca, by omega, by go_num, rfl, by rw [unl_hit HM.out, List.length_append, HN'.out]; rfl, Lib.hid (by rw [unl_hit HM.out]; simpa [i64s] using HO2.out), below_trans' (below_alloc (blw_drewN hbr _) _) hb (Nat.le_refl _)⟩
        case measure => simp [intOf]; omega
    · by_cases hb : j < n2
      · have hb1 : (j:Int) < n2 := by omega
        have ga : decide ((n1:Int) ≤ j) = true := by simp; omega
        have ga' : decide (n1 ≤ j) = true := by simp; omega
        have HM : Hid (xs[j]? ≠ ys[j]?) := Lib.hid (by rw [List.getElem?_eq_none (l := xs) (by rw [HN1.out]; omega), List.getElem?_eq_getElem (by rw [HN2.out]; omega)]; simp)
        go_wp2_with fail
        go_quiet (fail)
        go_wp2_with (at_builtin; refine ap_rd elem_ints rfl (.tmp 40) (.tmp 42) rfl w.heap.size _ _ (i64s (unl xs ys j)) rfl ((HO.out.drewN nq).alloc _) _ 1 [.int .i64 (j:Int)] rfl (rd_one _ _ 1 #[.int .i64 (j:Int)] rfl) (one_ints .i64 [(j:Int)]) (by have := HN'.out; have := HUL.out; omega) (by have := hbr.size; simp; omega) ?_; intro pa ca wa ho hb; have HO2 := Lib.hid ho; clear ho)
        go_roundw
        case rel => exact ⟨j + 1, pa, n' + 1, ca, by omega, by go_num, rfl, by rw [unl_hit HM.out, List.length_append, HN'.out]; rfl, Lib.hid (by rw [unl_hit HM.out]; simpa [i64s] using HO2.out), below_trans' (below_alloc (blw_drewN hbr _) _) hb (Nat.le_refl _)⟩
        case measure => simp [intOf]; omega
      · have hjm : j = max n1 n2 := by omega
        go_wp2_with fail
        go_ret
        exact ⟨p', n', c', rfl, by rw [HN'.out, hjm], by rw [← hjm]; exact HO.out, hbr⟩
end Go.Proofs.Ytpnepooobmbfbaa.sec
