/- knows returns true. -/
import Derived.Test.YteobhljkjgocdaaDcDup
namespace Go.Proofs.Yteobhljkjgocdaa.dsk
open Go.ChangeShapes Go.WideShapes Go.ChangeAt Go.RowKit
open Go.Proofs.Yteobhljkjgocdaa.rows
open Go.Proofs.Yteobhljkjgocdaa.sec
open Go.Maps
set_option linter.unusedVariables false
set_option linter.unusedSimpArgs false

def sK : List Int := 1 :: 2 :: List.replicate 30 0
theorem sec_sK : Sec sK := ⟨by decide, by decide⟩
def stK1 : St := ⟨List.replicate 4 zero32, [⟨3, sK, 1, 1, 0⟩], 0, [(1, ⟨3, sK, 1, 1, 0⟩, [])], [], 1⟩
def stK2 : St := ⟨[zero32, zero32, zero32, sK], [], 0, [(1, ⟨3, sK, 1, 1, 0⟩, []), (2, w0, [(1, 1)])], [], 2⟩
theorem kn1 : writeR (st0 (List.replicate 4 zero32)) 3 sK 1 1 = (0, stK1) := by rfl
theorem kn2 : syncR stK1 [(1, 1)] = (0, stK2) := by rfl
theorem kn3 : readR stK1 3 = .tuple #[agg sK, .int .i64 0] := by rfl
theorem secs4 : Secs (List.replicate 4 zero32) := secs_zero 4
theorem secs4b : Secs [zero32, zero32, zero32, sK] := by
  intro s hs
  simp only [List.mem_cons, List.not_mem_nil, or_false] at hs
  rcases hs with h | h | h | h <;> subst h <;> first | exact sec_zero | exact sec_sK
theorem fine0 : (st0 (List.replicate 4 zero32)).fine := ⟨⟨secs4, fun x hx => (by cases hx), fun x hx => (by cases hx), fun x hx => (by cases hx), by decide, by decide, by decide, by decide, by decide, by decide, by decide⟩, by decide, fun x hx => (by cases hx)⟩
theorem fine1 : stK1.fine := by
  refine ⟨⟨secs4, fun x hx => ?_, fun x hx => ?_, fun x hx => ?_, by decide, by decide, by decide, by decide, by decide, by decide, by decide⟩, by decide, fun x hx => ?_⟩
  · rw [List.mem_singleton.1 hx]; exact sec_sK
  · rw [List.mem_singleton.1 hx]; exact sec_sK
  · rw [List.mem_singleton.1 hx]; decide
  · rw [List.mem_singleton.1 hx]; exact ⟨by decide, by decide⟩
theorem fine2 : stK2.fine := by
  refine ⟨⟨secs4b, fun x hx => (by cases hx), fun x hx => ?_, fun x hx => ?_, by decide, by decide, by decide, by decide, by decide, by decide, by decide⟩, by decide, fun x hx => (by cases hx)⟩
  · simp only [stK2, List.mem_cons, List.not_mem_nil, or_false] at hx
    rcases hx with h | h <;> subst h <;> first | exact sec_sK | exact sec_zero
  · simp only [stK2, List.mem_cons, List.not_mem_nil, or_false] at hx
    rcases hx with h | h <;> subst h <;> decide
theorem knows_write (w1 w2 : World) (F : Nat → Prop) (d : Value) (h : CA w1 F d (st0 (List.replicate 4 zero32))) (hb : Below w1.heap.size w1 w2) : Calls Try.prog 12 #[d, .int .i64 3, agg sK, .agg #[.int .i64 1, .int .i64 1]] w2 fun e w' => e = .returned (.int .i64 0) ∧ CA w' (grow F w2 w') d stK1 ∧ Touch F w2 w' := by
  have h1 := cwrite w2 F d (st0 (List.replicate 4 zero32)) 3 sK 1 1 (diskIs.kept _ _ _ _ _ h (Keeps.of_below hb)) fine0 (WalkArith.wf_i64 (by omega)) sec_sK (WalkArith.wf_i64 (by omega)) (WalkArith.wf_i64 (by omega))
  rw [kn1] at h1
  exact h1
theorem knows_read (w : World) (F : Nat → Prop) (d : Value) (h : CA w F d stK1) : Calls Try.prog 26 #[d, .int .i64 3] w fun e w' => e = .returned (.tuple #[agg sK, .int .i64 0]) ∧ Below w.heap.size w w' ∧ CA w' F d stK1 := by
  have h1 := cread w F d stK1 3 h fine1 (WalkArith.wf_i64 (by omega))
  rw [kn3] at h1
  exact h1.mono fun e w' ⟨a, b⟩ => ⟨a, b, diskIs.kept _ _ _ _ _ h (Keeps.of_below b)⟩
theorem knows_safe1 (w : World) (F : Nat → Prop) (d : Value) (h : CA w F d stK1) : Calls Try.prog 17 #[d] w fun e w' => ∃ p c, e = .returned (.slice p 4 c) ∧ Own w' w.heap.size 35 32 (.slice p 4 c) 4 (cellsOf stK1.safe) ∧ Below w.heap.size w w' ∧ CA w' F d stK1 :=
  (csafeO w F d stK1 h fine1).mono fun e w' ⟨p, c, a, b, k⟩ => ⟨p, c, a, b, k, diskIs.kept _ _ _ _ _ h (Keeps.of_below k)⟩
theorem knows_safe2 (w : World) (F : Nat → Prop) (d : Value) (h : CA w F d stK2) : Calls Try.prog 17 #[d] w fun e w' => ∃ p c, e = .returned (.slice p 4 c) ∧ Rd w' 32 (.slice p 4 c) 4 (cellsOf stK2.safe) ∧ Below w.heap.size w w' ∧ CA w' F d stK2 :=
  (csafe w F d stK2 h fine2).mono fun e w' ⟨p, c, a, b, k⟩ => ⟨p, c, a, b, k, diskIs.kept _ _ _ _ _ h (Keeps.of_below k)⟩
theorem knows_sync (w : World) (F : Nat → Prop) (d : Value) (h : CA w F d stK1) (hF : ¬ F w.heap.size) : Calls Try.prog 13 #[d, .slice (some ⟨w.heap.size, 0, none⟩) 1 1] (w.alloc (.cells (tagC (1, 1)).toArray 37)) fun e w' => e = .returned (.int .i64 0) ∧ CA w' (grow F (w.alloc (.cells (tagC (1, 1)).toArray 37)) w') d stK2 ∧ Touch F (w.alloc (.cells (tagC (1, 1)).toArray 37)) w' := by
  have h1 := csync (w.alloc (.cells (tagC (1, 1)).toArray 37)) F d stK1 (some ⟨w.heap.size, 0, none⟩) 1 1 [(1, 1)] (diskIs.kept _ _ _ _ _ h (Keeps.of_below (below_alloc (Below.refl _ _) _))) fine1 (by have := rd_laid w 37 2 (tagC (1, 1)) rfl; exact this) (fun a n c e _ => by cases e; exact hF) (by decide) (fun t ht => by rw [List.mem_singleton.1 ht]; exact ⟨WalkArith.wf_i64 (by omega), WalkArith.wf_i64 (by omega)⟩)
  rw [kn2] at h1
  exact h1
theorem knows_wait (w : World) (F : Nat → Prop) (d : Value) (h : CA w F d stK2) : Calls Try.prog 19 #[d] w fun e w' => ∃ p c, e = .returned (.slice p 0 c) ∧ Below w.heap.size w w' ∧ CA w' F d stK2 :=
  (cwaiting w F d stK2 h fine2).mono fun e w' ⟨p, c, a, b, k⟩ => ⟨p, c, a, k, diskIs.kept _ _ _ _ _ h (Keeps.of_below k)⟩
theorem knows_log (w : World) (F : Nat → Prop) (d : Value) (h : CA w F d stK2) : Calls Try.prog 21 #[d] w fun e w' => ∃ p c, e = .returned (.slice p 2 c) ∧ Below w.heap.size w w' :=
  (clog w F d stK2 h fine2).mono fun e w' ⟨p, c, es, a, b, k⟩ => ⟨p, c, a, k⟩
theorem eqs_same (w : World) : (Op.equalIn 10000 35 (.agg (u8s sK).toArray) (.agg (u8s sK).toArray)).run Try.prog w = .ok true w := by
  rw [eqIn_sec w sec_sK sec_sK, decide_eq_true rfl]
theorem eqs_other (w : World) : (Op.equalIn 10000 35 (.agg (u8s zero32).toArray) (.agg (u8s sK).toArray)).run Try.prog w = .ok false w := by
  rw [eqIn_sec w sec_zero sec_sK, decide_eq_false (by decide)]
set_option maxRecDepth 100000 in
set_option maxHeartbeats 1600000 in
theorem cknows (w : World) : Calls Try.prog 6 #[] w fun e w' => e = .returned (.bool true) ∧ Below w.heap.size w w' := by
  have HN := Lib.hid (cnew_yes w 4 (by decide) (by decide))
  have hn1 := num_any 0
  go_enter Try.func6, Try.ntmps6
  go_wp2_with (first | (go_at_call 23; refine HN.out.mono ?_; rintro e w1 ⟨ad, rfl, hc1, hb1⟩; have HC1 := Lib.hid hc1; have HB1 := Lib.hid hb1; clear hc1 hb1) | (refine wpList_buildTo rfl 35 #[(0, .const (.int .u8 1)), (1, .const (.int .u8 2))] rfl (some 14) rfl (u8s sK).toArray (by kernel_rfl) ?_) | (refine store_at rfl (.tmp 3) (.tmp 14) rfl rfl w1.heap.size sK zero32 rfl rfl (by decide) (by decide) (at_lit w1) ?_; intro w2 hA2 hB2 hK2; have A2 := Lib.hid hA2; have hb2 : Below w1.heap.size w1 w2 := (below_alloc (Below.refl _ w1) _).trans hB2; have HB2 := Lib.hid hb2; have HWR := Lib.hid (knows_write w1 w2 _ _ HC1.out hb2); clear hA2 hB2 hK2 hb2) | (refine load_at rfl (.tmp 3) rfl w1.heap.size rfl sK (by decide) A2.out ?_))
  refine HWR.out.mono ?_
  rintro e w3 ⟨rfl, hc3, ht3⟩
  have s2 := HB2.out.size
  have sa2 : w1.heap.size < w2.heap.size := (Array.getElem?_eq_some_iff.1 A2.out).1
  have s3 := ht3.size
  have A3 : Hid (At w3 w1.heap.size sK) := Lib.hid (row_touch A2.out ht3 (by omega))
  have hF3 : Hid (∀ b, grow (fun b => w.heap.size ≤ b ∧ b < w1.heap.size) w2 w3 b → b < w3.heap.size) := Lib.hid fun b hb => by
    rcases hb with h | h
    · omega
    · exact h.2
  have hF1 : Hid (¬ grow (fun b => w.heap.size ≤ b ∧ b < w1.heap.size) w2 w3 w1.heap.size) := Lib.hid fun hb => by
    rcases hb with h | h
    · omega
    · omega
  have HB3 : Hid (Below w.heap.size w w3) := Lib.hid ((HB1.out.trans (HB2.out.mono HB1.out.size)).trans (ht3.below (by have := HB1.out.size; omega) fun i hi => hi.1))
  have hFB : Hid (∀ b, grow (fun b => w.heap.size ≤ b ∧ b < w1.heap.size) w2 w3 b → w.heap.size ≤ b) := Lib.hid fun b hb => by
    have := HB1.out.size
    rcases hb with h | h
    · omega
    · omega
  have HRD := Lib.hid (knows_read w3 _ _ hc3)
  clear hc3 ht3
  generalize grow (fun b => w.heap.size ≤ b ∧ b < w1.heap.size) w2 w3 = F3 at *
  have HFB : Hid (∀ b, F3 b → w.heap.size ≤ b) := hFB
  go_wp2_with (first | (go_at_call 26; refine HRD.out.mono ?_; rintro e w4 ⟨rfl, hb4, hc4⟩; have HB4 := Lib.hid hb4; have HC4 := Lib.hid hc4; clear hb4 hc4) | (refine store_at rfl (.tmp 5) (.tmp 22) rfl rfl w4.heap.size sK zero32 rfl rfl (by decide) (by decide) (at_lit w4) ?_; intro w5 hA5 hB5 hK5; have A5 := Lib.hid hA5; have hb5 : Below w4.heap.size w4 w5 := (below_alloc (Below.refl _ w4) _).trans hB5; have HB5 := Lib.hid hb5; have HSF := Lib.hid (knows_safe1 w5 _ _ (diskIs.kept _ _ _ _ _ HC4.out (Keeps.of_below hb5))); clear hA5 hB5 hK5 hb5))
  refine HSF.out.mono ?_
  rintro e w6 ⟨p6, c6, rfl, hr6, hb6, hc6⟩
  have s4 := HB4.out.size
  have s5 := HB5.out.size
  have s6 := hb6.size
  have hB36 : Below w3.heap.size w3 w6 := below_trans (below_trans HB4.out HB5.out) hb6
  have A36 : Hid (At w6 w1.heap.size sK) := Lib.hid (row_later A3.out hB36 (by omega))
  have A56 : Hid (At w6 w4.heap.size sK) := Lib.hid (row_later A5.out hb6 (Array.getElem?_eq_some_iff.1 A5.out).1)
  have hin6 : Hid (InS (fun b => w5.heap.size ≤ b) (.slice p6 4 c6)) := Lib.hid ((own_inS hr6).mono fun b hb => hb.1)
  have HR6 := Lib.hid hr6.rd
  have HSY := Lib.hid (knows_sync w6 _ _ hc6 (fun h => by have := hF3.out _ h; omega))
  have HB6 : Hid (Below w.heap.size w (w6.alloc (.cells (tagC (1, 1)).toArray 37))) := Lib.hid (below_alloc (HB3.out.trans (hB36.mono HB3.out.size)) _)
  clear hr6 hb6 hc6 hB36
  go_wp2_with (first | (refine build_one elem_tags (by decide) rfl (.tmp 27) rfl (tagC (1, 1)) rfl rfl ?_))
  refine HSY.out.mono ?_
  rintro e w7 ⟨rfl, hc7, ht7⟩
  have hal := below_alloc (Below.refl w6.heap.size w6) (.cells (tagC (1, 1)).toArray 37)
  have s7 := ht7.size
  rw [size_alloc] at s7
  have A37 : Hid (At w7 w1.heap.size sK) := Lib.hid (row_touch (row_later A36.out hal (by omega)) ht7 hF1.out)
  have h4l : w4.heap.size < w5.heap.size := (Array.getElem?_eq_some_iff.1 A5.out).1
  have A57 : Hid (At w7 w4.heap.size sK) := Lib.hid (row_touch (row_later A56.out hal (by omega)) ht7 (fun h => by have := hF3.out _ h; omega))
  have HR7 : Hid (Rd w7 32 (.slice p6 4 c6) 4 (cellsOf stK1.safe)) := Lib.hid (Rd.kept (S := fun b => w5.heap.size ≤ b) HR6.out hin6.out ((Keeps.of_below hal).trans (ht7.keeps fun k hk hk2 => by have := hF3.out _ hk2; omega)))
  have HB7 : Hid (Below w.heap.size w w7) := Lib.hid (HB6.out.trans (ht7.below HB6.out.size HFB.out))
  have HS2 := Lib.hid (knows_safe2 w7 _ _ hc7)
  clear hc7 ht7 hal
  generalize grow F3 (w6.alloc (.cells (tagC (1, 1)).toArray 37)) w7 = F7 at *
  go_wp2_with (go_at_call 17; refine HS2.out.mono ?_; rintro e w8 ⟨p8, c8, rfl, hr8, hb8, hc8⟩; have HR8 := Lib.hid hr8; have HB8 := Lib.hid hb8; have HC8 := Lib.hid hc8; clear hr8 hb8 hc8)
  have hb8' := HB8.out
  have s8 := hb8'.size
  have A38 : Hid (At w8 w1.heap.size sK) := Lib.hid (row_later A37.out hb8' (by omega))
  have A58 : Hid (At w8 w4.heap.size sK) := Lib.hid (row_later A57.out hb8' (by omega))
  obtain ⟨b6, o6, rfl, hq6, hm6, hh6, _, R6⟩ := Rd.chunk u8s (j := 3) (by have := HR7.out.later hb8'; rw [cellsOf_map] at this; exact this) (fun x hx => by rw [u8s_len, (secs4 x hx).1]) (by decide) (by decide)
  obtain ⟨b8, o8, rfl, hq8, hm8, hh8, _, R8⟩ := Rd.chunk u8s (j := 3) (by have := HR8.out; rw [cellsOf_map] at this; exact this) (fun x hx => by rw [u8s_len, (secs4b x hx).1]) (by decide) (by decide)
  have HL6 : Hid (w8.rangeAt b6 (o6 + 3 * 32) (u8s zero32)) := Lib.hid (R6 3 (by decide))
  have HL8 : Hid (w8.rangeAt b8 (o8 + 3 * 32) (u8s sK)) := Lib.hid (R8 3 (by decide))
  have hl1 : w1.heap.size < w8.heap.size := by omega
  have hl4 : w4.heap.size < w8.heap.size := by omega
  have HBW : Hid (Below w.heap.size w w8) := Lib.hid (HB7.out.trans (hb8'.mono (by have := HB7.out.size; omega)))
  have hg := guard_sec
  clear R6 R8 hb8' HB8 A37 A57 HR7 HR8 A36 A56 hin6 HR6 HB6 HS2 HSY HSF HB5 HB4 HRD HWR HB2
  have h0 := Below.refl w8.drew.heap.size w8.drew
  refine wp_region_held_drew (S := ext w8.drew) (by kernel_rfl) (Below.refl _ _) (fun hH0 => ?_)
  refine wpAnyH_take (i := 0) (oi := { dst := some 32, op := Op.move (Operand.tmp 2), type := 27, pos := "law.go:41", after := #[], guard := none }) (v := ?_) rfl (by kernel_rfl) (by kernel_rfl) (by kernel_rfl) (fun _ _ _ h => h) (Or.inl ⟨by rfl, ?_⟩) (by assumption) ?_
  rotate_left
  · (intro w' hSw; go_simp; try with_reducible rfl)
  try simp only [Act.put, List.setIfInBounds_toArray, List.set_cons_zero, List.set_cons_succ]
  refine wpAnyH_take (i := 2) (oi := { dst := some 34, op := Op.move (Operand.tmp 4), type := 27, pos := "law.go:41", after := #[], guard := none }) (v := ?_) rfl (by kernel_rfl) (by kernel_rfl) (by kernel_rfl) (fun _ _ _ h => h) (Or.inl ⟨by rfl, ?_⟩) (by assumption) ?_
  rotate_left
  · (intro w' hSw; go_simp; try with_reducible rfl)
  try simp only [Act.put, List.setIfInBounds_toArray, List.set_cons_zero, List.set_cons_succ]
  refine wpAnyH_take (i := 5) (oi := { dst := some 37, op := Op.move (Operand.tmp 6), type := 27, pos := "law.go:41", after := #[], guard := none }) (v := ?_) rfl (by kernel_rfl) (by kernel_rfl) (by kernel_rfl) (fun _ _ _ h => h) (Or.inl ⟨by rfl, ?_⟩) (by assumption) ?_
  rotate_left
  · (intro w' hSw; go_simp; try with_reducible rfl)
  try simp only [Act.put, List.setIfInBounds_toArray, List.set_cons_zero, List.set_cons_succ]
  refine wpAnyH_take (i := 8) (oi := { dst := some 40, op := Op.move (Operand.tmp 8), type := 27, pos := "law.go:41", after := #[], guard := none }) (v := ?_) rfl (by kernel_rfl) (by kernel_rfl) (by kernel_rfl) (fun _ _ _ h => h) (Or.inl ⟨by rfl, ?_⟩) (by assumption) ?_
  rotate_left
  · (intro w' hSw; go_simp; try with_reducible rfl)
  try simp only [Act.put, List.setIfInBounds_toArray, List.set_cons_zero, List.set_cons_succ]
  -- 1
  refine wpAnyH_ready (rs := [1]) (by kernel_rfl) (by simp) ?_
  refine AllReadyH.cons (o := { dst := some 33, op := Op.call { callee := Callee.value (Operand.func 9), args := #[Operand.tmp 32], argTypes := #[27] }, type := 3, pos := "law.go:41", after := #[{ on := 0, ground := Ground.data }], guard := none }) rfl (fun K hK => ?_) AllReadyH.nil
  go_simp
  refine (num_any 0 _).mono ?_
  rintro e v ⟨rfl, rfl⟩
  have h1 := h0
  dsimp only
  refine hK.out _ _ ?_ (fun hHeld => ?_)
  · exact h0
  clear hK K
  try simp only [Act.put, List.setIfInBounds_toArray, List.set_cons_zero, List.set_cons_succ]
  -- 3
  refine wpAnyH_ready (rs := [3]) (by kernel_rfl) (by simp) ?_
  refine AllReadyH.cons (o := { dst := some 35, op := Op.call { callee := Callee.value (Operand.func 9), args := #[Operand.tmp 34], argTypes := #[27] }, type := 3, pos := "law.go:41", after := #[{ on := 2, ground := Ground.data }, { on := 1, ground := Ground.chain }], guard := none }) rfl (fun K hK => ?_) AllReadyH.nil
  go_simp
  refine (num_any 0 _).mono ?_
  rintro e v ⟨rfl, rfl⟩
  have h2 := h1
  dsimp only
  refine hK.out _ _ ?_ (fun hHeld => ?_)
  · exact h1
  clear hK K
  try simp only [Act.put, List.setIfInBounds_toArray, List.set_cons_zero, List.set_cons_succ]
  refine wpAnyH_take (i := 4) (oi := { dst := some 36, op := Op.binOp BinOp.add 3 (Operand.tmp 33) (Operand.tmp 35) 3, type := 3, pos := "law.go:41", after := #[{ on := 1, ground := Ground.data }, { on := 3, ground := Ground.data }], guard := none }) (v := ?_) rfl (by kernel_rfl) (by kernel_rfl) (by kernel_rfl) (fun _ _ _ h => h) (Or.inl ⟨by rfl, ?_⟩) (by assumption) ?_
  rotate_left
  · (intro w' hSw; go_simp; try with_reducible rfl)
  try simp only [Act.put, List.setIfInBounds_toArray, List.set_cons_zero, List.set_cons_succ]
  -- 6
  refine wpAnyH_ready (rs := [6]) (by kernel_rfl) (by simp) ?_
  refine AllReadyH.cons (o := { dst := some 38, op := Op.call { callee := Callee.value (Operand.func 9), args := #[Operand.tmp 37], argTypes := #[27] }, type := 3, pos := "law.go:41", after := #[{ on := 5, ground := Ground.data }, { on := 3, ground := Ground.chain }], guard := none }) rfl (fun K hK => ?_) AllReadyH.nil
  go_simp
  refine (num_any 0 _).mono ?_
  rintro e v ⟨rfl, rfl⟩
  have h3 := h2
  dsimp only
  refine hK.out _ _ ?_ (fun hHeld => ?_)
  · exact h2
  clear hK K
  try simp only [Act.put, List.setIfInBounds_toArray, List.set_cons_zero, List.set_cons_succ]
  refine wpAnyH_take (i := 7) (oi := { dst := some 39, op := Op.binOp BinOp.add 3 (Operand.tmp 36) (Operand.tmp 38) 3, type := 3, pos := "law.go:41", after := #[{ on := 4, ground := Ground.data }, { on := 6, ground := Ground.data }], guard := none }) (v := ?_) rfl (by kernel_rfl) (by kernel_rfl) (by kernel_rfl) (fun _ _ _ h => h) (Or.inl ⟨by rfl, ?_⟩) (by assumption) ?_
  rotate_left
  · (intro w' hSw; go_simp; try with_reducible rfl)
  try simp only [Act.put, List.setIfInBounds_toArray, List.set_cons_zero, List.set_cons_succ]
  -- 9
  refine wpAnyH_ready (rs := [9]) (by kernel_rfl) (by simp) ?_
  refine AllReadyH.cons (o := { dst := some 41, op := Op.call { callee := Callee.value (Operand.func 9), args := #[Operand.tmp 40], argTypes := #[27] }, type := 3, pos := "law.go:41", after := #[{ on := 8, ground := Ground.data }, { on := 6, ground := Ground.chain }], guard := none }) rfl (fun K hK => ?_) AllReadyH.nil
  go_simp
  refine (num_any 0 _).mono ?_
  rintro e v ⟨rfl, rfl⟩
  have h4 := h3
  dsimp only
  refine hK.out _ _ ?_ (fun hHeld => ?_)
  · exact h3
  clear hK K
  try simp only [Act.put, List.setIfInBounds_toArray, List.set_cons_zero, List.set_cons_succ]
  refine wpAnyH_take (i := 10) (oi := { dst := some 42, op := Op.binOp BinOp.add 3 (Operand.tmp 39) (Operand.tmp 41) 3, type := 3, pos := "law.go:41", after := #[{ on := 7, ground := Ground.data }, { on := 9, ground := Ground.data }], guard := none }) (v := ?_) rfl (by kernel_rfl) (by kernel_rfl) (by kernel_rfl) (fun _ _ _ h => h) (Or.inl ⟨by rfl, ?_⟩) (by assumption) ?_
  rotate_left
  · (intro w' hSw; go_simp; try with_reducible rfl)
  try simp only [Act.put, List.setIfInBounds_toArray, List.set_cons_zero, List.set_cons_succ]
  refine wpAnyH_take (i := 11) (oi := { dst := some 43, op := Op.binOp BinOp.eql 3 (Operand.tmp 42) (Operand.const (Value.int IntKind.i64 0)) 3, type := 4, pos := "law.go:41", after := #[{ on := 10, ground := Ground.data }], guard := none }) (v := ?_) rfl (by kernel_rfl) (by kernel_rfl) (by kernel_rfl) (fun _ _ _ h => h) (Or.inl ⟨by rfl, ?_⟩) (by assumption) ?_
  rotate_left
  · (intro w' hSw; go_simp; try with_reducible rfl)
  try simp only [Act.put, List.setIfInBounds_toArray, List.set_cons_zero, List.set_cons_succ]
  refine wpAnyH_take (i := 12) (oi := { dst := some 44, op := Op.move (Operand.tmp 43), type := 4, pos := "law.go:41", after := #[{ on := 11, ground := Ground.data }, { on := 9, ground := Ground.chain }], guard := none }) (v := ?_) rfl (by kernel_rfl) (by kernel_rfl) (by kernel_rfl) (fun _ _ _ h => h) (Or.inl ⟨by rfl, ?_⟩) (by assumption) ?_
  rotate_left
  · (intro w' hSw; go_simp; try with_reducible rfl)
  try simp only [Act.put, List.setIfInBounds_toArray, List.set_cons_zero, List.set_cons_succ]
  refine' wpAnyH_take (i := 13) (oi := { dst := some 45, op := Op.load 35 (Operand.tmp 5), type := 35, pos := "law.go:41", after := #[{ on := 12, ground := Ground.guard }], guard := some (12, true) }) (v := _) rfl (by kernel_rfl) (by kernel_rfl) (by kernel_rfl) (fun _ _ _ h => h) (ld_sec (by rfl) _ rfl w4.heap.size 0 rfl sK (by decide) (fun w' hw => At.range (row_later A58.out (below_drew hw) hl4))) (by assumption) ?_
  try simp only [Act.put, List.setIfInBounds_toArray, List.set_cons_zero, List.set_cons_succ]
  refine' wpAnyH_take (i := 14) (oi := { dst := some 46, op := Op.load 35 (Operand.tmp 3), type := 35, pos := "law.go:41", after := #[{ on := 12, ground := Ground.guard }], guard := some (12, true) }) (v := _) rfl (by kernel_rfl) (by kernel_rfl) (by kernel_rfl) (fun _ _ _ h => h) (ld_sec (by rfl) _ rfl w1.heap.size 0 rfl sK (by decide) (fun w' hw => At.range (row_later A38.out (below_drew hw) hl1))) (by assumption) ?_
  try simp only [Act.put, List.setIfInBounds_toArray, List.set_cons_zero, List.set_cons_succ]
  refine' wpAnyH_take (i := 15) (oi := { dst := some 47, op := Op.binOp BinOp.eql 35 (Operand.tmp 45) (Operand.tmp 46) 35, type := 4, pos := "law.go:41", after := #[{ on := 13, ground := Ground.data }, { on := 14, ground := Ground.data }, { on := 12, ground := Ground.guard }], guard := some (12, true) }) (v := _) rfl (by kernel_rfl) (by kernel_rfl) (by kernel_rfl) (fun _ _ _ h => h) (eql_yields (by rfl) 35 _ _ _ rfl (u8s sK).toArray (u8s sK).toArray (by rfl) (by rfl) hg true (fun w => eqs_same w)) (by assumption) ?_
  try simp only [Act.put, List.setIfInBounds_toArray, List.set_cons_zero, List.set_cons_succ]
  refine wpAnyH_take (i := 16) (oi := { dst := some 48, op := Op.pick (Operand.tmp 44) (Operand.tmp 47) (Operand.const (Value.bool false)), type := 4, pos := "law.go:41", after := #[{ on := 12, ground := Ground.data }, { on := 15, ground := Ground.data }], guard := none }) (v := ?_) rfl (by kernel_rfl) (by kernel_rfl) (by kernel_rfl) (fun _ _ _ h => h) (Or.inl ⟨by rfl, ?_⟩) (by assumption) ?_
  rotate_left
  · (intro w' hSw; go_simp; try with_reducible rfl)
  try simp only [Act.put, List.setIfInBounds_toArray, List.set_cons_zero, List.set_cons_succ]
  refine wpAnyH_take (i := 17) (oi := { dst := some 49, op := Op.move (Operand.tmp 48), type := 4, pos := "law.go:41", after := #[{ on := 16, ground := Ground.data }, { on := 12, ground := Ground.chain }], guard := none }) (v := ?_) rfl (by kernel_rfl) (by kernel_rfl) (by kernel_rfl) (fun _ _ _ h => h) (Or.inl ⟨by rfl, ?_⟩) (by assumption) ?_
  rotate_left
  · (intro w' hSw; go_simp; try with_reducible rfl)
  try simp only [Act.put, List.setIfInBounds_toArray, List.set_cons_zero, List.set_cons_succ]
  refine wpAnyH_take (i := 18) (oi := { dst := some 50, op := Op.move (Operand.tmp 7), type := 22, pos := "law.go:41", after := #[{ on := 17, ground := Ground.guard }], guard := some (17, true) }) (v := ?_) rfl (by kernel_rfl) (by kernel_rfl) (by kernel_rfl) (fun _ _ _ h => h) (Or.inl ⟨by rfl, ?_⟩) (by assumption) ?_
  rotate_left
  · (intro w' hSw; go_simp; try with_reducible rfl)
  try simp only [Act.put, List.setIfInBounds_toArray, List.set_cons_zero, List.set_cons_succ]
  refine wpAnyH_take (i := 19) (oi := { dst := some 51, op := Op.call { callee := Callee.builtin Builtin.len, args := #[Operand.tmp 50], argTypes := #[22] }, type := 3, pos := "law.go:41", after := #[{ on := 18, ground := Ground.data }, { on := 17, ground := Ground.guard }], guard := some (17, true) }) (v := ?_) rfl (by kernel_rfl) (by kernel_rfl) (by kernel_rfl) (fun _ _ _ h => h) (Or.inl ⟨by rfl, ?_⟩) (by assumption) ?_
  rotate_left
  · (intro w' hSw; go_simp; try with_reducible rfl)
  try simp only [Act.put, List.setIfInBounds_toArray, List.set_cons_zero, List.set_cons_succ]
  refine wpAnyH_take (i := 20) (oi := { dst := some 52, op := Op.binOp BinOp.eql 3 (Operand.tmp 51) (Operand.const (Value.int IntKind.i64 4)) 3, type := 4, pos := "law.go:41", after := #[{ on := 19, ground := Ground.data }, { on := 17, ground := Ground.guard }], guard := some (17, true) }) (v := ?_) rfl (by kernel_rfl) (by kernel_rfl) (by kernel_rfl) (fun _ _ _ h => h) (Or.inl ⟨by rfl, ?_⟩) (by assumption) ?_
  rotate_left
  · (intro w' hSw; go_simp; try with_reducible rfl)
  try simp only [Act.put, List.setIfInBounds_toArray, List.set_cons_zero, List.set_cons_succ]
  refine wpAnyH_take (i := 21) (oi := { dst := some 53, op := Op.pick (Operand.tmp 49) (Operand.tmp 52) (Operand.const (Value.bool false)), type := 4, pos := "law.go:41", after := #[{ on := 17, ground := Ground.data }, { on := 20, ground := Ground.data }], guard := none }) (v := ?_) rfl (by kernel_rfl) (by kernel_rfl) (by kernel_rfl) (fun _ _ _ h => h) (Or.inl ⟨by rfl, ?_⟩) (by assumption) ?_
  rotate_left
  · (intro w' hSw; go_simp; try with_reducible rfl)
  try simp only [Act.put, List.setIfInBounds_toArray, List.set_cons_zero, List.set_cons_succ]
  refine wpAnyH_take (i := 22) (oi := { dst := some 54, op := Op.move (Operand.tmp 53), type := 4, pos := "law.go:41", after := #[{ on := 21, ground := Ground.data }, { on := 17, ground := Ground.chain }], guard := none }) (v := ?_) rfl (by kernel_rfl) (by kernel_rfl) (by kernel_rfl) (fun _ _ _ h => h) (Or.inl ⟨by rfl, ?_⟩) (by assumption) ?_
  rotate_left
  · (intro w' hSw; go_simp; try with_reducible rfl)
  try simp only [Act.put, List.setIfInBounds_toArray, List.set_cons_zero, List.set_cons_succ]
  refine wpAnyH_take (i := 23) (oi := { dst := some 55, op := Op.move (Operand.tmp 7), type := 22, pos := "law.go:41", after := #[{ on := 22, ground := Ground.guard }], guard := some (22, true) }) (v := ?_) rfl (by kernel_rfl) (by kernel_rfl) (by kernel_rfl) (fun _ _ _ h => h) (Or.inl ⟨by rfl, ?_⟩) (by assumption) ?_
  rotate_left
  · (intro w' hSw; go_simp; try with_reducible rfl)
  try simp only [Act.put, List.setIfInBounds_toArray, List.set_cons_zero, List.set_cons_succ]
  refine wpAnyH_take (i := 24) (oi := { dst := some 56, op := Op.indexAddr 22 (Operand.tmp 55) (Operand.const (Value.int IntKind.i64 3)), type := 0, pos := "law.go:41", after := #[{ on := 23, ground := Ground.data }, { on := 22, ground := Ground.guard }], guard := some (22, true) }) (v := ?_) rfl (by kernel_rfl) (by kernel_rfl) (by kernel_rfl) (fun _ _ _ h => h) (Or.inl ⟨by rfl, ?_⟩) (by assumption) ?_
  rotate_left
  · (intro w' hSw; go_simp; try with_reducible rfl)
  try simp only [Act.put, List.setIfInBounds_toArray, List.set_cons_zero, List.set_cons_succ]
  refine' wpAnyH_take (i := 25) (oi := { dst := some 57, op := Op.load 35 (Operand.tmp 56), type := 35, pos := "law.go:41", after := #[{ on := 24, ground := Ground.data }, { on := 22, ground := Ground.guard }], guard := some (22, true) }) (v := _) rfl (by kernel_rfl) (by kernel_rfl) (by kernel_rfl) (fun _ _ _ h => h) (ld_sec (by rfl) _ rfl b6 (o6 + 3 * 32) rfl zero32 (by decide) (fun w' hw => Rd.rangeLater HL6.out hh6 (below_drew hw))) (by assumption) ?_
  try simp only [Act.put, List.setIfInBounds_toArray, List.set_cons_zero, List.set_cons_succ]
  refine' wpAnyH_take (i := 26) (oi := { dst := some 58, op := Op.load 35 (Operand.tmp 3), type := 35, pos := "law.go:41", after := #[{ on := 22, ground := Ground.guard }], guard := some (22, true) }) (v := _) rfl (by kernel_rfl) (by kernel_rfl) (by kernel_rfl) (fun _ _ _ h => h) (ld_sec (by rfl) _ rfl w1.heap.size 0 rfl sK (by decide) (fun w' hw => At.range (row_later A38.out (below_drew hw) hl1))) (by assumption) ?_
  try simp only [Act.put, List.setIfInBounds_toArray, List.set_cons_zero, List.set_cons_succ]
  refine' wpAnyH_take (i := 27) (oi := { dst := some 59, op := Op.binOp BinOp.neq 35 (Operand.tmp 57) (Operand.tmp 58) 35, type := 4, pos := "law.go:41", after := #[{ on := 25, ground := Ground.data }, { on := 26, ground := Ground.data }, { on := 22, ground := Ground.guard }], guard := some (22, true) }) (v := _) rfl (by kernel_rfl) (by kernel_rfl) (by kernel_rfl) (fun _ _ _ h => h) (neq_yields (by rfl) 35 _ _ _ rfl (u8s zero32).toArray (u8s sK).toArray (by rfl) (by rfl) hg false (fun w => eqs_other w)) (by assumption) ?_
  try simp only [Act.put, List.setIfInBounds_toArray, List.set_cons_zero, List.set_cons_succ]
  refine wpAnyH_take (i := 28) (oi := { dst := some 60, op := Op.pick (Operand.tmp 54) (Operand.tmp 59) (Operand.const (Value.bool false)), type := 4, pos := "law.go:41", after := #[{ on := 22, ground := Ground.data }, { on := 27, ground := Ground.data }], guard := none }) (v := ?_) rfl (by kernel_rfl) (by kernel_rfl) (by kernel_rfl) (fun _ _ _ h => h) (Or.inl ⟨by rfl, ?_⟩) (by assumption) ?_
  rotate_left
  · (intro w' hSw; go_simp; try with_reducible rfl)
  try simp only [Act.put, List.setIfInBounds_toArray, List.set_cons_zero, List.set_cons_succ]
  refine wpAnyH_take (i := 29) (oi := { dst := some 61, op := Op.move (Operand.tmp 60), type := 4, pos := "law.go:41", after := #[{ on := 28, ground := Ground.data }, { on := 22, ground := Ground.chain }], guard := none }) (v := ?_) rfl (by kernel_rfl) (by kernel_rfl) (by kernel_rfl) (fun _ _ _ h => h) (Or.inl ⟨by rfl, ?_⟩) (by assumption) ?_
  rotate_left
  · (intro w' hSw; go_simp; try with_reducible rfl)
  try simp only [Act.put, List.setIfInBounds_toArray, List.set_cons_zero, List.set_cons_succ]
  refine wpAnyH_take (i := 30) (oi := { dst := some 62, op := Op.move (Operand.tmp 9), type := 22, pos := "law.go:41", after := #[{ on := 29, ground := Ground.guard }], guard := some (29, true) }) (v := ?_) rfl (by kernel_rfl) (by kernel_rfl) (by kernel_rfl) (fun _ _ _ h => h) (Or.inl ⟨by rfl, ?_⟩) (by assumption) ?_
  rotate_left
  · (intro w' hSw; go_simp; try with_reducible rfl)
  try simp only [Act.put, List.setIfInBounds_toArray, List.set_cons_zero, List.set_cons_succ]
  refine wpAnyH_take (i := 31) (oi := { dst := some 63, op := Op.call { callee := Callee.builtin Builtin.len, args := #[Operand.tmp 62], argTypes := #[22] }, type := 3, pos := "law.go:41", after := #[{ on := 30, ground := Ground.data }, { on := 29, ground := Ground.guard }], guard := some (29, true) }) (v := ?_) rfl (by kernel_rfl) (by kernel_rfl) (by kernel_rfl) (fun _ _ _ h => h) (Or.inl ⟨by rfl, ?_⟩) (by assumption) ?_
  rotate_left
  · (intro w' hSw; go_simp; try with_reducible rfl)
  try simp only [Act.put, List.setIfInBounds_toArray, List.set_cons_zero, List.set_cons_succ]
  refine wpAnyH_take (i := 32) (oi := { dst := some 64, op := Op.binOp BinOp.eql 3 (Operand.tmp 63) (Operand.const (Value.int IntKind.i64 4)) 3, type := 4, pos := "law.go:41", after := #[{ on := 31, ground := Ground.data }, { on := 29, ground := Ground.guard }], guard := some (29, true) }) (v := ?_) rfl (by kernel_rfl) (by kernel_rfl) (by kernel_rfl) (fun _ _ _ h => h) (Or.inl ⟨by rfl, ?_⟩) (by assumption) ?_
  rotate_left
  · (intro w' hSw; go_simp; try with_reducible rfl)
  try simp only [Act.put, List.setIfInBounds_toArray, List.set_cons_zero, List.set_cons_succ]
  refine wpAnyH_take (i := 33) (oi := { dst := some 65, op := Op.pick (Operand.tmp 61) (Operand.tmp 64) (Operand.const (Value.bool false)), type := 4, pos := "law.go:41", after := #[{ on := 29, ground := Ground.data }, { on := 32, ground := Ground.data }], guard := none }) (v := ?_) rfl (by kernel_rfl) (by kernel_rfl) (by kernel_rfl) (fun _ _ _ h => h) (Or.inl ⟨by rfl, ?_⟩) (by assumption) ?_
  rotate_left
  · (intro w' hSw; go_simp; try with_reducible rfl)
  try simp only [Act.put, List.setIfInBounds_toArray, List.set_cons_zero, List.set_cons_succ]
  refine wpAnyH_take (i := 34) (oi := { dst := some 66, op := Op.move (Operand.tmp 65), type := 4, pos := "law.go:41", after := #[{ on := 33, ground := Ground.data }, { on := 29, ground := Ground.chain }], guard := none }) (v := ?_) rfl (by kernel_rfl) (by kernel_rfl) (by kernel_rfl) (fun _ _ _ h => h) (Or.inl ⟨by rfl, ?_⟩) (by assumption) ?_
  rotate_left
  · (intro w' hSw; go_simp; try with_reducible rfl)
  try simp only [Act.put, List.setIfInBounds_toArray, List.set_cons_zero, List.set_cons_succ]
  refine wpAnyH_take (i := 35) (oi := { dst := some 67, op := Op.move (Operand.tmp 9), type := 22, pos := "law.go:41", after := #[{ on := 34, ground := Ground.guard }], guard := some (34, true) }) (v := ?_) rfl (by kernel_rfl) (by kernel_rfl) (by kernel_rfl) (fun _ _ _ h => h) (Or.inl ⟨by rfl, ?_⟩) (by assumption) ?_
  rotate_left
  · (intro w' hSw; go_simp; try with_reducible rfl)
  try simp only [Act.put, List.setIfInBounds_toArray, List.set_cons_zero, List.set_cons_succ]
  refine wpAnyH_take (i := 36) (oi := { dst := some 68, op := Op.indexAddr 22 (Operand.tmp 67) (Operand.const (Value.int IntKind.i64 3)), type := 0, pos := "law.go:41", after := #[{ on := 35, ground := Ground.data }, { on := 34, ground := Ground.guard }], guard := some (34, true) }) (v := ?_) rfl (by kernel_rfl) (by kernel_rfl) (by kernel_rfl) (fun _ _ _ h => h) (Or.inl ⟨by rfl, ?_⟩) (by assumption) ?_
  rotate_left
  · (intro w' hSw; go_simp; try with_reducible rfl)
  try simp only [Act.put, List.setIfInBounds_toArray, List.set_cons_zero, List.set_cons_succ]
  refine' wpAnyH_take (i := 37) (oi := { dst := some 69, op := Op.load 35 (Operand.tmp 68), type := 35, pos := "law.go:41", after := #[{ on := 36, ground := Ground.data }, { on := 34, ground := Ground.guard }], guard := some (34, true) }) (v := _) rfl (by kernel_rfl) (by kernel_rfl) (by kernel_rfl) (fun _ _ _ h => h) (ld_sec (by rfl) _ rfl b8 (o8 + 3 * 32) rfl sK (by decide) (fun w' hw => Rd.rangeLater HL8.out hh8 (below_drew hw))) (by assumption) ?_
  try simp only [Act.put, List.setIfInBounds_toArray, List.set_cons_zero, List.set_cons_succ]
  refine' wpAnyH_take (i := 38) (oi := { dst := some 70, op := Op.load 35 (Operand.tmp 3), type := 35, pos := "law.go:41", after := #[{ on := 34, ground := Ground.guard }], guard := some (34, true) }) (v := _) rfl (by kernel_rfl) (by kernel_rfl) (by kernel_rfl) (fun _ _ _ h => h) (ld_sec (by rfl) _ rfl w1.heap.size 0 rfl sK (by decide) (fun w' hw => At.range (row_later A38.out (below_drew hw) hl1))) (by assumption) ?_
  try simp only [Act.put, List.setIfInBounds_toArray, List.set_cons_zero, List.set_cons_succ]
  refine' wpAnyH_take (i := 39) (oi := { dst := some 71, op := Op.binOp BinOp.eql 35 (Operand.tmp 69) (Operand.tmp 70) 35, type := 4, pos := "law.go:41", after := #[{ on := 37, ground := Ground.data }, { on := 38, ground := Ground.data }, { on := 34, ground := Ground.guard }], guard := some (34, true) }) (v := _) rfl (by kernel_rfl) (by kernel_rfl) (by kernel_rfl) (fun _ _ _ h => h) (eql_yields (by rfl) 35 _ _ _ rfl (u8s sK).toArray (u8s sK).toArray (by rfl) (by rfl) hg true (fun w => eqs_same w)) (by assumption) ?_
  try simp only [Act.put, List.setIfInBounds_toArray, List.set_cons_zero, List.set_cons_succ]
  refine wpAnyH_take (i := 40) (oi := { dst := some 72, op := Op.pick (Operand.tmp 66) (Operand.tmp 71) (Operand.const (Value.bool false)), type := 4, pos := "law.go:41", after := #[{ on := 34, ground := Ground.data }, { on := 39, ground := Ground.data }], guard := none }) (v := ?_) rfl (by kernel_rfl) (by kernel_rfl) (by kernel_rfl) (fun _ _ _ h => h) (Or.inl ⟨by rfl, ?_⟩) (by assumption) ?_
  rotate_left
  · (intro w' hSw; go_simp; try with_reducible rfl)
  try simp only [Act.put, List.setIfInBounds_toArray, List.set_cons_zero, List.set_cons_succ]
  refine wpAnyH_take (i := 41) (oi := { dst := some 73, op := Op.move (Operand.tmp 72), type := 4, pos := "law.go:41", after := #[{ on := 40, ground := Ground.data }, { on := 34, ground := Ground.chain }], guard := none }) (v := ?_) rfl (by kernel_rfl) (by kernel_rfl) (by kernel_rfl) (fun _ _ _ h => h) (Or.inl ⟨by rfl, ?_⟩) (by assumption) ?_
  rotate_left
  · (intro w' hSw; go_simp; try with_reducible rfl)
  try simp only [Act.put, List.setIfInBounds_toArray, List.set_cons_zero, List.set_cons_succ]
  refine wpAnyH_take (i := 42) (oi := { dst := some 74, op := Op.move (Operand.tmp 1), type := 26, pos := "law.go:41", after := #[{ on := 41, ground := Ground.guard }], guard := some (41, true) }) (v := ?_) rfl (by kernel_rfl) (by kernel_rfl) (by kernel_rfl) (fun _ _ _ h => h) (Or.inl ⟨by rfl, ?_⟩) (by assumption) ?_
  rotate_left
  · (intro w' hSw; go_simp; try with_reducible rfl)
  try simp only [Act.put, List.setIfInBounds_toArray, List.set_cons_zero, List.set_cons_succ]
  -- 43
  refine wpAnyH_ready (rs := [43]) (by kernel_rfl) (by simp) ?_
  refine AllReadyH.cons (o := { dst := some 75, op := Op.call { callee := Callee.value (Operand.func 19), args := #[Operand.tmp 74], argTypes := #[26] }, type := 50, pos := "law.go:41", after := #[{ on := 42, ground := Ground.data }, { on := 41, ground := Ground.chain }, { on := 41, ground := Ground.guard }], guard := some (41, true) }) rfl (fun K hK => ?_) AllReadyH.nil
  go_simp
  refine (knows_wait _ F7 _ (diskIs.kept _ _ _ _ _ HC8.out (Keeps.of_below (below_drew h4)))).mono ?_
  rintro e v43 ⟨p43, c43, rfl, hb43, hc43⟩
  have HC43 := Lib.hid hc43
  have h5 := below_trans h4 hb43
  dsimp only
  refine hK.out _ _ ?_ (fun hHeld => ?_)
  · exact h5
  clear hK K hc43 hb43
  try simp only [Act.put, List.setIfInBounds_toArray, List.set_cons_zero, List.set_cons_succ]
  refine wpAnyH_take (i := 44) (oi := { dst := some 76, op := Op.call { callee := Callee.builtin Builtin.len, args := #[Operand.tmp 75], argTypes := #[50] }, type := 3, pos := "law.go:41", after := #[{ on := 43, ground := Ground.data }, { on := 41, ground := Ground.guard }], guard := some (41, true) }) (v := ?_) rfl (by kernel_rfl) (by kernel_rfl) (by kernel_rfl) (fun _ _ _ h => h) (Or.inl ⟨by rfl, ?_⟩) (by assumption) ?_
  rotate_left
  · (intro w' hSw; go_simp; try with_reducible rfl)
  try simp only [Act.put, List.setIfInBounds_toArray, List.set_cons_zero, List.set_cons_succ]
  refine wpAnyH_take (i := 45) (oi := { dst := some 77, op := Op.binOp BinOp.eql 3 (Operand.tmp 76) (Operand.const (Value.int IntKind.i64 0)) 3, type := 4, pos := "law.go:41", after := #[{ on := 44, ground := Ground.data }, { on := 41, ground := Ground.guard }], guard := some (41, true) }) (v := ?_) rfl (by kernel_rfl) (by kernel_rfl) (by kernel_rfl) (fun _ _ _ h => h) (Or.inl ⟨by rfl, ?_⟩) (by assumption) ?_
  rotate_left
  · (intro w' hSw; go_simp; try with_reducible rfl)
  try simp only [Act.put, List.setIfInBounds_toArray, List.set_cons_zero, List.set_cons_succ]
  refine wpAnyH_take (i := 46) (oi := { dst := some 78, op := Op.pick (Operand.tmp 73) (Operand.tmp 77) (Operand.const (Value.bool false)), type := 4, pos := "law.go:41", after := #[{ on := 41, ground := Ground.data }, { on := 45, ground := Ground.data }], guard := none }) (v := ?_) rfl (by kernel_rfl) (by kernel_rfl) (by kernel_rfl) (fun _ _ _ h => h) (Or.inl ⟨by rfl, ?_⟩) (by assumption) ?_
  rotate_left
  · (intro w' hSw; go_simp; try with_reducible rfl)
  try simp only [Act.put, List.setIfInBounds_toArray, List.set_cons_zero, List.set_cons_succ]
  refine wpAnyH_take (i := 47) (oi := { dst := some 79, op := Op.move (Operand.tmp 78), type := 4, pos := "law.go:41", after := #[{ on := 46, ground := Ground.data }, { on := 43, ground := Ground.chain }], guard := none }) (v := ?_) rfl (by kernel_rfl) (by kernel_rfl) (by kernel_rfl) (fun _ _ _ h => h) (Or.inl ⟨by rfl, ?_⟩) (by assumption) ?_
  rotate_left
  · (intro w' hSw; go_simp; try with_reducible rfl)
  try simp only [Act.put, List.setIfInBounds_toArray, List.set_cons_zero, List.set_cons_succ]
  refine wpAnyH_take (i := 48) (oi := { dst := some 80, op := Op.move (Operand.tmp 1), type := 26, pos := "law.go:41", after := #[{ on := 47, ground := Ground.guard }], guard := some (47, true) }) (v := ?_) rfl (by kernel_rfl) (by kernel_rfl) (by kernel_rfl) (fun _ _ _ h => h) (Or.inl ⟨by rfl, ?_⟩) (by assumption) ?_
  rotate_left
  · (intro w' hSw; go_simp; try with_reducible rfl)
  try simp only [Act.put, List.setIfInBounds_toArray, List.set_cons_zero, List.set_cons_succ]
  -- 49
  refine wpAnyH_ready (rs := [49]) (by kernel_rfl) (by simp) ?_
  refine AllReadyH.cons (o := { dst := some 81, op := Op.call { callee := Callee.value (Operand.func 21), args := #[Operand.tmp 80], argTypes := #[26] }, type := 51, pos := "law.go:41", after := #[{ on := 48, ground := Ground.data }, { on := 47, ground := Ground.chain }, { on := 47, ground := Ground.guard }], guard := some (47, true) }) rfl (fun K hK => ?_) AllReadyH.nil
  go_simp
  refine (knows_log _ F7 _ HC43.out).mono ?_
  rintro e v49 ⟨p49, c49, rfl, hb49⟩
  have h6 := below_trans h5 hb49
  dsimp only
  refine hK.out _ _ ?_ (fun hHeld => ?_)
  · exact h6
  clear hK K hb49
  try simp only [Act.put, List.setIfInBounds_toArray, List.set_cons_zero, List.set_cons_succ]
  refine wpAnyH_take (i := 50) (oi := { dst := some 82, op := Op.call { callee := Callee.builtin Builtin.len, args := #[Operand.tmp 81], argTypes := #[51] }, type := 3, pos := "law.go:41", after := #[{ on := 49, ground := Ground.data }, { on := 47, ground := Ground.guard }], guard := some (47, true) }) (v := ?_) rfl (by kernel_rfl) (by kernel_rfl) (by kernel_rfl) (fun _ _ _ h => h) (Or.inl ⟨by rfl, ?_⟩) (by assumption) ?_
  rotate_left
  · (intro w' hSw; go_simp; try with_reducible rfl)
  try simp only [Act.put, List.setIfInBounds_toArray, List.set_cons_zero, List.set_cons_succ]
  refine wpAnyH_take (i := 51) (oi := { dst := some 83, op := Op.binOp BinOp.eql 3 (Operand.tmp 82) (Operand.const (Value.int IntKind.i64 2)) 3, type := 4, pos := "law.go:41", after := #[{ on := 50, ground := Ground.data }, { on := 47, ground := Ground.guard }], guard := some (47, true) }) (v := ?_) rfl (by kernel_rfl) (by kernel_rfl) (by kernel_rfl) (fun _ _ _ h => h) (Or.inl ⟨by rfl, ?_⟩) (by assumption) ?_
  rotate_left
  · (intro w' hSw; go_simp; try with_reducible rfl)
  try simp only [Act.put, List.setIfInBounds_toArray, List.set_cons_zero, List.set_cons_succ]
  refine wpAnyH_take (i := 52) (oi := { dst := some 84, op := Op.pick (Operand.tmp 79) (Operand.tmp 83) (Operand.const (Value.bool false)), type := 4, pos := "law.go:41", after := #[{ on := 47, ground := Ground.data }, { on := 51, ground := Ground.data }], guard := none }) (v := ?_) rfl (by kernel_rfl) (by kernel_rfl) (by kernel_rfl) (fun _ _ _ h => h) (Or.inl ⟨by rfl, ?_⟩) (by assumption) ?_
  rotate_left
  · (intro w' hSw; go_simp; try with_reducible rfl)
  try simp only [Act.put, List.setIfInBounds_toArray, List.set_cons_zero, List.set_cons_succ]
  refine wpAnyH_take (i := 53) (oi := { dst := some 0, op := Op.assign (Operand.tmp 84), type := 4, pos := "law.go:41", after := #[{ on := 52, ground := Ground.data }, { on := 49, ground := Ground.chain }, { on := 0, ground := Ground.phase }, { on := 1, ground := Ground.phase }, { on := 2, ground := Ground.phase }, { on := 3, ground := Ground.phase }, { on := 4, ground := Ground.phase }, { on := 5, ground := Ground.phase }, { on := 6, ground := Ground.phase }, { on := 7, ground := Ground.phase }, { on := 8, ground := Ground.phase }, { on := 9, ground := Ground.phase }, { on := 10, ground := Ground.phase }, { on := 11, ground := Ground.phase }, { on := 12, ground := Ground.phase }, { on := 13, ground := Ground.phase }, { on := 14, ground := Ground.phase }, { on := 15, ground := Ground.phase }, { on := 16, ground := Ground.phase }, { on := 17, ground := Ground.phase }, { on := 18, ground := Ground.phase }, { on := 19, ground := Ground.phase }, { on := 20, ground := Ground.phase }, { on := 21, ground := Ground.phase }, { on := 22, ground := Ground.phase }, { on := 23, ground := Ground.phase }, { on := 24, ground := Ground.phase }, { on := 25, ground := Ground.phase }, { on := 26, ground := Ground.phase }, { on := 27, ground := Ground.phase }, { on := 28, ground := Ground.phase }, { on := 29, ground := Ground.phase }, { on := 30, ground := Ground.phase }, { on := 31, ground := Ground.phase }, { on := 32, ground := Ground.phase }, { on := 33, ground := Ground.phase }, { on := 34, ground := Ground.phase }, { on := 35, ground := Ground.phase }, { on := 36, ground := Ground.phase }, { on := 37, ground := Ground.phase }, { on := 38, ground := Ground.phase }, { on := 39, ground := Ground.phase }, { on := 40, ground := Ground.phase }, { on := 41, ground := Ground.phase }, { on := 42, ground := Ground.phase }, { on := 43, ground := Ground.phase }, { on := 44, ground := Ground.phase }, { on := 45, ground := Ground.phase }, { on := 46, ground := Ground.phase }, { on := 47, ground := Ground.phase }, { on := 48, ground := Ground.phase }, { on := 49, ground := Ground.phase }, { on := 50, ground := Ground.phase }, { on := 51, ground := Ground.phase }, { on := 52, ground := Ground.phase }], guard := none }) (v := ?_) rfl (by kernel_rfl) (by kernel_rfl) (by kernel_rfl) (fun _ _ _ h => h) (Or.inl ⟨by rfl, ?_⟩) (by assumption) ?_
  rotate_left
  · (intro w' hSw; go_simp; try with_reducible rfl)
  try simp only [Act.put, List.setIfInBounds_toArray, List.set_cons_zero, List.set_cons_succ]
  refine wpAnyH_done (by kernel_rfl) ?_ _
  have HBE := Lib.hid (HBW.out.trans ((below_drew h6).mono HBW.out.size))
  clear hHeld hH0
  go_wp2_with fail
  go_ret
  exact ⟨rfl, HBE.out⟩
end Go.Proofs.Yteobhljkjgocdaa.dsk
