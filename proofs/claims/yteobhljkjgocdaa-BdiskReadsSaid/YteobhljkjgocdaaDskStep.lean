/- step, over what the code's disk gives. -/
import Derived.Test.YteobhljkjgocdaaDskBoth
namespace Go.Proofs.Yteobhljkjgocdaa.dsk
open Go.ChangeShapes Go.WideShapes Go.ChangeAt Go.RowKit
open Go.Proofs.Yteobhljkjgocdaa.rows
open Go.Proofs.Yteobhljkjgocdaa.sec
set_option linter.unusedVariables false
set_option linter.unusedSimpArgs false

def StepDone (CA : World → (Nat → Prop) → Value → St → Prop) (B : Nat) (d : Value) (g : Nat) (st : St) (w : World) (e : Ending) (w' : World) : Prop := e = .returned (.bool true) ∧ ∃ F G, Both CA B w' F G d g st ∧ Below B w w'
theorem both_later {CA : World → (Nat → Prop) → Value → St → Prop} (D : DiskIs CA) {B : Nat} {w w' : World} {F G : Nat → Prop} {d : Value} {g : Nat} {st : St} (h : Both CA B w F G d g st) (hb : Below w.heap.size w w') : Both CA B w' F G d g st :=
  ⟨D.kept _ _ _ _ _ h.code (Keeps.of_below hb), refIs_kept h.ref (Keeps.of_below hb), h.apart, fun k hk => ⟨(h.inF k hk).1, Nat.lt_of_lt_of_le (h.inF k hk).2 hb.size⟩, fun k hk => ⟨(h.inG k hk).1, Nat.lt_of_lt_of_le (h.inG k hk).2 hb.size⟩⟩
/-- the act that step has boxed -/
def Boxed (gb : Nat) (a : Act0) (w : World) : Prop := w.heap[gb]? = some (.cells a.c.toArray 41 (0, 0))
theorem Boxed.range {gb : Nat} {a : Act0} {w : World} (h : Boxed gb a w) : w.rangeAt gb 0 a.c := by
  have := World.rangeAt_of_block h 0 a.c.toArray.size
  simpa using this
theorem Boxed.touch {gb : Nat} {a : Act0} {w w' : World} {S : Nat → Prop} (h : Boxed gb a w) (ht : Touch S w w') (hs : ¬ S gb) : Boxed gb a w' := row_touch h ht hs
theorem box_parts {W : World} {gb : Nat} {a : Act0} {w : World} (hok : a.ok W) (h : Boxed gb a w) : w.cell? ⟨gb, 1, none⟩ = some (.int .i64 a.pos) ∧ w.rangeAt gb 2 (u8s a.s) ∧ w.rangeAt gb 34 [.int .i64 a.k, .int .i64 a.id] ∧ w.cell? ⟨gb, 36, none⟩ = some a.vt ∧ w.cell? ⟨gb, 37, none⟩ = some a.vb := by
  obtain ⟨_, h1, h2, h3, h4, h5, h6⟩ := act_parts hok h.range
  rw [Nat.zero_add] at h1 h2 h3 h4 h5 h6
  refine ⟨h1, h2, fun j u hj => ?_, h5, h6⟩
  match j with
  | 0 => cases hj; exact h3
  | 1 => cases hj; exact h4
  | j + 2 => simp at hj
set_option maxHeartbeats 1600000 in
theorem step_write {CA : World → (Nat → Prop) → Value → St → Prop} (D : DiskIs CA) {W : World} {B : Nat} {w : World} {F G : Nat → Prop} {d : Value} {g : Nat} {st : St} (h : Both CA B w F G d g st) (hB : B ≤ w.heap.size) (hf : st.fine) (a : Act0) (hok : a.ok W) (hk : a.kind = 0 ∨ a.kind = 1) :
    Calls Try.prog 15 #[d, .pointer (some ⟨g, 0, none⟩), .agg a.c.toArray] w (StepDone CA B d g (writeR st a.pos a.s a.k a.id).2 w) := by
  have HD := Lib.hid D
  obtain ⟨W1, hW1⟩ : ∃ W1, W1 = w.alloc (.cells a.c.toArray 41) := ⟨_, rfl⟩
  have hb1 : Below w.heap.size w W1 := by rw [hW1]; exact below_alloc (Below.refl _ _) _
  have hbx : Boxed w.heap.size a W1 := by rw [hW1]; exact heap_alloc_new _ _
  have hb2 := both_later D h hb1
  have HB := Lib.hid hb2
  have HF := Lib.hid hf
  have HOK := Lib.hid hok
  have HX := Lib.hid hbx
  have HW1 := Lib.hid hW1
  have HBW := Lib.hid hb1
  have hgF : ∀ k, F k → k < w.heap.size := fun k hk => (h.inF k hk).2
  have hgg : g < w.heap.size := h.ref.lt.1
  have hFgb : ¬ F w.heap.size := fun hk => by have := hgF _ hk; omega
  have HFG := Lib.hid hFgb
  have hp := act_parts hok hbx.range
  have ck : W1.cell? ⟨w.heap.size, 0, none⟩ = some (.int .i64 a.kind) := by have := hp.1; simpa using this
  have ca : a.c[0]? = some (.int .i64 a.kind) := rfl
  have hB1 : B ≤ W1.heap.size := Nat.le_trans hB hb1.size
  clear D h hf hok hbx hW1 hb1 hb2 hgF hFgb hp
  obtain ⟨kd, hkd⟩ : ∃ kd, a.kind = kd := ⟨_, rfl⟩
  rw [hkd] at ck ca hk
  clear hkd
  rcases hk with rfl | rfl
  all_goals
    go_enter Try.func15, Try.ntmps15
    go_wp2_with fail
    rw [← HW1.out]
    go_wp2_with fail
    have HFIN : ∀ w2 w3, CA w2 (grow F W1.drew w2) d (writeR st a.pos a.s a.k a.id).2 → Touch F W1.drew w2 → RefIs w3 (grow G w2 w3) g (writeR st a.pos a.s a.k a.id).2 → Touch (· = g) w2 w3 → StepDone CA B d g (writeR st a.pos a.s a.k a.id).2 w (.returned (.bool true)) w3 := fun w2 w3 hc2 ht2 hr3 ht3 => by
      have hb := both_done HD.out (both_later HD.out HB.out (Below.refl _ _).drew) hB1 hc2 ht2 hr3 ht3
      have h1 : Touch (fun k => F k ∨ k = g) W1 w3 := (ht2.drewL.mono fun k hk => Or.inl hk).trans (ht3.mono fun k hk => Or.inr hk)
      exact ⟨rfl, _, _, hb, (HBW.out.mono hB).trans (h1.below hB1 fun k hk => by
        rcases hk with hk | hk
        · exact (HB.out.inF k hk).1
        · subst hk; exact (HB.out.inG _ HB.out.ref.lt.2).1)⟩
    have hHBX : Boxed w.heap.size a W1.drew := HX.out
    refine wp_region_held_drew (S := Boxed w.heap.size a) (by kernel_rfl) HX.out (fun hH0 => ?_)
    refine wpAnyH_take (i := 0) (oi := { dst := some 16, op := Op.move (Operand.tmp 0), type := 26, pos := "law.go:48", after := #[], guard := none }) (v := ?_) rfl (by kernel_rfl) (by kernel_rfl) (by kernel_rfl) (fun _ _ _ h => h) (Or.inl ⟨by rfl, ?_⟩) (by assumption) ?_
    rotate_left
    · (intro w' hSw; go_simp; try with_reducible rfl)
    try simp only [Act.put, List.setIfInBounds_toArray, List.set_cons_zero, List.set_cons_succ]
    refine wpAnyH_take (i := 1) (oi := { dst := some 17, op := Op.fieldAddr 41 (Operand.tmp 5) 1, type := 0, pos := "law.go:48", after := #[], guard := none }) (v := ?_) rfl (by kernel_rfl) (by kernel_rfl) (by kernel_rfl) (fun _ _ _ h => h) (Or.inl ⟨by rfl, ?_⟩) (by assumption) ?_
    rotate_left
    · (intro w' hSw; go_simp; try with_reducible rfl)
    try simp only [Act.put, List.setIfInBounds_toArray, List.set_cons_zero, List.set_cons_succ]
    refine' wpAnyH_take (i := 2) (oi := { dst := some 18, op := Op.load 3 (Operand.tmp 17), type := 3, pos := "law.go:48", after := #[{ on := 1, ground := Ground.data }], guard := none }) (v := _) rfl (by kernel_rfl) (by kernel_rfl) (by kernel_rfl) (fun _ _ _ h => h) (ld_cell (by rfl) 3 _ und_int rfl _ rfl w.heap.size 1 rfl (.int .i64 a.pos) (fun w' hw => (box_parts HOK.out hw).1)) (by assumption) ?_
    try simp only [Act.put, List.setIfInBounds_toArray, List.set_cons_zero, List.set_cons_succ]
    refine wpAnyH_take (i := 3) (oi := { dst := some 19, op := Op.fieldAddr 41 (Operand.tmp 5) 2, type := 0, pos := "law.go:48", after := #[], guard := none }) (v := ?_) rfl (by kernel_rfl) (by kernel_rfl) (by kernel_rfl) (fun _ _ _ h => h) (Or.inl ⟨by rfl, ?_⟩) (by assumption) ?_
    rotate_left
    · (intro w' hSw; go_simp; try with_reducible rfl)
    try simp only [Act.put, List.setIfInBounds_toArray, List.set_cons_zero, List.set_cons_succ]
    refine' wpAnyH_take (i := 4) (oi := { dst := some 20, op := Op.load 35 (Operand.tmp 19), type := 35, pos := "law.go:48", after := #[{ on := 3, ground := Ground.data }], guard := none }) (v := _) rfl (by kernel_rfl) (by kernel_rfl) (by kernel_rfl) (fun _ _ _ h => h) (ld_sec (by rfl) _ rfl w.heap.size 2 rfl a.s HOK.out.sec.1 (fun w' hw => (box_parts HOK.out hw).2.1)) (by assumption) ?_
    try simp only [Act.put, List.setIfInBounds_toArray, List.set_cons_zero, List.set_cons_succ]
    refine wpAnyH_take (i := 5) (oi := { dst := some 21, op := Op.fieldAddr 41 (Operand.tmp 5) 3, type := 0, pos := "law.go:48", after := #[], guard := none }) (v := ?_) rfl (by kernel_rfl) (by kernel_rfl) (by kernel_rfl) (fun _ _ _ h => h) (Or.inl ⟨by rfl, ?_⟩) (by assumption) ?_
    rotate_left
    · (intro w' hSw; go_simp; try with_reducible rfl)
    try simp only [Act.put, List.setIfInBounds_toArray, List.set_cons_zero, List.set_cons_succ]
    refine' wpAnyH_take (i := 6) (oi := { dst := some 22, op := Op.load 37 (Operand.tmp 21), type := 37, pos := "law.go:48", after := #[{ on := 5, ground := Ground.data }], guard := none }) (v := _) rfl (by kernel_rfl) (by kernel_rfl) (by kernel_rfl) (fun _ _ _ h => h) (ld_tag (by rfl) _ rfl w.heap.size 34 rfl a.k a.id (fun w' hw => (box_parts HOK.out hw).2.2.1)) (by assumption) ?_
    try simp only [Act.put, List.setIfInBounds_toArray, List.set_cons_zero, List.set_cons_succ]
    refine wpAnyH_take (i := 9) (oi := { dst := some 25, op := Op.move (Operand.tmp 1), type := 30, pos := "law.go:48", after := #[], guard := none }) (v := ?_) rfl (by kernel_rfl) (by kernel_rfl) (by kernel_rfl) (fun _ _ _ h => h) (Or.inl ⟨by rfl, ?_⟩) (by assumption) ?_
    rotate_left
    · (intro w' hSw; go_simp; try with_reducible rfl)
    try simp only [Act.put, List.setIfInBounds_toArray, List.set_cons_zero, List.set_cons_succ]
    refine wpAnyH_take (i := 10) (oi := { dst := some 26, op := Op.fieldAddr 41 (Operand.tmp 5) 1, type := 0, pos := "law.go:48", after := #[], guard := none }) (v := ?_) rfl (by kernel_rfl) (by kernel_rfl) (by kernel_rfl) (fun _ _ _ h => h) (Or.inl ⟨by rfl, ?_⟩) (by assumption) ?_
    rotate_left
    · (intro w' hSw; go_simp; try with_reducible rfl)
    try simp only [Act.put, List.setIfInBounds_toArray, List.set_cons_zero, List.set_cons_succ]
    refine' wpAnyH_take (i := 11) (oi := { dst := some 27, op := Op.load 3 (Operand.tmp 26), type := 3, pos := "law.go:48", after := #[{ on := 10, ground := Ground.data }], guard := none }) (v := _) rfl (by kernel_rfl) (by kernel_rfl) (by kernel_rfl) (fun _ _ _ h => h) (ld_cell (by rfl) 3 _ und_int rfl _ rfl w.heap.size 1 rfl (.int .i64 a.pos) (fun w' hw => (box_parts HOK.out hw).1)) (by assumption) ?_
    try simp only [Act.put, List.setIfInBounds_toArray, List.set_cons_zero, List.set_cons_succ]
    refine wpAnyH_take (i := 12) (oi := { dst := some 28, op := Op.fieldAddr 41 (Operand.tmp 5) 2, type := 0, pos := "law.go:48", after := #[], guard := none }) (v := ?_) rfl (by kernel_rfl) (by kernel_rfl) (by kernel_rfl) (fun _ _ _ h => h) (Or.inl ⟨by rfl, ?_⟩) (by assumption) ?_
    rotate_left
    · (intro w' hSw; go_simp; try with_reducible rfl)
    try simp only [Act.put, List.setIfInBounds_toArray, List.set_cons_zero, List.set_cons_succ]
    refine' wpAnyH_take (i := 13) (oi := { dst := some 29, op := Op.load 35 (Operand.tmp 28), type := 35, pos := "law.go:48", after := #[{ on := 12, ground := Ground.data }], guard := none }) (v := _) rfl (by kernel_rfl) (by kernel_rfl) (by kernel_rfl) (fun _ _ _ h => h) (ld_sec (by rfl) _ rfl w.heap.size 2 rfl a.s HOK.out.sec.1 (fun w' hw => (box_parts HOK.out hw).2.1)) (by assumption) ?_
    try simp only [Act.put, List.setIfInBounds_toArray, List.set_cons_zero, List.set_cons_succ]
    refine wpAnyH_take (i := 14) (oi := { dst := some 30, op := Op.fieldAddr 41 (Operand.tmp 5) 3, type := 0, pos := "law.go:48", after := #[], guard := none }) (v := ?_) rfl (by kernel_rfl) (by kernel_rfl) (by kernel_rfl) (fun _ _ _ h => h) (Or.inl ⟨by rfl, ?_⟩) (by assumption) ?_
    rotate_left
    · (intro w' hSw; go_simp; try with_reducible rfl)
    try simp only [Act.put, List.setIfInBounds_toArray, List.set_cons_zero, List.set_cons_succ]
    refine' wpAnyH_take (i := 15) (oi := { dst := some 31, op := Op.load 37 (Operand.tmp 30), type := 37, pos := "law.go:48", after := #[{ on := 14, ground := Ground.data }], guard := none }) (v := _) rfl (by kernel_rfl) (by kernel_rfl) (by kernel_rfl) (fun _ _ _ h => h) (ld_tag (by rfl) _ rfl w.heap.size 34 rfl a.k a.id (fun w' hw => (box_parts HOK.out hw).2.2.1)) (by assumption) ?_
    try simp only [Act.put, List.setIfInBounds_toArray, List.set_cons_zero, List.set_cons_succ]
    -- 7
    refine wpAnyH_ready (rs := [7]) (by kernel_rfl) (by simp) ?_
    refine AllReadyH.cons (o := { dst := some 23, op := Op.call { callee := Callee.value (Operand.func 12), args := #[Operand.tmp 16, Operand.tmp 18, Operand.tmp 20, Operand.tmp 22], argTypes := #[26, 3, 35, 37] }, type := 27, pos := "law.go:48", after := #[{ on := 0, ground := Ground.data }, { on := 2, ground := Ground.data }, { on := 4, ground := Ground.data }, { on := 6, ground := Ground.data }], guard := none }) rfl (fun K hK => ?_) AllReadyH.nil
    go_simp
    refine (HD.out.write _ F d st a.pos a.s a.k a.id (HD.out.kept _ _ _ _ _ HB.out.code (Keeps.of_below (Below.refl _ _).drew)) HF.out HOK.out.pos HOK.out.sec HOK.out.k HOK.out.id).mono ?_
    rintro e w2 ⟨rfl, hc2, ht2⟩
    have HC2 := Lib.hid hc2
    have HT2 := Lib.hid ht2
    have HX2 := hHBX.touch ht2 HFG.out
    clear hc2 ht2
    dsimp only
    refine hK.out _ _ HX2 (fun hHeld => ?_)
    clear hK K
    try simp only [Act.put, List.setIfInBounds_toArray, List.set_cons_zero, List.set_cons_succ]
    -- 8
    refine wpAnyH_ready (rs := [8]) (by kernel_rfl) (by simp) ?_
    refine AllReadyH.cons (o := { dst := some 24, op := Op.call { callee := Callee.value (Operand.func 9), args := #[Operand.tmp 23], argTypes := #[27] }, type := 3, pos := "law.go:48", after := #[{ on := 7, ground := Ground.data }, { on := 7, ground := Ground.chain }], guard := none }) rfl (fun K hK => ?_) AllReadyH.nil
    go_simp
    refine (num_any _ _).mono ?_
    rintro e wx ⟨rfl, rfl⟩
    dsimp only
    refine hK.out _ _ (by assumption) (fun hHeld => ?_)
    clear hK K
    try simp only [Act.put, List.setIfInBounds_toArray, List.set_cons_zero, List.set_cons_succ]
    -- 16
    refine wpAnyH_ready (rs := [16]) (by kernel_rfl) (by simp) ?_
    refine AllReadyH.cons (o := { dst := some 32, op := Op.call { callee := Callee.value (Operand.func 38), args := #[Operand.tmp 25, Operand.tmp 27, Operand.tmp 29, Operand.tmp 31], argTypes := #[30, 3, 35, 37] }, type := 27, pos := "law.go:48", after := #[{ on := 9, ground := Ground.data }, { on := 11, ground := Ground.data }, { on := 13, ground := Ground.data }, { on := 15, ground := Ground.data }, { on := 8, ground := Ground.chain }], guard := none }) rfl (fun K hK => ?_) AllReadyH.nil
    go_simp
    refine (rwrite G g st _ (refIs_kept HB.out.ref (HT2.out.keeps fun k hk hk2 => HB.out.apart k hk2 hk)) HF.out.few (by have := HF.out.n1; omega) a.pos a.s a.k a.id HOK.out.sec HOK.out.pos).mono ?_
    rintro e w3 ⟨rfl, hr3, ht3⟩
    have HR3 := Lib.hid hr3
    have HT3 := Lib.hid ht3
    have HX3 := HX2.touch ht3 (by omega)
    clear hr3 ht3
    dsimp only
    refine hK.out _ _ HX3 (fun hHeld => ?_)
    clear hK K
    try simp only [Act.put, List.setIfInBounds_toArray, List.set_cons_zero, List.set_cons_succ]
    -- 17
    refine wpAnyH_ready (rs := [17]) (by kernel_rfl) (by simp) ?_
    refine AllReadyH.cons (o := { dst := some 33, op := Op.call { callee := Callee.value (Operand.func 9), args := #[Operand.tmp 32], argTypes := #[27] }, type := 3, pos := "law.go:48", after := #[{ on := 16, ground := Ground.data }, { on := 16, ground := Ground.chain }], guard := none }) rfl (fun K hK => ?_) AllReadyH.nil
    go_simp
    refine (num_any _ _).mono ?_
    rintro e wx ⟨rfl, rfl⟩
    dsimp only
    refine hK.out _ _ (by assumption) (fun hHeld => ?_)
    clear hK K
    try simp only [Act.put, List.setIfInBounds_toArray, List.set_cons_zero, List.set_cons_succ]
    refine wpAnyH_take (i := 18) (oi := { dst := some 34, op := Op.binOp BinOp.eql 3 (Operand.tmp 24) (Operand.tmp 33) 3, type := 4, pos := "law.go:48", after := #[{ on := 8, ground := Ground.data }, { on := 17, ground := Ground.data }], guard := none }) (v := ?_) rfl (by kernel_rfl) (by kernel_rfl) (by kernel_rfl) (fun _ _ _ h => h) (Or.inl ⟨by rfl, ?_⟩) (by assumption) ?_
    rotate_left
    · (intro w' hSw; go_simp; try with_reducible rfl)
    try simp only [Act.put, List.setIfInBounds_toArray, List.set_cons_zero, List.set_cons_succ]
    refine wpAnyH_take (i := 19) (oi := { dst := some 6, op := Op.assign (Operand.tmp 34), type := 4, pos := "law.go:48", after := #[{ on := 18, ground := Ground.data }, { on := 17, ground := Ground.chain }, { on := 0, ground := Ground.phase }, { on := 1, ground := Ground.phase }, { on := 2, ground := Ground.phase }, { on := 3, ground := Ground.phase }, { on := 4, ground := Ground.phase }, { on := 5, ground := Ground.phase }, { on := 6, ground := Ground.phase }, { on := 7, ground := Ground.phase }, { on := 8, ground := Ground.phase }, { on := 9, ground := Ground.phase }, { on := 10, ground := Ground.phase }, { on := 11, ground := Ground.phase }, { on := 12, ground := Ground.phase }, { on := 13, ground := Ground.phase }, { on := 14, ground := Ground.phase }, { on := 15, ground := Ground.phase }, { on := 16, ground := Ground.phase }, { on := 17, ground := Ground.phase }, { on := 18, ground := Ground.phase }], guard := none }) (v := ?_) rfl (by kernel_rfl) (by kernel_rfl) (by kernel_rfl) (fun _ _ _ h => h) (Or.inl ⟨by rfl, ?_⟩) (by assumption) ?_
    rotate_left
    · (intro w' hSw; go_simp; try with_reducible rfl)
    try simp only [Act.put, List.setIfInBounds_toArray, List.set_cons_zero, List.set_cons_succ]
    refine wpAnyH_done (by kernel_rfl) ?_ _
    go_wp2_with fail
    have hfin := HFIN _ _ HC2.out HT2.out HR3.out HT3.out
    go_ret
    exact hfin
end Go.Proofs.Yteobhljkjgocdaa.dsk
/- step, over what the code's disk gives: Sync. -/
namespace Go.Proofs.Yteobhljkjgocdaa.dsk
open Go.ChangeShapes Go.WideShapes Go.ChangeAt Go.RowKit
open Go.Proofs.Yteobhljkjgocdaa.rows
open Go.Proofs.Yteobhljkjgocdaa.sec
set_option linter.unusedVariables false
set_option linter.unusedSimpArgs false

theorem Rd.inS {w : World} {sz n : Nat} {v : Value} {cs : List Value} (h : Rd w sz v n cs) : InS (fun b => b < w.heap.size) v := fun a m c hv hm => by
  rcases h with ⟨p, cap, h1, _⟩ | ⟨b, off, cap, h1, _, _, _, h3, _⟩
  · rw [hv] at h1; cases h1; omega
  · rw [hv] at h1; cases h1; exact h3
set_option maxHeartbeats 1600000 in
theorem step_sync {CA : World → (Nat → Prop) → Value → St → Prop} (D : DiskIs CA) {W : World} {B : Nat} {w : World} {F G : Nat → Prop} {d : Value} {g : Nat} {st : St} (h : Both CA B w F G d g st) (hB : B ≤ w.heap.size) (hf : st.fine) (a : Act0) (hok : a.ok W) (hk : a.kind = 2) (hli : a.light) (hWB : W.heap.size ≤ B) (hWw : Below W.heap.size W w) :
    Calls Try.prog 15 #[d, .pointer (some ⟨g, 0, none⟩), .agg a.c.toArray] w (StepDone CA B d g (syncR st a.ts).2 w) := by
  have HD := Lib.hid D
  obtain ⟨W1, hW1⟩ : ∃ W1, W1 = w.alloc (.cells a.c.toArray 41) := ⟨_, rfl⟩
  have hb1 : Below w.heap.size w W1 := by rw [hW1]; exact below_alloc (Below.refl _ _) _
  have hbx : Boxed w.heap.size a W1 := by rw [hW1]; exact heap_alloc_new _ _
  have hb2 := both_later D h hb1
  have HB := Lib.hid hb2
  have HF := Lib.hid hf
  have HOK := Lib.hid hok
  have HX := Lib.hid hbx
  have HW1 := Lib.hid hW1
  have HBW := Lib.hid hb1
  have hgF : ∀ k, F k → k < w.heap.size := fun k hk => (h.inF k hk).2
  have hgg : g < w.heap.size := h.ref.lt.1
  have hFgb : ¬ F w.heap.size := fun hk => by have := hgF _ hk; omega
  have HFG := Lib.hid hFgb
  have hp := act_parts hok hbx.range
  have ck : W1.cell? ⟨w.heap.size, 0, none⟩ = some (.int .i64 a.kind) := by have := hp.1; simpa using this
  have ca : a.c[0]? = some (.int .i64 a.kind) := rfl
  have hB1 : B ≤ W1.heap.size := Nat.le_trans hB hb1.size
  clear D h hf hok hbx hW1 hb1 hb2 hgF hFgb hp
  obtain ⟨pt, ct, hvt, hrt⟩ := HOK.out.ts
  have HRT := Lib.hid (hrt.later (hWw.trans (HBW.out.mono (Nat.le_trans hWB hB))))
  have HIT := Lib.hid (Rd.inS hrt)
  have hq := hli.1
  rw [hk] at ck ca
  rw [hvt] at HRT HIT
  have HVT := Lib.hid hvt
  have hFW : ∀ b, b < W.heap.size → ¬ F b := fun b hb hF => by have := (HB.out.inF b hF).1; omega
  have hGW : ∀ b, b < W.heap.size → b ≠ g := fun b hb he => by have := (HB.out.inG g HB.out.ref.lt.2).1; omega
  have HFW := Lib.hid hFW
  have HGW := Lib.hid hGW
  clear hk hli hvt hrt hFW hGW
  go_enter Try.func15, Try.ntmps15
  go_wp2_with fail
  rw [← HW1.out]
  have HFIN : ∀ w2 w3, CA w2 (grow F W1.drew w2) d (syncR st a.ts).2 → Touch F W1.drew w2 → RefIs w3 (grow G w2 w3) g (syncR st a.ts).2 → Touch (· = g) w2 w3 → StepDone CA B d g (syncR st a.ts).2 w (.returned (.bool true)) w3 := fun w2 w3 hc2 ht2 hr3 ht3 => by
    have hb := both_done HD.out (both_later HD.out HB.out (Below.refl _ _).drew) hB1 hc2 ht2 hr3 ht3
    have h1 : Touch (fun k => F k ∨ k = g) W1 w3 := (ht2.drewL.mono fun k hk => Or.inl hk).trans (ht3.mono fun k hk => Or.inr hk)
    exact ⟨rfl, _, _, hb, (HBW.out.mono hB).trans (h1.below hB1 fun k hk => by
      rcases hk with hk | hk
      · exact (HB.out.inF k hk).1
      · subst hk; exact (HB.out.inG _ HB.out.ref.lt.2).1)⟩
  have hHBX : Boxed w.heap.size a W1.drew := HX.out
  refine wp_region_held_drew (S := Boxed w.heap.size a) (by kernel_rfl) HX.out (fun hH0 => ?_)
  refine wpAnyH_take (i := 0) (oi := { dst := some 37, op := Op.move (Operand.tmp 0), type := 26, pos := "law.go:50", after := #[], guard := none }) (v := ?_) rfl (by kernel_rfl) (by kernel_rfl) (by kernel_rfl) (fun _ _ _ h => h) (Or.inl ⟨by rfl, ?_⟩) (by assumption) ?_
  rotate_left
  · (intro w' hSw; go_simp; try with_reducible rfl)
  try simp only [Act.put, List.setIfInBounds_toArray, List.set_cons_zero, List.set_cons_succ]
  refine wpAnyH_take (i := 1) (oi := { dst := some 38, op := Op.fieldAddr 41 (Operand.tmp 5) 4, type := 0, pos := "law.go:50", after := #[], guard := none }) (v := ?_) rfl (by kernel_rfl) (by kernel_rfl) (by kernel_rfl) (fun _ _ _ h => h) (Or.inl ⟨by rfl, ?_⟩) (by assumption) ?_
  rotate_left
  · (intro w' hSw; go_simp; try with_reducible rfl)
  try simp only [Act.put, List.setIfInBounds_toArray, List.set_cons_zero, List.set_cons_succ]
  refine' wpAnyH_take (i := 2) (oi := { dst := some 39, op := Op.load 38 (Operand.tmp 38), type := 38, pos := "law.go:50", after := #[{ on := 1, ground := Ground.data }], guard := none }) (v := _) rfl (by kernel_rfl) (by kernel_rfl) (by kernel_rfl) (fun _ _ _ h => h) (ld_cell (by rfl) 38 _ und_tags rfl _ rfl w.heap.size 36 rfl (.slice pt a.ts.length ct) (fun w' hw => by rw [← HVT.out]; exact (box_parts HOK.out hw).2.2.2.1)) (by assumption) ?_
  try simp only [Act.put, List.setIfInBounds_toArray, List.set_cons_zero, List.set_cons_succ]
  refine wpAnyH_take (i := 5) (oi := { dst := some 42, op := Op.move (Operand.tmp 1), type := 30, pos := "law.go:50", after := #[], guard := none }) (v := ?_) rfl (by kernel_rfl) (by kernel_rfl) (by kernel_rfl) (fun _ _ _ h => h) (Or.inl ⟨by rfl, ?_⟩) (by assumption) ?_
  rotate_left
  · (intro w' hSw; go_simp; try with_reducible rfl)
  try simp only [Act.put, List.setIfInBounds_toArray, List.set_cons_zero, List.set_cons_succ]
  refine wpAnyH_take (i := 6) (oi := { dst := some 43, op := Op.fieldAddr 41 (Operand.tmp 5) 4, type := 0, pos := "law.go:50", after := #[], guard := none }) (v := ?_) rfl (by kernel_rfl) (by kernel_rfl) (by kernel_rfl) (fun _ _ _ h => h) (Or.inl ⟨by rfl, ?_⟩) (by assumption) ?_
  rotate_left
  · (intro w' hSw; go_simp; try with_reducible rfl)
  try simp only [Act.put, List.setIfInBounds_toArray, List.set_cons_zero, List.set_cons_succ]
  refine' wpAnyH_take (i := 7) (oi := { dst := some 44, op := Op.load 38 (Operand.tmp 43), type := 38, pos := "law.go:50", after := #[{ on := 6, ground := Ground.data }], guard := none }) (v := _) rfl (by kernel_rfl) (by kernel_rfl) (by kernel_rfl) (fun _ _ _ h => h) (ld_cell (by rfl) 38 _ und_tags rfl _ rfl w.heap.size 36 rfl (.slice pt a.ts.length ct) (fun w' hw => by rw [← HVT.out]; exact (box_parts HOK.out hw).2.2.2.1)) (by assumption) ?_
  try simp only [Act.put, List.setIfInBounds_toArray, List.set_cons_zero, List.set_cons_succ]
  -- 3
  refine wpAnyH_ready (rs := [3]) (by kernel_rfl) (by simp) ?_
  refine AllReadyH.cons (o := { dst := some 40, op := Op.call { callee := Callee.value (Operand.func 13), args := #[Operand.tmp 37, Operand.tmp 39], argTypes := #[26, 38] }, type := 27, pos := "law.go:50", after := #[{ on := 0, ground := Ground.data }, { on := 2, ground := Ground.data }], guard := none }) rfl (fun K hK => ?_) AllReadyH.nil
  go_simp
  refine (HD.out.sync _ F d st pt a.ts.length ct a.ts (HD.out.kept _ _ _ _ _ HB.out.code (Keeps.of_below (Below.refl _ _).drew)) HF.out (Rd.later HRT.out (Below.refl _ _).drew) (HIT.out.mono HFW.out) hq HOK.out.tswf).mono ?_
  rintro e w2 ⟨rfl, hc2, ht2⟩
  have HC2 := Lib.hid hc2
  have HT2 := Lib.hid ht2
  have HX2 := hHBX.touch ht2 HFG.out
  have HRT2 := Lib.hid (Rd.kept (Rd.later HRT.out (Below.refl _ _).drew) (HIT.out.mono HFW.out) (ht2.keeps fun k hk => hk))
  clear hc2 ht2
  dsimp only
  refine hK.out _ _ HX2 (fun hHeld => ?_)
  clear hK K
  try simp only [Act.put, List.setIfInBounds_toArray, List.set_cons_zero, List.set_cons_succ]
  -- 4
  refine wpAnyH_ready (rs := [4]) (by kernel_rfl) (by simp) ?_
  refine AllReadyH.cons (o := { dst := some 41, op := Op.call { callee := Callee.value (Operand.func 9), args := #[Operand.tmp 40], argTypes := #[27] }, type := 3, pos := "law.go:50", after := #[{ on := 3, ground := Ground.data }, { on := 3, ground := Ground.chain }], guard := none }) rfl (fun K hK => ?_) AllReadyH.nil
  go_simp
  refine (num_any _ _).mono ?_
  rintro e wx ⟨rfl, rfl⟩
  dsimp only
  refine hK.out _ _ (by assumption) (fun hHeld => ?_)
  clear hK K
  try simp only [Act.put, List.setIfInBounds_toArray, List.set_cons_zero, List.set_cons_succ]
  -- 8
  refine wpAnyH_ready (rs := [8]) (by kernel_rfl) (by simp) ?_
  refine AllReadyH.cons (o := { dst := some 45, op := Op.call { callee := Callee.value (Operand.func 39), args := #[Operand.tmp 42, Operand.tmp 44], argTypes := #[30, 38] }, type := 27, pos := "law.go:50", after := #[{ on := 5, ground := Ground.data }, { on := 7, ground := Ground.data }, { on := 4, ground := Ground.chain }], guard := none }) rfl (fun K hK => ?_) AllReadyH.nil
  go_simp
  refine (rsync G g st _ (refIs_kept HB.out.ref (HT2.out.keeps fun k hk hk2 => HB.out.apart k hk2 hk)) HF.out.few (by have := HF.out.n1; omega) HF.out.pos pt a.ts.length ct a.ts HRT2.out (HIT.out.mono HGW.out) (by omega)).mono ?_
  rintro e w3 ⟨rfl, hr3, ht3⟩
  have HR3 := Lib.hid hr3
  have HT3 := Lib.hid ht3
  have HX3 := HX2.touch ht3 (by omega)
  clear hr3 ht3
  dsimp only
  refine hK.out _ _ HX3 (fun hHeld => ?_)
  clear hK K
  try simp only [Act.put, List.setIfInBounds_toArray, List.set_cons_zero, List.set_cons_succ]
  -- 9
  refine wpAnyH_ready (rs := [9]) (by kernel_rfl) (by simp) ?_
  refine AllReadyH.cons (o := { dst := some 46, op := Op.call { callee := Callee.value (Operand.func 9), args := #[Operand.tmp 45], argTypes := #[27] }, type := 3, pos := "law.go:50", after := #[{ on := 8, ground := Ground.data }, { on := 8, ground := Ground.chain }], guard := none }) rfl (fun K hK => ?_) AllReadyH.nil
  go_simp
  refine (num_any _ _).mono ?_
  rintro e wx ⟨rfl, rfl⟩
  dsimp only
  refine hK.out _ _ (by assumption) (fun hHeld => ?_)
  clear hK K
  try simp only [Act.put, List.setIfInBounds_toArray, List.set_cons_zero, List.set_cons_succ]
  refine wpAnyH_take (i := 10) (oi := { dst := some 47, op := Op.binOp BinOp.eql 3 (Operand.tmp 41) (Operand.tmp 46) 3, type := 4, pos := "law.go:50", after := #[{ on := 4, ground := Ground.data }, { on := 9, ground := Ground.data }], guard := none }) (v := ?_) rfl (by kernel_rfl) (by kernel_rfl) (by kernel_rfl) (fun _ _ _ h => h) (Or.inl ⟨by rfl, ?_⟩) (by assumption) ?_
  rotate_left
  · (intro w' hSw; go_simp; try with_reducible rfl)
  try simp only [Act.put, List.setIfInBounds_toArray, List.set_cons_zero, List.set_cons_succ]
  refine wpAnyH_take (i := 11) (oi := { dst := some 6, op := Op.assign (Operand.tmp 47), type := 4, pos := "law.go:50", after := #[{ on := 10, ground := Ground.data }, { on := 9, ground := Ground.chain }, { on := 0, ground := Ground.phase }, { on := 1, ground := Ground.phase }, { on := 2, ground := Ground.phase }, { on := 3, ground := Ground.phase }, { on := 4, ground := Ground.phase }, { on := 5, ground := Ground.phase }, { on := 6, ground := Ground.phase }, { on := 7, ground := Ground.phase }, { on := 8, ground := Ground.phase }, { on := 9, ground := Ground.phase }, { on := 10, ground := Ground.phase }], guard := none }) (v := ?_) rfl (by kernel_rfl) (by kernel_rfl) (by kernel_rfl) (fun _ _ _ h => h) (Or.inl ⟨by rfl, ?_⟩) (by assumption) ?_
  rotate_left
  · (intro w' hSw; go_simp; try with_reducible rfl)
  try simp only [Act.put, List.setIfInBounds_toArray, List.set_cons_zero, List.set_cons_succ]
  refine wpAnyH_done (by kernel_rfl) ?_ _
  go_wp2_with fail
  have hfin := HFIN _ _ HC2.out HT2.out HR3.out HT3.out
  go_ret
  exact hfin
end Go.Proofs.Yteobhljkjgocdaa.dsk
/- step, over what the code's disk gives: Barrier, Fail and Read. -/
namespace Go.Proofs.Yteobhljkjgocdaa.dsk
open Go.ChangeShapes Go.WideShapes Go.ChangeAt Go.RowKit
open Go.Proofs.Yteobhljkjgocdaa.rows
open Go.Proofs.Yteobhljkjgocdaa.sec
set_option linter.unusedVariables false
set_option linter.unusedSimpArgs false

set_option maxHeartbeats 1600000 in
theorem step_bar {CA : World → (Nat → Prop) → Value → St → Prop} (D : DiskIs CA) {W : World} {B : Nat} {w : World} {F G : Nat → Prop} {d : Value} {g : Nat} {st : St} (h : Both CA B w F G d g st) (hB : B ≤ w.heap.size) (hf : st.fine) (a : Act0) (hok : a.ok W) (hk : a.kind = 3) :
    Calls Try.prog 15 #[d, .pointer (some ⟨g, 0, none⟩), .agg a.c.toArray] w (StepDone CA B d g (barrier st).2 w) := by
  have HD := Lib.hid D
  obtain ⟨W1, hW1⟩ : ∃ W1, W1 = w.alloc (.cells a.c.toArray 41) := ⟨_, rfl⟩
  have hb1 : Below w.heap.size w W1 := by rw [hW1]; exact below_alloc (Below.refl _ _) _
  have hbx : Boxed w.heap.size a W1 := by rw [hW1]; exact heap_alloc_new _ _
  have hb2 := both_later D h hb1
  have HB := Lib.hid hb2
  have HF := Lib.hid hf
  have HOK := Lib.hid hok
  have HX := Lib.hid hbx
  have HW1 := Lib.hid hW1
  have HBW := Lib.hid hb1
  have hgF : ∀ k, F k → k < w.heap.size := fun k hk => (h.inF k hk).2
  have hgg : g < w.heap.size := h.ref.lt.1
  have hFgb : ¬ F w.heap.size := fun hk => by have := hgF _ hk; omega
  have HFG := Lib.hid hFgb
  have hp := act_parts hok hbx.range
  have ck : W1.cell? ⟨w.heap.size, 0, none⟩ = some (.int .i64 a.kind) := by have := hp.1; simpa using this
  have ca : a.c[0]? = some (.int .i64 a.kind) := rfl
  have hB1 : B ≤ W1.heap.size := Nat.le_trans hB hb1.size
  clear D h hf hok hbx hW1 hb1 hb2 hgF hFgb hp
  rw [hk] at ck ca
  clear hk
  have HFIN : ∀ w2 w3, CA w2 (grow F W1 w2) d (barrier st).2 → Touch F W1 w2 → RefIs w3 (grow G w2 w3) g (barrier st).2 → Touch (· = g) w2 w3 → StepDone CA B d g (barrier st).2 w (.returned (.bool true)) w3 := fun w2 w3 hc2 ht2 hr3 ht3 => by
    have hb := both_done HD.out HB.out hB1 hc2 ht2 hr3 ht3
    have h1 : Touch (fun k => F k ∨ k = g) W1 w3 := (ht2.mono fun k hk => Or.inl hk).trans (ht3.mono fun k hk => Or.inr hk)
    exact ⟨rfl, _, _, hb, (HBW.out.mono hB).trans (h1.below hB1 fun k hk => by
      rcases hk with hk | hk
      · exact (HB.out.inF k hk).1
      · subst hk; exact (HB.out.inG _ HB.out.ref.lt.2).1)⟩
  go_enter Try.func15, Try.ntmps15
  go_wp2_with fail
  rw [← HW1.out]
  refine (HD.out.barrier _ F d st HB.out.code HF.out).mono ?_
  rintro e w2 ⟨rfl, hc2, ht2⟩
  have HC2 := Lib.hid hc2
  have HT2 := Lib.hid ht2
  clear hc2 ht2
  go_wp2_with (first | (go_at_call 9; refine (num_any _ _).mono ?_; rintro e wx ⟨rfl, rfl⟩) | (go_at_call 40; refine (rbarrier G g st _ (refIs_kept HB.out.ref (HT2.out.keeps fun k hk hk2 => HB.out.apart k hk2 hk)) HF.out.few).mono ?_; rintro e w3 ⟨rfl, hr3, ht3⟩; have HR3 := Lib.hid hr3; have HT3 := Lib.hid ht3; clear hr3 ht3))
  have hfin := HFIN _ _ HC2.out HT2.out HR3.out HT3.out
  go_ret
  exact hfin
end Go.Proofs.Yteobhljkjgocdaa.dsk
/- step, over what the code's disk gives: Fail and Read. -/
namespace Go.Proofs.Yteobhljkjgocdaa.dsk
open Go.ChangeShapes Go.WideShapes Go.ChangeAt Go.RowKit
open Go.Proofs.Yteobhljkjgocdaa.rows
open Go.Proofs.Yteobhljkjgocdaa.sec
set_option linter.unusedVariables false
set_option linter.unusedSimpArgs false

theorem readOf_sec {st : St} (hf : st.fine) {i : Nat} (hi : i < st.safe.length) : Sec (readOf st i) := by
  rw [readOf, List.getD_eq_getElem?_getD, List.getElem?_eq_getElem hi]
  exact lastOf_sec _ _ _ (hf.few.ss _ (List.getElem_mem hi)) hf.few.ws
/-- what Read answers: a sector and a number -/
theorem readR_is {st : St} (hf : st.fine) (i : Int) : ∃ s q, readR st i = .tuple #[agg s, .int .i64 q] ∧ Sec s := by
  by_cases h : 0 ≤ i ∧ i < (st.safe.length : Int)
  · exact ⟨readOf st i.toNat, 0, by rw [readR, if_pos h], readOf_sec hf (by omega)⟩
  · exact ⟨zero32, 1, by rw [readR, if_neg h], sec_zero⟩
theorem rreadR (S : Nat → Prop) (g : Nat) (st : St) (i : Int) (w : World) (h : RefIs w S g st) (hf : st.fine) (hi : wf64 i) :
    Calls Try.prog 42 #[.pointer (some ⟨g, 0, none⟩), .int .i64 i] w fun e w' => e = .returned (readR st i) ∧ Below w.heap.size w w' := by
  have hn1 := hf.n1
  by_cases hin : 0 ≤ i ∧ i < (st.safe.length : Int)
  · obtain ⟨k, rfl⟩ := Int.eq_ofNat_of_zero_le hin.1
    rw [readR, if_pos hin]
    exact rread_yes S g st k w h (by omega) hf.few.ss hf.few.ws (by have := hf.few.wn; omega) (by omega)
  · rw [readR, if_neg hin]
    exact rread_no S g st i w h hi (by omega) (by omega)
theorem Both.trans_below {CA : World → (Nat → Prop) → Value → St → Prop} (D : DiskIs CA) {B : Nat} {w w' : World} {F G : Nat → Prop} {d : Value} {g : Nat} {st : St} (h : Both CA B w F G d g st) (hb : Below w.heap.size w w') : Both CA B w' F G d g st := both_later D h hb
set_option maxHeartbeats 1600000 in
theorem step_other {CA : World → (Nat → Prop) → Value → St → Prop} (D : DiskIs CA) {W : World} {B : Nat} {w : World} {F G : Nat → Prop} {d : Value} {g : Nat} {st : St} (h : Both CA B w F G d g st) (hB : B ≤ w.heap.size) (hf : st.fine) (a : Act0) (hok : a.ok W) (hk : (a.kind == 0) = false ∧ (a.kind == 1) = false ∧ (a.kind == 2) = false ∧ (a.kind == 3) = false ∧ (a.kind == 5) = false) :
    Calls Try.prog 15 #[d, .pointer (some ⟨g, 0, none⟩), .agg a.c.toArray] w (StepDone CA B d g st w) := by
  have HD := Lib.hid D
  obtain ⟨W1, hW1⟩ : ∃ W1, W1 = w.alloc (.cells a.c.toArray 41) := ⟨_, rfl⟩
  have hb1 : Below w.heap.size w W1 := by rw [hW1]; exact below_alloc (Below.refl _ _) _
  have hbx : Boxed w.heap.size a W1 := by rw [hW1]; exact heap_alloc_new _ _
  have hb2 := both_later D h hb1
  have HB := Lib.hid hb2
  have HF := Lib.hid hf
  have HOK := Lib.hid hok
  have HX := Lib.hid hbx
  have HW1 := Lib.hid hW1
  have HBW := Lib.hid hb1
  have hgF : ∀ k, F k → k < w.heap.size := fun k hk => (h.inF k hk).2
  have hgg : g < w.heap.size := h.ref.lt.1
  have hFgb : ¬ F w.heap.size := fun hk => by have := hgF _ hk; omega
  have HFG := Lib.hid hFgb
  have hp := act_parts hok hbx.range
  have ck : W1.cell? ⟨w.heap.size, 0, none⟩ = some (.int .i64 a.kind) := by have := hp.1; simpa using this
  have ca : a.c[0]? = some (.int .i64 a.kind) := rfl
  have hB1 : B ≤ W1.heap.size := Nat.le_trans hB hb1.size
  clear D h hf hok hbx hW1 hb1 hb2 hgF hFgb hp
  obtain ⟨k0, k1, k2, k3, k5⟩ := hk
  obtain ⟨kd, hkd⟩ : ∃ kd, a.kind = kd := ⟨_, rfl⟩
  rw [hkd] at ck ca k0 k1 k2 k3 k5
  clear hkd
  obtain ⟨s, q, hrr, hs⟩ := readR_is HF.out a.pos
  have HRR := Lib.hid hrr
  have HS := Lib.hid hs
  have hg := guard_sec
  have qe : ∀ w, (Op.equalIn 10000 35 (.agg (u8s s).toArray) (.agg (u8s s).toArray)).run Try.prog w = .ok true w := fun w => by rw [eqIn_sec w hs hs, decide_eq_true rfl]
  have cp : W1.cell? ⟨w.heap.size, 1, none⟩ = some (.int .i64 a.pos) := (box_parts HOK.out HX.out).1
  have ca1 : a.c[1]? = some (.int .i64 a.pos) := rfl
  clear hs hrr
  go_enter Try.func15, Try.ntmps15
  go_wp2_with fail
  rw [← HW1.out]
  refine (HD.out.read _ F d st a.pos HB.out.code HF.out HOK.out.pos).mono ?_
  rintro e w2 ⟨he2, hb2⟩
  rw [HRR.out] at he2
  subst he2
  have HB2 := Lib.hid (both_later HD.out HB.out hb2)
  have HX2 := Lib.hid (row_later HX.out hb2 (Array.getElem?_eq_some_iff.1 HX.out).1)
  have hx2 : w.heap.size < w2.heap.size := (Array.getElem?_eq_some_iff.1 HX2.out).1
  have HW2 := Lib.hid ((HBW.out.mono hB).trans (hb2.mono hB1))
  have HW2s : w.heap.size ≤ w2.heap.size := Nat.le_of_lt hx2
  have HF2 := HF
  go_wp2_with (first | (refine store_at rfl _ _ rfl rfl w2.heap.size s zero32 rfl rfl HS.out.1 (by decide) (at_lit w2) ?_; intro w3 hA3 hB3 hK3; have A3 := Lib.hid hA3; have hb3 : Below w2.heap.size w2 w3 := (below_alloc (Below.refl _ w2) _).trans hB3; have HB3 := Lib.hid (both_later HD.out HB2.out hb3); have HX3 := Lib.hid (row_later HX2.out hb3 hx2); have cp3 := (box_parts HOK.out HX3.out).1; clear hA3 hK3) | (go_at_call 42; refine (rreadR G g st a.pos _ HB3.out.ref HF2.out HOK.out.pos).mono ?_; rintro e w4 ⟨he4, hb4⟩; rw [HRR.out] at he4; subst he4; have A4 := Lib.hid (A3.out.later hb4)) | (refine store_at rfl _ _ rfl rfl w4.heap.size s zero32 rfl rfl HS.out.1 (by decide) (at_lit w4) ?_; intro w5 hA5 hB5 hK5; have A5 := Lib.hid hA5; have hb5 : Below w4.heap.size w4 w5 := (below_alloc (Below.refl _ w4) _).trans hB5; have A45 := Lib.hid (A4.out.later hb5); clear hA5 hK5) | (refine load_at rfl _ rfl w2.heap.size rfl s HS.out.1 A45.out ?_) | (refine load_at rfl _ rfl w4.heap.size rfl s HS.out.1 A5.out ?_) | (go_at_call 9; refine (num_any _ _).mono ?_; rintro e wx ⟨rfl, rfl⟩))
  have hB23 := below_trans (below_trans hb3 hb4) hb5
  have hfin : StepDone CA B d g st w (.returned (.bool true)) w5 := ⟨rfl, _, _, both_later HD.out HB2.out hB23, HW2.out.trans (hB23.mono (Nat.le_trans hB HW2s))⟩
  go_ret
  exact hfin
end Go.Proofs.Yteobhljkjgocdaa.dsk
/- step, over what the code's disk gives: Fail. -/
namespace Go.Proofs.Yteobhljkjgocdaa.dsk
open Go.ChangeShapes Go.WideShapes Go.ChangeAt Go.RowKit
open Go.Proofs.Yteobhljkjgocdaa.rows
open Go.Proofs.Yteobhljkjgocdaa.sec
set_option linter.unusedVariables false
set_option linter.unusedSimpArgs false

set_option maxHeartbeats 1600000 in
theorem step_fail {CA : World → (Nat → Prop) → Value → St → Prop} (D : DiskIs CA) {W : World} {B : Nat} {w : World} {F G : Nat → Prop} {d : Value} {g : Nat} {st : St} (h : Both CA B w F G d g st) (hB : B ≤ w.heap.size) (hf : st.fine) (a : Act0) (hok : a.ok W) (hk : a.kind = 5) (hli : a.light) (hWB : W.heap.size ≤ B) (hWw : Below W.heap.size W w) :
    Calls Try.prog 15 #[d, .pointer (some ⟨g, 0, none⟩), .agg a.c.toArray] w (StepDone CA B d g (fail st a.bad) w) := by
  have HD := Lib.hid D
  obtain ⟨W1, hW1⟩ : ∃ W1, W1 = w.alloc (.cells a.c.toArray 41) := ⟨_, rfl⟩
  have hb1 : Below w.heap.size w W1 := by rw [hW1]; exact below_alloc (Below.refl _ _) _
  have hbx : Boxed w.heap.size a W1 := by rw [hW1]; exact heap_alloc_new _ _
  have hb2 := both_later D h hb1
  have HB := Lib.hid hb2
  have HF := Lib.hid hf
  have HOK := Lib.hid hok
  have HX := Lib.hid hbx
  have HW1 := Lib.hid hW1
  have HBW := Lib.hid hb1
  have hgF : ∀ k, F k → k < w.heap.size := fun k hk => (h.inF k hk).2
  have hgg : g < w.heap.size := h.ref.lt.1
  have hFgb : ¬ F w.heap.size := fun hk => by have := hgF _ hk; omega
  have HFG := Lib.hid hFgb
  have hp := act_parts hok hbx.range
  have ck : W1.cell? ⟨w.heap.size, 0, none⟩ = some (.int .i64 a.kind) := by have := hp.1; simpa using this
  have ca : a.c[0]? = some (.int .i64 a.kind) := rfl
  have hB1 : B ≤ W1.heap.size := Nat.le_trans hB hb1.size
  clear D h hf hok hbx hW1 hb1 hb2 hgF hFgb hp
  obtain ⟨pb, cb, hvb, hrb⟩ := HOK.out.bad
  have HRT := Lib.hid (hrb.later (hWw.trans (HBW.out.mono (Nat.le_trans hWB hB))))
  have HIT := Lib.hid (Rd.inS hrb)
  have hq := hli.2
  rw [hk] at ck ca
  rw [hvb] at HRT HIT
  have HVB := Lib.hid hvb
  have hFW : ∀ b, b < W.heap.size → ¬ F b := fun b hb hF => by have := (HB.out.inF b hF).1; omega
  have HFW := Lib.hid hFW
  obtain ⟨st2, hst2⟩ : ∃ st2, fail st a.bad = st2 := ⟨_, rfl⟩
  have HST2 := Lib.hid hst2
  have HF2 : Hid st2.fine := Lib.hid (by
    rw [← hst2]
    have f := HF.out
    exact ⟨⟨f.few.ss, f.few.ws, f.few.es, f.few.ts, f.few.wn, f.few.ln, by show a.bad.length ≤ 900; omega, f.few.ep0, f.few.ep1, by show (0:Int) ≤ 0; omega, by show (0:Int) ≤ 900; omega⟩, f.n1, f.pos⟩)
  rw [hst2]
  obtain ⟨s, q, hrr, hs⟩ := readR_is HF2.out a.pos
  have HRR := Lib.hid hrr
  have HS := Lib.hid hs
  have hg := guard_sec
  have qe : ∀ w, (Op.equalIn 10000 35 (.agg (u8s s).toArray) (.agg (u8s s).toArray)).run Try.prog w = .ok true w := fun w => by rw [eqIn_sec w hs hs, decide_eq_true rfl]
  have hl32 : (u8s a.s).length = 32 := by simp [u8s, HOK.out.sec.1]
  have ca37 : a.c[37]? = some (.slice pb a.bad.length cb) := by
    rw [← HVB.out, Act0.c, List.getElem?_cons_succ, List.getElem?_cons_succ, List.getElem?_append_right (by omega), hl32]; rfl
  clear hk hli hvb hrb hFW hs hrr hst2 hl32
  go_enter Try.func15, Try.ntmps15
  go_wp2_with fail
  rw [← HW1.out]
  refine (HD.out.fail _ F d st pb a.bad.length cb a.bad HB.out.code HF.out HRT.out (HIT.out.mono HFW.out) hq HOK.out.badwf).mono ?_
  rintro e wf ⟨rfl, hcf, htf⟩
  rw [HST2.out] at hcf
  have HCF := Lib.hid hcf
  have HTF := Lib.hid htf
  have HXF := Lib.hid (Boxed.touch HX.out htf HFG.out)
  have HRF := Lib.hid (Rd.kept HRT.out (HIT.out.mono HFW.out) (htf.keeps fun k hk => hk))
  have c37 : wf.cell? ⟨w.heap.size, 37, none⟩ = some (.slice pb a.bad.length cb) := by rw [← HVB.out]; exact (box_parts HOK.out HXF.out).2.2.2.2
  clear hcf htf
  go_wp2_with fail
  refine (rfail G g st _ (refIs_kept HB.out.ref (HTF.out.keeps fun k hk hk2 => HB.out.apart k hk2 hk)) pb a.bad.length cb a.bad HRF.out (by omega)).mono ?_
  rintro e wg ⟨rfl, hrg, htg⟩
  rw [HST2.out] at hrg
  have HBG := Lib.hid (both_done HD.out HB.out hB1 HCF.out HTF.out hrg htg)
  have HXG := Lib.hid (Boxed.touch HXF.out htg (by omega))
  have HWG : Hid (Below B w wg) := Lib.hid ((HBW.out.mono hB).trans (((HTF.out.mono fun k hk => Or.inl hk).trans (htg.mono fun k hk => Or.inr hk) : Touch (fun k => F k ∨ k = g) W1 wg).below hB1 fun k hk => by
    rcases hk with hk | hk
    · exact (HB.out.inF k hk).1
    · subst hk; exact (HB.out.inG _ HB.out.ref.lt.2).1))
  have cpg := (box_parts HOK.out HXG.out).1
  have hBg : B ≤ wg.heap.size := Nat.le_trans hB1 (Nat.le_trans HTF.out.size htg.size)
  clear hrg htg c37
  go_wp2_with fail
  refine (HD.out.read _ _ d st2 a.pos HBG.out.code HF2.out HOK.out.pos).mono ?_
  rintro e w2 ⟨he2, hb2⟩
  rw [HRR.out] at he2
  subst he2
  have HB2 := Lib.hid (both_later HD.out HBG.out hb2)
  have HX2 := Lib.hid (row_later HXG.out hb2 (Array.getElem?_eq_some_iff.1 HXG.out).1)
  have hx2 : w.heap.size < w2.heap.size := (Array.getElem?_eq_some_iff.1 HX2.out).1
  have HW2 := Lib.hid (HWG.out.trans (hb2.mono hBg))
  have HW2s : w.heap.size ≤ w2.heap.size := Nat.le_of_lt hx2
  go_wp2_with (first | (refine store_at rfl _ _ rfl rfl w2.heap.size s zero32 rfl rfl HS.out.1 (by decide) (at_lit w2) ?_; intro w3 hA3 hB3 hK3; have A3 := Lib.hid hA3; have hb3 : Below w2.heap.size w2 w3 := (below_alloc (Below.refl _ w2) _).trans hB3; have HB3 := Lib.hid (both_later HD.out HB2.out hb3); have HX3 := Lib.hid (row_later HX2.out hb3 hx2); have cp3 := (box_parts HOK.out HX3.out).1; clear hA3 hK3) | (go_at_call 42; refine (rreadR _ g st2 a.pos _ HB3.out.ref HF2.out HOK.out.pos).mono ?_; rintro e w4 ⟨he4, hb4⟩; rw [HRR.out] at he4; subst he4; have A4 := Lib.hid (A3.out.later hb4)) | (refine store_at rfl _ _ rfl rfl w4.heap.size s zero32 rfl rfl HS.out.1 (by decide) (at_lit w4) ?_; intro w5 hA5 hB5 hK5; have A5 := Lib.hid hA5; have hb5 : Below w4.heap.size w4 w5 := (below_alloc (Below.refl _ w4) _).trans hB5; have A45 := Lib.hid (A4.out.later hb5); clear hA5 hK5) | (refine load_at rfl _ rfl w2.heap.size rfl s HS.out.1 A45.out ?_) | (refine load_at rfl _ rfl w4.heap.size rfl s HS.out.1 A5.out ?_) | (go_at_call 9; refine (num_any _ _).mono ?_; rintro e wx ⟨rfl, rfl⟩))
  have hB23 := below_trans (below_trans hb3 hb4) hb5
  have hfin : StepDone CA B d g st2 w (.returned (.bool true)) w5 := ⟨rfl, _, _, both_later HD.out HB2.out hB23, HW2.out.trans (hB23.mono (Nat.le_trans hB HW2s))⟩
  go_ret
  exact hfin
end Go.Proofs.Yteobhljkjgocdaa.dsk
/- step over any act: what state comes next, and that it stays small. -/
namespace Go.Proofs.Yteobhljkjgocdaa.dsk
open Go.ChangeShapes Go.WideShapes Go.ChangeAt Go.RowKit
open Go.Proofs.Yteobhljkjgocdaa.rows
open Go.Proofs.Yteobhljkjgocdaa.sec
set_option linter.unusedVariables false
set_option linter.unusedSimpArgs false

def nextSt (st : St) (a : Act0) : St :=
  if a.kind = 0 ∨ a.kind = 1 then (writeR st a.pos a.s a.k a.id).2 else if a.kind = 2 then (syncR st a.ts).2 else if a.kind = 3 then (barrier st).2 else if a.kind = 5 then fail st a.bad else st
/-- what holds behind k acts -/
structure St.good (k : Nat) (st : St) : Prop where
  ss : Secs st.safe
  n1 : st.safe.length ≤ 65
  ws : ∀ x ∈ st.wait, Sec x.s ∧ 0 ≤ x.pos ∧ x.pos < (st.safe.length : Int)
  es : ∀ e ∈ st.log, Sec e.2.1.s ∧ e.2.2.length ≤ 50
  wn : st.wait.length ≤ k
  ln : st.log.length ≤ k
  bn : st.bad.length ≤ 50
  ep : 0 ≤ st.ep ∧ st.ep ≤ k
  asked : 0 ≤ st.asked ∧ st.asked ≤ k
theorem St.good.fine {k : Nat} {st : St} (h : st.good k) (hk : k ≤ 900) : st.fine :=
  ⟨⟨h.ss, fun x hx => (h.ws x hx).1, fun e he => (h.es e he).1, fun e he => by have := (h.es e he).2; omega, by have := h.wn; omega, by have := h.ln; omega, by have := h.bn; omega, h.ep.1, by have := h.ep.2; omega, h.asked.1, by have := h.asked.2; omega⟩, h.n1, fun x hx => (h.ws x hx).2⟩
theorem St.good.more {k : Nat} {st : St} (h : st.good k) : st.good (k + 1) :=
  ⟨h.ss, h.n1, h.ws, h.es, by have := h.wn; omega, by have := h.ln; omega, h.bn, ⟨h.ep.1, by have := h.ep.2; omega⟩, ⟨h.asked.1, by have := h.asked.2; omega⟩⟩
theorem good_asked {k : Nat} {st : St} (h : st.good k) : st.asked1.good (k + 1) :=
  ⟨h.ss, h.n1, h.ws, h.es, by have := h.wn; show st.wait.length ≤ k + 1; omega, by have := h.ln; show st.log.length ≤ k + 1; omega, h.bn, ⟨h.ep.1, by have := h.ep.2; show st.ep ≤ ((k + 1 : Nat) : Int); omega⟩, ⟨by have := h.asked.1; show 0 ≤ st.asked + 1; omega, by have := h.asked.2; show st.asked + 1 ≤ ((k + 1 : Nat) : Int); omega⟩⟩
theorem leftUpto_mem (mk : Wr → Bool) (ws : List Wr) : ∀ (j : Nat) (x : Wr), x ∈ leftUpto mk ws j → x ∈ ws
  | 0, x, h => by simp [leftUpto] at h
  | j + 1, x, h => by
    rw [leftUpto, List.mem_append] at h
    rcases h with h | h
    · exact leftUpto_mem mk ws j x h
    · split at h
      · rename_i y hy
        split at h
        · rw [List.mem_singleton.1 h]; exact List.mem_of_getElem? hy
        · simp at h
      · simp at h
theorem good_next {W : World} {k : Nat} {st : St} (h : st.good k) (a : Act0) (hok : a.ok W) (hl : a.light) : (nextSt st a).good (k + 1) := by
  have ha1 := good_asked h
  unfold nextSt
  split
  · unfold writeR
    split
    · rename_i hin
      split
      · exact ha1
      · refine ⟨h.ss, h.n1, fun x hx => ?_, fun e he => ?_, ?_, ?_, h.bn, ha1.ep, ha1.asked⟩
        · rcases List.mem_append.1 hx with hx | hx
          · exact h.ws x hx
          · rw [List.mem_singleton.1 hx]; exact ⟨hok.sec, hin.1, hin.2⟩
        · rcases List.mem_append.1 he with he | he
          · exact h.es e he
          · rw [List.mem_singleton.1 he]; exact ⟨hok.sec, by simp⟩
        · have := h.wn; simp; omega
        · have := h.ln; simp; omega
    · exact ha1
  · split
    · unfold syncR
      split
      · exact ha1
      · have hlen : (settle st.safe st.wait a.ts).1.length = st.safe.length := outOf_len _ _ _
        refine ⟨outOf_secs _ _ _ h.ss fun x hx => (h.ws x hx).1, by show (settle st.safe st.wait a.ts).1.length ≤ 65; rw [hlen]; exact h.n1, fun x hx => ?_, fun e he => ?_, ?_, ?_, h.bn, ha1.ep, ha1.asked⟩
        · have := h.ws x (leftUpto_mem _ _ _ x hx)
          refine ⟨this.1, this.2.1, ?_⟩
          show x.pos < ((settle st.safe st.wait a.ts).1.length : Int)
          rw [hlen]; exact this.2.2
        · rcases List.mem_append.1 he with he | he
          · exact h.es e he
          · rw [List.mem_singleton.1 he]; exact ⟨sec_zero, hl.1⟩
        · have := h.wn
          have h2 := leftUpto_len (madeB a.ts (topOf a.ts st.wait)) st.wait st.wait.length
          show (leftUpto _ _ _).length ≤ k + 1
          omega
        · have := h.ln; simp; omega
    · split
      · unfold barrier
        split
        · exact ha1
        · refine ⟨h.ss, h.n1, h.ws, fun e he => ?_, by have := h.wn; show st.wait.length ≤ k + 1; omega, ?_, h.bn, ⟨by have := h.ep.1; show 0 ≤ st.ep + 1; omega, by have := h.ep.2; show st.ep + 1 ≤ ((k + 1 : Nat) : Int); omega⟩, ha1.asked⟩
          · rcases List.mem_append.1 he with he | he
            · exact h.es e he
            · rw [List.mem_singleton.1 he]; exact ⟨sec_zero, by simp⟩
          · have := h.ln; simp; omega
      · split
        · exact ⟨h.ss, h.n1, h.ws, h.es, h.more.wn, h.more.ln, hl.2, h.more.ep, ⟨by show (0:Int) ≤ 0; omega, by show (0:Int) ≤ ((k + 1 : Nat) : Int); omega⟩⟩
        · exact h.more
theorem step_any {CA : World → (Nat → Prop) → Value → St → Prop} (D : DiskIs CA) {W : World} {B : Nat} {w : World} {F G : Nat → Prop} {d : Value} {g : Nat} {st : St} (h : Both CA B w F G d g st) (hB : B ≤ w.heap.size) (hf : st.fine) (a : Act0) (hok : a.ok W) (hli : a.light) (hWB : W.heap.size ≤ B) (hWw : Below W.heap.size W w) :
    Calls Try.prog 15 #[d, .pointer (some ⟨g, 0, none⟩), .agg a.c.toArray] w (StepDone CA B d g (nextSt st a) w) := by
  unfold nextSt
  by_cases h0 : a.kind = 0 ∨ a.kind = 1
  · rw [if_pos h0]; exact step_write D h hB hf a hok h0
  · rw [if_neg h0]
    by_cases h2 : a.kind = 2
    · rw [if_pos h2]; exact step_sync D h hB hf a hok h2 hli hWB hWw
    · rw [if_neg h2]
      by_cases h3 : a.kind = 3
      · rw [if_pos h3]; exact step_bar D h hB hf a hok h3
      · rw [if_neg h3]
        by_cases h5 : a.kind = 5
        · rw [if_pos h5]; exact step_fail D h hB hf a hok h5 hli hWB hWw
        · rw [if_neg h5]
          refine step_other D h hB hf a hok ?_
          simp only [beq_eq_false_iff_ne, ne_eq]
          exact ⟨fun e => h0 (Or.inl e), fun e => h0 (Or.inr e), h2, h3, h5⟩
end Go.Proofs.Yteobhljkjgocdaa.dsk
