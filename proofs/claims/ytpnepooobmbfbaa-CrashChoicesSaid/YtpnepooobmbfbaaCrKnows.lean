/- What law06's knows gives. -/
import Derived.Test.YtpnepooobmbfbaaCrAllC
namespace Go.Proofs.Ytpnepooobmbfbaa.dsk
set_option maxRecDepth 100000
open Go.ChangeShapes Go.WideShapes Go.ChangeAt Go.RowKit
open Go.Proofs.Ytpnepooobmbfbaa.rows
open Go.Proofs.Ytpnepooobmbfbaa.sec
open Go.Proofs.Ytpnepooobmbfbaa.choMath
set_option linter.unusedVariables false
set_option linter.unusedSimpArgs false

def sec1 : List Int := 1 :: List.replicate 31 0
def sec2 : List Int := 2 :: List.replicate 31 0
def tw1 : Wr := ⟨0, sec1, 0, 0, 0⟩
def tw2 (ep : Int) : Wr := ⟨1, sec2, 0, 0, ep⟩
def twoW (ep : Int) : List Wr := [tw1, tw2 ep]
theorem sec1_is : Sec sec1 := ⟨by decide, by decide⟩
theorem sec2_is : Sec sec2 := ⟨by decide, by decide⟩
theorem twoW_secs (ep : Int) : ∀ x ∈ twoW ep, Sec x.s := by
  intro x hx
  rcases List.mem_cons.1 hx with rfl | hx
  · exact sec1_is
  · rw [List.mem_singleton.1 hx]; exact sec2_is
theorem build_two {ops : Array Oper} {rest : List Oper} {o : Oper} {a : Act} {w : World} {Q : Exit → Act → World → Prop} (hgd : o.guard = none) (x y : Operand) (ho : o.op = .buildSlice 26 2 #[(0, x), (1, y)]) (ep : Int) (hep : ep = 0 ∨ ep = 1)
    (hx : a.eval x = .agg tw1.c.toArray) (hy : a.eval y = .agg (tw2 ep).c.toArray) (h : wpList Try.prog ops Q rest (a.put o.dst (.slice (some ⟨w.heap.size, 0, none⟩) 2 2)) (w.alloc (.cells (wrsC (twoW ep)).toArray 79))) : wpList Try.prog ops Q (o :: rest) a w := by
  obtain ⟨ie, hi, hz0, hz1, hz2⟩ := info_parts elem_wrs.info
  refine wpList_plain hgd fun K hK => wp_buildSlice 26 79 2 #[(0, x), (1, y)] ho (wrsC (twoW ep)).toArray ie _ elem_wrs.und hi hz0 (by rw [hz1]; omega) (by rw [hz1]; omega) ?_ (hK _ _ h)
  rw [hz1]
  simp only [List.map_toArray, List.map_cons, List.map_nil, hx, hy]
  rcases hep with rfl | rfl
  · kernel_rfl
  · kernel_rfl
theorem row_rd {w : World} {g : Nat} {cs : List Value} {t : TypeId} {sz n : Nat} (h : w.heap[g]? = some (.cells cs.toArray t (0, 0))) (hl : cs.length = n * sz) (hn : 0 < n) (hm : n ≤ maxLen) : Rd w sz (.slice (some ⟨g, 0, none⟩) n n) n cs := by
  refine Or.inr ⟨g, 0, n, rfl, hn, Nat.le_refl _, hm, (Array.getElem?_eq_some_iff.1 h).1, hl, fun i u hi => ?_⟩
  rw [Nat.zero_add]
  exact cell_row h i u (by simpa using hi)
theorem ctwo (ep : Int) (hep : ep = 0 ∨ ep = 1) (w : World) :
    Calls Try.prog 34 #[.int .i64 ep] w fun e w' => (∃ g1 g2, e = .returned (stV (some ⟨g1, 0, none⟩) 2 2 (some ⟨g2, 0, none⟩) 2 2) ∧ imgIn w' (some ⟨g1, 0, none⟩) 2 2 (some ⟨g2, 0, none⟩) 2 2 [zero32, zero32] (twoW ep)) ∧ Below w.heap.size w w' := by
  obtain ⟨i0, hi, hz0, hz1, hz2⟩ := info_parts elem_secs.info
  have HEP := Lib.hid hep
  go_enter Try.func34, Try.ntmps34
  go_wp2_with (first | (at_make; refine wpList_make_full _ rfl _ _ 22 rfl w.heap.size 62 i0 (.agg (u8s (List.replicate 32 0)).toArray) 32 Try.underlying22 hi hz0 hz1 .i64 .i64 _ _ 2 rfl rfl rfl rfl (by rw [hz2]; omega) (by unfold maxLen; omega) (by rw [size_alloc]; omega) ?_; intro w3 ho3 hg3; rw [made_secs] at ho3; have hb3 := below_made hg3; have R3 := rows_rd (rows_made ho3) (secs_zero 2) (by rw [List.length_replicate]; unfold maxLen; omega); rw [List.length_replicate] at R3; have HR3 := Lib.hid R3; have HB3 := Lib.hid hb3; have HRW := Lib.hid (row_alloc (row_later (heap_alloc_new w _) hb3 (by rw [size_alloc]; omega)) (.cells (wrsC (twoW ep)).toArray 79)); have c0 := cell_row HRW.out 0 _ rfl; have c1 := cell_row HRW.out 1 _ rfl; have f0 := frozen_row HRW.out 0; have f1 := frozen_row HRW.out 1; clear ho3 hg3 R3 hb3) | (refine wpList_buildTo rfl 62 #[(0, .const (.int .u8 1))] rfl (some 4) rfl (u8s sec1).toArray (by kernel_rfl) ?_) | (refine wpList_buildTo rfl 62 #[(0, .const (.int .u8 2))] rfl (some 6) rfl (u8s sec2).toArray (by kernel_rfl) ?_) | (refine wpList_buildTo rfl 79 #[(0, .const (.int .i64 0)), (1, .tmp 4)] rfl (some 5) rfl tw1.c.toArray (by kernel_rfl) ?_) | (refine wpList_buildTo rfl 79 #[(0, .const (.int .i64 1)), (1, .tmp 6), (3, .tmp 7)] rfl (some 8) rfl (tw2 ep).c.toArray (by rcases HEP.out with rfl | rfl <;> kernel_rfl) ?_) | (refine build_two rfl (.tmp 5) (.tmp 8) rfl ep HEP.out rfl rfl ?_))
  have R0 := setCell_heap (i := 0) HRW.out (.slice (some ⟨w.heap.size + 1, 0, none⟩) 2 2)
  have R1 := setCell_heap (i := 1) R0 (.slice (some ⟨w3.heap.size, 0, none⟩) 2 2)
  have k0 := cell_row R1 0 (.slice (some ⟨w.heap.size + 1, 0, none⟩) 2 2) rfl
  have k1 := cell_row R1 1 (.slice (some ⟨w3.heap.size, 0, none⟩) 2 2) rfl
  have hs3 := HB3.out.size
  rw [size_alloc] at hs3
  have hb5 : Below w.heap.size w (((w3.alloc (Obj.cells (wrsC (twoW ep)).toArray 79)).setCell { block := w.heap.size, off := 0 } (Value.slice (some { block := w.heap.size + 1, off := 0 }) 2 2)).setCell { block := w.heap.size, off := 1 } (Value.slice (some { block := w3.heap.size, off := 0 }) 2 2)) :=
    (((((below_alloc (Below.refl _ w) _).trans (HB3.out.mono (by rw [size_alloc]; omega))).alloc (by omega) _)).setCell (p := ⟨w.heap.size, 0, none⟩) (Nat.le_refl _) _).setCell (p := ⟨w.heap.size, 1, none⟩) (Nat.le_refl _) _
  have hk : ∀ (k : Nat), k ≠ w.heap.size → (((w3.alloc (Obj.cells (wrsC (twoW ep)).toArray 79)).setCell { block := w.heap.size, off := 0 } (Value.slice (some { block := w.heap.size + 1, off := 0 }) 2 2)).setCell { block := w.heap.size, off := 1 } (Value.slice (some { block := w3.heap.size, off := 0 }) 2 2)).heap[k]? = (w3.alloc (Obj.cells (wrsC (twoW ep)).toArray 79)).heap[k]? := fun k hk =>
    (Below.heap_setCell _ _ _ _ hk).trans (Below.heap_setCell _ _ _ _ hk)
  refine bodyPost_ret (v := stV (some ⟨w.heap.size + 1, 0, none⟩) 2 2 (some ⟨w3.heap.size, 0, none⟩) 2 2) (by simp [results, Try.f34, go_sem, k0, k1, stV]) rfl ?_
  refine ⟨⟨_, _, rfl, ?_, ?_, rfl, by omega, ?_, twoW_secs ep, by omega⟩, hb5⟩
  · have h1 := HR3.out
    rw [size_alloc] at h1
    exact Go.Proofs.Ytpnepooobmbfbaa.dsk.Rd.kept (S := fun k => k ≠ w.heap.size) (h1.later (below_alloc (Below.refl _ _) _)) (fun a n c e _ => by cases e; show w.heap.size + 1 ≠ w.heap.size; omega) ⟨hb5.size |> fun _ => by simp [World.setCell], fun k _ hk0 => hk k hk0⟩
  · intro s hs
    rcases List.mem_cons.1 hs with rfl | hs
    · exact sec_zero
    · rw [List.mem_singleton.1 hs]; exact sec_zero
  · refine row_rd (t := 79) ?_ (by rw [wrsC_len (twoW_secs ep)]; rfl) (by omega) (by unfold maxLen; omega)
    rw [hk _ (by omega)]
    exact heap_alloc_new _ _
theorem g_one {ops : Array Oper} {rest : List Oper} {o : Oper} {a : Act} {w : World} {Q : Exit → Act → World → Prop} (hw : Region.wanted o (yielded ops a.tmps) = true) (h : wpList Try.prog ops Q ({ o with guard := none } :: rest) a w) : wpList Try.prog ops Q (o :: rest) a w := by
  unfold wpList at h ⊢
  rw [if_pos hw]
  rw [if_pos (by simp [Region.wanted])] at h
  exact h
theorem img_yes {c : Nat} {ss : List (List Int)} {ws : List Wr} {n : Nat} {w : World} {e : Ending} {w' : World} (h : ImgDone c ss ws n w e w') (hk : imgOk c ws n = true) : Below w.heap.size w w' ∧ ∃ p cc, e = .returned (.tuple #[.slice p n cc, .bool true]) ∧ rows.Own w' w.heap.size 62 32 (.slice p n cc) n (cellsOf (imgUpto c ws ss ws.length)) := by
  refine ⟨h.1, ?_⟩
  rcases h.2 with ⟨h0, _⟩ | ⟨_, h1⟩
  · rw [hk] at h0; cases h0
  · exact h1
theorem all0 : allR (twoW 0) false 9 = ([0, 1, 4, 5], true) := by kernel_rfl
theorem all1 : allR (twoW 1) false 9 = ([0, 1, 5], true) := by kernel_rfl
theorem img4 : imgUpto 4 (twoW 0) [zero32, zero32] (twoW 0).length = [zero32, sec2] := by kernel_rfl
theorem ok4 : imgOk 4 (twoW 0) 2 = true := by kernel_rfl
theorem eqIn_two (w : World) : (Op.equalIn 10000 62 (.agg (u8s sec2).toArray) (.agg #[Value.int IntKind.u8 2, Value.int IntKind.u8 0, Value.int IntKind.u8 0, Value.int IntKind.u8 0, Value.int IntKind.u8 0, Value.int IntKind.u8 0, Value.int IntKind.u8 0, Value.int IntKind.u8 0, Value.int IntKind.u8 0, Value.int IntKind.u8 0, Value.int IntKind.u8 0, Value.int IntKind.u8 0, Value.int IntKind.u8 0, Value.int IntKind.u8 0, Value.int IntKind.u8 0, Value.int IntKind.u8 0, Value.int IntKind.u8 0, Value.int IntKind.u8 0, Value.int IntKind.u8 0, Value.int IntKind.u8 0, Value.int IntKind.u8 0, Value.int IntKind.u8 0, Value.int IntKind.u8 0, Value.int IntKind.u8 0, Value.int IntKind.u8 0, Value.int IntKind.u8 0, Value.int IntKind.u8 0, Value.int IntKind.u8 0, Value.int IntKind.u8 0, Value.int IntKind.u8 0, Value.int IntKind.u8 0, Value.int IntKind.u8 0])).run Try.prog w = .ok true w := by
  have h : ((.agg #[Value.int IntKind.u8 2, Value.int IntKind.u8 0, Value.int IntKind.u8 0, Value.int IntKind.u8 0, Value.int IntKind.u8 0, Value.int IntKind.u8 0, Value.int IntKind.u8 0, Value.int IntKind.u8 0, Value.int IntKind.u8 0, Value.int IntKind.u8 0, Value.int IntKind.u8 0, Value.int IntKind.u8 0, Value.int IntKind.u8 0, Value.int IntKind.u8 0, Value.int IntKind.u8 0, Value.int IntKind.u8 0, Value.int IntKind.u8 0, Value.int IntKind.u8 0, Value.int IntKind.u8 0, Value.int IntKind.u8 0, Value.int IntKind.u8 0, Value.int IntKind.u8 0, Value.int IntKind.u8 0, Value.int IntKind.u8 0, Value.int IntKind.u8 0, Value.int IntKind.u8 0, Value.int IntKind.u8 0, Value.int IntKind.u8 0, Value.int IntKind.u8 0, Value.int IntKind.u8 0, Value.int IntKind.u8 0, Value.int IntKind.u8 0]) : Value) = .agg (u8s sec2).toArray := by kernel_rfl
  rw [h, eqIn_sec w sec2_is sec2_is]
  simp
set_option maxRecDepth 100000 in
set_option maxHeartbeats 1600000 in
theorem cknows (w : World) : Calls Try.prog 7 #[] w fun e w' => e = .returned (.bool true) ∧ Below w.heap.size w w' := by
  have HT0 := Lib.hid (ctwo 0 (Or.inl rfl))
  have HT1 := Lib.hid (ctwo 1 (Or.inr rfl))
  go_enter Try.func7, Try.ntmps7
  go_upto_region 2 with (first | (go_at_call 34; refine (HT0.out _).mono ?_; rintro e w1 ⟨⟨g1, g2, rfl, hi⟩, hb1⟩; have HC := Lib.hid (ccnt (some ⟨g1, 0, none⟩) 2 2 (some ⟨g2, 0, none⟩) 2 2 (twoW 0) false 9 w1 ⟨hi.2.2.2.2.1, hi.2.2.2.2.2.1, by omega⟩); rw [all0] at HC; unfold stV at *; clear hi) | (go_at_call 21; refine HC.out.mono ?_; rintro e w2 ⟨rfl, hb2⟩; have hb12 := below_trans hb1 hb2; clear HC hb1 hb2))
  go_upto_region 3 with (first | (go_at_call 34; refine (HT1.out _).mono ?_; rintro e w3 ⟨⟨g3, g4, rfl, hi⟩, hb3⟩; have HC := Lib.hid (ccnt (some ⟨g3, 0, none⟩) 2 2 (some ⟨g4, 0, none⟩) 2 2 (twoW 1) false 9 w3 ⟨hi.2.2.2.2.1, hi.2.2.2.2.2.1, by omega⟩); rw [all1] at HC; unfold stV at *; clear hi) | (go_at_call 21; refine HC.out.mono ?_; rintro e w4 ⟨rfl, hb4⟩; have hb14 := below_trans hb12 (below_trans hb3 hb4); clear HC hb3 hb4))
  go_upto_region 4 with (first | (go_at_call 34; refine (HT0.out _).mono ?_; rintro e w5 ⟨⟨g5, g6, rfl, hi⟩, hb5⟩; have HC := Lib.hid (cimage 4 (some ⟨g5, 0, none⟩) 2 2 (some ⟨g6, 0, none⟩) 2 2 [zero32, zero32] (twoW 0) w5 (by omega) hi); unfold stV at *; clear hi) | (go_at_call 14; refine HC.out.mono ?_; intro e w6 hd; obtain ⟨hb6, p6, c6, rfl, ho6⟩ := img_yes hd ok4; rw [img4] at ho6; have HO6 := Lib.hid ho6; have hb16 := below_trans hb14 (below_trans hb5 hb6); clear hd ho6 hb5 hb6 HC))
  have hb : ∃ b off, p6 = some ⟨b, off, none⟩ ∧ 2 ≤ c6 ∧ c6 ≤ maxLen ∧ w6.rangeAt b off (u8s zero32) ∧ w6.rangeAt b (off + 32) (u8s sec2) := by
    obtain ⟨b, off, hp, h2, h3, _, _, hr⟩ := row_at (j := 0) HO6.out.rd (ss := [zero32, sec2]) (by intro s hs; rcases List.mem_cons.1 hs with rfl | hs; exact sec_zero; rw [List.mem_singleton.1 hs]; exact sec2_is) (by omega)
    exact ⟨b, off, hp, h2, h3, by simpa using hr 0 (by simp), by simpa using hr 1 (by simp)⟩
  obtain ⟨b, off, rfl, hc2, hcm, hr0, hr1⟩ := hb
  have HR0 := Lib.hid hr0
  have HR1 := Lib.hid hr1
  have e0 := eqIn_zero w6 sec_zero
  have e0b : decide (zero32 = sec.zero32) = true := by decide
  rw [e0b] at e0
  have e2 := eqIn_two w6
  clear hr0 hr1 e0b
  go_wp2_with (first | (refine g_one (by rfl) ?_; refine load_mid rfl (.tmp 44) rfl b off rfl zero32 sec_zero.1 HR0.out ?_) | (refine g_one (by rfl) ?_; refine load_mid rfl (.tmp 51) rfl b (off + 32) rfl sec2 sec2_is.1 HR1.out ?_))
  go_ret
  exact ⟨rfl, hb16⟩
end Go.Proofs.Ytpnepooobmbfbaa.dsk
