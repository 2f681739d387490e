/- What the code's Fail gives. -/
import Derived.Test.YteobhljkjgocdaaDcTell
namespace Go.Proofs.Yteobhljkjgocdaa.dsk
open Go.ChangeShapes Go.WideShapes Go.ChangeAt Go.RowKit
open Go.Proofs.Yteobhljkjgocdaa.rows
open Go.Proofs.Yteobhljkjgocdaa.sec
open Go.Maps
set_option linter.unusedVariables false
set_option linter.unusedSimpArgs false

theorem run_makeHint {t k e : TypeId} (hu : Try.prog.underlying t = some (.map k e)) (q : Nat) (hq : q ≤ 1000) (w : World) : (Instr.makeMap t (some (.int .i64 (q : Int)))).run Try.prog w = .ok (.map (some w.heap.size)) (w.alloc (.map #[] 0)) := by
  simp [Instr.makeMap, run_underlying hu, go_sem, Result.andThen]
theorem mem_take_succ {zs : List Int} {j : Nat} (h : j < zs.length) (k : Int) : (k ∈ zs.take (j + 1)) ↔ (k ∈ zs.take j ∨ k = zs[j]) := by
  rw [List.take_succ_eq_append_getElem h, List.mem_append, List.mem_singleton]
set_option maxHeartbeats 1600000 in
theorem cfail (w : World) (F : Nat → Prop) (d : Value) (st : St) (p : Option Addr) (q c : Nat) (zs : List Int) (h : CA w F d st) (hf : st.fine) (hz : Rd w 1 (.slice p q c) q (i64s zs)) (hzi : InS (fun b => ¬ F b) (.slice p q c)) (hq : q ≤ 50) (hwz : ∀ x ∈ zs, wf64 x) :
    Calls Try.prog 14 #[d, .slice p q c] w fun e w' => e = .returned (.tuple #[]) ∧ CA w' (grow F w w') d (fail st zs) ∧ Touch F w w' := by
  obtain ⟨z, g, vs, vw, vn, vl, vf, rfl, h⟩ := h
  have HM := Lib.hid (cmade g w (cell_row h.row 0 _ rfl))
  have HA := Lib.hid h
  have hlt := h.lt
  have c6 : w.cell? ⟨g, 6, none⟩ = some (.int .i64 st.asked) := cell_row h.row 6 _ rfl
  have z6 := frozen_row h.row 6
  have c7 : w.cell? ⟨g, 7, none⟩ = some vf := cell_row h.row 7 _ rfl
  have z7 := frozen_row h.row 7
  have hmm := fun w => run_makeHint und_faults q (by omega) w
  have hzl : zs.length = q := by have := hz.cells; simpa [i64s] using this
  have HZL := Lib.hid hzl
  have HWZ := Lib.hid hwz
  have HZ := Lib.hid hz
  have HZI := Lib.hid hzi
  clear hzl hwz hz hzi
  clear h hf
  go_enter Try.func14, Try.ntmps14
  go_wp2_with (go_at_call 30; refine HM.out.mono ?_; rintro e w0 ⟨rfl, rfl⟩)
  obtain ⟨W2, hW2⟩ : ∃ W2, W2 = ((w.setCell ⟨g, 6, none⟩ (.int .i64 0)).setCell ⟨g, 7, none⟩ (.map (some w.heap.size))).alloc (.map #[] 0) := ⟨_, rfl⟩
  have hs2 : W2.heap.size = w.heap.size + 1 := by rw [hW2, size_alloc, size_set, size_set]
  have hT2 : Touch (· = g) w W2 := by
    rw [hW2]
    exact (Touch.setCell (S := (· = g)) (Touch.setCell (S := (· = g)) (Touch.refl _ w) ⟨g, 6, none⟩ rfl _) ⟨g, 7, none⟩ rfl _).alloc _
  have HR2 : Hid (W2.heap[g]? = some (.cells #[.pointer (some ⟨g, 0, none⟩), vs, vw, vn, .int .i64 st.ep, vl, .int .i64 0, .map (some w.heap.size)] 70 (0, 0))) := by
    rw [hW2]
    exact Lib.hid (row_alloc (setCell_heap (setCell_heap HA.out.row (.int .i64 0)) _) _)
  have HO0 : Hid (∃ D : DataW Unit, W2.ownsMap Try.prog 3 unitElem w.heap.size 0 D ∧ ∀ k : Int, wf64 k → 0 ≤ k → Maps.has D (.int .i64 k) = decide (k ∈ zs.take 0)) := by
    refine Lib.hid ⟨.map [], ?_, fun k _ _ => by simp [Maps.has]⟩
    have h1 := World.ownsMap_made (H := Unit) ((w.setCell ⟨g, 6, none⟩ (.int .i64 0)).setCell ⟨g, 7, none⟩ (.map (some w.heap.size))) Try.prog 3 unitElem
    rw [size_set, size_set] at h1
    rw [hW2]
    exact h1
  have HT2 := Lib.hid hT2
  rw [← hW2]
  clear hW2 c6 z6 c7 z7 hT2
  go_loopw [20] (fun iv wr => ∃ (j : Nat), j ≤ q ∧ iv = .int .i64 (j : Int) ∧ Hid (∃ D : DataW Unit, wr.ownsMap Try.prog 3 unitElem w.heap.size j D ∧ ∀ k : Int, wf64 k → 0 ≤ k → Maps.has D (.int .i64 k) = decide (k ∈ zs.take j)) ∧ Hid (Touch (· = w.heap.size) W2 wr)) (fun iv _ => q - (intOf iv).toNat)
  case atStart => exact ⟨0, by omega, rfl, HO0, Lib.hid (Touch.refl _ _)⟩
  case round =>
    clear HO0
    obtain ⟨j, hj, rfl, HO, HT⟩ := hrel
    by_cases ha : j < q
    · have ha1 : (j:Int) < q := by omega
      have hjl : j < zs.length := by rw [HZL.out]; exact ha
      have c7 : wr.cell? ⟨g, 7, none⟩ = some (.map (some w.heap.size)) := cell_row ((HT.out.block g (by omega) (by omega)).trans HR2.out) 7 _ rfl
      have HZR : Hid (Rd wr 1 (.slice p q c) q (i64s zs)) := Lib.hid (Rd.kept (S := fun b => b < w.heap.size ∧ b ≠ g) HZ.out (fun a n c' hv hn => by
        refine ⟨?_, fun e => HZI.out a n c' hv hn (by rw [e]; exact HA.out.own.1)⟩
        rcases HZ.out with ⟨p', cap', e1, e2, _⟩ | ⟨b, off, cap', e1, _, _, _, hlt, _⟩
        · rw [e1] at hv; cases hv; omega
        · rw [e1] at hv; cases hv; exact hlt) ⟨by have := HT.out.size; omega, fun k hk hk2 => (HT.out.block k (by omega) (by omega)).trans (HT2.out.block k hk hk2.2)⟩)
      obtain ⟨b1, o1, rfl, hc1, hm1, hh1, hl1, HR1⟩ := HZR.out.at ha
      have hr1 := HR1 j ha
      have HX : Hid (zs[j] = zs.getD j 0) := Lib.hid (by simp [List.getD, hjl])
      have hwx : wf64 (zs.getD j 0) := by rw [← HX.out]; exact HWZ.out _ (List.getElem_mem hjl)
      have HTK := Lib.hid (mem_take_succ hjl)
      rw [HX.out] at HTK
      obtain ⟨D, hD, hhas⟩ := HO.out
      have HH := Lib.hid hhas
      generalize zs.getD j 0 = x at *
      have HWX := Lib.hid hwx
      have hxx := wf_i64 hwx
      clear HR1 hl1 HO hhas hwx HZR
      by_cases hx : 0 ≤ x
      · have dx : decide (0 ≤ x) = true := by simpa using hx
        go_wp2_with (at_mapUpdate; refine wpList_mapUpdate_own _ rfl _ _ _ 68 rfl 3 77 key_int und_faults unitElem w.heap.size j D rfl hD (by unfold maxLen; omega) _ _ (.int .i64 x) rfl rfl (keyAt_int HWX.out) (.agg []) [] unitElem_mk ?_; intro w3 hown3 hgrow3)
        have HO3 : Hid (∃ D : DataW Unit, w3.ownsMap Try.prog 3 unitElem w.heap.size (j + 1) D ∧ ∀ k : Int, wf64 k → 0 ≤ k → Maps.has D (.int .i64 k) = decide (k ∈ zs.take (j + 1))) := Lib.hid ⟨_, hown3, fun k hk hk0 => by
          have h1 := HTK.out k
          by_cases e : k = x
          · subst e
            rw [Maps.has_put_same hD.isMap (isKey_int k), decide_eq_true (h1.2 (Or.inr rfl))]
          · rw [Maps.has_put_other (by intro e2; injection e2; omega), HH.out k hk hk0]
            simp [h1, e]⟩
        have HT3 : Hid (Touch (· = w.heap.size) W2 w3) := Lib.hid (HT.out.trans ⟨hgrow3.os, hgrow3.tape, hgrow3.output, hgrow3.size, fun k hk hn => hgrow3.block k hk (fun e => hn (by injection e))⟩)
        go_roundw
        case rel => exact ⟨j + 1, by omega, by go_num, HO3, HT3⟩
        case measure => simp [intOf]; omega
      · have dx : decide (0 ≤ x) = false := by simp; omega
        go_wp2_with fail
        have HO3 : Hid (∃ D : DataW Unit, wr.ownsMap Try.prog 3 unitElem w.heap.size (j + 1) D ∧ ∀ k : Int, wf64 k → 0 ≤ k → Maps.has D (.int .i64 k) = decide (k ∈ zs.take (j + 1))) := Lib.hid ⟨_, hD.mono (Nat.le_succ _), fun k hk hk0 => by
          have h1 := HTK.out k
          rw [HH.out k hk hk0]
          have e : k ≠ x := by omega
          simp [h1, e]⟩
        go_roundw
        case rel => exact ⟨j + 1, by omega, by go_num, HO3, HT⟩
        case measure => simp [intOf]; omega
    · obtain rfl : j = q := by omega
      obtain ⟨D, hD, hhas⟩ := HO.out
      have hTw : Touch (· = g) w wr := HT2.out.trans' HT.out (fun i hi => Or.inr (by omega))
      have hfin : CodeAt wr (grow F w wr) (fun b => if b < w.heap.size then z b else 5) g (fail st zs) vs vw vn vl (.map (some w.heap.size)) := by
        have h1 : CodeAt w (grow F w wr) (fun b => if b < w.heap.size then z b else 5) g st vs vw vn vl vf := HA.out.wider (fun b hb => Or.inl hb) (fun b hb => if_pos hb)
        have hg0 : ¬ ∃ k, k ≠ 0 ∧ (if g < w.heap.size then z g else 5) = k := by rw [if_pos hlt, HA.out.own.2]; rintro ⟨k, h1, h2⟩; omega
        have hsz := HT.out.size
        refine h1.change (st := st) (ep := st.ep) (ask := 0) (bad := zs) hTw ?_ ?_ ?_ ?_ ?_ ((HT.out.block g (by omega) (by omega)).trans HR2.out) ?_
        · rintro b rfl hb; exact hg0 ⟨1, by decide, hb.2⟩
        · rintro b rfl hb; exact hg0 ⟨2, by decide, hb.2⟩
        · rintro b rfl hb; exact hg0 ⟨3, by decide, hb.2⟩
        · rintro b rfl hb; exact hg0 ⟨4, by decide, hb.2⟩
        · rintro b rfl hb; exact hg0 ⟨6, by decide, hb.2⟩
        · refine Or.inr ⟨w.heap.size, j, D, rfl, ⟨Or.inr ⟨Nat.le_refl _, by omega⟩, if_neg (by omega)⟩, by omega, hD, fun k hk hk0 => ?_⟩
          rw [hhas k hk hk0, List.take_of_length_le (by rw [HZL.out]; omega)]
      go_wp2_with fail
      go_end0
      exact ⟨rfl, ⟨_, g, vs, vw, vn, vl, _, rfl, hfin⟩, hTw.mono fun b hb => by rw [hb]; exact HA.out.own.1⟩
end Go.Proofs.Yteobhljkjgocdaa.dsk
