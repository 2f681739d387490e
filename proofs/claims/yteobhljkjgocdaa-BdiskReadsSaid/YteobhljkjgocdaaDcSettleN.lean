/- What the code's settle gives where nothing waits in a block. -/
import Derived.Test.YteobhljkjgocdaaDcSettle
namespace Go.Proofs.Yteobhljkjgocdaa.dsk
open Go.ChangeShapes Go.WideShapes Go.ChangeAt Go.RowKit
open Go.Proofs.Yteobhljkjgocdaa.rows
open Go.Proofs.Yteobhljkjgocdaa.sec
open Go.Maps
set_option linter.unusedVariables false
set_option linter.unusedSimpArgs false

set_option maxHeartbeats 3200000 in
set_option maxRecDepth 100000 in
theorem csettle_nil (w : World) (F : Nat → Prop) (z : Nat → Nat) (g : Nat) (st : St) (vs vn vl vf : Value) (h : CodeAt w F z g st vs (.slice none 0 0) vn vl vf) (hw0 : st.wait = []) (hf : Mild st) (p : Option Addr) (q c : Nat) (ts : List (Int × Int))
    (ht : Rd w 2 (.slice p q c) q (tagsC ts)) (hti : InS (fun b => ¬ F b) (.slice p q c)) (hq : q ≤ 50) (hwt : ∀ t ∈ ts, wf64 t.1 ∧ wf64 t.2) :
    Calls Try.prog 36 #[.pointer (some ⟨g, 0, none⟩), .slice p q c] w fun e w' => e = .returned (.tuple #[]) ∧ ∃ vw', CodeAt w' F z g { st with safe := (settle st.safe st.wait ts).1, wait := (settle st.safe st.wait ts).2 } vs vw' vn vl vf ∧ Touch (fun b => F b ∧ (z b = 0 ∨ z b = 1 ∨ z b = 2)) w w' := by
  have hql : ts.length = q := Rd.count tagC ht (fun x _ => rfl) (by decide)
  have HQL := Lib.hid hql
  have HTG := Lib.hid ht
  have HTI := Lib.hid hti
  have HWT := Lib.hid hwt
  have HA := Lib.hid h
  have HFI := Lib.hid hf
  have hq1 : (q : Int) ≤ 50 := by omega
  have hmm := fun w => run_makeHint und_wanted q (by omega) w
  have hlt := h.lt
  have HW00 := Lib.hid hw0
  clear hql ht hti hwt h hf hw0
  go_enter Try.func36, Try.ntmps36
  go_wp2_with fail
  obtain ⟨W1, hW1⟩ : ∃ W1, W1 = w.alloc (.map #[] 0) := ⟨_, rfl⟩
  have HB1 : Hid (Below w.heap.size w W1) := Lib.hid (by rw [hW1]; exact below_alloc (Below.refl _ w) _)
  have hs1 : W1.heap.size = w.heap.size + 1 := by rw [hW1, size_alloc]
  have HW0 : Hid (∃ D : DataW Unit, W1.ownsMap Try.prog 37 unitElem w.heap.size 0 D ∧ ∀ k i : Int, wf64 k → wf64 i → Maps.has D (tagL k i) = decide ((k, i) ∈ ts.take 0)) := by
    rw [hW1]
    exact Lib.hid ⟨.map [], World.ownsMap_made _ _ _ _, fun _ _ _ _ => by simp [Maps.has]⟩
  rw [← hW1]
  clear hW1
  go_loopw [21] (fun iv wr => ∃ (jt : Nat), jt ≤ q ∧ iv = .int .i64 (jt : Int) ∧ Hid (Below w.heap.size w wr) ∧ w.heap.size + 1 ≤ wr.heap.size ∧ Hid (∃ D : DataW Unit, wr.ownsMap Try.prog 37 unitElem w.heap.size jt D ∧ ∀ k i : Int, wf64 k → wf64 i → Maps.has D (tagL k i) = decide ((k, i) ∈ ts.take jt))) (fun iv _ => q - (intOf iv).toNat)
  case atStart => exact ⟨0, by omega, rfl, HB1, by omega, HW0⟩
  case round =>
    clear HW0 HB1
    obtain ⟨jt, hj, rfl, HB, hsr, HO⟩ := hrel
    by_cases ha : jt < q
    · have ha1 : (jt:Int) < q := by omega
      have hjl : jt < ts.length := by rw [HQL.out]; exact ha
      obtain ⟨b1, o1, rfl, hc1, hm1, hh1, hl1, HR1⟩ := Rd.chunk tagC HTG.out (fun x _ => rfl) (by decide) ha
      have hr1 := Rd.rangeLater (HR1 jt hjl) hh1 HB.out
      have HX : Hid (ts[jt] = (ts[jt].1, ts[jt].2)) := Lib.hid rfl
      have hwx := HWT.out _ (List.getElem_mem hjl)
      obtain ⟨D, hD, hhas⟩ := HO.out
      have HH := Lib.hid hhas
      have HMORE : Hid (∀ (k i : Int) (w' : World), ts[jt] = (k, i) → wf64 k → wf64 i → w'.ownsMap Try.prog 37 unitElem w.heap.size (jt + 1) (D.put (tagL k i) (.agg [])) → (∃ D : DataW Unit, w'.ownsMap Try.prog 37 unitElem w.heap.size (jt + 1) D ∧ ∀ k i : Int, wf64 k → wf64 i → Maps.has D (tagL k i) = decide ((k, i) ∈ ts.take (jt + 1)))) := Lib.hid fun k i w' e hk hi h => wanted_more hjl e hk hi hD HH.out h
      generalize ts[jt] = x at *
      obtain ⟨x1, x2⟩ := x
      have HWX := Lib.hid hwx
      have hx1 := hr1 0 _ rfl
      have hx2 := hr1 1 _ rfl
      rw [Nat.add_zero] at hx1
      clear HR1 hl1 hr1 hwx hhas HO
      have hDa : (wr.alloc (.cells #[.int .i64 x1, .int .i64 x2] 37)).ownsMap Try.prog 37 unitElem w.heap.size jt D := by
        obtain ⟨es, clock, he, r⟩ := hD
        exact ⟨es, clock, row_alloc he _, r⟩
      go_wp2_with (at_mapUpdate; refine wpList_mapUpdate_own _ rfl _ _ _ 88 rfl 37 77 key_tag und_wanted unitElem w.heap.size jt D rfl hDa (by unfold maxLen; omega) _ _ (tagL x1 x2) rfl rfl (keyAt_tag HWX.out.1 HWX.out.2) (.agg []) [] unitElem_mk ?_; intro w3 hown3 hgrow3)
      have hB3 : Below w.heap.size w w3 := by
        have h1 : Below w.heap.size w (wr.alloc (.cells #[.int .i64 x1, .int .i64 x2] 37)) := below_alloc HB.out _
        exact h1.trans ⟨hgrow3.os, hgrow3.tape, hgrow3.output, hgrow3.size, fun k hk => hgrow3.block k (by have := h1.size; omega) (fun e => by injection e; omega)⟩
      have hs3 := hgrow3.size
      rw [size_alloc] at hs3
      go_roundw
      case rel => exact ⟨jt + 1, by omega, by go_num, Lib.hid hB3, by omega, Lib.hid (HMORE.out x1 x2 w3 HX.out HWX.out.1 HWX.out.2 hown3)⟩
      case measure => simp [intOf]; omega
    · obtain rfl : jt = q := by omega
      have HW1 : Hid (Wanted wr w.heap.size ts) := Lib.hid (by
        obtain ⟨D, hD, hh⟩ := HO.out
        rw [List.take_of_length_le (by rw [HQL.out]; omega)] at hh
        exact ⟨jt, D, by rw [HQL.out]; exact Nat.le_refl _, hD, hh⟩)
      clear HO
      have hrg := row_later HA.out.row HB.out hlt
      have c2 : wr.cell? ⟨g, 2, none⟩ = some (.slice none 0 0) := cell_row hrg 2 _ rfl
      have HRG := Lib.hid hrg
      have HAR := Lib.hid (codeAt_kept HA.out (Keeps.of_below HB.out))
      have HCL := Lib.hid (clast wr none 0 0 w.heap.size [] ts (rd_nil wr 36) (fun x hx => by cases hx) (fun x hx => by cases hx) (by omega) HW1.out)
      clear hrg
      go_wp2_with (go_at_call 47; refine HCL.out.mono ?_; rintro e w2 ⟨rfl, hb2⟩)
      have hz := zero_ar (fun _ => true) []
      have c2b : (w2.alloc (.cells (ar (setl (fun _ => true) [] 0)) 90)).cell? ⟨g, 2, none⟩ = some (.slice none 0 0) := cell_row (row_alloc (row_later HRG.out hb2 (by have := HB.out.size; omega)) _) 2 _ rfl
      have hb3 := below_alloc (HB.out.trans (hb2.mono HB.out.size)) (.cells (ar (setl (fun _ => true) [] 0)) 90)
      have HB3 := Lib.hid hb3
      clear hb2 HCL c2 hb3
      obtain ⟨L, hL⟩ : ∃ L, lastE ts ([] : List Wr) = L := ⟨_, rfl⟩
      rw [hL]
      rw [hz]
      simp only [Result.andThen_ok]
      clear hz hL
      generalize w2.alloc (.cells (ar (setl (fun _ => true) [] 0)) 90) = W2 at *
      go_wp2_with fail
      go_loopw [40] (fun iv wr => iv = .int .i64 0 ∧ wr = W2) (fun iv _ => 0)
      case atStart => exact ⟨rfl, rfl⟩
      case round =>
        obtain ⟨rfl, rfl⟩ := hrel
        go_wp2_with fail
        go_loopw [13, 84] (fun lv iv wr' => lv = .slice none 0 0 ∧ iv = .int .i64 0 ∧ Hid (wr' = wr)) (fun _ iv _ => 0)
        case atStart => exact ⟨rfl, rfl, Lib.hid rfl⟩
        case round =>
          obtain ⟨rfl, rfl, HE⟩ := hrel
          have hrw : wr.heap[g]? = some (.cells #[.pointer (some ⟨g, 0, none⟩), vs, .slice none 0 0, vn, .int .i64 st.ep, vl, .int .i64 st.asked, vf] 70 (0, 0)) := by rw [HE.out]; exact row_later HA.out.row HB3.out hlt
          have c2d : wr.cell? ⟨g, 2, none⟩ = some (.slice none 0 0) := cell_row hrw 2 _ rfl
          have z2 := frozen_row hrw 2
          have HROW := Lib.hid hrw
          clear hrw c2b
          go_wp2_with fail
          go_end0
          have hws := HW00.out
          have HSC : settle st.safe st.wait ts = (st.safe, []) := by rw [hws]; rfl
          rw [HSC]
          obtain ⟨es, he⟩ := HA.out.log
          have hT : Touch (fun b => F b ∧ (z b = 0 ∨ z b = 1 ∨ z b = 2)) w (wr.setCell ⟨g, 2, none⟩ (.slice none 0 0)) := Touch.setCell (Touch.of_below (by rw [HE.out]; exact HB3.out)) ⟨g, 2, none⟩ ⟨HA.out.own.1, Or.inl HA.out.own.2⟩ _
          have hk : Keeps (fun b => b ≠ g) w (wr.setCell ⟨g, 2, none⟩ (.slice none 0 0)) := (Keeps.of_below (by rw [HE.out]; exact HB3.out)).trans (Keeps.set (fun k hk => hk) _)
          have off : ∀ k, 1 ≤ k → Keeps (Zn F z k) w (wr.setCell ⟨g, 2, none⟩ (.slice none 0 0)) := fun k hk2 => hk.mono fun b hb e => by have h1 := hb.2; rw [e, HA.out.own.2] at h1; omega
          refine ⟨rfl, .slice none 0 0, ⟨setCell_heap HROW.out _, HA.out.own, own_kept HA.out.safe HA.out.safeS (off 1 (by decide)), HA.out.safeS, own_nil _ _ _ _, HA.out.waitS, ?_, HA.out.seenS, ⟨es, logIn_kept he HA.out.logS (off 4 (by decide)) (off 6 (by decide))⟩, HA.out.logS, faults_kept HA.out.faults (off 5 (by decide)), fun y hy => by cases hy⟩, hT⟩
          have h1 := own_kept HA.out.seen HA.out.seenS (off 3 (by decide))
          rw [seenOf, hws] at h1
          exact h1
end Go.Proofs.Yteobhljkjgocdaa.dsk
