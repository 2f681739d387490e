/- What the reference's Write gives. -/
import Derived.Test.YteobhljkjgocdaaDskBuild
namespace Go.Proofs.Yteobhljkjgocdaa.dsk
open Go.ChangeShapes Go.WideShapes Go.ChangeAt Go.RowKit
open Go.Proofs.Yteobhljkjgocdaa.rows
open Go.Proofs.Yteobhljkjgocdaa.sec
set_option linter.unusedVariables false
set_option linter.unusedSimpArgs false

theorem refAt_mono {w : World} {S S' : Nat → Prop} {g : Nat} {st : St} {vs vw vl vb : Value} (h : RefAt w S g st vs vw vl vb) (hS : ∀ b, S b → S' b) : RefAt w S' g st vs vw vl vb := by
  have hm : ∀ b, (S b ∧ b ≠ g) → (S' b ∧ b ≠ g) := fun b hb => ⟨hS b hb.1, hb.2⟩
  obtain ⟨es, he⟩ := h.log
  exact ⟨h.row, hS _ h.own, h.safe, h.safeS.mono hm, h.wait, h.waitS.mono hm, ⟨es, evs_kept he (Keeps.refl _ _) hm⟩, h.bad, h.badS.mono hm⟩
theorem refAt_later {w w' : World} {S : Nat → Prop} {g : Nat} {st : St} {vs vw vl vb : Value} (h : RefAt w S g st vs vw vl vb) (hb : Below w.heap.size w w') : RefAt w' S g st vs vw vl vb := by
  obtain ⟨es, he⟩ := h.log
  exact ⟨row_later h.row hb h.lt, h.own, h.safe.later hb, h.safeS, h.wait.later hb, h.waitS, ⟨es, evs_kept he (Keeps.of_below hb) fun b hb => hb⟩, h.bad.later hb, h.badS⟩
theorem refIs_grow {w0 w w' : World} {S : Nat → Prop} {g : Nat} {st : St} (h : RefIs w' (grow S w w') g st) (hs : w0.heap.size ≤ w.heap.size) : RefIs w' (grow S w0 w') g st := by
  obtain ⟨vs, vw, vl, vb, h⟩ := h
  exact ⟨vs, vw, vl, vb, refAt_mono h fun b hb => by
    rcases hb with hb | hb
    · exact Or.inl hb
    · exact Or.inr ⟨by omega, hb.2⟩⟩
def writeR (st : St) (i : Int) (s : List Int) (k id : Int) : Int × St :=
  if 0 ≤ i ∧ i < (st.safe.length : Int) then
    if asks st = true then (3, st.asked1) else (0, { st with asked := st.asked + 1, wait := st.wait ++ [⟨i, s, k, id, st.ep⟩], log := st.log ++ [(1, ⟨i, s, k, id, st.ep⟩, [])] })
  else (1, st.asked1)
theorem asked1_done {w w1 : World} {S : Nat → Prop} {g : Nat} {st : St} {vs vw vl vb : Value} (h : RefAt w S g st vs vw vl vb) (ht : Touch (· = g) w w1)
    (hr : w1.heap[g]? = some (.cells #[vs, vw, .int .i64 st.ep, vl, vb, .int .i64 (st.asked + 1)] 53 (0, 0))) : RefIs w1 (grow S w w1) g st.asked1 :=
  ⟨_, _, _, _, hr, Or.inl h.own, (h.keepSafe ht).1, (h.keepSafe ht).2, (h.keepWait ht).1, (h.keepWait ht).2, h.keepLog ht, (h.keepBad ht).1, (h.keepBad ht).2⟩
set_option maxHeartbeats 1600000 in
theorem rwrite_no (S : Nat → Prop) (g : Nat) (st : St) (w : World) (h : RefIs w S g st) (hf : st.few) (hsl : st.safe.length ≤ 1000) (i : Int) (s : List Int) (k id : Int) (hi : (Lit.int .i64 i).wf = true) (hn : ¬ (0 ≤ i ∧ i < (st.safe.length : Int)) ∨ asks st = true) :
    Calls Try.prog 38 #[.pointer (some ⟨g, 0, none⟩), .int .i64 i, agg s, .agg #[.int .i64 k, .int .i64 id]] w (RefDone S g w (if 0 ≤ i ∧ i < (st.safe.length : Int) then 3 else 1, st.asked1)) := by
  obtain ⟨vs, vw, vl, vb, h⟩ := h
  obtain ⟨ps, cs, hvs⟩ := slice_of h.safe
  subst hvs
  have hx := wf_i64 hi
  obtain ⟨W, hW⟩ : ∃ W, W = (w.alloc (.cells (u8s s).toArray 35)).alloc (.cells #[.int .i64 k, .int .i64 id] 37) := ⟨_, rfl⟩
  have hbW : Below w.heap.size w W := by rw [hW]; exact below_alloc (below_alloc (Below.refl _ _) _) _
  have hA := refAt_later h hbW
  have HA := Lib.hid hA
  have HF := Lib.hid (rfails' S g st _ vw vl vb W hA (by have := hf.bn; omega) ⟨hf.as0, by have := hf.as1; omega⟩)
  have HBW := Lib.hid hbW
  have HW := Lib.hid hW
  have hfin : ∀ w1, Touch (· = g) W w1 → w1.heap[g]? = some (.cells #[.slice ps st.safe.length cs, vw, .int .i64 st.ep, vl, vb, .int .i64 (st.asked + 1)] 53 (0, 0)) → RefIs w1 (grow S w w1) g st.asked1 ∧ Touch (· = g) w w1 := fun w1 ht hr =>
    ⟨refIs_grow (asked1_done hA ht hr) hbW.size, (Touch.of_below hbW).trans ht⟩
  have HFIN := Lib.hid hfin
  have HAK : Hid (asks st = decide (st.asked ∈ st.bad)) := Lib.hid rfl
  by_cases hin : 0 ≤ i ∧ i < (st.safe.length : Int)
  · have hd : decide (st.asked ∈ st.bad) = true := by
      rcases hn with hn | hn
      · exact absurd hin hn
      · exact hn
    rw [if_pos hin]
    rw [hd] at HF
    obtain ⟨hi0, hi1⟩ := hin
    have d0 : decide (i < 0) = false := by simp; omega
    have d1 : decide ((st.safe.length : Int) ≤ i) = false := by simp; omega
    generalize st.safe.length = n at *
    clear h hA hbW hW hn hf hfin hd
    go_enter Try.func38, Try.ntmps38
    go_wp2_with fail
    rw [← HW.out]
    refine HF.out.mono ?_
    rintro e w1 ⟨rfl, hrow, ht, hsz⟩
    have c0 : w1.cell? ⟨g, 0, none⟩ = some (.slice ps n cs) := cell_row hrow 0 _ rfl
    have HR := Lib.hid (HFIN.out w1 ht hrow)
    clear hrow ht hsz
    go_wp2_with fail
    go_ret
    exact ⟨rfl, HR.out.1, HR.out.2⟩
  · rw [if_neg hin]
    have hd : i < 0 ∨ (0 ≤ i ∧ (st.safe.length : Int) ≤ i) := by omega
    obtain ⟨q, hq⟩ : ∃ q, decide (st.asked ∈ st.bad) = q := ⟨_, rfl⟩
    rw [hq] at HF
    generalize st.safe.length = n at *
    clear h hA hbW hW hn hf hfin hin hq
    rcases hd with hd | ⟨hd, hd2⟩
    · have d0 : decide (i < 0) = true := by simpa using hd
      go_enter Try.func38, Try.ntmps38
      go_wp2_with fail
      rw [← HW.out]
      refine HF.out.mono ?_
      rintro e w1 ⟨rfl, hrow, ht, hsz⟩
      have c0 : w1.cell? ⟨g, 0, none⟩ = some (.slice ps n cs) := cell_row hrow 0 _ rfl
      have HR := Lib.hid (HFIN.out w1 ht hrow)
      clear hrow ht hsz
      go_wp2_with fail
      go_ret
      exact ⟨rfl, HR.out.1, HR.out.2⟩
    · have d0 : decide (i < 0) = false := by simp; omega
      have d1 : decide ((n : Int) ≤ i) = true := by simp; omega
      go_enter Try.func38, Try.ntmps38
      go_wp2_with fail
      rw [← HW.out]
      refine HF.out.mono ?_
      rintro e w1 ⟨rfl, hrow, ht, hsz⟩
      have c0 : w1.cell? ⟨g, 0, none⟩ = some (.slice ps n cs) := cell_row hrow 0 _ rfl
      have HR := Lib.hid (HFIN.out w1 ht hrow)
      clear hrow ht hsz
      go_wp2_with fail
      go_ret
      exact ⟨rfl, HR.out.1, HR.out.2⟩
end Go.Proofs.Yteobhljkjgocdaa.dsk
