/- What the code's Barrier gives. -/
import Derived.Test.YteobhljkjgocdaaDcLog
namespace Go.Proofs.Yteobhljkjgocdaa.dsk
open Go.ChangeShapes Go.WideShapes Go.ChangeAt Go.RowKit
open Go.Proofs.Yteobhljkjgocdaa.rows
open Go.Proofs.Yteobhljkjgocdaa.sec
open Go.Maps
set_option linter.unusedVariables false
set_option linter.unusedSimpArgs false

/-- nothing but the count has turned -/
theorem asked_done {F : Nat → Prop} {z : Nat → Nat} {g : Nat} {st : St} {vs vw vn vl vf : Value} {w w' : World} {r : Int} (h : CodeAt w' F z g st.asked1 vs vw vn vl vf) (ht : Touch (fun b => F b ∧ (z b = 0 ∨ z b = 5)) w w') :
    CodeDone CA F (.pointer (some ⟨g, 0, none⟩)) w (r, st.asked1) (.returned (.int .i64 r)) w' :=
  ⟨rfl, ⟨z, g, vs, vw, vn, vl, vf, rfl, h.wider (fun b hb => Or.inl hb) fun _ _ => rfl⟩, ht.mono fun b hb => hb.1⟩
theorem zne {F : Nat → Prop} {z : Nat → Nat} {i j b c : Nat} (h : Zn F z i b) (k : Zn F z j c) (hij : i ≠ j) : b ≠ c := fun e => hij (by rw [← h.2, ← k.2, e])
set_option maxHeartbeats 1600000 in
theorem cbarrier (w : World) (F : Nat → Prop) (d : Value) (st : St) (h : CA w F d st) (hf : st.fine) : Calls Try.prog 11 #[d] w (CodeDone CA F d w (barrier st)) := by
  obtain ⟨z, g, vs, vw, vn, vl, vf, rfl, h⟩ := h
  have HM := Lib.hid (cmade g w (cell_row h.row 0 _ rfl))
  have HF := Lib.hid (ccount F z g st vs vw vn vl vf w h ⟨hf.few.as0, by have := hf.few.as1; omega⟩)
  have hep := hf.few.ep0
  have hep1 := hf.few.ep1
  have hln := hf.few.ln
  by_cases hd : asks st = true
  · have hb : barrier st = (3, st.asked1) := if_pos hd
    rw [hb]
    unfold CountDone at HF
    rw [hd] at HF
    clear h hf hb hd
    go_enter Try.func11, Try.ntmps11
    go_wp2_with (first | (go_at_call 30; refine HM.out.mono ?_; rintro e w0 ⟨rfl, rfl⟩) | (go_at_call 34; refine HF.out.mono ?_; rintro e w1 ⟨rfl, hc, ht⟩; have HC := Lib.hid hc; have HT := Lib.hid ht; clear hc ht))
    go_ret
    exact asked_done HC.out HT.out
  · have hb : barrier st = (0, { st with asked := st.asked + 1, ep := st.ep + 1, log := st.log ++ [(3, w0, [])] }) := if_neg hd
    rw [hb]
    unfold CountDone at HF
    rw [Bool.not_eq_true] at hd
    rw [hd] at HF
    generalize hn : st.log.length = n at *
    have HN := Lib.hid hn
    have HZ0 := Lib.hid h.own
    clear h hf hb hd hn
    go_enter Try.func11, Try.ntmps11
    go_wp2_with (go_at_call 30; refine HM.out.mono ?_; rintro e w0 ⟨rfl, rfl⟩)
    refine HF.out.mono ?_
    rintro e w1 ⟨rfl, hc, ht⟩
    obtain ⟨es, hes⟩ := hc.log
    obtain ⟨pl, cl, hvl⟩ := hes.own.slice
    have hn2 : st.asked1.log.length = n := HN.out
    rw [hn2] at hvl
    subst hvl
    have HC := Lib.hid hc
    have HT := Lib.hid ht
    have HES := Lib.hid hes
    have hlt1 := hc.lt
    have c4 : w1.cell? ⟨g, 4, none⟩ = some (.int .i64 st.ep) := cell_row hc.row 4 _ rfl
    have z4 := frozen_row hc.row 4
    have c5 : w1.cell? ⟨g, 5, none⟩ = some (.slice pl n cl) := cell_row hc.row 5 _ rfl
    have hon : ∀ k, (Value.slice pl n cl).ownBlock = some k → Zn F z 4 k := hc.logS
    have hng : ∀ k, (Value.slice pl n cl).ownBlock = some k → k ≠ g := fun k hk => zne (hon k hk) hc.own (by decide)
    have HO : Hid (Own ((w1.setCell ⟨g, 4, none⟩ (.int .i64 (st.ep + 1))).alloc (.cells (evC (3, w0, []) (.slice none 0 0)).toArray 79)) 0 79 38 (.slice pl n cl) n (((st.log.zip es).map fun x => evC x.1 x.2).flatten)) := by
      have h1 := hes.own
      rw [hn2] at h1
      exact Lib.hid ((own_kept h1 (S := (· ≠ g)) (fun k hk => hng k hk) (Keeps.set (fun k hk => hk) _)).alloc _)
    have HON2 := Lib.hid (evC_ones (3, w0, []) (.slice none 0 0) rfl)
    clear hc ht hes
    go_wp2_with (first | (refine wpList_buildTo rfl 79 #[(0, .const (.int .i64 3))] rfl (some 20) rfl (evC (3, w0, []) (.slice none 0 0)).toArray (by kernel_rfl) ?_) | (refine build_one elem_evs (by decide) rfl (.tmp 20) rfl (evC (3, w0, []) (.slice none 0 0)) rfl rfl ?_) | (at_builtin; refine ap_rd3 elem_evs rfl (.tmp 19) (.tmp 21) rfl _ n _ rfl HO.out _ 1 _ rfl (rd_laid _ _ _ _ rfl) HON2.out (by omega) ?_; intro pb cb wb ho hT hloc; have HO2 := Lib.hid ho; have HTB := Lib.hid hT; have HLOC := Lib.hid hloc; have hrb : wb.heap[g]? = _ := (hT.block g (by rw [size_alloc, size_set]; omega) (fun e => hng g e rfl)).trans (row_alloc (setCell_heap HC.out.row (.int .i64 (st.ep + 1))) _); have c5b : wb.cell? ⟨g, 5, none⟩ = some (.slice pl n cl) := cell_row hrb 5 _ rfl; have z5b := frozen_row hrb 5; have HRB := Lib.hid hrb; clear hrb ho hT hloc))
    have hz0 : z g = 0 := HZ0.out.2
    have hF0 : F g := HZ0.out.1
    have T2 : Touch (fun b => F b ∧ (z b = 0 ∨ z b = 4)) w1 (wb.setCell ⟨g, 5, none⟩ (.slice pb (n + 1) cb)) := by
      have h1 : Touch (fun b => F b ∧ (z b = 0 ∨ z b = 4)) w1 ((w1.setCell ⟨g, 4, none⟩ (.int .i64 (st.ep + 1))).alloc (.cells (evC (3, w0, []) (.slice none 0 0)).toArray 79)) := (Touch.setCell (Touch.refl _ w1) ⟨g, 4, none⟩ ⟨hF0, Or.inl hz0⟩ _).alloc _
      exact Touch.setCell (h1.trans (HTB.out.mono fun b hb => ⟨(hon b hb).1, Or.inr (hon b hb).2⟩)) ⟨g, 5, none⟩ ⟨hF0, Or.inl hz0⟩ _
    have hsz : (w1.setCell ⟨g, 4, none⟩ (.int .i64 (st.ep + 1))).heap.size = w1.heap.size := size_set _ _ _
    have hfin := codeAt_log (ev := (3, w0, [])) (t := .slice none 0 0) (ep := st.ep + 1) (z' := fun b => if b < w1.heap.size then z b else 4) HC.out HES.out T2 (fun b hb => hb) (fun b hb => if_pos hb) (setCell_heap HRB.out _)
      (by
        have h1 := HO2.out
        have h2 : st.asked1.log.length = n := HN.out
        rw [h2]
        exact own_kept h1 (S := (· ≠ g)) (fun k hk => by
          rcases HLOC.out k hk with h | ⟨h, _⟩
          · exact hng k h
          · rw [size_alloc, size_set] at h; omega) (Keeps.set (fun k hk => hk) _))
      (fun k hk => by
        rcases HLOC.out k hk with h | ⟨h, h2⟩
        · exact Or.inl h
        · rw [size_alloc, size_set] at h
          exact Or.inr ⟨by omega, by rw [size_set]; exact h2, if_neg (by omega)⟩)
      ⟨none, 0, rfl, rd_nil _ 2, inS_nil _⟩
    have hT : Touch F w (wb.setCell ⟨g, 5, none⟩ (.slice pb (n + 1) cb)) := (HT.out.mono fun b hb => hb.1).trans (T2.mono fun b hb => hb.1)
    go_ret
    refine ⟨rfl, ⟨_, g, vs, vw, vn, _, vf, rfl, hfin.wider (fun b hb => ?_) (fun _ _ => rfl)⟩, hT⟩
    have hs := HT.out.size
    rcases hb with hb | ⟨h1, h2⟩
    · exact Or.inl hb
    · exact Or.inr ⟨by omega, h2⟩
end Go.Proofs.Yteobhljkjgocdaa.dsk
