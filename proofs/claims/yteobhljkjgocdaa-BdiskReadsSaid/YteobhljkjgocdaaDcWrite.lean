/- What the code's Write gives. -/
import Derived.Test.YteobhljkjgocdaaDcFail
namespace Go.Proofs.Yteobhljkjgocdaa.dsk
open Go.ChangeShapes Go.WideShapes Go.ChangeAt Go.RowKit
open Go.Proofs.Yteobhljkjgocdaa.rows
open Go.Proofs.Yteobhljkjgocdaa.sec
open Go.Maps
set_option linter.unusedVariables false
set_option linter.unusedSimpArgs false

theorem codeDone_of {w W w' : World} {F : Nat → Prop} {d : Value} {r : Int × St} {e : Ending} (hb : Below w.heap.size w W) (hF : ∀ b, F b → b < w.heap.size) (h : CodeDone CA F d W r e w') : CodeDone CA F d w r e w' := by
  obtain ⟨h1, ⟨z, g, vs, vw, vn, vl, vf, hd, h2⟩, h3⟩ := h
  have hs := hb.size
  refine ⟨h1, ⟨z, g, vs, vw, vn, vl, vf, hd, h2.wider (fun b hb2 => ?_) (fun _ _ => rfl)⟩, (Touch.of_below hb).trans h3⟩
  rcases hb2 with h | ⟨h4, h5⟩
  · exact Or.inl h
  · exact Or.inr ⟨by omega, h5⟩
set_option maxHeartbeats 1600000 in
theorem cwrite_no (w : World) (F : Nat → Prop) (d : Value) (st : St) (i : Int) (s : List Int) (k id : Int) (h : CA w F d st) (hf : st.fine) (hi : wf64 i) (hn : ¬ (0 ≤ i ∧ i < (st.safe.length : Int)) ∨ asks st = true) :
    Calls Try.prog 12 #[d, .int .i64 i, agg s, .agg #[.int .i64 k, .int .i64 id]] w (CodeDone CA F d w (if 0 ≤ i ∧ i < (st.safe.length : Int) then 3 else 1, st.asked1)) := by
  obtain ⟨z, g, vs, vw, vn, vl, vf, rfl, h⟩ := h
  obtain ⟨W, hW⟩ : ∃ W, W = (w.alloc (.cells (u8s s).toArray 35)).alloc (.cells #[.int .i64 k, .int .i64 id] 37) := ⟨_, rfl⟩
  have hbW : Below w.heap.size w W := by rw [hW]; exact below_alloc (below_alloc (Below.refl _ _) _) _
  have hA := codeAt_kept h (Keeps.of_below hbW)
  obtain ⟨ps, cs, hvs⟩ := h.safe.slice
  subst hvs
  have HM := Lib.hid (cmade g W (cell_row hA.row 0 _ rfl))
  have HF := Lib.hid (ccount F z g st _ vw vn vl vf W hA ⟨hf.few.as0, by have := hf.few.as1; omega⟩)
  unfold CountDone at HF
  have hn1 := hf.n1
  have HH := Lib.hid fun w' (h' : CodeAt w' F z g st.asked1 (.slice ps st.safe.length cs) vw vn vl vf) => chas g st.safe.length cs ps i w' (cell_row h'.row 1 _ rfl) hi (by omega)
  have HW := Lib.hid hW
  have HBW := Lib.hid hbW
  generalize st.safe.length = n at *
  by_cases hin : 0 ≤ i ∧ i < (n : Int)
  · have ha : asks st = true := by rcases hn with h | h; exact absurd hin h; exact h
    rw [if_pos hin]
    rw [ha] at HF
    rw [decide_eq_true hin] at HH
    clear h hA hf hW hbW hn hin ha hi
    go_enter Try.func12, Try.ntmps12
    go_wp2_with fail
    rw [← HW.out]
    refine HM.out.mono ?_
    rintro e w0 ⟨rfl, rfl⟩
    go_wp2_with (first | (go_at_call 34; refine HF.out.mono ?_; rintro e w1 ⟨rfl, hc, ht⟩; have HC := Lib.hid hc; have HT := Lib.hid ht; clear hc ht) | (go_at_call 35; refine (HH.out _ HC.out).mono ?_; rintro e w2 ⟨rfl, rfl⟩))
    have hfin : CodeDone CA F (.pointer (some ⟨g, 0, none⟩)) w (3, st.asked1) (.returned (.int .i64 3)) w1 := by
      obtain ⟨a1, ⟨z2, g2, b1, b2, b3, b4, b5, e1, a2⟩, a3⟩ := asked_done (r := 3) HC.out HT.out
      have hs := HBW.out.size
      refine ⟨rfl, ⟨z2, g2, b1, b2, b3, b4, b5, e1, a2.wider (fun b hb2 => ?_) (fun _ _ => rfl)⟩, (Touch.of_below HBW.out).trans a3⟩
      rcases hb2 with h | ⟨h4, h5⟩
      · exact Or.inl h
      · exact Or.inr ⟨by omega, h5⟩
    go_ret
    exact hfin
  · rw [if_neg hin]
    rw [decide_eq_false hin] at HH
    clear h hA hf hW hbW hn hin hi
    go_enter Try.func12, Try.ntmps12
    go_wp2_with fail
    rw [← HW.out]
    refine HM.out.mono ?_
    rintro e w0 ⟨rfl, rfl⟩
    go_wp2_with (first | (go_at_call 34; refine HF.out.mono ?_; rintro e w1 ⟨rfl, hc, ht⟩; have HC := Lib.hid hc; have HT := Lib.hid ht; clear hc ht) | (go_at_call 35; refine (HH.out _ HC.out).mono ?_; rintro e w2 ⟨rfl, rfl⟩))
    have hfin : CodeDone CA F (.pointer (some ⟨g, 0, none⟩)) w (1, st.asked1) (.returned (.int .i64 1)) w1 := by
      obtain ⟨a1, ⟨z2, g2, b1, b2, b3, b4, b5, e1, a2⟩, a3⟩ := asked_done (r := 1) HC.out HT.out
      have hs := HBW.out.size
      refine ⟨rfl, ⟨z2, g2, b1, b2, b3, b4, b5, e1, a2.wider (fun b hb2 => ?_) (fun _ _ => rfl)⟩, (Touch.of_below HBW.out).trans a3⟩
      rcases hb2 with h | ⟨h4, h5⟩
      · exact Or.inl h
      · exact Or.inr ⟨by omega, h5⟩
    go_ret
    exact hfin
/-- a pending write more, laid into what is read, and its event -/
theorem codeAt_write {w w' : World} {F T : Nat → Prop} {z z' : Nat → Nat} {g : Nat} {st : St} {vs vw vn vl vf vw' vl' t : Value} {es : List Value} {x : Wr} (h : CodeAt w F z g st vs vw vn vl vf) (he : LogIn (Zn F z 6) w vl st.log es) (ht : Touch T w w') (hT : ∀ b, T b → F b ∧ (z b = 0 ∨ z b = 2 ∨ z b = 3 ∨ z b = 4)) (hz : ∀ b, b < w.heap.size → z' b = z b)
    (row : w'.heap[g]? = some (.cells #[.pointer (some ⟨g, 0, none⟩), vs, vw', vn, .int .i64 st.ep, vl', .int .i64 st.asked, vf] 70 (0, 0)))
    (seen : Own w' 0 35 32 vn st.safe.length (cellsOf (outOf (fun _ => true) (st.wait ++ [x]) st.safe)))
    (wait : Own w' 0 74 36 vw' (st.wait.length + 1) (wrsC st.wait ++ x.c)) (wloc : ∀ k, vw'.ownBlock = some k → vw.ownBlock = some k ∨ (w.heap.size ≤ k ∧ k < w'.heap.size ∧ z' k = 2))
    (own : Own w' 0 79 38 vl' (st.log.length + 1) (((st.log.zip es).map fun x => evC x.1 x.2).flatten ++ evC (1, x, []) (.slice none 0 0))) (loc : ∀ k, vl'.ownBlock = some k → vl.ownBlock = some k ∨ (w.heap.size ≤ k ∧ k < w'.heap.size ∧ z' k = 4))
    (hx : 0 ≤ x.ep ∧ wf64 x.kind ∧ wf64 x.id) :
    CodeAt w' (grow F w w') z' g { st with wait := st.wait ++ [x], log := st.log ++ [(1, x, [])] } vs vw' vn vl' vf := by
  have hF : ∀ b, F b → grow F w w' b := fun b hb => Or.inl hb
  have off : ∀ k, k = 1 ∨ k = 5 ∨ k = 6 → Keeps (Zn F z k) w w' := fun k hk => zn_off ht fun b hb hb2 => by have h1 := (hT b hb).2; have h2 := hb2.2; omega
  refine ⟨row, ⟨hF _ h.own.1, (hz _ h.lt).trans h.own.2⟩, own_kept h.safe h.safeS (off 1 (by decide)), h.safeS.next h.safe hF hz, by simpa [wrsC] using wait, fun k hk => ?_, seen, h.seenS.next h.seen hF hz, ⟨es ++ [.slice none 0 0], ?_⟩, fun k hk => ?_, faults_next h.faults (off 5 (by decide)) fun b hb hb2 => ⟨hF b hb2.1, (hz b hb).trans hb2.2⟩, fun y hy => ?_⟩
  · rcases wloc k hk with h1 | ⟨h1, h2, h3⟩
    · exact h.waitS.next h.wait hF hz k h1
    · exact ⟨Or.inr ⟨h1, h2⟩, h3⟩
  · exact log_more he (off 6 (by decide)) (fun b hb hb2 => ⟨hF b hb2.1, (hz b hb).trans hb2.2⟩) own ⟨none, 0, rfl, rd_nil _ 2, inS_nil _⟩
  · rcases loc k hk with h1 | ⟨h1, h2, h3⟩
    · exact h.logS.next he.own hF hz k h1
    · exact ⟨Or.inr ⟨h1, h2⟩, h3⟩
  · rcases List.mem_append.1 hy with hy | hy
    · exact h.eps y hy
    · rw [List.mem_singleton.1 hy]; exact hx
end Go.Proofs.Yteobhljkjgocdaa.dsk
