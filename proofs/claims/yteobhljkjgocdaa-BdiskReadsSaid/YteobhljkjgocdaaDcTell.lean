/- What the readers of the code's disk give: Safe, Waiting, Log, Epoch, Read. -/
import Derived.Test.YteobhljkjgocdaaDcCopy
namespace Go.Proofs.Yteobhljkjgocdaa.dsk
open Go.ChangeShapes Go.WideShapes Go.ChangeAt Go.RowKit
open Go.Proofs.Yteobhljkjgocdaa.rows
open Go.Proofs.Yteobhljkjgocdaa.sec
open Go.Maps
set_option linter.unusedVariables false
set_option linter.unusedSimpArgs false

theorem wrs_ones (ws : List Wr) : ∀ u ∈ wrsC ws, u.oneCell' = true := by
  intro u hu
  obtain ⟨l, hl, hul⟩ := List.mem_flatten.1 hu
  obtain ⟨x, hx, rfl⟩ := List.mem_map.1 hl
  exact wr_ones x u hul
theorem csafeO (w : World) (F : Nat → Prop) (d : Value) (st : St) (h : CA w F d st) (hf : st.fine) : Calls Try.prog 17 #[d] w fun e w' => ∃ p c, e = .returned (.slice p st.safe.length c) ∧ Own w' w.heap.size 35 32 (.slice p st.safe.length c) st.safe.length (cellsOf st.safe) ∧ Below w.heap.size w w' := by
  obtain ⟨z, g, vs, vw, vn, vl, vf, rfl, h⟩ := h
  obtain ⟨ps, cs, hvs⟩ := h.safe.slice
  subst hvs
  have HM := Lib.hid (cmade g w (cell_row h.row 0 _ rfl))
  have c1 : w.cell? ⟨g, 1, none⟩ = some (.slice ps st.safe.length cs) := cell_row h.row 1 _ rfl
  have HC := Lib.hid (clone_secs ps st.safe.length cs _ w h.safe.rd (one_ints .u8 _) (by have := hf.n1; omega))
  generalize st.safe.length = n at *
  clear h hf
  go_enter Try.func17, Try.ntmps17
  go_wp2_with (first | (go_at_call 30; refine HM.out.mono ?_; rintro e w0 ⟨rfl, rfl⟩) | (go_at_call 28; refine HC.out.mono ?_; rintro e w1 ⟨p1, c1, rfl, ho, hb⟩; have HO := Lib.hid ho; clear ho))
  go_ret
  exact ⟨p1, c1, rfl, HO.out, hb⟩
theorem csafe (w : World) (F : Nat → Prop) (d : Value) (st : St) (h : CA w F d st) (hf : st.fine) : Calls Try.prog 17 #[d] w fun e w' => ∃ p c, e = .returned (.slice p st.safe.length c) ∧ Rd w' 32 (.slice p st.safe.length c) st.safe.length (cellsOf st.safe) ∧ Below w.heap.size w w' :=
  (csafeO w F d st h hf).mono fun e w' ⟨p, c, a, b, k⟩ => ⟨p, c, a, b.rd, k⟩
theorem cwaitingO (w : World) (F : Nat → Prop) (d : Value) (st : St) (h : CA w F d st) (hf : st.fine) : Calls Try.prog 19 #[d] w fun e w' => ∃ p c, e = .returned (.slice p st.wait.length c) ∧ Own w' w.heap.size 74 36 (.slice p st.wait.length c) st.wait.length (wrsC st.wait) ∧ Below w.heap.size w w' := by
  obtain ⟨z, g, vs, vw, vn, vl, vf, rfl, h⟩ := h
  obtain ⟨ps, cs, hvs⟩ := h.wait.slice
  subst hvs
  have HM := Lib.hid (cmade g w (cell_row h.row 0 _ rfl))
  have c1 : w.cell? ⟨g, 2, none⟩ = some (.slice ps st.wait.length cs) := cell_row h.row 2 _ rfl
  have HC := Lib.hid (clone_wrs ps st.wait.length cs _ w h.wait.rd (wrs_ones _) (by have := hf.few.wn; omega))
  generalize st.wait.length = n at *
  clear h hf
  go_enter Try.func19, Try.ntmps19
  go_wp2_with (first | (go_at_call 30; refine HM.out.mono ?_; rintro e w0 ⟨rfl, rfl⟩) | (go_at_call 31; refine HC.out.mono ?_; rintro e w1 ⟨p1, c1, rfl, ho, hb⟩; have HO := Lib.hid ho; clear ho))
  go_ret
  exact ⟨p1, c1, rfl, HO.out, hb⟩
theorem cwaiting (w : World) (F : Nat → Prop) (d : Value) (st : St) (h : CA w F d st) (hf : st.fine) : Calls Try.prog 19 #[d] w fun e w' => ∃ p c, e = .returned (.slice p st.wait.length c) ∧ Rd w' 36 (.slice p st.wait.length c) st.wait.length (wrsC st.wait) ∧ Below w.heap.size w w' :=
  (cwaitingO w F d st h hf).mono fun e w' ⟨p, c, a, b, k⟩ => ⟨p, c, a, b.rd, k⟩
theorem clog (w : World) (F : Nat → Prop) (d : Value) (st : St) (h : CA w F d st) (hf : st.fine) : Calls Try.prog 21 #[d] w fun e w' => ∃ p c es, e = .returned (.slice p st.log.length c) ∧ EvsIn (fun _ => True) w' (.slice p st.log.length c) st.log st.log.length es ∧ Below w.heap.size w w' := by
  obtain ⟨z, g, vs, vw, vn, vl, vf, rfl, h⟩ := h
  obtain ⟨es, hes⟩ := h.log
  have HM := Lib.hid (cmade g w (cell_row h.row 0 _ rfl))
  have c5 : w.cell? ⟨g, 5, none⟩ = some vl := cell_row h.row 5 _ rfl
  have HC := Lib.hid (ccopy _ vl st.log es w hes hf.few.es (fun e he => by have := hf.few.ts e he; omega) (by have := hf.few.ln; omega))
  clear h hf hes
  go_enter Try.func21, Try.ntmps21
  go_wp2_with (first | (go_at_call 30; refine HM.out.mono ?_; rintro e w0 ⟨rfl, rfl⟩) | (go_at_call 32; refine HC.out.mono ?_; rintro e w1 ⟨p1, c1, us, rfl, hl, hk, hb⟩; have HL := Lib.hid hl; clear hl hk))
  go_ret
  exact ⟨p1, c1, us, rfl, ⟨HL.out.len, HL.out.own.rd, fun _ _ _ _ _ => trivial, fun i hi => by
    obtain ⟨p, c, h1, h2, h3⟩ := HL.out.tags i hi
    exact ⟨p, c, h1, h2, fun _ _ _ _ _ => trivial⟩⟩, hb⟩
theorem cepoch (w : World) (F : Nat → Prop) (d : Value) (st : St) (h : CA w F d st) (hf : st.fine) : Calls Try.prog 22 #[d] w fun e w' => e = .returned (.int .i64 st.ep) ∧ Below w.heap.size w w' := by
  obtain ⟨z, g, vs, vw, vn, vl, vf, rfl, h⟩ := h
  have HM := Lib.hid (cmade g w (cell_row h.row 0 _ rfl))
  have c4 : w.cell? ⟨g, 4, none⟩ = some (.int .i64 st.ep) := cell_row h.row 4 _ rfl
  clear h hf
  go_enter Try.func22, Try.ntmps22
  go_wp2_with (go_at_call 30; refine HM.out.mono ?_; rintro e w0 ⟨rfl, rfl⟩)
  go_ret
  exact ⟨rfl, Below.refl _ _⟩
theorem seen_at (i : Nat) : ∀ (ws : List Wr) (safe : List (List Int)), (∀ x ∈ ws, 0 ≤ x.pos) → i < safe.length → (outOf (fun _ => true) ws safe)[i]? = some (lastOf (i:Int) (safe.getD i []) ws)
  | [], safe, _, h => by simp [outOf, lastOf, h]
  | x :: ws, safe, hp, h => by
    have h0 := hp x (List.mem_cons_self ..)
    have ih := seen_at i ws (safe.set x.pos.toNat x.s) (fun y hy => hp y (List.mem_cons_of_mem _ hy)) (by simpa using h)
    have e1 : outOf (fun _ => true) (x :: ws) safe = outOf (fun _ => true) ws (safe.set x.pos.toNat x.s) := by simp [outOf, outStep]
    have e2 : lastOf (i:Int) (safe.getD i []) (x :: ws) = lastOf (i:Int) (if x.pos = i then x.s else safe.getD i []) ws := rfl
    rw [e1, ih, e2]
    congr 2
    rw [List.getD_eq_getElem?_getD, List.getElem?_set]
    by_cases hpi : x.pos = (i : Int)
    · rw [if_pos hpi, if_pos (by omega), if_pos (by omega)]; rfl
    · rw [if_neg hpi, if_neg (by omega), List.getD_eq_getElem?_getD]
theorem seenOf_len (st : St) : (seenOf st).length = st.safe.length := outOf_len _ _ _
theorem seenOf_secs {st : St} (hf : st.fine) : Secs (seenOf st) := outOf_secs _ _ _ hf.few.ss hf.few.ws
set_option maxHeartbeats 1600000 in
theorem cread (w : World) (F : Nat → Prop) (d : Value) (st : St) (i : Int) (h : CA w F d st) (hf : st.fine) (hi : wf64 i) : Calls Try.prog 26 #[d, .int .i64 i] w fun e w' => e = .returned (readR st i) ∧ Below w.heap.size w w' := by
  obtain ⟨z, g, vs, vw, vn, vl, vf, rfl, h⟩ := h
  obtain ⟨ps, cs, hvs⟩ := h.safe.slice
  subst hvs
  obtain ⟨pn, cn, hvn⟩ := h.seen.slice
  subst hvn
  have hlt := h.lt
  have hn1 := hf.n1
  have hlw : ∀ w', Below w.heap.size w w' → w'.heap[g]? = w.heap[g]? := fun w' hb => hb.block g hlt
  have HM := Lib.hid fun w' (hb : Below w.heap.size w w') => cmade g w' (cell_row ((hlw w' hb).trans h.row) 0 _ rfl)
  have HH := Lib.hid fun w' (hb : Below w.heap.size w w') => chas g st.safe.length cs ps i w' (cell_row ((hlw w' hb).trans h.row) 1 _ rfl) hi (by omega)
  have hb0 := below_alloc (Below.refl w.heap.size w) (.cells (u8s zero32).toArray 35)
  rw [← lit_zero] at hb0
  have HB := Lib.hid hb0
  have C3 := Lib.hid fun w' (hb : Below w.heap.size w w') => cell_row ((hlw w' hb).trans h.row) 3 (.slice pn st.safe.length cn) rfl
  by_cases hin : 0 ≤ i ∧ i < (st.safe.length : Int)
  · have hr : readR st i = .tuple #[agg (readOf st i.toNat), .int .i64 0] := if_pos hin
    rw [hr]
    rw [decide_eq_true hin] at HH
    obtain ⟨k, rfl⟩ : ∃ k : Nat, i = (k : Int) := ⟨i.toNat, by omega⟩
    have hk : k < st.safe.length := by omega
    have hss := seenOf_secs hf
    obtain ⟨gn, rfl⟩ := own_some h.seen (by omega)
    obtain ⟨bs, os, hbo, hcs1, hcs2, hbs, hsl, HSR⟩ := row_at h.seen.rd hss hk
    cases hbo
    have hsk := HSR k (by rw [seenOf_len]; exact hk)
    have e := seen_at k st.wait st.safe (fun x hx => (hf.pos x hx).1) hk
    have e2 : (seenOf st)[k]'(by rw [seenOf_len]; exact hk) = readOf st k := by
      have h1 : some ((seenOf st)[k]'(by rw [seenOf_len]; exact hk)) = some (readOf st k) := (List.getElem?_eq_getElem _).symm.trans e
      exact Option.some.inj h1
    rw [e2] at hsk
    have hsec : Sec (readOf st k) := by rw [← e2]; exact hss _ (List.getElem_mem (l := seenOf st) (by rw [seenOf_len]; exact hk))
    rw [Nat.zero_add] at hsk
    have HSK := Lib.hid (Rd.rangeLater hsk hbs HB.out)
    have HSC := Lib.hid hsec
    rw [Int.toNat_natCast]
    have hsl2 := hsl
    clear hsl e2 e HSR hsk hsec hss
    generalize readOf st k = s at *
    have hk1 : (k : Int) < st.safe.length := by omega
    generalize st.safe.length = n at *
    clear h hf hlw hr hin hsl2
    go_enter Try.func26, Try.ntmps26
    go_wp2_with (first | (go_at_call 30; refine (HM.out _ HB.out).mono ?_; rintro e w0 ⟨rfl, rfl⟩) | (go_at_call 35; refine (HH.out _ HB.out).mono ?_; rintro e w0 ⟨rfl, rfl⟩; have c3 := C3.out _ HB.out) | (refine load_mid rfl (.tmp 21) rfl gn (k * 32) rfl s HSC.out.1 HSK.out ?_) | (refine store_at rfl _ _ rfl rfl w.heap.size s zero32 rfl rfl HSC.out.1 (by decide) (at_lit w) ?_; intro w2 hA hB2 _; have A2 := Lib.hid hA; clear hA))
    exact ret_sec2 rfl w.heap.size _ _ rfl rfl HSC.out.1 A2.out rfl ⟨rfl, HB.out.trans hB2⟩
  · have hr : readR st i = .tuple #[agg zero32, .int .i64 1] := if_neg hin
    rw [hr]
    rw [decide_eq_false hin] at HH
    clear h hf hlw hr
    generalize st.safe.length = n at *
    go_enter Try.func26, Try.ntmps26
    go_wp2_with (first | (go_at_call 30; refine (HM.out _ HB.out).mono ?_; rintro e w0 ⟨rfl, rfl⟩) | (go_at_call 35; refine (HH.out _ HB.out).mono ?_; rintro e w0 ⟨rfl, rfl⟩) | (refine store_at rfl _ _ rfl rfl w.heap.size zero32 zero32 rfl (congrArg Value.agg lit_zero) (by decide) (by decide) (at_lit w) ?_; intro w2 hA hB2 _; have A2 := Lib.hid hA; clear hA))
    exact ret_sec2 rfl w.heap.size _ _ rfl rfl (by decide) A2.out rfl ⟨rfl, HB.out.trans hB2⟩
end Go.Proofs.Yteobhljkjgocdaa.dsk
