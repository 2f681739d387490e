/- The arguments of the disk's laws: acts. -/
import Derived.Test.YteobhljkjgocdaaDskSame
import Derived.Test.YteobhljkjgocdaaOpen
import Derived.Test.YteobhljkjgocdaaSecArgB
namespace Go.Proofs.Yteobhljkjgocdaa.dsk
open Go.ChangeShapes Go.WideShapes Go.ChangeAt Go.RowKit
open Go.Proofs.Yteobhljkjgocdaa.rows
open Go.Proofs.Yteobhljkjgocdaa.sec
set_option linter.unusedVariables false
set_option linter.unusedSimpArgs false

/-- an act, and the slices that its cells show -/
structure Act0 where
  kind : Int
  pos : Int
  s : List Int
  k : Int
  id : Int
  ts : List (Int × Int)
  bad : List Int
  vt : Value
  vb : Value
def Act0.c (a : Act0) : List Value := .int .i64 a.kind :: .int .i64 a.pos :: (u8s a.s ++ [.int .i64 a.k, .int .i64 a.id, a.vt, a.vb])
structure Act0.ok (W : World) (a : Act0) : Prop where
  sec : Sec a.s
  kind : wf64 a.kind
  pos : wf64 a.pos
  k : wf64 a.k
  id : wf64 a.id
  ts : ∃ p c, a.vt = .slice p a.ts.length c ∧ Rd W 2 a.vt a.ts.length (tagsC a.ts)
  bad : ∃ p c, a.vb = .slice p a.bad.length c ∧ Rd W 1 a.vb a.bad.length (i64s a.bad)
  tsl : a.ts.length ≤ maxLen
  badl : a.bad.length ≤ maxLen
  tswf : ∀ t ∈ a.ts, wf64 t.1 ∧ wf64 t.2
  badwf : ∀ x ∈ a.bad, wf64 x
theorem Act0.c_len {W : World} {a : Act0} (h : a.ok W) : a.c.length = 38 := by simp [Act0.c, u8s, h.sec.1]
theorem cellsInt : Try.prog.cellsOf 3 = 1 := by kernel_rfl
theorem cellsTag : Try.prog.cellsOf 37 = 2 := by kernel_rfl
theorem cellsAct : Try.prog.cellsOf 41 = 38 := by kernel_rfl
theorem cellsTags : Try.prog.cellsOf 38 = 1 := by kernel_rfl
theorem cellsInts : Try.prog.cellsOf 39 = 1 := by kernel_rfl
theorem und_act : Try.prog.underlying 41 = some (.struct (Try.prog.fieldsOf 41)) := by kernel_rfl
theorem fields_act : (Try.prog.fieldsOf 41).toList.map (fun f => (f.type, f.offset)) = [(3, 0), (3, 1), (35, 2), (37, 34), (38, 36), (39, 37)] := by kernel_rfl
theorem fields_tag2 : (Try.prog.fieldsOf 37).toList.map (fun f => (f.type, f.offset)) = [(3, 0), (3, 1)] := by kernel_rfl
theorem cut_piece {α : Type} (cs : List α) (n m : Nat) : (cs.drop n).take m ++ cs.drop (n + m) = cs.drop n := by
  rw [← List.drop_drop, List.take_append_drop]
section
variable {H : Type} {enc : TypeId × Value → H} {W : World} {base : Nat} {spare : Nat → Bool} {held : Bool}
/-- a field of a struct that was read -/
theorem field_trod {T : TypeId} {fs : Array Field} (ht : Try.prog.underlying T = some (.struct fs)) {L : List (TypeId × Nat)} (hL : fs.toList.map (fun f => (f.type, f.offset)) = L) {fuel : Nat} {cs : List Value} {x : DataW H × List MemPlace}
    (h : DataW.trod enc Try.prog W base spare held fuel T cs = some x) : cs.length = Try.prog.cellsOf T ∧ ∀ (i : Nat) (ty : TypeId) (off : Nat), L[i]? = some (ty, off) → ∃ n y, DataW.trod enc Try.prog W base spare held n ty ((cs.drop off).take (Try.prog.cellsOf ty)) = some y := by
  obtain ⟨xs, n, _, _, hl, hx, hf⟩ := DataW.trod_struct ht h
  refine ⟨hl, fun i ty off hi => ?_⟩
  rw [← hL, List.getElem?_map] at hi
  cases hq : fs[i]? with
  | none => simp [hq] at hi
  | some f =>
    have h1 : (f.type, f.offset) = (ty, off) := by simpa [hq] using hi
    have h2 := hf i f hq
    have hix : i < xs.length := by rw [hx]; exact (Array.getElem?_eq_some_iff.1 hq).1
    rw [List.getElem?_eq_getElem hix] at h2
    cases h1
    exact ⟨n, _, h2⟩
theorem tag_of_cells {n : Nat} {cs : List Value} {x : DataW H × List MemPlace} (h : DataW.trod enc Try.prog W base spare held n 37 cs = some x) : ∃ t : Int × Int, (wf64 t.1 ∧ wf64 t.2) ∧ cs = tagC t := by
  obtain ⟨hl, hf⟩ := field_trod und_tag fields_tag2 h
  rw [cellsTag] at hl
  obtain ⟨_, _, h0⟩ := hf 0 _ _ rfl
  obtain ⟨_, _, h1⟩ := hf 1 _ _ rfl
  rw [cellsInt] at h0 h1
  obtain ⟨a, ha, _, wa⟩ := DataW.trod_int und_int h0
  obtain ⟨b, hb, _, wb⟩ := DataW.trod_int und_int h1
  refine ⟨(a, b), ⟨wa, wb⟩, ?_⟩
  have e := cut_piece cs 0 1
  have e2 := cut_piece cs 1 1
  rw [ha] at e
  rw [hb, List.drop_of_length_le (i := 1 + 1) (by omega), List.append_nil] at e2
  rw [List.drop_zero, Nat.zero_add, ← e2] at e
  exact e.symm
theorem int_of_cells {n : Nat} {cs : List Value} {x : DataW H × List MemPlace} (h : DataW.trod enc Try.prog W base spare held n 3 cs = some x) : ∃ a : Int, wf64 a ∧ cs = [.int .i64 a] := by
  obtain ⟨a, ha, _, wa⟩ := DataW.trod_int und_int h
  exact ⟨a, wa, ha⟩
theorem i64s_flat (l : List Int) : (l.map fun a => [Value.int .i64 a]).flatten = i64s l := by
  induction l with
  | nil => rfl
  | cons a t ih => simp [i64s] at ih ⊢; exact ih
theorem act_of_cells {n : Nat} {cs : List Value} {x : DataW H × List MemPlace} (h : DataW.trod enc Try.prog W base spare held n 41 cs = some x) : ∃ a : Act0, a.ok W ∧ cs = a.c := by
  obtain ⟨hl, hf⟩ := field_trod und_act fields_act h
  rw [cellsAct] at hl
  obtain ⟨_, _, h0⟩ := hf 0 _ _ rfl
  obtain ⟨_, _, h1⟩ := hf 1 _ _ rfl
  obtain ⟨_, _, h2⟩ := hf 2 _ _ rfl
  obtain ⟨_, _, h3⟩ := hf 3 _ _ rfl
  obtain ⟨_, _, h4⟩ := hf 4 _ _ rfl
  obtain ⟨_, _, h5⟩ := hf 5 _ _ rfl
  rw [cellsInt] at h0 h1
  rw [cellsSec] at h2
  rw [cellsTag] at h3
  rw [cellsTags] at h4
  rw [cellsInts] at h5
  obtain ⟨kd, wkd, e0⟩ := int_of_cells h0
  obtain ⟨ps, wps, e1⟩ := int_of_cells h1
  obtain ⟨s, hs, e2⟩ := sec_of_cells h2
  obtain ⟨⟨k, id⟩, ⟨wk, wid⟩, e3⟩ := tag_of_cells h3
  obtain ⟨p4, l4, c4, ts, e4, hg4, hl4, hr4, hm4⟩ := open_slice tagC (by decide) und_tags cellsTag (fun t : Int × Int => wf64 t.1 ∧ wf64 t.2) (fun _ _ => rfl) (fun _ _ _ h => tag_of_cells h) h4
  obtain ⟨p5, l5, c5, zs, e5, hg5, hl5, hr5, hm5⟩ := open_slice (fun a : Int => [Value.int .i64 a]) (by decide) Try.underlying39 cellsInt wf64 (fun _ _ => rfl) (fun _ _ _ h => int_of_cells h) h5
  rw [i64s_flat] at hr5
  subst hl4
  subst hl5
  refine ⟨⟨kd, ps, s, k, id, ts, zs, .slice p4 ts.length c4, .slice p5 zs.length c5⟩, ⟨hs, wkd, wps, wk, wid, ⟨p4, c4, rfl, hr4⟩, ⟨p5, c5, rfl, hr5⟩, hm4, hm5, hg4, hg5⟩, ?_⟩
  have q0 := cut_piece cs 0 1
  have q1 := cut_piece cs 1 1
  have q2 := cut_piece cs 2 32
  have q3 := cut_piece cs 34 2
  have q4 := cut_piece cs 36 1
  have q5 := cut_piece cs 37 1
  rw [e0] at q0
  rw [e1] at q1
  rw [e2] at q2
  rw [e3] at q3
  rw [e4] at q4
  rw [e5, List.drop_of_length_le (i := 37 + 1) (by omega), List.append_nil] at q5
  simp only [Nat.reduceAdd] at q0 q1 q2 q3 q4
  rw [List.drop_zero, ← q1, ← q2, ← q3, ← q4, ← q5] at q0
  rw [← q0]
  simp [Act0.c, tagC]
theorem acts_of_trod {p : Option Addr} {len cap : Nat} {d : DataW H} {ps : List MemPlace}
    (h : DataW.Trod enc Try.prog W 0 (fun _ => true) true 23 (.slice p len cap) d ps) : ∃ l : List Act0, (∀ a ∈ l, a.ok W) ∧ l.length = len ∧ Rd W 38 (.slice p len cap) len ((l.map Act0.c).flatten) ∧ len ≤ maxLen := by
  obtain ⟨fuel, hf⟩ := h
  obtain ⟨p', len', cap', l, hcs, hg, hl, hr, hm⟩ := open_slice Act0.c (by decide) Try.underlying23 cellsAct (fun a => a.ok W) (fun a ha => Act0.c_len ha) (fun _ _ _ h => act_of_cells h) hf
  simp [Value.cells] at hcs
  obtain ⟨rfl, rfl, rfl⟩ := hcs
  exact ⟨l, hg, hl, hr, hm⟩
end
/-- what one act's cells hold -/
theorem act_parts {W w : World} {a : Act0} (h : a.ok W) {b o : Nat} (hr : w.rangeAt b o a.c) : w.cell? ⟨b, o, none⟩ = some (.int .i64 a.kind) ∧ w.cell? ⟨b, o + 1, none⟩ = some (.int .i64 a.pos) ∧ w.rangeAt b (o + 2) (u8s a.s) ∧
    w.cell? ⟨b, o + 34, none⟩ = some (.int .i64 a.k) ∧ w.cell? ⟨b, o + 35, none⟩ = some (.int .i64 a.id) ∧ w.cell? ⟨b, o + 36, none⟩ = some a.vt ∧ w.cell? ⟨b, o + 37, none⟩ = some a.vb := by
  have hl : (u8s a.s).length = 32 := by simp [u8s, h.sec.1]
  refine ⟨by have := hr 0 _ rfl; simpa using this, hr 1 _ rfl, ?_, hr 34 _ ?_, hr 35 _ ?_, hr 36 _ ?_, hr 37 _ ?_⟩
  · exact range_left (range_mid (k := 2) hr)
  all_goals
    rw [Act0.c, List.getElem?_cons_succ, List.getElem?_cons_succ, List.getElem?_append_right (by omega), hl]; rfl
def Act0.light (a : Act0) : Prop := a.ts.length ≤ 50 ∧ a.bad.length ≤ 50
def LightPost (n : Nat) (l : List Act0) (w : World) (e : Ending) (w' : World) : Prop := ∃ b : Bool, e = .returned (.bool b) ∧ w = w' ∧ (b = true → n ≤ 60 ∧ ∀ a ∈ l, a.light)
set_option maxHeartbeats 1600000 in
theorem light_any {W : World} (p : Option Addr) (n c : Nat) (l : List Act0) (w : World) (hw : Below W.heap.size W w) (hg : ∀ a ∈ l, a.ok W) (hr : Rd W 38 (.slice p n c) n ((l.map Act0.c).flatten)) (hm : n ≤ maxLen) :
    Calls Try.prog 5 #[.slice p n c, .int .i64 60] w (LightPost n l w) := by
  have hle : ∀ a ∈ l, a.c.length = 38 := fun a ha => Act0.c_len (hg a ha)
  have HZ : Hid (l.length = n) := Lib.hid (Rd.count Act0.c hr hle (by decide))
  have HR := Lib.hid hr
  have HLE := Lib.hid hle
  have HG := Lib.hid hg
  have hm2 : (n : Int) ≤ 9223372036854775807 := by unfold maxLen at hm; omega
  clear hr hle hg
  go_enter Try.func5, Try.ntmps5
  go_wp2
  go_loop [5] (fun iv => ∃ (j : Nat), j ≤ n ∧ j ≤ 100 ∧ Hid (∀ i (h : i < l.length), i < j → l[i].light) ∧ iv = .int .i64 (j : Int)) (fun iv => n - (intOf iv).toNat)
  case atStart => exact ⟨0, by omega, by omega, Lib.hid (fun _ _ h => by omega), rfl⟩
  case round =>
    obtain ⟨j, hj, hj2, HL, rfl⟩ := hrel
    by_cases ha : j < n
    · have ha1 : (j:Int) < n := by omega
      by_cases hb : j < 100
      · have hb1 : decide ((j:Int) < 100) = true := by simp; omega
        have hjl : j < l.length := by rw [HZ.out]; exact ha
        obtain ⟨b1, o1, rfl, hc1, hm1, hh1, hl1, HR1⟩ := Rd.chunk Act0.c HR.out HLE.out (by decide) ha
        have hok := HG.out _ (List.getElem_mem hjl)
        obtain ⟨_, _, _, _, _, ht, hbd⟩ := act_parts hok (Rd.rangeLater (HR1 j hjl) hh1 hw)
        obtain ⟨pt, ct, evt, _⟩ := hok.ts
        obtain ⟨pb, cb, evb, _⟩ := hok.bad
        rw [evt] at ht
        rw [evb] at hbd
        have HLL : Hid (∀ q, l[j].light → ∀ i (h : i < l.length), i < j + 1 → l[i].light) := Lib.hid (fun _ hq i h hi => by
          rcases Nat.lt_or_ge i j with h1 | h1
          · exact HL.out i h h1
          · obtain rfl : i = j := by omega
            exact hq)
        have htl := hok.tsl
        have hbl := hok.badl
        obtain ⟨tn, htn⟩ : ∃ tn, l[j].ts.length = tn := ⟨_, rfl⟩
        obtain ⟨bn, hbn⟩ : ∃ bn, l[j].bad.length = bn := ⟨_, rfl⟩
        rw [htn] at ht htl
        rw [hbn] at hbd hbl
        have HTN := Lib.hid htn
        have HBN := Lib.hid hbn
        clear HR1 hl1 evt evb hok htn hbn
        by_cases h1 : tn ≤ 50
        · have d1 : decide ((50:Int) < tn) = false := by simp; omega
          by_cases h2 : bn ≤ 50
          · have d2 : decide ((50:Int) < bn) = false := by simp; omega
            go_wp2_with fail
            go_round
            case rel => exact ⟨j + 1, by omega, by omega, Lib.hid (HLL.out hjl ⟨by rw [HTN.out]; exact h1, by rw [HBN.out]; exact h2⟩), by go_num⟩
            case measure => simp [intOf]; omega
          · have d2 : decide ((50:Int) < bn) = true := by simp; omega
            go_wp2_with fail
            go_ret
            exact ⟨false, rfl, rfl, by simp⟩
        · have d1 : decide ((50:Int) < tn) = true := by simp; omega
          go_wp2_with fail
          go_ret
          exact ⟨false, rfl, rfl, by simp⟩
      · have hb1 : decide ((j:Int) < 100) = false := by simp; omega
        have hn : decide ((n:Int) ≤ 60) = false := by simp; omega
        go_wp2_with fail
        go_ret
        exact ⟨false, rfl, rfl, by simp⟩
    · by_cases hn : n ≤ 60
      · have hn1 : decide ((n:Int) ≤ 60) = true := by simp; omega
        go_wp2_with fail
        go_ret
        exact ⟨true, rfl, rfl, fun _ => ⟨hn, fun a ham => by
          obtain ⟨i, hi, rfl⟩ := List.getElem_of_mem ham
          exact HL.out i hi (by have := HZ.out; omega)⟩⟩
      · have hn1 : decide ((n:Int) ≤ 60) = false := by simp; omega
        go_wp2_with fail
        go_ret
        exact ⟨false, rfl, rfl, by simp⟩
end Go.Proofs.Yteobhljkjgocdaa.dsk
