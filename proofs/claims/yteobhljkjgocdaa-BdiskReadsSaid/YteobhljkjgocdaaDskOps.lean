/- What the reference's Barrier and Fail give. -/
import Derived.Test.YteobhljkjgocdaaDskNew
import Derived.Great.BuildSlice
namespace Go.Proofs.Yteobhljkjgocdaa.dsk
open Go.ChangeShapes Go.WideShapes Go.ChangeAt Go.RowKit
open Go.Proofs.Yteobhljkjgocdaa.rows
open Go.Proofs.Yteobhljkjgocdaa.sec
set_option linter.unusedVariables false
set_option linter.unusedSimpArgs false

theorem elem_evs : Elem 51 79 38 96 (.agg (evC (0, ⟨0, zero32, 0, 0, 0⟩, []) (.slice none 0 0)).toArray) := ⟨Try.underlying51, by kernel_rfl, by decide, by decide, by decide⟩
theorem elem_wrs : Elem 50 74 36 64 (.agg (Wr.c ⟨0, zero32, 0, 0, 0⟩).toArray) := ⟨Try.underlying50, by kernel_rfl, by decide, by decide, by decide⟩
theorem elem_tags : Elem 38 37 2 16 (.agg #[.int .i64 0, .int .i64 0]) := ⟨Try.underlying38, by kernel_rfl, by decide, by decide, by decide⟩
theorem fill_all : ∀ (l : List Value) (k : Nat) (A : Array Value), A.size = k + l.length → ((l.zipIdx k).foldl (fun cs x => cs.setIfInBounds (0 + x.2) x.1) A).toList = A.toList.take k ++ l
  | [], k, A, h => by
    simp only [List.zipIdx_nil, List.foldl_nil, List.append_nil]
    rw [List.take_of_length_le]
    simp at h ⊢; omega
  | c :: t, k, A, h => by
    rw [List.zipIdx_cons, List.foldl_cons, fill_all t (k + 1) _ (by simp at h ⊢; omega)]
    have hk : k < A.toList.length := by simp at h ⊢; omega
    simp only [Nat.zero_add, Array.toList_setIfInBounds]
    rw [List.take_succ_eq_append_getElem (by simpa using hk), List.take_set_of_le (Nat.le_refl k)]
    simp
theorem fill_one (sz : Nat) (cs : List Value) (v : Value) (hv : v.cells = cs.toArray) (hs : cs.length = sz) (old : Array Value) (ho : old.size = sz) : Instr.fill (fun i => some (i * sz, sz)) old [(0, v)] = some cs.toArray := by
  unfold Instr.fill
  simp only [hv, Nat.zero_mul, Nat.zero_add, List.size_toArray, hs, ho, ne_eq, not_true_eq_false, decide_false, Bool.false_or, Nat.lt_irrefl, gt_iff_lt, Bool.false_eq_true, if_false]
  unfold Instr.fill
  congr 1
  apply Array.ext'
  have := fill_all cs 0 old (by rw [ho, hs]; omega)
  simpa using this
theorem wp_build_one {t e : TypeId} {sz by_ : Nat} {z : Value} (E : Elem t e sz by_ z) (hsz : sz ≤ 1000) {o : Oper} {a : Act} {w : World} {K : Act → World → Prop} {Q : Exit → Act → World → Prop} (x : Operand) (ho : o.op = .buildSlice t 1 #[(0, x)])
    (cs : List Value) (hx : (a.eval x).cells = cs.toArray) (hs : cs.length = sz) (h : K (a.put o.dst (.slice (some ⟨w.heap.size, 0, none⟩) 1 1)) (w.alloc (.cells cs.toArray e))) : o.wp Try.prog a w K Q := by
  obtain ⟨ie, hi, hz0, hz1, hz2⟩ := info_parts E.info
  have := E.pos
  refine wp_buildSlice t e 1 #[(0, x)] ho cs.toArray ie _ E.und hi hz0 (by rw [hz1]; omega) (by rw [hz1]; omega) ?_ h
  rw [hz1]
  simp only [List.map_toArray, List.map_cons, List.map_nil]
  exact fill_one sz cs _ hx hs _ (by simp)
/-- the slice of one element that append lays -/
theorem build_one {t e : TypeId} {sz by_ : Nat} {z : Value} (E : Elem t e sz by_ z) (hsz : sz ≤ 1000) {ops : Array Oper} {rest : List Oper} {o : Oper} {a : Act} {w : World} {Q : Exit → Act → World → Prop} (hgd : o.guard = none) (x : Operand) (ho : o.op = .buildSlice t 1 #[(0, x)])
    (cs : List Value) (hx : (a.eval x).cells = cs.toArray) (hs : cs.length = sz) (h : wpList Try.prog ops Q rest (a.put o.dst (.slice (some ⟨w.heap.size, 0, none⟩) 1 1)) (w.alloc (.cells cs.toArray e))) : wpList Try.prog ops Q (o :: rest) a w :=
  wpList_plain hgd fun K hK => wp_build_one E hsz x ho cs hx hs (hK _ _ h)
theorem step_build_one {t e : TypeId} {sz by_ : Nat} {z : Value} (E : Elem t e sz by_ z) (hsz : sz ≤ 1000) {ops : Array Oper} {o : Oper} {a : Act} {w : World} {K : Act → World → Prop} {Q : Exit → Act → World → Prop} {F : Prop} (hw : Region.wanted o (yielded ops a.tmps) = true) (x : Operand) (ho : o.op = .buildSlice t 1 #[(0, x)])
    (cs : List Value) (hx : (a.eval x).cells = cs.toArray) (hs : cs.length = sz) (h : K (a.put o.dst (.slice (some ⟨w.heap.size, 0, none⟩) 1 1)) (w.alloc (.cells cs.toArray e))) : if Region.wanted o (yielded ops a.tmps) = true then Oper.wp Try.prog o a w K Q else F := by
  rw [if_pos hw]
  exact wp_build_one E hsz x ho cs hx hs h
theorem rd_laid (w : World) (e : TypeId) (sz : Nat) (cs : List Value) (h : cs.length = sz) : Rd (w.alloc (.cells cs.toArray e)) sz (.slice (some ⟨w.heap.size, 0, none⟩) 1 1) 1 cs := by
  have := rd_one w e sz cs.toArray (by simpa using h)
  simpa using this
theorem own_inS {w : World} {B : Nat} {e : TypeId} {sz n : Nat} {v : Value} {cs : List Value} (h : Own w B e sz v n cs) : InS (fun b => B ≤ b ∧ b < w.heap.size) v := by
  intro a m c hv hm
  rcases h.2 with ⟨h1, h2⟩ | ⟨g, cap, cur, h1, h2, h3, _⟩
  · rw [hv] at h1; cases h1
  · rw [hv] at h1
    cases h1
    exact ⟨h2, (Array.getElem?_eq_some_iff.1 h3).1⟩
theorem inS_nil (S : Nat → Prop) : InS S (.slice none 0 0) := fun a n c h _ => by cases h
theorem inS_zero (S : Nat → Prop) (p : Option Addr) (c : Nat) : InS S (.slice p 0 c) := fun a n c h hn => by cases h; omega
/-- the events of a list and one more -/
theorem evs_more {S S' : Nat → Prop} {w w' : World} {v v' t : Value} {es : List Ev} {vs : List Value} {n : Nat} {ev : Ev} (h : EvsIn S w v es n vs) (hn : n = es.length) (k : Keeps S w w') (hS : ∀ b, S b → S' b)
    (hr : Rd w' 38 v' (n + 1) (((es.zip vs).map fun x => evC x.1 x.2).flatten ++ evC ev t)) (hi : InS S' v')
    (ht : ∃ p c, t = .slice p ev.2.2.length c ∧ Rd w' 2 t ev.2.2.length (tagsC ev.2.2) ∧ InS S' t) : EvsIn S' w' v' (es ++ [ev]) (n + 1) (vs ++ [t]) := by
  refine ⟨by simp [h.len], ?_, hi, ?_⟩
  · rw [List.zip_append (by rw [h.len]), List.map_append, List.flatten_append]
    simpa using hr
  · intro i hi'
    by_cases hlt : i < es.length
    · obtain ⟨p, c, h1, h2, h3⟩ := h.tags i hlt
      have e : (es ++ [ev])[i] = es[i] := by simp [List.getElem_append_left hlt]
      rw [e]
      exact ⟨p, c, by rw [List.getElem?_append_left (by rw [h.len]; exact hlt)]; exact h1, Rd.kept h2 h3 k, h3.mono hS⟩
    · have hie : i = es.length := by simp at hi'; omega
      subst hie
      obtain ⟨p, c, h1, h2, h3⟩ := ht
      have e : (es ++ [ev])[es.length] = ev := by simp
      subst h1
      rw [e]
      exact ⟨p, c, by rw [List.getElem?_append_right (by rw [h.len]; exact Nat.le_refl _), h.len]; simp, h2, h3⟩
theorem evs_kept {S S' : Nat → Prop} {w w' : World} {v : Value} {es : List Ev} {vs : List Value} {n : Nat} (h : EvsIn S w v es n vs) (k : Keeps S w w') (hS : ∀ b, S b → S' b) : EvsIn S' w' v es n vs := by
  refine ⟨h.len, Rd.kept h.cells h.at_ k, h.at_.mono hS, fun i hi => ?_⟩
  obtain ⟨p, c, h1, h2, h3⟩ := h.tags i hi
  exact ⟨p, c, h1, Rd.kept h2 h3 k, h3.mono hS⟩
def grow (S : Nat → Prop) (w w' : World) : Nat → Prop := fun b => S b ∨ (w.heap.size ≤ b ∧ b < w'.heap.size)
/-- the reference's disk, whatever its slices -/
def RefIs (w : World) (S : Nat → Prop) (g : Nat) (st : St) : Prop := ∃ vs vw vl vb, RefAt w S g st vs vw vl vb
theorem RefAt.lt {w : World} {S : Nat → Prop} {g : Nat} {st : St} {vs vw vl vb : Value} (h : RefAt w S g st vs vw vl vb) : g < w.heap.size := (Array.getElem?_eq_some_iff.1 h.row).1
/-- nothing but the numbers and the log has turned -/
theorem refAt_log {w w' : World} {S : Nat → Prop} {g : Nat} {st : St} {vs vw vl vb vl' : Value} {ep' ask' : Int} {log' : List Ev} (h : RefAt w S g st vs vw vl vb) (ht : Touch (· = g) w w')
    (hrow : w'.heap[g]? = some (.cells #[vs, vw, .int .i64 ep', vl', vb, .int .i64 ask'] 53 (0, 0)))
    (hl : ∃ es, EvsIn (fun b => grow S w w' b ∧ b ≠ g) w' vl' log' log'.length es) : RefAt w' (grow S w w') g ⟨st.safe, st.wait, ep', log', st.bad, ask'⟩ vs vw vl' vb := by
  have k : Keeps (fun b => S b ∧ b ≠ g) w w' := ht.keeps fun b hb => hb.2
  have hS : ∀ b, (S b ∧ b ≠ g) → (grow S w w' b ∧ b ≠ g) := fun b hb => ⟨Or.inl hb.1, hb.2⟩
  exact ⟨hrow, Or.inl h.own, Rd.kept h.safe h.safeS k, h.safeS.mono hS, Rd.kept h.wait h.waitS k, h.waitS.mono hS, hl, Rd.kept h.bad h.badS k, h.badS.mono hS⟩
theorem RefAt.keepSafe {w w' : World} {S : Nat → Prop} {g : Nat} {st : St} {vs vw vl vb : Value} (h : RefAt w S g st vs vw vl vb) (ht : Touch (· = g) w w') : Rd w' 32 vs st.safe.length (cellsOf st.safe) ∧ InS (fun b => grow S w w' b ∧ b ≠ g) vs :=
  ⟨Rd.kept h.safe h.safeS (ht.keeps fun b hb => hb.2), h.safeS.mono fun b hb => ⟨Or.inl hb.1, hb.2⟩⟩
theorem RefAt.keepWait {w w' : World} {S : Nat → Prop} {g : Nat} {st : St} {vs vw vl vb : Value} (h : RefAt w S g st vs vw vl vb) (ht : Touch (· = g) w w') : Rd w' 36 vw st.wait.length (wrsC st.wait) ∧ InS (fun b => grow S w w' b ∧ b ≠ g) vw :=
  ⟨Rd.kept h.wait h.waitS (ht.keeps fun b hb => hb.2), h.waitS.mono fun b hb => ⟨Or.inl hb.1, hb.2⟩⟩
theorem RefAt.keepBad {w w' : World} {S : Nat → Prop} {g : Nat} {st : St} {vs vw vl vb : Value} (h : RefAt w S g st vs vw vl vb) (ht : Touch (· = g) w w') : Rd w' 1 vb st.bad.length (i64s st.bad) ∧ InS (fun b => grow S w w' b ∧ b ≠ g) vb :=
  ⟨Rd.kept h.bad h.badS (ht.keeps fun b hb => hb.2), h.badS.mono fun b hb => ⟨Or.inl hb.1, hb.2⟩⟩
theorem RefAt.keepLog {w w' : World} {S : Nat → Prop} {g : Nat} {st : St} {vs vw vl vb : Value} (h : RefAt w S g st vs vw vl vb) (ht : Touch (· = g) w w') : ∃ es, EvsIn (fun b => grow S w w' b ∧ b ≠ g) w' vl st.log st.log.length es := by
  obtain ⟨es, he⟩ := h.log
  exact ⟨es, evs_kept he (ht.keeps fun b hb => hb.2) fun b hb => ⟨Or.inl hb.1, hb.2⟩⟩
/-- fails, as the other calls meet it -/
theorem rfails' (S : Nat → Prop) (g : Nat) (st : St) (vs vw vl vb : Value) (w : World) (h : RefAt w S g st vs vw vl vb) (hb : st.bad.length ≤ 1000) (ha : 0 ≤ st.asked ∧ st.asked ≤ 1000) :
    Calls Try.prog 48 #[.pointer (some ⟨g, 0, none⟩)] w fun e w' => e = .returned (.bool (decide (st.asked ∈ st.bad))) ∧ w'.heap[g]? = some (.cells #[vs, vw, .int .i64 st.ep, vl, vb, .int .i64 (st.asked + 1)] 53 (0, 0)) ∧ Touch (· = g) w w' ∧ w'.heap.size = w.heap.size := by
  refine (rfails S g st vs vw vl vb w h hb ha).mono ?_
  rintro e w' ⟨he, k, rfl⟩
  have h1 : (w.setCell ⟨g, 5, none⟩ (.int .i64 (st.asked + 1))).heap[g]? = some (.cells #[vs, vw, .int .i64 st.ep, vl, vb, .int .i64 (st.asked + 1)] 53 (0, 0)) := setCell_heap h.row _
  have h2 : Touch (· = g) w (w.setCell ⟨g, 5, none⟩ (.int .i64 (st.asked + 1))) := Touch.setCell (S := (· = g)) (Touch.refl _ w) ⟨g, 5, none⟩ rfl _
  exact ⟨he, h1, h2.trans (Touch.of_below (blw_drewN (Below.refl _ _) k)), by simp [World.setCell]⟩
end Go.Proofs.Yteobhljkjgocdaa.dsk
