/- What the reference's Barrier and Fail give. -/
import Derived.Test.YteobhljkjgocdaaDskOps
namespace Go.Proofs.Yteobhljkjgocdaa.dsk
open Go.ChangeShapes Go.WideShapes Go.ChangeAt Go.RowKit
open Go.Proofs.Yteobhljkjgocdaa.rows
open Go.Proofs.Yteobhljkjgocdaa.sec
set_option linter.unusedVariables false
set_option linter.unusedSimpArgs false

def w0 : Wr := ⟨0, zero32, 0, 0, 0⟩
/-- few of everything -/
structure St.few (st : St) : Prop where
  ss : Secs st.safe
  ws : ∀ x ∈ st.wait, Sec x.s
  es : ∀ e ∈ st.log, Sec e.2.1.s
  ts : ∀ e ∈ st.log, e.2.2.length ≤ 1000
  wn : st.wait.length ≤ 900
  ln : st.log.length ≤ 900
  bn : st.bad.length ≤ 900
  ep0 : 0 ≤ st.ep
  ep1 : st.ep ≤ 900
  as0 : 0 ≤ st.asked
  as1 : st.asked ≤ 900
def asks (st : St) : Bool := decide (st.asked ∈ st.bad)
def St.asked1 (st : St) : St := { st with asked := st.asked + 1 }
def barrier (st : St) : Int × St := if asks st = true then (3, st.asked1) else (0, { st with asked := st.asked + 1, ep := st.ep + 1, log := st.log ++ [(3, w0, [])] })
/-- what a call on the reference's disk leaves -/
def RefDone (S : Nat → Prop) (g : Nat) (w : World) (r : Int × St) (e : Ending) (w' : World) : Prop := e = .returned (.int .i64 r.1) ∧ RefIs w' (grow S w w') g r.2 ∧ Touch (· = g) w w'
theorem slice_of {w : World} {sz n : Nat} {v : Value} {cs : List Value} (h : Rd w sz v n cs) : ∃ p c, v = .slice p n c := by
  rcases h with ⟨p', cap', h1, h2, _⟩ | ⟨b, off, cap', h1, _⟩
  · exact ⟨_, _, by rw [h1, h2]⟩
  · exact ⟨_, _, h1⟩
theorem wr_ones (x : Wr) : ∀ u ∈ x.c, u.oneCell' = true := by
  intro u hu
  rcases List.mem_cons.1 hu with rfl | hu
  · rfl
  · rcases List.mem_append.1 hu with hu | hu
    · exact one_ints .u8 _ u hu
    · simp only [List.mem_cons, List.not_mem_nil, or_false] at hu
      rcases hu with rfl | rfl | rfl <;> rfl
theorem evC_ones (e : Ev) (v : Value) (hv : v.oneCell' = true) : ∀ u ∈ evC e v, u.oneCell' = true := by
  intro u hu
  rcases List.mem_cons.1 hu with rfl | hu
  · rfl
  · rcases List.mem_append.1 hu with hu | hu
    · exact wr_ones _ u hu
    · rw [List.mem_singleton.1 hu]; exact hv
theorem own_made' {w : World} (b B : Nat) (e : TypeId) (sz : Nat) (hb : b = w.heap.size) (hB : B ≤ b) : Own (w.alloc (.cells #[] e)) B e sz (.slice (some ⟨b, 0, none⟩) 0 0) 0 [] := by
  subst hb; exact own_made w e sz hB
theorem size_set (w : World) (a : Addr) (v : Value) : (w.setCell a v).heap.size = w.heap.size := by simp [World.setCell]
theorem size_alloc (w : World) (o : Obj) : (w.alloc o).heap.size = w.heap.size + 1 := by simp
theorem evs_ones {S : Nat → Prop} {w : World} {v : Value} {es : List Ev} {vs : List Value} {n : Nat} (h : EvsIn S w v es n vs) : ∀ u ∈ ((es.zip vs).map fun x => evC x.1 x.2).flatten, u.oneCell' = true := by
  intro u hu
  obtain ⟨l, hl, hul⟩ := List.mem_flatten.1 hu
  obtain ⟨x, hx, rfl⟩ := List.mem_map.1 hl
  refine evC_ones _ _ ?_ u hul
  obtain ⟨i, hi, hxi⟩ := List.getElem_of_mem hx
  have hie : i < es.length := by simp at hi; omega
  obtain ⟨p, c, h1, _⟩ := h.tags i hie
  rw [List.getElem_zip] at hxi
  have h2 : x.2 = vs[i]'(by rw [h.len]; exact hie) := by rw [← hxi]
  rw [List.getElem?_eq_getElem (by rw [h.len]; exact hie)] at h1
  rw [h2, Option.some.inj h1]
  rfl
set_option maxHeartbeats 1600000 in
theorem rbarrier (S : Nat → Prop) (g : Nat) (st : St) (w : World) (h : RefIs w S g st) (hf : st.few) : Calls Try.prog 40 #[.pointer (some ⟨g, 0, none⟩)] w (RefDone S g w (barrier st)) := by
  obtain ⟨vs, vw, vl, vb, h⟩ := h
  have HA := Lib.hid h
  have HF := Lib.hid (rfails' S g st vs vw vl vb w h (by have := hf.bn; omega) ⟨hf.as0, by have := hf.as1; omega⟩)
  have hep := hf.ep0
  have hep1 := hf.ep1
  have hln := hf.ln
  have hlt := h.lt
  obtain ⟨pl, cl, hvl⟩ := slice_of h.log.choose_spec.cells
  subst hvl
  obtain ⟨es, hes⟩ := h.log
  have HE := Lib.hid hes
  by_cases hd : st.asked ∈ st.bad
  · have hb : barrier st = (3, st.asked1) := if_pos (decide_eq_true hd)
    rw [hb]
    rw [decide_eq_true hd] at HF
    clear h hf hb hd hes
    go_enter Try.func40, Try.ntmps40
    go_wp2_with (go_at_call 48; refine HF.out.mono ?_; rintro e w1 ⟨rfl, hrow, ht, hsz⟩; have HRW := Lib.hid hrow; clear hrow hsz)
    go_ret
    exact ⟨rfl, ⟨_, _, _, _, refAt_log HA.out ht HRW.out ⟨es, evs_kept HE.out (ht.keeps fun b hb => hb.2) fun b hb => ⟨Or.inl hb.1, hb.2⟩⟩⟩, ht⟩
  · have hb : barrier st = (0, { st with asked := st.asked + 1, ep := st.ep + 1, log := st.log ++ [(3, w0, [])] }) := if_neg (by rw [asks, decide_eq_false hd]; decide)
    rw [hb]
    rw [decide_eq_false hd] at HF
    generalize hn : st.log.length = n at *
    have HN := Lib.hid hn
    clear hn
    clear h hf hb hd hes
    go_enter Try.func40, Try.ntmps40
    go_wp2_with fail
    refine HF.out.mono ?_
    rintro e w1 ⟨rfl, hrow, ht, hsz⟩
    have HRW := Lib.hid hrow
    have c2 : w1.cell? ⟨g, 2, none⟩ = some (.int .i64 st.ep) := cell_row hrow 2 _ rfl
    have z2 := frozen_row hrow 2
    have c3 : w1.cell? ⟨g, 3, none⟩ = some (.slice pl n cl) := cell_row hrow 3 _ rfl
    have z3 := frozen_row hrow 3
    have HSZ := Lib.hid hsz
    have hlt1 : g < w1.heap.size := by omega
    have HE1 := Lib.hid (evs_kept HE.out (S' := fun b => S b ∧ b ≠ g) (ht.keeps fun b hb => hb.2) fun b hb => hb)
    have k1 : Keeps (fun b => S b ∧ b ≠ g) w1 (w1.setCell ⟨g, 2, none⟩ (.int .i64 (st.ep + 1))) := Keeps.set (fun k hk => hk.2) _
    have HE2 := Lib.hid (evs_kept HE1.out (S' := fun b => S b ∧ b ≠ g) (k1.trans (Keeps.of_below (below_alloc (Below.refl _ _) (.cells #[] 79)))) fun b hb => hb)
    have HON := Lib.hid (evs_ones HE.out)
    have HON2 := Lib.hid (evC_ones (3, w0, []) (.slice none 0 0) rfl)
    have HC2 := Lib.hid HE2.out.cells
    obtain ⟨cs, hcs⟩ : ∃ cs, ((st.log.zip es).map fun x => evC x.1 x.2).flatten = cs := ⟨_, rfl⟩
    rw [hcs] at HON HC2
    have HCS := Lib.hid hcs
    clear hrow hsz k1 hcs HE2
    go_wp2_with (first | (at_builtin; refine ap_rd elem_evs rfl (.tmp 13) (.tmp 17) rfl w1.heap.size _ 0 [] rfl (own_made' _ _ _ _ (size_set _ _ _).symm (Nat.le_refl _)) _ n _ rfl HC2.out HON.out (by omega) (by rw [size_alloc, size_set]; omega) ?_; intro pa ca wa ho hb; have HO := Lib.hid ho; clear ho) | (refine wpList_buildTo rfl 79 #[(0, .const (.int .i64 3))] rfl (some 19) rfl (evC (3, w0, []) (.slice none 0 0)).toArray (by kernel_rfl) ?_) | (refine build_one elem_evs (by decide) rfl (.tmp 19) rfl (evC (3, w0, []) (.slice none 0 0)) rfl rfl ?_) | (at_builtin; refine ap_rd elem_evs rfl (.tmp 18) (.tmp 20) rfl w1.heap.size _ _ _ rfl (HO.out.alloc _) _ 1 _ rfl (rd_laid _ _ _ _ rfl) HON2.out (by omega) (by have := hb.size; rw [size_alloc, size_set] at this; rw [size_alloc]; omega) ?_; intro pb cb wb ho hb2; have HO2 := Lib.hid ho; clear ho; have hrb := row_later (row_alloc (row_later (row_alloc (setCell_heap HRW.out (.int .i64 (st.ep + 1))) _) hb hlt1) _) hb2 hlt1; have c3b : wb.cell? ⟨g, 3, none⟩ = some (.slice pl n cl) := cell_row hrb 3 _ rfl; have z3b := frozen_row hrb 3; have HRB := Lib.hid hrb; clear hrb))
    have hT : Touch (· = g) w (wb.setCell ⟨g, 3, none⟩ (.slice pb (n + 1) cb)) := by
      have h1 : Touch (· = g) w1 ((w1.setCell ⟨g, 2, none⟩ (.int .i64 (st.ep + 1))).alloc (.cells #[] 79)) := (Touch.setCell (S := (· = g)) (Touch.refl _ w1) ⟨g, 2, none⟩ rfl _).alloc _
      have h2 := h1.trans' (Touch.of_below' hb) (fun i hi => Or.inr hi)
      have h3 := (h2.alloc (.cells (evC (3, w0, []) (.slice none 0 0)).toArray 79)).trans' (Touch.of_below' hb2) (fun i hi => Or.inr hi)
      exact Touch.setCell (S := (· = g)) (ht.trans h3) ⟨g, 3, none⟩ rfl _
    have hE : EvsIn (fun b => grow S w (wb.setCell ⟨g, 3, none⟩ (.slice pb (n + 1) cb)) b ∧ b ≠ g) (wb.setCell ⟨g, 3, none⟩ (.slice pb (n + 1) cb)) (.slice pb (n + 1) cb) (st.log ++ [(3, w0, [])]) (n + 1) (es ++ [.slice none 0 0]) := by
      have ho := HO2.out
      rw [Nat.zero_add, List.nil_append, ← HCS.out] at ho
      refine evs_more HE.out HN.out.symm (hT.keeps fun b hb => hb.2) (fun b hb => ⟨Or.inl hb.1, hb.2⟩) (Rd.set ho.rd ((own_inS ho).mono fun b hb => by have := hb.1; omega)) ((own_inS ho).mono fun b hb => ?_) ⟨none, 0, rfl, rd_nil _ 2, inS_nil _⟩
      have := HSZ.out
      exact ⟨Or.inr ⟨by omega, by rw [size_set]; exact hb.2⟩, by omega⟩
    go_ret
    exact ⟨rfl, ⟨_, _, _, _, refAt_log HA.out hT (setCell_heap HRB.out _) ⟨es ++ [.slice none 0 0], by
      have := HN.out
      rw [show (st.log ++ [((3:Int), w0, ([] : List (Int × Int)))]).length = n + 1 by simp [this]]
      exact hE⟩⟩, hT⟩
end Go.Proofs.Yteobhljkjgocdaa.dsk
