/- What copyLog gives: a log of cells and tags of its own. -/
import Derived.Test.YteobhljkjgocdaaDcClone
namespace Go.Proofs.Yteobhljkjgocdaa.dsk
open Go.ChangeShapes Go.WideShapes Go.ChangeAt Go.RowKit
open Go.Proofs.Yteobhljkjgocdaa.rows
open Go.Proofs.Yteobhljkjgocdaa.sec
open Go.Maps
set_option linter.unusedVariables false
set_option linter.unusedSimpArgs false

theorem own_cell {w : World} {B g n c : Nat} {e : TypeId} {sz : Nat} {cs : List Value} (h : Own w B e sz (.slice (some ⟨g, 0, none⟩) n c) n cs) {i : Nat} {v : Value} (hi : cs[i]? = some v) : w.cell? ⟨g, i, none⟩ = some v ∧ w.frozen? ⟨g, i, none⟩ = false := by
  rcases h.2 with ⟨h2, _⟩ | ⟨g', cap, cur, h1, h2, h3, h4, h5, h6, h7⟩
  · cases h2
  · cases h1
    refine ⟨cell_row h3 i v ?_, frozen_row h3 i⟩
    rw [← h7, List.getElem?_take] at hi
    split at hi
    · simpa using hi
    · cases hi
theorem own_setCell {w : World} {B g n c : Nat} {e : TypeId} {sz : Nat} {cs : List Value} (h : Own w B e sz (.slice (some ⟨g, 0, none⟩) n c) n cs) {i : Nat} (hi : i < n * sz) (u : Value) : Own (w.setCell ⟨g, i, none⟩ u) B e sz (.slice (some ⟨g, 0, none⟩) n c) n (cs.set i u) := by
  obtain ⟨hl, h2⟩ := h
  rcases h2 with ⟨h2, _⟩ | ⟨g', cap, cur, h1, h2, h3, h4, h5, h6, h7⟩
  · cases h2
  · cases h1
    refine ⟨by simp [hl], Or.inr ⟨g, c, _, rfl, h2, setCell_heap h3 u, h4, h5, by simp [h6], ?_⟩⟩
    simp only [Array.toList_setIfInBounds]
    rw [← h7, List.take_set]
theorem evs_set : ∀ (es : List Ev) (vs : List Value) (i : Nat) (u : Value), vs.length = es.length → (∀ e ∈ es, Sec e.2.1.s) → i < es.length →
    (((es.zip vs).map fun x => evC x.1 x.2).flatten).set (i * 38 + 37) u = ((es.zip (vs.set i u)).map fun x => evC x.1 x.2).flatten
  | [], _, i, _, _, _, h => by simp at h
  | e :: es, [], _, _, h, _, _ => by simp at h
  | e :: es, v :: vs, 0, u, hl, hs, _ => by
    have h1 := hs e (List.mem_cons_self ..)
    simp only [List.zip_cons_cons, List.map_cons, List.flatten_cons, List.set_cons_zero, Nat.zero_mul, Nat.zero_add]
    rw [List.set_append_left _ _ (by rw [evC_len h1]; omega)]
    congr 1
    have hc := Wr.c_len h1
    unfold evC
    rw [List.set_cons_succ, List.set_append_right _ _ (by omega), hc]
    rfl
  | e :: es, v :: vs, i + 1, u, hl, hs, hi => by
    have h1 := hs e (List.mem_cons_self ..)
    have ih := evs_set es vs i u (by simpa using hl) (fun x hx => hs x (List.mem_cons_of_mem _ hx)) (by simpa using hi)
    simp only [List.zip_cons_cons, List.map_cons, List.flatten_cons, List.set_cons_succ]
    have hc := evC_len (v := v) h1
    rw [List.set_append_right _ _ (by omega), hc, show (i + 1) * 38 + 37 - 38 = i * 38 + 37 by omega, ih]
theorem evs_at : ∀ (es : List Ev) (vs : List Value) (i : Nat), vs.length = es.length → (∀ e ∈ es, Sec e.2.1.s) → i < es.length →
    (((es.zip vs).map fun x => evC x.1 x.2).flatten)[i * 38 + 37]? = vs[i]?
  | [], _, i, _, _, h => by simp at h
  | e :: es, [], _, h, _, _ => by simp at h
  | e :: es, v :: vs, 0, hl, hs, _ => by
    have h1 := hs e (List.mem_cons_self ..)
    simp only [List.zip_cons_cons, List.map_cons, List.flatten_cons, Nat.zero_mul, Nat.zero_add]
    rw [List.getElem?_append_left (by rw [evC_len h1]; omega)]
    have hc := Wr.c_len h1
    unfold evC
    rw [List.getElem?_cons_succ, List.getElem?_append_right (by omega), hc]
    rfl
  | e :: es, v :: vs, i + 1, hl, hs, hi => by
    have h1 := hs e (List.mem_cons_self ..)
    have ih := evs_at es vs i (by simpa using hl) (fun x hx => hs x (List.mem_cons_of_mem _ hx)) (by simpa using hi)
    simp only [List.zip_cons_cons, List.map_cons, List.flatten_cons]
    have hc := evC_len (v := v) h1
    rw [List.getElem?_append_right (by omega), hc, show (i + 1) * 38 + 37 - 38 = i * 38 + 37 by omega, ih, List.getElem?_cons_succ]
/-- the first j events' tags are new -/
structure Half (w wr : World) (g : Nat) (es : List Ev) (vs us : List Value) (j : Nat) : Prop where
  len : us.length = es.length
  new : ∀ i (h : i < es.length), i < j → ∃ p c, us[i]? = some (.slice p (es[i]).2.2.length c) ∧ Rd wr 2 (.slice p (es[i]).2.2.length c) (es[i]).2.2.length (tagsC (es[i]).2.2) ∧ InS (fun b => w.heap.size ≤ b ∧ b ≠ g) (.slice p (es[i]).2.2.length c)
  old : ∀ i, j ≤ i → us[i]? = vs[i]?
theorem half_step {w wr wt : World} {g : Nat} {es : List Ev} {vs us : List Value} {j : Nat} (h : Half w wr g es vs us j) (hj : j < es.length) (hb : Below wr.heap.size wr wt) (k : Nat) (hw : w.heap.size ≤ wr.heap.size) (hg : g < wr.heap.size) (p : Option Addr) (c : Nat) (ho : Own wt wr.heap.size 37 2 (.slice p (es[j]).2.2.length c) (es[j]).2.2.length (tagsC (es[j]).2.2)) :
    Half w (wt.setCell ⟨g, k, none⟩ (.slice p (es[j]).2.2.length c)) g es vs (us.set j (.slice p (es[j]).2.2.length c)) (j + 1) := by
  have hin : InS (fun b => w.heap.size ≤ b ∧ b ≠ g) (.slice p (es[j]).2.2.length c) := (own_inS ho).mono fun b hb => ⟨by omega, by omega⟩
  refine ⟨by simp [h.len], fun i hi hlt => ?_, fun i hi => ?_⟩
  · by_cases e : i = j
    · subst e
      refine ⟨p, c, ?_, Rd.set ho.rd (hin.mono fun b hb => hb.2), hin⟩
      rw [List.getElem?_set_self (by rw [h.len]; exact hi)]
    · obtain ⟨p', c', h1, h2, h3⟩ := h.new i hi (by omega)
      refine ⟨p', c', ?_, Rd.set (h2.later hb) (h3.mono fun b hb => hb.2), h3⟩
      rw [List.getElem?_set_ne (by omega)]
      exact h1
  · rw [List.getElem?_set_ne (by omega)]
    exact h.old i (by omega)
def CopyDone (w : World) (es : List Ev) (e : Ending) (w' : World) : Prop := ∃ p' c' us, e = .returned (.slice p' es.length c') ∧ LogIn (fun b => w.heap.size ≤ b ∧ b < w'.heap.size ∧ (Value.slice p' es.length c').ownBlock ≠ some b) w' (.slice p' es.length c') es us ∧ (∀ k, (Value.slice p' es.length c').ownBlock = some k → w.heap.size ≤ k) ∧ Below w.heap.size w w'
set_option maxHeartbeats 1600000 in
theorem ccopy (T : Nat → Prop) (v : Value) (es : List Ev) (vs : List Value) (w : World) (h : LogIn T w v es vs) (hs : ∀ e ∈ es, Sec e.2.1.s) (ht : ∀ e ∈ es, e.2.2.length ≤ 1000) (hn : es.length ≤ 1000) :
    Calls Try.prog 32 #[v] w (CopyDone w es) := by
  obtain ⟨p, c, rfl⟩ := h.own.slice
  have hones : ∀ u ∈ ((es.zip vs).map fun x => evC x.1 x.2).flatten, u.oneCell' = true := by
    intro u hu
    obtain ⟨l, hl, hul⟩ := List.mem_flatten.1 hu
    obtain ⟨x, hx, rfl⟩ := List.mem_map.1 hl
    obtain ⟨i, hi, hxi⟩ := List.getElem_of_mem hx
    have hie : i < es.length := by simp [h.len] at hi; exact hi
    obtain ⟨p, c, h1, _⟩ := h.tags i hie
    refine evC_ones x.1 x.2 ?_ u hul
    rw [List.getElem_zip] at hxi
    have h2 : x.2 = vs[i]'(by rw [h.len]; exact hie) := by rw [← hxi]
    rw [List.getElem?_eq_getElem (by rw [h.len]; exact hie)] at h1
    rw [h2, Option.some.inj h1]
    rfl
  have HC := Lib.hid (clone_evs p es.length c _ w h.own.rd hones hn)
  have HL := Lib.hid h
  have HS := Lib.hid hs
  have HT := Lib.hid ht
  generalize hm : es.length = m at *
  have HM := Lib.hid hm
  clear h hs ht hones hm
  go_enter Try.func32, Try.ntmps32
  go_wp2_with (go_at_call 45; refine HC.out.mono ?_; rintro e w1 ⟨p1, c1, rfl, ho, hb⟩; have HO := Lib.hid ho; have HB := Lib.hid hb; clear ho hb)
  have hpb : ∀ k, (Value.slice p1 m c1).ownBlock = some k → w.heap.size ≤ k ∧ k < w1.heap.size := fun k hk => own_blk HO.out hk
  have HPB := Lib.hid hpb
  have R0 : Hid (∃ us, (∀ g, p1 = some ⟨g, 0, none⟩ → Half w w1 g es vs us 0) ∧ us.length = es.length ∧ Own w1 w.heap.size 79 38 (.slice p1 m c1) m (((es.zip us).map fun x => evC x.1 x.2).flatten)) := Lib.hid ⟨vs, fun g _ => ⟨HL.out.len, fun i _ hi => by omega, fun i _ => rfl⟩, HL.out.len, HO.out⟩
  have hb1 := HB.out
  clear hpb
  go_loopw [9] (fun iv wr => ∃ (j : Nat), j ≤ m ∧ iv = .int .i64 (j : Int) ∧ Hid (∃ us, (∀ g, p1 = some ⟨g, 0, none⟩ → Half w wr g es vs us j) ∧ us.length = es.length ∧ Own wr w.heap.size 79 38 (.slice p1 m c1) m (((es.zip us).map fun x => evC x.1 x.2).flatten)) ∧ Below w.heap.size w wr) (fun iv _ => m - (intOf iv).toNat)
  case atStart => exact ⟨0, by omega, rfl, R0, hb1⟩
  case round =>
    clear R0 hb1 HO HPB HB HC w1
    obtain ⟨j, hj, rfl, HR, hbr⟩ := hrel
    obtain ⟨us, hus⟩ := HR.out
    obtain ⟨hhalf, hul, hown⟩ := hus
    by_cases ha : j < m
    · have ha1 : (j:Int) < m := by omega
      have hjl : j < es.length := by rw [HM.out]; exact ha
      obtain ⟨g, rfl⟩ := own_some hown (by omega)
      have hh := hhalf g rfl
      have hblk := own_block hown
      obtain ⟨pt, ct, ht1, ht2, ht3⟩ := HL.out.tags j hjl
      have hc37 : (((es.zip us).map fun x => evC x.1 x.2).flatten)[j * 38 + 37]? = some (.slice pt (es[j]).2.2.length ct) := by
        rw [evs_at es us j hul HS.out hjl, hh.old j (Nat.le_refl _)]; exact ht1
      obtain ⟨e37, z37⟩ := own_cell hown hc37
      have htl : (es[j]).2.2.length ≤ 1000 := HT.out _ (List.getElem_mem hjl)
      obtain ⟨tn, htn⟩ : ∃ tn, (es[j]).2.2.length = tn := ⟨_, rfl⟩
      have HCT := Lib.hid (clone_tags pt (es[j]).2.2.length ct _ wr (ht2.later hbr) (fun u hu => by
        obtain ⟨l, hl, hul⟩ := List.mem_flatten.1 hu
        obtain ⟨x, hx, rfl⟩ := List.mem_map.1 hl
        simp [tagC] at hul
        rcases hul with rfl | rfl <;> rfl) htl)
      rw [htn] at e37 HCT
      have HTN := Lib.hid htn
      have HH := Lib.hid hh
      have HOW := Lib.hid hown
      have HUL := Lib.hid hul
      clear hh hown hhalf hul hc37 ht1 ht2 ht3 htl htn HR
      go_wp2_with (go_at_call 37; refine HCT.out.mono ?_; rintro e wt ⟨p2, c2, rfl, ho, hb⟩; have HO := Lib.hid ho; have hbt := hb; have HB := Lib.hid hb; have f37 := (hb.cell (p := ⟨g, j * 38 + 37, none⟩) hblk.2).trans e37; have y37 : wt.frozen? ⟨g, j * 38 + 37, none⟩ = false := (World.frozen?_of_block (a := ⟨g, j * 38 + 37, none⟩) (hb.block g hblk.2)).trans z37; clear ho hb)
      have hfin : Hid (∃ us', (∀ g', some (⟨g, 0, none⟩ : Addr) = some ⟨g', 0, none⟩ → Half w (wt.setCell ⟨g, j * 38 + 37, none⟩ (.slice p2 tn c2)) g' es vs us' (j + 1)) ∧ us'.length = es.length ∧ Own (wt.setCell ⟨g, j * 38 + 37, none⟩ (.slice p2 tn c2)) w.heap.size 79 38 (.slice (some ⟨g, 0, none⟩) m c1) m (((es.zip us').map fun x => evC x.1 x.2).flatten)) := by
        refine Lib.hid ⟨us.set j (.slice p2 tn c2), fun g' hg' => ?_, by simp [HUL.out], ?_⟩
        · cases hg'
          have hho := HO.out
          rw [← HTN.out] at hho ⊢
          exact half_step HH.out hjl HB.out _ hbr.size hblk.2 p2 c2 hho
        · rw [← evs_set es us j _ HUL.out HS.out hjl]
          exact own_setCell (own_later HOW.out HB.out) (by omega) _
      have hbf : Below w.heap.size w (wt.setCell ⟨g, j * 38 + 37, none⟩ (.slice p2 tn c2)) := (hbr.trans (HB.out.mono hbr.size)).trans ⟨rfl, rfl, rfl, by simp [World.setCell], fun k hk => Below.heap_setCell _ _ _ _ (by show k ≠ g; omega)⟩
      go_roundw
      case rel => exact ⟨j + 1, by omega, by go_num, hfin, hbf⟩
      case measure => simp [intOf]; omega
    · obtain rfl : j = m := by omega
      have HD : CopyDone w es (.returned (.slice p1 j c1)) wr := by
        refine ⟨p1, c1, us, by rw [HM.out], ?_, ?_, hbr⟩
        · rw [HM.out]
          refine ⟨hul, by rw [HM.out]; exact own_base hown (Nat.zero_le _), fun i hi => ?_⟩
          obtain ⟨g, hg⟩ := own_some hown (by rw [HM.out] at hi; omega)
          obtain ⟨p, c, h1, h2, h3⟩ := (hhalf g hg).new i hi (by rw [HM.out] at hi; exact hi)
          refine ⟨p, c, h1, h2, fun a n c' hv hn => ?_⟩
          have h4 := h3 a n c' hv hn
          refine ⟨h4.1, ?_, fun e => ?_⟩
          · rcases h2 with ⟨p', cap', e1, e2, _⟩ | ⟨b, off, cap', e1, _, _, _, hlt, _⟩
            · rw [e1] at hv; cases hv; omega
            · rw [e1] at hv; cases hv; exact hlt
          · subst hg
            simp [Value.ownBlock] at e
            exact h4.2 e.symm
        · rw [HM.out]
          intro k hk
          exact (own_blk hown hk).1
      go_wp2_with fail
      go_ret
      exact HD
end Go.Proofs.Yteobhljkjgocdaa.dsk
