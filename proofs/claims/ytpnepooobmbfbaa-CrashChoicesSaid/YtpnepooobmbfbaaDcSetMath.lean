/- How the code's settle works, over lists: for each sector how many of the first writes no longer matter to it; and that what is read stays. -/
import Derived.Test.YtpnepooobmbfbaaDcTags
namespace Go.Proofs.Ytpnepooobmbfbaa.dsk
set_option maxRecDepth 100000
open Go.ChangeShapes Go.WideShapes Go.ChangeAt Go.RowKit
open Go.Proofs.Ytpnepooobmbfbaa.rows
open Go.Proofs.Ytpnepooobmbfbaa.sec
open Go.Maps
set_option linter.unusedVariables false
set_option linter.unusedSimpArgs false

/-! what is read stays -/
end Go.Proofs.Ytpnepooobmbfbaa.dsk
/- A slice that is filtered in place: what is left lies at the beginning of the row, what is still to come behind it where it was. -/
namespace Go.Proofs.Ytpnepooobmbfbaa.dsk
open Go.ChangeShapes Go.WideShapes Go.ChangeAt Go.RowKit
open Go.Proofs.Ytpnepooobmbfbaa.rows
open Go.Proofs.Ytpnepooobmbfbaa.sec
open Go.Maps
set_option linter.unusedVariables false
set_option linter.unusedSimpArgs false

def LeftRow (w : World) (gw c : Nat) (ls ws : List Wr) (j : Nat) : Prop := ∃ mid rest : List Value, w.heap[gw]? = some (.cells (wrsC ls ++ mid ++ (wrsC (ws.drop j) ++ rest)).toArray 79 (0, 0)) ∧
  (wrsC ls).length + mid.length = j * 36 ∧ (wrsC (ws.drop j) ++ rest).length + j * 36 = c * 36
theorem wrsC_len {ws : List Wr} (h : ∀ x ∈ ws, Sec x.s) : (wrsC ws).length = ws.length * 36 := chunk_len Wr.c 36 ws fun x hx => Wr.c_len (h x hx)
theorem wrsC_drop {ws : List Wr} {j : Nat} (h : j < ws.length) : wrsC (ws.drop j) = ws[j].c ++ wrsC (ws.drop (j + 1)) := by
  unfold wrsC
  rw [List.drop_eq_getElem_cons h, List.map_cons, List.flatten_cons]
theorem wrsC_snoc (ls : List Wr) (x : Wr) : wrsC (ls ++ [x]) = wrsC ls ++ x.c := by simp [wrsC]
theorem LeftRow.lt {w : World} {gw c j : Nat} {ls ws : List Wr} (h : LeftRow w gw c ls ws j) : gw < w.heap.size := by
  obtain ⟨mid, rest, h1, _⟩ := h
  exact (Array.getElem?_eq_some_iff.1 h1).1
theorem LeftRow.next {w w' : World} {gw c j : Nat} {ls ws : List Wr} (h : LeftRow w gw c ls ws j) (hb : w'.heap[gw]? = w.heap[gw]?) : LeftRow w' gw c ls ws j := by
  obtain ⟨mid, rest, h1, h2⟩ := h
  exact ⟨mid, rest, hb.trans h1, h2⟩
theorem LeftRow.below {w w' : World} {gw c j : Nat} {ls ws : List Wr} (h : LeftRow w gw c ls ws j) (hb : Below w.heap.size w w') : LeftRow w' gw c ls ws j := h.next (hb.block gw h.lt)
theorem LeftRow.range {w : World} {gw c j : Nat} {ls ws : List Wr} (h : LeftRow w gw c ls ws j) (hj : j < ws.length) : w.rangeAt gw (j * 36) ws[j].c := by
  obtain ⟨mid, rest, h1, h2, h3⟩ := h
  intro i u hi
  refine cell_row h1 _ _ ?_
  rw [List.getElem?_toArray, ← h2, ← List.length_append, List.getElem?_append_right (by omega), wrsC_drop hj]
  rw [Nat.add_sub_cancel_left, List.append_assoc, List.getElem?_append_left (List.getElem?_eq_some_iff.1 hi).1]
  exact hi
theorem LeftRow.skip {w : World} {gw c j : Nat} {ls ws : List Wr} (h : LeftRow w gw c ls ws j) (hj : j < ws.length) (hs : Sec ws[j].s) : LeftRow w gw c ls ws (j + 1) := by
  obtain ⟨mid, rest, h1, h2, h3⟩ := h
  have hc := Wr.c_len hs
  rw [wrsC_drop hj] at h1 h3
  refine ⟨mid ++ ws[j].c, rest, ?_, by simp [hc]; omega, by simp [hc] at h3 ⊢; omega⟩
  rw [h1]
  simp [List.append_assoc]
/-- append within the row -/
theorem LeftRow.append {w : World} {gw c j : Nat} {ls ws : List Wr} (h : LeftRow w gw c ls ws j) (hj : j < ws.length) (hs : Sec ws[j].s) (hls : ∀ x ∈ ls, Sec x.s) (hl : ls.length ≤ j) {x : Wr} (hx : ws[j] = x) (ty : TypeId) (ad : Addr) (c2 : Nat) (hn : ∀ i u, x.c[i]? = some u → w.cell? (ad.add i) = some u) :
    ∃ w', (Builtin.append_ #[26, 26] ty #[.slice (some ⟨gw, 0, none⟩) ls.length c, .slice (some ad) 1 c2]).run Try.prog w = .ok (.slice (some ⟨gw, 0, none⟩) (ls.length + 1) c) w' ∧ LeftRow w' gw c (ls ++ [x]) ws (j + 1) ∧ Touch (· = gw) w w' := by
  obtain ⟨mid, rest, h1, h2, h3⟩ := h
  obtain ⟨i0, hi, hz0, hz1, hz2⟩ := info_parts elem_wrs.info
  have hc := Wr.c_len hs
  have hll := wrsC_len hls
  rw [wrsC_drop hj] at h1 h3
  rw [hx] at h1 h3 hc
  have hdl : (wrsC (ws.drop (j + 1)) ++ rest).length + (j + 1) * 36 = c * 36 := by simp [hc] at h3 ⊢; omega
  have hjc : j + 1 ≤ c := by omega
  have hr := run_append_room (P := Try.prog) w 26 ty 79 i0 elem_wrs.und hi gw ls.length c _ h1 ad 1 c2 x.c (by rw [hz1, hc]) hn (wr_ones x) (by omega) (by rw [hz1]; simp [hc, hll]; omega)
  refine ⟨_, hr, ⟨(mid ++ x.c).drop 36, rest, ?_, ?_, hdl⟩, touch_setRow w gw _⟩
  · rw [setRow_heap w gw _ _ _ _ h1, hz1, hc, ← hll, wrsC_snoc]
    have e1 : wrsC ls ++ mid ++ (x.c ++ wrsC (ws.drop (j + 1)) ++ rest) = wrsC ls ++ ((mid ++ x.c) ++ (wrsC (ws.drop (j + 1)) ++ rest)) := by simp [List.append_assoc]
    rw [e1]
    have e2 : ((mid ++ x.c) ++ (wrsC (ws.drop (j + 1)) ++ rest)).drop 36 = (mid ++ x.c).drop 36 ++ (wrsC (ws.drop (j + 1)) ++ rest) := List.drop_append_of_le_length (by simp [hc])
    rw [List.take_left, ← List.drop_drop, List.drop_left, e2]
    simp [List.append_assoc]
  · rw [wrsC_snoc]; simp [hc]; omega
theorem LeftRow.own {w : World} {gw c j : Nat} {ls ws : List Wr} (h : LeftRow w gw c ls ws j) (hls : ∀ x ∈ ls, Sec x.s) (hl : ls.length ≤ j) (hj : j ≤ c) (hc : c ≤ maxLen) : Own w 0 79 36 (.slice (some ⟨gw, 0, none⟩) ls.length c) ls.length (wrsC ls) := by
  obtain ⟨mid, rest, h1, h2, h3⟩ := h
  have hll := wrsC_len hls
  refine ⟨hll, Or.inr ⟨gw, c, _, rfl, Nat.zero_le _, h1, by omega, hc, ?_, ?_⟩⟩
  · simp only [List.size_toArray]
    simp only [List.length_append] at h3 ⊢
    omega
  · show (wrsC ls ++ mid ++ _).take _ = _
    rw [List.append_assoc, ← hll, List.take_left]
end Go.Proofs.Ytpnepooobmbfbaa.dsk
