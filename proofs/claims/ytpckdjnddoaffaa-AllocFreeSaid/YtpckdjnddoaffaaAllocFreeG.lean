/- What AllocFree wants, part 7. -/
import Derived.Test.YtpckdjnddoaffaaAllocFreeF
import Derived.DeepKeys5
import Derived.DeepKeys3
/- Tags as keys of a map; the code's lastEpoch; how the code's Sync settles, in the document's words. -/
namespace Go.Proofs.Ytpckdjnddoaffaa.dsk
set_option maxRecDepth 100000
open Go.ChangeShapes Go.WideShapes Go.ChangeAt Go.RowKit
open Go.Proofs.Ytpckdjnddoaffaa.rows
open Go.Proofs.Ytpckdjnddoaffaa.sec
open Go.Maps
set_option linter.unusedVariables false
set_option linter.unusedSimpArgs false

def tagL (k i : Int) : Lit := .string (keyBytes [.int .i64 k, .int .i64 i])
/-- block b is the set of the tags ts -/
def Wanted (w : World) (b : Nat) (ts : List (Int × Int)) : Prop := ∃ n, ∃ D : DataW Unit, n ≤ ts.length ∧ w.ownsMap Try.prog 53 unitElem b n D ∧ ∀ k i : Int, wf64 k → wf64 i → Maps.has D (tagL k i) = decide ((k, i) ∈ ts)
theorem wanted_kept {S : Nat → Prop} {w w' : World} {b : Nat} {ts : List (Int × Int)} (h : Wanted w b ts) (hb : S b) (k : Keeps S w w') : Wanted w' b ts := by
  obtain ⟨n, D, h1, h2, h3⟩ := h
  have hlt := h2.lt
  obtain ⟨es, clock, he, r⟩ := h2
  exact ⟨n, D, h1, ⟨es, clock, (k.2 b hlt hb).trans he, r⟩, h3⟩
theorem Wanted.lt {w : World} {b : Nat} {ts : List (Int × Int)} (h : Wanted w b ts) : b < w.heap.size := by
  obtain ⟨n, D, h1, h2, h3⟩ := h
  exact h2.lt
/-! what the code's Sync settles -/
end Go.Proofs.Ytpckdjnddoaffaa.dsk
/- What the code's lastEpoch gives. -/
namespace Go.Proofs.Ytpckdjnddoaffaa.dsk
open Go.ChangeShapes Go.WideShapes Go.ChangeAt Go.RowKit
open Go.Proofs.Ytpckdjnddoaffaa.rows
open Go.Proofs.Ytpckdjnddoaffaa.sec
open Go.Maps
set_option linter.unusedVariables false
set_option linter.unusedSimpArgs false

theorem AtW.parts {w : World} {g : Nat} {x : Wr} (h : AtW w g x) (hs : Sec x.s) : w.cell? ⟨g, 0, none⟩ = some (.int .i64 x.pos) ∧ w.rangeAt g 1 (u8s x.s) ∧ w.cell? ⟨g, 33, none⟩ = some (.int .i64 x.kind) ∧ w.cell? ⟨g, 34, none⟩ = some (.int .i64 x.id) ∧ w.cell? ⟨g, 35, none⟩ = some (.int .i64 x.ep) := by
  have := wr_parts hs h.range
  simpa using this
theorem AtW.later {w w' : World} {g : Nat} {x : Wr} (h : AtW w g x) (hb : Below w.heap.size w w') : AtW w' g x := row_later h hb (Array.getElem?_eq_some_iff.1 h).1
end Go.Proofs.Ytpckdjnddoaffaa.dsk
/- How the code's settle works, over lists: for each sector how many of the first writes no longer matter to it; and that what is read stays. -/
namespace Go.Proofs.Ytpckdjnddoaffaa.dsk
set_option maxRecDepth 100000
open Go.ChangeShapes Go.WideShapes Go.ChangeAt Go.RowKit
open Go.Proofs.Ytpckdjnddoaffaa.rows
open Go.Proofs.Ytpckdjnddoaffaa.sec
open Go.Maps
set_option linter.unusedVariables false
set_option linter.unusedSimpArgs false

/-! what is read stays -/
end Go.Proofs.Ytpckdjnddoaffaa.dsk
/- A slice that is filtered in place: what is left lies at the beginning of the row, what is still to come behind it where it was. -/
namespace Go.Proofs.Ytpckdjnddoaffaa.dsk
open Go.ChangeShapes Go.WideShapes Go.ChangeAt Go.RowKit
open Go.Proofs.Ytpckdjnddoaffaa.rows
open Go.Proofs.Ytpckdjnddoaffaa.sec
open Go.Maps
set_option linter.unusedVariables false
set_option linter.unusedSimpArgs false

def LeftRow (w : World) (gw c : Nat) (ls ws : List Wr) (j : Nat) : Prop := ∃ mid rest : List Value, w.heap[gw]? = some (.cells (wrsC ls ++ mid ++ (wrsC (ws.drop j) ++ rest)).toArray 55 (0, 0)) ∧
  (wrsC ls).length + mid.length = j * 36 ∧ (wrsC (ws.drop j) ++ rest).length + j * 36 = c * 36
theorem wrsC_len {ws : List Wr} (h : ∀ x ∈ ws, Sec x.s) : (wrsC ws).length = ws.length * 36 := chunk_len Wr.c 36 ws fun x hx => Wr.c_len (h x hx)
theorem wrsC_drop {ws : List Wr} {j : Nat} (h : j < ws.length) : wrsC (ws.drop j) = ws[j].c ++ wrsC (ws.drop (j + 1)) := by
  unfold wrsC
  rw [List.drop_eq_getElem_cons h, List.map_cons, List.flatten_cons]
theorem wrsC_snoc (ls : List Wr) (x : Wr) : wrsC (ls ++ [x]) = wrsC ls ++ x.c := by simp [wrsC]
theorem LeftRow.lt {w : World} {gw c j : Nat} {ls ws : List Wr} (h : LeftRow w gw c ls ws j) : gw < w.heap.size := by
  obtain ⟨mid, rest, h1, _⟩ := h
  exact (Array.getElem?_eq_some_iff.1 h1).1
theorem LeftRow.next {w w' : World} {gw c j : Nat} {ls ws : List Wr} (h : LeftRow w gw c ls ws j) (hb : w'.heap[gw]? = w.heap[gw]?) : LeftRow w' gw c ls ws j := by
  obtain ⟨mid, rest, h1, h2⟩ := h
  exact ⟨mid, rest, hb.trans h1, h2⟩
theorem LeftRow.below {w w' : World} {gw c j : Nat} {ls ws : List Wr} (h : LeftRow w gw c ls ws j) (hb : Below w.heap.size w w') : LeftRow w' gw c ls ws j := h.next (hb.block gw h.lt)
theorem LeftRow.range {w : World} {gw c j : Nat} {ls ws : List Wr} (h : LeftRow w gw c ls ws j) (hj : j < ws.length) : w.rangeAt gw (j * 36) ws[j].c := by
  obtain ⟨mid, rest, h1, h2, h3⟩ := h
  intro i u hi
  refine cell_row h1 _ _ ?_
  rw [List.getElem?_toArray, ← h2, ← List.length_append, List.getElem?_append_right (by omega), wrsC_drop hj]
  rw [Nat.add_sub_cancel_left, List.append_assoc, List.getElem?_append_left (List.getElem?_eq_some_iff.1 hi).1]
  exact hi
theorem LeftRow.skip {w : World} {gw c j : Nat} {ls ws : List Wr} (h : LeftRow w gw c ls ws j) (hj : j < ws.length) (hs : Sec ws[j].s) : LeftRow w gw c ls ws (j + 1) := by
  obtain ⟨mid, rest, h1, h2, h3⟩ := h
  have hc := Wr.c_len hs
  rw [wrsC_drop hj] at h1 h3
  refine ⟨mid ++ ws[j].c, rest, ?_, by simp [hc]; omega, by simp [hc] at h3 ⊢; omega⟩
  rw [h1]
  simp [List.append_assoc]
/-- append within the row -/
theorem LeftRow.append {w : World} {gw c j : Nat} {ls ws : List Wr} (h : LeftRow w gw c ls ws j) (hj : j < ws.length) (hs : Sec ws[j].s) (hls : ∀ x ∈ ls, Sec x.s) (hl : ls.length ≤ j) {x : Wr} (hx : ws[j] = x) (ty : TypeId) (ad : Addr) (c2 : Nat) (hn : ∀ i u, x.c[i]? = some u → w.cell? (ad.add i) = some u) :
    ∃ w', (Builtin.append_ #[23, 23] ty #[.slice (some ⟨gw, 0, none⟩) ls.length c, .slice (some ad) 1 c2]).run Try.prog w = .ok (.slice (some ⟨gw, 0, none⟩) (ls.length + 1) c) w' ∧ LeftRow w' gw c (ls ++ [x]) ws (j + 1) ∧ Touch (· = gw) w w' := by
  obtain ⟨mid, rest, h1, h2, h3⟩ := h
  obtain ⟨i0, hi, hz0, hz1, hz2⟩ := info_parts elem_wrs.info
  have hc := Wr.c_len hs
  have hll := wrsC_len hls
  rw [wrsC_drop hj] at h1 h3
  rw [hx] at h1 h3 hc
  have hdl : (wrsC (ws.drop (j + 1)) ++ rest).length + (j + 1) * 36 = c * 36 := by simp [hc] at h3 ⊢; omega
  have hjc : j + 1 ≤ c := by omega
  have hr := run_append_room (P := Try.prog) w 23 ty 55 i0 elem_wrs.und hi gw ls.length c _ h1 ad 1 c2 x.c (by rw [hz1, hc]) hn (wr_ones x) (by omega) (by rw [hz1]; simp [hc, hll]; omega)
  refine ⟨_, hr, ⟨(mid ++ x.c).drop 36, rest, ?_, ?_, hdl⟩, touch_setRow w gw _⟩
  · rw [setRow_heap w gw _ _ _ _ h1, hz1, hc, ← hll, wrsC_snoc]
    have e1 : wrsC ls ++ mid ++ (x.c ++ wrsC (ws.drop (j + 1)) ++ rest) = wrsC ls ++ ((mid ++ x.c) ++ (wrsC (ws.drop (j + 1)) ++ rest)) := by simp [List.append_assoc]
    rw [e1]
    have e2 : ((mid ++ x.c) ++ (wrsC (ws.drop (j + 1)) ++ rest)).drop 36 = (mid ++ x.c).drop 36 ++ (wrsC (ws.drop (j + 1)) ++ rest) := List.drop_append_of_le_length (by simp [hc])
    rw [List.take_left, ← List.drop_drop, List.drop_left, e2]
    simp [List.append_assoc]
  · rw [wrsC_snoc]; simp [hc]; omega
theorem LeftRow.start {w : World} {gw c m : Nat} {ws : List Wr} {B : Nat} (h : Own w B 55 36 (.slice (some ⟨gw, 0, none⟩) m c) m (wrsC ws)) : LeftRow w gw c [] ws 0 := by
  rcases h.2 with ⟨h2, _⟩ | ⟨g', cap, cur, h1, h2, h3, h4, h5, h6, h7⟩
  · cases h2
  · cases h1
    have e : cur.toList = wrsC ws ++ cur.toList.drop (m * 36) := by rw [← h7, List.take_append_drop]
    refine ⟨[], cur.toList.drop (m * 36), ?_, by simp [wrsC], ?_⟩
    · rw [h3]; simp only [wrsC, List.map_nil, List.flatten_nil, List.nil_append, List.drop_zero] at e ⊢; rw [← e]
    · rw [List.drop_zero, ← e, Array.length_toList, h6]; simp
theorem LeftRow.own {w : World} {gw c j : Nat} {ls ws : List Wr} (h : LeftRow w gw c ls ws j) (hls : ∀ x ∈ ls, Sec x.s) (hl : ls.length ≤ j) (hj : j ≤ c) (hc : c ≤ maxLen) : Own w 0 55 36 (.slice (some ⟨gw, 0, none⟩) ls.length c) ls.length (wrsC ls) := by
  obtain ⟨mid, rest, h1, h2, h3⟩ := h
  have hll := wrsC_len hls
  refine ⟨hll, Or.inr ⟨gw, c, _, rfl, Nat.zero_le _, h1, by omega, hc, ?_, ?_⟩⟩
  · simp only [List.size_toArray]
    simp only [List.length_append] at h3 ⊢
    omega
  · show (wrsC ls ++ mid ++ _).take _ = _
    rw [List.append_assoc, ← hll, List.take_left]
end Go.Proofs.Ytpckdjnddoaffaa.dsk
/- What the code's settle gives. -/
namespace Go.Proofs.Ytpckdjnddoaffaa.dsk
open Go.ChangeShapes Go.WideShapes Go.ChangeAt Go.RowKit
open Go.Proofs.Ytpckdjnddoaffaa.rows
open Go.Proofs.Ytpckdjnddoaffaa.sec
open Go.Maps
set_option linter.unusedVariables false
set_option linter.unusedSimpArgs false

/-- an array of numbers as it lies in memory -/
def ar (l : List Nat) : Array Value := (l.map fun n : Nat => Value.int .i64 (n : Int)).toArray
end Go.Proofs.Ytpckdjnddoaffaa.dsk
/- What the code's From and New give. -/
namespace Go.Proofs.Ytpckdjnddoaffaa.dsk
set_option maxRecDepth 100000
open Go.ChangeShapes Go.WideShapes Go.ChangeAt Go.RowKit
open Go.Proofs.Ytpckdjnddoaffaa.rows
open Go.Proofs.Ytpckdjnddoaffaa.sec
open Go.Maps
set_option linter.unusedVariables false
set_option linter.unusedSimpArgs false

set_option maxHeartbeats 1600000 in
theorem cfrom_yes (w : World) (p : Option Addr) (n c : Nat) (ss : List (List Int)) (hs : Secs ss) (h : Rd w 32 (.slice p n c) n (cellsOf ss)) (h1 : 1 ≤ n) (h2 : n ≤ 65) : Calls Try.prog 21 #[.slice p n c] w fun e w' => ∃ ad, e = .returned (.tuple #[.pointer (some ad), .int .i64 0]) ∧ CA w' (fun b => w.heap.size ≤ b ∧ b < w'.heap.size) (.pointer (some ad)) (st0 ss) ∧ Below w.heap.size w w' := by
  have HP := Lib.hid (fun w => cpossible (n : Int) w (WalkArith.wf_i64 (by omega)))
  rw [decide_eq_true (show 1 ≤ (n : Int) ∧ (n : Int) ≤ 65 by omega)] at HP
  have hsl : ss.length = n := by have := h.cells; rw [cellsOf_len hs] at this; omega
  have HSL := Lib.hid hsl
  have HS1 : Hid (∀ u ∈ cellsOf ss, u.oneCell' = true) := Lib.hid (by rw [cellsOf_map]; intro u hu; obtain ⟨l, hl, hul⟩ := List.mem_flatten.1 hu; obtain ⟨x, _, rfl⟩ := List.mem_map.1 hl; exact one_ints .u8 x u hul)
  have HC1 := Lib.hid (clone_secs p n c (cellsOf ss) w h HS1.out (by omega))
  have H := Lib.hid h
  have hni : (n : Int) ≤ 65 := by omega
  clear h hs hsl
  go_enter Try.func21, Try.ntmps21
  go_wp2_with (go_at_call 35; refine (HP.out w).mono ?_; rintro e w0 ⟨rfl, rfl⟩)
  refine HC1.out.mono ?_
  rintro e w1 ⟨p1, c1, rfl, ho1, hb1⟩
  have HO1 := Lib.hid ho1
  have HB1 := Lib.hid hb1
  have HC2 := Lib.hid (clone_secs p n c (cellsOf ss) w1 (H.out.later hb1) HS1.out (by omega))
  clear ho1 hb1
  go_wp2_with (go_at_call 36; refine HC2.out.mono ?_; rintro e w2 ⟨p2, c2, rfl, ho2, hb2⟩; have HO2 := Lib.hid ho2; have HB2 := Lib.hid hb2; clear ho2 hb2)
  have hs1 := HB1.out.size
  have hs2 := HB2.out.size
  have hB : Below w.heap.size w w2 := HB1.out.trans (HB2.out.mono hs1)
  have hsz := HSL.out
  have hfin : CodeAt (w2.alloc (.cells #[.pointer (some ⟨w2.heap.size, 0, none⟩), .slice p1 n c1, .slice none 0 0, .slice p2 n c2, .int .i64 0, .slice none 0 0, .int .i64 0, .map none] 88)) (fun b => w.heap.size ≤ b ∧ b < w2.heap.size + 1) (fun b => if b < w1.heap.size then 1 else if b < w2.heap.size then 3 else 0) w2.heap.size (st0 ss) (.slice p1 n c1) (.slice none 0 0) (.slice p2 n c2) (.slice none 0 0) (.map none) := by
    refine ⟨heap_alloc_new _ _, ⟨⟨by omega, by omega⟩, by dsimp only; rw [if_neg (by omega), if_neg (by omega)]⟩, ?_, fun k hk => ?_, own_nil _ _ _ _, ownS_nil _, ?_, fun k hk => ?_, ⟨[], rfl, own_nil _ _ _ _, fun i hi => absurd hi (Nat.not_lt_zero _)⟩, ownS_nil _, Or.inl ⟨rfl, rfl⟩, fun x hx => by cases hx⟩
    · show Own _ 0 _ 32 _ ss.length (cellsOf ss)
      rw [hsz]
      exact own_later (own_base HO1.out (Nat.zero_le _)) (below_trans HB2.out (below_alloc (Below.refl _ _) _))
    · have h := own_blk HO1.out hk
      exact ⟨⟨h.1, by omega⟩, if_pos h.2⟩
    · show Own _ 0 _ 32 _ ss.length (cellsOf ss)
      rw [hsz]
      exact own_later (own_base HO2.out (Nat.zero_le _)) (below_alloc (Below.refl _ _) _)
    · have h := own_blk HO2.out hk
      exact ⟨⟨by omega, by omega⟩, by dsimp only; rw [if_neg (by omega), if_pos h.2]⟩
  go_ret2
  exact ⟨_, rfl, ⟨_, w2.heap.size, _, _, _, _, _, rfl, hfin.wider (fun b hb => ⟨hb.1, by rw [size_alloc]; exact hb.2⟩) (fun _ _ => rfl)⟩, below_alloc hB _⟩
theorem cfrom_no (w : World) (p : Option Addr) (n c : Nat) (h : n ≤ 200) (hn : n < 1 ∨ 65 < n) : Calls Try.prog 21 #[.slice p n c] w fun e w' => e = .returned (.tuple #[.pointer none, .int .i64 1]) ∧ Below w.heap.size w w' := by
  have HP := Lib.hid (fun w => cpossible (n : Int) w (WalkArith.wf_i64 (by omega)))
  rw [decide_eq_false (show ¬ (1 ≤ (n : Int) ∧ (n : Int) ≤ 65) by omega)] at HP
  have hni : (n : Int) ≤ 200 := by omega
  go_enter Try.func21, Try.ntmps21
  go_wp2_with (go_at_call 35; refine (HP.out w).mono ?_; rintro e w0 ⟨rfl, rfl⟩)
  go_ret2
  exact ⟨rfl, Below.refl _ _⟩
end Go.Proofs.Ytpckdjnddoaffaa.dsk
