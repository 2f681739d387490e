/- What the code's From and New give. -/
import Derived.Test.YteobhljkjgocdaaDcSync
namespace Go.Proofs.Yteobhljkjgocdaa.dsk
open Go.ChangeShapes Go.WideShapes Go.ChangeAt Go.RowKit
open Go.Proofs.Yteobhljkjgocdaa.rows
open Go.Proofs.Yteobhljkjgocdaa.sec
open Go.Maps
set_option linter.unusedVariables false
set_option linter.unusedSimpArgs false

set_option maxHeartbeats 1600000 in
theorem cfrom_yes (w : World) (p : Option Addr) (n c : Nat) (ss : List (List Int)) (hs : Secs ss) (h : Rd w 32 (.slice p n c) n (cellsOf ss)) (h1 : 1 ≤ n) (h2 : n ≤ 65) : Calls Try.prog 7 #[.slice p n c] w fun e w' => ∃ ad, e = .returned (.tuple #[.pointer (some ad), .int .i64 0]) ∧ CA w' (fun b => w.heap.size ≤ b ∧ b < w'.heap.size) (.pointer (some ad)) (st0 ss) ∧ Below w.heap.size w w' := by
  have HP := Lib.hid (fun w => cpossible (n : Int) w (WalkArith.wf_i64 (by omega)))
  rw [decide_eq_true (show 1 ≤ (n : Int) ∧ (n : Int) ≤ 65 by omega)] at HP
  have hsl : ss.length = n := by have := h.cells; rw [cellsOf_len hs] at this; omega
  have HSL := Lib.hid hsl
  have HS1 : Hid (∀ u ∈ cellsOf ss, u.oneCell' = true) := Lib.hid (by rw [cellsOf_map]; intro u hu; obtain ⟨l, hl, hul⟩ := List.mem_flatten.1 hu; obtain ⟨x, _, rfl⟩ := List.mem_map.1 hl; exact one_ints .u8 x u hul)
  have HC1 := Lib.hid (clone_secs p n c (cellsOf ss) w h HS1.out (by omega))
  have H := Lib.hid h
  have hni : (n : Int) ≤ 65 := by omega
  clear h hs hsl
  go_enter Try.func7, Try.ntmps7
  go_wp2_with (go_at_call 27; refine (HP.out w).mono ?_; rintro e w0 ⟨rfl, rfl⟩)
  refine HC1.out.mono ?_
  rintro e w1 ⟨p1, c1, rfl, ho1, hb1⟩
  have HO1 := Lib.hid ho1
  have HB1 := Lib.hid hb1
  have HC2 := Lib.hid (clone_secs p n c (cellsOf ss) w1 (H.out.later hb1) HS1.out (by omega))
  clear ho1 hb1
  go_wp2_with (go_at_call 28; refine HC2.out.mono ?_; rintro e w2 ⟨p2, c2, rfl, ho2, hb2⟩; have HO2 := Lib.hid ho2; have HB2 := Lib.hid hb2; clear ho2 hb2)
  have hs1 := HB1.out.size
  have hs2 := HB2.out.size
  have hB : Below w.heap.size w w2 := HB1.out.trans (HB2.out.mono hs1)
  have hsz := HSL.out
  have hfin : CodeAt (w2.alloc (.cells #[.pointer (some ⟨w2.heap.size, 0, none⟩), .slice p1 n c1, .slice none 0 0, .slice p2 n c2, .int .i64 0, .slice none 0 0, .int .i64 0, .map none] 70)) (fun b => w.heap.size ≤ b ∧ b < w2.heap.size + 1) (fun b => if b < w1.heap.size then 1 else if b < w2.heap.size then 3 else 0) w2.heap.size (st0 ss) (.slice p1 n c1) (.slice none 0 0) (.slice p2 n c2) (.slice none 0 0) (.map none) := by
    refine ⟨heap_alloc_new _ _, ⟨⟨by omega, by omega⟩, by dsimp only; rw [if_neg (by omega), if_neg (by omega)]⟩, ?_, fun k hk => ?_, own_nil _ _ _ _, ownS_nil _, ?_, fun k hk => ?_, ⟨[], rfl, own_nil _ _ _ _, fun i hi => absurd hi (Nat.not_lt_zero _)⟩, ownS_nil _, Or.inl ⟨rfl, rfl⟩, fun x hx => by cases hx⟩
    · show Own _ 0 _ 32 _ ss.length (cellsOf ss)
      rw [hsz]
      exact own_later (own_base HO1.out (Nat.zero_le _)) (below_trans HB2.out (below_alloc (Below.refl _ _) _))
    · have h := own_blk HO1.out hk
      exact ⟨⟨h.1, by omega⟩, if_pos h.2⟩
    · show Own _ 0 _ 32 _ ss.length (cellsOf ss)
      rw [hsz]
      exact own_later (own_base HO2.out (Nat.zero_le _)) (below_alloc (Below.refl _ _) _)
    · have h := own_blk HO2.out hk
      exact ⟨⟨by omega, by omega⟩, by dsimp only; rw [if_neg (by omega), if_pos h.2]⟩
  go_ret2
  exact ⟨_, rfl, ⟨_, w2.heap.size, _, _, _, _, _, rfl, hfin.wider (fun b hb => ⟨hb.1, by rw [size_alloc]; exact hb.2⟩) (fun _ _ => rfl)⟩, below_alloc hB _⟩
theorem cfrom_no (w : World) (p : Option Addr) (n c : Nat) (h : n ≤ 200) (hn : n < 1 ∨ 65 < n) : Calls Try.prog 7 #[.slice p n c] w fun e w' => e = .returned (.tuple #[.pointer none, .int .i64 1]) ∧ Below w.heap.size w w' := by
  have HP := Lib.hid (fun w => cpossible (n : Int) w (WalkArith.wf_i64 (by omega)))
  rw [decide_eq_false (show ¬ (1 ≤ (n : Int) ∧ (n : Int) ≤ 65) by omega)] at HP
  have hni : (n : Int) ≤ 200 := by omega
  go_enter Try.func7, Try.ntmps7
  go_wp2_with (go_at_call 27; refine (HP.out w).mono ?_; rintro e w0 ⟨rfl, rfl⟩)
  go_ret2
  exact ⟨rfl, Below.refl _ _⟩
theorem cnew_no (w : World) (n : Int) (hw : wf64 n) (hn : n < 1 ∨ 65 < n) : Calls Try.prog 23 #[.int .i64 n] w fun e w' => e = .returned (.tuple #[.pointer none, .int .i64 1]) ∧ Below w.heap.size w w' := by
  have HP := Lib.hid (fun w => cpossible n w hw)
  rw [decide_eq_false (show ¬ (1 ≤ n ∧ n ≤ 65) by omega)] at HP
  go_enter Try.func23, Try.ntmps23
  go_wp2_with (go_at_call 27; refine (HP.out w).mono ?_; rintro e w0 ⟨rfl, rfl⟩)
  go_ret2
  exact ⟨rfl, Below.refl _ _⟩
set_option maxHeartbeats 1600000 in
theorem cnew_yes (w : World) (n : Nat) (h1 : 1 ≤ n) (h2 : n ≤ 65) : Calls Try.prog 23 #[.int .i64 (n : Int)] w fun e w' => ∃ ad, e = .returned (.tuple #[.pointer (some ad), .int .i64 0]) ∧ CA w' (fun b => w.heap.size ≤ b ∧ b < w'.heap.size) (.pointer (some ad)) (st0 (List.replicate n zero32)) ∧ Below w.heap.size w w' := by
  have HP := Lib.hid (fun w => cpossible (n : Int) w (WalkArith.wf_i64 (by omega)))
  rw [decide_eq_true (show 1 ≤ (n : Int) ∧ (n : Int) ≤ 65 by omega)] at HP
  obtain ⟨i0, hi, hz0, hz1, hz2⟩ := info_parts elem_secs.info
  have hn1 : (1 : Int) ≤ n := by omega
  have hni : (n : Int) ≤ 65 := by omega
  go_enter Try.func23, Try.ntmps23
  go_wp2_with (first | (go_at_call 27; refine (HP.out w).mono ?_; rintro e w0 ⟨rfl, rfl⟩) | (at_make; refine wpList_make_full _ rfl _ _ 22 rfl w.heap.size 35 i0 (.agg (u8s (List.replicate 32 0)).toArray) 32 Try.underlying22 hi hz0 hz1 .i64 .i64 _ _ n rfl rfl rfl rfl (by rw [hz2]; omega) (by unfold maxLen; omega) (Nat.le_refl _) ?_; intro w3 ho3 hg3; rw [made_secs] at ho3; have hb3 := below_made hg3; have HB3 := Lib.hid hb3; have R3 := rows_rd (rows_made ho3) (secs_zero n) (by rw [List.length_replicate]; unfold maxLen; omega); rw [List.length_replicate] at R3; have HFR := Lib.hid (cfrom_yes w3 _ n n _ (secs_zero n) R3 h1 h2); clear ho3 hg3 R3 hb3) | (go_at_call 7; refine HFR.out.mono ?_; rintro e w4 ⟨ad, rfl, hc, hb4⟩; have HC := Lib.hid hc; have HB4 := Lib.hid hb4; clear hc hb4))
  have hs3 := HB3.out.size
  go_ret2
  obtain ⟨z, g, vs, vw, vn, vl, vf, hd, hc⟩ := HC.out
  exact ⟨ad, rfl, ⟨z, g, vs, vw, vn, vl, vf, hd, hc.wider (fun b hb => ⟨by omega, hb.2⟩) fun _ _ => rfl⟩, HB3.out.trans (HB4.out.mono hs3)⟩
end Go.Proofs.Yteobhljkjgocdaa.dsk
