/- What the code's calls give on a disk that nobody made. -/
import Derived.Test.YteobhljkjgocdaaDcDup
namespace Go.Proofs.Yteobhljkjgocdaa.dsk
open Go.ChangeShapes Go.WideShapes Go.ChangeAt Go.RowKit
open Go.Proofs.Yteobhljkjgocdaa.rows
open Go.Proofs.Yteobhljkjgocdaa.sec
open Go.Maps
set_option linter.unusedVariables false
set_option linter.unusedSimpArgs false

/-- nobody made d -/
def Unmade (w : World) (d : Value) : Prop := d = .pointer none ∨ ∃ g, d = .pointer (some ⟨g, 0, none⟩) ∧ w.cell? ⟨g, 0, none⟩ = some (.pointer none) ∧ g < w.heap.size
theorem Unmade.later {w w' : World} {d : Value} (h : Unmade w d) (hb : Below w.heap.size w w') : Unmade w' d := by
  rcases h with h | ⟨g, h1, h2, h3⟩
  · exact Or.inl h
  · exact Or.inr ⟨g, h1, (hb.cell (p := ⟨g, 0, none⟩) h3).trans h2, Nat.lt_of_lt_of_le h3 hb.size⟩
theorem umade {w : World} {d : Value} (h : Unmade w d) : Calls Try.prog 30 #[d] w fun e w' => e = .returned (.bool false) ∧ w = w' := by
  rcases h with rfl | ⟨g, rfl, h2, _⟩
  · exact cmade_nil w
  · exact cmade_no g w h2
theorem ubarrier {w : World} {d : Value} (h : Unmade w d) : Calls Try.prog 11 #[d] w fun e w' => e = .returned (.int .i64 1) ∧ Below w.heap.size w w' := by
  have HM := Lib.hid (umade h)
  clear h
  go_enter Try.func11, Try.ntmps11
  go_wp2_with (go_at_call 30; refine HM.out.mono ?_; rintro e w0 ⟨rfl, rfl⟩)
  go_ret
  exact ⟨rfl, Below.refl _ _⟩
theorem usync {w : World} {d : Value} (h : Unmade w d) (p : Option Addr) (n c : Nat) : Calls Try.prog 13 #[d, .slice p n c] w fun e w' => e = .returned (.int .i64 1) ∧ Below w.heap.size w w' := by
  have HM := Lib.hid (umade h)
  clear h
  go_enter Try.func13, Try.ntmps13
  go_wp2_with (go_at_call 30; refine HM.out.mono ?_; rintro e w0 ⟨rfl, rfl⟩)
  go_ret
  exact ⟨rfl, Below.refl _ _⟩
theorem ufail {w : World} {d : Value} (h : Unmade w d) (p : Option Addr) (n c : Nat) : Calls Try.prog 14 #[d, .slice p n c] w fun e w' => e = .returned (.tuple #[]) ∧ Below w.heap.size w w' := by
  have HM := Lib.hid (umade h)
  clear h
  go_enter Try.func14, Try.ntmps14
  go_wp2_with (go_at_call 30; refine HM.out.mono ?_; rintro e w0 ⟨rfl, rfl⟩)
  refine bodyPost_ret (results_none (by rfl) _ _ _) rfl ?_
  exact ⟨rfl, Below.refl _ _⟩
theorem usafe {w : World} {d : Value} (h : Unmade w d) : Calls Try.prog 17 #[d] w fun e w' => e = .returned (.slice none 0 0) ∧ Below w.heap.size w w' := by
  have HM := Lib.hid (umade h)
  clear h
  go_enter Try.func17, Try.ntmps17
  go_wp2_with (go_at_call 30; refine HM.out.mono ?_; rintro e w0 ⟨rfl, rfl⟩)
  go_ret
  exact ⟨rfl, Below.refl _ _⟩
theorem uwaiting {w : World} {d : Value} (h : Unmade w d) : Calls Try.prog 19 #[d] w fun e w' => e = .returned (.slice none 0 0) ∧ Below w.heap.size w w' := by
  have HM := Lib.hid (umade h)
  clear h
  go_enter Try.func19, Try.ntmps19
  go_wp2_with (go_at_call 30; refine HM.out.mono ?_; rintro e w0 ⟨rfl, rfl⟩)
  go_ret
  exact ⟨rfl, Below.refl _ _⟩
theorem ulog {w : World} {d : Value} (h : Unmade w d) : Calls Try.prog 21 #[d] w fun e w' => e = .returned (.slice none 0 0) ∧ Below w.heap.size w w' := by
  have HM := Lib.hid (umade h)
  clear h
  go_enter Try.func21, Try.ntmps21
  go_wp2_with (go_at_call 30; refine HM.out.mono ?_; rintro e w0 ⟨rfl, rfl⟩)
  go_ret
  exact ⟨rfl, Below.refl _ _⟩
theorem uepoch {w : World} {d : Value} (h : Unmade w d) : Calls Try.prog 22 #[d] w fun e w' => e = .returned (.int .i64 0) ∧ Below w.heap.size w w' := by
  have HM := Lib.hid (umade h)
  clear h
  go_enter Try.func22, Try.ntmps22
  go_wp2_with (go_at_call 30; refine HM.out.mono ?_; rintro e w0 ⟨rfl, rfl⟩)
  go_ret
  exact ⟨rfl, Below.refl _ _⟩
theorem uclone {w : World} {d : Value} (h : Unmade w d) : Calls Try.prog 10 #[d] w fun e w' => e = .returned (.pointer none) ∧ Below w.heap.size w w' := by
  have HM := Lib.hid (umade h)
  clear h
  go_enter Try.func10, Try.ntmps10
  go_wp2_with (go_at_call 30; refine HM.out.mono ?_; rintro e w0 ⟨rfl, rfl⟩)
  go_ret
  exact ⟨rfl, Below.refl _ _⟩
theorem uread {w : World} {d : Value} (h : Unmade w d) (i : Int) : Calls Try.prog 26 #[d, .int .i64 i] w fun e w' => e = .returned (.tuple #[agg zero32, .int .i64 1]) ∧ Below w.heap.size w w' := by
  have hb0 := below_alloc (Below.refl w.heap.size w) (.cells (u8s zero32).toArray 35)
  have HM := Lib.hid (umade (h.later hb0))
  rw [← lit_zero] at hb0 HM
  have HB := Lib.hid hb0
  clear h hb0
  go_enter Try.func26, Try.ntmps26
  go_wp2_with (first | (go_at_call 30; refine HM.out.mono ?_; rintro e w0 ⟨rfl, rfl⟩) | (refine store_at rfl _ _ rfl rfl w.heap.size zero32 zero32 rfl (congrArg Value.agg lit_zero) (by decide) (by decide) (at_lit w) ?_; intro w2 hA hB2 _; have A2 := Lib.hid hA; clear hA))
  exact ret_sec2 rfl w.heap.size _ _ rfl rfl (by decide) A2.out rfl ⟨rfl, HB.out.trans hB2⟩
theorem uwrite {w : World} {d : Value} (h : Unmade w d) (i : Int) (s : List Int) (k id : Int) : Calls Try.prog 12 #[d, .int .i64 i, agg s, .agg #[.int .i64 k, .int .i64 id]] w fun e w' => e = .returned (.int .i64 1) ∧ Below w.heap.size w w' := by
  obtain ⟨W, hW⟩ : ∃ W, W = (w.alloc (.cells (u8s s).toArray 35)).alloc (.cells #[.int .i64 k, .int .i64 id] 37) := ⟨_, rfl⟩
  have hbW : Below w.heap.size w W := by rw [hW]; exact below_alloc (below_alloc (Below.refl _ _) _) _
  have HM := Lib.hid (umade (h.later hbW))
  have HW := Lib.hid hW
  have HBW := Lib.hid hbW
  clear h hW hbW
  go_enter Try.func12, Try.ntmps12
  go_wp2_with fail
  rw [← HW.out]
  refine HM.out.mono ?_
  rintro e w0 ⟨rfl, rfl⟩
  go_wp2_with fail
  go_ret
  exact ⟨rfl, HBW.out⟩
theorem null_neq_none (w : World) : (binOp .neq 26 (.pointer none) (.pointer none)).run Try.prog w = .ok (.bool false) w := by
  have h : ∀ d : Nat, (Op.equalIn (d + 1) 26 (.pointer none) (.pointer none)).run Try.prog w = .ok true w := fun d => by
    simp [Op.equalIn, run_underlying und_pdisk]
  simp only [binOp]
  simp [Op.equal, Op.maxDepth, h 9999]
theorem uwrite0 {w : World} {d : Value} (h : Unmade w d) : Calls Try.prog 12 #[d, .int .i64 0, .agg #[.int .u8 0, .int .u8 0, .int .u8 0, .int .u8 0, .int .u8 0, .int .u8 0, .int .u8 0, .int .u8 0, .int .u8 0, .int .u8 0, .int .u8 0, .int .u8 0, .int .u8 0, .int .u8 0, .int .u8 0, .int .u8 0, .int .u8 0, .int .u8 0, .int .u8 0, .int .u8 0, .int .u8 0, .int .u8 0, .int .u8 0, .int .u8 0, .int .u8 0, .int .u8 0, .int .u8 0, .int .u8 0, .int .u8 0, .int .u8 0, .int .u8 0, .int .u8 0], .agg #[.int .i64 0, .int .i64 0]] w fun e w' => e = .returned (.int .i64 1) ∧ Below w.heap.size w w' := by
  have h1 := uwrite h 0 zero32 0 0
  unfold agg at h1
  rw [← lit_zero] at h1
  exact h1
set_option maxRecDepth 100000 in
set_option maxHeartbeats 1600000 in
theorem nobody_true (w : World) : Calls Try.prog 24 #[] w fun e w' => e = .returned (.bool true) ∧ Below w.heap.size w w' := by
  have hq1 := fun w => null_neq_none w
  go_enter Try.func24, Try.ntmps24
  go_wp2
  go_loopw [1, 2] (fun dv iv wr => ∃ (i : Nat), i ≤ 2 ∧ iv = .int .i64 (i : Int) ∧ Hid (Unmade wr dv) ∧ Hid (Below w.heap.size w wr)) (fun _ iv _ => 2 - (intOf iv).toNat)
  case atStart => exact ⟨0, by omega, rfl, Lib.hid (Or.inl rfl), Lib.hid (Below.refl _ _)⟩
  case round =>
    obtain ⟨i, hi, rfl, HU, HB⟩ := hrel
    by_cases hi2 : i < 2
    · have hi1 : (i : Int) < 2 := by omega
      go_wp2_with fail
      have hal := below_alloc (Below.refl wr.heap.size wr) (.cells #[.int .i64 1] 3)
      refine (ufail (HU.out.later hal) _ _ _).mono ?_
      rintro e w1 ⟨rfl, hb1⟩
      have HU1 := Lib.hid ((HU.out.later hal).later hb1)
      have HB1 := Lib.hid (below_trans HB.out (below_trans hal hb1))
      clear hal hb1
      go_wp2_with (first | (go_at_call 26; refine (uread HU1.out 0).mono ?_; rintro e w2 ⟨rfl, hb2⟩; have HU2 := Lib.hid (HU1.out.later hb2); have HB2 := Lib.hid (below_trans HB1.out hb2); clear hb2) | (refine store_at rfl (.tmp 3) (.tmp 15) rfl rfl w2.heap.size zero32 zero32 rfl rfl (by decide) (by decide) (at_lit w2) ?_; intro w3 hA3 hB3 hK3; have hb3 : Below w2.heap.size w2 w3 := (below_alloc (Below.refl _ w2) _).trans hB3; have HU3 := Lib.hid (HU2.out.later hb3); have HB3 := Lib.hid (below_trans HB2.out hb3); clear hA3 hB3 hK3 hb3) | (go_at_call 9; refine (num_any _ _).mono ?_; rintro e wz ⟨rfl, rfl⟩) | (go_at_call 12; refine (uwrite0 HU3.out).mono ?_; rintro e w4 ⟨rfl, hb4⟩; have HU4 := Lib.hid (HU3.out.later hb4); have HB4 := Lib.hid (below_trans HB3.out hb4); clear hb4) | (go_at_call 13; refine (usync HU4.out none 0 0).mono ?_; rintro e w5 ⟨rfl, hb5⟩; have HU5 := Lib.hid (HU4.out.later hb5); have HB5 := Lib.hid (below_trans HB4.out hb5); clear hb5) | (go_at_call 11; refine (ubarrier HU5.out).mono ?_; rintro e w6 ⟨rfl, hb6⟩; have HU6 := Lib.hid (HU5.out.later hb6); have HB6 := Lib.hid (below_trans HB5.out hb6); clear hb6) | (go_at_call 17; refine (usafe HU6.out).mono ?_; rintro e w7 ⟨rfl, hb7⟩; have HU7 := Lib.hid (HU6.out.later hb7); have HB7 := Lib.hid (below_trans HB6.out hb7); clear hb7) | (go_at_call 19; refine (uwaiting HU7.out).mono ?_; rintro e w8 ⟨rfl, hb8⟩; have HU8 := Lib.hid (HU7.out.later hb8); have HB8 := Lib.hid (below_trans HB7.out hb8); clear hb8) | (go_at_call 21; refine (ulog HU8.out).mono ?_; rintro e w9 ⟨rfl, hb9⟩; have HU9 := Lib.hid (HU8.out.later hb9); have HB9 := Lib.hid (below_trans HB8.out hb9); clear hb9) | (go_at_call 22; refine (uepoch HU9.out).mono ?_; rintro e w10 ⟨rfl, hb10⟩; have HU10 := Lib.hid (HU9.out.later hb10); have HB10 := Lib.hid (below_trans HB9.out hb10); clear hb10) | (go_at_call 10; refine (uclone HU10.out).mono ?_; rintro e w11 ⟨rfl, hb11⟩; have HU11 := Lib.hid (HU10.out.later hb11); have HB11 := Lib.hid (below_trans HB10.out hb11); clear hb11))
      refine ⟨⟨i + 1, by omega, by go_num, Lib.hid (Or.inr ⟨w11.heap.size, rfl, ?_, ?_⟩), Lib.hid (below_alloc HB11.out _)⟩, by simp [intOf]; omega⟩
      · exact cell_row (heap_alloc_new w11 _) 0 _ rfl
      · rw [size_alloc]; omega
    · obtain rfl : i = 2 := by omega
      go_wp2_with fail
      go_ret
      exact ⟨rfl, HB.out⟩
end Go.Proofs.Yteobhljkjgocdaa.dsk
