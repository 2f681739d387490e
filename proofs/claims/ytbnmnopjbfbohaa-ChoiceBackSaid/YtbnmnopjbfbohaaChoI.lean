/- What Show gives. -/
import Derived.Test.YtbnmnopjbfbohaaChoH
import Derived.Test.YtbnmnopjbfbohaaBuilder
import Derived.Outline
namespace Go.Proofs.Ytbnmnopjbfbohaa.cho
open Go.ChangeShapes Go.WideShapes Go.ChangeAt Go.RowKit
open Go.Proofs.Ytbnmnopjbfbohaa.choMath
set_option linter.unusedVariables false

theorem cat_one (x : List UInt8) (y : UInt8) : Value.string (ByteArray.mk x.toArray ++ ByteArray.mk #[y]) = .string ⟨(x ++ [y]).toArray⟩ := by
  have := ByteArray.mk_append_mk x [y]
  rw [← this]
theorem show_any (c : Nat) (n : Int) (w : World) (hc : c < 18446744073709551616) :
    Calls Try.prog 24 #[.int .u64 (c : Int), .int .i64 n] w fun e w' => e = .returned (.string (sh c n)) ∧ Below w.heap.size w w' := by
  have HC := Lib.hid hc
  clear hc
  go_enter Try.func24, Try.ntmps24
  go_wp2
  have hm32 : min n 32 ≤ 32 := by omega
  have hN : Hid ((sh c n) = ⟨(shL c (min n 32).toNat).toArray⟩) := Lib.hid rfl
  generalize min n 32 = mm at *
  go_loopw [6, 9] (fun _ i wr => ∃ k : Nat, (0 < k → (k:Int) ≤ mm) ∧ i = .int .i64 (k : Int) ∧ Lib.IsBuilderF 50 5 w.heap.size w.heap.size (Lib.byteCells (shL c k)) wr ∧ w.heap.size < wr.heap.size ∧ Below w.heap.size w wr) (fun _ i _ => (mm - intOf i).toNat)
  case atStart => exact ⟨0, by omega, rfl, Lib.IsBuilderF.of (Lib.fresh_isBuilder 50 5 w), by simp, below_alloc (Below.refl _ _) _⟩
  case round =>
    obtain ⟨k, hkn, rfl, hI, hsz, hbw⟩ := hrel
    by_cases hlt : (k:Int) < mm
    · have hlt2 : k < 32 := by omega
      have hfd : fate c (k : Int) = ((fd c k : Nat) : Int) := by rw [fate, if_pos (by omega)]; rfl
      have hl : (Lib.byteCells (shL c k)).length + 1 ≤ 140737488355328 := by rw [Lib.byteCells_length, shL_len]; omega
      have hS := shL_succ c k
      have h4 := fd_lt c k
      have hsz2 : w.heap.size ≤ wr.heap.size := by omega
      generalize fd c k = d at *
      have HS := Lib.hid hS
      have HI := Lib.hid hI
      have HL := Lib.hid hl
      clear hS hI hl
      rcases (show d = 0 ∨ d = 1 ∨ d = 2 ∨ d = 3 by omega) with rfl | rfl | rfl | rfl
      all_goals
        clear h4
        have HF := Lib.hid hfd
        clear hfd
        go_wp2_with (first | (go_at_call 7; refine (fate_of c _ _ _ HC.out HF.out).mono ?_; rintro e w1 ⟨rfl, rfl⟩) | (go_at_call 32; refine (bld.writeByte w.heap.size w.heap.size _ _ _ HI.out HL.out hsz2).mono ?_; rintro e w2 ⟨rfl, h1, b1, k1⟩))
        go_roundw
        case rel => exact ⟨k + 1, by omega, by go_num, by rw [HS.out, Lib.byteCells_append]; exact Or.inr h1, by have := b1.size; omega, hbw.trans b1⟩
        case measure => simp [intOf]; omega
    · have hI2 := Lib.hid hI
      clear hI
      go_wp2_with (go_at_call 33; refine (Try.Builder_String_any_k w.heap.size w.heap.size (shL c k) _ hI2.out (by omega)).mono ?_; rintro e w2 ⟨rfl, _, b1, _⟩)
      go_ret
      have e : mm.toNat = k := by omega
      exact ⟨ret_str (by rw [hN.out, e]), hbw.trans b1⟩
theorem rshow_any (c : Nat) (n : Int) (w : World) (hc : c < 18446744073709551616) :
    Calls Try.prog 25 #[.int .u64 (c : Int), .int .i64 n] w fun e w' => e = .returned (.string (sh c n)) ∧ Below w.heap.size w w' := by
  have HC := Lib.hid hc
  clear hc
  go_enter Try.func25, Try.ntmps25
  go_wp2_with (first | (go_at_call 26; refine (fates_any c _ HC.out).mono ?_; rintro e w2 ⟨rfl, hb2⟩) | (refine store32 rfl _ _ rfl w2 (fl c) _ rfl rfl (fl_len c) rfl ?_))
  have hbb := below_alloc hb2 (Obj.cells (arr (fl c)) 40)
  have hhp := heap_alloc_new w2 (Obj.cells (arr (fl c)) 40)
  go_loopw [6, 7, 8] (fun s i _ wr => ∃ k : Nat, k ≤ 32 ∧ (0 < k → (k:Int) ≤ n) ∧ s = .string ⟨(shL c k).toArray⟩ ∧ i = .int .i64 (k : Int) ∧ wr.heap[w2.heap.size]? = some (Obj.cells (arr (fl c)) 40) ∧ Below w.heap.size w wr) (fun _ i _ _ => 32 - (intOf i).toNat)
  case atStart => exact ⟨0, by omega, by omega, rfl, rfl, hhp, hbb⟩
  case round =>
    obtain ⟨k, hk, hkn, rfl, rfl, hhw, hbw⟩ := hrel
    have HHW := Lib.hid hhw
    clear hhw hhp hbb hb2
    by_cases hlt : k < 32 ∧ (k:Int) < n
    · obtain ⟨h1, h2⟩ := hlt
      have h3 : (k:Int) < 32 := by omega
      have hc1 : wr.cell? ⟨w2.heap.size, k, none⟩ = some (.int .i64 (fd c k : Int)) := by
        rw [cell_of_row wr _ k _ _ _ HHW.out, arr_get _ k (by rw [fl_len]; omega), fl_get c k (by omega)]
      have hlt := block_lt_of_cell hc1
      have hS := shL_succ c k
      have h4 := fd_lt c k
      have hl : (shL c k).length ≤ 32 := by rw [shL_len]; omega
      generalize fd c k = d at *
      have HS := Lib.hid hS
      clear hS
      rcases (show d = 0 ∨ d = 1 ∨ d = 2 ∨ d = 3 by omega) with rfl | rfl | rfl | rfl
      · have hc2 : wr.cell? ⟨w2.heap.size, k, none⟩ = some (.int .i64 0) := hc1
        clear hc1 h4
        go_wp2
        go_roundw
        case rel => exact ⟨k + 1, by omega, by omega, by rw [HS.out]; exact cat_one _ _, by go_num, (Below.heap_alloc _ _ _ hlt).trans HHW.out, hbw.alloc hbw.size _⟩
        case measure => simp [intOf]; omega
      · have hc2 : wr.cell? ⟨w2.heap.size, k, none⟩ = some (.int .i64 1) := hc1
        clear hc1 h4
        go_wp2
        go_roundw
        case rel => exact ⟨k + 1, by omega, by omega, by rw [HS.out]; exact cat_one _ _, by go_num, (Below.heap_alloc _ _ _ hlt).trans HHW.out, hbw.alloc hbw.size _⟩
        case measure => simp [intOf]; omega
      · have hc2 : wr.cell? ⟨w2.heap.size, k, none⟩ = some (.int .i64 2) := hc1
        clear hc1 h4
        go_wp2
        go_roundw
        case rel => exact ⟨k + 1, by omega, by omega, by rw [HS.out]; exact cat_one _ _, by go_num, (Below.heap_alloc _ _ _ hlt).trans HHW.out, hbw.alloc hbw.size _⟩
        case measure => simp [intOf]; omega
      · have hc2 : wr.cell? ⟨w2.heap.size, k, none⟩ = some (.int .i64 3) := hc1
        clear hc1 h4
        go_wp2
        go_roundw
        case rel => exact ⟨k + 1, by omega, by omega, by rw [HS.out]; exact cat_one _ _, by go_num, (Below.heap_alloc _ _ _ hlt).trans HHW.out, hbw.alloc hbw.size _⟩
        case measure => simp [intOf]; omega
    · have e : shN n = k := by rw [shN]; omega
      by_cases h1 : (k:Int) < n
      · have h3 : decide ((k:Int) < 32) = false := by simp; omega
        have h3b : ¬ ((k:Int) < 32) := by omega
        clear hlt
        go_wp2
        go_ret
        exact ⟨ret_str (by rw [sh, e]), hbw⟩
      · clear hlt
        go_wp2
        go_ret
        exact ⟨ret_str (by rw [sh, e]), hbw⟩
end Go.Proofs.Ytbnmnopjbfbohaa.cho
