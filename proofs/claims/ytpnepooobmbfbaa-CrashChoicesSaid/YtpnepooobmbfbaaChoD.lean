/- What the reference's Nth, and both Ranks, give. -/
import Derived.Test.YtpnepooobmbfbaaChoC
import Derived.Outline
namespace Go.Proofs.Ytpnepooobmbfbaa.cho
set_option maxRecDepth 100000
open Go.ChangeShapes Go.WideShapes Go.ChangeAt Go.RowKit
open Go.Proofs.Ytpnepooobmbfbaa.choMath
set_option linter.unusedVariables false

theorem rbase_of (t : Bool) (b : Nat) (h : base t = b) (w : World) :
    Calls Try.prog 73 #[.bool t] w fun e w' => e = .returned (.int .u64 (b : Int)) ∧ w = w' := by subst h; exact rbase t w
theorem fate_of (c : Nat) (i d : Int) (w : World) (hc : c < 18446744073709551616) (h : fate c i = d) :
    Calls Try.prog 44 #[.int .u64 (c : Int), .int .i64 i] w fun e w' => e = .returned (.int .i64 d) ∧ w = w' := by subst h; exact fate_any c i w hc
theorem rnth_in (k n : Nat) (t : Bool) (w : World) (hk0 : k < 18446744073709551616) (h : k < cnt n t) :
    Calls Try.prog 52 #[.int .u64 (k : Int), .int .i64 (n : Int), .bool t] w fun e w' => e = .returned (.int .u64 (nth k n t : Int)) ∧ Below w.heap.size w w' := by
  have hn := cnt_pos h
  have hnth : nth k n t = ofl (pref (ng k (base t)) n) := by rw [nth, if_pos h]; rfl
  have HN := Lib.hid hnth
  have hn2 : (n:Int) ≤ 32 := hn.2
  have HG := fun i => Lib.hid (ng_lt k t i)
  have hb : base t = 2 ∨ base t = 3 := by cases t <;> simp [base]
  have HK := Lib.hid hk0
  have hkk : decide (cnt (n:Int) t ≤ k) = false := by simp; omega
  clear hnth hn hk0 h
  obtain ⟨bb, hbb⟩ : ∃ bb : Nat, base t = bb := ⟨_, rfl⟩
  have HB := Lib.hid hbb
  rw [hbb] at hb
  clear hbb
  rcases hb with rfl | rfl
  all_goals
    go_enter Try.func52, Try.ntmps52
    go_wp2_with (go_at_call 51; refine (rcount_any n t _).mono ?_; rintro e w1 ⟨rfl, rfl⟩)
    rw [← zeros (ng k (base t))]
    go_loopw [0, 8] (fun q i wr => ∃ (j qn : Nat), j ≤ n ∧ qn = k / base t ^ j ∧ q = .int .u64 (qn : Int) ∧ i = .int .i64 (j : Int) ∧ wr = w.alloc (Obj.cells (arr (pref (ng k (base t)) j)) 119)) (fun _ i _ => n - (intOf i).toNat)
    case atStart => exact ⟨0, k, by omega, by simp, rfl, rfl, rfl⟩
    case round =>
      obtain ⟨j, qn, hj, hq, rfl, rfl, rfl⟩ := hrel
      have HQ := Lib.hid hq
      have hqb : (qn:Int) ≤ 18446744073709551615 := by have := HK.out; have := Nat.div_le_self k (base t ^ j); omega
      clear hq
      by_cases hlt : j < n
      · have hj32 : (j:Int) < 32 := by omega
        have hat : (arr (pref (ng k (base t)) j))[j]? = some (.int .i64 0) := by
          rw [arr_get _ j (by rw [pref_len]; omega), pref_get _ _ _ (by omega)]; simp
        have hset := Lib.hid (arr_set (pref (ng k (base t)) j) j (ng k (base t) j))
        go_wp2_with (go_at_call 73; refine (rbase_of t _ HB.out _).mono ?_; rintro e w1 ⟨rfl, rfl⟩)
        go_roundw
        case rel =>
          refine ⟨j + 1, _, by omega, ?_, by go_num, by go_num, ?_⟩
          · rw [HQ.out, HB.out, Nat.div_div_eq_div_mul, Nat.pow_succ]
          · have e : ng k (base t) j = qn % base t := by rw [ng, HQ.out]
            rw [← pref_set _ _ (by omega), ← hset.out]
            rw [e, HB.out]
            norm_cast
        case measure => simp [intOf]; omega
      · obtain rfl : j = n := by omega
        clear hlt hj
        go_wp2_with (first | (refine load32 rfl _ rfl w (pref (ng k (base t)) j) _ rfl rfl (pref_len _ _) ?_) | (go_at_call 74; refine (of_any (pref (ng k (base t)) j) _ (pref_len _ _) (pref_lt _ _ fun i => (HG i).out.2)).mono ?_; rintro e w2 ⟨rfl, hb2⟩))
        go_ret
        exact ⟨ret_int (by rw [HN.out]), below_trans (below_alloc (Below.refl _ _) _) hb2⟩
theorem rnth_any (k : Nat) (n : Int) (t : Bool) (w : World) (hk0 : k < 18446744073709551616) :
    Calls Try.prog 52 #[.int .u64 (k : Int), .int .i64 n, .bool t] w fun e w' => e = .returned (.int .u64 (nth k n t : Int)) ∧ Below w.heap.size w w' := by
  by_cases h : k < cnt n t
  · obtain ⟨m, rfl⟩ := Int.eq_ofNat_of_zero_le (cnt_pos h).1
    exact rnth_in k m t w hk0 h
  · rw [nth, if_neg h]
    have hkk : (cnt n t : Int) ≤ k := by omega
    clear h
    go_enter Try.func52, Try.ntmps52
    go_wp2_with (go_at_call 51; refine (rcount_any n t _).mono ?_; rintro e w1 ⟨rfl, rfl⟩)
    go_ret
    exact ⟨rfl, below_alloc (Below.refl _ _) _⟩

/-! the number of a choice -/
end Go.Proofs.Ytpnepooobmbfbaa.cho
