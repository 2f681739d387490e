/- What Count, Nth and Rank give. -/
import Derived.Test.YtpnepooobmbfbaaChoB
import Derived.Outline
namespace Go.Proofs.Ytpnepooobmbfbaa.cho
set_option maxRecDepth 100000
open Go.ChangeShapes Go.WideShapes Go.ChangeAt Go.RowKit
open Go.Proofs.Ytpnepooobmbfbaa.choMath
set_option linter.unusedVariables false

theorem count_in (n : Nat) (t : Bool) (w : World) (hn : n ≤ 32) :
    Calls Try.prog 32 #[.int .i64 (n : Int), .bool t] w fun e w' => e = .returned (.int .u64 (cnt n t : Int)) ∧ w = w' := by
  have hcn : cnt n t = base t ^ n := by rw [cnt, if_pos (by omega)]; rfl
  have HCN := Lib.hid hcn
  clear hcn
  have hn2 : (n:Int) ≤ 32 := by omega
  have hb : (base t : Int) = 2 ∨ (base t : Int) = 3 := by cases t <;> simp [base]
  go_enter Try.func32, Try.ntmps32
  go_wp2
  go_loop [5, 13] (fun v i => ∃ k q : Nat, k ≤ n ∧ q = base t ^ k ∧ v = .int .u64 (q : Int) ∧ i = .int .i64 (k : Int)) (fun _ i => n - (intOf i).toNat)
  case atStart => exact ⟨0, 1, by omega, by simp, rfl, rfl⟩
  case round =>
    obtain ⟨k, q, hk, hq, rfl, rfl⟩ := hrel
    have HQ := Lib.hid hq
    have hqb : (q:Int) ≤ 1853020188851841 := by rw [hq]; have := pow_le t k (by omega); omega
    clear hq
    by_cases hlt : k < n
    · obtain ⟨bb, hbb⟩ : ∃ bb : Nat, base t = bb := ⟨_, rfl⟩
      have HB := Lib.hid hbb
      rw [hbb] at hb
      clear hbb
      have hm := Lib.hid (show q * bb = base t ^ (k + 1) by rw [HQ.out, HB.out, Nat.pow_succ])
      rcases hb with hb | hb
      · obtain rfl : bb = 2 := by omega
        clear hb
        go_wp2_with (go_at_call 61; refine (fates_base t _).mono ?_; rw [HB.out]; rintro e w1 ⟨rfl, rfl⟩)
        go_round
        case rel => exact ⟨k + 1, q * 2, by omega, hm.out, by go_num, by go_num⟩
        case measure => simp [intOf]; omega
      · obtain rfl : bb = 3 := by omega
        clear hb
        go_wp2_with (go_at_call 61; refine (fates_base t _).mono ?_; rw [HB.out]; rintro e w1 ⟨rfl, rfl⟩)
        go_round
        case rel => exact ⟨k + 1, q * 3, by omega, hm.out, by go_num, by go_num⟩
        case measure => simp [intOf]; omega
    · obtain rfl : k = n := by omega
      go_wp2
      go_ret
      exact ⟨ret_int (by rw [HCN.out, HQ.out]), rfl⟩
theorem count_any (n : Int) (t : Bool) (w : World) :
    Calls Try.prog 32 #[.int .i64 n, .bool t] w fun e w' => e = .returned (.int .u64 (cnt n t : Int)) ∧ w = w' := by
  by_cases h : n < 0 ∨ 32 < n
  · rw [cnt, if_neg (by omega)]
    rcases h with h | h
    all_goals
      go_enter Try.func32, Try.ntmps32
      go_wp2
      go_ret
      exact ⟨rfl, rfl⟩
  · obtain ⟨m, rfl⟩ := Int.eq_ofNat_of_zero_le (show 0 ≤ n by omega)
    exact count_in m t w (by omega)
theorem rcount_in (n : Nat) (t : Bool) (w : World) (hn : n ≤ 32) :
    Calls Try.prog 51 #[.int .i64 (n : Int), .bool t] w fun e w' => e = .returned (.int .u64 (cnt n t : Int)) ∧ w = w' := by
  have hcn : cnt n t = base t ^ n := by rw [cnt, if_pos (by omega)]; rfl
  have HCN := Lib.hid hcn
  clear hcn
  have hn2 : (n:Int) ≤ 32 := by omega
  have hb : (base t : Int) = 2 ∨ (base t : Int) = 3 := by cases t <;> simp [base]
  go_enter Try.func51, Try.ntmps51
  go_wp2
  go_loop [5, 6] (fun v i => ∃ k q : Nat, k ≤ n ∧ q = base t ^ k ∧ v = .int .u64 (q : Int) ∧ i = .int .i64 (k : Int)) (fun _ i => n - (intOf i).toNat)
  case atStart => exact ⟨0, 1, by omega, by simp, rfl, rfl⟩
  case round =>
    obtain ⟨k, q, hk, hq, rfl, rfl⟩ := hrel
    have HQ := Lib.hid hq
    have hqb : (q:Int) ≤ 1853020188851841 := by rw [hq]; have := pow_le t k (by omega); omega
    clear hq
    by_cases hlt : k < n
    · obtain ⟨bb, hbb⟩ : ∃ bb : Nat, base t = bb := ⟨_, rfl⟩
      have HB := Lib.hid hbb
      rw [hbb] at hb
      clear hbb
      have hm := Lib.hid (show q * bb = base t ^ (k + 1) by rw [HQ.out, HB.out, Nat.pow_succ])
      rcases hb with hb | hb
      · obtain rfl : bb = 2 := by omega
        clear hb
        go_wp2_with (go_at_call 73; refine (rbase t _).mono ?_; rw [HB.out]; rintro e w1 ⟨rfl, rfl⟩)
        go_round
        case rel => exact ⟨k + 1, q * 2, by omega, hm.out, by go_num, by go_num⟩
        case measure => simp [intOf]; omega
      · obtain rfl : bb = 3 := by omega
        clear hb
        go_wp2_with (go_at_call 73; refine (rbase t _).mono ?_; rw [HB.out]; rintro e w1 ⟨rfl, rfl⟩)
        go_round
        case rel => exact ⟨k + 1, q * 3, by omega, hm.out, by go_num, by go_num⟩
        case measure => simp [intOf]; omega
    · obtain rfl : k = n := by omega
      go_wp2
      go_ret
      exact ⟨ret_int (by rw [HCN.out, HQ.out]), rfl⟩
theorem rcount_any (n : Int) (t : Bool) (w : World) :
    Calls Try.prog 51 #[.int .i64 n, .bool t] w fun e w' => e = .returned (.int .u64 (cnt n t : Int)) ∧ w = w' := by
  by_cases h : n < 0 ∨ 32 < n
  · rw [cnt, if_neg (by omega)]
    rcases h with h | h
    all_goals
      go_enter Try.func51, Try.ntmps51
      go_wp2
      go_ret
      exact ⟨rfl, rfl⟩
  · obtain ⟨m, rfl⟩ := Int.eq_ofNat_of_zero_le (show 0 ≤ n by omega)
    exact rcount_in m t w (by omega)

theorem cnt_pos {k : Nat} {n : Int} {t : Bool} (h : k < cnt n t) : 0 ≤ n ∧ n ≤ 32 := by
  rw [cnt] at h
  split at h
  · assumption
  · omega
theorem nth_big (k : Nat) (n : Int) (t : Bool) (w : World) (h : cnt n t ≤ k) :
    Calls Try.prog 31 #[.int .u64 (k : Int), .int .i64 n, .bool t] w fun e w' => e = .returned (.int .u64 0) ∧ w = w' := by
  go_enter Try.func31, Try.ntmps31
  go_wp2_with (go_at_call 32; refine (count_any n t _).mono ?_; rintro e w1 ⟨rfl, rfl⟩)
  go_ret
  exact ⟨rfl, rfl⟩
theorem nth_in (k n : Nat) (t : Bool) (w : World) (hk0 : k < 18446744073709551616) (h : k < cnt n t) :
    Calls Try.prog 31 #[.int .u64 (k : Int), .int .i64 (n : Int), .bool t] w fun e w' => e = .returned (.int .u64 (nth k n t : Int)) ∧ Below w.heap.size w w' := by
  have hn := cnt_pos h
  have hnth : nth k n t = ofl (pref (ng k (base t)) n) := by rw [nth, if_pos h]; rfl
  have HN := Lib.hid hnth
  have hn2 : (n:Int) ≤ 32 := hn.2
  have HG := fun i => Lib.hid (ng_lt k t i)
  have hb : base t = 2 ∨ base t = 3 := by cases t <;> simp [base]
  have HK := Lib.hid hk0
  have hkk : ¬ (cnt n t : Int) ≤ k := by omega
  clear hnth hn hk0 h
  obtain ⟨bb, hbb⟩ : ∃ bb : Nat, base t = bb := ⟨_, rfl⟩
  have HB := Lib.hid hbb
  rw [hbb] at hb
  clear hbb
  rcases hb with rfl | rfl
  all_goals
    go_enter Try.func31, Try.ntmps31
    go_wp2_with (first | (go_at_call 32; refine (count_any n t _).mono ?_; rintro e w1 ⟨rfl, rfl⟩) | (go_at_call 61; refine (fates_base t _).mono ?_; rw [HB.out]; rintro e w1 ⟨rfl, rfl⟩))
    go_loopw [0, 8, 9, 18] (fun q a _ i wr => ∃ (j qn an : Nat), j ≤ n ∧ qn = k / base t ^ j ∧ an = ofl (pref (ng k (base t)) j) ∧ q = .int .u64 (qn : Int) ∧ a = .int .u64 (an : Int) ∧ i = .int .i64 (j : Int) ∧ Below w.heap.size w wr) (fun _ _ _ i _ => n - (intOf i).toNat)
    case atStart => exact ⟨0, k, 0, by omega, by simp, by rw [ofl_zero], rfl, rfl, rfl, Below.refl _ _⟩
    case round =>
      obtain ⟨j, qn, an, hj, hq, ha, rfl, rfl, rfl, hbel⟩ := hrel
      have HQ := Lib.hid hq
      have HA := Lib.hid ha
      have hqb : (qn:Int) ≤ 18446744073709551615 := by have := HK.out; have := Nat.div_le_self k (base t ^ j); omega
      clear hq ha
      by_cases hlt : j < n
      · have han : an < 18446744073709551616 := by rw [HA.out]; exact ofl32 _ (pref_lt _ _ fun i => (HG i).out.2) (pref_len _ _)
        have HAN := Lib.hid han
        clear han
        go_wp2_with (go_at_call 62; refine (with_any an _ _ _ HAN.out).mono ?_; rintro e w1 ⟨rfl, hb1⟩)
        go_roundw
        case rel =>
          refine ⟨j + 1, _, _, by omega, ?_, ?_, by go_num, rfl, by go_num, below_trans hbel hb1⟩
          · rw [HQ.out, HB.out, Nat.div_div_eq_div_mul, Nat.pow_succ]
          · rw [← putd_pref _ _ (fun i => (HG i).out.2) (by omega), ← HA.out, wit, if_pos (by omega)]
            congr 1
            have : ng k (base t) j = qn % base t := by rw [ng, HQ.out]
            rw [this, HB.out]
            omega
        case measure => simp [intOf]; omega
      · obtain rfl : j = n := by omega
        go_wp2
        go_ret
        exact ⟨ret_int (by rw [HN.out, HA.out]), hbel⟩
theorem nth_any (k : Nat) (n : Int) (t : Bool) (w : World) (hk0 : k < 18446744073709551616) :
    Calls Try.prog 31 #[.int .u64 (k : Int), .int .i64 n, .bool t] w fun e w' => e = .returned (.int .u64 (nth k n t : Int)) ∧ Below w.heap.size w w' := by
  by_cases h : k < cnt n t
  · obtain ⟨m, rfl⟩ := Int.eq_ofNat_of_zero_le (cnt_pos h).1
    exact nth_in k m t w hk0 h
  · rw [nth, if_neg h]
    refine (nth_big k n t w (by omega)).mono ?_
    rintro e w' ⟨he, rfl⟩
    exact ⟨he, Below.refl _ _⟩
end Go.Proofs.Ytpnepooobmbfbaa.cho
