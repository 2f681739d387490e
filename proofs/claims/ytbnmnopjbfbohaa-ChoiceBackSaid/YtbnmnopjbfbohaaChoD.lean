/- What the reference's Nth, and both Ranks, give. -/
import Derived.Test.YtbnmnopjbfbohaaChoC
import Derived.Outline
namespace Go.Proofs.Ytbnmnopjbfbohaa.cho
open Go.ChangeShapes Go.WideShapes Go.ChangeAt Go.RowKit
open Go.Proofs.Ytbnmnopjbfbohaa.choMath
set_option linter.unusedVariables false

theorem rbase_of (t : Bool) (b : Nat) (h : base t = b) (w : World) :
    Calls Try.prog 29 #[.bool t] w fun e w' => e = .returned (.int .u64 (b : Int)) ∧ w = w' := by subst h; exact rbase t w
theorem fates_of (t : Bool) (b : Nat) (h : base t = b) (w : World) :
    Calls Try.prog 28 #[.bool t] w fun e w' => e = .returned (.int .u64 (b : Int)) ∧ w = w' := by subst h; exact fates_base t w
theorem fate_of (c : Nat) (i d : Int) (w : World) (hc : c < 18446744073709551616) (h : fate c i = d) :
    Calls Try.prog 7 #[.int .u64 (c : Int), .int .i64 i] w fun e w' => e = .returned (.int .i64 d) ∧ w = w' := by subst h; exact fate_any c i w hc
theorem rnth_in (k n : Nat) (t : Bool) (w : World) (hk0 : k < 18446744073709551616) (h : k < cnt n t) :
    Calls Try.prog 19 #[.int .u64 (k : Int), .int .i64 (n : Int), .bool t] w fun e w' => e = .returned (.int .u64 (nth k n t : Int)) ∧ Below w.heap.size w w' := by
  have hn := cnt_pos h
  have hnth : nth k n t = ofl (pref (ng k (base t)) n) := by rw [nth, if_pos h]; rfl
  have HN := Lib.hid hnth
  have hn2 : (n:Int) ≤ 32 := hn.2
  have HG := fun i => Lib.hid (ng_lt k t i)
  have hb : base t = 2 ∨ base t = 3 := by cases t <;> simp [base]
  have HK := Lib.hid hk0
  have hkk : decide (cnt (n:Int) t ≤ k) = false := by simp; omega
  clear hnth hn hk0 h
  obtain ⟨bb, hbb⟩ : ∃ bb : Nat, base t = bb := ⟨_, rfl⟩
  have HB := Lib.hid hbb
  rw [hbb] at hb
  clear hbb
  rcases hb with rfl | rfl
  all_goals
    go_enter Try.func19, Try.ntmps19
    go_wp2_with (go_at_call 17; refine (rcount_any n t _).mono ?_; rintro e w1 ⟨rfl, rfl⟩)
    rw [← zeros (ng k (base t))]
    go_loopw [0, 8] (fun q i wr => ∃ (j qn : Nat), j ≤ n ∧ qn = k / base t ^ j ∧ q = .int .u64 (qn : Int) ∧ i = .int .i64 (j : Int) ∧ wr = w.alloc (Obj.cells (arr (pref (ng k (base t)) j)) 40)) (fun _ i _ => n - (intOf i).toNat)
    case atStart => exact ⟨0, k, by omega, by simp, rfl, rfl, rfl⟩
    case round =>
      obtain ⟨j, qn, hj, hq, rfl, rfl, rfl⟩ := hrel
      have HQ := Lib.hid hq
      have hqb : (qn:Int) ≤ 18446744073709551615 := by have := HK.out; have := Nat.div_le_self k (base t ^ j); omega
      clear hq
      by_cases hlt : j < n
      · have hj32 : (j:Int) < 32 := by omega
        have hat : (arr (pref (ng k (base t)) j))[j]? = some (.int .i64 0) := by
          rw [arr_get _ j (by rw [pref_len]; omega), pref_get _ _ _ (by omega)]; simp
        have hset := Lib.hid (arr_set (pref (ng k (base t)) j) j (ng k (base t) j))
        go_wp2_with (go_at_call 29; refine (rbase_of t _ HB.out _).mono ?_; rintro e w1 ⟨rfl, rfl⟩)
        go_roundw
        case rel =>
          refine ⟨j + 1, _, by omega, ?_, by go_num, by go_num, ?_⟩
          · rw [HQ.out, HB.out, Nat.div_div_eq_div_mul, Nat.pow_succ]
          · have e : ng k (base t) j = qn % base t := by rw [ng, HQ.out]
            rw [← pref_set _ _ (by omega), ← hset.out]
            rw [e, HB.out]
            norm_cast
        case measure => simp [intOf]; omega
      · obtain rfl : j = n := by omega
        clear hlt hj
        go_wp2_with (first | (refine load32 rfl _ rfl w (pref (ng k (base t)) j) _ rfl rfl (pref_len _ _) ?_) | (go_at_call 27; refine (of_any (pref (ng k (base t)) j) _ (pref_len _ _) (pref_lt _ _ fun i => (HG i).out.2)).mono ?_; rintro e w2 ⟨rfl, hb2⟩))
        go_ret
        exact ⟨ret_int (by rw [HN.out]), below_trans (below_alloc (Below.refl _ _) _) hb2⟩
theorem rnth_any (k : Nat) (n : Int) (t : Bool) (w : World) (hk0 : k < 18446744073709551616) :
    Calls Try.prog 19 #[.int .u64 (k : Int), .int .i64 n, .bool t] w fun e w' => e = .returned (.int .u64 (nth k n t : Int)) ∧ Below w.heap.size w w' := by
  by_cases h : k < cnt n t
  · obtain ⟨m, rfl⟩ := Int.eq_ofNat_of_zero_le (cnt_pos h).1
    exact rnth_in k m t w hk0 h
  · rw [nth, if_neg h]
    have hkk : (cnt n t : Int) ≤ k := by omega
    clear h
    go_enter Try.func19, Try.ntmps19
    go_wp2_with (go_at_call 17; refine (rcount_any n t _).mono ?_; rintro e w1 ⟨rfl, rfl⟩)
    go_ret
    exact ⟨rfl, below_alloc (Below.refl _ _) _⟩

/-! the number of a choice -/
theorem rank_no (c : Nat) (n : Int) (t : Bool) (w : World) (hc : c < 18446744073709551616) (h : riB c n = false) :
    Calls Try.prog 14 #[.int .u64 (c : Int), .int .i64 n, .bool t] w fun e w' => e = .returned (.tuple #[.int .u64 0, .bool false]) ∧ w = w' := by
  have HC := Lib.hid hc
  clear hc
  go_enter Try.func14, Try.ntmps14
  go_wp2_with (go_at_call 11; refine (right_any c n _ HC.out).mono ?_; rw [h]; rintro e w1 ⟨rfl, rfl⟩)
  go_ret2
  exact ⟨rfl, rfl⟩
def rkOk (c n : Nat) (t : Bool) (j : Nat) : Bool := t || (List.range j).all fun i => fd c (n - 1 - i) != 2
theorem rkOk_next (c n : Nat) (t : Bool) (j : Nat) : rkOk c n t (j + 1) = (rkOk c n t j && (t || fd c (n - 1 - j) != 2)) := by
  rw [rkOk, rkOk, List.range_succ, List.all_append]
  cases t <;> simp
theorem rkOk_all (c n : Nat) (t : Bool) : rkOk c n t n = (t || (List.range n).all fun i => fd c i != 2) := by
  rw [rkOk]
  congr 1
  rw [Bool.eq_iff_iff, List.all_eq_true, List.all_eq_true]
  constructor
  · intro h i hi
    have hi' := List.mem_range.1 hi
    have := h (n - 1 - i) (List.mem_range.2 (by omega))
    rw [show n - 1 - (n - 1 - i) = i by omega] at this
    exact this
  · intro h i hi
    have hi' := List.mem_range.1 hi
    exact h (n - 1 - i) (List.mem_range.2 (by omega))
theorem rkOk_mono (c n : Nat) (t : Bool) (j m : Nat) (hm : j ≤ m) (h : rkOk c n t j = false) : rkOk c n t m = false := by
  induction m with
  | zero => obtain rfl : j = 0 := by omega
            exact h
  | succ m ih =>
    by_cases e : j = m + 1
    · subst e; exact h
    · rw [rkOk_next, ih (by omega)]; rfl
theorem rkOk_lt (c n : Nat) (t : Bool) (j : Nat) (hr : riB c n = true) (hn : n ≤ 32) (hj : j ≤ n) (h : rkOk c n t j = true) : rk (base t) c n j < base t ^ j := by
  apply rk_lt
  intro i hi
  have h2 := riB_le c n hr (n - 1 - i) (by omega)
  cases t with
  | true => simp [base]; omega
  | false =>
    rw [rkOk, Bool.false_or, List.all_eq_true] at h
    have := h i (List.mem_range.2 hi)
    simp at this
    simp [base]; omega
theorem rank_yes (c n : Nat) (t : Bool) (w : World) (hc : c < 18446744073709551616) (h : riB c n = true) (hn : n ≤ 32) :
    Calls Try.prog 14 #[.int .u64 (c : Int), .int .i64 (n : Int), .bool t] w fun e w' => e = .returned (.tuple #[.int .u64 (rkN c n t : Int), .bool (rkB c n t)]) ∧ w = w' := by
  have hB : rkB c n t = rkOk c n t n := by rw [rkB, h, rkOk_all]; rfl
  have hN : rkN c n t = if rkOk c n t n then rk (base t) c n n else 0 := by rw [rkN, hB]; rfl
  have HB := Lib.hid hB
  have HN := Lib.hid hN
  have HR := Lib.hid h
  have HC := Lib.hid hc
  clear hB hN h hc
  have hn2 : (n:Int) ≤ 32 := by omega
  have hb : base t = 2 ∨ base t = 3 := by cases t <;> simp [base]
  obtain ⟨bb, hbb⟩ : ∃ bb : Nat, base t = bb := ⟨_, rfl⟩
  have HBB := Lib.hid hbb
  rw [hbb] at hb
  clear hbb
  rcases hb with rfl | rfl
  all_goals
    go_enter Try.func14, Try.ntmps14
    go_wp2_with (first | (go_at_call 11; refine (right_any c n _ HC.out).mono ?_; rw [HR.out]; rintro e w1 ⟨rfl, rfl⟩) | (go_at_call 28; refine (fates_of t _ HBB.out _).mono ?_; rintro e w1 ⟨rfl, rfl⟩))
    go_loop [9, 10, 11, 19] (fun v _ _ i => ∃ j q : Nat, j ≤ n ∧ rkOk c n t j = true ∧ q = rk (base t) c n j ∧ v = .int .u64 (q : Int) ∧ i = .int .i64 (j : Int)) (fun _ _ _ i => n - (intOf i).toNat)
    case atStart => exact ⟨0, 0, by omega, by cases t <;> rfl, rfl, rfl, rfl⟩
    case round =>
      obtain ⟨j, q, hj, hok, hq, rfl, rfl⟩ := hrel
      have HOK := Lib.hid hok
      have HQ := Lib.hid hq
      have hqb : (q:Int) ≤ 1853020188851840 := by
        have h1 := rkOk_lt c n t j HR.out hn hj hok
        have h2 := pow_le t j (by omega)
        omega
      clear hok hq
      by_cases hlt : j < n
      · have hidx : (n:Int) - 1 - j = ((n - 1 - j : Nat) : Int) := by omega
        have hd2 := riB_le c n HR.out (n - 1 - j) (by omega)
        have hfd : fate c ((n:Int) - 1 - j) = ((fd c (n - 1 - j) : Nat) : Int) := by
          rw [hidx, fate, if_pos (by omega)]; rfl
        have HS := fun d (h : fd c (n - 1 - j) = d) => Lib.hid (h ▸ rfl : rk (base t) c n (j + 1) = rk (base t) c n j * base t + d)
        have HOS := Lib.hid (rkOk_next c n t j)
        have HT := Lib.hid (show base t = 3 → t = true by cases t <;> simp [base])
        have HF := Lib.hid (show base t = 2 → t = false by cases t <;> simp [base])
        have h3 : fd c (n - 1 - j) = 0 ∨ fd c (n - 1 - j) = 1 ∨ fd c (n - 1 - j) = 2 := by omega
        clear hidx hd2
        rcases h3 with h | h | h
        · rw [h] at hfd
          have HFD := Lib.hid (show fate c ((n:Int) - 1 - j) = 0 from hfd)
          have HD := Lib.hid h
          clear hfd h
          go_wp2_with (go_at_call 7; refine (fate_of c _ 0 _ HC.out HFD.out).mono ?_; rintro e w1 ⟨rfl, rfl⟩)
          go_round
          case rel => exact ⟨j + 1, _, by omega, by rw [HOS.out, HOK.out, HD.out]; simp, rfl, by rw [(HS 0 HD.out).out, ← HQ.out, HBB.out]; go_num, by go_num⟩
          case measure => simp [intOf]; omega
        · rw [h] at hfd
          have HFD := Lib.hid (show fate c ((n:Int) - 1 - j) = 1 from hfd)
          have HD := Lib.hid h
          clear hfd h
          go_wp2_with (go_at_call 7; refine (fate_of c _ 1 _ HC.out HFD.out).mono ?_; rintro e w1 ⟨rfl, rfl⟩)
          go_round
          case rel => exact ⟨j + 1, _, by omega, by rw [HOS.out, HOK.out, HD.out]; simp, rfl, by rw [(HS 1 HD.out).out, ← HQ.out, HBB.out]; go_num, by go_num⟩
          case measure => simp [intOf]; omega
        · rw [h] at hfd
          have HFD := Lib.hid (show fate c ((n:Int) - 1 - j) = 2 from hfd)
          have HD := Lib.hid h
          clear hfd h
          go_wp2_with (go_at_call 7; refine (fate_of c _ 2 _ HC.out HFD.out).mono ?_; rintro e w1 ⟨rfl, rfl⟩)
          first
          | (go_round
             case rel => exact ⟨j + 1, _, by omega, by rw [HOS.out, HOK.out, HD.out, HT.out HBB.out]; rfl, rfl, by rw [(HS 2 HD.out).out, ← HQ.out, HBB.out]; go_num, by go_num⟩
             case measure => simp [intOf]; omega)
          | (go_ret2
             have hno : rkOk c n t n = false := rkOk_mono c n t (j + 1) n (by omega) (by rw [HOS.out, HD.out, HF.out HBB.out]; simp)
             exact ⟨by rw [HN.out, HB.out, hno]; rfl, rfl⟩)
      · obtain rfl : j = n := by omega
        go_wp2
        go_ret2
        exact ⟨by rw [HN.out, HB.out, HOK.out, HQ.out]; rfl, rfl⟩
theorem rank_any (c : Nat) (n : Int) (t : Bool) (w : World) (hc : c < 18446744073709551616) :
    Calls Try.prog 14 #[.int .u64 (c : Int), .int .i64 n, .bool t] w fun e w' => e = .returned (.tuple #[.int .u64 (rkN c n t : Int), .bool (rkB c n t)]) ∧ w = w' := by
  cases h : riB c n with
  | false =>
    have e : rkB c n t = false := by rw [rkB, h]; rfl
    rw [rkN, e]
    exact rank_no c n t w hc h
  | true =>
    have hn : 0 ≤ n ∧ n ≤ 32 := by
      rw [riB, Bool.and_eq_true, decide_eq_true_eq] at h
      exact h.1
    obtain ⟨m, rfl⟩ := Int.eq_ofNat_of_zero_le hn.1
    exact rank_yes c m t w hc h (by omega)
end Go.Proofs.Ytbnmnopjbfbohaa.cho
