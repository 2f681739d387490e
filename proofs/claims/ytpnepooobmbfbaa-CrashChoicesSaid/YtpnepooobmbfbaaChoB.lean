/- What With, Right, Count and Nth give. -/
import Derived.Test.YtpnepooobmbfbaaChoWalks
import Derived.Outline
namespace Go.Proofs.Ytpnepooobmbfbaa.cho
set_option maxRecDepth 100000
open Go.ChangeShapes Go.WideShapes Go.ChangeAt Go.RowKit
open Go.Proofs.Ytpnepooobmbfbaa.choMath
set_option linter.unusedVariables false

theorem with_out (c : Nat) (i f : Int) (w : World) (h : ¬ ((0 ≤ i ∧ i < 32) ∧ 0 ≤ f ∧ f ≤ 2)) :
    Calls Try.prog 62 #[.int .u64 (c : Int), .int .i64 i, .int .i64 f] w fun e w' => e = .returned (.int .u64 (c : Int)) ∧ w = w' := by
  have h' : (i < 0) ∨ (0 ≤ i ∧ 32 ≤ i) ∨ (0 ≤ i ∧ i < 32 ∧ f < 0) ∨ (0 ≤ i ∧ i < 32 ∧ 0 ≤ f ∧ 2 < f) := by omega
  clear h
  rcases h' with h | ⟨h1, h2⟩ | ⟨h1, h2, h3⟩ | ⟨h1, h2, h3, h4⟩
  all_goals
    go_enter Try.func62, Try.ntmps62
    go_wp2
    go_ret
    exact ⟨rfl, rfl⟩
theorem with_in (c k f : Nat) (w : World) (hc : c < 18446744073709551616) (hk : k < 32) (hf : f ≤ 2) :
    Calls Try.prog 62 #[.int .u64 (c : Int), .int .i64 (k : Int), .int .i64 (f : Int)] w fun e w' => e = .returned (.int .u64 (putd c k f : Int)) ∧ Below w.heap.size w w' := by
  have h1 : (0:Int) ≤ k := by omega
  have h2 : (k:Int) < 32 := by omega
  have h3 : (0:Int) ≤ f := by omega
  have h4 : (f:Int) ≤ 2 := by omega
  have HC := Lib.hid hc
  clear hc
  go_enter Try.func62, Try.ntmps62
  go_wp2
  go_quiet (fail)
  go_wp2
  go_ret
  exact ⟨ret_int (with_walk c k f HC.out hk (by omega)), blw_drewN (Below.refl _ _) _⟩
theorem with_any (c : Nat) (i f : Int) (w : World) (hc : c < 18446744073709551616) :
    Calls Try.prog 62 #[.int .u64 (c : Int), .int .i64 i, .int .i64 f] w fun e w' => e = .returned (.int .u64 (wit c i f : Int)) ∧ Below w.heap.size w w' := by
  by_cases h : (0 ≤ i ∧ i < 32) ∧ 0 ≤ f ∧ f ≤ 2
  · rw [wit, if_pos h]
    obtain ⟨k, rfl⟩ := Int.eq_ofNat_of_zero_le h.1.1
    obtain ⟨g, rfl⟩ := Int.eq_ofNat_of_zero_le h.2.1
    exact with_in c k g w hc (by omega) (by omega)
  · rw [wit, if_neg h]
    refine (with_out c i f w h).mono ?_
    rintro e w' ⟨he, rfl⟩
    exact ⟨he, Below.refl _ _⟩
theorem fates_base (t : Bool) (w : World) :
    Calls Try.prog 61 #[.bool t] w fun e w' => e = .returned (.int .u64 (base t : Int)) ∧ w = w' := by
  cases t
  all_goals
    go_enter Try.func61, Try.ntmps61
    go_wp2
    go_ret
    exact ⟨rfl, rfl⟩
theorem rbase (t : Bool) (w : World) :
    Calls Try.prog 73 #[.bool t] w fun e w' => e = .returned (.int .u64 (base t : Int)) ∧ w = w' := by
  cases t
  all_goals
    go_enter Try.func73, Try.ntmps73
    go_wp2
    go_ret
    exact ⟨rfl, rfl⟩

theorem rfate_any (c : Nat) (i : Int) (w : World) (hc : c < 18446744073709551616) :
    Calls Try.prog 46 #[.int .u64 (c : Int), .int .i64 i] w fun e w' => e = .returned (.int .i64 (fate c i)) ∧ Below w.heap.size w w' := by
  have HC := Lib.hid hc
  clear hc
  by_cases h : 0 ≤ i ∧ i < 32
  · rw [fate, if_pos h]
    obtain ⟨h0, h32⟩ := h
    obtain ⟨k, rfl⟩ := Int.eq_ofNat_of_zero_le h0
    have h31 : (k:Int) ≤ 31 := by omega
    have hat : (arr (fl c))[k]? = some (.int .i64 (fd c k : Int)) := by rw [arr_get _ k (by rw [fl_len]; omega), fl_get c k (by omega)]
    have hix := fun W => index32 (arr (fl c)) k _ (by omega) hat W
    go_enter Try.func46, Try.ntmps46
    go_wp2_with (go_at_call 68; refine (fates_any c _ HC.out).mono ?_; rintro e w1 ⟨rfl, hb⟩)
    go_ret
    exact ⟨rfl, hb⟩
  · rw [fate, if_neg h]
    have h' : i < 0 ∨ (0 ≤ i ∧ 31 < i) := by omega
    clear h
    rcases h' with h | ⟨h1, h2⟩
    all_goals
      go_enter Try.func46, Try.ntmps46
      go_wp2
      go_ret
      exact ⟨rfl, Below.refl _ _⟩

/-! whether it is a choice -/
theorem all_upto (c k n : Nat) (hk : k ≤ n) (f : Nat → Bool) (h : (List.range k).all f = true) : (k = n → (List.range n).all f = true) ∧ (k < n → f k = false → (List.range n).all f = false) := by
  refine ⟨fun e => e ▸ h, fun hlt hf => ?_⟩
  rw [Bool.eq_false_iff]
  intro ha
  rw [List.all_eq_true] at ha
  rw [ha k (List.mem_range.2 hlt)] at hf
  cases hf
theorem all_next (k : Nat) (f : Nat → Bool) (h : (List.range k).all f = true) (hf : f k = true) : (List.range (k+1)).all f = true := by
  rw [List.range_succ, List.all_append, h]; simp [hf]
theorem right_in (c n : Nat) (w : World) (hc : c < 18446744073709551616) (hn : n ≤ 32) :
    Calls Try.prog 69 #[.int .u64 (c : Int), .int .i64 (n : Int)] w fun e w' => e = .returned (.bool (riB c n)) ∧ w = w' := by
  have HR := Lib.hid (riB_in c n (by have : (4:Nat)^32 = 18446744073709551616 := by decide
                                     omega) hn)
  have HC := Lib.hid hc
  clear hc
  have hn2 : (n:Int) ≤ 32 := by omega
  go_enter Try.func69, Try.ntmps69
  go_wp2
  go_loop [5, 13] (fun _ i => ∃ k : Nat, k ≤ n ∧ (List.range k).all (fun i => decide (fd c i ≤ 2)) = true ∧ i = .int .i64 (k : Int)) (fun _ i => n - (intOf i).toNat)
  case atStart => exact ⟨0, by omega, rfl, rfl⟩
  case round =>
    obtain ⟨k, hk, hall, rfl⟩ := hrel
    have HA := Lib.hid hall
    clear hall
    by_cases hlt : k < n
    · have hkk : (k:Int) < 32 := by omega
      by_cases h2 : fd c k ≤ 2
      · have h2' : decide (2 < (fd c k : Int)) = false := by simp; omega
        go_wp2_with (go_at_call 44; refine (fate_in c k _ HC.out (by omega)).mono ?_; rintro e w1 ⟨rfl, rfl⟩)
        go_round
        case rel => exact ⟨k + 1, by omega, all_next k _ HA.out (by simpa using h2), by go_num⟩
        case measure => simp [intOf]; omega
      · have h2' : decide (2 < (fd c k : Int)) = true := by simp; omega
        go_wp2_with (go_at_call 44; refine (fate_in c k _ HC.out (by omega)).mono ?_; rintro e w1 ⟨rfl, rfl⟩)
        go_ret
        exact ⟨ret_bool (by rw [HR.out, (all_upto c k n hk _ HA.out).2 hlt (by simpa using h2)]; rfl), rfl⟩
    · obtain rfl : k = n := by omega
      go_wp2
      go_ret
      exact ⟨ret_bool (by rw [HR.out, HA.out, ← right_walk]; rfl), rfl⟩
theorem right_out (c : Nat) (n : Int) (w : World) (h : n < 0 ∨ 32 < n) :
    Calls Try.prog 69 #[.int .u64 (c : Int), .int .i64 n] w fun e w' => e = .returned (.bool false) ∧ w = w' := by
  rcases h with h | h
  all_goals
    go_enter Try.func69, Try.ntmps69
    go_wp2
    go_ret
    exact ⟨rfl, rfl⟩
theorem right_any (c : Nat) (n : Int) (w : World) (hc : c < 18446744073709551616) :
    Calls Try.prog 69 #[.int .u64 (c : Int), .int .i64 n] w fun e w' => e = .returned (.bool (riB c n)) ∧ w = w' := by
  by_cases h : n < 0 ∨ 32 < n
  · rw [riB_out c n h]; exact right_out c n w h
  · obtain ⟨m, rfl⟩ := Int.eq_ofNat_of_zero_le (show 0 ≤ n by omega)
    exact right_in c m w hc (by omega)
set_option maxRecDepth 100000 in
set_option maxHeartbeats 800000 in
theorem rright_in (c n : Nat) (w : World) (hc : c < 18446744073709551616) (hn : n ≤ 32) :
    Calls Try.prog 71 #[.int .u64 (c : Int), .int .i64 (n : Int)] w fun e w' => e = .returned (.bool (riB c n)) ∧ Below w.heap.size w w' := by
  have HR := Lib.hid (riB_rp c n (by omega) (by omega))
  have HC := Lib.hid hc
  clear hc
  have hn2 : (n:Int) ≤ 32 := by omega
  go_enter Try.func71, Try.ntmps71
  go_wp2_with (first
    | (go_at_call 68; refine (fates_any c _ HC.out).mono ?_; rintro e w1 ⟨rfl, hb⟩)
    | (refine store32 rfl _ _ rfl w1 (fl c) _ rfl rfl (fl_len c) rfl ?_))
  have hbb := below_alloc hb (Obj.cells (arr (fl c)) 119)
  clear hb
  go_loop [6] (fun i => ∃ k : Nat, k ≤ 32 ∧ (List.range k).all (rp c n) = true ∧ i = .int .i64 (k : Int)) (fun i => 32 - (intOf i).toNat)
  case atStart => exact ⟨0, by omega, rfl, rfl⟩
  case round =>
    obtain ⟨k, hk, hall, rfl⟩ := hrel
    have HA := Lib.hid hall
    clear hall
    by_cases hlt : k < 32
    · have hat : (arr (fl c))[k]? = some (.int .i64 (fd c k : Int)) := by rw [arr_get _ k (by rw [fl_len]; exact hlt), fl_get c k hlt]
      have hrp : Hid (rp c n k = (fd c k != 3 && (decide ((k:Int) < n) || fd c k == 0))) := Lib.hid rfl
      have hd4 := fd_lt c k
      by_cases hkn : k < n
      · have hkn' : decide ((n:Int) ≤ k) = false := by simp; omega
        obtain ⟨d, hd⟩ : ∃ d, fd c k = d := ⟨_, rfl⟩
        have HD := Lib.hid hd
        rw [hd] at hat hd4
        clear hd
        have h3 : d = 3 ∨ d = 0 ∨ d = 1 ∨ d = 2 := by omega
        rcases h3 with rfl | rfl | rfl | rfl
        · have hat2 : (arr (fl c))[k]? = some (.int .i64 3) := hat
          clear hat
          go_wp2
          go_ret
          exact ⟨ret_bool (by rw [HR.out, (all_upto c k 32 hk _ HA.out).2 hlt (by rw [hrp.out, HD.out]; rfl)]), hbb⟩
        · have hat2 : (arr (fl c))[k]? = some (.int .i64 0) := hat
          clear hat
          go_wp2
          go_round
          case rel => exact ⟨k + 1, by omega, all_next k _ HA.out (by rw [hrp.out, HD.out]; simp <;> omega), by go_num⟩
          case measure => simp [intOf]; omega
        · have hat2 : (arr (fl c))[k]? = some (.int .i64 1) := hat
          clear hat
          go_wp2
          go_round
          case rel => exact ⟨k + 1, by omega, all_next k _ HA.out (by rw [hrp.out, HD.out]; simp <;> omega), by go_num⟩
          case measure => simp [intOf]; omega
        · have hat2 : (arr (fl c))[k]? = some (.int .i64 2) := hat
          clear hat
          go_wp2
          go_round
          case rel => exact ⟨k + 1, by omega, all_next k _ HA.out (by rw [hrp.out, HD.out]; simp <;> omega), by go_num⟩
          case measure => simp [intOf]; omega
      · have hkn' : decide ((n:Int) ≤ k) = true := by simp; omega
        obtain ⟨d, hd⟩ : ∃ d, fd c k = d := ⟨_, rfl⟩
        have HD := Lib.hid hd
        rw [hd] at hat hd4
        clear hd
        have h3 : d = 0 ∨ d = 3 ∨ d = 1 ∨ d = 2 := by omega
        rcases h3 with rfl | rfl | rfl | rfl
        · have hat2 : (arr (fl c))[k]? = some (.int .i64 0) := hat
          clear hat
          go_wp2
          go_round
          case rel => exact ⟨k + 1, by omega, all_next k _ HA.out (by rw [hrp.out, HD.out]; simp), by go_num⟩
          case measure => simp [intOf]; omega
        · have hat2 : (arr (fl c))[k]? = some (.int .i64 3) := hat
          clear hat
          go_wp2
          go_ret
          exact ⟨ret_bool (by rw [HR.out, (all_upto c k 32 hk _ HA.out).2 hlt (by rw [hrp.out, HD.out]; rfl)]), hbb⟩
        · have hat2 : (arr (fl c))[k]? = some (.int .i64 1) := hat
          clear hat
          go_wp2
          go_ret
          exact ⟨ret_bool (by rw [HR.out, (all_upto c k 32 hk _ HA.out).2 hlt (by rw [hrp.out, HD.out]; simp; omega)]), hbb⟩
        · have hat2 : (arr (fl c))[k]? = some (.int .i64 2) := hat
          clear hat
          go_wp2
          go_ret
          exact ⟨ret_bool (by rw [HR.out, (all_upto c k 32 hk _ HA.out).2 hlt (by rw [hrp.out, HD.out]; simp; omega)]), hbb⟩
    · obtain rfl : k = 32 := by omega
      clear hlt hk
      go_wp2
      go_ret
      exact ⟨ret_bool (by rw [HR.out, HA.out]), hbb⟩
theorem rright_any (c : Nat) (n : Int) (w : World) (hc : c < 18446744073709551616) :
    Calls Try.prog 71 #[.int .u64 (c : Int), .int .i64 n] w fun e w' => e = .returned (.bool (riB c n)) ∧ Below w.heap.size w w' := by
  by_cases h : n < 0 ∨ 32 < n
  · rw [riB_out c n h]
    rcases h with h | h
    all_goals
      go_enter Try.func71, Try.ntmps71
      go_wp2
      go_ret
      exact ⟨rfl, Below.refl _ _⟩
  · obtain ⟨m, rfl⟩ := Int.eq_ofNat_of_zero_le (show 0 ≤ n by omega)
    exact rright_in c m w hc (by omega)
end Go.Proofs.Ytpnepooobmbfbaa.cho
