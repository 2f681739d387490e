/- What the reference's Rank gives. -/
import Derived.Test.YtbnmnopjbfbohaaChoD
import Derived.Outline
namespace Go.Proofs.Ytbnmnopjbfbohaa.cho
open Go.ChangeShapes Go.WideShapes Go.ChangeAt Go.RowKit
open Go.Proofs.Ytbnmnopjbfbohaa.choMath
set_option linter.unusedVariables false

theorem rk_back (b c n m : Nat) (h : m < n) : rk b c n (n - m) = rk b c n (n - (m + 1)) * b + fd c m := by
  have e : n - m = (n - (m + 1)) + 1 := by omega
  rw [e, rk]
  congr 2
  omega
theorem rkOk_back (c n m : Nat) (t : Bool) (h : m < n) : rkOk c n t (n - m) = (rkOk c n t (n - (m + 1)) && (t || fd c m != 2)) := by
  have e : n - m = (n - (m + 1)) + 1 := by omega
  rw [e, rkOk_next]
  congr 4
  omega
theorem rrank_no (c : Nat) (n : Int) (t : Bool) (w : World) (hc : c < 18446744073709551616) (h : riB c n = false) :
    Calls Try.prog 15 #[.int .u64 (c : Int), .int .i64 n, .bool t] w fun e w' => e = .returned (.tuple #[.int .u64 0, .bool false]) ∧ Below w.heap.size w w' := by
  have HC := Lib.hid hc
  clear hc
  go_enter Try.func15, Try.ntmps15
  go_wp2_with (go_at_call 12; refine (rright_any c n _ HC.out).mono ?_; rw [h]; rintro e w1 ⟨rfl, hb⟩)
  go_ret2
  exact ⟨rfl, hb⟩
theorem rrank_yes (c n : Nat) (t : Bool) (w : World) (hc : c < 18446744073709551616) (h : riB c n = true) (hn : n ≤ 32) :
    Calls Try.prog 15 #[.int .u64 (c : Int), .int .i64 (n : Int), .bool t] w fun e w' => e = .returned (.tuple #[.int .u64 (rkN c n t : Int), .bool (rkB c n t)]) ∧ Below w.heap.size w w' := by
  have hB : rkB c n t = rkOk c n t n := by rw [rkB, h, rkOk_all]; rfl
  have hN : rkN c n t = if rkOk c n t n then rk (base t) c n n else 0 := by rw [rkN, hB]; rfl
  have HB := Lib.hid hB
  have HN := Lib.hid hN
  have HR := Lib.hid h
  have HC := Lib.hid hc
  clear hB hN h hc
  have hn2 : (n:Int) ≤ 32 := by omega
  obtain ⟨bb, hbb⟩ : ∃ bb : Nat, base t = bb := ⟨_, rfl⟩
  have HBB := Lib.hid hbb
  have hb : (t = false ∧ bb = 2) ∨ (t = true ∧ bb = 3) := by rw [← hbb]; cases t <;> simp [base]
  clear hbb
  rcases hb with ⟨rfl, rfl⟩ | ⟨rfl, rfl⟩
  · go_enter Try.func15, Try.ntmps15
    go_wp2_with (first | (go_at_call 12; refine (rright_any c n _ HC.out).mono ?_; rw [HR.out]; rintro e w1 ⟨rfl, hb1⟩) | (go_at_call 26; refine (fates_any c _ HC.out).mono ?_; rintro e w2 ⟨rfl, hb2⟩) | (refine store32 rfl _ _ rfl w2 (fl c) _ rfl rfl (fl_len c) rfl ?_))
    have hbb := below_alloc (below_trans hb1 hb2) (Obj.cells (arr (fl c)) 40)
    clear hb1 hb2
    have hhp := heap_alloc_new w2 (Obj.cells (arr (fl c)) 40)
    go_loopw [9, 10] (fun v i wr => ∃ m q : Nat, m ≤ n ∧ rkOk c n false (n - m) = true ∧ q = rk (base false) c n (n - m) ∧ v = .int .u64 (q : Int) ∧ i = .int .i64 ((m : Int) - 1) ∧ wr.heap[w2.heap.size]? = some (Obj.cells (arr (fl c)) 40) ∧ Below w.heap.size w wr) (fun _ i _ => (intOf i + 1).toNat)
    case atStart => exact ⟨n, 0, by omega, by rw [Nat.sub_self]; rfl, by rw [Nat.sub_self]; rfl, rfl, rfl, hhp, hbb⟩
    case round =>
      obtain ⟨m, q, hm, hok, hq, rfl, rfl, hhw, hbw⟩ := hrel
      clear hbb hhp
      have HOK := Lib.hid hok
      have HQ := Lib.hid hq
      have hqb : (q:Int) ≤ 1853020188851840 := by
        have h1 := rkOk_lt c n false (n - m) HR.out hn (by omega) hok
        have h2 := pow_le false (n - m) (by omega)
        omega
      clear hok hq
      have HHW := Lib.hid hhw
      clear hhw
      cases m with
      | zero =>
        go_wp2
        go_ret2
        refine ⟨by rw [HN.out, HB.out]; have := HOK.out; rw [Nat.sub_zero] at this; rw [this, HQ.out]; rfl, hbw⟩
      | succ m =>
        have hm32 : (m:Int) < 32 := by omega
        have HS := Lib.hid (rk_back (base false) c n m (by omega))
        have HOS := Lib.hid (rkOk_back c n m false (by omega))
        have hd2 := riB_le c n HR.out m (by omega)
        have hcell : wr.cell? ⟨w2.heap.size, m, none⟩ = some (.int .i64 (fd c m : Int)) := by
          rw [cell_of_row wr _ m _ _ _ HHW.out, arr_get _ m (by rw [fl_len]; omega), fl_get c m (by omega)]
        have h3 : fd c m = 0 ∨ fd c m = 1 ∨ fd c m = 2 := by omega
        clear hd2
        rcases h3 with h | h | h
        · rw [h] at hcell
          have hcell2 : wr.cell? ⟨w2.heap.size, m, none⟩ = some (.int .i64 0) := hcell
          have HD := Lib.hid h
          clear hcell h
          go_wp2
          go_quiet ((go_at_call 29; exact Calls.quiet_of_same ((rbase_of false _ HBB.out _).mono fun e w' ⟨a, b⟩ => ⟨a, b.symm⟩)))
          go_wp2
          go_roundw
          case rel => exact ⟨m, _, by omega, by rw [HOS.out, HOK.out, HD.out]; rfl, rfl, by rw [HS.out, ← HQ.out, HBB.out, HD.out]; go_num, rfl, HHW.out, blw_drewN hbw _⟩
          case measure => simp [intOf]
        · rw [h] at hcell
          have hcell2 : wr.cell? ⟨w2.heap.size, m, none⟩ = some (.int .i64 1) := hcell
          have HD := Lib.hid h
          clear hcell h
          go_wp2
          go_quiet ((go_at_call 29; exact Calls.quiet_of_same ((rbase_of false _ HBB.out _).mono fun e w' ⟨a, b⟩ => ⟨a, b.symm⟩)))
          go_wp2
          go_roundw
          case rel => exact ⟨m, _, by omega, by rw [HOS.out, HOK.out, HD.out]; rfl, rfl, by rw [HS.out, ← HQ.out, HBB.out, HD.out]; go_num, rfl, HHW.out, blw_drewN hbw _⟩
          case measure => simp [intOf]
        · rw [h] at hcell
          have hcell2 : wr.cell? ⟨w2.heap.size, m, none⟩ = some (.int .i64 2) := hcell
          have HD := Lib.hid h
          clear hcell h
          go_wp2
          go_ret2
          have hno : rkOk c n false n = false := rkOk_mono c n false (n - m) n (by omega) (by rw [HOS.out, HD.out]; simp)
          exact ⟨by rw [HN.out, HB.out, hno]; rfl, hbw⟩
  · go_enter Try.func15, Try.ntmps15
    go_wp2_with (first | (go_at_call 12; refine (rright_any c n _ HC.out).mono ?_; rw [HR.out]; rintro e w1 ⟨rfl, hb1⟩) | (go_at_call 26; refine (fates_any c _ HC.out).mono ?_; rintro e w2 ⟨rfl, hb2⟩) | (refine store32 rfl _ _ rfl w2 (fl c) _ rfl rfl (fl_len c) rfl ?_))
    have hbb := below_alloc (below_trans hb1 hb2) (Obj.cells (arr (fl c)) 40)
    clear hb1 hb2
    have hhp := heap_alloc_new w2 (Obj.cells (arr (fl c)) 40)
    go_loopw [9, 10] (fun v i wr => ∃ m q : Nat, m ≤ n ∧ rkOk c n true (n - m) = true ∧ q = rk (base true) c n (n - m) ∧ v = .int .u64 (q : Int) ∧ i = .int .i64 ((m : Int) - 1) ∧ wr.heap[w2.heap.size]? = some (Obj.cells (arr (fl c)) 40) ∧ Below w.heap.size w wr) (fun _ i _ => (intOf i + 1).toNat)
    case atStart => exact ⟨n, 0, by omega, by rw [Nat.sub_self]; rfl, by rw [Nat.sub_self]; rfl, rfl, rfl, hhp, hbb⟩
    case round =>
      obtain ⟨m, q, hm, hok, hq, rfl, rfl, hhw, hbw⟩ := hrel
      clear hbb hhp
      have HOK := Lib.hid hok
      have HQ := Lib.hid hq
      have hqb : (q:Int) ≤ 1853020188851840 := by
        have h1 := rkOk_lt c n true (n - m) HR.out hn (by omega) hok
        have h2 := pow_le true (n - m) (by omega)
        omega
      clear hok hq
      have HHW := Lib.hid hhw
      clear hhw
      cases m with
      | zero =>
        go_wp2
        go_ret2
        refine ⟨by rw [HN.out, HB.out]; have := HOK.out; rw [Nat.sub_zero] at this; rw [this, HQ.out]; rfl, hbw⟩
      | succ m =>
        have hm32 : (m:Int) < 32 := by omega
        have HS := Lib.hid (rk_back (base true) c n m (by omega))
        have HOS := Lib.hid (rkOk_back c n m true (by omega))
        have hd2 := riB_le c n HR.out m (by omega)
        have hcell : wr.cell? ⟨w2.heap.size, m, none⟩ = some (.int .i64 (fd c m : Int)) := by
          rw [cell_of_row wr _ m _ _ _ HHW.out, arr_get _ m (by rw [fl_len]; omega), fl_get c m (by omega)]
        have h3 : fd c m = 0 ∨ fd c m = 1 ∨ fd c m = 2 := by omega
        clear hd2
        rcases h3 with h | h | h
        · rw [h] at hcell
          have hcell2 : wr.cell? ⟨w2.heap.size, m, none⟩ = some (.int .i64 0) := hcell
          have HD := Lib.hid h
          clear hcell h
          go_wp2
          go_quiet ((go_at_call 29; exact Calls.quiet_of_same ((rbase_of true _ HBB.out _).mono fun e w' ⟨a, b⟩ => ⟨a, b.symm⟩)))
          go_wp2
          go_roundw
          case rel => exact ⟨m, _, by omega, by rw [HOS.out, HOK.out, HD.out]; rfl, rfl, by rw [HS.out, ← HQ.out, HBB.out, HD.out]; go_num, rfl, HHW.out, blw_drewN hbw _⟩
          case measure => simp [intOf]
        · rw [h] at hcell
          have hcell2 : wr.cell? ⟨w2.heap.size, m, none⟩ = some (.int .i64 1) := hcell
          have HD := Lib.hid h
          clear hcell h
          go_wp2
          go_quiet ((go_at_call 29; exact Calls.quiet_of_same ((rbase_of true _ HBB.out _).mono fun e w' ⟨a, b⟩ => ⟨a, b.symm⟩)))
          go_wp2
          go_roundw
          case rel => exact ⟨m, _, by omega, by rw [HOS.out, HOK.out, HD.out]; rfl, rfl, by rw [HS.out, ← HQ.out, HBB.out, HD.out]; go_num, rfl, HHW.out, blw_drewN hbw _⟩
          case measure => simp [intOf]
        · rw [h] at hcell
          have hcell2 : wr.cell? ⟨w2.heap.size, m, none⟩ = some (.int .i64 2) := hcell
          have HD := Lib.hid h
          clear hcell h
          go_wp2
          go_quiet ((go_at_call 29; exact Calls.quiet_of_same ((rbase_of true _ HBB.out _).mono fun e w' ⟨a, b⟩ => ⟨a, b.symm⟩)))
          go_wp2
          go_roundw
          case rel => exact ⟨m, _, by omega, by rw [HOS.out, HOK.out, HD.out]; rfl, rfl, by rw [HS.out, ← HQ.out, HBB.out, HD.out]; go_num, rfl, HHW.out, blw_drewN hbw _⟩
          case measure => simp [intOf]
theorem rrank_any (c : Nat) (n : Int) (t : Bool) (w : World) (hc : c < 18446744073709551616) :
    Calls Try.prog 15 #[.int .u64 (c : Int), .int .i64 n, .bool t] w fun e w' => e = .returned (.tuple #[.int .u64 (rkN c n t : Int), .bool (rkB c n t)]) ∧ Below w.heap.size w w' := by
  cases h : riB c n with
  | false =>
    have e : rkB c n t = false := by rw [rkB, h]; rfl
    rw [rkN, e]
    exact rrank_no c n t w hc h
  | true =>
    have hn : 0 ≤ n ∧ n ≤ 32 := by
      rw [riB, Bool.and_eq_true, decide_eq_true_eq] at h
      exact h.1
    obtain ⟨m, rfl⟩ := Int.eq_ofNat_of_zero_le hn.1
    exact rrank_yes c m t w hc h (by omega)
end Go.Proofs.Ytbnmnopjbfbohaa.cho
