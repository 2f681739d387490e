/- What the reference's Allowed gives. -/
import Derived.Test.YtpnepooobmbfbaaChoG
import Derived.Outline
namespace Go.Proofs.Ytpnepooobmbfbaa.cho
set_option maxRecDepth 100000
open Go.ChangeShapes Go.WideShapes Go.ChangeAt Go.RowKit
open Go.Proofs.Ytpnepooobmbfbaa.choMath
set_option linter.unusedVariables false

set_option maxHeartbeats 800000 in
theorem rallowed_some (c : Nat) (zs : List Int) (b off cap : Nat) (w : World) (hc : c < 18446744073709551616) (hr : riB c zs.length = true) (hb : b < w.heap.size)
    (hcell : ∀ i, i < zs.length → w.cell? ⟨b, off + i, none⟩ = some (.int .i64 (zs.getD i 0))) :
    Calls Try.prog 49 #[.int .u64 (c : Int), .slice (some ⟨b, off, none⟩) zs.length cap] w fun e w' => e = .returned (.bool (alB c zs)) ∧ Below w.heap.size w w' := by
  have hn := riB_len hr
  have hn2 : zs.length ≤ 32 := by omega
  have HAL : Hid (alB c zs = (List.range zs.length).all fun i => (List.range zs.length).all (alP c zs i)) := Lib.hid (by rw [alB, hr]; rfl)
  have HC := Lib.hid hc
  have HR := Lib.hid hr
  have HCELL := Lib.hid hcell
  clear hc hr hcell hn
  obtain ⟨n, hnn⟩ : ∃ n, zs.length = n := ⟨_, rfl⟩
  rw [hnn] at hn2 HAL HR HCELL ⊢
  clear hnn
  have hn3 : (n : Int) ≤ 32 := by omega
  go_enter Try.func49, Try.ntmps49
  go_wp2_with (first | (go_at_call 71; refine (rright_any c _ _ HC.out).mono ?_; rw [HR.out]; rintro e w1 ⟨rfl, hb1⟩) | (go_at_call 68; refine (fates_any c _ HC.out).mono ?_; rintro e w2 ⟨rfl, hb2⟩) | (refine store32 rfl _ _ rfl w2 (fl c) _ rfl rfl (fl_len c) rfl ?_))
  have hbb := below_alloc (below_trans hb1 hb2) (Obj.cells (arr (fl c)) 119)
  clear hb1 hb2
  have hhp := heap_alloc_new w2 (Obj.cells (arr (fl c)) 119)
  go_loopw [6, 7] (fun i _ wr => ∃ m : Nat, m ≤ n ∧ (List.range m).all (fun i => (List.range n).all (alP c zs i)) = true ∧ i = .int .i64 (m : Int) ∧ wr.heap[w2.heap.size]? = some (Obj.cells (arr (fl c)) 119) ∧ Below w.heap.size w wr) (fun i _ _ => n - (intOf i).toNat)
  case atStart => exact ⟨0, by omega, rfl, rfl, hhp, hbb⟩
  case round =>
    obtain ⟨m, hm, hall, rfl, hhw, hbw⟩ := hrel
    clear hbb hhp
    have HA := Lib.hid hall
    have HHW := Lib.hid hhw
    clear hall hhw
    by_cases hlt : m < n
    · go_wp2
      obtain ⟨wo, hwo⟩ : ∃ wo : World, wo = wr := ⟨_, rfl⟩
      go_loopw [7] (fun k wi => ∃ q : Nat, q ≤ n ∧ (List.range q).all (alP c zs m) = true ∧ k = .int .i64 (q : Int) ∧ wi.heap[w2.heap.size]? = some (Obj.cells (arr (fl c)) 119) ∧ Below w.heap.size w wi) (fun k _ => n - (intOf k).toNat)
      case atStart => exact ⟨0, by omega, rfl, rfl, HHW.out, hbw⟩
      case round =>
        obtain ⟨q, hq, hall, rfl, hhi, hbi⟩ := hrel
        have HAI := Lib.hid hall
        have HHI := Lib.hid hhi
        clear hall hhi
        by_cases hlq : q < n
        · have hm32 : (m:Int) < 32 := by omega
          have hq32 : (q:Int) < 32 := by omega
          have hmn : (m:Int) < n := by omega
          have hqn : (q:Int) < n := by omega
          have c1 : wr.cell? ⟨w2.heap.size, q, none⟩ = some (.int .i64 (fd c q : Int)) := by
            rw [cell_of_row wr _ q _ _ _ HHI.out, arr_get _ q (by rw [fl_len]; omega), fl_get c q (by omega)]
          have c2 : wr.cell? ⟨w2.heap.size, m, none⟩ = some (.int .i64 (fd c m : Int)) := by
            rw [cell_of_row wr _ m _ _ _ HHI.out, arr_get _ m (by rw [fl_len]; omega), fl_get c m (by omega)]
          have c3 : wr.cell? ⟨b, off + m, none⟩ = some (.int .i64 (zs.getD m 0)) := by
            rw [hbi.cell (p := ⟨b, off + m, none⟩) hb]; exact HCELL.out m hlt
          have c4 : wr.cell? ⟨b, off + q, none⟩ = some (.int .i64 (zs.getD q 0)) := by
            rw [hbi.cell (p := ⟨b, off + q, none⟩) hb]; exact HCELL.out q hlq
          have hp : alP c zs m q = (fd c q == 0 || !(decide (zs.getD m 0 < zs.getD q 0)) || fd c m == 1) := rfl
          generalize zs.getD m 0 = zi at *
          generalize zs.getD q 0 = zk at *
          generalize fd c m = di at *
          generalize fd c q = dk at *
          have HP := Lib.hid hp
          clear hp hwo
          by_cases hk0 : dk = 0
          · subst hk0
            have c1' : wr.cell? ⟨w2.heap.size, q, none⟩ = some (.int .i64 0) := c1
            clear c1
            go_wp2
            go_quiet (fail)
            go_wp2
            go_roundw
            case rel => exact ⟨q + 1, by omega, all_next q _ HAI.out (by rw [HP.out]; simp ), by go_num, HHI.out, blw_drewN hbi _⟩
            case measure => simp [intOf]; omega
          have k1 : ((dk:Int) != 0) = true := by simp; omega
          have k2 : ((dk:Int) == 0) = false := by simp; omega
          by_cases hz : zi < zk
          · by_cases hi1 : di = 1
            · subst hi1
              have c2' : wr.cell? ⟨w2.heap.size, m, none⟩ = some (.int .i64 1) := c2
              clear c2
              go_wp2
              go_quiet (fail)
              go_wp2
              go_roundw
              case rel => exact ⟨q + 1, by omega, all_next q _ HAI.out (by rw [HP.out]; simp ), by go_num, HHI.out, blw_drewN hbi _⟩
              case measure => simp [intOf]; omega
            · have k3 : ((di:Int) != 1) = true := by simp; omega
              have k4 : ((di:Int) == 1) = false := by simp; omega
              go_wp2
              go_quiet (fail)
              go_wp2
              go_ret
              have hinner := (all_upto c q n hq _ HAI.out).2 hlq (by rw [HP.out]; simp [hk0, hz, hi1])
              exact ⟨ret_bool (by rw [HAL.out, (all_upto c m n hm _ HA.out).2 hlt hinner]), blw_drewN hbi _⟩
          · have k3 : decide (zi < zk) = false := by simp; omega
            go_wp2
            go_quiet (fail)
            go_wp2
            go_roundw
            case rel => exact ⟨q + 1, by omega, all_next q _ HAI.out (by rw [HP.out]; simp [hz]), by go_num, HHI.out, blw_drewN hbi _⟩
            case measure => simp [intOf]; omega
        · obtain rfl : q = n := by omega
          go_wp2
          go_roundw
          case rel => exact ⟨m + 1, by omega, all_next m _ HA.out HAI.out, by go_num, HHI.out, hbi⟩
          case measure => simp [intOf]; omega
    · obtain rfl : m = n := by omega
      go_wp2
      go_ret
      exact ⟨ret_bool (by rw [HAL.out, HA.out]), hbw⟩
theorem rallowed_any (c : Nat) (zs : List Int) (v : Value) (w : World) (hc : c < 18446744073709551616) (h : IntsIn w v zs) :
    Calls Try.prog 49 #[.int .u64 (c : Int), v] w fun e w' => e = .returned (.bool (alB c zs)) ∧ Below w.heap.size w w' := by
  rcases h with ⟨p, cap, rfl, rfl⟩ | ⟨b, off, cap, rfl, h2, h3, h4⟩
  · cases h : riB c 0 with
    | false =>
      have e : alB c [] = false := by show (riB c 0 && _) = false; rw [h]; rfl
      rw [e]
      exact rallowed_no c 0 cap p w hc h
    | true =>
      have e : alB c [] = true := by show (riB c 0 && _) = true; rw [h]; rfl
      rw [e]
      exact rallowed_nil c cap p w hc h
  · cases h : riB c zs.length with
    | false =>
      have e : alB c zs = false := by rw [alB, h]; rfl
      rw [e]
      exact rallowed_no c _ cap _ w hc h
    | true => exact rallowed_some c zs b off cap w hc h h3 h4
end Go.Proofs.Ytpnepooobmbfbaa.cho
