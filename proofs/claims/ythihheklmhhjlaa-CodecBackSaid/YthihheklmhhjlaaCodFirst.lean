/- What first gives. -/
import Derived.Test.YthihheklmhhjlaaCodLay
namespace Go.Proofs.Ythihheklmhhjlaa.cod
open Go.ChangeShapes Go.WideShapes Go.ChangeAt Go.RowKit
open Go.Proofs.Ythihheklmhhjlaa.codMath
set_option linter.unusedVariables false

theorem first_yes (zs t : List Int) (m b off cap : Nat) (w : World) (hd : Dec zs m t) (hcell : ∀ i, i < zs.length → w.cell? ⟨b, off + i, none⟩ = some (.int .u8 (zs.getD i 0))) (hl : zs.length ≤ 100000) :
    Calls Try.prog 20 #[.slice (some ⟨b, off, none⟩) zs.length cap] w fun e w' => e = .returned (.tuple #[.int .u64 (m : Int), .int .i64 ((ue m).length : Int)]) ∧ w = w' := by
  obtain ⟨p, z, h1, h2, h3, h4, h5, h6, h7, h8, h9⟩ := dec_form hd
  have HD := Lib.hid hd
  have HCELL := Lib.hid hcell
  have H1 := Lib.hid h1
  have H2 := Lib.hid h2
  have H3 := Lib.hid h3
  have H7 := Lib.hid h7
  have HPL : Hid (p.length < zs.length) := Lib.hid (by rw [h2]; simp)
  have hpl : p.length < zs.length := HPL.out
  obtain ⟨n, hnn⟩ : ∃ n, zs.length = n := ⟨_, rfl⟩
  have HNN := Lib.hid hnn
  rw [hnn] at hl hpl ⊢
  obtain ⟨q, hq⟩ : ∃ q, p.length = q := ⟨_, rfl⟩
  have HQ := Lib.hid hq
  rw [hq] at h8 h9 hpl
  have hn2 : (n:Int) ≤ 100000 := by omega
  have hn3 : (q:Int) < n := by omega
  clear hnn hq hd hcell h1 h2 h3 h7 hl hpl
  go_enter Try.func20, Try.ntmps20
  go_wp2
  go_step3
  go_wp2
  go_step3
  go_wp2
  all_goals (
    go_loop [4, 5, 6, 7, 11, 28, 31, 38] (fun nv lv _ _ iv _ _ _ => ∃ (j : Nat), j ≤ q ∧ nv = .int .u64 (vl (zs.take j) : Int) ∧ lv = .int .i64 0 ∧ iv = .int .i64 (j : Int)) (fun _ _ _ _ iv _ _ _ => q - (intOf iv).toNat)
    case atStart => exact ⟨0, Nat.zero_le _, by simp [vl], rfl, rfl⟩
    case round =>
      obtain ⟨j, hj, rfl, rfl, rfl⟩ := hrel
      have hj9 : (j:Int) ≤ 9 := by omega
      have hjn : (j:Int) < n := by omega
      have hcj : w.cell? ⟨b, off + j, none⟩ = some (.int .u8 (zs.getD j 0)) := HCELL.out j (by rw [HNN.out]; omega)
      have hjz : j < zs.length := by rw [HNN.out]; omega
      have HV := Lib.hid (vl_take zs j hjz)
      have HVL := Lib.hid (vl_take_lt zs j (Nat.le_of_lt hjz))
      clear hjz
      by_cases hlt : j < q
      · have hz := hi_at H2.out H3.out (by rw [HQ.out]; exact hlt)
        generalize zs.getD j 0 = x at *
        obtain ⟨hx1, hx2⟩ := hz
        obtain ⟨N, hN⟩ : ∃ N, vl (zs.take j) = N := ⟨_, rfl⟩
        rw [hN] at HV HVL ⊢
        clear hN
        have hor := or_step' N j x HVL.out (by omega) (by omega) (by omega)
        obtain ⟨N', hN'⟩ : ∃ N', N + 128^j * (x % 128).toNat = N' := ⟨_, rfl⟩
        rw [hN'] at hor HV
        clear hN'
        go_wp2
        go_round
        case rel => exact ⟨j + 1, by omega, by rw [HV.out], rfl, by go_num⟩
        case measure => simp [intOf]; omega
      · have hjq : q = j := by omega
        subst hjq
        have hz := low_at H2.out HQ.out
        have hx1 : 0 ≤ zs.getD q 0 := by rw [hz]; exact h4
        have hx2 : zs.getD q 0 < 128 := by rw [hz]; exact h5
        have hx3 : q = 0 ∨ zs.getD q 0 ≠ 0 := by
          rw [hz]
          rcases h6 with h6 | h6
          · exact Or.inl (by rw [← HQ.out, h6]; rfl)
          · exact Or.inr h6
        have hx4 : q = 9 → zs.getD q 0 ≤ 1 := by rw [hz]; exact h9
        have HM : Hid (vl (zs.take q) + 128^q * (zs.getD q 0 % 128).toNat = m) := Lib.hid (by
          rw [hz, ← H7.out, HQ.out, H2.out, ← HQ.out]; rw [show z % 128 = z by omega]; simp)
        have HUL : Hid ((ue m).length = q + 1) := Lib.hid (by rw [H1.out, ← HQ.out]; simp)
        clear hz h4 h5 h6 h9
        generalize zs.getD q 0 = x at *
        obtain ⟨N, hN⟩ : ∃ N, vl (zs.take q) = N := ⟨_, rfl⟩
        rw [hN] at HV HVL HM ⊢
        clear hN
        have hor := or_step' N q x HVL.out (by omega) (by omega) (by omega)
        obtain ⟨N', hN'⟩ : ∃ N', N + 128^q * (x % 128).toNat = N' := ⟨_, rfl⟩
        rw [hN'] at hor HV HM
        clear hN'
        have hx5 : (x = 0 ∧ q = 0) ∨ x = 1 ∨ (1 < x ∧ q < 9) := by omega
        clear hx3 hx4
        rcases hx5 with ⟨hx5, hx6⟩ | hx5 | ⟨hx5, hx6⟩
        · have hx7 : (x == 0) = true := by simp; omega
          have hx8 : (q:Int) ≤ 0 := by omega
          have hx9 : decide (1 < x) = false := by simp; omega
          clear hx5 hx6
          go_wp2
          go_ret2
          exact ⟨by rw [HUL.out, ← HM.out]; rfl, rfl⟩
        · have hx7 : (x == 0) = false := by simp; omega
          have hx9 : decide (1 < x) = false := by simp; omega
          clear hx5
          go_wp2
          go_ret2
          exact ⟨by rw [HUL.out, ← HM.out]; rfl, rfl⟩
        · have hx7 : (x == 0) = false := by simp; omega
          have hx8 : ((q:Int) == 9) = false := by simp; omega
          have hx9 : decide (1 < x) = true := by simp; omega
          go_wp2
          go_ret2
          exact ⟨by rw [HUL.out, ← HM.out]; rfl, rfl⟩
    )
theorem first_nil (p : Option Addr) (cap : Nat) (w : World) :
    Calls Try.prog 20 #[.slice p 0 cap] w fun e w' => (∃ x, e = .returned (.tuple #[.int .u64 x, .int .i64 0])) ∧ w = w' := by
  go_enter Try.func20, Try.ntmps20
  go_wp2
  go_step3
  go_wp2
  go_step3
  go_wp2
  go_loop [4, 5, 6, 7, 11, 28, 31, 38] (fun nv lv _ _ iv _ _ _ => nv = .int .u64 0 ∧ lv = .int .i64 0 ∧ iv = .int .i64 0) (fun _ _ _ _ iv _ _ _ => 0)
  case atStart => exact ⟨rfl, rfl, rfl⟩
  case round =>
    obtain ⟨rfl, rfl, rfl⟩ := hrel
    go_wp2
    go_ret2
    exact ⟨⟨0, rfl⟩, rfl⟩
theorem first_no (zs : List Int) (b off cap : Nat) (w : World) (hd : NoDec zs) (hwf : ∀ i, 0 ≤ zs.getD i 0 ∧ zs.getD i 0 < 256) (hcell : ∀ i, i < zs.length → w.cell? ⟨b, off + i, none⟩ = some (.int .u8 (zs.getD i 0))) (hl : zs.length ≤ 100000) :
    Calls Try.prog 20 #[.slice (some ⟨b, off, none⟩) zs.length cap] w fun e w' => (∃ x, e = .returned (.tuple #[.int .u64 x, .int .i64 0])) ∧ w = w' := by
  have HD := Lib.hid hd
  have HCELL := Lib.hid hcell
  have HWF := Lib.hid hwf
  obtain ⟨n, hnn⟩ : ∃ n, zs.length = n := ⟨_, rfl⟩
  have HNN := Lib.hid hnn
  rw [hnn] at hl ⊢
  have hn2 : (n:Int) ≤ 100000 := by omega
  clear hnn hd hcell hl hwf
  go_enter Try.func20, Try.ntmps20
  go_wp2
  go_step3
  go_wp2
  go_step3
  go_wp2
  all_goals (
    go_loop [4, 5, 6, 7, 11, 28, 31, 38] (fun nv lv _ _ iv _ _ _ => ∃ (j : Nat) (N : Int), j ≤ n ∧ j ≤ 10 ∧ Hid (Hi (zs.take j)) ∧ nv = .int .u64 N ∧ lv = .int .i64 0 ∧ iv = .int .i64 (j : Int)) (fun _ _ _ _ iv _ _ _ => 10 - (intOf iv).toNat)
    case atStart => exact ⟨0, 0, by omega, by omega, Lib.hid (by simp [Hi]), rfl, rfl, rfl⟩
    case round =>
      obtain ⟨j, N, hj, hj2, HI, rfl, rfl, rfl⟩ := hrel
      by_cases hin : j < n ∧ j < 10
      · obtain ⟨hin1, hin2⟩ := hin
        have hjn : (j:Int) < n := by omega
        have hj9 : (j:Int) ≤ 9 := by omega
        have hcj : w.cell? ⟨b, off + j, none⟩ = some (.int .u8 (zs.getD j 0)) := HCELL.out j (by rw [HNN.out]; omega)
        have hx := HWF.out j
        have HNX := Lib.hid (fun h128 : 128 ≤ zs.getD j 0 => hi_next HI.out (by rw [HNN.out]; exact hin1) h128 hx.2)
        have HLO := Lib.hid (fun h128 : zs.getD j 0 < 128 => low_end HD.out HI.out (by rw [HNN.out]; exact hin1) (by omega) hx.1 h128)
        generalize zs.getD j 0 = x at *
        obtain ⟨hx1, hx2⟩ := hx
        by_cases h128 : 128 ≤ x
        · go_wp2
          go_round
          case rel => exact ⟨j + 1, _, by omega, by omega, Lib.hid (HNX.out h128), rfl, rfl, by go_num⟩
          case measure => simp [intOf]; omega
        · rcases HLO.out (by omega) with ⟨hx5, hx6⟩ | ⟨hx5, hx6⟩
          · have hx7 : (x == 0) = true := by simp; omega
            clear hx5
            go_wp2
            go_ret2
            exact ⟨⟨_, rfl⟩, rfl⟩
          · have hx7 : (x == 0) = false := by simp; omega
            have hx8 : ((j:Int) == 9) = true := by simp; omega
            have hx9 : decide (1 < x) = true := by simp; omega
            clear hx6
            go_wp2
            go_ret2
            exact ⟨⟨_, rfl⟩, rfl⟩
      · have hout : n ≤ j ∨ 10 ≤ j := by omega
        go_wp2
        go_ret2
        exact ⟨⟨_, rfl⟩, rfl⟩
    )
end Go.Proofs.Ythihheklmhhjlaa.cod
