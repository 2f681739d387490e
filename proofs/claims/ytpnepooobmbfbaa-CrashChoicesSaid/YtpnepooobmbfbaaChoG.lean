/- What both forms of Allowed give. -/
import Derived.Test.YtpnepooobmbfbaaChoF
import Derived.Outline
namespace Go.Proofs.Ytpnepooobmbfbaa.cho
set_option maxRecDepth 100000
open Go.ChangeShapes Go.WideShapes Go.ChangeAt Go.RowKit
open Go.Proofs.Ytpnepooobmbfbaa.choMath
set_option linter.unusedVariables false

theorem riB_len {c : Nat} {n : Int} (h : riB c n = true) : 0 ≤ n ∧ n ≤ 32 := by
  rw [riB, Bool.and_eq_true, decide_eq_true_eq] at h
  exact h.1
theorem allowed_no (c len cap : Nat) (p : Option Addr) (w : World) (hc : c < 18446744073709551616) (h : riB c len = false) :
    Calls Try.prog 48 #[.int .u64 (c : Int), .slice p len cap] w fun e w' => e = .returned (.bool false) ∧ w = w' := by
  have HC := Lib.hid hc
  have HR := Lib.hid h
  clear hc h
  go_enter Try.func48, Try.ntmps48
  go_wp2_with (go_at_call 69; refine (right_any c _ _ HC.out).mono ?_; rw [HR.out]; rintro e w1 ⟨rfl, rfl⟩)
  go_ret
  exact ⟨rfl, rfl⟩
theorem rallowed_no (c len cap : Nat) (p : Option Addr) (w : World) (hc : c < 18446744073709551616) (h : riB c len = false) :
    Calls Try.prog 49 #[.int .u64 (c : Int), .slice p len cap] w fun e w' => e = .returned (.bool false) ∧ Below w.heap.size w w' := by
  have HC := Lib.hid hc
  have HR := Lib.hid h
  clear hc h
  go_enter Try.func49, Try.ntmps49
  go_wp2_with (go_at_call 71; refine (rright_any c _ _ HC.out).mono ?_; rw [HR.out]; rintro e w1 ⟨rfl, hb⟩)
  go_ret
  exact ⟨rfl, hb⟩
theorem allowed_nil (c cap : Nat) (p : Option Addr) (w : World) (hc : c < 18446744073709551616) (h : riB c 0 = true) :
    Calls Try.prog 48 #[.int .u64 (c : Int), .slice p 0 cap] w fun e w' => e = .returned (.bool true) ∧ w = w' := by
  have HC := Lib.hid hc
  have HR := Lib.hid h
  clear hc h
  go_enter Try.func48, Try.ntmps48
  go_wp2_with (first | (go_at_call 69; refine (right_any c 0 _ HC.out).mono ?_; rw [HR.out]; rintro e w1 ⟨rfl, rfl⟩) | (go_at_call 70; refine (last_nil c p cap _).mono ?_; rintro e w1 ⟨rfl, rfl⟩))
  go_ret
  exact ⟨rfl, rfl⟩
theorem rallowed_nil (c cap : Nat) (p : Option Addr) (w : World) (hc : c < 18446744073709551616) (h : riB c 0 = true) :
    Calls Try.prog 49 #[.int .u64 (c : Int), .slice p 0 cap] w fun e w' => e = .returned (.bool true) ∧ Below w.heap.size w w' := by
  have HC := Lib.hid hc
  have HR := Lib.hid h
  clear hc h
  go_enter Try.func49, Try.ntmps49
  go_wp2_with (first | (go_at_call 71; refine (rright_any c 0 _ HC.out).mono ?_; rw [HR.out]; rintro e w1 ⟨rfl, hb1⟩) | (go_at_call 68; refine (fates_any c _ HC.out).mono ?_; rintro e w2 ⟨rfl, hb2⟩) | (refine store32 rfl _ _ rfl w2 (fl c) _ rfl rfl (fl_len c) rfl ?_))
  go_loop [6] (fun i => i = .int .i64 0) (fun i => 0)
  case atStart => rfl
  case round =>
    subst hrel
    go_wp2
    go_ret
    exact ⟨rfl, below_alloc (below_trans hb1 hb2) _⟩
theorem allowed_some (c : Nat) (zs : List Int) (b off cap : Nat) (w : World) (hc : c < 18446744073709551616) (hr : riB c zs.length = true)
    (hcell : ∀ i, i < zs.length → w.cell? ⟨b, off + i, none⟩ = some (.int .i64 (zs.getD i 0))) :
    Calls Try.prog 48 #[.int .u64 (c : Int), .slice (some ⟨b, off, none⟩) zs.length cap] w fun e w' => e = .returned (.bool (alB c zs)) ∧ w = w' := by
  have hn := riB_len hr
  have hn2 : zs.length ≤ 32 := by omega
  have HAL := Lib.hid (alB_dev c zs hr)
  have HLS := Lib.hid (fun W => last_some c zs b off cap W hc hr hn2)
  have HC := Lib.hid hc
  have HR := Lib.hid hr
  have HCELL := Lib.hid hcell
  clear hc hr hcell hn
  have hn3 : (zs.length : Int) ≤ 32 := by omega
  obtain ⟨L, R, hLR⟩ : ∃ L R, lr c zs zs.length = (L, R) := ⟨_, _, rfl⟩
  have HLR := Lib.hid hLR
  clear hLR
  cases R with
  | false =>
    go_enter Try.func48, Try.ntmps48
    go_wp2_with (first | (go_at_call 69; refine (right_any c _ _ HC.out).mono ?_; rw [HR.out]; rintro e w1 ⟨rfl, rfl⟩) | (go_at_call 70; refine (HLS.out _ HCELL.out).mono ?_; rw [HLR.out]; rintro e w1 ⟨rfl, rfl⟩))
    go_ret
    exact ⟨ret_bool (by rw [HAL.out, HLR.out]; rfl), rfl⟩
  | true =>
    obtain ⟨n, hnn⟩ : ∃ n, zs.length = n := ⟨_, rfl⟩
    have HNN := Lib.hid hnn
    have HAL2 : Hid (alB c zs = (List.range n).all (dvP c zs L)) := Lib.hid (by rw [HAL.out, HLR.out, ← hnn]; rfl)
    have HR2 : Hid (riB c (n:Int) = true) := Lib.hid (by rw [← hnn]; exact HR.out)
    have HCELL2 : Hid (∀ i, i < n → w.cell? ⟨b, off + i, none⟩ = some (.int .i64 (zs.getD i 0))) := Lib.hid (by rw [← hnn]; exact HCELL.out)
    have HLS2 : Hid (Calls Try.prog 70 #[.int .u64 (c : Int), .slice (some ⟨b, off, none⟩) n cap] w fun e w' => e = .returned (.tuple #[.int .i64 L, .bool true]) ∧ w = w') := Lib.hid (by
      have := HLS.out w HCELL.out
      rw [HLR.out, hnn] at this
      exact this)
    rw [hnn] at hn2 hn3 ⊢
    clear hnn HLS HCELL HR HAL HLR
    go_enter Try.func48, Try.ntmps48
    go_wp2_with (first | (go_at_call 69; refine (right_any c _ _ HC.out).mono ?_; rw [HR2.out]; rintro e w1 ⟨rfl, rfl⟩) | (go_at_call 70; refine HLS2.out.mono ?_; rintro e w1 ⟨rfl, rfl⟩))
    go_loop [7, 8, 24] (fun _ _ i => ∃ j : Nat, j ≤ n ∧ (List.range j).all (dvP c zs L) = true ∧ i = .int .i64 (j : Int)) (fun _ _ i => n - (intOf i).toNat)
    case atStart => exact ⟨0, by omega, rfl, rfl⟩
    case round =>
      obtain ⟨j, hj, hall, rfl⟩ := hrel
      have HA := Lib.hid hall
      clear hall
      by_cases hlt : j < n
      · have hcj : w.cell? ⟨b, off + j, none⟩ = some (.int .i64 (zs.getD j 0)) := HCELL2.out j hlt
        have hfd : fate c (j : Int) = ((fd c j : Nat) : Int) := by rw [fate, if_pos (by omega)]; rfl
        have hp : dvP c zs L j = (!(decide (zs.getD j 0 < L)) || fd c j == 1) := rfl
        generalize zs.getD j 0 = z at *
        generalize fd c j = d at *
        have HP := Lib.hid hp
        have HFD := Lib.hid hfd
        clear hp hfd
        by_cases hz : z < L
        · by_cases hd1 : d = 1
          · subst hd1
            go_wp2_with (go_at_call 44; refine (fate_of c _ 1 _ HC.out HFD.out).mono ?_; rintro e w1 ⟨rfl, rfl⟩)
            go_round
            case rel => exact ⟨j + 1, by omega, all_next j _ HA.out (by rw [HP.out]; simp), by go_num⟩
            case measure => simp [intOf]; omega
          · have hne : ((d:Int) != 1) = true := by simp; omega
            have hne2 : ((d:Int) == 1) = false := by simp; omega
            go_wp2_with (go_at_call 44; refine (fate_of c _ d _ HC.out HFD.out).mono ?_; rintro e w1 ⟨rfl, rfl⟩)
            go_ret
            exact ⟨ret_bool (by rw [HAL2.out, (all_upto c j n hj _ HA.out).2 hlt (by rw [HP.out]; simp [hz, hd1])]), rfl⟩
        · have hz2 : decide (z < L) = false := by simp; omega
          go_wp2
          go_round
          case rel => exact ⟨j + 1, by omega, all_next j _ HA.out (by rw [HP.out]; simp; omega), by go_num⟩
          case measure => simp [intOf]; omega
      · obtain rfl : j = n := by omega
        go_wp2
        go_ret
        exact ⟨ret_bool (by rw [HAL2.out, HA.out]), rfl⟩
theorem allowed_any (c : Nat) (zs : List Int) (v : Value) (w : World) (hc : c < 18446744073709551616) (h : IntsIn w v zs) :
    Calls Try.prog 48 #[.int .u64 (c : Int), v] w fun e w' => e = .returned (.bool (alB c zs)) ∧ w = w' := by
  rcases h with ⟨p, cap, rfl, rfl⟩ | ⟨b, off, cap, rfl, h2, h3, h4⟩
  · cases h : riB c 0 with
    | false =>
      have e : alB c [] = false := by show (riB c 0 && _) = false; rw [h]; rfl
      rw [e]
      exact allowed_no c 0 cap p w hc h
    | true =>
      have e : alB c [] = true := by show (riB c 0 && _) = true; rw [h]; rfl
      rw [e]
      exact allowed_nil c cap p w hc h
  · cases h : riB c zs.length with
    | false =>
      have e : alB c zs = false := by rw [alB, h]; rfl
      rw [e]
      exact allowed_no c _ cap _ w hc h
    | true => exact allowed_some c zs b off cap w hc h h4
end Go.Proofs.Ytpnepooobmbfbaa.cho
