/- What Allowed gives. -/
import Derived.Test.YtpnepooobmbfbaaChoD
import Derived.Outline
namespace Go.Proofs.Ytpnepooobmbfbaa.cho
set_option maxRecDepth 100000
open Go.ChangeShapes Go.WideShapes Go.ChangeAt Go.RowKit
open Go.Proofs.Ytpnepooobmbfbaa.choMath
set_option linter.unusedVariables false

/-- v is a slice in memory that holds zs -/
def IntsIn (w : World) (v : Value) (zs : List Int) : Prop :=
  (∃ p cap, v = .slice p 0 cap ∧ zs = []) ∨
  (∃ b off cap, v = .slice (some ⟨b, off, none⟩) zs.length cap ∧ 0 < zs.length ∧ b < w.heap.size ∧ ∀ i, i < zs.length → w.cell? ⟨b, off + i, none⟩ = some (.int .i64 (zs.getD i 0)))
theorem IntsIn.later {w w' : World} {v : Value} {zs : List Int} (h : IntsIn w v zs) (hb : Below w.heap.size w w') : IntsIn w' v zs := by
  rcases h with h | ⟨b, off, cap, h1, h2, h3, h4⟩
  · exact Or.inl h
  · refine Or.inr ⟨b, off, cap, h1, h2, Nat.lt_of_lt_of_le h3 hb.size, fun i hi => ?_⟩
    rw [hb.cell (p := ⟨b, off + i, none⟩) h3]
    exact h4 i hi

theorem last_some (c : Nat) (zs : List Int) (b off cap : Nat) (w : World) (hc : c < 18446744073709551616) (hr : riB c zs.length = true) (hn : zs.length ≤ 32)
    (hcell : ∀ i, i < zs.length → w.cell? ⟨b, off + i, none⟩ = some (.int .i64 (zs.getD i 0))) :
    Calls Try.prog 70 #[.int .u64 (c : Int), .slice (some ⟨b, off, none⟩) zs.length cap] w fun e w' => e = .returned (.tuple #[.int .i64 (lr c zs zs.length).1, .bool (lr c zs zs.length).2]) ∧ w = w' := by
  have HC := Lib.hid hc
  have HR := Lib.hid hr
  have HCELL := Lib.hid hcell
  clear hc hr hcell
  obtain ⟨n, hnn⟩ : ∃ n, zs.length = n := ⟨_, rfl⟩
  have HNN := Lib.hid hnn
  rw [hnn] at hn ⊢
  clear hnn
  have hn2 : (n:Int) ≤ 32 := by omega
  go_enter Try.func70, Try.ntmps70
  go_wp2
  go_loop [6, 7, 8, 9, 12] (fun l r _ _ i => ∃ (j : Nat) (L : Int) (R : Bool), j ≤ n ∧ lr c zs j = (L, R) ∧ l = .int .i64 L ∧ r = .bool R ∧ i = .int .i64 (j : Int)) (fun _ _ _ _ i => n - (intOf i).toNat)
  case atStart => exact ⟨0, 0, false, by omega, rfl, rfl, rfl, rfl⟩
  case round =>
    obtain ⟨j, L, R, hj, hlr, rfl, rfl, rfl⟩ := hrel
    have HLR := Lib.hid hlr
    clear hlr
    by_cases hlt : j < n
    · have hcj : w.cell? ⟨b, off + j, none⟩ = some (.int .i64 (zs.getD j 0)) := HCELL.out j (by rw [HNN.out]; exact hlt)
      have hstep : lr c zs (j + 1) = if fd c j ≠ 0 ∧ (R = false ∨ L < zs.getD j 0) then (zs.getD j 0, true) else (L, R) := by rw [lr, HLR.out]
      have hfd : fate c (j : Int) = ((fd c j : Nat) : Int) := by rw [fate, if_pos (by omega)]; rfl
      generalize zs.getD j 0 = z at *
      generalize fd c j = d at *
      have HST := Lib.hid hstep
      have HFD := Lib.hid hfd
      clear hstep hfd
      by_cases hd0 : d = 0
      · subst hd0
        go_wp2_with (go_at_call 44; refine (fate_of c _ 0 _ HC.out HFD.out).mono ?_; rintro e w1 ⟨rfl, rfl⟩)
        go_round
        case rel => exact ⟨j + 1, L, R, by omega, by rw [HST.out]; simp, rfl, rfl, by go_num⟩
        case measure => simp [intOf]; omega
      · have hne : ((d:Int) != 0) = true := by simp; omega
        have hne2 : ((d:Int) == 0) = false := by simp; omega
        cases R with
        | false =>
          go_wp2_with (go_at_call 44; refine (fate_of c _ d _ HC.out HFD.out).mono ?_; rintro e w1 ⟨rfl, rfl⟩)
          go_round
          case rel => exact ⟨j + 1, z, true, by omega, by rw [HST.out]; simp [hd0], rfl, rfl, by go_num⟩
          case measure => simp [intOf]; omega
        | true =>
          by_cases hL : L < z
          · go_wp2_with (go_at_call 44; refine (fate_of c _ d _ HC.out HFD.out).mono ?_; rintro e w1 ⟨rfl, rfl⟩)
            go_round
            case rel => exact ⟨j + 1, z, true, by omega, by rw [HST.out]; simp [hd0, hL], rfl, rfl, by go_num⟩
            case measure => simp [intOf]; omega
          · go_wp2_with (go_at_call 44; refine (fate_of c _ d _ HC.out HFD.out).mono ?_; rintro e w1 ⟨rfl, rfl⟩)
            go_round
            case rel => exact ⟨j + 1, L, true, by omega, by rw [HST.out]; simp; omega, rfl, rfl, by go_num⟩
            case measure => simp [intOf]; omega
    · obtain rfl : j = n := by omega
      go_wp2
      go_ret2
      exact ⟨by rw [HLR.out]; rfl, rfl⟩
theorem last_nil (c : Nat) (p : Option Addr) (cap : Nat) (w : World) :
    Calls Try.prog 70 #[.int .u64 (c : Int), .slice p 0 cap] w fun e w' => e = .returned (.tuple #[.int .i64 0, .bool false]) ∧ w = w' := by
  go_enter Try.func70, Try.ntmps70
  go_wp2
  go_loop [6, 7, 8, 9, 12] (fun l r _ _ i => l = .int .i64 0 ∧ r = .bool false ∧ i = .int .i64 0) (fun _ _ _ _ i => 0)
  case atStart => exact ⟨rfl, rfl, rfl⟩
  case round =>
    obtain ⟨rfl, rfl, rfl⟩ := hrel
    go_wp2
    go_ret2
    exact ⟨rfl, rfl⟩
end Go.Proofs.Ytpnepooobmbfbaa.cho
