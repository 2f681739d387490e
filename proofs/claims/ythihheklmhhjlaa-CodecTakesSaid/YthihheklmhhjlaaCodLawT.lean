/- The walk of CodecTakes. -/
import Derived.Test.YthihheklmhhjlaaCodLaws
namespace Go.Proofs.Ythihheklmhhjlaa.cod
open Go.ChangeShapes Go.WideShapes Go.ChangeAt Go.RowKit
open Go.Proofs.Ythihheklmhhjlaa.codMath
set_option linter.unusedVariables false

set_option maxHeartbeats 800000 in
theorem walkCodecTakes (p : Option Addr) (len cap : Nat) (zs : List Int) (most : Int) (wm : (Lit.int .i64 most).wf = true) (w : World) (hrd : Rd w (.slice p len cap) zs) (hlen : len ≤ maxLen) (hwf : ∀ i, 0 ≤ zs.getD i 0 ∧ zs.getD i 0 < 256) :
    Calls Try.prog 4 #[.slice p len cap, .int .i64 most] w fun e w' => e = .returned (.bool true) ∧ Below w.heap.size w w' := by
  have hl2 : len ≤ 9223372036854775807 := hlen
  by_cases h1 : 500 < len
  · have h1' : decide (500 < (len:Int)) = true := by simp; omega
    clear hrd hwf
    go_enter Try.func4, Try.ntmps4
    go_wp2_with (go_at_call 6; refine (knows_any _).mono ?_; rintro e w' ⟨rfl, hb⟩)
    go_ret
    exact ⟨rfl, hb⟩
  · have h1' : decide (500 < (len:Int)) = false := by simp; omega
    have hlz := hrd.len
    have hz : zs.length ≤ 100000 := by omega
    obtain ⟨N1, x1, k1, hu1, hu2⟩ := takes_u zs hwf hz
    obtain ⟨N2, x2, k2, hi1, hi2⟩ := takes_i zs hwf hz
    obtain ⟨N3, x3, k3, ht1, ht2⟩ := takes_t zs most wm hwf hz
    have HR := Lib.hid hrd
    have HU1 := Lib.hid hu1
    have HU2 := Lib.hid hu2
    have HI1 := Lib.hid hi1
    have HI2 := Lib.hid hi2
    have HT1 := Lib.hid ht1
    have HT2 := Lib.hid ht2
    clear hrd hwf hu1 hu2 hi1 hi2 ht1 ht2 hlz hz h1
    go_enter Try.func4, Try.ntmps4
    go_wp2_with (first
      | (go_at_call 13; refine (HU1.out _ _ _ _ HR.out).mono ?_; rintro e w1 ⟨p1, n1, c1, rfl, hr1, hb1⟩; have HR1 := Lib.hid hr1; clear hr1)
      | (go_at_call 14; refine (HU2.out _ _ _ _ (HR.out.later hb1)).mono ?_; rintro e w2 ⟨p2, n2, c2, rfl, hr2, hb2⟩; have HR2 := Lib.hid hr2; clear hr2; have hbw2 := below_trans hb1 hb2)
      | (go_at_call 15; refine (HI1.out _ _ _ _ (HR.out.later hbw2)).mono ?_; rintro e w3 ⟨p3, n3, c3, rfl, hr3, hb3⟩; have HR3 := Lib.hid hr3; clear hr3; have hbw3 := below_trans hbw2 hb3)
      | (go_at_call 16; refine (HI2.out _ _ _ _ (HR.out.later hbw3)).mono ?_; rintro e w4 ⟨p4, n4, c4, rfl, hr4, hb4⟩; have HR4 := Lib.hid hr4; clear hr4; have hbw4 := below_trans hbw3 hb4)
      | (go_at_call 17; refine (HT1.out _ _ _ _ (HR.out.later hbw4)).mono ?_; rintro e w5 ⟨p5, n5, c5, rfl, hr5, hb5⟩; have HR5 := Lib.hid hr5; clear hr5; have hbw5 := below_trans hbw4 hb5)
      | (go_at_call 18; refine (HT2.out _ _ _ _ (HR.out.later hbw5)).mono ?_; rintro e w6 ⟨p6, n6, c6, rfl, hr6, hb6⟩; have hbw6 := below_trans hbw5 hb6; have cv6 := conv_rd hr6; have cv5 := conv_rd (HR5.out.later hb6); have cv4 := conv_rd (HR4.out.later (below_trans hb5 hb6)); have cv3 := conv_rd (HR3.out.later (below_trans (below_trans hb4 hb5) hb6)); have cv2 := conv_rd (HR2.out.later (below_trans (below_trans (below_trans hb3 hb4) hb5) hb6)); have cv1 := conv_rd (HR1.out.later (below_trans (below_trans (below_trans (below_trans hb2 hb3) hb4) hb5) hb6)); clear hr6)
      | (go_at_call 6; refine (knows_any _).mono ?_; rintro e w7 ⟨rfl, hb7⟩))
    go_ret
    exact ⟨rfl, below_trans hbw6 hb7⟩
end Go.Proofs.Ythihheklmhhjlaa.cod
