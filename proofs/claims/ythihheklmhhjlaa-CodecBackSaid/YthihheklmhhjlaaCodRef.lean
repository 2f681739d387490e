/- What the reference's TakeUint gives. -/
import Derived.Test.YthihheklmhhjlaaCodText
namespace Go.Proofs.Ythihheklmhhjlaa.cod
open Go.ChangeShapes Go.WideShapes Go.ChangeAt Go.RowKit
open Go.Proofs.Ythihheklmhhjlaa.codMath
set_option linter.unusedVariables false

theorem Rd.cut {w : World} {b off c : Nat} {zs : List Int} (L : Nat) (h : Rd w (.slice (Option.some ⟨b, off, none⟩) zs.length c) zs) (h0 : 0 < zs.length) (hL : L ≤ zs.length) (hc : zs.length ≤ c) : Rd w (.slice (if c = L then Option.some ⟨b, off, none⟩ else Option.some ⟨b, off + L, none⟩) (zs.length - L) (c - L)) (zs.drop L) := by
  by_cases he : c = L
  · rw [if_pos he, he, Nat.sub_self]
    exact Rd.end_ (c := c) L (by omega)
  · rw [if_neg he]
    exact h.drop L h0 hL
theorem rtake_nil (p : Option Addr) (cap : Nat) (w : World) :
    Calls Try.prog 14 #[.slice p 0 cap] w fun e w' => e = .returned (.tuple #[.int .u64 0, .slice none 0 0, .bool false]) ∧ Below w.heap.size w w' := by
  go_enter Try.func14, Try.ntmps14
  go_wp2
  go_loop [5, 6] (fun nv iv => nv = .int .u64 0 ∧ iv = .int .i64 0) (fun _ iv => 0)
  case atStart => exact ⟨rfl, rfl⟩
  case round =>
    obtain ⟨rfl, rfl⟩ := hrel
    go_wp2
    go_ret3
    exact ⟨rfl, Below.refl _ _⟩
set_option maxHeartbeats 1600000 in
theorem rtake_no (zs : List Int) (b off cap : Nat) (w : World) (hd : NoDec zs) (hwf : ∀ i, 0 ≤ zs.getD i 0 ∧ zs.getD i 0 < 256) (hrd : Rd w (.slice (some ⟨b, off, none⟩) zs.length cap) zs) (hcell : ∀ i, i < zs.length → w.cell? ⟨b, off + i, none⟩ = some (.int .u8 (zs.getD i 0))) (hl : zs.length ≤ 100000) (hcap : zs.length ≤ cap) (hcap2 : cap ≤ 9223372036854775807) :
    Calls Try.prog 14 #[.slice (some ⟨b, off, none⟩) zs.length cap] w fun e w' => e = .returned (.tuple #[.int .u64 0, .slice none 0 0, .bool false]) ∧ Below w.heap.size w w' := by
  have HD := Lib.hid hd
  have HRD := Lib.hid hrd
  have HCELL := Lib.hid hcell
  have HWF := Lib.hid hwf
  obtain ⟨n, hnn⟩ : ∃ n, zs.length = n := ⟨_, rfl⟩
  have HNN := Lib.hid hnn
  rw [hnn] at hl hcap ⊢
  have hn2 : (n:Int) ≤ 100000 := by omega
  have hn3 : (n:Int) ≤ cap := by omega
  have hn4 : (cap:Int) ≤ 9223372036854775807 := by omega
  clear hnn hd hcell hl hwf hrd
  go_enter Try.func14, Try.ntmps14
  go_wp2
  go_loop [5, 6] (fun nv iv => ∃ (j N : Nat), j ≤ n ∧ j ≤ 10 ∧ N < 18446744073709551616 ∧ Hid (Hi (zs.take j)) ∧ nv = .int .u64 (N : Int) ∧ iv = .int .i64 (j : Int)) (fun _ iv => 10 - (intOf iv).toNat)
  case atStart => exact ⟨0, 0, by omega, by omega, by omega, Lib.hid (by simp [Hi]), rfl, rfl⟩
  case round =>
    obtain ⟨j, N, hj, hj2, hN, HI, rfl, rfl⟩ := hrel
    by_cases hin : j < n
    · by_cases hin2 : j < 10
      · have hjn : (j:Int) < n := by omega
        have hj9 : (j:Int) ≤ 9 := by omega
        have hcj : w.cell? ⟨b, off + j, none⟩ = some (.int .u8 (zs.getD j 0)) := HCELL.out j (by rw [HNN.out]; omega)
        have hx := HWF.out j
        have HNX := Lib.hid (fun h128 : 128 ≤ zs.getD j 0 => hi_next HI.out (by rw [HNN.out]; exact hin) h128 hx.2)
        generalize zs.getD j 0 = x at *
        obtain ⟨hx1, hx2⟩ := hx
        have hand := and_low x hx1 hx2
        obtain ⟨N', hN', hor⟩ := or_any N j (x % 128) hN (by omega)
        have HN' := Lib.hid hN'
        clear hN hN'
        by_cases h128 : 128 ≤ x
        · have h127 : 127 < x := by omega
          go_wp2
          go_round
          case rel => exact ⟨j + 1, N', by omega, by omega, HN'.out, Lib.hid (HNX.out h128), rfl, by go_num⟩
          case measure => simp [intOf]; omega
        · have h127 : x ≤ 127 := by omega
          have hne := nodec_str HD.out HWF.out N' (j + 1) HN'.out
          have hc1 : (j:Int) + 1 ≤ cap := by omega
          have hc2 : (0:Int) ≤ (j:Int) + 1 := by omega
          have hc3 : IntKind.i64.wrap ((j:Int) + 1) = (j:Int) + 1 := IntWalk.i64_in _ (by omega)
          have hrt := HRD.out.take (j + 1) (by rw [HNN.out]; omega)
          have HCV := Lib.hid hrt.conv
          have cv0 := HCV.out w.drew (Below.refl _ _).drew
          clear hrt
          go_wp2
          go_region_with (go_at_call 8; with_reducible refine (ruint_any _ _ _ [] N' _ HN'.out (rd_nil _) (by decide)).mono ?_; rintro e w2 ⟨p2, n2, c2, rfl, ho2, hb2⟩; have hb3 := below_drew hb2; have cv1 := HCV.out w2 hb3; rw [List.nil_append] at ho2; have cv2 := conv_rd ho2.rd; clear ho2)
          all_goals go_wp2
          all_goals go_ret3
          all_goals exact ⟨rfl, hb3⟩
      · go_wp2
        go_ret3
        exact ⟨rfl, Below.refl _ _⟩
    · go_wp2
      go_ret3
      exact ⟨rfl, Below.refl _ _⟩
set_option maxHeartbeats 1600000 in
theorem rtake_yes (zs t : List Int) (m b off cap : Nat) (w : World) (hd : Dec zs m t) (hrd : Rd w (.slice (some ⟨b, off, none⟩) zs.length cap) zs) (hcell : ∀ i, i < zs.length → w.cell? ⟨b, off + i, none⟩ = some (.int .u8 (zs.getD i 0))) (hl : zs.length ≤ 100000) (hcap : zs.length ≤ cap) (hcap2 : cap ≤ 9223372036854775807) :
    Calls Try.prog 14 #[.slice (some ⟨b, off, none⟩) zs.length cap] w fun e w' => ∃ p' n' c', e = .returned (.tuple #[.int .u64 (m : Int), .slice p' n' c', .bool true]) ∧ Own w' w.heap.size (.slice p' n' c') t ∧ Below w.heap.size w w' := by
  obtain ⟨p, z, h1, h2, h3, h4, h5, h6, h7, h8, h9⟩ := dec_form hd
  obtain ⟨d1, d2, d3⟩ := dec_pos hd
  have HMB := Lib.hid hd.1
  have HCELL := Lib.hid hcell
  have H1 := Lib.hid h1
  have H2 := Lib.hid h2
  have H3 := Lib.hid h3
  have H7 := Lib.hid h7
  have HRD := Lib.hid hrd
  have HPL : Hid (p.length < zs.length) := Lib.hid (by rw [h2]; simp)
  have hpl : p.length < zs.length := HPL.out
  have HUL : Hid ((ue m).length = p.length + 1) := Lib.hid (by rw [h1]; simp)
  have HUT : Hid (zs.take (p.length + 1) = ue m) := Lib.hid (by rw [h1, h2]; simp [List.take_append, List.take_of_length_le])
  have HT : Hid (t = zs.drop (p.length + 1)) := Lib.hid (by rw [← HUL.out]; exact d3)
  have hrt := hrd.take (p.length + 1) (by omega)
  rw [HUT.out] at hrt
  have HCV := Lib.hid hrt.conv
  have HR2 := Lib.hid (hrd.cut (p.length + 1) d1 (by omega) hcap)
  have HLD : Hid ((zs.drop (p.length + 1)).length ≤ 100000) := Lib.hid (by rw [List.length_drop]; omega)
  obtain ⟨q, hq⟩ : ∃ q, p.length = q := ⟨_, rfl⟩
  have HQ := Lib.hid hq
  rw [hq] at h8 h9 hpl HUL HT HR2 HLD HUT
  have hq2 : ∃ hcv : True, True := ⟨trivial, trivial⟩
  rw [hq] at HCV
  obtain ⟨n, hnn⟩ : ∃ n, zs.length = n := ⟨_, rfl⟩
  have HNN := Lib.hid hnn
  rw [hnn] at hl hpl hcap HR2 ⊢
  have hn2 : (n:Int) ≤ 100000 := by omega
  have hn3 : (q:Int) < n := by omega
  have hn4 : (n:Int) ≤ cap := by omega
  have hn5 : (cap:Int) ≤ 9223372036854775807 := by omega
  clear hnn hq hd hcell h1 h2 h3 h7 hl hrd hrt d1 d2 d3 hq2
  go_enter Try.func14, Try.ntmps14
  go_wp2
  go_loop [5, 6] (fun nv iv => ∃ (j : Nat), j ≤ q ∧ nv = .int .u64 (vl (zs.take j) : Int) ∧ iv = .int .i64 (j : Int)) (fun _ iv => q - (intOf iv).toNat)
  case atStart => exact ⟨0, Nat.zero_le _, by simp [vl], rfl⟩
  case round =>
    obtain ⟨j, hj, rfl, rfl⟩ := hrel
    have hj9 : (j:Int) ≤ 9 := by omega
    have hj10 : j < 10 := by omega
    have hjn : (j:Int) < n := by omega
    have hcj : w.cell? ⟨b, off + j, none⟩ = some (.int .u8 (zs.getD j 0)) := HCELL.out j (by rw [HNN.out]; omega)
    have hjz : j < zs.length := by rw [HNN.out]; omega
    have HV := Lib.hid (vl_take zs j hjz)
    have HVL := Lib.hid (vl_take_lt zs j (Nat.le_of_lt hjz))
    clear hjz
    by_cases hlt : j < q
    · have hz := hi_at H2.out H3.out (by rw [HQ.out]; exact hlt)
      generalize zs.getD j 0 = x at *
      obtain ⟨hx1, hx2⟩ := hz
      have hand := and_low x (by omega) (by omega)
      obtain ⟨N, hN⟩ : ∃ N, vl (zs.take j) = N := ⟨_, rfl⟩
      rw [hN] at HV HVL ⊢
      clear hN
      have hor := or_step' N j x HVL.out (by omega) (by omega) (by omega)
      obtain ⟨N', hN'⟩ : ∃ N', N + 128^j * (x % 128).toNat = N' := ⟨_, rfl⟩
      rw [hN'] at hor HV
      clear hN'
      have h127 : 127 < x := by omega
      go_wp2
      go_round
      case rel => exact ⟨j + 1, by omega, by rw [HV.out], by go_num⟩
      case measure => simp [intOf]; omega
    · have hjq : q = j := by omega
      subst hjq
      have hz := low_at H2.out HQ.out
      have hx1 : 0 ≤ zs.getD q 0 := by rw [hz]; exact h4
      have hx2 : zs.getD q 0 ≤ 127 := by rw [hz]; omega
      have hx4 : q = 9 → zs.getD q 0 ≤ 1 := by rw [hz]; exact h9
      have HM : Hid (vl (zs.take q) + 128^q * (zs.getD q 0 % 128).toNat = m) := Lib.hid (by
        rw [hz, ← H7.out, HQ.out, H2.out, ← HQ.out]; rw [show z % 128 = z by omega]; simp)
      clear hz h4 h5 h6 h9
      generalize zs.getD q 0 = x at *
      have hand := and_low x (by omega) (by omega)
      obtain ⟨N, hN⟩ : ∃ N, vl (zs.take q) = N := ⟨_, rfl⟩
      rw [hN] at HV HVL HM ⊢
      clear hN
      have hor := or_step' N q x HVL.out (by omega) (by omega) (by omega)
      rw [HM.out] at hor
      have hc1 : (q:Int) + 1 ≤ cap := by omega
      have hc2 : (0:Int) ≤ (q:Int) + 1 := by omega
      have hc3 : IntKind.i64.wrap ((q:Int) + 1) = (q:Int) + 1 := IntWalk.i64_in _ (by omega)
      have cv0 := HCV.out w.drew (Below.refl _ _).drew
      go_wp2
      go_region_with (go_at_call 8; with_reducible refine (ruint_any _ _ _ [] m _ HMB.out (rd_nil _) (by decide)).mono ?_; rintro e w2 ⟨p2, n2, c2, rfl, ho2, hb2⟩; have hb3 := below_drew hb2; have cv1 := HCV.out w2 hb3; rw [List.nil_append] at ho2; have cv2 := conv_rd ho2.rd; clear ho2)
      all_goals go_wp2_with (at_builtin; refine ap_rd rfl (.tmp 43) (.tmp 47) rfl w.heap.size _ [] (zs.drop (q + 1)) rfl (own_made w2 hb3.size) _ rfl (HR2.out.later (below_alloc hb3 _)) (by have := HLD.out; simp only [List.length_nil]; omega) (by have := hb3.size; simp; omega) ?_; intro p4 n4 c4 w4 hnn ho4 hb4; clear hnn; rw [List.nil_append, ← HT.out] at ho4; have HO4 := Lib.hid ho4; clear ho4)
      all_goals go_ret3
      all_goals exact ⟨_, _, _, rfl, HO4.out, below_trans' (below_alloc hb3 _) hb4 (Nat.le_refl _)⟩
end Go.Proofs.Ythihheklmhhjlaa.cod
