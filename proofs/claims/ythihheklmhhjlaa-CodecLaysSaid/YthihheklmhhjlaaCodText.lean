/- What TakeText of the code gives where there is a text. -/
import Derived.Test.YthihheklmhhjlaaCodTake
namespace Go.Proofs.Ythihheklmhhjlaa.cod
open Go.ChangeShapes Go.WideShapes Go.ChangeAt Go.RowKit
open Go.Proofs.Ythihheklmhhjlaa.codMath
set_option linter.unusedVariables false

theorem Rd.conv {w : World} {v : Value} {xs : List Int} (h : Rd w v xs) : ∀ w', Below w.heap.size w w' → (convert 22 9 v).run Try.prog w' = .ok (.string (strOfNums xs)) w' := fun w' hb => conv_rd (h.later hb)
theorem below_drew {w w2 : World} (h : Below w.drew.heap.size w.drew w2) : Below w.heap.size w w2 := (Below.refl w.heap.size w).drew.trans (c := w2) h
theorem taket_end (p : Option Addr) (n c : Nat) (zs t : List Int) (m : Nat) (most : Int) (w : World) (hd : Dec zs m t) (hm : 0 ≤ most) (hm2 : (m:Int) ≤ most) (hwf : (Lit.int .i64 most).wf = true) (ht : m ≤ t.length) (hrd : Rd w (.slice p n c) zs) (hl : zs.length ≤ 100000) (hcL : c = (ue m).length) :
    Calls Try.prog 17 #[.slice p n c, .int .i64 most] w fun e w' => ∃ p' n' c', e = .returned (.tuple #[.string (strOfNums (t.take m)), .slice p' n' c', .bool true]) ∧ Rd w' (.slice p' n' c') (t.drop m) ∧ Below w.heap.size w w' := by
  obtain ⟨d1, d2, d3⟩ := dec_pos hd
  have hx := wf_i64 hwf
  obtain ⟨b, off, rfl, rfl, hc, hc2, hb, hcell⟩ := hrd.some d1
  have HF := Lib.hid (first_yes zs t m b off c w hd hcell hl)
  have hlp := ue_pos m
  have h0 : t = [] := by rw [d3]; exact List.drop_eq_nil_of_le (by omega)
  subst h0
  obtain rfl : m = 0 := by simp at ht; exact ht
  generalize (ue 0).length = L at *
  generalize zs.length = n at *
  subst hcL
  obtain rfl : n = c := by omega
  have k3 : (n:Int) ≤ 9223372036854775807 := by omega
  have k4 : (1:Int) ≤ n := by omega
  have k5 : ((n:Int) == 0) = false := by simp; omega
  have k6 : decide (most < 0) = false := by simp; omega
  have HCV := Lib.hid (Rd.conv (show Rd w (.slice (some ⟨b, off, none⟩) 0 0) [] from Or.inl ⟨_, 0, rfl, rfl, fun h => by cases h⟩))
  have HRE := Lib.hid (fun w' => show Rd w' (.slice (some ⟨b, off, none⟩) 0 0) [] from Or.inl ⟨_, 0, rfl, rfl, fun h => by cases h⟩)
  have cv0 := HCV.out w.drew (Below.refl _ _).drew
  clear hd hrd hcell d3
  go_enter Try.func17, Try.ntmps17
  go_wp2_with (go_at_call 20; refine HF.out.mono ?_; rintro e w1 ⟨rfl, rfl⟩)
  go_region_with (go_at_call 21; with_reducible refine (clone_any _ _ _ [] _ (HRE.out _) (by decide)).mono ?_; rintro e w2 ⟨p2, n2, c2, rfl, ho2, hb2⟩; have HO2 := Lib.hid ho2; clear ho2; have hb3 := below_drew hb2; have cv1 := HCV.out w2 hb3)
  all_goals go_wp2
  all_goals go_ret3
  all_goals exact ⟨_, _, _, rfl, HO2.out.rd, hb3⟩
theorem taket_mid (p : Option Addr) (n c : Nat) (zs t : List Int) (m : Nat) (most : Int) (w : World) (hd : Dec zs m t) (hm : 0 ≤ most) (hm2 : (m:Int) ≤ most) (hwf : (Lit.int .i64 most).wf = true) (ht : m ≤ t.length) (hrd : Rd w (.slice p n c) zs) (hl : zs.length ≤ 100000) (hcL : (ue m).length < c) (hcm : m < c - (ue m).length) :
    Calls Try.prog 17 #[.slice p n c, .int .i64 most] w fun e w' => ∃ p' n' c', e = .returned (.tuple #[.string (strOfNums (t.take m)), .slice p' n' c', .bool true]) ∧ Rd w' (.slice p' n' c') (t.drop m) ∧ Below w.heap.size w w' := by
  obtain ⟨d1, d2, d3⟩ := dec_pos hd
  have hx := wf_i64 hwf
  obtain ⟨b, off, rfl, rfl, hc, hc2, hb, hcell⟩ := hrd.some d1
  have HF := Lib.hid (first_yes zs t m b off c w hd hcell hl)
  have hlp := ue_pos m
  have hr2 := hrd.drop _ d1 d2
  rw [← d3] at hr2
  have htl : t.length = zs.length - (ue m).length := by rw [d3, List.length_drop]
  generalize (ue m).length = L at *
  generalize zs.length = n at *
  rw [← htl] at hr2
  have hr3 := hr2.take m ht
  have hr4 : Rd w (.slice (some ⟨b, off + L + m, none⟩) (n - L - m) (c - L - m)) (t.drop m) := by
    by_cases h0 : t.length = 0
    · have ht0 : t = [] := List.eq_nil_of_length_eq_zero h0
      subst ht0
      exact Or.inl ⟨_, _, by rw [show n - L - m = 0 by simp at htl; omega], by simp, fun h => by cases h⟩
    · have := hr2.drop m (by omega) ht
      rw [htl] at this
      exact this
  have HCV := Lib.hid hr3.conv
  have HRE := Lib.hid (fun w' (hb : Below w.heap.size w w') => hr4.later hb)
  have HTL : Hid ((t.drop m).length ≤ 100000) := Lib.hid (by rw [List.length_drop]; omega)
  have cv0 := HCV.out w.drew (Below.refl _ _).drew
  have k1 : (L:Int) ≤ n := by omega
  have k2 : (n:Int) ≤ c := by omega
  have k3 : (c:Int) ≤ 9223372036854775807 := by omega
  have k4 : (1:Int) ≤ L := by omega
  have k5 : ((L:Int) == 0) = false := by simp; omega
  have k6 : decide (most < 0) = false := by simp; omega
  have k7 : decide (most < m) = false := by simp; omega
  have k8 : (m:Int) ≤ n - L := by omega
  have k9 : (m:Int) ≤ ((n - L : Nat):Int) := by omega
  have k10 : (m:Int) < ((c - L : Nat):Int) := by omega
  have k11 : c ≠ L := by omega
  clear hd hrd hcell d3 hr2 hr3 hr4 htl ht hcL hcm hl
  go_enter Try.func17, Try.ntmps17
  go_wp2_with (go_at_call 20; refine HF.out.mono ?_; rintro e w1 ⟨rfl, rfl⟩)
  go_region_with (go_at_call 21; with_reducible refine (clone_any _ _ _ _ _ (HRE.out _ (Below.refl _ _).drew) HTL.out).mono ?_; rintro e w2 ⟨p2, n2, c2, rfl, ho2, hb2⟩; have HO2 := Lib.hid ho2; clear ho2; have hb3 := below_drew hb2; have cv1 := HCV.out w2 hb3)
  all_goals go_wp2
  all_goals go_ret3
  all_goals exact ⟨_, _, _, rfl, HO2.out.rd, hb3⟩
theorem taket_full (p : Option Addr) (n c : Nat) (zs t : List Int) (m : Nat) (most : Int) (w : World) (hd : Dec zs m t) (hm : 0 ≤ most) (hm2 : (m:Int) ≤ most) (hwf : (Lit.int .i64 most).wf = true) (ht : m ≤ t.length) (hrd : Rd w (.slice p n c) zs) (hl : zs.length ≤ 100000) (hcL : (ue m).length < c) (hcm : c - (ue m).length ≤ m) :
    Calls Try.prog 17 #[.slice p n c, .int .i64 most] w fun e w' => ∃ p' n' c', e = .returned (.tuple #[.string (strOfNums (t.take m)), .slice p' n' c', .bool true]) ∧ Rd w' (.slice p' n' c') (t.drop m) ∧ Below w.heap.size w w' := by
  obtain ⟨d1, d2, d3⟩ := dec_pos hd
  have hx := wf_i64 hwf
  obtain ⟨b, off, rfl, rfl, hc, hc2, hb, hcell⟩ := hrd.some d1
  have HF := Lib.hid (first_yes zs t m b off c w hd hcell hl)
  have hlp := ue_pos m
  have hr2 := hrd.drop _ d1 d2
  rw [← d3] at hr2
  have htl : t.length = zs.length - (ue m).length := by rw [d3, List.length_drop]
  generalize (ue m).length = L at *
  generalize zs.length = n at *
  rw [← htl] at hr2
  have hr3 := hr2.take m ht
  have hmt : t.length = m := by omega
  obtain rfl : c = L + m := by omega
  obtain rfl : n = L + m := by omega
  have hdr : t.drop m = [] := List.drop_eq_nil_of_le (by omega)
  rw [hdr]
  rw [Nat.add_sub_cancel_left] at hr3
  have HCV := Lib.hid hr3.conv
  have HRE := Lib.hid (fun w' => show Rd w' (.slice (some ⟨b, off + L, none⟩) 0 0) [] from Or.inl ⟨_, 0, rfl, rfl, fun h => by cases h⟩)
  have cv0 := HCV.out w.drew (Below.refl _ _).drew
  have e1 : L + m - L = m := Nat.add_sub_cancel_left ..
  have k3 : (L:Int) + m ≤ 9223372036854775807 := by omega
  have k4 : (1:Int) ≤ L := by omega
  have k5 : ((L:Int) == 0) = false := by simp; omega
  have k6 : decide (most < 0) = false := by simp; omega
  have k7 : decide (most < m) = false := by simp; omega
  have k11 : 0 < m := by omega
  have k12 : (0:Int) < m := by omega
  clear hd hrd hcell d3 hr2 hr3 htl ht hcL hcm hl hmt hdr d1 d2 hc hc2
  go_enter Try.func17, Try.ntmps17
  go_wp2_with (go_at_call 20; refine HF.out.mono ?_; rintro e w1 ⟨rfl, rfl⟩)
  go_region_with (go_at_call 21; with_reducible refine (clone_any _ _ _ [] _ (HRE.out _) (by decide)).mono ?_; rintro e w2 ⟨p2, n2, c2, rfl, ho2, hb2⟩; have HO2 := Lib.hid ho2; clear ho2; have hb3 := below_drew hb2; have cv1 := HCV.out w2 hb3)
  all_goals go_wp2
  all_goals go_ret3
  all_goals exact ⟨_, _, _, rfl, HO2.out.rd, hb3⟩
theorem taket_yes (p : Option Addr) (n c : Nat) (zs t : List Int) (m : Nat) (most : Int) (w : World) (hd : Dec zs m t) (hm : 0 ≤ most) (hm2 : (m:Int) ≤ most) (hwf : (Lit.int .i64 most).wf = true) (ht : m ≤ t.length) (hrd : Rd w (.slice p n c) zs) (hl : zs.length ≤ 100000) :
    Calls Try.prog 17 #[.slice p n c, .int .i64 most] w fun e w' => ∃ p' n' c', e = .returned (.tuple #[.string (strOfNums (t.take m)), .slice p' n' c', .bool true]) ∧ Rd w' (.slice p' n' c') (t.drop m) ∧ Below w.heap.size w w' := by
  obtain ⟨d1, d2, d3⟩ := dec_pos hd
  obtain ⟨b, off, rfl, hn, hc, hc2, hb, hcell⟩ := hrd.some d1
  by_cases h1 : c = (ue m).length
  · exact taket_end _ _ _ zs t m most w hd hm hm2 hwf ht hrd hl h1
  · by_cases h2 : m < c - (ue m).length
    · exact taket_mid _ _ _ zs t m most w hd hm hm2 hwf ht hrd hl (by omega) h2
    · exact taket_full _ _ _ zs t m most w hd hm hm2 hwf ht hrd hl (by omega) (by omega)
end Go.Proofs.Ythihheklmhhjlaa.cod
