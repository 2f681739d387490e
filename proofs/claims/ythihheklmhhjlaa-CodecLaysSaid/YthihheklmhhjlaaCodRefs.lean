/- What the reference's TakeInt and TakeText give. -/
import Derived.Test.YthihheklmhhjlaaCodRef
namespace Go.Proofs.Ythihheklmhhjlaa.cod
open Go.ChangeShapes Go.WideShapes Go.ChangeAt Go.RowKit
open Go.Proofs.Ythihheklmhhjlaa.codMath
set_option linter.unusedVariables false

theorem rtake_off (p : Option Addr) (n c : Nat) (zs : List Int) (w : World) (hd : NoDec zs) (hwf : ∀ i, 0 ≤ zs.getD i 0 ∧ zs.getD i 0 < 256) (hrd : Rd w (.slice p n c) zs) (hl : zs.length ≤ 100000) :
    Calls Try.prog 14 #[.slice p n c] w fun e w' => e = .returned (.tuple #[.int .u64 0, .slice none 0 0, .bool false]) ∧ Below w.heap.size w w' := by
  by_cases h0 : 0 < zs.length
  · obtain ⟨b, off, rfl, rfl, hc, hc2, hb, hcell⟩ := hrd.some h0
    exact rtake_no zs b off c w hd hwf hrd hcell hl hc hc2
  · have hn := hrd.len
    obtain rfl : n = 0 := by omega
    exact rtake_nil p c w
theorem rtake_on (p : Option Addr) (n c : Nat) (zs t : List Int) (m : Nat) (w : World) (hd : Dec zs m t) (hrd : Rd w (.slice p n c) zs) (hl : zs.length ≤ 100000) :
    Calls Try.prog 14 #[.slice p n c] w fun e w' => ∃ p' n' c', e = .returned (.tuple #[.int .u64 (m : Int), .slice p' n' c', .bool true]) ∧ Own w' w.heap.size (.slice p' n' c') t ∧ Below w.heap.size w w' := by
  obtain ⟨d1, d2, d3⟩ := dec_pos hd
  obtain ⟨b, off, rfl, rfl, hc, hc2, hb, hcell⟩ := hrd.some d1
  exact rtake_yes zs t m b off c w hd hrd hcell hl hc hc2
theorem rtakei_no (p : Option Addr) (n c : Nat) (zs : List Int) (w : World) (hd : NoDec zs) (hwf : ∀ i, 0 ≤ zs.getD i 0 ∧ zs.getD i 0 < 256) (hrd : Rd w (.slice p n c) zs) (hl : zs.length ≤ 100000) :
    Calls Try.prog 16 #[.slice p n c] w fun e w' => e = .returned (.tuple #[.int .i64 0, .slice none 0 0, .bool false]) ∧ Below w.heap.size w w' := by
  have HF := Lib.hid (rtake_off p n c zs w hd hwf hrd hl)
  clear hd hwf hrd hl
  go_enter Try.func16, Try.ntmps16
  go_wp2_with (go_at_call 14; refine HF.out.mono ?_; rintro e w1 ⟨rfl, hb1⟩)
  go_ret3
  exact ⟨rfl, hb1⟩
theorem rtakei_yes (p : Option Addr) (n c : Nat) (zs t : List Int) (m : Nat) (w : World) (hd : Dec zs m t) (hrd : Rd w (.slice p n c) zs) (hl : zs.length ≤ 100000) :
    Calls Try.prog 16 #[.slice p n c] w fun e w' => ∃ p' n' c', e = .returned (.tuple #[.int .i64 (uf m), .slice p' n' c', .bool true]) ∧ Rd w' (.slice p' n' c') t ∧ Below w.heap.size w w' := by
  have HF := Lib.hid (rtake_on p n c zs t m w hd hrd hl)
  have hm2 : (m:Int) ≤ 18446744073709551615 := by have := hd.1; omega
  clear hd hrd hl
  by_cases h0 : m % 2 = 1
  · have h1 : ((m:Int) % 2 == 1) = true := by simp; omega
    have HU : Hid (uf m = -((m:Int) / 2) - 1) := Lib.hid (by simp only [uf, if_pos h0]; omega)
    clear h0
    go_enter Try.func16, Try.ntmps16
    go_wp2_with (go_at_call 14; refine HF.out.mono ?_; rintro e w1 ⟨p1, n1, c1, rfl, ho1, hb1⟩; have HO1 := Lib.hid ho1; clear ho1)
    go_ret3
    exact ⟨p1, n1, c1, by rw [HU.out]; rfl, HO1.out.rd, hb1⟩
  · have h1 : ((m:Int) % 2 == 1) = false := by simp; omega
    have HU : Hid (uf m = (m:Int) / 2) := Lib.hid (by simp only [uf, if_neg h0]; omega)
    clear h0
    go_enter Try.func16, Try.ntmps16
    go_wp2_with (go_at_call 14; refine HF.out.mono ?_; rintro e w1 ⟨p1, n1, c1, rfl, ho1, hb1⟩; have HO1 := Lib.hid ho1; clear ho1)
    go_ret3
    exact ⟨p1, n1, c1, by rw [HU.out]; rfl, HO1.out.rd, hb1⟩
theorem rtaket_no (p : Option Addr) (n c : Nat) (zs : List Int) (most : Int) (w : World) (hd : NoDec zs) (hwf : ∀ i, 0 ≤ zs.getD i 0 ∧ zs.getD i 0 < 256) (hrd : Rd w (.slice p n c) zs) (hl : zs.length ≤ 100000) :
    Calls Try.prog 18 #[.slice p n c, .int .i64 most] w fun e w' => e = .returned (.tuple #[.string ByteArray.empty, .slice none 0 0, .bool false]) ∧ Below w.heap.size w w' := by
  have HF := Lib.hid (rtake_off p n c zs w hd hwf hrd hl)
  clear hd hwf hrd hl
  go_enter Try.func18, Try.ntmps18
  go_wp2_with (go_at_call 14; refine HF.out.mono ?_; rintro e w1 ⟨rfl, hb1⟩)
  go_ret3
  exact ⟨rfl, hb1⟩
theorem rtaket_most (p : Option Addr) (n c : Nat) (zs t : List Int) (m : Nat) (most : Int) (w : World) (hd : Dec zs m t) (hm : most < 0 ∨ (0 ≤ most ∧ most < m)) (hwf : (Lit.int .i64 most).wf = true) (hrd : Rd w (.slice p n c) zs) (hl : zs.length ≤ 100000) :
    Calls Try.prog 18 #[.slice p n c, .int .i64 most] w fun e w' => e = .returned (.tuple #[.string ByteArray.empty, .slice none 0 0, .bool false]) ∧ Below w.heap.size w w' := by
  have hx := wf_i64 hwf
  have HF := Lib.hid (rtake_on p n c zs t m w hd hrd hl)
  clear hd hrd hl
  rcases hm with hm | ⟨hm, hm2⟩
  · go_enter Try.func18, Try.ntmps18
    go_wp2_with (go_at_call 14; refine HF.out.mono ?_; rintro e w1 ⟨p1, n1, c1, rfl, ho1, hb1⟩; have HO1 := Lib.hid ho1; clear ho1)
    go_ret3
    exact ⟨rfl, hb1⟩
  · go_enter Try.func18, Try.ntmps18
    go_wp2_with (go_at_call 14; refine HF.out.mono ?_; rintro e w1 ⟨p1, n1, c1, rfl, ho1, hb1⟩; have HO1 := Lib.hid ho1; clear ho1)
    go_ret3
    exact ⟨rfl, hb1⟩
theorem rtaket_short (p : Option Addr) (n c : Nat) (zs t : List Int) (m : Nat) (most : Int) (w : World) (hd : Dec zs m t) (hm : 0 ≤ most) (hm2 : (m:Int) ≤ most) (hwf : (Lit.int .i64 most).wf = true) (ht : t.length < m) (hrd : Rd w (.slice p n c) zs) (hl : zs.length ≤ 100000) :
    Calls Try.prog 18 #[.slice p n c, .int .i64 most] w fun e w' => e = .returned (.tuple #[.string ByteArray.empty, .slice none 0 0, .bool false]) ∧ Below w.heap.size w w' := by
  have hx := wf_i64 hwf
  have HF := Lib.hid (rtake_on p n c zs t m w hd hrd hl)
  have k5 : ((t.length:Nat):Int) < m := by omega
  clear hd hrd hl
  go_enter Try.func18, Try.ntmps18
  go_wp2_with (go_at_call 14; refine HF.out.mono ?_; rintro e w1 ⟨p1, n1, c1, rfl, ho1, hb1⟩; obtain rfl := ho1.rd.len; have HO1 := Lib.hid ho1; clear ho1)
  go_ret3
  exact ⟨rfl, hb1⟩
theorem rtaket_yes (p : Option Addr) (n c : Nat) (zs t : List Int) (m : Nat) (most : Int) (w : World) (hd : Dec zs m t) (hm : 0 ≤ most) (hm2 : (m:Int) ≤ most) (hwf : (Lit.int .i64 most).wf = true) (ht : m ≤ t.length) (hrd : Rd w (.slice p n c) zs) (hl : zs.length ≤ 100000) :
    Calls Try.prog 18 #[.slice p n c, .int .i64 most] w fun e w' => ∃ p' n' c', e = .returned (.tuple #[.string (strOfNums (t.take m)), .slice p' n' c', .bool true]) ∧ Rd w' (.slice p' n' c') (t.drop m) ∧ Below w.heap.size w w' := by
  have hx := wf_i64 hwf
  have HF := Lib.hid (rtake_on p n c zs t m w hd hrd hl)
  have k6 : decide (most < 0) = false := by simp; omega
  have k7 : decide (most < m) = false := by simp; omega
  have k8 : (m:Int) ≤ ((t.length:Nat):Int) := by omega
  clear hd hrd hl
  go_enter Try.func18, Try.ntmps18
  go_wp2_with fail
  refine HF.out.mono ?_
  rintro e w1 ⟨p1, n1, c1, rfl, ho1, hb1⟩
  obtain rfl := ho1.rd.len
  rcases ho1.2 with ⟨h1, h2⟩ | ⟨g, cap, cur, h1, h2, h3, h4, h5, h6, h7⟩
  · have h0 : t = [] := List.eq_nil_of_length_eq_zero h2
    subst h0
    obtain rfl : m = 0 := by simp at ht; exact ht
    simp only [Value.slice.injEq] at h1
    obtain ⟨rfl, _, rfl⟩ := h1
    have cv0 := conv_rd (rd_nil w1)
    have cv1 := conv_rd (rd_nil w1.drew)
    go_wp2_with fail
    go_region
    go_wp2_with fail
    go_ret3
    exact ⟨_, _, _, rfl, by simpa using rd_nil _, hb1.drew⟩
  · simp only [Value.slice.injEq] at h1
    obtain ⟨rfl, _, rfl⟩ := h1
    have hrd := ho1.rd
    have HCV := Lib.hid (hrd.take m ht).conv
    have HR2 : Hid (Rd w1 (.slice (if c1 = m then some ⟨g, 0, none⟩ else some ⟨g, m, none⟩) (t.length - m) (c1 - m)) (t.drop m)) := Lib.hid (by
      by_cases h0 : 0 < t.length
      · have := hrd.cut m h0 ht h4
        rw [Nat.zero_add] at this
        exact this
      · have ht0 : t = [] := List.eq_nil_of_length_eq_zero (by omega)
        subst ht0
        refine Or.inl ⟨(if c1 = m then some ⟨g, 0, none⟩ else some ⟨g, m, none⟩), c1 - m, by simp, by simp, ?_⟩
        split <;> (intro h; cases h))
    have HRA : Hid (¬ c1 = m → Rd w1 (.slice (some ⟨g, m, none⟩) (t.length - m) (c1 - m)) (t.drop m)) := Lib.hid fun h => by have := HR2.out; rwa [if_neg h] at this
    have HRB : Hid (c1 = m → Rd w1 (.slice (some ⟨g, 0, none⟩) (t.length - m) 0) (t.drop m)) := Lib.hid fun h => by have := HR2.out; rw [if_pos h, Nat.sub_eq_zero_of_le (Nat.le_of_eq h)] at this; exact this
    have k9 : (m:Int) ≤ c1 := by omega
    have k10 : (c1:Int) ≤ 9223372036854775807 := by unfold maxLen at h5; omega
    clear ho1 h2 h3 h5 h6 h7 hrd
    have cv0 := HCV.out w1 (Below.refl _ _)
    have cv1 := HCV.out w1.drew (Below.refl _ _).drew
    go_wp2_with fail
    go_region
    go_wp2_with fail
    go_ret3
    · exact ⟨_, _, _, rfl, (HRB.out (by assumption)).later (Below.refl _ _).drew, hb1.drew⟩
    · go_ret3
      exact ⟨_, _, _, rfl, (HRA.out (by assumption)).later (Below.refl _ _).drew, hb1.drew⟩
end Go.Proofs.Ythihheklmhhjlaa.cod
