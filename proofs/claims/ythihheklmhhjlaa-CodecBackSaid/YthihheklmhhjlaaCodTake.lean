/- What TakeUint, TakeInt and TakeText of the code give. -/
import Derived.Test.YthihheklmhhjlaaCodFirst
namespace Go.Proofs.Ythihheklmhhjlaa.cod
open Go.ChangeShapes Go.WideShapes Go.ChangeAt Go.RowKit
open Go.Proofs.Ythihheklmhhjlaa.codMath
set_option linter.unusedVariables false

theorem Rd.some {w : World} {p : Option Addr} {n c : Nat} {zs : List Int} (h : Rd w (.slice p n c) zs) (h0 : 0 < zs.length) : ∃ b off, p = some ⟨b, off, none⟩ ∧ n = zs.length ∧ n ≤ c ∧ c ≤ 9223372036854775807 ∧ b < w.heap.size ∧ ∀ i, i < zs.length → w.cell? ⟨b, off + i, none⟩ = some (.int .u8 (zs.getD i 0)) := by
  rcases h with ⟨p', cap', h1, rfl, _⟩ | ⟨b, off, cap', h1, h2, h3, h4, h5, h6⟩
  · simp at h0
  · cases h1
    exact ⟨b, off, rfl, rfl, h3, h4, h5, h6⟩
theorem Rd.drop {w : World} {b off c : Nat} {zs : List Int} (L : Nat) (h : Rd w (.slice (Option.some ⟨b, off, none⟩) zs.length c) zs) (h0 : 0 < zs.length) (hL : L ≤ zs.length) : Rd w (.slice (Option.some ⟨b, off + L, none⟩) (zs.length - L) (c - L)) (zs.drop L) := by
  rcases h with ⟨p', cap', h1, rfl, _⟩ | ⟨b', off', cap', h1, h2, h3, h4, h5, h6⟩
  · simp at h0
  · cases h1
    by_cases he : L = zs.length
    · subst he
      exact Or.inl ⟨_, c - zs.length, by rw [Nat.sub_self], by simp, fun h => by cases h⟩
    · refine Or.inr ⟨b, off + L, c - L, by rw [List.length_drop], by rw [List.length_drop]; omega, by rw [List.length_drop]; omega, by omega, h5, ?_⟩
      intro i hi
      rw [List.length_drop] at hi
      rw [Nat.add_assoc, h6 (L + i) (by omega)]
      simp [List.getD]
theorem Rd.take {w : World} {b off c : Nat} {zs : List Int} (L : Nat) (h : Rd w (.slice (Option.some ⟨b, off, none⟩) zs.length c) zs) (hL : L ≤ zs.length) : Rd w (.slice (Option.some ⟨b, off, none⟩) L c) (zs.take L) := by
  rcases h with ⟨p', cap', h1, rfl, _⟩ | ⟨b', off', cap', h1, h2, h3, h4, h5, h6⟩
  · simp at hL
    subst hL
    exact Or.inl ⟨_, c, rfl, rfl, fun h => by cases h⟩
  · cases h1
    by_cases he : L = 0
    · subst he
      exact Or.inl ⟨_, c, rfl, rfl, fun h => by cases h⟩
    · have hl : (zs.take L).length = L := by rw [List.length_take]; omega
      refine Or.inr ⟨b, off, c, by rw [hl], by omega, by omega, h4, h5, ?_⟩
      intro i hi
      rw [hl] at hi
      rw [h6 i (by omega)]
      simp [List.getD, hi]
theorem Rd.end_ {w : World} {b off c : Nat} {zs : List Int} (L : Nat) (hL : zs.length ≤ L) : Rd w (.slice (Option.some ⟨b, off, none⟩) (zs.length - L) 0) (zs.drop L) :=
  Or.inl ⟨_, 0, by rw [Nat.sub_eq_zero_of_le hL], List.drop_eq_nil_of_le hL, fun h => by cases h⟩
theorem dec_pos {zs t : List Int} {m : Nat} (h : Dec zs m t) : 0 < zs.length ∧ (ue m).length ≤ zs.length ∧ t = zs.drop (ue m).length := by
  have := ue_pos m
  obtain ⟨h1, h2⟩ := h
  rw [h2]
  simp
  omega
theorem first_off (p : Option Addr) (n c : Nat) (zs : List Int) (w : World) (hd : NoDec zs) (hwf : ∀ i, 0 ≤ zs.getD i 0 ∧ zs.getD i 0 < 256) (hrd : Rd w (.slice p n c) zs) (hl : zs.length ≤ 100000) :
    Calls Try.prog 20 #[.slice p n c] w fun e w' => (∃ x, e = .returned (.tuple #[.int .u64 x, .int .i64 0])) ∧ w = w' := by
  by_cases h0 : 0 < zs.length
  · obtain ⟨b, off, rfl, rfl, hc, hc2, hb, hcell⟩ := hrd.some h0
    exact first_no zs b off c w hd hwf hcell hl
  · have hn := hrd.len
    obtain rfl : n = 0 := by omega
    exact first_nil p c w

theorem take_yes (p : Option Addr) (n c : Nat) (zs t : List Int) (m : Nat) (w : World) (hd : Dec zs m t) (hrd : Rd w (.slice p n c) zs) (hl : zs.length ≤ 100000) :
    Calls Try.prog 13 #[.slice p n c] w fun e w' => ∃ p' n' c', e = .returned (.tuple #[.int .u64 (m : Int), .slice p' n' c', .bool true]) ∧ Rd w' (.slice p' n' c') t ∧ Below w.heap.size w w' := by
  obtain ⟨d1, d2, d3⟩ := dec_pos hd
  obtain ⟨b, off, rfl, rfl, hc, hc2, hb, hcell⟩ := hrd.some d1
  have HRD := Lib.hid hrd
  have HF := Lib.hid (first_yes zs t m b off c w hd hcell hl)
  have HT := Lib.hid d3
  have HR2 := Lib.hid (hrd.drop _ d1 d2)
  have HR3 : Hid (c = (ue m).length → Rd w (.slice (some ⟨b, off, none⟩) (zs.length - (ue m).length) 0) (zs.drop (ue m).length)) := Lib.hid fun h => Rd.end_ (c := c) _ (by omega)
  have HLD : Hid ((zs.drop (ue m).length).length ≤ 100000) := Lib.hid (by rw [List.length_drop]; omega)
  have hlp := ue_pos m
  generalize (ue m).length = L at *
  obtain ⟨n, hn⟩ : ∃ n, zs.length = n := ⟨_, rfl⟩
  rw [hn] at HF HR2 HR3 hl d1 d2 hc ⊢
  have k1 : (L:Int) ≤ n := by omega
  have k2 : (n:Int) ≤ c := by omega
  have k3 : (c:Int) ≤ 9223372036854775807 := by omega
  have k4 : (1:Int) ≤ L := by omega
  clear hn hd hrd hcell d3
  go_enter Try.func13, Try.ntmps13
  go_wp2_with (first | (go_at_call 20; refine HF.out.mono ?_; rintro e w1 ⟨rfl, rfl⟩) | (go_at_call 21; with_reducible refine (clone_any _ _ _ _ _ HR2.out HLD.out).mono ?_; rintro e w2 ⟨p2, n2, c2, rfl, ho2, hb2⟩; have HO2 := Lib.hid ho2; clear ho2) | (go_at_call 21; with_reducible refine (clone_any _ _ _ _ _ (HR3.out (by assumption)) HLD.out).mono ?_; rintro e w2 ⟨p2, n2, c2, rfl, ho2, hb2⟩; have HO2 := Lib.hid ho2; clear ho2))
  all_goals go_ret3
  all_goals exact ⟨_, _, _, rfl, by rw [HT.out]; exact HO2.out.rd, hb2⟩
theorem take_no (p : Option Addr) (n c : Nat) (zs : List Int) (w : World) (hd : NoDec zs) (hwf : ∀ i, 0 ≤ zs.getD i 0 ∧ zs.getD i 0 < 256) (hrd : Rd w (.slice p n c) zs) (hl : zs.length ≤ 100000) :
    Calls Try.prog 13 #[.slice p n c] w fun e w' => e = .returned (.tuple #[.int .u64 0, .slice none 0 0, .bool false]) ∧ w = w' := by
  have HF := Lib.hid (first_off p n c zs w hd hwf hrd hl)
  clear hd hwf hrd hl
  go_enter Try.func13, Try.ntmps13
  go_wp2_with (go_at_call 20; refine HF.out.mono ?_; rintro e w1 ⟨⟨x, rfl⟩, rfl⟩)
  go_ret3
  exact ⟨rfl, rfl⟩
theorem takei_yes (p : Option Addr) (n c : Nat) (zs t : List Int) (m : Nat) (w : World) (hd : Dec zs m t) (hrd : Rd w (.slice p n c) zs) (hl : zs.length ≤ 100000) :
    Calls Try.prog 15 #[.slice p n c] w fun e w' => ∃ p' n' c', e = .returned (.tuple #[.int .i64 (uf m), .slice p' n' c', .bool true]) ∧ Rd w' (.slice p' n' c') t ∧ Below w.heap.size w w' := by
  have HF := Lib.hid (take_yes p n c zs t m w hd hrd hl)
  have HM := Lib.hid hd.1
  clear hd hrd hl
  go_enter Try.func15, Try.ntmps15
  go_wp2_with (first | (go_at_call 13; refine HF.out.mono ?_; rintro e w1 ⟨p1, n1, c1, rfl, hr1, hb1⟩; have HR1 := Lib.hid hr1; clear hr1) | (go_at_call 22; refine (unfold_any m _ HM.out).mono ?_; rintro e w2 ⟨rfl, rfl⟩))
  go_ret3
  exact ⟨p1, n1, c1, rfl, HR1.out, hb1⟩
theorem takei_no (p : Option Addr) (n c : Nat) (zs : List Int) (w : World) (hd : NoDec zs) (hwf : ∀ i, 0 ≤ zs.getD i 0 ∧ zs.getD i 0 < 256) (hrd : Rd w (.slice p n c) zs) (hl : zs.length ≤ 100000) :
    Calls Try.prog 15 #[.slice p n c] w fun e w' => e = .returned (.tuple #[.int .i64 0, .slice none 0 0, .bool false]) ∧ w = w' := by
  have HF := Lib.hid (take_no p n c zs w hd hwf hrd hl)
  clear hd hwf hrd hl
  go_enter Try.func15, Try.ntmps15
  go_wp2_with (first | (go_at_call 13; refine HF.out.mono ?_; rintro e w1 ⟨rfl, rfl⟩) | (go_at_call 22; refine (unfold_any 0 _ (by decide)).mono ?_; rintro e w2 ⟨rfl, rfl⟩))
  go_ret3
  exact ⟨rfl, rfl⟩
theorem taket_no (p : Option Addr) (n c : Nat) (zs : List Int) (most : Int) (w : World) (hd : NoDec zs) (hwf : ∀ i, 0 ≤ zs.getD i 0 ∧ zs.getD i 0 < 256) (hrd : Rd w (.slice p n c) zs) (hl : zs.length ≤ 100000) :
    Calls Try.prog 17 #[.slice p n c, .int .i64 most] w fun e w' => e = .returned (.tuple #[.string ByteArray.empty, .slice none 0 0, .bool false]) ∧ w = w' := by
  have HF := Lib.hid (first_off p n c zs w hd hwf hrd hl)
  clear hd hwf hrd hl
  go_enter Try.func17, Try.ntmps17
  go_wp2_with (go_at_call 20; refine HF.out.mono ?_; rintro e w1 ⟨⟨x, rfl⟩, rfl⟩)
  go_ret3
  exact ⟨rfl, rfl⟩
theorem taket_most (p : Option Addr) (n c : Nat) (zs t : List Int) (m : Nat) (most : Int) (w : World) (hd : Dec zs m t) (hm : most < 0 ∨ (0 ≤ most ∧ most < m)) (hwf : (Lit.int .i64 most).wf = true) (hrd : Rd w (.slice p n c) zs) (hl : zs.length ≤ 100000) :
    Calls Try.prog 17 #[.slice p n c, .int .i64 most] w fun e w' => e = .returned (.tuple #[.string ByteArray.empty, .slice none 0 0, .bool false]) ∧ w = w' := by
  obtain ⟨d1, d2, d3⟩ := dec_pos hd
  have hx := wf_i64 hwf
  obtain ⟨b, off, rfl, rfl, hc, hc2, hb, hcell⟩ := hrd.some d1
  have HF := Lib.hid (first_yes zs t m b off c w hd hcell hl)
  have hlp := ue_pos m
  generalize (ue m).length = L at *
  generalize zs.length = n at *
  have k4 : (1:Int) ≤ L := by omega
  clear hd hrd hcell d3
  rcases hm with hm | ⟨hm, hm2⟩
  · go_enter Try.func17, Try.ntmps17
    go_wp2_with (go_at_call 20; refine HF.out.mono ?_; rintro e w1 ⟨rfl, rfl⟩)
    go_ret3
    exact ⟨rfl, rfl⟩
  · go_enter Try.func17, Try.ntmps17
    go_wp2_with (go_at_call 20; refine HF.out.mono ?_; rintro e w1 ⟨rfl, rfl⟩)
    go_ret3
    exact ⟨rfl, rfl⟩
theorem taket_short (p : Option Addr) (n c : Nat) (zs t : List Int) (m : Nat) (most : Int) (w : World) (hd : Dec zs m t) (hm : 0 ≤ most) (hm2 : (m:Int) ≤ most) (hwf : (Lit.int .i64 most).wf = true) (ht : t.length < m) (hrd : Rd w (.slice p n c) zs) (hl : zs.length ≤ 100000) :
    Calls Try.prog 17 #[.slice p n c, .int .i64 most] w fun e w' => e = .returned (.tuple #[.string ByteArray.empty, .slice none 0 0, .bool false]) ∧ w = w' := by
  obtain ⟨d1, d2, d3⟩ := dec_pos hd
  have hx := wf_i64 hwf
  obtain ⟨b, off, rfl, rfl, hc, hc2, hb, hcell⟩ := hrd.some d1
  have HF := Lib.hid (first_yes zs t m b off c w hd hcell hl)
  have hlp := ue_pos m
  have ht2 : zs.length - (ue m).length < m := by rw [d3, List.length_drop] at ht; exact ht
  generalize (ue m).length = L at *
  generalize zs.length = n at *
  have k1 : (L:Int) ≤ n := by omega
  have k2 : (n:Int) ≤ c := by omega
  have k3 : (c:Int) ≤ 9223372036854775807 := by omega
  have k4 : (1:Int) ≤ L := by omega
  have k5 : (n:Int) - L < m := by omega
  have k6 : ((n - L : Nat) : Int) < m := by omega
  clear hd hrd hcell d3 ht
  go_enter Try.func17, Try.ntmps17
  go_wp2_with (go_at_call 20; refine HF.out.mono ?_; rintro e w1 ⟨rfl, rfl⟩)
  all_goals go_ret3
  all_goals exact ⟨rfl, rfl⟩
end Go.Proofs.Ythihheklmhhjlaa.cod
