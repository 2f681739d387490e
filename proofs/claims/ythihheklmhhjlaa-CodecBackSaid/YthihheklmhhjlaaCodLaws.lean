/- What the laws of layer 3 use: knows, and the takes of both sides together. -/
import Derived.Test.YthihheklmhhjlaaCodRefs
namespace Go.Proofs.Ythihheklmhhjlaa.cod
open Go.ChangeShapes Go.WideShapes Go.ChangeAt Go.RowKit
open Go.Proofs.Ythihheklmhhjlaa.codMath
set_option linter.unusedVariables false

theorem bytes_of_trod {H : Type} {enc : TypeId × Value → H} {W : World} {p : Option Addr} {len cap : Nat} {d : DataW H} {ps : List MemPlace}
    (h : DataW.Trod enc Try.prog W 0 (fun _ => true) true 22 (.slice p len cap) d ps) : ∃ zs, Rd W (.slice p len cap) zs ∧ len ≤ maxLen ∧ ∀ i, 0 ≤ zs.getD i 0 ∧ zs.getD i 0 < 256 := by
  obtain ⟨fuel, hf⟩ := h
  rcases Go.ChangeShapes.open_ints Try.underlying22 Try.underlying5 cells8 hf with ⟨hcs, hx⟩ | ⟨a, len', cap', zs, hcs, _, hl, hm, hz, hx, hcell, hwz⟩
  · simp [Value.cells] at hcs
    obtain ⟨rfl, rfl, rfl⟩ := hcs
    exact ⟨[], Or.inl ⟨_, _, rfl, rfl, fun _ => rfl⟩, Nat.zero_le _, by simp [List.getD]⟩
  · simp [Value.cells] at hcs
    obtain ⟨rfl, rfl, rfl⟩ := hcs
    simp only [if_true] at hz
    by_cases h0 : len = 0
    · subst h0
      exact ⟨[], Or.inl ⟨_, _, rfl, rfl, fun h => by cases h⟩, Nat.zero_le _, by simp [List.getD]⟩
    · obtain ⟨b, off, spot⟩ := a
      have hspot : spot = none := by
        have := hcell 0 (by omega)
        cases spot with
        | none => rfl
        | some s =>
          simp [Addr.add, World.cell?] at this
          split at this <;> cases this
      subst hspot
      have hlen : (zs.take len).length = len := by rw [List.length_take]; omega
      have hadd : ∀ i, (⟨b, off, none⟩ : Addr).add i = ⟨b, off + i, none⟩ := fun i => by unfold Addr.add; split <;> simp_all
      refine ⟨zs.take len, Or.inr ⟨b, off, cap, by rw [hlen], by omega, by omega, hm, ?_, ?_⟩, by omega, ?_⟩
      · have := hcell 0 (by omega)
        rw [hadd] at this
        exact block_lt_of_cell this
      · intro i hi
        rw [hlen] at hi
        have := hcell i (by omega)
        rw [hadd] at this
        rw [this]
        simp [List.getD_eq_getElem?_getD, hi]
      · intro i
        by_cases hi : i < (zs.take len).length
        · have hm : (zs.take len).getD i 0 ∈ zs := by
            have e : (zs.take len).getD i 0 = (zs.take len)[i] := by rw [List.getD, List.getElem?_eq_getElem hi]; rfl
            rw [e]
            exact List.mem_of_mem_take (List.getElem_mem hi)
          have := hwz _ hm
          have h' : 0 ≤ (zs.take len).getD i 0 ∧ (zs.take len).getD i 0 ≤ 255 := by simpa [Lit.wf, IntKind.min, IntKind.max, IntKind.signed, IntKind.bits] using this
          omega
        · have e : (zs.take len).getD i 0 = 0 := by rw [List.getD, List.getElem?_eq_none (by omega)]; rfl
          omega

theorem conv_eq {w : World} {v : Value} {xs : List Int} {s : ByteArray} (h : Rd w v xs) (hs : strOfNums xs = s) : (convert 22 9 v).run Try.prog w = .ok (.string s) w := by
  rw [← hs]; exact conv_rd h
theorem ue5 : ue (fo (-3)) = [5] := by
  have : fo (-3) = 5 := by decide
  rw [this, ue_small (by decide)]; rfl
theorem ue300 : ue 300 = [172, 2] := by
  rw [ue_big (by decide), ue_small (by decide)]; rfl
theorem dec59 : Dec [5, 9] 5 [9] := ⟨by decide, by rw [ue_small (by decide)]; rfl⟩
theorem knows_any (w : World) :
    Calls Try.prog 6 #[] w fun e w' => e = .returned (.bool true) ∧ Below w.heap.size w w' := by
  have e300 := Lib.hid ue300
  have e5 := Lib.hid ue5
  have u5 : uf 5 = -3 := by decide
  have H5 := Lib.hid u5
  clear u5
  have eab : Hid ([] ++ ue (ByteArray.size ⟨#[97, 98]⟩) ++ sb ⟨#[97, 98]⟩ = [2, 97, 98]) := Lib.hid (by
    have : ByteArray.size ⟨#[97, 98]⟩ = 2 := rfl
    rw [this, ue_small (by decide)]; rfl)
  go_enter Try.func6, Try.ntmps6
  go_wp2_with (first
    | (go_at_call 9; refine (int_any _ _ _ [] (-3) _ (by decide) (rd_nil _) (by decide)).mono ?_; rintro e w1 ⟨p1, n1, c1, rfl, ho1, hb1⟩; rw [List.nil_append, e5.out] at ho1; have HO1 := Lib.hid ho1; clear ho1)
    | (at_builtin; refine ap_rd rfl (.tmp 5) (.tmp 6) rfl w.heap.size _ [5] [9] rfl (HO1.out.alloc _) _ rfl (rd_one w1 _) (by decide) (by have := hb1.size; simp; omega) ?_; intro p2 n2 c2 w2 hnn ho2 hb2; clear hnn; have HO2 := Lib.hid ho2; clear ho2; have hbw2 := below_trans' (below_alloc hb1 _) hb2 (Nat.le_refl _))
    | (go_at_call 15; refine (takei_yes _ _ _ [5, 9] [9] 5 _ dec59 HO2.out.rd (by decide)).mono ?_; rintro e w3 ⟨p3, n3, c3, rfl, hr3, hb3⟩; rw [H5.out]; obtain rfl := hr3.len; clear hr3)
    | (go_at_call 7; refine (uint_any _ _ _ [] 300 _ (by decide) (rd_nil _) (by decide)).mono ?_; rintro e w4 ⟨p4, n4, c4, rfl, ho4, hb4⟩; rw [List.nil_append, e300.out] at ho4; have cv4 := conv_eq (s := ⟨#[172, 2]⟩) ho4.rd rfl; clear ho4)
    | (go_at_call 11; refine (text_any _ _ _ [] ⟨#[97, 98]⟩ _ (by decide) (rd_nil _) (by decide)).mono ?_; rintro e w5 ⟨p5, n5, c5, rfl, ho5, hb5⟩; rw [eab.out] at ho5; have cv5 := conv_eq (s := ⟨#[2, 97, 98]⟩) ho5.rd rfl; clear ho5))
  go_ret
  exact ⟨rfl, below_trans (below_trans (below_trans hbw2 hb3) hb4) hb5⟩

/-- what TakeUint of b is: the number, the bytes behind it, whether there is one; of both sides -/
theorem takes_u (zs : List Int) (hwf : ∀ i, 0 ≤ zs.getD i 0 ∧ zs.getD i 0 < 256) (hl : zs.length ≤ 100000) : ∃ (N : Int) (xs : List Int) (ok : Bool),
    (∀ p n c w, Rd w (.slice p n c) zs → Calls Try.prog 13 #[.slice p n c] w fun e w' => ∃ p' n' c', e = .returned (.tuple #[.int .u64 N, .slice p' n' c', .bool ok]) ∧ Rd w' (.slice p' n' c') xs ∧ Below w.heap.size w w') ∧
    (∀ p n c w, Rd w (.slice p n c) zs → Calls Try.prog 14 #[.slice p n c] w fun e w' => ∃ p' n' c', e = .returned (.tuple #[.int .u64 N, .slice p' n' c', .bool ok]) ∧ Rd w' (.slice p' n' c') xs ∧ Below w.heap.size w w') := by
  rcases Classical.em (∃ m t, Dec zs m t) with ⟨m, t, hd⟩ | hn
  · refine ⟨m, t, true, fun p n c w h => take_yes p n c zs t m w hd h hl, fun p n c w h => (rtake_on p n c zs t m w hd h hl).mono ?_⟩
    rintro e w' ⟨p', n', c', rfl, ho, hb⟩
    exact ⟨p', n', c', rfl, ho.rd, hb⟩
  · have hn' : NoDec zs := fun m t h => hn ⟨m, t, h⟩
    refine ⟨0, [], false, fun p n c w h => (take_no p n c zs w hn' hwf h hl).mono ?_, fun p n c w h => (rtake_off p n c zs w hn' hwf h hl).mono ?_⟩
    · rintro e w' ⟨rfl, rfl⟩
      exact ⟨_, _, _, rfl, rd_nil _, Below.refl _ _⟩
    · rintro e w' ⟨rfl, hb⟩
      exact ⟨_, _, _, rfl, rd_nil _, hb⟩
theorem takes_i (zs : List Int) (hwf : ∀ i, 0 ≤ zs.getD i 0 ∧ zs.getD i 0 < 256) (hl : zs.length ≤ 100000) : ∃ (N : Int) (xs : List Int) (ok : Bool),
    (∀ p n c w, Rd w (.slice p n c) zs → Calls Try.prog 15 #[.slice p n c] w fun e w' => ∃ p' n' c', e = .returned (.tuple #[.int .i64 N, .slice p' n' c', .bool ok]) ∧ Rd w' (.slice p' n' c') xs ∧ Below w.heap.size w w') ∧
    (∀ p n c w, Rd w (.slice p n c) zs → Calls Try.prog 16 #[.slice p n c] w fun e w' => ∃ p' n' c', e = .returned (.tuple #[.int .i64 N, .slice p' n' c', .bool ok]) ∧ Rd w' (.slice p' n' c') xs ∧ Below w.heap.size w w') := by
  rcases Classical.em (∃ m t, Dec zs m t) with ⟨m, t, hd⟩ | hn
  · exact ⟨uf m, t, true, fun p n c w h => takei_yes p n c zs t m w hd h hl, fun p n c w h => rtakei_yes p n c zs t m w hd h hl⟩
  · have hn' : NoDec zs := fun m t h => hn ⟨m, t, h⟩
    refine ⟨0, [], false, fun p n c w h => (takei_no p n c zs w hn' hwf h hl).mono ?_, fun p n c w h => (rtakei_no p n c zs w hn' hwf h hl).mono ?_⟩
    · rintro e w' ⟨rfl, rfl⟩
      exact ⟨_, _, _, rfl, rd_nil _, Below.refl _ _⟩
    · rintro e w' ⟨rfl, hb⟩
      exact ⟨_, _, _, rfl, rd_nil _, hb⟩
theorem takes_t (zs : List Int) (most : Int) (hm : (Lit.int .i64 most).wf = true) (hwf : ∀ i, 0 ≤ zs.getD i 0 ∧ zs.getD i 0 < 256) (hl : zs.length ≤ 100000) : ∃ (N : ByteArray) (xs : List Int) (ok : Bool),
    (∀ p n c w, Rd w (.slice p n c) zs → Calls Try.prog 17 #[.slice p n c, .int .i64 most] w fun e w' => ∃ p' n' c', e = .returned (.tuple #[.string N, .slice p' n' c', .bool ok]) ∧ Rd w' (.slice p' n' c') xs ∧ Below w.heap.size w w') ∧
    (∀ p n c w, Rd w (.slice p n c) zs → Calls Try.prog 18 #[.slice p n c, .int .i64 most] w fun e w' => ∃ p' n' c', e = .returned (.tuple #[.string N, .slice p' n' c', .bool ok]) ∧ Rd w' (.slice p' n' c') xs ∧ Below w.heap.size w w') := by
  have fin : ∀ {w : World} {e : Ending} {w' : World}, e = .returned (.tuple #[.string ByteArray.empty, .slice none 0 0, .bool false]) ∧ Below w.heap.size w w' → ∃ p' n' c', e = .returned (.tuple #[.string ByteArray.empty, .slice p' n' c', .bool false]) ∧ Rd w' (.slice p' n' c') [] ∧ Below w.heap.size w w' := by
    rintro w e w' ⟨rfl, hb⟩
    exact ⟨_, _, _, rfl, rd_nil _, hb⟩
  have fin' : ∀ {w : World} {e : Ending} {w' : World}, e = .returned (.tuple #[.string ByteArray.empty, .slice none 0 0, .bool false]) ∧ w = w' → ∃ p' n' c', e = .returned (.tuple #[.string ByteArray.empty, .slice p' n' c', .bool false]) ∧ Rd w' (.slice p' n' c') [] ∧ Below w.heap.size w w' := by
    rintro w e w' ⟨rfl, rfl⟩
    exact ⟨_, _, _, rfl, rd_nil _, Below.refl _ _⟩
  rcases Classical.em (∃ m t, Dec zs m t) with ⟨m, t, hd⟩ | hn
  · by_cases h1 : most < 0 ∨ (0 ≤ most ∧ most < m)
    · exact ⟨ByteArray.empty, [], false, fun p n c w h => (taket_most p n c zs t m most w hd h1 hm h hl).mono fun e w' => fin', fun p n c w h => (rtaket_most p n c zs t m most w hd h1 hm h hl).mono fun e w' => fin⟩
    · by_cases h2 : t.length < m
      · exact ⟨ByteArray.empty, [], false, fun p n c w h => (taket_short p n c zs t m most w hd (by omega) (by omega) hm h2 h hl).mono fun e w' => fin', fun p n c w h => (rtaket_short p n c zs t m most w hd (by omega) (by omega) hm h2 h hl).mono fun e w' => fin⟩
      · exact ⟨strOfNums (t.take m), t.drop m, true, fun p n c w h => taket_yes p n c zs t m most w hd (by omega) (by omega) hm (by omega) h hl, fun p n c w h => rtaket_yes p n c zs t m most w hd (by omega) (by omega) hm (by omega) h hl⟩
  · have hn' : NoDec zs := fun m t h => hn ⟨m, t, h⟩
    exact ⟨ByteArray.empty, [], false, fun p n c w h => (taket_no p n c zs most w hn' hwf h hl).mono fun e w' => fin', fun p n c w h => (rtaket_no p n c zs most w hn' hwf h hl).mono fun e w' => fin⟩
end Go.Proofs.Ythihheklmhhjlaa.cod
