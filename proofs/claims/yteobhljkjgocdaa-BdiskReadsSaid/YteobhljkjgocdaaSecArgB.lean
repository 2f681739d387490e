/- Arguments opened: sectors, slices of sectors. -/
import Derived.Test.YteobhljkjgocdaaSecMath
namespace Go.Proofs.Yteobhljkjgocdaa.sec
open Go.ChangeShapes Go.WideShapes Go.ChangeAt Go.RowKit
open Go.Proofs.Yteobhljkjgocdaa.rows
set_option linter.unusedVariables false

theorem cellsU8 : Try.prog.cellsOf 5 = 1 := by kernel_rfl
theorem cellsSec : Try.prog.cellsOf 35 = 32 := by kernel_rfl
theorem wf_u8 {n : Int} (h : (Lit.int .u8 n).wf = true) : 0 ≤ n ∧ n < 256 := by
  have : 0 ≤ n ∧ n ≤ 255 := by simpa [Lit.wf, IntKind.min, IntKind.max, IntKind.signed, IntKind.bits] using h
  omega
/-- one sector's cells, read -/
theorem sec_of_cells {H : Type} {enc : TypeId × Value → H} {W : World} {base fuel : Nat} {spare : Nat → Bool} {held : Bool} {cs : List Value} {x : DataW H × List MemPlace}
    (h : DataW.trod enc Try.prog W base spare held fuel 35 cs = some x) : ∃ s, Sec s ∧ cs = u8s s := by
  obtain ⟨xs, m, rfl, _, hl, hx, hi⟩ := DataW.trod_array Try.underlying35 h
  rw [cellsSec] at hl
  have one : ∀ i (h : i < cs.length), ∃ n : Int, cs[i] = .int .u8 n ∧ 0 ≤ n ∧ n < 256 := by
    intro i hic
    have h1 := hi i (by omega)
    rw [cellsU8, Nat.mul_one, List.getElem?_eq_getElem (by omega)] at h1
    obtain ⟨n, hn, _, hw⟩ := DataW.trod_int Try.underlying5 h1
    rw [List.drop_eq_getElem_cons hic, List.take_succ_cons, List.take_zero] at hn
    exact ⟨n, by simpa using hn, wf_u8 hw⟩
  refine ⟨cs.map (fun v => match v with | .int _ n => n | _ => 0), ⟨by simpa using hl, ?_⟩, ?_⟩
  · intro x hx
    obtain ⟨v, hv, rfl⟩ := List.mem_map.1 hx
    obtain ⟨i, hi, rfl⟩ := List.getElem_of_mem hv
    obtain ⟨n, hn, h0⟩ := one i hi
    rw [hn]; exact h0
  · unfold u8s
    rw [List.map_map]
    symm
    apply List.ext_getElem (by simp)
    intro i h1 h2
    rw [List.getElem_map]
    obtain ⟨n, hn, _⟩ := one i h2
    simp [hn]
/-- a sector by value -/
theorem sec_of_trod {H : Type} {enc : TypeId × Value → H} {W : World} {v : Value} {d : DataW H} {ps : List MemPlace} {base : Nat}
    (hv : Value.okWide Try.prog W .any base 35 v) (h : DataW.Trod enc Try.prog W 0 (fun _ => true) true 35 v d ps) : ∃ s, Sec s ∧ v = .agg (u8s s).toArray := by
  simp only [Value.okWide, Try.underlying35] at hv
  obtain ⟨cs, rfl, _, _⟩ := hv
  obtain ⟨fuel, hf⟩ := h
  obtain ⟨s, hs, he⟩ := sec_of_cells hf
  refine ⟨s, hs, ?_⟩
  rw [← he]
  simp [Value.cells]
theorem secs_of_trod {H : Type} {enc : TypeId × Value → H} {W : World} {p : Option Addr} {len cap : Nat} {d : DataW H} {ps : List MemPlace}
    (h : DataW.Trod enc Try.prog W 0 (fun _ => true) true 22 (.slice p len cap) d ps) : ∃ ss, Secs ss ∧ Rd W 32 (.slice p len cap) len (cellsOf ss) ∧ len ≤ maxLen := by
  obtain ⟨fuel, hf⟩ := h
  rcases DataW.trod_slice Try.underlying22 hf with ⟨hcs, _⟩ | ⟨a, len', cap', elems, rest, n, _, hcs, _, _, hl, hm, hel, hat, _, _⟩
  · simp [Value.cells] at hcs
    obtain ⟨rfl, rfl, rfl⟩ := hcs
    exact ⟨[], by simp [Secs], Or.inl ⟨_, _, rfl, rfl, rfl, fun _ => rfl⟩, Nat.zero_le _⟩
  · simp [Value.cells] at hcs
    obtain ⟨rfl, rfl, rfl⟩ := hcs
    rw [cellsSec] at hat
    have one : ∀ i, i < len → ∃ s, Sec s ∧ ∀ k, k < 32 → W.cell? ((a.add (i * 32)).add k) = (u8s s)[k]? := by
      intro i hi
      have h1 := hat i hi
      rw [List.getElem?_eq_getElem (by omega), Option.bind_eq_some_iff] at h1
      obtain ⟨cs, hcs, ht⟩ := h1
      obtain ⟨s, hs, rfl⟩ := sec_of_cells ht
      exact ⟨s, hs, (World.cells?_some hcs).2.2⟩
    by_cases h0 : len = 0
    · subst h0
      exact ⟨[], by simp [Secs], Or.inl ⟨_, _, rfl, rfl, rfl, fun h => by cases h⟩, Nat.zero_le _⟩
    · obtain ⟨b, off, spot⟩ := a
      have hspot : spot = none := by
        obtain ⟨s, hs, hc⟩ := one 0 (by omega)
        have := hc 0 (by omega)
        have hne : (u8s s)[0]? = some ((u8s s)[0]'(by simp [u8s, hs.1])) := List.getElem?_eq_getElem _
        rw [hne] at this
        cases spot with
        | none => rfl
        | some x =>
          simp [Addr.add, World.cell?] at this
          split at this <;> cases this
      subst hspot
      have hsome : ∃ f : Nat → List Int, ∀ i, i < len → Sec (f i) ∧ ∀ k, k < 32 → W.cell? ⟨b, off + i * 32 + k, none⟩ = (u8s (f i))[k]? := by
        refine ⟨fun i => if h : i < len then (one i h).choose else [], fun i hi => ?_⟩
        simp only [hi, dite_true]
        obtain ⟨h1, h2⟩ := (one i hi).choose_spec
        refine ⟨h1, fun k hk => ?_⟩
        have e : ((⟨b, off, none⟩ : Addr).add (i * 32)).add k = ⟨b, off + i * 32 + k, none⟩ := by rw [Addr.add_mid, Addr.add_mid]
        exact (congrArg W.cell? e).symm.trans (h2 k hk)
      obtain ⟨f, hf⟩ := hsome
      have hss : Secs ((List.range len).map f) := by
        intro s hs
        obtain ⟨i, hi, rfl⟩ := List.mem_map.1 hs
        exact (hf i (List.mem_range.1 hi)).1
      have hcl : (cellsOf ((List.range len).map f)).length = len * 32 := by rw [cellsOf_len hss]; simp
      refine ⟨(List.range len).map f, hss, Or.inr ⟨b, off, cap, rfl, by omega, hl, hm, ?_, hcl, ?_⟩, by omega⟩
      · have := (hf 0 (by omega)).2 0 (by omega)
        have hne : (u8s (f 0))[0]? = some ((u8s (f 0))[0]'(by simp [u8s, (hf 0 (by omega)).1.1])) := List.getElem?_eq_getElem _
        rw [hne] at this
        exact block_lt_of_cell this
      · intro k u hk
        have hkl : k < len * 32 := by
          have := (List.getElem?_eq_some_iff.1 hk).1
          rw [hcl] at this; exact this
        have hi : k / 32 < len := by omega
        have h1 := (hf (k / 32) hi).2 (k % 32) (Nat.mod_lt _ (by decide))
        have hsec := (hf (k / 32) hi).1.1
        have hlt : k % 32 < (u8s (f (k / 32))).length := by simp [u8s, hsec]; omega
        have h2 := cellsOf_at hss (j := k / 32) (by simpa using hi) (k % 32) ((u8s (f (k / 32)))[k % 32]) (by
          have e : ((List.range len).map f)[k / 32]'(by simpa using hi) = f (k / 32) := by simp
          rw [e]; exact List.getElem?_eq_getElem hlt)
        rw [show k / 32 * 32 + k % 32 = k by omega, hk] at h2
        rw [show off + k = off + k / 32 * 32 + k % 32 by omega, h1, h2, List.getElem?_eq_getElem hlt]
end Go.Proofs.Yteobhljkjgocdaa.sec
