/- Arguments opened: a slice of whatever elements, element by element. -/
import Derived.Test.YtpnepooobmbfbaaDskMath
namespace Go.Proofs.Ytpnepooobmbfbaa.rows
set_option maxRecDepth 100000
open Go.ChangeShapes Go.WideShapes Go.ChangeAt Go.RowKit
open Go.Proofs.Ytpnepooobmbfbaa.dsk
set_option linter.unusedVariables false

theorem list_of {α : Type} {p : Nat → α → Prop} : ∀ (n : Nat), (∀ i, i < n → ∃ a, p i a) → ∃ l : List α, l.length = n ∧ ∀ i (h : i < l.length), p i l[i]
  | 0, _ => ⟨[], rfl, fun i h => by simp at h⟩
  | n + 1, h => by
    obtain ⟨l, hl, hp⟩ := list_of n fun i hi => h i (by omega)
    obtain ⟨a, ha⟩ := h n (by omega)
    refine ⟨l ++ [a], by simp [hl], fun i hi => ?_⟩
    by_cases hlt : i < l.length
    · rw [List.getElem_append_left hlt]
      exact hp i hlt
    · have : i = n := by simp at hi; omega
      subst this
      rw [List.getElem_append_right (by omega)]
      simpa [hl] using ha
section
variable {H : Type} {enc : TypeId × Value → H} {W : World} {base : Nat} {spare : Nat → Bool} {held : Bool}
theorem open_slice {α : Type} (encα : α → List Value) {sz : Nat} (h0 : 0 < sz) {t e : TypeId} (hu : Try.prog.underlying t = some (.slice e)) (hc : Try.prog.cellsOf e = sz) (good : α → Prop) (hlen : ∀ a, good a → (encα a).length = sz)
    (one : ∀ (n : Nat) (cs : List Value) (x : DataW H × List MemPlace), DataW.trod enc Try.prog W base spare held n e cs = some x → ∃ a, good a ∧ cs = encα a) {fuel : Nat} {cs : List Value} {x : DataW H × List MemPlace}
    (hf : DataW.trod enc Try.prog W base spare held fuel t cs = some x) :
    ∃ (p : Option Addr) (len cap : Nat) (l : List α), cs = [.slice p len cap] ∧ (∀ a ∈ l, good a) ∧ l.length = len ∧ Rd W sz (.slice p len cap) len ((l.map encα).flatten) ∧ len ≤ maxLen := by
  rcases DataW.trod_slice hu hf with ⟨hcs, _⟩ | ⟨a, len, cap, elems, rest, n, _, hcs, _, _, hl, hm, hel, hat, _, _⟩
  · exact ⟨none, 0, 0, [], hcs, by simp, rfl, Or.inl ⟨_, _, rfl, rfl, rfl, fun _ => rfl⟩, Nat.zero_le _⟩
  · rw [hc] at hat
    have each : ∀ i, i < len → ∃ a', good a' ∧ ∀ k, k < sz → W.cell? ((a.add (i * sz)).add k) = (encα a')[k]? := by
      intro i hi
      have h1 := hat i hi
      rw [List.getElem?_eq_getElem (by omega), Option.bind_eq_some_iff] at h1
      obtain ⟨cs', hcs', ht⟩ := h1
      obtain ⟨a', ha', rfl⟩ := one _ _ _ ht
      exact ⟨a', ha', (World.cells?_some hcs').2.2⟩
    by_cases hz : len = 0
    · subst hz
      exact ⟨some a, 0, cap, [], hcs, by simp, rfl, Or.inl ⟨_, _, rfl, rfl, rfl, fun h => by cases h⟩, Nat.zero_le _⟩
    · obtain ⟨b, off, spot⟩ := a
      have hspot : spot = none := by
        obtain ⟨a', ha', hcell⟩ := each 0 (by omega)
        have h2 := hcell 0 h0
        have hl' := hlen a' ha'
        rw [List.getElem?_eq_getElem (by omega)] at h2
        cases spot with
        | none => rfl
        | some y =>
          simp [Addr.add, World.cell?] at h2
          split at h2 <;> cases h2
      subst hspot
      obtain ⟨l, hll, hlp⟩ := list_of len each
      have hg : ∀ a ∈ l, good a := fun a ha => by
        obtain ⟨i, hi, rfl⟩ := List.getElem_of_mem ha
        exact (hlp i hi).1
      have hle : ∀ a ∈ l, (encα a).length = sz := fun a ha => hlen a (hg a ha)
      have hcl : ((l.map encα).flatten).length = len * sz := by rw [chunk_len encα sz l hle, hll]
      have hcellat : ∀ i (hi : i < l.length) k, k < sz → W.cell? ⟨b, off + i * sz + k, none⟩ = (encα l[i])[k]? := fun i hi k hk => by
        have h1 := (hlp i hi).2 k hk
        have e : ((⟨b, off, none⟩ : Addr).add (i * sz)).add k = ⟨b, off + i * sz + k, none⟩ := by rw [Addr.add_mid, Addr.add_mid]
        exact (congrArg W.cell? e).symm.trans h1
      refine ⟨_, len, cap, l, hcs, hg, hll, Or.inr ⟨b, off, cap, rfl, by omega, hl, hm, ?_, hcl, ?_⟩, by omega⟩
      · have h1 := hcellat 0 (by omega) 0 h0
        have hl0 := hle _ (List.getElem_mem (show 0 < l.length by omega))
        rw [List.getElem?_eq_getElem (by omega)] at h1
        exact block_lt_of_cell h1
      · intro k u hk
        have hkl : k < len * sz := by
          have := (List.getElem?_eq_some_iff.1 hk).1
          rw [hcl] at this; exact this
        have hi : k / sz < l.length := by rw [hll]; exact Nat.div_lt_of_lt_mul (by rw [Nat.mul_comm]; exact hkl)
        have hr := Nat.mod_lt k h0
        have h1 := hcellat (k / sz) hi (k % sz) hr
        have h2 := chunk_at encα sz l hle (k / sz) hi (k % sz) hr
        have hdm : k / sz * sz + k % sz = k := by rw [Nat.mul_comm]; exact Nat.div_add_mod k sz
        rw [hdm, hk] at h2
        rw [show off + k = off + k / sz * sz + k % sz by omega, h1, ← h2]
end
end Go.Proofs.Ytpnepooobmbfbaa.rows
