/- Arguments opened: sectors, slices of sectors. -/
import Derived.Test.YtpnepooobmbfbaaSecMath
namespace Go.Proofs.Ytpnepooobmbfbaa.sec
set_option maxRecDepth 100000
open Go.ChangeShapes Go.WideShapes Go.ChangeAt Go.RowKit
open Go.Proofs.Ytpnepooobmbfbaa.rows
set_option linter.unusedVariables false

theorem cellsU8 : Try.prog.cellsOf 5 = 1 := by kernel_rfl
theorem cellsSec : Try.prog.cellsOf 62 = 32 := by kernel_rfl
theorem wf_u8 {n : Int} (h : (Lit.int .u8 n).wf = true) : 0 ≤ n ∧ n < 256 := by
  have : 0 ≤ n ∧ n ≤ 255 := by simpa [Lit.wf, IntKind.min, IntKind.max, IntKind.signed, IntKind.bits] using h
  omega
/-- one sector's cells, read -/
theorem sec_of_cells {H : Type} {enc : TypeId × Value → H} {W : World} {base fuel : Nat} {spare : Nat → Bool} {held : Bool} {cs : List Value} {x : DataW H × List MemPlace}
    (h : DataW.trod enc Try.prog W base spare held fuel 62 cs = some x) : ∃ s, Sec s ∧ cs = u8s s := by
  obtain ⟨xs, m, rfl, _, hl, hx, hi⟩ := DataW.trod_array Try.underlying62 h
  rw [cellsSec] at hl
  have one : ∀ i (h : i < cs.length), ∃ n : Int, cs[i] = .int .u8 n ∧ 0 ≤ n ∧ n < 256 := by
    intro i hic
    have h1 := hi i (by omega)
    rw [cellsU8, Nat.mul_one, List.getElem?_eq_getElem (by omega)] at h1
    obtain ⟨n, hn, _, hw⟩ := DataW.trod_int Try.underlying5 h1
    rw [List.drop_eq_getElem_cons hic, List.take_succ_cons, List.take_zero] at hn
    exact ⟨n, by simpa using hn, wf_u8 hw⟩
  refine ⟨cs.map (fun v => match v with | .int _ n => n | _ => 0), ⟨by simpa using hl, ?_⟩, ?_⟩
  · intro x hx
    obtain ⟨v, hv, rfl⟩ := List.mem_map.1 hx
    obtain ⟨i, hi, rfl⟩ := List.getElem_of_mem hv
    obtain ⟨n, hn, h0⟩ := one i hi
    rw [hn]; exact h0
  · unfold u8s
    rw [List.map_map]
    symm
    apply List.ext_getElem (by simp)
    intro i h1 h2
    rw [List.getElem_map]
    obtain ⟨n, hn, _⟩ := one i h2
    simp [hn]
end Go.Proofs.Ytpnepooobmbfbaa.sec
