/- The arguments of stage 6's laws: a state, and events. -/
import Derived.Test.YtpnepooobmbfbaaDcSetMath
import Derived.Test.YtpnepooobmbfbaaDcSettle
import Derived.Test.YtpnepooobmbfbaaChoH
import Derived.Test.YtpnepooobmbfbaaSecCodeA
import Derived.Test.YtpnepooobmbfbaaSecArgB
import Derived.Test.YtpnepooobmbfbaaDskArgs
namespace Go.Proofs.Ytpnepooobmbfbaa.dsk
open Go.ChangeShapes Go.WideShapes Go.ChangeAt Go.RowKit
open Go.Proofs.Ytpnepooobmbfbaa.rows
open Go.Proofs.Ytpnepooobmbfbaa.sec
set_option linter.unusedVariables false
set_option maxRecDepth 100000

section
variable {H : Type} {enc : TypeId × Value → H} {W : World} {base : Nat} {spare : Nat → Bool} {held : Bool}
theorem cellsWr : Try.prog.cellsOf 79 = 36 := by kernel_rfl
theorem cellsSecs : Try.prog.cellsOf 22 = 1 := by kernel_rfl
theorem cellsWrs : Try.prog.cellsOf 26 = 1 := by kernel_rfl
theorem cellsSt : Try.prog.cellsOf 31 = 2 := by kernel_rfl
theorem fields_wr2 : (Try.prog.fieldsOf 79).toList.map (fun f => (f.type, f.offset)) = [(3, 0), (62, 1), (64, 33), (3, 35)] := by kernel_rfl
theorem fields_st2 : (Try.prog.fieldsOf 31).toList.map (fun f => (f.type, f.offset)) = [(22, 0), (26, 1)] := by kernel_rfl
theorem und_rstA : Try.prog.underlying 31 = some (.struct (Try.prog.fieldsOf 31)) := by kernel_rfl
theorem wr_of_cells {n : Nat} {cs : List Value} {x : DataW H × List MemPlace} (h : DataW.trod enc Try.prog W base spare held n 79 cs = some x) : ∃ a : Wr, a.ok ∧ cs = a.c := by
  obtain ⟨hl, hf⟩ := field_trod und_wr fields_wr2 h
  rw [cellsWr] at hl
  obtain ⟨_, _, h0⟩ := hf 0 _ _ rfl
  obtain ⟨_, _, h1⟩ := hf 1 _ _ rfl
  obtain ⟨_, _, h2⟩ := hf 2 _ _ rfl
  obtain ⟨_, _, h3⟩ := hf 3 _ _ rfl
  rw [cellsInt] at h0 h3
  rw [cellsSec] at h1
  rw [cellsTag] at h2
  obtain ⟨ps, wps, e0⟩ := int_of_cells h0
  obtain ⟨s, hs, e1⟩ := sec_of_cells h1
  obtain ⟨⟨k, id⟩, ⟨wk, wid⟩, e2⟩ := tag_of_cells h2
  obtain ⟨ep, wep, e3⟩ := int_of_cells h3
  refine ⟨⟨ps, s, k, id, ep⟩, ⟨hs, wps, wk, wid, wep⟩, ?_⟩
  have q0 := cut_piece cs 0 1
  have q1 := cut_piece cs 1 32
  have q2 := cut_piece cs 33 2
  have q3 := cut_piece cs 35 1
  rw [e0] at q0
  rw [e1] at q1
  rw [e2] at q2
  rw [e3, List.drop_of_length_le (i := 35 + 1) (by omega), List.append_nil] at q3
  simp only [Nat.reduceAdd] at q0 q1 q2 q3
  rw [List.drop_zero, ← q1, ← q2, ← q3] at q0
  rw [← q0]
  simp [Wr.c, tagC]
theorem state_of_trod {v : Value} {d : DataW H} {ps : List MemPlace} (hv : Value.okWide Try.prog W .any base 31 v) (h : DataW.Trod enc Try.prog W 0 (fun _ => true) true 31 v d ps) :
    ∃ (p1 : Option Addr) (n c1 : Nat) (p2 : Option Addr) (m c2 : Nat) (ss : List (List Int)) (ws : List Wr), v = .agg #[.slice p1 n c1, .slice p2 m c2] ∧ Rd W 32 (.slice p1 n c1) n (cellsOf ss) ∧ n ≤ maxLen ∧ Secs ss ∧ Rd W 36 (.slice p2 m c2) m (wrsC ws) ∧ m ≤ maxLen ∧ (∀ x ∈ ws, x.ok) := by
  simp only [Value.okWide, und_rstA] at hv
  obtain ⟨cs, rfl, _⟩ := hv
  obtain ⟨fuel, hf⟩ := h
  obtain ⟨hl, hf⟩ := field_trod und_rstA fields_st2 hf
  rw [cellsSt] at hl
  obtain ⟨_, _, h0⟩ := hf 0 _ _ rfl
  obtain ⟨_, _, h1⟩ := hf 1 _ _ rfl
  rw [cellsSecs] at h0
  rw [cellsWrs] at h1
  obtain ⟨p0, l0, c0, ss, e0, hg0, hl0, hr0, hm0⟩ := open_slice u8s (by decide) und_secs cellsSec Sec (fun s hs => by rw [u8s_len, hs.1]) (fun _ _ _ h => sec_of_cells h) h0
  obtain ⟨p1, l1, c1, ws, e1, hg1, hl1, hr1, hm1⟩ := open_slice Wr.c (by decide) und_wrs cellsWr Wr.ok (fun x hx => Wr.c_len hx.1) (fun _ _ _ h => wr_of_cells h) h1
  rw [← cellsOf_map] at hr0
  refine ⟨p0, l0, c0, p1, l1, c1, ss, ws, ?_, hr0, hm0, hg0, hr1, hm1, hg1⟩
  have hc : (Value.agg cs).cells.toList = [.slice p0 l0 c0, .slice p1 l1 c1] := by
    have q0 := cut_piece (Value.agg cs).cells.toList 0 1
    have q1 := cut_piece (Value.agg cs).cells.toList 1 1
    rw [e0] at q0
    rw [e1, List.drop_of_length_le (i := 1 + 1) (by omega), List.append_nil] at q1
    simp only [Nat.reduceAdd] at q0 q1
    rw [List.drop_zero, ← q1] at q0
    exact q0.symm
  have : cs = #[.slice p0 l0 c0, .slice p1 l1 c1] := by
    apply Array.ext'
    simpa [Value.cells] using hc
  rw [this]
end
end Go.Proofs.Ytpnepooobmbfbaa.dsk
