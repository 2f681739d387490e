/- The arguments of the disk's laws: acts. -/
import Derived.Test.YtpnepooobmbfbaaDskSame
import Derived.Test.YtpnepooobmbfbaaOpen
import Derived.Test.YtpnepooobmbfbaaSecArgB
namespace Go.Proofs.Ytpnepooobmbfbaa.dsk
set_option maxRecDepth 100000
open Go.ChangeShapes Go.WideShapes Go.ChangeAt Go.RowKit
open Go.Proofs.Ytpnepooobmbfbaa.rows
open Go.Proofs.Ytpnepooobmbfbaa.sec
set_option linter.unusedVariables false
set_option linter.unusedSimpArgs false

/-- an act, and the slices that its cells show -/
structure Act0 where
  kind : Int
  pos : Int
  s : List Int
  k : Int
  id : Int
  ts : List (Int × Int)
  bad : List Int
  vt : Value
  vb : Value
def Act0.c (a : Act0) : List Value := .int .i64 a.kind :: .int .i64 a.pos :: (u8s a.s ++ [.int .i64 a.k, .int .i64 a.id, a.vt, a.vb])
structure Act0.ok (W : World) (a : Act0) : Prop where
  sec : Sec a.s
  kind : wf64 a.kind
  pos : wf64 a.pos
  k : wf64 a.k
  id : wf64 a.id
  ts : ∃ p c, a.vt = .slice p a.ts.length c ∧ Rd W 2 a.vt a.ts.length (tagsC a.ts)
  bad : ∃ p c, a.vb = .slice p a.bad.length c ∧ Rd W 1 a.vb a.bad.length (i64s a.bad)
  tsl : a.ts.length ≤ maxLen
  badl : a.bad.length ≤ maxLen
  tswf : ∀ t ∈ a.ts, wf64 t.1 ∧ wf64 t.2
  badwf : ∀ x ∈ a.bad, wf64 x
theorem Act0.c_len {W : World} {a : Act0} (h : a.ok W) : a.c.length = 38 := by simp [Act0.c, u8s, h.sec.1]
theorem cellsInt : Try.prog.cellsOf 3 = 1 := by kernel_rfl
theorem cellsTag : Try.prog.cellsOf 64 = 2 := by kernel_rfl
theorem fields_tag2 : (Try.prog.fieldsOf 64).toList.map (fun f => (f.type, f.offset)) = [(3, 0), (3, 1)] := by kernel_rfl
theorem cut_piece {α : Type} (cs : List α) (n m : Nat) : (cs.drop n).take m ++ cs.drop (n + m) = cs.drop n := by
  rw [← List.drop_drop, List.take_append_drop]
section
variable {H : Type} {enc : TypeId × Value → H} {W : World} {base : Nat} {spare : Nat → Bool} {held : Bool}
/-- a field of a struct that was read -/
theorem field_trod {T : TypeId} {fs : Array Field} (ht : Try.prog.underlying T = some (.struct fs)) {L : List (TypeId × Nat)} (hL : fs.toList.map (fun f => (f.type, f.offset)) = L) {fuel : Nat} {cs : List Value} {x : DataW H × List MemPlace}
    (h : DataW.trod enc Try.prog W base spare held fuel T cs = some x) : cs.length = Try.prog.cellsOf T ∧ ∀ (i : Nat) (ty : TypeId) (off : Nat), L[i]? = some (ty, off) → ∃ n y, DataW.trod enc Try.prog W base spare held n ty ((cs.drop off).take (Try.prog.cellsOf ty)) = some y := by
  obtain ⟨xs, n, _, _, hl, hx, hf⟩ := DataW.trod_struct ht h
  refine ⟨hl, fun i ty off hi => ?_⟩
  rw [← hL, List.getElem?_map] at hi
  cases hq : fs[i]? with
  | none => simp [hq] at hi
  | some f =>
    have h1 : (f.type, f.offset) = (ty, off) := by simpa [hq] using hi
    have h2 := hf i f hq
    have hix : i < xs.length := by rw [hx]; exact (Array.getElem?_eq_some_iff.1 hq).1
    rw [List.getElem?_eq_getElem hix] at h2
    cases h1
    exact ⟨n, _, h2⟩
theorem tag_of_cells {n : Nat} {cs : List Value} {x : DataW H × List MemPlace} (h : DataW.trod enc Try.prog W base spare held n 64 cs = some x) : ∃ t : Int × Int, (wf64 t.1 ∧ wf64 t.2) ∧ cs = tagC t := by
  obtain ⟨hl, hf⟩ := field_trod und_tag fields_tag2 h
  rw [cellsTag] at hl
  obtain ⟨_, _, h0⟩ := hf 0 _ _ rfl
  obtain ⟨_, _, h1⟩ := hf 1 _ _ rfl
  rw [cellsInt] at h0 h1
  obtain ⟨a, ha, _, wa⟩ := DataW.trod_int und_int h0
  obtain ⟨b, hb, _, wb⟩ := DataW.trod_int und_int h1
  refine ⟨(a, b), ⟨wa, wb⟩, ?_⟩
  have e := cut_piece cs 0 1
  have e2 := cut_piece cs 1 1
  rw [ha] at e
  rw [hb, List.drop_of_length_le (i := 1 + 1) (by omega), List.append_nil] at e2
  rw [List.drop_zero, Nat.zero_add, ← e2] at e
  exact e.symm
theorem int_of_cells {n : Nat} {cs : List Value} {x : DataW H × List MemPlace} (h : DataW.trod enc Try.prog W base spare held n 3 cs = some x) : ∃ a : Int, wf64 a ∧ cs = [.int .i64 a] := by
  obtain ⟨a, ha, _, wa⟩ := DataW.trod_int und_int h
  exact ⟨a, wa, ha⟩
end
end Go.Proofs.Ytpnepooobmbfbaa.dsk
