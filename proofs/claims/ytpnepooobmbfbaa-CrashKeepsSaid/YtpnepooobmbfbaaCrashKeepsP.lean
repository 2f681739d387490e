/- What CrashKeeps wants, part 16. -/
import Derived.Test.YtpnepooobmbfbaaCrashKeepsE
import Derived.Test.YtpnepooobmbfbaaCrashKeepsG
import Derived.Shelf.SlMaps.Clone
import Derived.Deep.Cut
import Derived.LaidEqlPtr
/- What the code's Clone gives. -/
namespace Go.Proofs.Ytpnepooobmbfbaa.dsk
set_option maxRecDepth 100000
open Go.ChangeShapes Go.WideShapes Go.ChangeAt Go.RowKit
open Go.Proofs.Ytpnepooobmbfbaa.rows
open Go.Proofs.Ytpnepooobmbfbaa.sec
open Go.Maps
set_option linter.unusedVariables false
set_option linter.unusedSimpArgs false

end Go.Proofs.Ytpnepooobmbfbaa.dsk
/- The code's disk gives what is asked of it. -/
namespace Go.Proofs.Ytpnepooobmbfbaa.dsk
open Go.ChangeShapes Go.WideShapes Go.ChangeAt Go.RowKit
open Go.Proofs.Ytpnepooobmbfbaa.rows
open Go.Proofs.Ytpnepooobmbfbaa.sec
open Go.Maps
set_option linter.unusedVariables false
set_option linter.unusedSimpArgs false

theorem ca_kept (w w' : World) (F : Nat → Prop) (d : Value) (st : St) (h : CA w F d st) (k : Keeps F w w') : CA w' F d st := by
  obtain ⟨z, g, vs, vw, vn, vl, vf, hd, h⟩ := h
  exact ⟨z, g, vs, vw, vn, vl, vf, hd, codeAt_kept h k⟩
end Go.Proofs.Ytpnepooobmbfbaa.dsk
/- knows returns true. -/
namespace Go.Proofs.Ytpnepooobmbfbaa.dsk
set_option maxRecDepth 100000
open Go.ChangeShapes Go.WideShapes Go.ChangeAt Go.RowKit
open Go.Proofs.Ytpnepooobmbfbaa.rows
open Go.Proofs.Ytpnepooobmbfbaa.sec
open Go.Maps
set_option linter.unusedVariables false
set_option linter.unusedSimpArgs false

def sK : List Int := 1 :: 2 :: List.replicate 30 0
theorem sec_sK : Sec sK := ⟨by decide, by decide⟩
def stK1 : St := ⟨List.replicate 4 zero32, [⟨3, sK, 1, 1, 0⟩], 0, [(1, ⟨3, sK, 1, 1, 0⟩, [])], [], 1⟩
def stK2 : St := ⟨[zero32, zero32, zero32, sK], [], 0, [(1, ⟨3, sK, 1, 1, 0⟩, []), (2, w0, [(1, 1)])], [], 2⟩
theorem kn1 : writeR (st0 (List.replicate 4 zero32)) 3 sK 1 1 = (0, stK1) := by rfl
theorem kn2 : syncR stK1 [(1, 1)] = (0, stK2) := by rfl
theorem kn3 : readR stK1 3 = .tuple #[agg sK, .int .i64 0] := by rfl
theorem secs4 : Secs (List.replicate 4 zero32) := secs_zero 4
theorem secs4b : Secs [zero32, zero32, zero32, sK] := by
  intro s hs
  simp only [List.mem_cons, List.not_mem_nil, or_false] at hs
  rcases hs with h | h | h | h <;> subst h <;> first | exact sec_zero | exact sec_sK
theorem fine0 : (st0 (List.replicate 4 zero32)).fine := ⟨⟨secs4, fun x hx => (by cases hx), fun x hx => (by cases hx), fun x hx => (by cases hx), by decide, by decide, by decide, by decide, by decide, by decide, by decide⟩, by decide, fun x hx => (by cases hx)⟩
theorem fine1 : stK1.fine := by
  refine ⟨⟨secs4, fun x hx => ?_, fun x hx => ?_, fun x hx => ?_, by decide, by decide, by decide, by decide, by decide, by decide, by decide⟩, by decide, fun x hx => ?_⟩
  · rw [List.mem_singleton.1 hx]; exact sec_sK
  · rw [List.mem_singleton.1 hx]; exact sec_sK
  · rw [List.mem_singleton.1 hx]; decide
  · rw [List.mem_singleton.1 hx]; exact ⟨by decide, by decide⟩
theorem fine2 : stK2.fine := by
  refine ⟨⟨secs4b, fun x hx => (by cases hx), fun x hx => ?_, fun x hx => ?_, by decide, by decide, by decide, by decide, by decide, by decide, by decide⟩, by decide, fun x hx => (by cases hx)⟩
  · simp only [stK2, List.mem_cons, List.not_mem_nil, or_false] at hx
    rcases hx with h | h <;> subst h <;> first | exact sec_sK | exact sec_zero
  · simp only [stK2, List.mem_cons, List.not_mem_nil, or_false] at hx
    rcases hx with h | h <;> subst h <;> decide
theorem knows_write (w1 w2 : World) (F : Nat → Prop) (d : Value) (h : CA w1 F d (st0 (List.replicate 4 zero32))) (hb : Below w1.heap.size w1 w2) : Calls Try.prog 25 #[d, .int .i64 3, agg sK, .agg #[.int .i64 1, .int .i64 1]] w2 fun e w' => e = .returned (.int .i64 0) ∧ CA w' (grow F w2 w') d stK1 ∧ Touch F w2 w' := by
  have h1 := cwrite w2 F d (st0 (List.replicate 4 zero32)) 3 sK 1 1 (ca_kept _ _ _ _ _ h (Keeps.of_below hb)) fine0 (WalkArith.wf_i64 (by omega)) sec_sK (WalkArith.wf_i64 (by omega)) (WalkArith.wf_i64 (by omega))
  rw [kn1] at h1
  exact h1
theorem knows_read (w : World) (F : Nat → Prop) (d : Value) (h : CA w F d stK1) : Calls Try.prog 33 #[d, .int .i64 3] w fun e w' => e = .returned (.tuple #[agg sK, .int .i64 0]) ∧ Below w.heap.size w w' ∧ CA w' F d stK1 := by
  have h1 := cread w F d stK1 3 h fine1 (WalkArith.wf_i64 (by omega))
  rw [kn3] at h1
  exact h1.mono fun e w' ⟨a, b⟩ => ⟨a, b, ca_kept _ _ _ _ _ h (Keeps.of_below b)⟩
theorem knows_safe1 (w : World) (F : Nat → Prop) (d : Value) (h : CA w F d stK1) : Calls Try.prog 29 #[d] w fun e w' => ∃ p c, e = .returned (.slice p 4 c) ∧ Own w' w.heap.size 62 32 (.slice p 4 c) 4 (cellsOf stK1.safe) ∧ Below w.heap.size w w' ∧ CA w' F d stK1 :=
  (csafeO w F d stK1 h fine1).mono fun e w' ⟨p, c, a, b, k⟩ => ⟨p, c, a, b, k, ca_kept _ _ _ _ _ h (Keeps.of_below k)⟩
theorem knows_safe2 (w : World) (F : Nat → Prop) (d : Value) (h : CA w F d stK2) : Calls Try.prog 29 #[d] w fun e w' => ∃ p c, e = .returned (.slice p 4 c) ∧ Rd w' 32 (.slice p 4 c) 4 (cellsOf stK2.safe) ∧ Below w.heap.size w w' ∧ CA w' F d stK2 :=
  (csafe w F d stK2 h fine2).mono fun e w' ⟨p, c, a, b, k⟩ => ⟨p, c, a, b, k, ca_kept _ _ _ _ _ h (Keeps.of_below k)⟩
theorem knows_sync (w : World) (F : Nat → Prop) (d : Value) (h : CA w F d stK1) (hF : ¬ F w.heap.size) : Calls Try.prog 26 #[d, .slice (some ⟨w.heap.size, 0, none⟩) 1 1] (w.alloc (.cells (tagC (1, 1)).toArray 64)) fun e w' => e = .returned (.int .i64 0) ∧ CA w' (grow F (w.alloc (.cells (tagC (1, 1)).toArray 64)) w') d stK2 ∧ Touch F (w.alloc (.cells (tagC (1, 1)).toArray 64)) w' := by
  have h1 := csync (w.alloc (.cells (tagC (1, 1)).toArray 64)) F d stK1 (some ⟨w.heap.size, 0, none⟩) 1 1 [(1, 1)] (ca_kept _ _ _ _ _ h (Keeps.of_below (below_alloc (Below.refl _ _) _))) fine1 (by have := rd_laid w 64 2 (tagC (1, 1)) rfl; exact this) (fun a n c e _ => by cases e; exact hF) (by decide) (fun t ht => by rw [List.mem_singleton.1 ht]; exact ⟨WalkArith.wf_i64 (by omega), WalkArith.wf_i64 (by omega)⟩)
  rw [kn2] at h1
  exact h1
theorem knows_wait (w : World) (F : Nat → Prop) (d : Value) (h : CA w F d stK2) : Calls Try.prog 30 #[d] w fun e w' => ∃ p c, e = .returned (.slice p 0 c) ∧ Below w.heap.size w w' ∧ CA w' F d stK2 :=
  (cwaiting w F d stK2 h fine2).mono fun e w' ⟨p, c, a, b, k⟩ => ⟨p, c, a, k, ca_kept _ _ _ _ _ h (Keeps.of_below k)⟩
theorem knows_log (w : World) (F : Nat → Prop) (d : Value) (h : CA w F d stK2) : Calls Try.prog 28 #[d] w fun e w' => ∃ p c, e = .returned (.slice p 2 c) ∧ Below w.heap.size w w' :=
  (clog w F d stK2 h fine2).mono fun e w' ⟨p, c, es, a, b, k⟩ => ⟨p, c, a, k⟩
theorem eqs_same (w : World) : (Op.equalIn 10000 62 (.agg (u8s sK).toArray) (.agg (u8s sK).toArray)).run Try.prog w = .ok true w := by
  rw [eqIn_sec w sec_sK sec_sK, decide_eq_true rfl]
theorem eqs_other (w : World) : (Op.equalIn 10000 62 (.agg (u8s zero32).toArray) (.agg (u8s sK).toArray)).run Try.prog w = .ok false w := by
  rw [eqIn_sec w sec_zero sec_sK, decide_eq_false (by decide)]
end Go.Proofs.Ytpnepooobmbfbaa.dsk
/- What the code's calls give on a disk that nobody made. -/
namespace Go.Proofs.Ytpnepooobmbfbaa.dsk
set_option maxRecDepth 100000
open Go.ChangeShapes Go.WideShapes Go.ChangeAt Go.RowKit
open Go.Proofs.Ytpnepooobmbfbaa.rows
open Go.Proofs.Ytpnepooobmbfbaa.sec
open Go.Maps
set_option linter.unusedVariables false
set_option linter.unusedSimpArgs false

/-- nobody made d -/
def Unmade (w : World) (d : Value) : Prop := d = .pointer none ∨ ∃ g, d = .pointer (some ⟨g, 0, none⟩) ∧ w.cell? ⟨g, 0, none⟩ = some (.pointer none) ∧ g < w.heap.size
theorem Unmade.later {w w' : World} {d : Value} (h : Unmade w d) (hb : Below w.heap.size w w') : Unmade w' d := by
  rcases h with h | ⟨g, h1, h2, h3⟩
  · exact Or.inl h
  · exact Or.inr ⟨g, h1, (hb.cell (p := ⟨g, 0, none⟩) h3).trans h2, Nat.lt_of_lt_of_le h3 hb.size⟩
end Go.Proofs.Ytpnepooobmbfbaa.dsk
/- BdiskReads: the array of what was written last, the act, and the states. -/
namespace Go.Proofs.Ytpnepooobmbfbaa.dsk
open Go.ChangeShapes Go.WideShapes Go.ChangeAt Go.RowKit
open Go.Proofs.Ytpnepooobmbfbaa.rows
open Go.Proofs.Ytpnepooobmbfbaa.sec
set_option linter.unusedVariables false
set_option linter.unusedSimpArgs false

/-! the act -/
/-! the states -/
/-- what BdiskReads has read and written -/
structure RState (n : Nat) (k : Nat) (st : St) : Prop where
  good : st.good k
  bad : st.bad = []
  len : st.safe.length = n
theorem RState.asks {n k : Nat} {st : St} (h : RState n k st) : asks st = false := by rw [dsk.asks, h.bad]; rfl
def lastOfSt (st : St) : List (List Int) := seenOf st ++ List.replicate (65 - st.safe.length) zero32
theorem rstate_write {n k : Nat} {st : St} (h : RState n k st) {W : World} (a : Act0) (hok : a.ok W) (hin : 0 ≤ a.pos ∧ a.pos < (n : Int)) :
    writeR st a.pos a.s a.k a.id = (0, { st with asked := st.asked + 1, wait := st.wait ++ [⟨a.pos, a.s, a.k, a.id, st.ep⟩], log := st.log ++ [(1, ⟨a.pos, a.s, a.k, a.id, st.ep⟩, [])] }) ∧ RState n (k + 1) (writeR st a.pos a.s a.k a.id).2 ∧ lastOfSt (writeR st a.pos a.s a.k a.id).2 = (lastOfSt st).set a.pos.toNat a.s := by
  have e : writeR st a.pos a.s a.k a.id = (0, { st with asked := st.asked + 1, wait := st.wait ++ [⟨a.pos, a.s, a.k, a.id, st.ep⟩], log := st.log ++ [(1, ⟨a.pos, a.s, a.k, a.id, st.ep⟩, [])] }) := by
    rw [writeR, if_pos (by rw [h.len]; exact hin), if_neg (by rw [h.asks]; decide)]
  have g := good_next (W := W) h.good { a with kind := 0, ts := [], bad := [], vt := .slice none 0 0, vb := .slice none 0 0 } ⟨hok.sec, wf0, hok.pos, hok.k, hok.id, ⟨none, 0, rfl, rd_nil _ _⟩, ⟨none, 0, rfl, rd_nil _ _⟩, Nat.zero_le _, Nat.zero_le _, fun t ht => (by cases ht), fun t ht => (by cases ht)⟩ ⟨Nat.zero_le _, Nat.zero_le _⟩
  have g2 : (writeR st a.pos a.s a.k a.id).2.good (k + 1) := g
  refine ⟨e, ⟨g2, by rw [e]; exact h.bad, by rw [e]; exact h.len⟩, ?_⟩
  rw [e]
  show seenOf { st with asked := st.asked + 1, wait := st.wait ++ [⟨a.pos, a.s, a.k, a.id, st.ep⟩], log := st.log ++ [(1, ⟨a.pos, a.s, a.k, a.id, st.ep⟩, [])] } ++ List.replicate (65 - st.safe.length) zero32 = _
  have e2 : seenOf { st with asked := st.asked + 1, wait := st.wait ++ [⟨a.pos, a.s, a.k, a.id, st.ep⟩], log := st.log ++ [(1, ⟨a.pos, a.s, a.k, a.id, st.ep⟩, [])] } = (seenOf st).set a.pos.toNat a.s := seenOf_more st ⟨a.pos, a.s, a.k, a.id, st.ep⟩
  rw [e2, lastOfSt, List.set_append_left _ _ (by rw [seenOf_len, h.len]; omega)]
theorem rstate_out {n k : Nat} {st : St} (h : RState n k st) {W : World} (a : Act0) (hok : a.ok W) (hin : ¬ (0 ≤ a.pos ∧ a.pos < (n : Int))) :
    writeR st a.pos a.s a.k a.id = (1, st.asked1) ∧ RState n (k + 1) st.asked1 ∧ lastOfSt st.asked1 = lastOfSt st :=
  ⟨by rw [writeR, if_neg (by rw [h.len]; exact hin)], ⟨good_asked h.good, h.bad, h.len⟩, rfl⟩
theorem rstate_bar {n k : Nat} {st : St} (h : RState n k st) (w : World) : RState n (k + 1) (barrier st).2 ∧ lastOfSt (barrier st).2 = lastOfSt st := by
  have e : barrier st = (0, { st with asked := st.asked + 1, ep := st.ep + 1, log := st.log ++ [(3, w0, [])] }) := if_neg (by rw [h.asks]; decide)
  have g := good_bar h.good w
  refine ⟨⟨g, by rw [e]; exact h.bad, by rw [e]; exact h.len⟩, by rw [e]; rfl⟩
theorem rstate_sync {n k : Nat} {st : St} (h : RState n k st) (hk : k ≤ 900) {W : World} (a : Act0) (hok : a.ok W) (hl : a.light) :
    RState n (k + 1) (syncR st a.ts).2 ∧ lastOfSt (syncR st a.ts).2 = lastOfSt st ∧ (syncR st a.ts).2.safe = (settle st.safe st.wait a.ts).1 := by
  have e : syncR st a.ts = (0, { st with safe := (settle st.safe st.wait a.ts).1, wait := (settle st.safe st.wait a.ts).2, asked := st.asked + 1, log := st.log ++ [(2, w0, a.ts)] }) := by rw [syncR, if_neg (by rw [h.asks]; decide)]
  have g := good_next (W := W) h.good { a with kind := 2 } ⟨hok.sec, wf2, hok.pos, hok.k, hok.id, hok.ts, hok.bad, hok.tsl, hok.badl, hok.tswf, hok.badwf⟩ hl
  have g2 : (syncR st a.ts).2.good (k + 1) := g
  have hlen : (settle st.safe st.wait a.ts).1.length = st.safe.length := outOf_len _ _ _
  refine ⟨⟨g2, by rw [e]; exact h.bad, by rw [e]; exact hlen.trans h.len⟩, ?_, by rw [e]⟩
  rw [e, lastOfSt, lastOfSt]
  have e1 : seenOf { st with safe := (settle st.safe st.wait a.ts).1, wait := (settle st.safe st.wait a.ts).2, asked := st.asked + 1, log := st.log ++ [(2, w0, a.ts)] } = seenOf st := seen_settled _ _ _ fun x hx => ((h.good.fine hk).pos x hx).1
  rw [e1]
  show seenOf st ++ List.replicate (65 - (settle st.safe st.wait a.ts).1.length) zero32 = _
  rw [hlen]
end Go.Proofs.Ytpnepooobmbfbaa.dsk
