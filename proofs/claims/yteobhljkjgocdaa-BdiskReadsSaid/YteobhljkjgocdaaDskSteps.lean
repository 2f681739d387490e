/- The makings of a slice as steps of a region that draws its order, the worlds behind them named. -/
import Derived.Test.YteobhljkjgocdaaDskBuild
import Derived.Test.YteobhljkjgocdaaHeldLast
namespace Go.Proofs.Yteobhljkjgocdaa.dsk
open Go.ChangeShapes Go.WideShapes Go.ChangeAt Go.RowKit
open Go.Proofs.Yteobhljkjgocdaa.rows
open Go.Proofs.Yteobhljkjgocdaa.sec
set_option linter.unusedVariables false
set_option linter.unusedSimpArgs false

theorem run_build_none {t e : TypeId} {sz by_ : Nat} {z : Value} (E : Elem t e sz by_ z) (w : World) : (Instr.buildSlice t 0 #[]).run Try.prog w = .ok (.slice (some ⟨w.heap.size, 0, none⟩) 0 0) (w.alloc (.cells #[] e)) := by
  obtain ⟨ie, hi, hz0, hz1, hz2⟩ := info_parts E.info
  have hsz : (sizeOf e).run Try.prog w = .ok ie.size w := by simp [sizeOf, typeInfo, hi]
  simp [Instr.buildSlice, run_underlying E.und, hsz, Instr.fill, newRow]
  rw [show Array.range 0 = #[] from by apply Array.ext <;> simp, Array.map_empty]
theorem step_made {t e : TypeId} {sz by_ : Nat} {z : Value} (E : Elem t e sz by_ z) (B : Nat) {ops : Array Oper} {o : Oper} {a : Act} {w : World} {K : Act → World → Prop} {Q : Exit → Act → World → Prop} {F : Prop} (hw : Region.wanted o (yielded ops a.tmps) = true)
    (ho : o.op = .buildSlice t 0 #[]) (hB : B ≤ w.heap.size) (h : ∀ b w', w.heap.size ≤ b ∧ b < w'.heap.size → Own w' B e sz (.slice (some ⟨b, 0, none⟩) 0 0) 0 [] → Below w.heap.size w w' → K (a.put o.dst (.slice (some ⟨b, 0, none⟩) 0 0)) w') : if Region.wanted o (yielded ops a.tmps) = true then Oper.wp Try.prog o a w K Q else F := by
  rw [if_pos hw]
  have hr := run_build_none E w
  unfold Oper.wp execOp
  simp only [ho, Sem.run_bind, List.map_toArray, List.map_nil, hr, Result.andThen_ok]
  exact h _ _ ⟨Nat.le_refl _, by simp⟩ (own_made w e sz hB) (below_alloc (Below.refl _ _) _)
theorem step_one {t e : TypeId} {sz by_ : Nat} {z : Value} (E : Elem t e sz by_ z) (hsz : sz ≤ 1000) {ops : Array Oper} {o : Oper} {a : Act} {w : World} {K : Act → World → Prop} {Q : Exit → Act → World → Prop} {F : Prop} (hw : Region.wanted o (yielded ops a.tmps) = true) (x : Operand) (ho : o.op = .buildSlice t 1 #[(0, x)])
    (cs : List Value) (hx : (a.eval x).cells = cs.toArray) (hs : cs.length = sz) (h : ∀ b w', w.heap.size ≤ b ∧ b < w'.heap.size → Rd w' sz (.slice (some ⟨b, 0, none⟩) 1 1) 1 cs → Below w.heap.size w w' → K (a.put o.dst (.slice (some ⟨b, 0, none⟩) 1 1)) w') : if Region.wanted o (yielded ops a.tmps) = true then Oper.wp Try.prog o a w K Q else F :=
  step_build_one E hsz hw x ho cs hx hs (h _ _ ⟨Nat.le_refl _, by simp⟩ (rd_laid w e sz cs hs) (below_alloc (Below.refl _ _) _))
/-- a variable of its own -/
theorem step_alloc {T : TypeId} {z : List Value} (hz : (Try.prog.info? T).map (·.zero) = some (some (.agg z.toArray))) {ops : Array Oper} {o : Oper} {a : Act} {w : World} {K : Act → World → Prop} {Q : Exit → Act → World → Prop} {F : Prop} (hw : Region.wanted o (yielded ops a.tmps) = true)
    (ho : o.op = .alloc T) (h : ∀ b w', w.heap.size ≤ b → w'.heap[b]? = some (.cells z.toArray T (0, 0)) → Below w.heap.size w w' → K (a.put o.dst (.pointer (some ⟨b, 0, none⟩))) w') : if Region.wanted o (yielded ops a.tmps) = true then Oper.wp Try.prog o a w K Q else F := by
  rw [if_pos hw]
  have hzr : (zeroValue T).run Try.prog w = .ok (.agg z.toArray) w := by
    cases hq : Try.prog.info? T with
    | none => simp [hq] at hz
    | some it =>
      have h0 : it.zero = some (.agg z.toArray) := by simpa [hq] using hz
      simp [zeroValue, typeInfo, hq, h0]
  unfold Oper.wp execOp
  simp [ho, hzr, Instr.alloc, newVar, newRow, Value.cells]
  exact h _ _ (Nat.le_refl _) (heap_alloc_new _ _) (below_alloc (Below.refl _ _) _)
theorem own_later {w w' : World} {B : Nat} {e : TypeId} {sz n : Nat} {v : Value} {cs : List Value} (h : Own w B e sz v n cs) (hb : Below w.heap.size w w') : Own w' B e sz v n cs := by
  refine ⟨h.1, ?_⟩
  rcases h.2 with h2 | ⟨g, cap, cur, hv, h3, h4, h5⟩
  · exact Or.inl h2
  · exact Or.inr ⟨g, cap, cur, hv, h3, (hb.block g (Array.getElem?_eq_some_iff.1 h4).1).trans h4, h5⟩
/-- of the old blocks an append writes none but its own slice's -/
theorem run_ap2 {t e : TypeId} {sz by_ : Nat} {z : Value} (E : Elem t e sz by_ z) {w : World} (ty : TypeId) (B : Nat) (v : Value) (n : Nat) (cs : List Value) (hown : Own w B e sz v n cs)
    (y : Value) (m : Nat) (ds : List Value) (hrd : Rd w sz y m ds) (h1 : ∀ u ∈ ds, u.oneCell' = true) (hl : n + m ≤ 1000000) (hB : B ≤ w.heap.size) :
    ∃ p c w', (Builtin.append_ #[t, t] ty #[v, y]).run Try.prog w = .ok (.slice p (n + m) c) w' ∧ Own w' B e sz (.slice p (n + m) c) (n + m) (cs ++ ds) ∧ Below B w w' ∧ Touch (fun k => v.ownBlock = some k) w w' := by
  obtain ⟨i0, hi, hz0, hz1, hz2⟩ := info_parts E.info
  have hby : (n + m) * by_ ≤ 140737488355328 := by
    have : (n + m) * by_ ≤ 1000000 * 1000 := Nat.mul_le_mul hl E.few
    omega
  have key : ∀ (ad : Addr) (c : Nat), y = .slice (some ad) m c → ds.length = m * sz → (∀ j u, ds[j]? = some u → w.cell? (ad.add j) = some u) → ∃ p c w', (Builtin.append_ #[t, t] ty #[v, y]).run Try.prog w = .ok (.slice p (n + m) c) w' ∧ Own w' B e sz (.slice p (n + m) c) (n + m) (cs ++ ds) ∧ Below B w w' ∧ Touch (fun k => v.ownBlock = some k) w w' := by
    intro ad c hy hm hc
    subst hy
    obtain ⟨v', w', hr, h2, h3, _⟩ := run_append_own (P := Try.prog) w B t ty e i0 z sz by_ E.und hi hz0 hz1 hz2 E.zs E.pos v n cs hown ad m c ds hm hc h1 (by unfold maxLen; omega) hby hB
    obtain ⟨p, c', rfl, h4, h5⟩ := own_out hown hB h2 h3
    exact ⟨p, c', w', hr, h4, h5, h3.os, h3.tape, h3.output, h3.size, fun k hk hn => h3.block k hk (fun e => hn e.symm)⟩
  rcases hrd with ⟨p, cap, rfl, rfl, rfl, hp⟩ | ⟨b, off, cap, rfl, h2, h2a, h2b, h3, h4, h5⟩
  · cases p with
    | none =>
      obtain rfl := hp rfl
      have hr := run_append_owned_none (P := Try.prog) (w := w) B t ty e i0 sz E.und hi v n cs hown
      obtain ⟨p, c, hv⟩ := hown.slice
      subst hv
      exact ⟨p, c, w, hr, by rw [List.append_nil]; exact hown, Below.refl B w, Touch.refl _ w⟩
    | some ad => exact key ad cap rfl (by simp) (by simp)
  · refine key ⟨b, off, none⟩ cap rfl h4 ?_
    intro j u hj
    rw [Addr.add_mid]
    exact h5 j u hj
/-- the same as one step of a region that draws its order -/
theorem step_ap2 {t e : TypeId} {sz by_ : Nat} {z : Value} (E : Elem t e sz by_ z) {w : World} {ops : Array Oper} {o : Oper} {a : Act} {K : Act → World → Prop} {Q : Exit → Act → World → Prop} {F : Prop} (hw : Region.wanted o (yielded ops a.tmps) = true) (s x : Operand)
    (ho : o.op = .call { callee := .builtin .append, args := #[s, x], argTypes := #[t, t] })
    (B : Nat) (v : Value) (n : Nat) (cs : List Value) (hs : a.eval s = v) (hown : Own w B e sz v n cs) (y : Value) (m : Nat) (ds : List Value) (hx : a.eval x = y) (hrd : Rd w sz y m ds) (h1 : ∀ u ∈ ds, u.oneCell' = true) (hl : n + m ≤ 1000000) (hB : B ≤ w.heap.size)
    (h : ∀ p c w', Own w' B e sz (.slice p (n + m) c) (n + m) (cs ++ ds) → Below B w w' → Touch (fun k => v.ownBlock = some k) w w' → K (a.put o.dst (.slice p (n + m) c)) w') :
    if Region.wanted o (yielded ops a.tmps) = true then Oper.wp Try.prog o a w K Q else F := by
  rw [if_pos hw]
  obtain ⟨p, c, w', hr, h2, h3, h4⟩ := run_ap2 E (w := w) o.type B v n cs hown y m ds hrd h1 hl hB
  unfold Oper.wp
  simp [execOp, ho, resolve, invoke, builtin, hs, hx, hr, Result.andThen]
  exact h p c w' h2 h3 h4
/-- a slice that lies in a block of its own reads as it did -/
theorem Rd.apart {w w' : World} {sz : Nat} {b c n : Nat} {cs : List Value} {S : Nat → Prop} (h : Rd w sz (.slice (some ⟨b, 0, none⟩) n c) n cs) (ht : Touch S w w') (hb : ¬ S b) : Rd w' sz (.slice (some ⟨b, 0, none⟩) n c) n cs :=
  Rd.kept (S := fun k => k = b) h (fun a m d hv _ => by cases hv; rfl) ⟨ht.size, fun k hk he => ht.block k hk (by rw [he]; exact hb)⟩
end Go.Proofs.Yteobhljkjgocdaa.dsk
