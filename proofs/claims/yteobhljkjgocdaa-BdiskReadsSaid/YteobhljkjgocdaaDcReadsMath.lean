/- BdiskReads: the array of what was written last, the act, and the states. -/
import Derived.Test.YteobhljkjgocdaaDcKnows
import Derived.Test.YteobhljkjgocdaaDcNobody
import Derived.Test.YteobhljkjgocdaaDskSynced
import Derived.Test.YteobhljkjgocdaaDskWalk
namespace Go.Proofs.Yteobhljkjgocdaa.dsk
open Go.ChangeShapes Go.WideShapes Go.ChangeAt Go.RowKit
open Go.Proofs.Yteobhljkjgocdaa.rows
open Go.Proofs.Yteobhljkjgocdaa.sec
set_option linter.unusedVariables false
set_option linter.unusedSimpArgs false

def z65 : List (List Int) := List.replicate 65 zero32
/-- the array last lies in block g -/
def LastAt (w : World) (g : Nat) (ss : List (List Int)) : Prop := w.heap[g]? = some (.cells (cellsOf ss).toArray 61 (0, 0))
theorem zero_last (w : World) : (zeroValue 61).run Try.prog w = .ok (.agg (cellsOf z65).toArray) w := by kernel_rfl
theorem LastAt.lt {w : World} {g : Nat} {ss : List (List Int)} (h : LastAt w g ss) : g < w.heap.size := (Array.getElem?_eq_some_iff.1 h).1
theorem LastAt.range {w : World} {g : Nat} {ss : List (List Int)} (h : LastAt w g ss) (hs : Secs ss) {k : Nat} (hk : k < ss.length) : w.rangeAt g (k * 32) (u8s ss[k]) := by
  intro i u hi
  have hl : i < 32 := by have := (List.getElem?_eq_some_iff.1 hi).1; rw [u8s_len, (hs _ (List.getElem_mem hk)).1] at this; exact this
  refine cell_row h _ _ ?_
  rw [List.getElem?_toArray, cellsOf_map]
  rw [chunk_at u8s 32 ss (fun x hx => by rw [u8s_len, (hs x hx).1]) k hk i hl]
  exact hi
theorem run_store_last {w : World} {g i : Nat} {ss : List (List Int)} (h : LastAt w g ss) (hs : Secs ss) (hi : i < ss.length) {s : List Int} (hl : Sec s) :
    (storeVar 35 ⟨g, i * 32, none⟩ (.agg (u8s s).toArray)).run Try.prog w = .ok () (w.setRow g (cellsOf (ss.set i s)).toArray) := by
  have h1 := run_storeCells_at (P := Try.prog) g (i * 32) 61 (u8s s) 0 (cellsOf ss).toArray w h (by simp [cellsOf_len hs, u8s_len, hl.1]; omega) (one_ints .u8 s)
  rw [Nat.add_zero, u8s_len, hl.1] at h1
  have e : (cellsOf ss).toArray.toList.take (i * 32) ++ u8s s ++ (cellsOf ss).toArray.toList.drop (i * 32 + 32) = cellsOf (ss.set i s) := by
    rw [cellsOf_map, cellsOf_map]
    exact put_chunk u8s 32 ss i s (fun y hy => by rw [u8s_len, (hs y hy).1]) (by rw [u8s_len, hl.1]) hi
  rw [e] at h1
  cases hq : Try.prog.info? 35 with
  | none => have := info_sec; simp [hq] at this
  | some q =>
    have hsz : q.size = 32 := by have := info_sec; simpa [hq] using this
    have hc : (Value.agg (u8s s).toArray).cells = (u8s s).toArray := rfl
    simp [storeVar, sizeOf, typeInfo, hq, hsz, hc, u8s_len, hl.1, h1]
theorem store_last {ops : Array Oper} {rest : List Oper} {o : Oper} {a : Act} {w : World} {Q : Exit → Act → World → Prop} (hgd : o.guard = none) (x y : Operand) (ho : o.op = .store 35 x y) (hd : o.dst = none)
    (g i : Nat) (hx : a.eval x = .pointer (some ⟨g, i * 32, none⟩)) (s : List Int) (hy : a.eval y = agg s) (hl : Sec s) (ss : List (List Int)) (hs : Secs ss) (hi : i < ss.length) (hg : LastAt w g ss)
    (h : ∀ w', LastAt w' g (ss.set i s) → Touch (· = g) w w' → wpList Try.prog ops Q rest a w') : wpList Try.prog ops Q (o :: rest) a w := by
  refine wpList_plain hgd fun K hK => ?_
  have hrun := run_store_last hg hs hi hl
  unfold agg at hy
  unfold Oper.wp execOp
  simp only [ho, hx, hy, Instr.storeAt, Instr.sureAddr, Sem.run_bind, Sem.run_pure, Result.andThen_ok, hrun]
  refine hK _ _ ?_
  rw [hd]
  exact h _ (setRow_heap w g _ _ _ _ hg) (touch_setRow w g _)
/-! the act -/
def act0 : Act0 := ⟨0, 0, zero32, 0, 0, [], [], .slice none 0 0, .slice none 0 0⟩
theorem load_act {ops : Array Oper} {rest : List Oper} {o : Oper} {a : Act} {w : World} {Q : Exit → Act → World → Prop} (hgd : o.guard = none) (x : Operand) (ho : o.op = .load 41 x)
    (b off : Nat) (hx : a.eval x = .pointer (some ⟨b, off, none⟩)) (y : Act0) (hs : y.c.length = 38) (hg : w.rangeAt b off y.c)
    (h : wpList Try.prog ops Q rest (a.put o.dst (.agg y.c.toArray)) w) : wpList Try.prog ops Q (o :: rest) a w :=
  wpList_load_mid hgd 41 x ho b off hx y.c _ hg und_act rfl (by rw [info_act, hs]) h
theorem boxed_new (w : World) : Boxed w.heap.size act0 (w.alloc (.cells act0.c.toArray 41)) := heap_alloc_new _ _
theorem act_ones {W : World} {a : Act0} (h : a.ok W) : ∀ u ∈ a.c, u.oneCell' = true := by
  obtain ⟨p1, c1, e1, _⟩ := h.ts
  obtain ⟨p2, c2, e2, _⟩ := h.bad
  intro u hu
  rw [Act0.c, e1, e2] at hu
  simp only [List.mem_cons, List.mem_append, List.not_mem_nil, or_false] at hu
  rcases hu with h | h | h | h | h | h | h
  · subst h; rfl
  · subst h; rfl
  · exact one_ints .u8 _ u h
  · subst h; rfl
  · subst h; rfl
  · subst h; rfl
  · subst h; rfl
theorem store_act {ops : Array Oper} {rest : List Oper} {o : Oper} {a : Act} {w : World} {Q : Exit → Act → World → Prop} (hgd : o.guard = none) (x y : Operand) (ho : o.op = .store 41 x y) (hd : o.dst = none)
    {W : World} (g : Nat) (z old : Act0) (hx : a.eval x = .pointer (some ⟨g, 0, none⟩)) (hy : a.eval y = .agg z.c.toArray) (hz : z.ok W) (hold : old.c.length = 38) (hg : Boxed g old w)
    (h : ∀ w', Boxed g z w' → Below g w w' → wpList Try.prog ops Q rest a w') : wpList Try.prog ops Q (o :: rest) a w := by
  have hzl := Act0.c_len hz
  refine wpList_store_row hgd 41 x y ho g z.c.toArray hx hy 41 _ hg (by rw [info_act]; simp [hzl]) (by simp [hzl, hold]) (by simp only [List.all_toArray]; exact List.all_eq_true.2 (act_ones hz)) ?_
  rw [hd]
  exact h _ (setRow_heap w g _ _ _ _ hg) ((Below.refl g w).trans ⟨rfl, rfl, rfl, by simp [World.setRow], fun k hk => setRow_other w g k _ (by omega)⟩)
/-! the states -/
/-- what BdiskReads has read and written -/
structure RState (n : Nat) (k : Nat) (st : St) : Prop where
  good : st.good k
  bad : st.bad = []
  len : st.safe.length = n
theorem RState.asks {n k : Nat} {st : St} (h : RState n k st) : asks st = false := by rw [dsk.asks, h.bad]; rfl
def lastOfSt (st : St) : List (List Int) := seenOf st ++ List.replicate (65 - st.safe.length) zero32
theorem lastOfSt_len {n k : Nat} {st : St} (h : RState n k st) (hn : n ≤ 65) : (lastOfSt st).length = 65 := by
  rw [lastOfSt, List.length_append, seenOf_len, List.length_replicate, h.len]; omega
theorem lastOfSt_secs {n k : Nat} {st : St} (h : RState n k st) (hk : k ≤ 900) : Secs (lastOfSt st) := fun s hs => by
  rcases List.mem_append.1 hs with hs | hs
  · exact seenOf_secs (h.good.fine hk) s hs
  · rw [List.eq_of_mem_replicate hs]; exact sec_zero
theorem lastOfSt_at {n k : Nat} {st : St} (h : RState n k st) (hk : k ≤ 900) {j : Nat} (hj : j < n) : (lastOfSt st)[j]? = some (readOf st j) := by
  rw [lastOfSt, List.getElem?_append_left (by rw [seenOf_len, h.len]; exact hj)]
  exact seen_at j st.wait st.safe (fun x hx => ((h.good.fine hk).pos x hx).1) (by rw [h.len]; exact hj)
theorem rstate_write {n k : Nat} {st : St} (h : RState n k st) {W : World} (a : Act0) (hok : a.ok W) (hin : 0 ≤ a.pos ∧ a.pos < (n : Int)) :
    writeR st a.pos a.s a.k a.id = (0, { st with asked := st.asked + 1, wait := st.wait ++ [⟨a.pos, a.s, a.k, a.id, st.ep⟩], log := st.log ++ [(1, ⟨a.pos, a.s, a.k, a.id, st.ep⟩, [])] }) ∧ RState n (k + 1) (writeR st a.pos a.s a.k a.id).2 ∧ lastOfSt (writeR st a.pos a.s a.k a.id).2 = (lastOfSt st).set a.pos.toNat a.s := by
  have e : writeR st a.pos a.s a.k a.id = (0, { st with asked := st.asked + 1, wait := st.wait ++ [⟨a.pos, a.s, a.k, a.id, st.ep⟩], log := st.log ++ [(1, ⟨a.pos, a.s, a.k, a.id, st.ep⟩, [])] }) := by
    rw [writeR, if_pos (by rw [h.len]; exact hin), if_neg (by rw [h.asks]; decide)]
  have g := good_next (W := W) h.good { a with kind := 0, ts := [], bad := [], vt := .slice none 0 0, vb := .slice none 0 0 } ⟨hok.sec, wf0, hok.pos, hok.k, hok.id, ⟨none, 0, rfl, rd_nil _ _⟩, ⟨none, 0, rfl, rd_nil _ _⟩, Nat.zero_le _, Nat.zero_le _, fun t ht => (by cases ht), fun t ht => (by cases ht)⟩ ⟨Nat.zero_le _, Nat.zero_le _⟩
  have g2 : (writeR st a.pos a.s a.k a.id).2.good (k + 1) := g
  refine ⟨e, ⟨g2, by rw [e]; exact h.bad, by rw [e]; exact h.len⟩, ?_⟩
  rw [e]
  show seenOf { st with asked := st.asked + 1, wait := st.wait ++ [⟨a.pos, a.s, a.k, a.id, st.ep⟩], log := st.log ++ [(1, ⟨a.pos, a.s, a.k, a.id, st.ep⟩, [])] } ++ List.replicate (65 - st.safe.length) zero32 = _
  have e2 : seenOf { st with asked := st.asked + 1, wait := st.wait ++ [⟨a.pos, a.s, a.k, a.id, st.ep⟩], log := st.log ++ [(1, ⟨a.pos, a.s, a.k, a.id, st.ep⟩, [])] } = (seenOf st).set a.pos.toNat a.s := seenOf_more st ⟨a.pos, a.s, a.k, a.id, st.ep⟩
  rw [e2, lastOfSt, List.set_append_left _ _ (by rw [seenOf_len, h.len]; omega)]
theorem rstate_out {n k : Nat} {st : St} (h : RState n k st) {W : World} (a : Act0) (hok : a.ok W) (hin : ¬ (0 ≤ a.pos ∧ a.pos < (n : Int))) :
    writeR st a.pos a.s a.k a.id = (1, st.asked1) ∧ RState n (k + 1) st.asked1 ∧ lastOfSt st.asked1 = lastOfSt st :=
  ⟨by rw [writeR, if_neg (by rw [h.len]; exact hin)], ⟨good_asked h.good, h.bad, h.len⟩, rfl⟩
theorem rstate_bar {n k : Nat} {st : St} (h : RState n k st) (w : World) : RState n (k + 1) (barrier st).2 ∧ lastOfSt (barrier st).2 = lastOfSt st := by
  have e : barrier st = (0, { st with asked := st.asked + 1, ep := st.ep + 1, log := st.log ++ [(3, w0, [])] }) := if_neg (by rw [h.asks]; decide)
  have g := good_bar h.good w
  refine ⟨⟨g, by rw [e]; exact h.bad, by rw [e]; exact h.len⟩, by rw [e]; rfl⟩
theorem rstate_sync {n k : Nat} {st : St} (h : RState n k st) (hk : k ≤ 900) {W : World} (a : Act0) (hok : a.ok W) (hl : a.light) :
    RState n (k + 1) (syncR st a.ts).2 ∧ lastOfSt (syncR st a.ts).2 = lastOfSt st ∧ (syncR st a.ts).2.safe = (settle st.safe st.wait a.ts).1 := by
  have e : syncR st a.ts = (0, { st with safe := (settle st.safe st.wait a.ts).1, wait := (settle st.safe st.wait a.ts).2, asked := st.asked + 1, log := st.log ++ [(2, w0, a.ts)] }) := by rw [syncR, if_neg (by rw [h.asks]; decide)]
  have g := good_next (W := W) h.good { a with kind := 2 } ⟨hok.sec, wf2, hok.pos, hok.k, hok.id, hok.ts, hok.bad, hok.tsl, hok.badl, hok.tswf, hok.badwf⟩ hl
  have g2 : (syncR st a.ts).2.good (k + 1) := g
  have hlen : (settle st.safe st.wait a.ts).1.length = st.safe.length := outOf_len _ _ _
  refine ⟨⟨g2, by rw [e]; exact h.bad, by rw [e]; exact hlen.trans h.len⟩, ?_, by rw [e]⟩
  rw [e, lastOfSt, lastOfSt]
  have e1 : seenOf { st with safe := (settle st.safe st.wait a.ts).1, wait := (settle st.safe st.wait a.ts).2, asked := st.asked + 1, log := st.log ++ [(2, w0, a.ts)] } = seenOf st := seen_settled _ _ _ fun x hx => ((h.good.fine hk).pos x hx).1
  rw [e1]
  show seenOf st ++ List.replicate (65 - (settle st.safe st.wait a.ts).1.length) zero32 = _
  rw [hlen]
end Go.Proofs.Yteobhljkjgocdaa.dsk
