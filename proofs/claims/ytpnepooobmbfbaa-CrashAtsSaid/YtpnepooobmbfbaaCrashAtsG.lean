/- What CrashAts wants, part 7. -/
import Derived.Test.YtpnepooobmbfbaaCrashAtsF
import Derived.DeepKeys5
import Derived.DeepKeys3
/- Tags as keys of a map; the code's lastEpoch; how the code's Sync settles, in the document's words. -/
namespace Go.Proofs.Ytpnepooobmbfbaa.dsk
set_option maxRecDepth 100000
open Go.ChangeShapes Go.WideShapes Go.ChangeAt Go.RowKit
open Go.Proofs.Ytpnepooobmbfbaa.rows
open Go.Proofs.Ytpnepooobmbfbaa.sec
open Go.Maps
set_option linter.unusedVariables false
set_option linter.unusedSimpArgs false

theorem laidOutD : laidOutB Try.prog = true := by kernel_rfl
theorem wide_tag : (match Try.prog.underlying 64 with | some (.array _ _) | some (.struct _) => true | _ => false) = true := by kernel_rfl
theorem keyType_tag : Try.prog.keyType 64 = true := by kernel_rfl
theorem key_tag : Keyed Try.prog 64 := Keyed.of_law (deep_law_gate laidOutD (of_decide_eq_true (by kernel_rfl)) (of_decide_eq_true (by kernel_rfl)) keyType_tag wide_tag)
def tagV (k i : Int) : Value := .agg #[.int .i64 k, .int .i64 i]
def tagL (k i : Int) : Lit := .string (keyBytes [.int .i64 k, .int .i64 i])
theorem size_types : ∃ m, Try.prog.types.size = m + 1 := ⟨Try.prog.types.size - 1, of_decide_eq_true (by kernel_rfl)⟩
theorem names_tag : (Try.prog.fieldsOf 64).all (·.name != "_") = true := by kernel_rfl
theorem two_fields {fs : List Field} {a b c d : Nat} (h : fs.map (fun f => (f.type, f.offset)) = [(a, b), (c, d)]) : ∃ f0 f1, fs = [f0, f1] ∧ f0.type = a ∧ f0.offset = b ∧ f1.type = c ∧ f1.offset = d := by
  match fs, h with
  | [f0, f1], h => simp at h; exact ⟨f0, f1, rfl, h.1.1, h.1.2, h.2.1, h.2.2⟩
theorem keyOf_tag {k i : Int} (hk : wf64 k) (hi : wf64 i) : keyOf Try.prog 64 (tagV k i) = some (.string (keyBytes [.int .i64 k, .int .i64 i])) := by
  obtain ⟨m, hm⟩ := size_types
  obtain ⟨f0, f1, hfs, h0, h1, h2, h3⟩ := two_fields fields_tag2
  have hft : (tagV k i).formed Try.prog 64 = true := by simp [Value.formed, tagV, und_tag, cellsTag]
  have hwk : (Lit.int .i64 k).wf = true := hk
  have hwi : (Lit.int .i64 i).wf = true := hi
  unfold keyOf
  simp only [und_tag]
  rw [if_pos (by rw [keyType_tag, hft]; rfl), hm]
  unfold Program.keyLits
  simp only [und_tag, Value.cells, tagV]
  rw [if_pos ⟨by rw [cellsTag]; rfl, names_tag⟩, hfs, List.mapM_cons, List.mapM_cons, List.mapM_nil, h0, h1, h2, h3, cellsInt]
  simp [Program.keyLits, und_int, hwk, hwi]
theorem keyAt_tag {k i : Int} (hk : wf64 k) (hi : wf64 i) : keyOf Try.prog 64 (tagV k i) = some (tagL k i) := keyOf_tag hk hi
theorem tagL_inj {k i k' i' : Int} (hk : wf64 k) (hi : wf64 i) (hk' : wf64 k') (hi' : wf64 i') (h : tagL k i = tagL k' i') : k = k' ∧ i = i' := by
  have h1 := keyAt_tag hk hi
  have h2 := keyAt_tag hk' hi'
  rw [h] at h1
  have := key_tag.inj h1 h2
  simp [tagV] at this
  exact this
theorem und_wanted : Try.prog.underlying 127 = some (.map 64 125) := by kernel_rfl
/-- block b is the set of the tags ts -/
def Wanted (w : World) (b : Nat) (ts : List (Int × Int)) : Prop := ∃ n, ∃ D : DataW Unit, n ≤ ts.length ∧ w.ownsMap Try.prog 64 unitElem b n D ∧ ∀ k i : Int, wf64 k → wf64 i → Maps.has D (tagL k i) = decide ((k, i) ∈ ts)
theorem wanted_kept {S : Nat → Prop} {w w' : World} {b : Nat} {ts : List (Int × Int)} (h : Wanted w b ts) (hb : S b) (k : Keeps S w w') : Wanted w' b ts := by
  obtain ⟨n, D, h1, h2, h3⟩ := h
  have hlt := h2.lt
  obtain ⟨es, clock, he, r⟩ := h2
  exact ⟨n, D, h1, ⟨es, clock, (k.2 b hlt hb).trans he, r⟩, h3⟩
theorem Wanted.lt {w : World} {b : Nat} {ts : List (Int × Int)} (h : Wanted w b ts) : b < w.heap.size := by
  obtain ⟨n, D, h1, h2, h3⟩ := h
  exact h2.lt
/-! what the code's Sync settles -/
/-- which writes are made durable, as the code says it -/
def madeC (ts : List (Int × Int)) (last : Int) (x : Wr) : Bool := hasT ts x || decide (x.ep < last)
theorem staysB_congr {mk mk' : Wr → Bool} (ws : List Wr) (h : ∀ x ∈ ws, mk x = mk' x) (i : Nat) (x : Wr) (hx : x ∈ ws) : staysB mk ws i x = staysB mk' ws i x := by
  unfold staysB
  have e : (ws.drop (i + 1)).any (fun y => mk y && y.pos == x.pos) = (ws.drop (i + 1)).any (fun y => mk' y && y.pos == x.pos) := by
    rw [Bool.eq_iff_iff, List.any_eq_true, List.any_eq_true]
    constructor
    · rintro ⟨y, hy, h1⟩; exact ⟨y, hy, by rw [← h y (List.mem_of_mem_drop hy)]; exact h1⟩
    · rintro ⟨y, hy, h1⟩; exact ⟨y, hy, by rw [h y (List.mem_of_mem_drop hy)]; exact h1⟩
  rw [e, h x hx]
theorem leftUpto_congr {mk mk' : Wr → Bool} (ws : List Wr) (h : ∀ x ∈ ws, mk x = mk' x) : ∀ j, j ≤ ws.length → leftUpto mk ws j = leftUpto mk' ws j
  | 0, _ => by simp [leftUpto]
  | j + 1, hj => by
    have hjl : j < ws.length := by omega
    rw [leftUpto_snoc mk ws j hjl, leftUpto_snoc mk' ws j hjl, leftUpto_congr ws h j (by omega), staysB_congr ws h j _ (List.getElem_mem hjl)]
theorem outOf_congr {mk mk' : Wr → Bool} : ∀ (ws : List Wr) (safe : List (List Int)), (∀ x ∈ ws, mk x = mk' x) → outOf mk ws safe = outOf mk' ws safe
  | [], _, _ => rfl
  | x :: ws, safe, h => by
    show outOf mk ws (outStep mk safe x) = outOf mk' ws (outStep mk' safe x)
    rw [show outStep mk safe x = outStep mk' safe x by unfold outStep; rw [h x (List.mem_cons_self ..)]]
    exact outOf_congr ws _ fun y hy => h y (List.mem_cons_of_mem _ hy)
end Go.Proofs.Ytpnepooobmbfbaa.dsk
/- What the code's lastEpoch gives. -/
namespace Go.Proofs.Ytpnepooobmbfbaa.dsk
open Go.ChangeShapes Go.WideShapes Go.ChangeAt Go.RowKit
open Go.Proofs.Ytpnepooobmbfbaa.rows
open Go.Proofs.Ytpnepooobmbfbaa.sec
open Go.Maps
set_option linter.unusedVariables false
set_option linter.unusedSimpArgs false

/-- a write into a variable of its own -/
theorem store_wr {ops : Array Oper} {rest : List Oper} {o : Oper} {a : Act} {w : World} {Q : Exit → Act → World → Prop} (hgd : o.guard = none) (x y : Operand) (ho : o.op = .store 79 x y) (hd : o.dst = none)
    (g : Nat) (z old : Wr) (hx : a.eval x = .pointer (some ⟨g, 0, none⟩)) (hy : a.eval y = .agg z.c.toArray) (hs : Sec z.s) (hold : Sec old.s) (hg : AtW w g old)
    (h : ∀ w', AtW w' g z → Below g w w' → wpList Try.prog ops Q rest a w') : wpList Try.prog ops Q (o :: rest) a w := by
  refine wpList_store_row hgd 79 x y ho g z.c.toArray hx hy 79 _ hg (by rw [info_wr]; simp [Wr.c_len hs]) (by simp [Wr.c_len hs, Wr.c_len hold]) (by simp only [List.all_toArray]; exact List.all_eq_true.2 (wr_ones z)) ?_
  rw [hd]
  exact h _ (setRow_heap w g _ _ _ _ hg) ((Below.refl g w).trans ⟨rfl, rfl, rfl, by simp [World.setRow], fun k hk => setRow_other w g k _ (by omega)⟩)
theorem atW_new (w : World) : AtW (w.alloc (.cells (w0.c).toArray 79)) w.heap.size w0 := heap_alloc_new _ _
theorem AtW.parts {w : World} {g : Nat} {x : Wr} (h : AtW w g x) (hs : Sec x.s) : w.cell? ⟨g, 0, none⟩ = some (.int .i64 x.pos) ∧ w.rangeAt g 1 (u8s x.s) ∧ w.cell? ⟨g, 33, none⟩ = some (.int .i64 x.kind) ∧ w.cell? ⟨g, 34, none⟩ = some (.int .i64 x.id) ∧ w.cell? ⟨g, 35, none⟩ = some (.int .i64 x.ep) := by
  have := wr_parts hs h.range
  simpa using this
theorem AtW.later {w w' : World} {g : Nat} {x : Wr} (h : AtW w g x) (hb : Below w.heap.size w w') : AtW w' g x := row_later h hb (Array.getElem?_eq_some_iff.1 h).1
theorem wanted_look {w : World} {b : Nat} {ts : List (Int × Int)} (h : Wanted w b ts) {k i : Int} (hk : wf64 k) (hi : wf64 i) :
    (Instr.lookup 127 (.map (some b)) (.agg #[.int .i64 k, .int .i64 i]) true).run Try.prog w = .ok (.tuple #[.agg #[], .bool (decide ((k, i) ∈ ts))]) w := by
  obtain ⟨n, D, hn, ho, hh⟩ := h
  obtain ⟨u, ps, hr, hu⟩ := ho.look_ok key_tag und_wanted (zero_unit w) (unitElem_mk) (keyAt_tag hk hi)
  obtain ⟨rfl, _⟩ := unitElem_inv hu
  rw [hh k i hk hi] at hr
  exact hr
end Go.Proofs.Ytpnepooobmbfbaa.dsk
/- How the code's settle works, over lists: for each sector how many of the first writes no longer matter to it; and that what is read stays. -/
namespace Go.Proofs.Ytpnepooobmbfbaa.dsk
set_option maxRecDepth 100000
open Go.ChangeShapes Go.WideShapes Go.ChangeAt Go.RowKit
open Go.Proofs.Ytpnepooobmbfbaa.rows
open Go.Proofs.Ytpnepooobmbfbaa.sec
open Go.Maps
set_option linter.unusedVariables false
set_option linter.unusedSimpArgs false

/-! what is read stays -/
end Go.Proofs.Ytpnepooobmbfbaa.dsk
/- A slice that is filtered in place: what is left lies at the beginning of the row, what is still to come behind it where it was. -/
namespace Go.Proofs.Ytpnepooobmbfbaa.dsk
open Go.ChangeShapes Go.WideShapes Go.ChangeAt Go.RowKit
open Go.Proofs.Ytpnepooobmbfbaa.rows
open Go.Proofs.Ytpnepooobmbfbaa.sec
open Go.Maps
set_option linter.unusedVariables false
set_option linter.unusedSimpArgs false

def LeftRow (w : World) (gw c : Nat) (ls ws : List Wr) (j : Nat) : Prop := ∃ mid rest : List Value, w.heap[gw]? = some (.cells (wrsC ls ++ mid ++ (wrsC (ws.drop j) ++ rest)).toArray 79 (0, 0)) ∧
  (wrsC ls).length + mid.length = j * 36 ∧ (wrsC (ws.drop j) ++ rest).length + j * 36 = c * 36
theorem wrsC_len {ws : List Wr} (h : ∀ x ∈ ws, Sec x.s) : (wrsC ws).length = ws.length * 36 := chunk_len Wr.c 36 ws fun x hx => Wr.c_len (h x hx)
theorem wrsC_drop {ws : List Wr} {j : Nat} (h : j < ws.length) : wrsC (ws.drop j) = ws[j].c ++ wrsC (ws.drop (j + 1)) := by
  unfold wrsC
  rw [List.drop_eq_getElem_cons h, List.map_cons, List.flatten_cons]
theorem wrsC_snoc (ls : List Wr) (x : Wr) : wrsC (ls ++ [x]) = wrsC ls ++ x.c := by simp [wrsC]
theorem LeftRow.lt {w : World} {gw c j : Nat} {ls ws : List Wr} (h : LeftRow w gw c ls ws j) : gw < w.heap.size := by
  obtain ⟨mid, rest, h1, _⟩ := h
  exact (Array.getElem?_eq_some_iff.1 h1).1
theorem LeftRow.next {w w' : World} {gw c j : Nat} {ls ws : List Wr} (h : LeftRow w gw c ls ws j) (hb : w'.heap[gw]? = w.heap[gw]?) : LeftRow w' gw c ls ws j := by
  obtain ⟨mid, rest, h1, h2⟩ := h
  exact ⟨mid, rest, hb.trans h1, h2⟩
theorem LeftRow.below {w w' : World} {gw c j : Nat} {ls ws : List Wr} (h : LeftRow w gw c ls ws j) (hb : Below w.heap.size w w') : LeftRow w' gw c ls ws j := h.next (hb.block gw h.lt)
theorem LeftRow.range {w : World} {gw c j : Nat} {ls ws : List Wr} (h : LeftRow w gw c ls ws j) (hj : j < ws.length) : w.rangeAt gw (j * 36) ws[j].c := by
  obtain ⟨mid, rest, h1, h2, h3⟩ := h
  intro i u hi
  refine cell_row h1 _ _ ?_
  rw [List.getElem?_toArray, ← h2, ← List.length_append, List.getElem?_append_right (by omega), wrsC_drop hj]
  rw [Nat.add_sub_cancel_left, List.append_assoc, List.getElem?_append_left (List.getElem?_eq_some_iff.1 hi).1]
  exact hi
theorem LeftRow.skip {w : World} {gw c j : Nat} {ls ws : List Wr} (h : LeftRow w gw c ls ws j) (hj : j < ws.length) (hs : Sec ws[j].s) : LeftRow w gw c ls ws (j + 1) := by
  obtain ⟨mid, rest, h1, h2, h3⟩ := h
  have hc := Wr.c_len hs
  rw [wrsC_drop hj] at h1 h3
  refine ⟨mid ++ ws[j].c, rest, ?_, by simp [hc]; omega, by simp [hc] at h3 ⊢; omega⟩
  rw [h1]
  simp [List.append_assoc]
/-- append within the row -/
theorem LeftRow.append {w : World} {gw c j : Nat} {ls ws : List Wr} (h : LeftRow w gw c ls ws j) (hj : j < ws.length) (hs : Sec ws[j].s) (hls : ∀ x ∈ ls, Sec x.s) (hl : ls.length ≤ j) {x : Wr} (hx : ws[j] = x) (ty : TypeId) (ad : Addr) (c2 : Nat) (hn : ∀ i u, x.c[i]? = some u → w.cell? (ad.add i) = some u) :
    ∃ w', (Builtin.append_ #[26, 26] ty #[.slice (some ⟨gw, 0, none⟩) ls.length c, .slice (some ad) 1 c2]).run Try.prog w = .ok (.slice (some ⟨gw, 0, none⟩) (ls.length + 1) c) w' ∧ LeftRow w' gw c (ls ++ [x]) ws (j + 1) ∧ Touch (· = gw) w w' := by
  obtain ⟨mid, rest, h1, h2, h3⟩ := h
  obtain ⟨i0, hi, hz0, hz1, hz2⟩ := info_parts elem_wrs.info
  have hc := Wr.c_len hs
  have hll := wrsC_len hls
  rw [wrsC_drop hj] at h1 h3
  rw [hx] at h1 h3 hc
  have hdl : (wrsC (ws.drop (j + 1)) ++ rest).length + (j + 1) * 36 = c * 36 := by simp [hc] at h3 ⊢; omega
  have hjc : j + 1 ≤ c := by omega
  have hr := run_append_room (P := Try.prog) w 26 ty 79 i0 elem_wrs.und hi gw ls.length c _ h1 ad 1 c2 x.c (by rw [hz1, hc]) hn (wr_ones x) (by omega) (by rw [hz1]; simp [hc, hll]; omega)
  refine ⟨_, hr, ⟨(mid ++ x.c).drop 36, rest, ?_, ?_, hdl⟩, touch_setRow w gw _⟩
  · rw [setRow_heap w gw _ _ _ _ h1, hz1, hc, ← hll, wrsC_snoc]
    have e1 : wrsC ls ++ mid ++ (x.c ++ wrsC (ws.drop (j + 1)) ++ rest) = wrsC ls ++ ((mid ++ x.c) ++ (wrsC (ws.drop (j + 1)) ++ rest)) := by simp [List.append_assoc]
    rw [e1]
    have e2 : ((mid ++ x.c) ++ (wrsC (ws.drop (j + 1)) ++ rest)).drop 36 = (mid ++ x.c).drop 36 ++ (wrsC (ws.drop (j + 1)) ++ rest) := List.drop_append_of_le_length (by simp [hc])
    rw [List.take_left, ← List.drop_drop, List.drop_left, e2]
    simp [List.append_assoc]
  · rw [wrsC_snoc]; simp [hc]; omega
theorem LeftRow.own {w : World} {gw c j : Nat} {ls ws : List Wr} (h : LeftRow w gw c ls ws j) (hls : ∀ x ∈ ls, Sec x.s) (hl : ls.length ≤ j) (hj : j ≤ c) (hc : c ≤ maxLen) : Own w 0 79 36 (.slice (some ⟨gw, 0, none⟩) ls.length c) ls.length (wrsC ls) := by
  obtain ⟨mid, rest, h1, h2, h3⟩ := h
  have hll := wrsC_len hls
  refine ⟨hll, Or.inr ⟨gw, c, _, rfl, Nat.zero_le _, h1, by omega, hc, ?_, ?_⟩⟩
  · simp only [List.size_toArray]
    simp only [List.length_append] at h3 ⊢
    omega
  · show (wrsC ls ++ mid ++ _).take _ = _
    rw [List.append_assoc, ← hll, List.take_left]
end Go.Proofs.Ytpnepooobmbfbaa.dsk
/- What the code's settle gives. -/
namespace Go.Proofs.Ytpnepooobmbfbaa.dsk
open Go.ChangeShapes Go.WideShapes Go.ChangeAt Go.RowKit
open Go.Proofs.Ytpnepooobmbfbaa.rows
open Go.Proofs.Ytpnepooobmbfbaa.sec
open Go.Maps
set_option linter.unusedVariables false
set_option linter.unusedSimpArgs false

theorem tmem_take_succ {ts : List (Int × Int)} {j : Nat} (h : j < ts.length) (t : Int × Int) : (t ∈ ts.take (j + 1)) ↔ (t ∈ ts.take j ∨ t = ts[j]) := by
  rw [List.take_succ_eq_append_getElem h, List.mem_append, List.mem_singleton]
theorem isKey_tag (k i : Int) : WideAt.IsKeyLit (tagL k i) := trivial
theorem wanted_more {w w' : World} {b j : Nat} {ts : List (Int × Int)} {D : DataW Unit} {k i : Int} (hj : j < ts.length) (hx : ts[j] = (k, i)) (hk : wf64 k) (hi : wf64 i) (hD : w.ownsMap Try.prog 64 unitElem b j D) (hh : ∀ k i : Int, wf64 k → wf64 i → Maps.has D (tagL k i) = decide ((k, i) ∈ ts.take j))
    (h : w'.ownsMap Try.prog 64 unitElem b (j + 1) (D.put (tagL k i) (.agg []))) : ∃ D : DataW Unit, w'.ownsMap Try.prog 64 unitElem b (j + 1) D ∧ ∀ k i : Int, wf64 k → wf64 i → Maps.has D (tagL k i) = decide ((k, i) ∈ ts.take (j + 1)) := by
  refine ⟨_, h, fun k' i' hk' hi' => ?_⟩
  have h1 := tmem_take_succ hj (k', i')
  rw [hx] at h1
  by_cases e : (k', i') = (k, i)
  · cases e
    rw [Maps.has_put_same hD.isMap (isKey_tag _ _), decide_eq_true (h1.2 (Or.inr rfl))]
  · rw [Maps.has_put_other (fun e2 => e (by have := tagL_inj hk' hi' hk hi e2; rw [this.1, this.2])), hh k' i' hk' hi']
    simp [h1, e]
/-- an array of numbers as it lies in memory -/
def ar (l : List Nat) : Array Value := (l.map fun n : Nat => Value.int .i64 (n : Int)).toArray
/-- what holds while the second loop runs: only what is safe has turned of the old blocks; o is safe now, l the array -/
structure L2 (w : World) (F : Nat → Prop) (z : Nat → Nat) (vs : Value) (n ga bm : Nat) (ts : List (Int × Int)) (o : List (List Int)) (l : List Nat) (wr : World) : Prop where
  touch : Touch (fun k => vs.ownBlock = some k) w wr
  own : Own wr 0 62 32 vs n (cellsOf o)
  row : wr.heap[ga]? = some (.cells (ar l) 129 (0, 0))
  want : Wanted wr bm ts
  hbm : w.heap.size ≤ bm
  hga : bm < ga
  hvs : ∀ k, vs.ownBlock = some k → Zn F z 1 k ∧ k < w.heap.size
theorem L2.lt {w : World} {F : Nat → Prop} {z : Nat → Nat} {vs : Value} {n ga bm : Nat} {ts : List (Int × Int)} {o : List (List Int)} {l : List Nat} {wr : World} (h : L2 w F z vs n ga bm ts o l wr) : ga < wr.heap.size := (Array.getElem?_eq_some_iff.1 h.row).1
theorem L2.below {w : World} {F : Nat → Prop} {z : Nat → Nat} {vs : Value} {n ga bm : Nat} {ts : List (Int × Int)} {o : List (List Int)} {l : List Nat} {wr w' : World} (h : L2 w F z vs n ga bm ts o l wr) (hb : Below wr.heap.size wr w') : L2 w F z vs n ga bm ts o l w' :=
  ⟨h.touch.trans (Touch.of_below hb), own_later h.own hb, row_later h.row hb h.lt, wanted_kept (S := fun _ => True) h.want trivial (Keeps.of_below hb), h.hbm, h.hga, h.hvs⟩
theorem L2.store {w : World} {F : Nat → Prop} {z : Nat → Nat} {gs n cs ga bm : Nat} {ts : List (Int × Int)} {o o' : List (List Int)} {l : List Nat} {wr w' : World} (h : L2 w F z (.slice (some ⟨gs, 0, none⟩) n cs) n ga bm ts o l wr) (ht : Touch (· = gs) wr w')
    (ho : Own w' 0 62 32 (.slice (some ⟨gs, 0, none⟩) n cs) n (cellsOf o')) : L2 w F z (.slice (some ⟨gs, 0, none⟩) n cs) n ga bm ts o' l w' := by
  have hgs := (h.hvs gs rfl).2
  have h1 := h.hbm
  have h2 := h.hga
  have h3 := h.lt
  exact ⟨h.touch.trans' ht (fun i hi => Or.inl (by rw [hi]; rfl)), ho, (ht.block ga h3 (by omega)).trans h.row, wanted_kept (S := (· = bm)) h.want rfl (ht.keeps fun k hk => by omega), h.hbm, h.hga, h.hvs⟩
end Go.Proofs.Ytpnepooobmbfbaa.dsk
