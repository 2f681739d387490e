/- What LexBack wants, part 2. -/
import Derived.Test.YtahcndkifplekaaLexBackA
import Derived.Stop.BytesEq
set_option linter.unusedVariables false
set_option linter.unusedSimpArgs false
namespace Go.Proofs.Ytahcndkifplekaa
namespace sec
set_option maxRecDepth 100000
open Go.ChangeShapes Go.WideShapes Go.ChangeAt Go.RowKit
open rows
def u8s (xs : List Int) : List Value := xs.map (Value.int .u8)
def Sec (s : List Int) : Prop := s.length = 32 ∧ ∀ x ∈ s, 0 ≤ x ∧ x < 256
def Secs (ss : List (List Int)) : Prop := ∀ s ∈ ss, Sec s
def cellsOf (ss : List (List Int)) : List Value := u8s ss.flatten
theorem cellsOf_len {ss : List (List Int)} (h : Secs ss) : (cellsOf ss).length = ss.length * 32 := by
 unfold cellsOf u8s
 rw [List.length_map]
 induction ss with
 | nil => rfl
 | cons s t ih =>
  have := (h s (List.mem_cons_self ..)).1
  have := ih fun x hx => h x (List.mem_cons_of_mem _ hx)
  simp only [List.flatten_cons, List.length_append, List.length_cons]
  omega
theorem cellsOf_at {ss : List (List Int)} (h : Secs ss) {j : Nat} (hj : j < ss.length) : ∀ i u, (u8s ss[j])[i]? = some u → (cellsOf ss)[j * 32 + i]? = some u := by
 induction ss generalizing j with
 | nil => simp at hj
 | cons s t ih =>
  have hs := (h s (List.mem_cons_self ..)).1
  intro i u hi
  have e : cellsOf (s :: t) = u8s s ++ cellsOf t := by simp [cellsOf, u8s]
  have hl : (u8s s).length = 32 := by simp [u8s, hs]
  rw [e]
  cases j with
  | zero =>
   rw [Nat.zero_mul, Nat.zero_add]
   have hi2 : (u8s s)[i]? = some u := hi
   have hi' := (List.getElem?_eq_some_iff.1 hi2).1
   rw [List.getElem?_append_left hi']
   exact hi2
  | succ j =>
   rw [List.getElem?_append_right (by omega), hl, show (j + 1) * 32 + i - 32 = j * 32 + i by omega]
   exact ih (fun x hx => h x (List.mem_cons_of_mem _ hx)) (by simpa using hj) i u (by simpa using hi)
theorem Rd.rangeLater {w w' : World} {b o : Nat} {cs : List Value} (h : w.rangeAt b o cs) (hb : b < w.heap.size) (k : Below w.heap.size w w') : w'.rangeAt b o cs := fun i u hi => by
 rw [k.cell (p := ⟨b, o + i, none⟩) hb]; exact h i u hi
end sec
namespace sec
set_option maxRecDepth 100000
open Go.ChangeShapes Go.WideShapes Go.ChangeAt Go.RowKit
open rows
theorem row_at {w : World} {p : Option Addr} {n c : Nat} {ss : List (List Int)} (h : Rd w 32 (.slice p n c) n (cellsOf ss)) (hs : Secs ss) {j : Nat} (hj : j < n) :
  ∃ b off, p = some ⟨b, off, none⟩ ∧ n ≤ c ∧ c ≤ maxLen ∧ b < w.heap.size ∧ ss.length = n ∧ ∀ j (hj : j < ss.length), w.rangeAt b (off + j * 32) (u8s ss[j]) := by
 have hlen := h.cells
 rw [cellsOf_len hs] at hlen
 have hl : ss.length = n := by omega
 rcases h with ⟨p', cap', h1, rfl, _⟩ | ⟨b, off, cap', h1, h2, h3, h4, h5, h6, h7⟩
 ·omega
 ·cases h1
  refine ⟨b, off, rfl, h3, h4, h5, hl, fun j hj i u hi => ?_⟩
  rw [Nat.add_assoc]
  exact h7 _ u (cellsOf_at hs hj i u hi)
end sec
namespace sec
set_option maxRecDepth 100000
open Go.ChangeShapes Go.WideShapes Go.ChangeAt Go.RowKit
open rows
theorem flat_len {ss : List (List Int)} (h : Secs ss) : ss.flatten.length = ss.length * 32 := by
 have := cellsOf_len h
 unfold cellsOf u8s at this
 rw [List.length_map] at this
 exact this
end sec
namespace sec
set_option maxRecDepth 100000
open Go.ChangeShapes Go.WideShapes Go.ChangeAt Go.RowKit
open rows
def part (zs : List Int) (j K : Nat) : List Value := u8s (zs.take j ++ List.replicate (K * 32 - j) 0)
end sec
namespace dsk
set_option maxRecDepth 100000
open Go.ChangeShapes Go.WideShapes Go.ChangeAt Go.RowKit
open rows
open sec
structure Wr where
 pos : Int
 s : List Int
 kind : Int
 id : Int
 ep : Int
theorem chunk_len {α : Type} (enc : α → List Value) (sz : Nat) : ∀ (l : List α), (∀ x ∈ l, (enc x).length = sz) → ((l.map enc).flatten).length = l.length * sz
 | [], _ => by simp
 | x :: t, h => by
  have h1 := h x (List.mem_cons_self ..)
  have h2 := chunk_len enc sz t fun y hy => h y (List.mem_cons_of_mem _ hy)
  simp only [List.map_cons, List.flatten_cons, List.length_append, List.length_cons, h1, h2, Nat.succ_mul]
  omega
theorem chunk_at {α : Type} (enc : α → List Value) (sz : Nat) : ∀ (l : List α), (∀ x ∈ l, (enc x).length = sz) → ∀ (j : Nat) (hj : j < l.length) (i : Nat), i < sz → ((l.map enc).flatten)[j * sz + i]? = (enc l[j])[i]?
 | [], _, j, hj, _, _ => by simp at hj
 | x :: t, h, j, hj, i, hi => by
  have h1 := h x (List.mem_cons_self ..)
  rw [List.map_cons, List.flatten_cons]
  cases j with
  | zero => rw [Nat.zero_mul, Nat.zero_add, List.getElem?_append_left (by omega)]; rfl
  | succ j =>
   rw [List.getElem?_append_right (by rw [h1, Nat.succ_mul]; omega), h1, show (j + 1) * sz + i - sz = j * sz + i by rw [Nat.succ_mul]; omega]
   exact chunk_at enc sz t (fun y hy => h y (List.mem_cons_of_mem _ hy)) j (by simpa using hj) i hi
theorem Rd.chunk {α : Type} (enc : α → List Value) {sz : Nat} {w : World} {p : Option Addr} {n c : Nat} {l : List α} (h : Rd w sz (.slice p n c) n ((l.map enc).flatten)) (he : ∀ x ∈ l, (enc x).length = sz) (h0 : 0 < sz) {j : Nat} (hj : j < n) :
  ∃ b off, p = some ⟨b, off, none⟩ ∧ n ≤ c ∧ c ≤ maxLen ∧ b < w.heap.size ∧ l.length = n ∧ ∀ j (hj : j < l.length), w.rangeAt b (off + j * sz) (enc l[j]) := by
 have hlen := h.cells
 rw [chunk_len enc sz l he] at hlen
 have hl : l.length = n := Nat.eq_of_mul_eq_mul_right h0 hlen
 rcases h with ⟨p', cap', h1, rfl, _⟩ | ⟨b, off, cap', h1, h2, h3, h4, h5, h6, h7⟩
 ·omega
 ·cases h1
  refine ⟨b, off, rfl, h3, h4, h5, hl, fun j hj i u hi => ?_⟩
  have hi' : i < sz := by have := (List.getElem?_eq_some_iff.1 hi).1; rw [he _ (List.getElem_mem hj)] at this; exact this
  rw [Nat.add_assoc]
  exact h7 _ u (by rw [chunk_at enc sz l he j hj i hi']; exact hi)
theorem Rd.count {α : Type} (enc : α → List Value) {sz : Nat} {w : World} {v : Value} {n : Nat} {l : List α} (h : Rd w sz v n ((l.map enc).flatten)) (he : ∀ x ∈ l, (enc x).length = sz) (h0 : 0 < sz) : l.length = n := by
 have hlen := h.cells
 rw [chunk_len enc sz l he] at hlen
 exact Nat.eq_of_mul_eq_mul_right h0 hlen
theorem cell_row {w : World} {g : Nat} {cs : Array Value} {t : TypeId} (h : w.heap[g]? = some (.cells cs t (0, 0))) (i : Nat) (v : Value) (hi : cs[i]? = some v) : w.cell? ⟨g, i, none⟩ = some v := by
 rw [cell_of_row _ _ i _ _ (0, 0) h, hi]
theorem frozen_row {w : World} {g : Nat} {cs : Array Value} {t : TypeId} (h : w.heap[g]? = some (.cells cs t (0, 0))) (i : Nat) : w.frozen? ⟨g, i, none⟩ = false := by
 simp [World.frozen?, h]
theorem setCell_heap {w : World} {g i : Nat} {cs : Array Value} {t : TypeId} (h : w.heap[g]? = some (.cells cs t (0, 0))) (v : Value) : (w.setCell ⟨g, i, none⟩ v).heap[g]? = some (.cells (cs.setIfInBounds i v) t (0, 0)) := by
 rw [setCell_eq_setRow w g i cs t (0, 0) v h]
 exact setRow_heap w g _ _ _ _ h
end dsk
namespace dsk
set_option maxRecDepth 100000
open Go.ChangeShapes Go.WideShapes Go.ChangeAt Go.RowKit
open rows
open sec
structure St where
 safe : List (List Int)
 wait : List Wr
 ep : Int
 log : List (Int × Wr × List (Int × Int))
 bad : List Int
 asked : Int
end dsk
namespace dsk
set_option maxRecDepth 100000
open Go.ChangeShapes Go.WideShapes Go.ChangeAt Go.RowKit
open rows
open sec
theorem eqFields_cons (d : Nat) (xs ys : Array Value) (f : Field) (fs : List Field) (hn : f.name ≠ "_") (w : World) {a b : Value} {r : Bool} (ha : (part f.type xs f.offset).run Try.prog w = .ok a w) (hb : (part f.type ys f.offset).run Try.prog w = .ok b w)
  (hr : (Op.equalIn d f.type a b).run Try.prog w = .ok r w) : (Op.eqFields d xs ys (f :: fs)).run Try.prog w = if r = true then (Op.eqFields d xs ys fs).run Try.prog w else .ok false w := by
 simp only [Op.eqFields, hn, ne_eq, not_false_eq_true, if_true, Sem.run_bind, ha, hb, hr, Result.andThen_ok]
 cases r <;> simp
end dsk
namespace dsk
set_option maxRecDepth 100000
open Go.ChangeShapes Go.WideShapes Go.ChangeAt Go.RowKit
open rows
open sec
theorem neq_yields {ops : Array Oper} {S : World → Prop} {op : Oper} {a : Act} (hw : Region.wanted op (yielded ops a.tmps) = true) (T r : TypeId) (x y : Operand) (ho : op.op = .binOp .neq T x y r)
  (xs ys : Array Value) (hx : a.eval x = .agg xs) (hy : a.eval y = .agg ys) (hg : Try.prog.eqGuardType Try.prog.depth T = false) (q : Bool) (he : ∀ w, (Op.equalIn 10000 T (.agg xs) (.agg ys)).run Try.prog w = .ok q w) : YieldsIf Try.prog ops S op (.bool (!q)) a :=
 .inl ⟨hw, fun w _ => by
  unfold execOp
  simp only [ho, hx, hy, Sem.run_bind, run_eqGuard_agg w .neq T x y xs ys hg, run_neq_struct, he, Result.andThen_ok, Sem.run_pure]⟩
end dsk
namespace rows
set_option maxRecDepth 100000
open Go.ChangeShapes Go.WideShapes Go.ChangeAt Go.RowKit
open dsk
theorem list_of {α : Type} {p : Nat → α → Prop} : ∀ (n : Nat), (∀ i, i < n → ∃ a, p i a) → ∃ l : List α, l.length = n ∧ ∀ i (h : i < l.length), p i l[i]
 | 0, _ => ⟨[], rfl, fun i h => by simp at h⟩
 | n + 1, h => by
  obtain ⟨l, hl, hp⟩ := list_of n fun i hi => h i (by omega)
  obtain ⟨a, ha⟩ := h n (by omega)
  refine ⟨l ++ [a], by simp [hl], fun i hi => ?_⟩
  by_cases hlt : i < l.length
  ·rw [List.getElem_append_left hlt]
   exact hp i hlt
  ·have : i = n := by simp at hi; omega
   subst this
   rw [List.getElem_append_right (by omega)]
   simpa [hl] using ha
section
variable {H : Type} {enc : TypeId × Value → H} {W : World} {base : Nat} {spare : Nat → Bool} {held : Bool}
theorem open_slice {α : Type} (encα : α → List Value) {sz : Nat} (h0 : 0 < sz) {t e : TypeId} (hu : Try.prog.underlying t = some (.slice e)) (hc : Try.prog.cellsOf e = sz) (good : α → Prop) (hlen : ∀ a, good a → (encα a).length = sz)
  (one : ∀ (n : Nat) (cs : List Value) (x : DataW H × List MemPlace), DataW.trod enc Try.prog W base spare held n e cs = some x → ∃ a, good a ∧ cs = encα a) {fuel : Nat} {cs : List Value} {x : DataW H × List MemPlace}
  (hf : DataW.trod enc Try.prog W base spare held fuel t cs = some x) :
  ∃ (p : Option Addr) (len cap : Nat) (l : List α), cs = [.slice p len cap] ∧ (∀ a ∈ l, good a) ∧ l.length = len ∧ Rd W sz (.slice p len cap) len ((l.map encα).flatten) ∧ len ≤ maxLen := by
 rcases DataW.trod_slice hu hf with ⟨hcs, _⟩ | ⟨a, len, cap, elems, rest, n, _, hcs, _, _, hl, hm, hel, hat, _, _⟩
 ·exact ⟨none, 0, 0, [], hcs, by simp, rfl, Or.inl ⟨_, _, rfl, rfl, rfl, fun _ => rfl⟩, Nat.zero_le _⟩
 ·rw [hc] at hat
  have each : ∀ i, i < len → ∃ a', good a' ∧ ∀ k, k < sz → W.cell? ((a.add (i * sz)).add k) = (encα a')[k]? := by
   intro i hi
   have h1 := hat i hi
   rw [List.getElem?_eq_getElem (by omega), Option.bind_eq_some_iff] at h1
   obtain ⟨cs', hcs', ht⟩ := h1
   obtain ⟨a', ha', rfl⟩ := one _ _ _ ht
   exact ⟨a', ha', (World.cells?_some hcs').2.2⟩
  by_cases hz : len = 0
  ·subst hz
   exact ⟨some a, 0, cap, [], hcs, by simp, rfl, Or.inl ⟨_, _, rfl, rfl, rfl, fun h => by cases h⟩, Nat.zero_le _⟩
  ·obtain ⟨b, off, spot⟩ := a
   have hspot : spot = none := by
    obtain ⟨a', ha', hcell⟩ := each 0 (by omega)
    have h2 := hcell 0 h0
    have hl' := hlen a' ha'
    rw [List.getElem?_eq_getElem (by omega)] at h2
    cases spot with
    | none => rfl
    | some y =>
     simp [Addr.add, World.cell?] at h2
     split at h2 <;> cases h2
   subst hspot
   obtain ⟨l, hll, hlp⟩ := list_of len each
   have hg : ∀ a ∈ l, good a := fun a ha => by
    obtain ⟨i, hi, rfl⟩ := List.getElem_of_mem ha
    exact (hlp i hi).1
   have hle : ∀ a ∈ l, (encα a).length = sz := fun a ha => hlen a (hg a ha)
   have hcl : ((l.map encα).flatten).length = len * sz := by rw [chunk_len encα sz l hle, hll]
   have hcellat : ∀ i (hi : i < l.length) k, k < sz → W.cell? ⟨b, off + i * sz + k, none⟩ = (encα l[i])[k]? := fun i hi k hk => by
    have h1 := (hlp i hi).2 k hk
    have e : ((⟨b, off, none⟩ : Addr).add (i * sz)).add k = ⟨b, off + i * sz + k, none⟩ := by rw [Addr.add_mid, Addr.add_mid]
    exact (congrArg W.cell? e).symm.trans h1
   refine ⟨_, len, cap, l, hcs, hg, hll, Or.inr ⟨b, off, cap, rfl, by omega, hl, hm, ?_, hcl, ?_⟩, by omega⟩
   ·have h1 := hcellat 0 (by omega) 0 h0
    have hl0 := hle _ (List.getElem_mem (show 0 < l.length by omega))
    rw [List.getElem?_eq_getElem (by omega)] at h1
    exact block_lt_of_cell h1
   ·intro k u hk
    have hkl : k < len * sz := by
     have := (List.getElem?_eq_some_iff.1 hk).1
     rw [hcl] at this; exact this
    have hi : k / sz < l.length := by rw [hll]; exact Nat.div_lt_of_lt_mul (by rw [Nat.mul_comm]; exact hkl)
    have hr := Nat.mod_lt k h0
    have h1 := hcellat (k / sz) hi (k % sz) hr
    have h2 := chunk_at encα sz l hle (k / sz) hi (k % sz) hr
    have hdm : k / sz * sz + k % sz = k := by rw [Nat.mul_comm]; exact Nat.div_add_mod k sz
    rw [hdm, hk] at h2
    rw [show off + k = off + k / sz * sz + k % sz by omega, h1, ← h2]
end
end rows
namespace dsk
set_option maxRecDepth 100000
open Go.ChangeShapes Go.WideShapes Go.ChangeAt Go.RowKit
open rows
open sec
theorem cut_piece {α : Type} (cs : List α) (n m : Nat) : (cs.drop n).take m ++ cs.drop (n + m) = cs.drop n := by
 rw [← List.drop_drop, List.take_append_drop]
section
variable {H : Type} {enc : TypeId × Value → H} {W : World} {base : Nat} {spare : Nat → Bool} {held : Bool}
theorem field_trod {T : TypeId} {fs : Array Field} (ht : Try.prog.underlying T = some (.struct fs)) {L : List (TypeId × Nat)} (hL : fs.toList.map (fun f => (f.type, f.offset)) = L) {fuel : Nat} {cs : List Value} {x : DataW H × List MemPlace}
  (h : DataW.trod enc Try.prog W base spare held fuel T cs = some x) : cs.length = Try.prog.cellsOf T ∧ ∀ (i : Nat) (ty : TypeId) (off : Nat), L[i]? = some (ty, off) → ∃ n y, DataW.trod enc Try.prog W base spare held n ty ((cs.drop off).take (Try.prog.cellsOf ty)) = some y := by
 obtain ⟨xs, n, _, _, hl, hx, hf⟩ := DataW.trod_struct ht h
 refine ⟨hl, fun i ty off hi => ?_⟩
 rw [← hL, List.getElem?_map] at hi
 cases hq : fs[i]? with
 | none => simp [hq] at hi
 | some f =>
  have h1 : (f.type, f.offset) = (ty, off) := by simpa [hq] using hi
  have h2 := hf i f hq
  have hix : i < xs.length := by rw [hx]; exact (Array.getElem?_eq_some_iff.1 hq).1
  rw [List.getElem?_eq_getElem hix] at h2
  cases h1
  exact ⟨n, _, h2⟩
end
end dsk
namespace dsk
set_option maxRecDepth 100000
open Go.ChangeShapes Go.WideShapes Go.ChangeAt Go.RowKit
open rows
open sec
def zero32 : List Int := List.replicate 32 0
end dsk
end Go.Proofs.Ytahcndkifplekaa
