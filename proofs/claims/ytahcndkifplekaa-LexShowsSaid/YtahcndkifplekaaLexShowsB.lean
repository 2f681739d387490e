/- What LexShows wants, part 2. -/
import Derived.Test.YtahcndkifplekaaLexShowsA
import Derived.Stop.BytesEq
set_option linter.unusedVariables false
set_option linter.unusedSimpArgs false
namespace Go.Proofs.Ytahcndkifplekaa
namespace sec
set_option maxRecDepth 100000
open Go.ChangeShapes Go.WideShapes Go.ChangeAt Go.RowKit
open rows
def u8s (xs : List Int) : List Value := xs.map (Value.int .u8)
def Sec (s : List Int) : Prop := s.length = 32 ∧ ∀ x ∈ s, 0 ≤ x ∧ x < 256
def Secs (ss : List (List Int)) : Prop := ∀ s ∈ ss, Sec s
def cellsOf (ss : List (List Int)) : List Value := u8s ss.flatten
theorem cellsOf_len {ss : List (List Int)} (h : Secs ss) : (cellsOf ss).length = ss.length * 32 := by
 unfold cellsOf u8s
 rw [List.length_map]
 induction ss with
 | nil => rfl
 | cons s t ih =>
  have := (h s (List.mem_cons_self ..)).1
  have := ih fun x hx => h x (List.mem_cons_of_mem _ hx)
  simp only [List.flatten_cons, List.length_append, List.length_cons]
  omega
theorem cellsOf_at {ss : List (List Int)} (h : Secs ss) {j : Nat} (hj : j < ss.length) : ∀ i u, (u8s ss[j])[i]? = some u → (cellsOf ss)[j * 32 + i]? = some u := by
 induction ss generalizing j with
 | nil => simp at hj
 | cons s t ih =>
  have hs := (h s (List.mem_cons_self ..)).1
  intro i u hi
  have e : cellsOf (s :: t) = u8s s ++ cellsOf t := by simp [cellsOf, u8s]
  have hl : (u8s s).length = 32 := by simp [u8s, hs]
  rw [e]
  cases j with
  | zero =>
   rw [Nat.zero_mul, Nat.zero_add]
   have hi2 : (u8s s)[i]? = some u := hi
   have hi' := (List.getElem?_eq_some_iff.1 hi2).1
   rw [List.getElem?_append_left hi']
   exact hi2
  | succ j =>
   rw [List.getElem?_append_right (by omega), hl, show (j + 1) * 32 + i - 32 = j * 32 + i by omega]
   exact ih (fun x hx => h x (List.mem_cons_of_mem _ hx)) (by simpa using hj) i u (by simpa using hi)
end sec
namespace sec
set_option maxRecDepth 100000
open Go.ChangeShapes Go.WideShapes Go.ChangeAt Go.RowKit
open rows
theorem row_at {w : World} {p : Option Addr} {n c : Nat} {ss : List (List Int)} (h : Rd w 32 (.slice p n c) n (cellsOf ss)) (hs : Secs ss) {j : Nat} (hj : j < n) :
  ∃ b off, p = some ⟨b, off, none⟩ ∧ n ≤ c ∧ c ≤ maxLen ∧ b < w.heap.size ∧ ss.length = n ∧ ∀ j (hj : j < ss.length), w.rangeAt b (off + j * 32) (u8s ss[j]) := by
 have hlen := h.cells
 rw [cellsOf_len hs] at hlen
 have hl : ss.length = n := by omega
 rcases h with ⟨p', cap', h1, rfl, _⟩ | ⟨b, off, cap', h1, h2, h3, h4, h5, h6, h7⟩
 ·omega
 ·cases h1
  refine ⟨b, off, rfl, h3, h4, h5, hl, fun j hj i u hi => ?_⟩
  rw [Nat.add_assoc]
  exact h7 _ u (cellsOf_at hs hj i u hi)
end sec
namespace sec
set_option maxRecDepth 100000
open Go.ChangeShapes Go.WideShapes Go.ChangeAt Go.RowKit
open rows
theorem flat_len {ss : List (List Int)} (h : Secs ss) : ss.flatten.length = ss.length * 32 := by
 have := cellsOf_len h
 unfold cellsOf u8s at this
 rw [List.length_map] at this
 exact this
end sec
namespace sec
set_option maxRecDepth 100000
open Go.ChangeShapes Go.WideShapes Go.ChangeAt Go.RowKit
open rows
def part (zs : List Int) (j K : Nat) : List Value := u8s (zs.take j ++ List.replicate (K * 32 - j) 0)
end sec
namespace dsk
set_option maxRecDepth 100000
open Go.ChangeShapes Go.WideShapes Go.ChangeAt Go.RowKit
open rows
open sec
structure Wr where
 pos : Int
 s : List Int
 kind : Int
 id : Int
 ep : Int
theorem chunk_len {α : Type} (enc : α → List Value) (sz : Nat) : ∀ (l : List α), (∀ x ∈ l, (enc x).length = sz) → ((l.map enc).flatten).length = l.length * sz
 | [], _ => by simp
 | x :: t, h => by
  have h1 := h x (List.mem_cons_self ..)
  have h2 := chunk_len enc sz t fun y hy => h y (List.mem_cons_of_mem _ hy)
  simp only [List.map_cons, List.flatten_cons, List.length_append, List.length_cons, h1, h2, Nat.succ_mul]
  omega
theorem chunk_at {α : Type} (enc : α → List Value) (sz : Nat) : ∀ (l : List α), (∀ x ∈ l, (enc x).length = sz) → ∀ (j : Nat) (hj : j < l.length) (i : Nat), i < sz → ((l.map enc).flatten)[j * sz + i]? = (enc l[j])[i]?
 | [], _, j, hj, _, _ => by simp at hj
 | x :: t, h, j, hj, i, hi => by
  have h1 := h x (List.mem_cons_self ..)
  rw [List.map_cons, List.flatten_cons]
  cases j with
  | zero => rw [Nat.zero_mul, Nat.zero_add, List.getElem?_append_left (by omega)]; rfl
  | succ j =>
   rw [List.getElem?_append_right (by rw [h1, Nat.succ_mul]; omega), h1, show (j + 1) * sz + i - sz = j * sz + i by rw [Nat.succ_mul]; omega]
   exact chunk_at enc sz t (fun y hy => h y (List.mem_cons_of_mem _ hy)) j (by simpa using hj) i hi
theorem Rd.chunk {α : Type} (enc : α → List Value) {sz : Nat} {w : World} {p : Option Addr} {n c : Nat} {l : List α} (h : Rd w sz (.slice p n c) n ((l.map enc).flatten)) (he : ∀ x ∈ l, (enc x).length = sz) (h0 : 0 < sz) {j : Nat} (hj : j < n) :
  ∃ b off, p = some ⟨b, off, none⟩ ∧ n ≤ c ∧ c ≤ maxLen ∧ b < w.heap.size ∧ l.length = n ∧ ∀ j (hj : j < l.length), w.rangeAt b (off + j * sz) (enc l[j]) := by
 have hlen := h.cells
 rw [chunk_len enc sz l he] at hlen
 have hl : l.length = n := Nat.eq_of_mul_eq_mul_right h0 hlen
 rcases h with ⟨p', cap', h1, rfl, _⟩ | ⟨b, off, cap', h1, h2, h3, h4, h5, h6, h7⟩
 ·omega
 ·cases h1
  refine ⟨b, off, rfl, h3, h4, h5, hl, fun j hj i u hi => ?_⟩
  have hi' : i < sz := by have := (List.getElem?_eq_some_iff.1 hi).1; rw [he _ (List.getElem_mem hj)] at this; exact this
  rw [Nat.add_assoc]
  exact h7 _ u (by rw [chunk_at enc sz l he j hj i hi']; exact hi)
theorem cell_row {w : World} {g : Nat} {cs : Array Value} {t : TypeId} (h : w.heap[g]? = some (.cells cs t (0, 0))) (i : Nat) (v : Value) (hi : cs[i]? = some v) : w.cell? ⟨g, i, none⟩ = some v := by
 rw [cell_of_row _ _ i _ _ (0, 0) h, hi]
theorem frozen_row {w : World} {g : Nat} {cs : Array Value} {t : TypeId} (h : w.heap[g]? = some (.cells cs t (0, 0))) (i : Nat) : w.frozen? ⟨g, i, none⟩ = false := by
 simp [World.frozen?, h]
theorem setCell_heap {w : World} {g i : Nat} {cs : Array Value} {t : TypeId} (h : w.heap[g]? = some (.cells cs t (0, 0))) (v : Value) : (w.setCell ⟨g, i, none⟩ v).heap[g]? = some (.cells (cs.setIfInBounds i v) t (0, 0)) := by
 rw [setCell_eq_setRow w g i cs t (0, 0) v h]
 exact setRow_heap w g _ _ _ _ h
end dsk
namespace dsk
set_option maxRecDepth 100000
open Go.ChangeShapes Go.WideShapes Go.ChangeAt Go.RowKit
open rows
open sec
structure St where
 safe : List (List Int)
 wait : List Wr
 ep : Int
 log : List (Int × Wr × List (Int × Int))
 bad : List Int
 asked : Int
end dsk
namespace dsk
set_option maxRecDepth 100000
open Go.ChangeShapes Go.WideShapes Go.ChangeAt Go.RowKit
open rows
open sec
theorem eqFields_cons (d : Nat) (xs ys : Array Value) (f : Field) (fs : List Field) (hn : f.name ≠ "_") (w : World) {a b : Value} {r : Bool} (ha : (part f.type xs f.offset).run Try.prog w = .ok a w) (hb : (part f.type ys f.offset).run Try.prog w = .ok b w)
  (hr : (Op.equalIn d f.type a b).run Try.prog w = .ok r w) : (Op.eqFields d xs ys (f :: fs)).run Try.prog w = if r = true then (Op.eqFields d xs ys fs).run Try.prog w else .ok false w := by
 simp only [Op.eqFields, hn, ne_eq, not_false_eq_true, if_true, Sem.run_bind, ha, hb, hr, Result.andThen_ok]
 cases r <;> simp
end dsk
namespace dsk
set_option maxRecDepth 100000
open Go.ChangeShapes Go.WideShapes Go.ChangeAt Go.RowKit
open rows
open sec
theorem cut_piece {α : Type} (cs : List α) (n m : Nat) : (cs.drop n).take m ++ cs.drop (n + m) = cs.drop n := by
 rw [← List.drop_drop, List.take_append_drop]
section
variable {H : Type} {enc : TypeId × Value → H} {W : World} {base : Nat} {spare : Nat → Bool} {held : Bool}
theorem field_trod {T : TypeId} {fs : Array Field} (ht : Try.prog.underlying T = some (.struct fs)) {L : List (TypeId × Nat)} (hL : fs.toList.map (fun f => (f.type, f.offset)) = L) {fuel : Nat} {cs : List Value} {x : DataW H × List MemPlace}
  (h : DataW.trod enc Try.prog W base spare held fuel T cs = some x) : cs.length = Try.prog.cellsOf T ∧ ∀ (i : Nat) (ty : TypeId) (off : Nat), L[i]? = some (ty, off) → ∃ n y, DataW.trod enc Try.prog W base spare held n ty ((cs.drop off).take (Try.prog.cellsOf ty)) = some y := by
 obtain ⟨xs, n, _, _, hl, hx, hf⟩ := DataW.trod_struct ht h
 refine ⟨hl, fun i ty off hi => ?_⟩
 rw [← hL, List.getElem?_map] at hi
 cases hq : fs[i]? with
 | none => simp [hq] at hi
 | some f =>
  have h1 : (f.type, f.offset) = (ty, off) := by simpa [hq] using hi
  have h2 := hf i f hq
  have hix : i < xs.length := by rw [hx]; exact (Array.getElem?_eq_some_iff.1 hq).1
  rw [List.getElem?_eq_getElem hix] at h2
  cases h1
  exact ⟨n, _, h2⟩
end
end dsk
namespace dsk
set_option maxRecDepth 100000
open Go.ChangeShapes Go.WideShapes Go.ChangeAt Go.RowKit
open rows
open sec
def zero32 : List Int := List.replicate 32 0
end dsk
end Go.Proofs.Ytahcndkifplekaa
