/- Disks: writes, tags and events as cells; what one object's calls leave alone. -/
import Derived.Test.YtpnepooobmbfbaaSecMath
namespace Go.Proofs.Ytpnepooobmbfbaa.dsk
set_option maxRecDepth 100000
open Go.ChangeShapes Go.WideShapes Go.ChangeAt Go.RowKit
open Go.Proofs.Ytpnepooobmbfbaa.rows
open Go.Proofs.Ytpnepooobmbfbaa.sec
set_option linter.unusedVariables false

/-- a write that waits -/
structure Wr where
  pos : Int
  s : List Int
  kind : Int
  id : Int
  ep : Int
def tagC (t : Int × Int) : List Value := [.int .i64 t.1, .int .i64 t.2]
def Wr.c (x : Wr) : List Value := .int .i64 x.pos :: (u8s x.s ++ [.int .i64 x.kind, .int .i64 x.id, .int .i64 x.ep])
def wrsC (ws : List Wr) : List Value := (ws.map Wr.c).flatten
def tagsC (ts : List (Int × Int)) : List Value := (ts.map tagC).flatten
def wf64 (n : Int) : Prop := (Lit.int .i64 n).wf = true
def Wr.ok (x : Wr) : Prop := Sec x.s ∧ wf64 x.pos ∧ wf64 x.kind ∧ wf64 x.id ∧ wf64 x.ep
theorem Wr.c_len {x : Wr} (h : Sec x.s) : x.c.length = 36 := by simp [Wr.c, u8s, h.1]

/-! lists of pieces of one length -/
theorem chunk_len {α : Type} (enc : α → List Value) (sz : Nat) : ∀ (l : List α), (∀ x ∈ l, (enc x).length = sz) → ((l.map enc).flatten).length = l.length * sz
  | [], _ => by simp
  | x :: t, h => by
    have h1 := h x (List.mem_cons_self ..)
    have h2 := chunk_len enc sz t fun y hy => h y (List.mem_cons_of_mem _ hy)
    simp only [List.map_cons, List.flatten_cons, List.length_append, List.length_cons, h1, h2, Nat.succ_mul]
    omega
theorem chunk_at {α : Type} (enc : α → List Value) (sz : Nat) : ∀ (l : List α), (∀ x ∈ l, (enc x).length = sz) → ∀ (j : Nat) (hj : j < l.length) (i : Nat), i < sz → ((l.map enc).flatten)[j * sz + i]? = (enc l[j])[i]?
  | [], _, j, hj, _, _ => by simp at hj
  | x :: t, h, j, hj, i, hi => by
    have h1 := h x (List.mem_cons_self ..)
    rw [List.map_cons, List.flatten_cons]
    cases j with
    | zero => rw [Nat.zero_mul, Nat.zero_add, List.getElem?_append_left (by omega)]; rfl
    | succ j =>
      rw [List.getElem?_append_right (by rw [h1, Nat.succ_mul]; omega), h1, show (j + 1) * sz + i - sz = j * sz + i by rw [Nat.succ_mul]; omega]
      exact chunk_at enc sz t (fun y hy => h y (List.mem_cons_of_mem _ hy)) j (by simpa using hj) i hi
theorem Rd.chunk {α : Type} (enc : α → List Value) {sz : Nat} {w : World} {p : Option Addr} {n c : Nat} {l : List α} (h : Rd w sz (.slice p n c) n ((l.map enc).flatten)) (he : ∀ x ∈ l, (enc x).length = sz) (h0 : 0 < sz) {j : Nat} (hj : j < n) :
    ∃ b off, p = some ⟨b, off, none⟩ ∧ n ≤ c ∧ c ≤ maxLen ∧ b < w.heap.size ∧ l.length = n ∧ ∀ j (hj : j < l.length), w.rangeAt b (off + j * sz) (enc l[j]) := by
  have hlen := h.cells
  rw [chunk_len enc sz l he] at hlen
  have hl : l.length = n := Nat.eq_of_mul_eq_mul_right h0 hlen
  rcases h with ⟨p', cap', h1, rfl, _⟩ | ⟨b, off, cap', h1, h2, h3, h4, h5, h6, h7⟩
  · omega
  · cases h1
    refine ⟨b, off, rfl, h3, h4, h5, hl, fun j hj i u hi => ?_⟩
    have hi' : i < sz := by have := (List.getElem?_eq_some_iff.1 hi).1; rw [he _ (List.getElem_mem hj)] at this; exact this
    rw [Nat.add_assoc]
    exact h7 _ u (by rw [chunk_at enc sz l he j hj i hi']; exact hi)
theorem Rd.count {α : Type} (enc : α → List Value) {sz : Nat} {w : World} {v : Value} {n : Nat} {l : List α} (h : Rd w sz v n ((l.map enc).flatten)) (he : ∀ x ∈ l, (enc x).length = sz) (h0 : 0 < sz) : l.length = n := by
  have hlen := h.cells
  rw [chunk_len enc sz l he] at hlen
  exact Nat.eq_of_mul_eq_mul_right h0 hlen

/-! what one object's calls leave alone -/
/-- of the old blocks none has turned but those of S -/
structure Touch (S : Nat → Prop) (w w' : World) : Prop where
  os : w'.os = w.os
  tape : w'.tape = w.tape
  output : w'.output = w.output
  size : w.heap.size ≤ w'.heap.size
  block : ∀ k, k < w.heap.size → ¬ S k → w'.heap[k]? = w.heap[k]?
theorem Touch.refl (S : Nat → Prop) (w : World) : Touch S w w := ⟨rfl, rfl, rfl, Nat.le_refl _, fun _ _ _ => rfl⟩
theorem Touch.of_below {S : Nat → Prop} {w w' : World} (h : Below w.heap.size w w') : Touch S w w' := ⟨h.os, h.tape, h.output, h.size, fun k hk _ => h.block k hk⟩
theorem Touch.trans {S : Nat → Prop} {a b c : World} (h : Touch S a b) (k : Touch S b c) : Touch S a c :=
  ⟨k.os.trans h.os, k.tape.trans h.tape, k.output.trans h.output, Nat.le_trans h.size k.size, fun i hi hn => (k.block i (Nat.lt_of_lt_of_le hi h.size) hn).trans (h.block i hi hn)⟩
/-- the second step may write what the first one made -/
theorem Touch.trans' {S S' : Nat → Prop} {a b c : World} (h : Touch S a b) (k : Touch S' b c) (hS : ∀ i, S' i → S i ∨ a.heap.size ≤ i) : Touch S a c :=
  ⟨k.os.trans h.os, k.tape.trans h.tape, k.output.trans h.output, Nat.le_trans h.size k.size, fun i hi hn => (k.block i (Nat.lt_of_lt_of_le hi h.size) (fun hs => by rcases hS i hs with h1 | h1; exact hn h1; omega)).trans (h.block i hi hn)⟩
theorem Touch.mono {S S' : Nat → Prop} {a b : World} (h : Touch S a b) (hS : ∀ i, S i → S' i) : Touch S' a b := ⟨h.os, h.tape, h.output, h.size, fun k hk hn => h.block k hk fun hs => hn (hS k hs)⟩
theorem Touch.below {S : Nat → Prop} {a b : World} {B : Nat} (h : Touch S a b) (hB : B ≤ a.heap.size) (hS : ∀ i, S i → B ≤ i) : Below B a b := ⟨h.os, h.tape, h.output, h.size, fun k hk => h.block k (by omega) fun hs => by have := hS k hs; omega⟩
theorem row_later {w w' : World} {g B : Nat} {o : Obj} (h : w.heap[g]? = some o) (hb : Below B w w') (hg : g < B) : w'.heap[g]? = some o := (hb.block g hg).trans h
theorem row_alloc {w : World} {g : Nat} {o : Obj} (h : w.heap[g]? = some o) (q : Obj) : (w.alloc q).heap[g]? = some o := (Below.heap_alloc _ _ _ (Array.getElem?_eq_some_iff.1 h).1).trans h
theorem Touch.drew {S : Nat → Prop} {a b : World} (h : Touch S a b) : Touch S a b.drew := ⟨h.os, h.tape, h.output, h.size, h.block⟩
theorem Touch.alloc {S : Nat → Prop} {a b : World} (h : Touch S a b) (o : Obj) : Touch S a (b.alloc o) := h.trans (Touch.of_below (below_alloc (Below.refl _ _) o))
theorem Touch.setCell {S : Nat → Prop} {a b : World} (h : Touch S a b) (p : Addr) (hp : S p.block) (v : Value) : Touch S a (b.setCell p v) :=
  h.trans ⟨rfl, rfl, rfl, by simp [World.setCell], fun k hk hn => Below.heap_setCell _ _ _ _ fun e => hn (by rw [e]; exact hp)⟩
theorem Touch.cell {S : Nat → Prop} {a b : World} (h : Touch S a b) {p : Addr} (hp : p.block < a.heap.size) (hs : ¬ S p.block) : b.cell? p = a.cell? p := World.cell?_of_block (w := a) (h.block p.block hp hs)
theorem Touch.range {S : Nat → Prop} {a b : World} (h : Touch S a b) {g o : Nat} {cs : List Value} (hg : g < a.heap.size) (hs : ¬ S g) (hr : a.rangeAt g o cs) : b.rangeAt g o cs := fun i u hi => by
  rw [h.cell (p := ⟨g, o + i, none⟩) hg hs]
  exact hr i u hi
/-- what an object reads lies in blocks of S -/
def Keeps (S : Nat → Prop) (w w' : World) : Prop := w.heap.size ≤ w'.heap.size ∧ ∀ k, k < w.heap.size → S k → w'.heap[k]? = w.heap[k]?
theorem Touch.keeps {S T : Nat → Prop} {w w' : World} (h : Touch T w w') (hd : ∀ k, S k → ¬ T k) : Keeps S w w' := ⟨h.size, fun k hk hs => h.block k hk (hd k hs)⟩
def InS (S : Nat → Prop) (v : Value) : Prop := ∀ a n c, v = .slice (some a) n c → 0 < n → S a.block
theorem Rd.kept {S : Nat → Prop} {w w' : World} {sz n : Nat} {v : Value} {cs : List Value} (h : Rd w sz v n cs) (hv : InS S v) (k : Keeps S w w') : Rd w' sz v n cs := by
  rcases h with h | ⟨b, off, cap, h1, h2, h2a, h2b, h3, h4, h5⟩
  · exact Or.inl h
  · refine Or.inr ⟨b, off, cap, h1, h2, h2a, h2b, Nat.lt_of_lt_of_le h3 k.1, h4, fun i u hi => ?_⟩
    rw [World.cell?_of_block (w := w) (a := ⟨b, off + i, none⟩) (k.2 b h3 (hv _ _ _ h1 h2))]
    exact h5 i u hi
theorem InS.mono {S T : Nat → Prop} {v : Value} (h : InS S v) (k : ∀ i, S i → T i) : InS T v := fun a n c hv hn => k _ (h a n c hv hn)
theorem Rd.set {w : World} {sz n g i : Nat} {u v : Value} {cs : List Value} (h : Rd w sz v n cs) (hv : InS (· ≠ g) v) : Rd (w.setCell ⟨g, i, none⟩ u) sz v n cs :=
  Rd.kept h hv ⟨by simp [World.setCell], fun k _ hk => Below.heap_setCell _ _ _ _ hk⟩
theorem Rd.drewN {w : World} {sz n : Nat} {v : Value} {cs : List Value} (h : Rd w sz v n cs) (k : Nat) : Rd (w.drewN k) sz v n cs := h.later (blw_drewN (Below.refl _ _) k)
theorem Keeps.set {S : Nat → Prop} {w : World} {g i : Nat} (hs : ∀ k, S k → k ≠ g) (u : Value) : Keeps S w (w.setCell ⟨g, i, none⟩ u) := ⟨by simp [World.setCell], fun k _ hk => Below.heap_setCell _ _ _ _ (hs k hk)⟩
theorem Keeps.trans {S : Nat → Prop} {a b c : World} (h : Keeps S a b) (k : Keeps S b c) : Keeps S a c := ⟨Nat.le_trans h.1 k.1, fun i hi hs => (k.2 i (Nat.lt_of_lt_of_le hi h.1) hs).trans (h.2 i hi hs)⟩
theorem Keeps.of_below {S : Nat → Prop} {w w' : World} (h : Below w.heap.size w w') : Keeps S w w' := ⟨h.size, fun k hk _ => h.block k hk⟩
theorem Keeps.refl (S : Nat → Prop) (w : World) : Keeps S w w := ⟨Nat.le_refl _, fun _ _ _ => rfl⟩
theorem Keeps.mono {S T : Nat → Prop} {a b : World} (h : Keeps S a b) (k : ∀ i, T i → S i) : Keeps T a b := ⟨h.1, fun i hi ht => h.2 i hi (k i ht)⟩
theorem cell_row {w : World} {g : Nat} {cs : Array Value} {t : TypeId} (h : w.heap[g]? = some (.cells cs t (0, 0))) (i : Nat) (v : Value) (hi : cs[i]? = some v) : w.cell? ⟨g, i, none⟩ = some v := by
  rw [cell_of_row _ _ i _ _ (0, 0) h, hi]
theorem frozen_row {w : World} {g : Nat} {cs : Array Value} {t : TypeId} (h : w.heap[g]? = some (.cells cs t (0, 0))) (i : Nat) : w.frozen? ⟨g, i, none⟩ = false := by
  simp [World.frozen?, h]
theorem setCell_heap {w : World} {g i : Nat} {cs : Array Value} {t : TypeId} (h : w.heap[g]? = some (.cells cs t (0, 0))) (v : Value) : (w.setCell ⟨g, i, none⟩ v).heap[g]? = some (.cells (cs.setIfInBounds i v) t (0, 0)) := by
  rw [setCell_eq_setRow w g i cs t (0, 0) v h]
  exact setRow_heap w g _ _ _ _ h
end Go.Proofs.Ytpnepooobmbfbaa.dsk
