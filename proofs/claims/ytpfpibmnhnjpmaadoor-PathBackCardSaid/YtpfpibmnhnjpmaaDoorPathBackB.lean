/- What PathBack wants, part 2. -/
import Derived.Test.YtpfpibmnhnjpmaaDoorPathBackA
import Derived.Stop.BytesEq
/- Sectors: what can be read of a slice of them, and when two are the same. -/
namespace Go.Proofs.YtpfpibmnhnjpmaaDoor.sec
set_option maxRecDepth 100000
open Go.ChangeShapes Go.WideShapes Go.ChangeAt Go.RowKit
open Go.Proofs.YtpfpibmnhnjpmaaDoor.rows
set_option linter.unusedVariables false

def u8s (xs : List Int) : List Value := xs.map (Value.int .u8)
def i64s (xs : List Int) : List Value := xs.map (Value.int .i64)
/-- the bytes of one sector -/
def Sec (s : List Int) : Prop := s.length = 32 ∧ ∀ x ∈ s, 0 ≤ x ∧ x < 256
def Secs (ss : List (List Int)) : Prop := ∀ s ∈ ss, Sec s
def cellsOf (ss : List (List Int)) : List Value := u8s ss.flatten
theorem cellsOf_len {ss : List (List Int)} (h : Secs ss) : (cellsOf ss).length = ss.length * 32 := by
  unfold cellsOf u8s
  rw [List.length_map]
  induction ss with
  | nil => rfl
  | cons s t ih =>
    have := (h s (List.mem_cons_self ..)).1
    have := ih fun x hx => h x (List.mem_cons_of_mem _ hx)
    simp only [List.flatten_cons, List.length_append, List.length_cons]
    omega
theorem cellsOf_append (a b : List (List Int)) : cellsOf (a ++ b) = cellsOf a ++ cellsOf b := by simp [cellsOf, u8s]
theorem cellsOf_one (s : List Int) : cellsOf [s] = u8s s := by simp [cellsOf, u8s]
theorem bytes_back {s : List Int} (h : ∀ x ∈ s, 0 ≤ x ∧ x < 256) : u8s s = ((s.map fun x => UInt8.ofNat x.toNat).map Extern.Stop.cell) := by
  unfold u8s
  rw [List.map_map]
  apply List.map_congr_left
  intro x hx
  have := h x hx
  simp only [Function.comp_def, Extern.Stop.cell]
  congr 1
  simp
  omega
theorem bytes_inj {a b : List Int} (ha : ∀ x ∈ a, 0 ≤ x ∧ x < 256) (hb : ∀ x ∈ b, 0 ≤ x ∧ x < 256) (h : (a.map fun n => UInt8.ofNat n.toNat) = b.map fun n => UInt8.ofNat n.toNat) : a = b := by
  have hl : a.length = b.length := by simpa using congrArg List.length h
  apply List.ext_getElem hl
  intro i hi1 hi2
  have h2 : UInt8.ofNat a[i].toNat = UInt8.ofNat b[i].toNat := by
    have := congrArg (fun l : List UInt8 => l[i]?) h
    simpa [hi1, hi2] using this
  have h3 := ha _ (List.getElem_mem hi1)
  have h4 := hb _ (List.getElem_mem hi2)
  have h5 := congrArg UInt8.toNat h2
  simp only [UInt8.toNat_ofNat'] at h5
  omega
theorem size8 (w : World) : (sizeOf 5).run Tryd.prog w = .ok 1 w := by kernel_rfl
def unl (xs ys : List (List Int)) (j : Nat) : List Int := ((List.range j).filter fun (i : Nat) => decide (xs[i]? ≠ ys[i]?)).map fun (i : Nat) => (i : Int)
theorem unl_hit {xs ys : List (List Int)} {j : Nat} (h : xs[j]? ≠ ys[j]?) : unl xs ys (j + 1) = unl xs ys j ++ [(j:Int)] := by
  unfold unl
  rw [List.range_succ, List.filter_append, List.map_append]
  simp [h]
theorem unl_miss {xs ys : List (List Int)} {j : Nat} (h : xs[j]? = ys[j]?) : unl xs ys (j + 1) = unl xs ys j := by
  unfold unl
  rw [List.range_succ, List.filter_append, List.map_append]
  simp [h]
end Go.Proofs.YtpfpibmnhnjpmaaDoor.sec
/- What Same of two lists of sectors that hold the same gives. -/
namespace Go.Proofs.YtpfpibmnhnjpmaaDoor.sec
set_option maxRecDepth 100000
open Go.ChangeShapes Go.WideShapes Go.ChangeAt Go.RowKit
open Go.Proofs.YtpfpibmnhnjpmaaDoor.rows
set_option linter.unusedVariables false

theorem unl_self (xs : List (List Int)) (j : Nat) : unl xs xs j = [] := by simp [unl]
end Go.Proofs.YtpfpibmnhnjpmaaDoor.sec
/- What the reference's Gather, and the laws' own helpers, give. -/
namespace Go.Proofs.YtpfpibmnhnjpmaaDoor.sec
set_option maxRecDepth 100000
open Go.ChangeShapes Go.WideShapes Go.ChangeAt Go.RowKit
open Go.Proofs.YtpfpibmnhnjpmaaDoor.rows
set_option linter.unusedVariables false

theorem elem_bytes : Elem 45 5 1 1 (.int .u8 0) := ⟨Tryd.underlying45, by kernel_rfl, by decide, by decide, by decide⟩
end Go.Proofs.YtpfpibmnhnjpmaaDoor.sec
/- What the laws of layer 4 ask of the code's functions, and what the reference's give in the same words. -/
namespace Go.Proofs.YtpfpibmnhnjpmaaDoor.sec
set_option maxRecDepth 100000
open Go.ChangeShapes Go.WideShapes Go.ChangeAt Go.RowKit
open Go.Proofs.YtpfpibmnhnjpmaaDoor.rows
set_option linter.unusedVariables false

/-- a list in pieces of 32 -/
def chunks (l : List Int) (K : Nat) : List (List Int) := (List.range K).map fun i => (l.drop (i * 32)).take 32
theorem chunks_flat (l : List Int) (K : Nat) : (chunks l K).flatten = l.take (K * 32) := by
  induction K with
  | zero => simp [chunks]
  | succ K ih =>
    have e : chunks l (K + 1) = chunks l K ++ [(l.drop (K * 32)).take 32] := by simp [chunks, List.range_succ]
    rw [e, List.flatten_append, ih, Nat.succ_mul, List.take_add]
    simp
def Bytes (zs : List Int) : Prop := ∀ x ∈ zs, 0 ≤ x ∧ x < 256
theorem chunks_secs {l : List Int} {K : Nat} (hl : l.length = K * 32) (hb : Bytes l) : Secs (chunks l K) := by
  intro s hs
  obtain ⟨i, hi, rfl⟩ := List.mem_map.1 hs
  have hi := List.mem_range.1 hi
  refine ⟨by simp; omega, fun x hx => hb x (List.mem_of_mem_drop (List.mem_of_mem_take hx))⟩
/-- the bytes zs in sectors -/
def spr (zs : List Int) : List (List Int) := chunks (zs ++ List.replicate ((zs.length + 31) / 32 * 32 - zs.length) 0) ((zs.length + 31) / 32)
theorem spr_flat (zs : List Int) : (spr zs).flatten = zs ++ List.replicate ((zs.length + 31) / 32 * 32 - zs.length) 0 := by
  unfold spr
  rw [chunks_flat, List.take_of_length_le]
  simp; omega
theorem spr_secs {zs : List Int} (h : Bytes zs) : Secs (spr zs) := by
  refine chunks_secs (by simp; omega) ?_
  intro x hx
  rcases List.mem_append.1 hx with hx | hx
  · exact h x hx
  · have := List.eq_of_mem_replicate hx; omega
/-- Gather's answer -/
def gOk (n : Nat) (k : Int) : Bool := decide (0 ≤ k ∧ k ≤ 32 * (n:Int))
def gOf (ss : List (List Int)) (n : Nat) (k : Int) : List Int := if gOk n k = true then ss.flatten.take k.toNat else []
def gN (n : Nat) (k : Int) : Nat := if gOk n k = true then k.toNat else 0
def GatherIs (f : Nat) : Prop := ∀ (p : Option Addr) (n c : Nat) (ss : List (List Int)) (k : Int) (w : World), (Lit.int .i64 k).wf = true → Secs ss → Rd w 32 (.slice p n c) n (cellsOf ss) → n ≤ 1000 →
  Calls Tryd.prog f #[.slice p n c, .int .i64 k] w fun e w' => ∃ p' c', e = .returned (.tuple #[.slice p' (gN n k) c', .bool (gOk n k)]) ∧ Rd w' 1 (.slice p' (gN n k) c') (gN n k) (u8s (gOf ss n k)) ∧ Below w.heap.size w w'
def SpreadIs (f : Nat) : Prop := ∀ (p : Option Addr) (n c : Nat) (zs : List Int) (w : World), Bytes zs → Rd w 1 (.slice p n c) n (u8s zs) → n ≤ 1000 →
  Calls Tryd.prog f #[.slice p n c] w fun e w' => ∃ p' c', e = .returned (.slice p' ((n + 31) / 32) c') ∧ Rd w' 32 (.slice p' ((n + 31) / 32) c') ((n + 31) / 32) (cellsOf (spr zs)) ∧ Below w.heap.size w w'
def UnlikeIs (f : Nat) : Prop := ∀ (p1 p2 : Option Addr) (n1 c1 n2 c2 : Nat) (xs ys : List (List Int)) (w : World), Secs xs → Secs ys → Rd w 32 (.slice p1 n1 c1) n1 (cellsOf xs) → Rd w 32 (.slice p2 n2 c2) n2 (cellsOf ys) → n1 ≤ 1000 → n2 ≤ 1000 →
  Calls Tryd.prog f #[.slice p1 n1 c1, .slice p2 n2 c2] w fun e w' => ∃ p' c', e = .returned (.slice p' (unl xs ys (max n1 n2)).length c') ∧ Rd w' 1 (.slice p' (unl xs ys (max n1 n2)).length c') (unl xs ys (max n1 n2)).length (i64s (unl xs ys (max n1 n2))) ∧ Below w.heap.size w w'

theorem conv_rd {w : World} {v : Value} {n : Nat} {xs : List Int} (h : Rd w 1 v n (u8s xs)) : (convert 45 9 v).run Tryd.prog w = .ok (.string (strOfNums xs)) w := by
  rcases h with ⟨p, cap, rfl, rfl, hx, hp⟩ | ⟨b, off, cap, rfl, h2, h2a, h2b, h3, h4, h5⟩
  · have hx0 : xs = [] := by simpa [u8s] using hx
    subst hx0
    cases p with
    | none => exact run_convert_bytes_nil w 45 5 Tryd.underlying45 Tryd.underlying5 0 cap 9 Tryd.underlying9
    | some a =>
      rw [run_convert_bytes_string w 45 9 5 _ 0 cap Tryd.underlying45 Tryd.underlying5 Tryd.underlying9, run_bytesToString w _ 0 cap [] (by have := run_loadCells_list (P := Tryd.prog) w a [] (by simp); simpa using this), foldl_push_bytes]
      simp [strOfNums, ByteArray.empty, ByteArray.emptyWithCapacity]
      rfl
  · have hl : xs.length = n := by simpa [u8s] using h4
    refine run_convert_bytes_arg w 45 5 Tryd.underlying45 Tryd.underlying5 b off n cap xs hl (fun i hi => h5 i _ ?_) 9 Tryd.underlying9
    simp [u8s, List.getD, show i < xs.length by omega]

/-! the walk of SectorLists, over what the code's functions give -/
end Go.Proofs.YtpfpibmnhnjpmaaDoor.sec
/- Disks: writes, tags and events as cells; what one object's calls leave alone. -/
namespace Go.Proofs.YtpfpibmnhnjpmaaDoor.dsk
set_option maxRecDepth 100000
open Go.ChangeShapes Go.WideShapes Go.ChangeAt Go.RowKit
open Go.Proofs.YtpfpibmnhnjpmaaDoor.rows
open Go.Proofs.YtpfpibmnhnjpmaaDoor.sec
set_option linter.unusedVariables false

/-- a write that waits -/
structure Wr where
  pos : Int
  s : List Int
  kind : Int
  id : Int
  ep : Int
def tagC (t : Int × Int) : List Value := [.int .i64 t.1, .int .i64 t.2]
def Wr.c (x : Wr) : List Value := .int .i64 x.pos :: (u8s x.s ++ [.int .i64 x.kind, .int .i64 x.id, .int .i64 x.ep])
def wrsC (ws : List Wr) : List Value := (ws.map Wr.c).flatten
def tagsC (ts : List (Int × Int)) : List Value := (ts.map tagC).flatten
def wf64 (n : Int) : Prop := (Lit.int .i64 n).wf = true
def Wr.ok (x : Wr) : Prop := Sec x.s ∧ wf64 x.pos ∧ wf64 x.kind ∧ wf64 x.id ∧ wf64 x.ep
theorem Wr.c_len {x : Wr} (h : Sec x.s) : x.c.length = 36 := by simp [Wr.c, u8s, h.1]

/-! lists of pieces of one length -/
theorem chunk_len {α : Type} (enc : α → List Value) (sz : Nat) : ∀ (l : List α), (∀ x ∈ l, (enc x).length = sz) → ((l.map enc).flatten).length = l.length * sz
  | [], _ => by simp
  | x :: t, h => by
    have h1 := h x (List.mem_cons_self ..)
    have h2 := chunk_len enc sz t fun y hy => h y (List.mem_cons_of_mem _ hy)
    simp only [List.map_cons, List.flatten_cons, List.length_append, List.length_cons, h1, h2, Nat.succ_mul]
    omega
theorem chunk_at {α : Type} (enc : α → List Value) (sz : Nat) : ∀ (l : List α), (∀ x ∈ l, (enc x).length = sz) → ∀ (j : Nat) (hj : j < l.length) (i : Nat), i < sz → ((l.map enc).flatten)[j * sz + i]? = (enc l[j])[i]?
  | [], _, j, hj, _, _ => by simp at hj
  | x :: t, h, j, hj, i, hi => by
    have h1 := h x (List.mem_cons_self ..)
    rw [List.map_cons, List.flatten_cons]
    cases j with
    | zero => rw [Nat.zero_mul, Nat.zero_add, List.getElem?_append_left (by omega)]; rfl
    | succ j =>
      rw [List.getElem?_append_right (by rw [h1, Nat.succ_mul]; omega), h1, show (j + 1) * sz + i - sz = j * sz + i by rw [Nat.succ_mul]; omega]
      exact chunk_at enc sz t (fun y hy => h y (List.mem_cons_of_mem _ hy)) j (by simpa using hj) i hi
/-! what one object's calls leave alone -/
/-- of the old blocks none has turned but those of S -/
structure Touch (S : Nat → Prop) (w w' : World) : Prop where
  os : w'.os = w.os
  tape : w'.tape = w.tape
  output : w'.output = w.output
  size : w.heap.size ≤ w'.heap.size
  block : ∀ k, k < w.heap.size → ¬ S k → w'.heap[k]? = w.heap[k]?
theorem Touch.refl (S : Nat → Prop) (w : World) : Touch S w w := ⟨rfl, rfl, rfl, Nat.le_refl _, fun _ _ _ => rfl⟩
theorem Touch.of_below {S : Nat → Prop} {w w' : World} (h : Below w.heap.size w w') : Touch S w w' := ⟨h.os, h.tape, h.output, h.size, fun k hk _ => h.block k hk⟩
theorem Touch.trans {S : Nat → Prop} {a b c : World} (h : Touch S a b) (k : Touch S b c) : Touch S a c :=
  ⟨k.os.trans h.os, k.tape.trans h.tape, k.output.trans h.output, Nat.le_trans h.size k.size, fun i hi hn => (k.block i (Nat.lt_of_lt_of_le hi h.size) hn).trans (h.block i hi hn)⟩
/-- the second step may write what the first one made -/
theorem Touch.trans' {S S' : Nat → Prop} {a b c : World} (h : Touch S a b) (k : Touch S' b c) (hS : ∀ i, S' i → S i ∨ a.heap.size ≤ i) : Touch S a c :=
  ⟨k.os.trans h.os, k.tape.trans h.tape, k.output.trans h.output, Nat.le_trans h.size k.size, fun i hi hn => (k.block i (Nat.lt_of_lt_of_le hi h.size) (fun hs => by rcases hS i hs with h1 | h1; exact hn h1; omega)).trans (h.block i hi hn)⟩
theorem Touch.mono {S S' : Nat → Prop} {a b : World} (h : Touch S a b) (hS : ∀ i, S i → S' i) : Touch S' a b := ⟨h.os, h.tape, h.output, h.size, fun k hk hn => h.block k hk fun hs => hn (hS k hs)⟩
theorem row_later {w w' : World} {g B : Nat} {o : Obj} (h : w.heap[g]? = some o) (hb : Below B w w') (hg : g < B) : w'.heap[g]? = some o := (hb.block g hg).trans h
theorem Touch.drew {S : Nat → Prop} {a b : World} (h : Touch S a b) : Touch S a b.drew := ⟨h.os, h.tape, h.output, h.size, h.block⟩
theorem Touch.alloc {S : Nat → Prop} {a b : World} (h : Touch S a b) (o : Obj) : Touch S a (b.alloc o) := h.trans (Touch.of_below (below_alloc (Below.refl _ _) o))
theorem Touch.setCell {S : Nat → Prop} {a b : World} (h : Touch S a b) (p : Addr) (hp : S p.block) (v : Value) : Touch S a (b.setCell p v) :=
  h.trans ⟨rfl, rfl, rfl, by simp [World.setCell], fun k hk hn => Below.heap_setCell _ _ _ _ fun e => hn (by rw [e]; exact hp)⟩
theorem Touch.cell {S : Nat → Prop} {a b : World} (h : Touch S a b) {p : Addr} (hp : p.block < a.heap.size) (hs : ¬ S p.block) : b.cell? p = a.cell? p := World.cell?_of_block (w := a) (h.block p.block hp hs)
theorem Touch.range {S : Nat → Prop} {a b : World} (h : Touch S a b) {g o : Nat} {cs : List Value} (hg : g < a.heap.size) (hs : ¬ S g) (hr : a.rangeAt g o cs) : b.rangeAt g o cs := fun i u hi => by
  rw [h.cell (p := ⟨g, o + i, none⟩) hg hs]
  exact hr i u hi
/-- what an object reads lies in blocks of S -/
def Keeps (S : Nat → Prop) (w w' : World) : Prop := w.heap.size ≤ w'.heap.size ∧ ∀ k, k < w.heap.size → S k → w'.heap[k]? = w.heap[k]?
theorem Touch.keeps {S T : Nat → Prop} {w w' : World} (h : Touch T w w') (hd : ∀ k, S k → ¬ T k) : Keeps S w w' := ⟨h.size, fun k hk hs => h.block k hk (hd k hs)⟩
def InS (S : Nat → Prop) (v : Value) : Prop := ∀ a n c, v = .slice (some a) n c → 0 < n → S a.block
theorem Rd.kept {S : Nat → Prop} {w w' : World} {sz n : Nat} {v : Value} {cs : List Value} (h : Rd w sz v n cs) (hv : InS S v) (k : Keeps S w w') : Rd w' sz v n cs := by
  rcases h with h | ⟨b, off, cap, h1, h2, h2a, h2b, h3, h4, h5⟩
  · exact Or.inl h
  · refine Or.inr ⟨b, off, cap, h1, h2, h2a, h2b, Nat.lt_of_lt_of_le h3 k.1, h4, fun i u hi => ?_⟩
    rw [World.cell?_of_block (w := w) (a := ⟨b, off + i, none⟩) (k.2 b h3 (hv _ _ _ h1 h2))]
    exact h5 i u hi
theorem InS.mono {S T : Nat → Prop} {v : Value} (h : InS S v) (k : ∀ i, S i → T i) : InS T v := fun a n c hv hn => k _ (h a n c hv hn)
theorem Rd.set {w : World} {sz n g i : Nat} {u v : Value} {cs : List Value} (h : Rd w sz v n cs) (hv : InS (· ≠ g) v) : Rd (w.setCell ⟨g, i, none⟩ u) sz v n cs :=
  Rd.kept h hv ⟨by simp [World.setCell], fun k _ hk => Below.heap_setCell _ _ _ _ hk⟩
theorem Rd.drewN {w : World} {sz n : Nat} {v : Value} {cs : List Value} (h : Rd w sz v n cs) (k : Nat) : Rd (w.drewN k) sz v n cs := h.later (blw_drewN (Below.refl _ _) k)
theorem Keeps.set {S : Nat → Prop} {w : World} {g i : Nat} (hs : ∀ k, S k → k ≠ g) (u : Value) : Keeps S w (w.setCell ⟨g, i, none⟩ u) := ⟨by simp [World.setCell], fun k _ hk => Below.heap_setCell _ _ _ _ (hs k hk)⟩
theorem Keeps.trans {S : Nat → Prop} {a b c : World} (h : Keeps S a b) (k : Keeps S b c) : Keeps S a c := ⟨Nat.le_trans h.1 k.1, fun i hi hs => (k.2 i (Nat.lt_of_lt_of_le hi h.1) hs).trans (h.2 i hi hs)⟩
theorem Keeps.of_below {S : Nat → Prop} {w w' : World} (h : Below w.heap.size w w') : Keeps S w w' := ⟨h.size, fun k hk _ => h.block k hk⟩
theorem Keeps.refl (S : Nat → Prop) (w : World) : Keeps S w w := ⟨Nat.le_refl _, fun _ _ _ => rfl⟩
theorem Keeps.mono {S T : Nat → Prop} {a b : World} (h : Keeps S a b) (k : ∀ i, T i → S i) : Keeps T a b := ⟨h.1, fun i hi ht => h.2 i hi (k i ht)⟩
theorem cell_row {w : World} {g : Nat} {cs : Array Value} {t : TypeId} (h : w.heap[g]? = some (.cells cs t (0, 0))) (i : Nat) (v : Value) (hi : cs[i]? = some v) : w.cell? ⟨g, i, none⟩ = some v := by
  rw [cell_of_row _ _ i _ _ (0, 0) h, hi]
theorem frozen_row {w : World} {g : Nat} {cs : Array Value} {t : TypeId} (h : w.heap[g]? = some (.cells cs t (0, 0))) (i : Nat) : w.frozen? ⟨g, i, none⟩ = false := by
  simp [World.frozen?, h]
theorem setCell_heap {w : World} {g i : Nat} {cs : Array Value} {t : TypeId} (h : w.heap[g]? = some (.cells cs t (0, 0))) (v : Value) : (w.setCell ⟨g, i, none⟩ v).heap[g]? = some (.cells (cs.setIfInBounds i v) t (0, 0)) := by
  rw [setCell_eq_setRow w g i cs t (0, 0) v h]
  exact setRow_heap w g _ _ _ _ h
end Go.Proofs.YtpfpibmnhnjpmaaDoor.dsk
/- What the small functions of the disk's reference give. -/
namespace Go.Proofs.YtpfpibmnhnjpmaaDoor.dsk
set_option maxRecDepth 100000
open Go.ChangeShapes Go.WideShapes Go.ChangeAt Go.RowKit
open Go.Proofs.YtpfpibmnhnjpmaaDoor.rows
open Go.Proofs.YtpfpibmnhnjpmaaDoor.sec
set_option linter.unusedVariables false

/-! the reference's disk -/
structure St where
  safe : List (List Int)
  wait : List Wr
  ep : Int
  log : List (Int × Wr × List (Int × Int))
  bad : List Int
  asked : Int
abbrev Ev := Int × Wr × List (Int × Int)
/-- an event's cells, and the tags that its last one shows -/
def evC (e : Ev) (v : Value) : List Value := .int .i64 e.1 :: (e.2.1.c ++ [v])
structure EvsIn (S : Nat → Prop) (w : World) (v : Value) (es : List Ev) (n : Nat) (vs : List Value) : Prop where
  len : vs.length = es.length
  cells : Rd w 38 v n ((es.zip vs).map fun x => evC x.1 x.2).flatten
  at_ : InS S v
  tags : ∀ i (h : i < es.length), ∃ p c, vs[i]? = some (.slice p (es[i]).2.2.length c) ∧ Rd w 2 (.slice p (es[i]).2.2.length c) (es[i]).2.2.length (tagsC (es[i]).2.2) ∧ InS S (.slice p (es[i]).2.2.length c)
end Go.Proofs.YtpfpibmnhnjpmaaDoor.dsk
/- What the reference's comparisons give of two lists that hold the same. -/
namespace Go.Proofs.YtpfpibmnhnjpmaaDoor.dsk
set_option maxRecDepth 100000
open Go.ChangeShapes Go.WideShapes Go.ChangeAt Go.RowKit
open Go.Proofs.YtpfpibmnhnjpmaaDoor.rows
open Go.Proofs.YtpfpibmnhnjpmaaDoor.sec
set_option linter.unusedVariables false

/-- a load of one cell, taken first in a region that draws its order -/
theorem ld_cell {ops : Array Oper} {S : World → Prop} {op : Oper} {a : Act} (hw : Region.wanted op (yielded ops a.tmps) = true) (T : TypeId) (d : TypeDesc) (hu : Tryd.prog.underlying T = some d) (hd : d.isRow = false) (x : Operand) (ho : op.op = .load T x)
    (b o : Nat) (hx : a.eval x = .pointer (some ⟨b, o, none⟩)) (v : Value) (hS : ∀ w, S w → w.cell? ⟨b, o, none⟩ = some v) : YieldsIf Tryd.prog ops S op v a :=
  .inl ⟨hw, fun w h => by
    have hagg : (isAgg T).run Tryd.prog w = .ok false w := by
      unfold isAgg
      rw [Sem.run_bind, run_underlying hu w]
      cases d <;> simp_all
    unfold execOp
    simp only [ho, hx, Instr.loadAt, Instr.sureAddr, Sem.run_bind, Sem.run_pure, Result.andThen_ok, loadVar, hagg, Bool.false_eq_true, if_false]
    simp [hS w h]⟩
end Go.Proofs.YtpfpibmnhnjpmaaDoor.dsk
/- Arguments opened: a slice of whatever elements, element by element. -/
namespace Go.Proofs.YtpfpibmnhnjpmaaDoor.rows
set_option maxRecDepth 100000
open Go.ChangeShapes Go.WideShapes Go.ChangeAt Go.RowKit
open Go.Proofs.YtpfpibmnhnjpmaaDoor.dsk
set_option linter.unusedVariables false

theorem list_of {α : Type} {p : Nat → α → Prop} : ∀ (n : Nat), (∀ i, i < n → ∃ a, p i a) → ∃ l : List α, l.length = n ∧ ∀ i (h : i < l.length), p i l[i]
  | 0, _ => ⟨[], rfl, fun i h => by simp at h⟩
  | n + 1, h => by
    obtain ⟨l, hl, hp⟩ := list_of n fun i hi => h i (by omega)
    obtain ⟨a, ha⟩ := h n (by omega)
    refine ⟨l ++ [a], by simp [hl], fun i hi => ?_⟩
    by_cases hlt : i < l.length
    · rw [List.getElem_append_left hlt]
      exact hp i hlt
    · have : i = n := by simp at hi; omega
      subst this
      rw [List.getElem_append_right (by omega)]
      simpa [hl] using ha
section
variable {H : Type} {enc : TypeId × Value → H} {W : World} {base : Nat} {spare : Nat → Bool} {held : Bool}
theorem open_slice {α : Type} (encα : α → List Value) {sz : Nat} (h0 : 0 < sz) {t e : TypeId} (hu : Tryd.prog.underlying t = some (.slice e)) (hc : Tryd.prog.cellsOf e = sz) (good : α → Prop) (hlen : ∀ a, good a → (encα a).length = sz)
    (one : ∀ (n : Nat) (cs : List Value) (x : DataW H × List MemPlace), DataW.trod enc Tryd.prog W base spare held n e cs = some x → ∃ a, good a ∧ cs = encα a) {fuel : Nat} {cs : List Value} {x : DataW H × List MemPlace}
    (hf : DataW.trod enc Tryd.prog W base spare held fuel t cs = some x) :
    ∃ (p : Option Addr) (len cap : Nat) (l : List α), cs = [.slice p len cap] ∧ (∀ a ∈ l, good a) ∧ l.length = len ∧ Rd W sz (.slice p len cap) len ((l.map encα).flatten) ∧ len ≤ maxLen := by
  rcases DataW.trod_slice hu hf with ⟨hcs, _⟩ | ⟨a, len, cap, elems, rest, n, _, hcs, _, _, hl, hm, hel, hat, _, _⟩
  · exact ⟨none, 0, 0, [], hcs, by simp, rfl, Or.inl ⟨_, _, rfl, rfl, rfl, fun _ => rfl⟩, Nat.zero_le _⟩
  · rw [hc] at hat
    have each : ∀ i, i < len → ∃ a', good a' ∧ ∀ k, k < sz → W.cell? ((a.add (i * sz)).add k) = (encα a')[k]? := by
      intro i hi
      have h1 := hat i hi
      rw [List.getElem?_eq_getElem (by omega), Option.bind_eq_some_iff] at h1
      obtain ⟨cs', hcs', ht⟩ := h1
      obtain ⟨a', ha', rfl⟩ := one _ _ _ ht
      exact ⟨a', ha', (World.cells?_some hcs').2.2⟩
    by_cases hz : len = 0
    · subst hz
      exact ⟨some a, 0, cap, [], hcs, by simp, rfl, Or.inl ⟨_, _, rfl, rfl, rfl, fun h => by cases h⟩, Nat.zero_le _⟩
    · obtain ⟨b, off, spot⟩ := a
      have hspot : spot = none := by
        obtain ⟨a', ha', hcell⟩ := each 0 (by omega)
        have h2 := hcell 0 h0
        have hl' := hlen a' ha'
        rw [List.getElem?_eq_getElem (by omega)] at h2
        cases spot with
        | none => rfl
        | some y =>
          simp [Addr.add, World.cell?] at h2
          split at h2 <;> cases h2
      subst hspot
      obtain ⟨l, hll, hlp⟩ := list_of len each
      have hg : ∀ a ∈ l, good a := fun a ha => by
        obtain ⟨i, hi, rfl⟩ := List.getElem_of_mem ha
        exact (hlp i hi).1
      have hle : ∀ a ∈ l, (encα a).length = sz := fun a ha => hlen a (hg a ha)
      have hcl : ((l.map encα).flatten).length = len * sz := by rw [chunk_len encα sz l hle, hll]
      have hcellat : ∀ i (hi : i < l.length) k, k < sz → W.cell? ⟨b, off + i * sz + k, none⟩ = (encα l[i])[k]? := fun i hi k hk => by
        have h1 := (hlp i hi).2 k hk
        have e : ((⟨b, off, none⟩ : Addr).add (i * sz)).add k = ⟨b, off + i * sz + k, none⟩ := by rw [Addr.add_mid, Addr.add_mid]
        exact (congrArg W.cell? e).symm.trans h1
      refine ⟨_, len, cap, l, hcs, hg, hll, Or.inr ⟨b, off, cap, rfl, by omega, hl, hm, ?_, hcl, ?_⟩, by omega⟩
      · have h1 := hcellat 0 (by omega) 0 h0
        have hl0 := hle _ (List.getElem_mem (show 0 < l.length by omega))
        rw [List.getElem?_eq_getElem (by omega)] at h1
        exact block_lt_of_cell h1
      · intro k u hk
        have hkl : k < len * sz := by
          have := (List.getElem?_eq_some_iff.1 hk).1
          rw [hcl] at this; exact this
        have hi : k / sz < l.length := by rw [hll]; exact Nat.div_lt_of_lt_mul (by rw [Nat.mul_comm]; exact hkl)
        have hr := Nat.mod_lt k h0
        have h1 := hcellat (k / sz) hi (k % sz) hr
        have h2 := chunk_at encα sz l hle (k / sz) hi (k % sz) hr
        have hdm : k / sz * sz + k % sz = k := by rw [Nat.mul_comm]; exact Nat.div_add_mod k sz
        rw [hdm, hk] at h2
        rw [show off + k = off + k / sz * sz + k % sz by omega, h1, ← h2]
end
end Go.Proofs.YtpfpibmnhnjpmaaDoor.rows
/- The arguments of the disk's laws: acts. -/
namespace Go.Proofs.YtpfpibmnhnjpmaaDoor.dsk
set_option maxRecDepth 100000
open Go.ChangeShapes Go.WideShapes Go.ChangeAt Go.RowKit
open Go.Proofs.YtpfpibmnhnjpmaaDoor.rows
open Go.Proofs.YtpfpibmnhnjpmaaDoor.sec
set_option linter.unusedVariables false
set_option linter.unusedSimpArgs false

/-- an act, and the slices that its cells show -/
structure Act0 where
  kind : Int
  pos : Int
  s : List Int
  k : Int
  id : Int
  ts : List (Int × Int)
  bad : List Int
  vt : Value
  vb : Value
def Act0.c (a : Act0) : List Value := .int .i64 a.kind :: .int .i64 a.pos :: (u8s a.s ++ [.int .i64 a.k, .int .i64 a.id, a.vt, a.vb])
structure Act0.ok (W : World) (a : Act0) : Prop where
  sec : Sec a.s
  kind : wf64 a.kind
  pos : wf64 a.pos
  k : wf64 a.k
  id : wf64 a.id
  ts : ∃ p c, a.vt = .slice p a.ts.length c ∧ Rd W 2 a.vt a.ts.length (tagsC a.ts)
  bad : ∃ p c, a.vb = .slice p a.bad.length c ∧ Rd W 1 a.vb a.bad.length (i64s a.bad)
  tsl : a.ts.length ≤ maxLen
  badl : a.bad.length ≤ maxLen
  tswf : ∀ t ∈ a.ts, wf64 t.1 ∧ wf64 t.2
  badwf : ∀ x ∈ a.bad, wf64 x
theorem Act0.c_len {W : World} {a : Act0} (h : a.ok W) : a.c.length = 38 := by simp [Act0.c, u8s, h.sec.1]
section
variable {H : Type} {enc : TypeId × Value → H} {W : World} {base : Nat} {spare : Nat → Bool} {held : Bool}
end
end Go.Proofs.YtpfpibmnhnjpmaaDoor.dsk
/- What the reference's New and From give. -/
namespace Go.Proofs.YtpfpibmnhnjpmaaDoor.dsk
set_option maxRecDepth 100000
open Go.ChangeShapes Go.WideShapes Go.ChangeAt Go.RowKit
open Go.Proofs.YtpfpibmnhnjpmaaDoor.rows
open Go.Proofs.YtpfpibmnhnjpmaaDoor.sec
set_option linter.unusedVariables false
set_option linter.unusedSimpArgs false

def zero32 : List Int := List.replicate 32 0
theorem sec_zero : Sec zero32 := by
  refine ⟨by simp [zero32], fun x hx => ?_⟩
  have := List.eq_of_mem_replicate hx
  omega
theorem touch_setRow (w : World) (g : Nat) (cs : Array Value) : Touch (· = g) w (w.setRow g cs) := ⟨rfl, rfl, rfl, by simp [World.setRow], fun k _ hk => setRow_other w g k cs hk⟩
end Go.Proofs.YtpfpibmnhnjpmaaDoor.dsk
