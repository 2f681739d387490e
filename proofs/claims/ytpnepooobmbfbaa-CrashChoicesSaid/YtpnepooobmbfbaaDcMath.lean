/- The code's disk: what it holds, zone by zone, and what its calls leave alone. -/
import Derived.Test.YtpnepooobmbfbaaDskStep
import Derived.Deep.Cut
import Derived.Maps.OwnSet
namespace Go.Proofs.Ytpnepooobmbfbaa.dsk
set_option maxRecDepth 100000
open Go.ChangeShapes Go.WideShapes Go.ChangeAt Go.RowKit
open Go.Proofs.Ytpnepooobmbfbaa.rows
open Go.Proofs.Ytpnepooobmbfbaa.sec
open Go.Maps
set_option linter.unusedVariables false
set_option linter.unusedSimpArgs false

/-- the slice's own block is one of S -/
def OwnS (S : Nat → Prop) (v : Value) : Prop := ∀ k, v.ownBlock = some k → S k
/-- the blocks of F that lie in zone k: 0 the disk itself, 1 safe, 2 waiting, 3 seen, 4 log, 5 faults, 6 the tags of the log -/
def Zn (F : Nat → Prop) (z : Nat → Nat) (k : Nat) : Nat → Prop := fun b => F b ∧ z b = k
def seenOf (st : St) : List (List Int) := outOf (fun _ => true) st.wait st.safe
structure LogIn (T : Nat → Prop) (w : World) (v : Value) (es : List Ev) (vs : List Value) : Prop where
  len : vs.length = es.length
  own : Own w 0 82 38 v es.length ((es.zip vs).map fun x => evC x.1 x.2).flatten
  tags : ∀ i (h : i < es.length), ∃ p c, vs[i]? = some (.slice p (es[i]).2.2.length c) ∧ Rd w 2 (.slice p (es[i]).2.2.length c) (es[i]).2.2.length (tagsC (es[i]).2.2) ∧ InS T (.slice p (es[i]).2.2.length c)
/-- the map v of numbers that are to fail holds, from asked on, those of bad -/
def FaultsIn (S : Nat → Prop) (w : World) (v : Value) (bad : List Int) (asked : Int) : Prop :=
  (v = .map none ∧ bad = []) ∨
  ∃ b n, ∃ D : DataW Unit, v = .map (some b) ∧ S b ∧ n ≤ 2000 ∧ w.ownsMap Try.prog 3 unitElem b n D ∧ ∀ k : Int, wf64 k → asked ≤ k → Maps.has D (.int .i64 k) = decide (k ∈ bad)
structure CodeAt (w : World) (F : Nat → Prop) (z : Nat → Nat) (g : Nat) (st : St) (vs vw vn vl vf : Value) : Prop where
  row : w.heap[g]? = some (.cells #[.pointer (some ⟨g, 0, none⟩), vs, vw, vn, .int .i64 st.ep, vl, .int .i64 st.asked, vf] 102 (0, 0))
  own : Zn F z 0 g
  safe : Own w 0 62 32 vs st.safe.length (cellsOf st.safe)
  safeS : OwnS (Zn F z 1) vs
  wait : Own w 0 79 36 vw st.wait.length (wrsC st.wait)
  waitS : OwnS (Zn F z 2) vw
  seen : Own w 0 62 32 vn st.safe.length (cellsOf (seenOf st))
  seenS : OwnS (Zn F z 3) vn
  log : ∃ es, LogIn (Zn F z 6) w vl st.log es
  logS : OwnS (Zn F z 4) vl
  faults : FaultsIn (Zn F z 5) w vf st.bad st.asked
  eps : ∀ x ∈ st.wait, 0 ≤ x.ep ∧ wf64 x.kind ∧ wf64 x.id
theorem own_kept {S : Nat → Prop} {w w' : World} {B : Nat} {e : TypeId} {sz n : Nat} {v : Value} {cs : List Value} (h : Own w B e sz v n cs) (hv : OwnS S v) (k : Keeps S w w') : Own w' B e sz v n cs := by
  refine ⟨h.1, ?_⟩
  rcases h.2 with h2 | ⟨g, cap, cur, hw, h3, h4, h5⟩
  · exact Or.inl h2
  · exact Or.inr ⟨g, cap, cur, hw, h3, (k.2 g (Array.getElem?_eq_some_iff.1 h4).1 (hv g (by rw [hw]; rfl))).trans h4, h5⟩
theorem OwnS.mono {S T : Nat → Prop} {v : Value} (h : OwnS S v) (k : ∀ b, S b → T b) : OwnS T v := fun b hb => k b (h b hb)
theorem own_blk {w : World} {B : Nat} {e : TypeId} {sz n : Nat} {v : Value} {cs : List Value} (h : Own w B e sz v n cs) {k : Nat} (hk : v.ownBlock = some k) : B ≤ k ∧ k < w.heap.size := World.ownsRow.lt h k hk
/-- a zone of old blocks stays what it is -/
theorem OwnS.next {F F' : Nat → Prop} {z z' : Nat → Nat} {w : World} {B k : Nat} {e : TypeId} {sz n : Nat} {v : Value} {cs : List Value} (h : OwnS (Zn F z k) v) (o : Own w B e sz v n cs) (hF : ∀ b, F b → F' b) (hz : ∀ b, b < w.heap.size → z' b = z b) : OwnS (Zn F' z' k) v :=
  fun b hb => ⟨hF b (h b hb).1, (hz b (own_blk o hb).2).trans (h b hb).2⟩
theorem LogIn.mono {T T' : Nat → Prop} {w : World} {v : Value} {es : List Ev} {vs : List Value} (h : LogIn T w v es vs) (hT : ∀ b, b < w.heap.size → T b → T' b) : LogIn T' w v es vs :=
  ⟨h.len, h.own, fun i hi => by
    obtain ⟨p, c, h1, h2, h3⟩ := h.tags i hi
    refine ⟨p, c, h1, h2, fun a n c' hv hn => ?_⟩
    have hin := h3 a n c' hv hn
    refine hT _ ?_ hin
    rcases h2 with ⟨p', cap', e1, e2, _⟩ | ⟨b, off, cap', e1, _, _, _, hlt, _⟩
    · rw [e1] at hv; cases hv; omega
    · rw [e1] at hv; cases hv; exact hlt⟩
theorem FaultsIn.mono {S S' : Nat → Prop} {w : World} {v : Value} {bad : List Int} {asked : Int} (h : FaultsIn S w v bad asked) (hS : ∀ b, b < w.heap.size → S b → S' b) : FaultsIn S' w v bad asked := by
  rcases h with h | ⟨b, n, D, hv, hb, hn, ho, hk⟩
  · exact Or.inl h
  · exact Or.inr ⟨b, n, D, hv, hS b ho.lt hb, hn, ho, hk⟩
theorem Zn.keeps {F : Nat → Prop} {z : Nat → Nat} {k : Nat} {w w' : World} (h : Keeps F w w') : Keeps (Zn F z k) w w' := h.mono fun b hb => hb.1
theorem CodeAt.lt {w : World} {F : Nat → Prop} {z : Nat → Nat} {g : Nat} {st : St} {vs vw vn vl vf : Value} (h : CodeAt w F z g st vs vw vn vl vf) : g < w.heap.size := (Array.getElem?_eq_some_iff.1 h.row).1
theorem Own.parts {w : World} {B : Nat} {e : TypeId} {sz n : Nat} {v : Value} {cs : List Value} (h : Own w B e sz v n cs) : ∃ p c, v = .slice p n c := h.slice
/-! the keys -/
end Go.Proofs.Ytpnepooobmbfbaa.dsk
