/- The code's disk: what it holds, zone by zone, and what its calls leave alone. -/
import Derived.Test.YteobhljkjgocdaaDskPlays
import Derived.Maps.OwnSet
namespace Go.Proofs.Yteobhljkjgocdaa.dsk
open Go.ChangeShapes Go.WideShapes Go.ChangeAt Go.RowKit
open Go.Proofs.Yteobhljkjgocdaa.rows
open Go.Proofs.Yteobhljkjgocdaa.sec
open Go.Maps
set_option linter.unusedVariables false
set_option linter.unusedSimpArgs false

/-- the slice's own block is one of S -/
def OwnS (S : Nat → Prop) (v : Value) : Prop := ∀ k, v.ownBlock = some k → S k
/-- the blocks of F that lie in zone k: 0 the disk itself, 1 safe, 2 waiting, 3 seen, 4 log, 5 faults, 6 the tags of the log -/
def Zn (F : Nat → Prop) (z : Nat → Nat) (k : Nat) : Nat → Prop := fun b => F b ∧ z b = k
def seenOf (st : St) : List (List Int) := outOf (fun _ => true) st.wait st.safe
structure LogIn (T : Nat → Prop) (w : World) (v : Value) (es : List Ev) (vs : List Value) : Prop where
  len : vs.length = es.length
  own : Own w 0 79 38 v es.length ((es.zip vs).map fun x => evC x.1 x.2).flatten
  tags : ∀ i (h : i < es.length), ∃ p c, vs[i]? = some (.slice p (es[i]).2.2.length c) ∧ Rd w 2 (.slice p (es[i]).2.2.length c) (es[i]).2.2.length (tagsC (es[i]).2.2) ∧ InS T (.slice p (es[i]).2.2.length c)
/-- the map v of numbers that are to fail holds, from asked on, those of bad -/
def FaultsIn (S : Nat → Prop) (w : World) (v : Value) (bad : List Int) (asked : Int) : Prop :=
  (v = .map none ∧ bad = []) ∨
  ∃ b n, ∃ D : DataW Unit, v = .map (some b) ∧ S b ∧ n ≤ 2000 ∧ w.ownsMap Try.prog 3 unitElem b n D ∧ ∀ k : Int, wf64 k → asked ≤ k → Maps.has D (.int .i64 k) = decide (k ∈ bad)
structure CodeAt (w : World) (F : Nat → Prop) (z : Nat → Nat) (g : Nat) (st : St) (vs vw vn vl vf : Value) : Prop where
  row : w.heap[g]? = some (.cells #[.pointer (some ⟨g, 0, none⟩), vs, vw, vn, .int .i64 st.ep, vl, .int .i64 st.asked, vf] 70 (0, 0))
  own : Zn F z 0 g
  safe : Own w 0 35 32 vs st.safe.length (cellsOf st.safe)
  safeS : OwnS (Zn F z 1) vs
  wait : Own w 0 74 36 vw st.wait.length (wrsC st.wait)
  waitS : OwnS (Zn F z 2) vw
  seen : Own w 0 35 32 vn st.safe.length (cellsOf (seenOf st))
  seenS : OwnS (Zn F z 3) vn
  log : ∃ es, LogIn (Zn F z 6) w vl st.log es
  logS : OwnS (Zn F z 4) vl
  faults : FaultsIn (Zn F z 5) w vf st.bad st.asked
  eps : ∀ x ∈ st.wait, 0 ≤ x.ep ∧ wf64 x.kind ∧ wf64 x.id
def CA (w : World) (F : Nat → Prop) (d : Value) (st : St) : Prop := ∃ z g vs vw vn vl vf, d = .pointer (some ⟨g, 0, none⟩) ∧ CodeAt w F z g st vs vw vn vl vf
theorem own_kept {S : Nat → Prop} {w w' : World} {B : Nat} {e : TypeId} {sz n : Nat} {v : Value} {cs : List Value} (h : Own w B e sz v n cs) (hv : OwnS S v) (k : Keeps S w w') : Own w' B e sz v n cs := by
  refine ⟨h.1, ?_⟩
  rcases h.2 with h2 | ⟨g, cap, cur, hw, h3, h4, h5⟩
  · exact Or.inl h2
  · exact Or.inr ⟨g, cap, cur, hw, h3, (k.2 g (Array.getElem?_eq_some_iff.1 h4).1 (hv g (by rw [hw]; rfl))).trans h4, h5⟩
theorem OwnS.mono {S T : Nat → Prop} {v : Value} (h : OwnS S v) (k : ∀ b, S b → T b) : OwnS T v := fun b hb => k b (h b hb)
theorem own_blk {w : World} {B : Nat} {e : TypeId} {sz n : Nat} {v : Value} {cs : List Value} (h : Own w B e sz v n cs) {k : Nat} (hk : v.ownBlock = some k) : B ≤ k ∧ k < w.heap.size := World.ownsRow.lt h k hk
/-- a zone of old blocks stays what it is -/
theorem OwnS.next {F F' : Nat → Prop} {z z' : Nat → Nat} {w : World} {B k : Nat} {e : TypeId} {sz n : Nat} {v : Value} {cs : List Value} (h : OwnS (Zn F z k) v) (o : Own w B e sz v n cs) (hF : ∀ b, F b → F' b) (hz : ∀ b, b < w.heap.size → z' b = z b) : OwnS (Zn F' z' k) v :=
  fun b hb => ⟨hF b (h b hb).1, (hz b (own_blk o hb).2).trans (h b hb).2⟩
theorem ownS_nil (S : Nat → Prop) : OwnS S (.slice none 0 0) := fun k hk => by simp [Value.ownBlock] at hk
theorem logIn_kept {T : Nat → Prop} {S : Nat → Prop} {w w' : World} {v : Value} {es : List Ev} {vs : List Value} (h : LogIn T w v es vs) (hv : OwnS S v) (k : Keeps S w w') (k2 : Keeps T w w') : LogIn T w' v es vs :=
  ⟨h.len, own_kept h.own hv k, fun i hi => by
    obtain ⟨p, c, h1, h2, h3⟩ := h.tags i hi
    exact ⟨p, c, h1, Rd.kept h2 h3 k2, h3⟩⟩
theorem LogIn.mono {T T' : Nat → Prop} {w : World} {v : Value} {es : List Ev} {vs : List Value} (h : LogIn T w v es vs) (hT : ∀ b, b < w.heap.size → T b → T' b) : LogIn T' w v es vs :=
  ⟨h.len, h.own, fun i hi => by
    obtain ⟨p, c, h1, h2, h3⟩ := h.tags i hi
    refine ⟨p, c, h1, h2, fun a n c' hv hn => ?_⟩
    have hin := h3 a n c' hv hn
    refine hT _ ?_ hin
    rcases h2 with ⟨p', cap', e1, e2, _⟩ | ⟨b, off, cap', e1, _, _, _, hlt, _⟩
    · rw [e1] at hv; cases hv; omega
    · rw [e1] at hv; cases hv; exact hlt⟩
theorem faults_kept {S : Nat → Prop} {w w' : World} {v : Value} {bad : List Int} {asked : Int} (h : FaultsIn S w v bad asked) (k : Keeps S w w') : FaultsIn S w' v bad asked := by
  rcases h with h | ⟨b, n, D, hv, hS, hn, ho, hk⟩
  · exact Or.inl h
  · refine Or.inr ⟨b, n, D, hv, hS, hn, ?_, hk⟩
    have hlt := ho.lt
    obtain ⟨es, clock, hb, r⟩ := ho
    exact ⟨es, clock, (k.2 b hlt hS).trans hb, r⟩
theorem FaultsIn.mono {S S' : Nat → Prop} {w : World} {v : Value} {bad : List Int} {asked : Int} (h : FaultsIn S w v bad asked) (hS : ∀ b, b < w.heap.size → S b → S' b) : FaultsIn S' w v bad asked := by
  rcases h with h | ⟨b, n, D, hv, hb, hn, ho, hk⟩
  · exact Or.inl h
  · exact Or.inr ⟨b, n, D, hv, hS b ho.lt hb, hn, ho, hk⟩
theorem faults_next {S S' : Nat → Prop} {w w' : World} {v : Value} {bad : List Int} {asked : Int} (h : FaultsIn S w v bad asked) (k : Keeps S w w') (hS : ∀ b, b < w.heap.size → S b → S' b) : FaultsIn S' w' v bad asked := by
  rcases h with h | ⟨b, n, D, hv, hb, hn, ho, hk⟩
  · exact Or.inl h
  · have hlt := ho.lt
    obtain ⟨es, clock, he, r⟩ := ho
    exact Or.inr ⟨b, n, D, hv, hS b hlt hb, hn, ⟨es, clock, (k.2 b hlt hb).trans he, r⟩, hk⟩
theorem Zn.keeps {F : Nat → Prop} {z : Nat → Nat} {k : Nat} {w w' : World} (h : Keeps F w w') : Keeps (Zn F z k) w w' := h.mono fun b hb => hb.1
theorem codeAt_kept {w w' : World} {F : Nat → Prop} {z : Nat → Nat} {g : Nat} {st : St} {vs vw vn vl vf : Value} (h : CodeAt w F z g st vs vw vn vl vf) (k : Keeps F w w') : CodeAt w' F z g st vs vw vn vl vf := by
  obtain ⟨es, he⟩ := h.log
  exact ⟨(k.2 g (Array.getElem?_eq_some_iff.1 h.row).1 h.own.1).trans h.row, h.own, own_kept h.safe h.safeS (Zn.keeps k), h.safeS, own_kept h.wait h.waitS (Zn.keeps k), h.waitS, own_kept h.seen h.seenS (Zn.keeps k), h.seenS, ⟨es, logIn_kept he h.logS (Zn.keeps k) (Zn.keeps k)⟩, h.logS, faults_kept h.faults (Zn.keeps k), h.eps⟩
theorem CodeAt.lt {w : World} {F : Nat → Prop} {z : Nat → Nat} {g : Nat} {st : St} {vs vw vn vl vf : Value} (h : CodeAt w F z g st vs vw vn vl vf) : g < w.heap.size := (Array.getElem?_eq_some_iff.1 h.row).1
/-- more blocks, and zones that agree on the old ones -/
theorem CodeAt.wider {w : World} {F F' : Nat → Prop} {z z' : Nat → Nat} {g : Nat} {st : St} {vs vw vn vl vf : Value} (h : CodeAt w F z g st vs vw vn vl vf) (hF : ∀ b, F b → F' b) (hz : ∀ b, b < w.heap.size → z' b = z b) : CodeAt w F' z' g st vs vw vn vl vf := by
  obtain ⟨es, he⟩ := h.log
  exact ⟨h.row, ⟨hF _ h.own.1, (hz _ h.lt).trans h.own.2⟩, h.safe, h.safeS.next h.safe hF hz, h.wait, h.waitS.next h.wait hF hz, h.seen, h.seenS.next h.seen hF hz, ⟨es, he.mono fun b hb hT => ⟨hF b hT.1, (hz b hb).trans hT.2⟩⟩, h.logS.next he.own hF hz, h.faults.mono fun b hb hT => ⟨hF b hT.1, (hz b hb).trans hT.2⟩, h.eps⟩
theorem Own.parts {w : World} {B : Nat} {e : TypeId} {sz n : Nat} {v : Value} {cs : List Value} (h : Own w B e sz v n cs) : ∃ p c, v = .slice p n c := h.slice
theorem codeAt_slices {w : World} {F : Nat → Prop} {z : Nat → Nat} {g : Nat} {st : St} {vs vw vn vl vf : Value} (h : CodeAt w F z g st vs vw vn vl vf) :
    ∃ ps cs pw cw pn cn pl cl, vs = .slice ps st.safe.length cs ∧ vw = .slice pw st.wait.length cw ∧ vn = .slice pn st.safe.length cn ∧ vl = .slice pl st.log.length cl := by
  obtain ⟨es, he⟩ := h.log
  obtain ⟨ps, cs, h1⟩ := h.safe.slice
  obtain ⟨pw, cw, h2⟩ := h.wait.slice
  obtain ⟨pn, cn, h3⟩ := h.seen.slice
  obtain ⟨pl, cl, h4⟩ := he.own.slice
  exact ⟨ps, cs, pw, cw, pn, cn, pl, cl, h1, h2, h3, h4⟩
theorem zn_off {F T : Nat → Prop} {z : Nat → Nat} {k : Nat} {w w' : World} (h : Touch T w w') (hT : ∀ b, T b → ¬ (F b ∧ z b = k)) : Keeps (Zn F z k) w w' := h.keeps fun b hb hb2 => hT b hb2 hb
/-- the row has turned, and the map of faults: the rest stands -/
theorem CodeAt.change {w w' : World} {F T : Nat → Prop} {z : Nat → Nat} {g : Nat} {st : St} {vs vw vn vl vf : Value} (h : CodeAt w F z g st vs vw vn vl vf) (ht : Touch T w w') (h1 : ∀ b, T b → ¬ (F b ∧ z b = 1)) (h2 : ∀ b, T b → ¬ (F b ∧ z b = 2)) (h3 : ∀ b, T b → ¬ (F b ∧ z b = 3)) (h4 : ∀ b, T b → ¬ (F b ∧ z b = 4)) (h6 : ∀ b, T b → ¬ (F b ∧ z b = 6))
    {ep ask : Int} {vf' : Value} {bad : List Int} (hr : w'.heap[g]? = some (.cells #[.pointer (some ⟨g, 0, none⟩), vs, vw, vn, .int .i64 ep, vl, .int .i64 ask, vf'] 70 (0, 0))) (hf : FaultsIn (Zn F z 5) w' vf' bad ask) :
    CodeAt w' F z g { st with ep := ep, asked := ask, bad := bad } vs vw vn vl vf' := by
  obtain ⟨es, he⟩ := h.log
  exact ⟨hr, h.own, own_kept h.safe h.safeS (zn_off ht h1), h.safeS, own_kept h.wait h.waitS (zn_off ht h2), h.waitS, own_kept h.seen h.seenS (zn_off ht h3), h.seenS, ⟨es, logIn_kept he h.logS (zn_off ht h4) (zn_off ht h6)⟩, h.logS, hf, h.eps⟩
/-! the keys -/
theorem key_int : Keyed Try.prog 3 := int_keyed Try.underlying3
theorem und_faults : Try.prog.underlying 68 = some (.map 3 77) := by kernel_rfl
theorem zero_unit (w : World) : (zeroValue 77).run Try.prog w = .ok (.agg #[]) w := by kernel_rfl
theorem keyAt_int {k : Int} (h : wf64 k) : keyOf Try.prog 3 (.int .i64 k) = some (.int .i64 k) := keyOf_int_mk Try.underlying3 h
theorem isKey_int (k : Int) : WideAt.IsKeyLit (.int .i64 k) := trivial
end Go.Proofs.Yteobhljkjgocdaa.dsk
