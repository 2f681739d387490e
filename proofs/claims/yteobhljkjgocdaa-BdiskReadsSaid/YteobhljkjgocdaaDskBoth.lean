/- Two disks side by side: what is asked of the code's, whatever it looks like in memory, and step over it. -/
import Derived.Test.YteobhljkjgocdaaDskSync
import Derived.Test.YteobhljkjgocdaaDskArgs
namespace Go.Proofs.Yteobhljkjgocdaa.dsk
open Go.ChangeShapes Go.WideShapes Go.ChangeAt Go.RowKit
open Go.Proofs.Yteobhljkjgocdaa.rows
open Go.Proofs.Yteobhljkjgocdaa.sec
set_option linter.unusedVariables false
set_option linter.unusedSimpArgs false

/-- a state that the laws reach -/
structure St.fine (st : St) : Prop where
  few : st.few
  n1 : st.safe.length ≤ 65
  pos : ∀ x ∈ st.wait, 0 ≤ x.pos ∧ x.pos < (st.safe.length : Int)
/-- what a call that answers with a number leaves of the code's disk -/
def CodeDone (CA : World → (Nat → Prop) → Value → St → Prop) (F : Nat → Prop) (d : Value) (w : World) (r : Int × St) (e : Ending) (w' : World) : Prop := e = .returned (.int .i64 r.1) ∧ CA w' (grow F w w') d r.2 ∧ Touch F w w'
def readR (st : St) (i : Int) : Value := if 0 ≤ i ∧ i < (st.safe.length : Int) then .tuple #[agg (readOf st i.toNat), .int .i64 0] else .tuple #[agg zero32, .int .i64 1]
/-- what is asked of the code's disk -/
structure DiskIs (CA : World → (Nat → Prop) → Value → St → Prop) : Prop where
  kept : ∀ (w w' : World) (F : Nat → Prop) (d : Value) (st : St), CA w F d st → Keeps F w w' → CA w' F d st
  barrier : ∀ (w : World) (F : Nat → Prop) (d : Value) (st : St), CA w F d st → st.fine → Calls Try.prog 11 #[d] w (CodeDone CA F d w (barrier st))
  write : ∀ (w : World) (F : Nat → Prop) (d : Value) (st : St) (i : Int) (s : List Int) (k id : Int), CA w F d st → st.fine → wf64 i → Sec s → wf64 k → wf64 id → Calls Try.prog 12 #[d, .int .i64 i, agg s, .agg #[.int .i64 k, .int .i64 id]] w (CodeDone CA F d w (writeR st i s k id))
  sync : ∀ (w : World) (F : Nat → Prop) (d : Value) (st : St) (p : Option Addr) (q c : Nat) (ts : List (Int × Int)), CA w F d st → st.fine → Rd w 2 (.slice p q c) q (tagsC ts) → InS (fun b => ¬ F b) (.slice p q c) → q ≤ 50 → (∀ t ∈ ts, wf64 t.1 ∧ wf64 t.2) → Calls Try.prog 13 #[d, .slice p q c] w (CodeDone CA F d w (syncR st ts))
  fail : ∀ (w : World) (F : Nat → Prop) (d : Value) (st : St) (p : Option Addr) (q c : Nat) (zs : List Int), CA w F d st → st.fine → Rd w 1 (.slice p q c) q (i64s zs) → InS (fun b => ¬ F b) (.slice p q c) → q ≤ 50 → (∀ x ∈ zs, wf64 x) → Calls Try.prog 14 #[d, .slice p q c] w fun e w' => e = .returned (.tuple #[]) ∧ CA w' (grow F w w') d (fail st zs) ∧ Touch F w w'
  read : ∀ (w : World) (F : Nat → Prop) (d : Value) (st : St) (i : Int), CA w F d st → st.fine → wf64 i → Calls Try.prog 26 #[d, .int .i64 i] w fun e w' => e = .returned (readR st i) ∧ Below w.heap.size w w'
theorem refIs_kept {w w' : World} {S : Nat → Prop} {g : Nat} {st : St} (h : RefIs w S g st) (k : Keeps S w w') : RefIs w' S g st := by
  obtain ⟨vs, vw, vl, vb, h⟩ := h
  obtain ⟨es, he⟩ := h.log
  have k2 : Keeps (fun b => S b ∧ b ≠ g) w w' := k.mono fun _ hb => hb.1
  exact ⟨vs, vw, vl, vb, (k.2 g h.lt h.own).trans h.row, h.own, Rd.kept h.safe h.safeS k2, h.safeS, Rd.kept h.wait h.waitS k2, h.waitS, ⟨es, evs_kept he k2 fun _ hb => hb⟩, Rd.kept h.bad h.badS k2, h.badS⟩
/-- both disks in one world -/
structure Both (CA : World → (Nat → Prop) → Value → St → Prop) (B : Nat) (w : World) (F G : Nat → Prop) (d : Value) (g : Nat) (st : St) : Prop where
  code : CA w F d st
  ref : RefIs w G g st
  apart : ∀ k, F k → ¬ G k
  inF : ∀ k, F k → B ≤ k ∧ k < w.heap.size
  inG : ∀ k, G k → B ≤ k ∧ k < w.heap.size
theorem RefIs.lt {w : World} {S : Nat → Prop} {g : Nat} {st : St} (h : RefIs w S g st) : g < w.heap.size ∧ S g := by
  obtain ⟨vs, vw, vl, vb, h⟩ := h
  exact ⟨h.lt, h.own⟩
/-- a call on the code's disk, then one on the reference's -/
theorem both_done {CA : World → (Nat → Prop) → Value → St → Prop} (D : DiskIs CA) {B : Nat} {w w1 w2 : World} {F G : Nat → Prop} {d : Value} {g : Nat} {st st' : St} (h : Both CA B w F G d g st) (hB : B ≤ w.heap.size) (hc : CA w1 (grow F w w1) d st') (h1 : Touch F w w1)
    (hr : RefIs w2 (grow G w1 w2) g st') (h2 : Touch (· = g) w1 w2) : Both CA B w2 (grow F w w1) (grow G w1 w2) d g st' := by
  have hs1 := h1.size
  have hs2 := h2.size
  have hg := h.ref.lt
  have hgB := h.inG g hg.2
  refine ⟨D.kept _ _ _ _ _ hc (h2.keeps fun k hk hkg => ?_), hr, fun k hk hk2 => ?_, fun k hk => ?_, fun k hk => ?_⟩
  · subst hkg
    rcases hk with hk | hk
    · exact h.apart _ hk hg.2
    · omega
  · rcases hk with hk | hk <;> rcases hk2 with hk2 | hk2
    · exact h.apart k hk hk2
    · have := h.inF k hk; omega
    · have := h.inG k hk2; omega
    · omega
  · rcases hk with hk | hk
    · have := h.inF k hk; omega
    · omega
  · rcases hk with hk | hk
    · have := h.inG k hk; omega
    · omega
end Go.Proofs.Yteobhljkjgocdaa.dsk
