/- What PathBack wants, part 8. -/
import Derived.Test.YtpfpibmnhnjpmaaDoorPathBackB
import Derived.Test.YtpfpibmnhnjpmaaDoorPathBackG
import Derived.Deep.Cut
import Derived.Maps.OwnSet
/- What the reference's Write gives where it writes. -/
namespace Go.Proofs.YtpfpibmnhnjpmaaDoor.dsk
set_option maxRecDepth 100000
open Go.ChangeShapes Go.WideShapes Go.ChangeAt Go.RowKit
open Go.Proofs.YtpfpibmnhnjpmaaDoor.rows
open Go.Proofs.YtpfpibmnhnjpmaaDoor.sec
set_option linter.unusedVariables false
set_option linter.unusedSimpArgs false

theorem row_touch {S : Nat → Prop} {w w' : World} {g : Nat} {o : Obj} (h : w.heap[g]? = some o) (ht : Touch S w w') (hs : ¬ S g) : w'.heap[g]? = some o := (ht.block g (Array.getElem?_eq_some_iff.1 h).1 hs).trans h
end Go.Proofs.YtpfpibmnhnjpmaaDoor.dsk
/- What the reference's Settle gives. -/
namespace Go.Proofs.YtpfpibmnhnjpmaaDoor.dsk
set_option maxRecDepth 100000
open Go.ChangeShapes Go.WideShapes Go.ChangeAt Go.RowKit
open Go.Proofs.YtpfpibmnhnjpmaaDoor.rows
open Go.Proofs.YtpfpibmnhnjpmaaDoor.sec
set_option linter.unusedVariables false
set_option linter.unusedSimpArgs false

def outStep (made : Wr → Bool) (o : List (List Int)) (x : Wr) : List (List Int) := if made x = true then o.set x.pos.toNat x.s else o
def outOf (made : Wr → Bool) (ws : List Wr) (safe : List (List Int)) : List (List Int) := ws.foldl (outStep made) safe
end Go.Proofs.YtpfpibmnhnjpmaaDoor.dsk
/- step, over what the code's disk gives. -/
namespace Go.Proofs.YtpfpibmnhnjpmaaDoor.dsk
set_option maxRecDepth 100000
open Go.ChangeShapes Go.WideShapes Go.ChangeAt Go.RowKit
open Go.Proofs.YtpfpibmnhnjpmaaDoor.rows
open Go.Proofs.YtpfpibmnhnjpmaaDoor.sec
set_option linter.unusedVariables false
set_option linter.unusedSimpArgs false

end Go.Proofs.YtpfpibmnhnjpmaaDoor.dsk
/- step, over what the code's disk gives: Sync. -/
namespace Go.Proofs.YtpfpibmnhnjpmaaDoor.dsk
open Go.ChangeShapes Go.WideShapes Go.ChangeAt Go.RowKit
open Go.Proofs.YtpfpibmnhnjpmaaDoor.rows
open Go.Proofs.YtpfpibmnhnjpmaaDoor.sec
set_option linter.unusedVariables false
set_option linter.unusedSimpArgs false

end Go.Proofs.YtpfpibmnhnjpmaaDoor.dsk
/- step, over what the code's disk gives: Barrier, Fail and Read. -/
namespace Go.Proofs.YtpfpibmnhnjpmaaDoor.dsk
open Go.ChangeShapes Go.WideShapes Go.ChangeAt Go.RowKit
open Go.Proofs.YtpfpibmnhnjpmaaDoor.rows
open Go.Proofs.YtpfpibmnhnjpmaaDoor.sec
set_option linter.unusedVariables false
set_option linter.unusedSimpArgs false

end Go.Proofs.YtpfpibmnhnjpmaaDoor.dsk
/- step, over what the code's disk gives: Fail and Read. -/
namespace Go.Proofs.YtpfpibmnhnjpmaaDoor.dsk
open Go.ChangeShapes Go.WideShapes Go.ChangeAt Go.RowKit
open Go.Proofs.YtpfpibmnhnjpmaaDoor.rows
open Go.Proofs.YtpfpibmnhnjpmaaDoor.sec
set_option linter.unusedVariables false
set_option linter.unusedSimpArgs false

end Go.Proofs.YtpfpibmnhnjpmaaDoor.dsk
/- step, over what the code's disk gives: Fail. -/
namespace Go.Proofs.YtpfpibmnhnjpmaaDoor.dsk
open Go.ChangeShapes Go.WideShapes Go.ChangeAt Go.RowKit
open Go.Proofs.YtpfpibmnhnjpmaaDoor.rows
open Go.Proofs.YtpfpibmnhnjpmaaDoor.sec
set_option linter.unusedVariables false
set_option linter.unusedSimpArgs false

end Go.Proofs.YtpfpibmnhnjpmaaDoor.dsk
/- step over any act: what state comes next, and that it stays small. -/
namespace Go.Proofs.YtpfpibmnhnjpmaaDoor.dsk
open Go.ChangeShapes Go.WideShapes Go.ChangeAt Go.RowKit
open Go.Proofs.YtpfpibmnhnjpmaaDoor.rows
open Go.Proofs.YtpfpibmnhnjpmaaDoor.sec
set_option linter.unusedVariables false
set_option linter.unusedSimpArgs false

/-- what holds behind k acts -/
structure St.good (k : Nat) (st : St) : Prop where
  ss : Secs st.safe
  n1 : st.safe.length ≤ 65
  ws : ∀ x ∈ st.wait, Sec x.s ∧ 0 ≤ x.pos ∧ x.pos < (st.safe.length : Int)
  es : ∀ e ∈ st.log, Sec e.2.1.s ∧ e.2.2.length ≤ 50
  wn : st.wait.length ≤ k
  ln : st.log.length ≤ k
  bn : st.bad.length ≤ 50
  ep : 0 ≤ st.ep ∧ st.ep ≤ k
  asked : 0 ≤ st.asked ∧ st.asked ≤ k
end Go.Proofs.YtpfpibmnhnjpmaaDoor.dsk
/- The code's disk: what it holds, zone by zone, and what its calls leave alone. -/
namespace Go.Proofs.YtpfpibmnhnjpmaaDoor.dsk
set_option maxRecDepth 100000
open Go.ChangeShapes Go.WideShapes Go.ChangeAt Go.RowKit
open Go.Proofs.YtpfpibmnhnjpmaaDoor.rows
open Go.Proofs.YtpfpibmnhnjpmaaDoor.sec
open Go.Maps
set_option linter.unusedVariables false
set_option linter.unusedSimpArgs false

/-- the slice's own block is one of S -/
def OwnS (S : Nat → Prop) (v : Value) : Prop := ∀ k, v.ownBlock = some k → S k
/-- the blocks of F that lie in zone k: 0 the disk itself, 1 safe, 2 waiting, 3 seen, 4 log, 5 faults, 6 the tags of the log -/
def Zn (F : Nat → Prop) (z : Nat → Nat) (k : Nat) : Nat → Prop := fun b => F b ∧ z b = k
def seenOf (st : St) : List (List Int) := outOf (fun _ => true) st.wait st.safe
/-- the map v of numbers that are to fail holds, from asked on, those of bad -/
def FaultsIn (S : Nat → Prop) (w : World) (v : Value) (bad : List Int) (asked : Int) : Prop :=
  (v = .map none ∧ bad = []) ∨
  ∃ b n, ∃ D : DataW Unit, v = .map (some b) ∧ S b ∧ n ≤ 2000 ∧ w.ownsMap Tryd.prog 3 unitElem b n D ∧ ∀ k : Int, wf64 k → asked ≤ k → Maps.has D (.int .i64 k) = decide (k ∈ bad)
theorem OwnS.mono {S T : Nat → Prop} {v : Value} (h : OwnS S v) (k : ∀ b, S b → T b) : OwnS T v := fun b hb => k b (h b hb)
theorem own_blk {w : World} {B : Nat} {e : TypeId} {sz n : Nat} {v : Value} {cs : List Value} (h : Own w B e sz v n cs) {k : Nat} (hk : v.ownBlock = some k) : B ≤ k ∧ k < w.heap.size := World.ownsRow.lt h k hk
/-- a zone of old blocks stays what it is -/
theorem OwnS.next {F F' : Nat → Prop} {z z' : Nat → Nat} {w : World} {B k : Nat} {e : TypeId} {sz n : Nat} {v : Value} {cs : List Value} (h : OwnS (Zn F z k) v) (o : Own w B e sz v n cs) (hF : ∀ b, F b → F' b) (hz : ∀ b, b < w.heap.size → z' b = z b) : OwnS (Zn F' z' k) v :=
  fun b hb => ⟨hF b (h b hb).1, (hz b (own_blk o hb).2).trans (h b hb).2⟩
theorem FaultsIn.mono {S S' : Nat → Prop} {w : World} {v : Value} {bad : List Int} {asked : Int} (h : FaultsIn S w v bad asked) (hS : ∀ b, b < w.heap.size → S b → S' b) : FaultsIn S' w v bad asked := by
  rcases h with h | ⟨b, n, D, hv, hb, hn, ho, hk⟩
  · exact Or.inl h
  · exact Or.inr ⟨b, n, D, hv, hS b ho.lt hb, hn, ho, hk⟩
theorem Zn.keeps {F : Nat → Prop} {z : Nat → Nat} {k : Nat} {w w' : World} (h : Keeps F w w') : Keeps (Zn F z k) w w' := h.mono fun b hb => hb.1
/-! the keys -/
end Go.Proofs.YtpfpibmnhnjpmaaDoor.dsk
