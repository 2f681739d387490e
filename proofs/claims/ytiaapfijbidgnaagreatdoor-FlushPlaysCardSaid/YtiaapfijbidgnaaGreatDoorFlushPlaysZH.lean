/- What FlushPlays wants, part 34. -/
import Derived.Test.YtiaapfijbidgnaaGreatDoorFlushPlaysB
import Derived.Test.YtiaapfijbidgnaaGreatDoorFlushPlaysZG
import Derived.Lib.SlBytesConst
set_option linter.unusedVariables false
set_option linter.unusedSimpArgs false
namespace Go.Proofs.YtiaapfijbidgnaaGreatDoor
namespace fs
set_option maxRecDepth 100000
open Go.ChangeShapes Go.WideShapes Go.ChangeAt Go.RowKit
open rows
open sec
open dsk (St)
open ly
open pa
open lk
open al
theorem goodA:stA.good 10:=b7j (a7t a3m (Nat.le_of_eq a4f)) txA 1
def KF(FI:Value→World→(Nat→Prop)→Value→dsk.St→Prop)(lo:Nat)(d f:Value)(st:dsk.St)(w:World):Prop:=∃F,FI d w F f st∧∀b,F b→lo≤b∧b<w.heap.size
theorem KF.later{FI:Value→World→(Nat→Prop)→Value→dsk.St→Prop}(C:∀d,SfsIs (FI d)){lo:Nat}{d f:Value}{st:dsk.St}{w w':World}(h:KF FI lo d f st w)(hb:Below w.heap.size w w'):KF FI lo d f st w':=by
 obtain⟨F,h1,h2⟩:=h
 exact⟨F,(C d).later h1 hb,fun b hF=>⟨(h2 b hF).1,Nat.lt_of_lt_of_le (h2 b hF).2 hb.size⟩⟩
theorem KF.done{FI:Value→World→(Nat→Prop)→Value→dsk.St→Prop}{lo:Nat}{d f:Value}{w w1 w':World}{F:Nat→Prop}{r:Int×dsk.St}{e:Ending}(hb:Below lo w w1)(hl:lo≤w.heap.size)(hF:∀b,F b→lo≤b∧b<w1.heap.size)(D:FDone (FI d) F f w1 r e w'){z:Int}(hz:r.1=z):e = .returned (.int .i64 z)∧KF FI lo d f r.2 w'∧Below lo w w':=by
 have s1:=hb.size
 have s2:=D.2.2.size
 refine⟨by rw[D.1,hz],⟨_,D.2.1,fun b h => ?_⟩,hb.trans (D.2.2.below (by omega) fun b h=>(hF b h).1)⟩
 rcases h with h|h
 ·have:=hF b h;omega
 ·omega
end fs
end Go.Proofs.YtiaapfijbidgnaaGreatDoor
