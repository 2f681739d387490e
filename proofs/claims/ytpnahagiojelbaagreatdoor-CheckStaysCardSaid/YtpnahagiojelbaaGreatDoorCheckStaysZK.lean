/- What CheckStays wants, part 37. -/
import Derived.Test.YtpnahagiojelbaaGreatDoorCheckStaysB
import Derived.Test.YtpnahagiojelbaaGreatDoorCheckStaysZG
import Derived.Test.YtpnahagiojelbaaGreatDoorCheckStaysZH
import Derived.Test.YtpnahagiojelbaaGreatDoorCheckStaysZJ
set_option linter.unusedVariables false
set_option linter.unusedSimpArgs false
namespace Go.Proofs.YtpnahagiojelbaaGreatDoor
namespace lk
set_option maxRecDepth 100000
open rows
open sec
open ly
open pa
open al
open fs
open dsk (St st0)
theorem c0u{st:St}(G:Good st):mountsB (nowL st)=true:=c9t G.1.fit.len G.1.fit.secs G.2.top G.1.fit.root
theorem c4n{st:St}(G:Good st):cleanB (nowL st)=true:=d1w G.1
theorem d1a{ss:List (List Int)}(hs:Secs ss)(hm:mountsB ss=true)(hc:cleanB ss=true):Good (st0 ss):=by
 have h0:=a7z
 rw[mountsB,Bool.and_eq_true,Bool.and_eq_true,decide_eq_true_eq,decide_eq_true_eq,decide_eq_true_eq] at h0 hm
 obtain⟨hl,h1,h2⟩:=hm
 have e0:∀l:List (List Int),l.length=65→∀i,i<65→l.getD i []=l.getD i zero32:=fun l h i hi=>by
  rw[List.getD,List.getD,List.getElem?_eq_getElem (by omega)];rfl
 have hlt:(1:Nat)<ss.length:=by omega
 have e1:ss.getD 1 []=secAt ss 1:=by
  rw[show (1:Int)=((1:Nat):Int) from rfl,c3e hlt,List.getD,List.getElem?_eq_getElem hlt];rfl
 have hr:(inoAt ss 0).kind=2:=by
  rw[inoAt,if_pos (by omega)]
  have h:=b8i (a1e hs 1)
  rw[decide_eq_true (e1.symm.trans h2),Bool.and_eq_true,beq_iff_eq] at h
  exact h.2
 refine⟨by rw[b6k];exact ci_of hl hs hr hc,rfl,hl,?_⟩
 rw[b6k,← e0 ss hl 0 (by omega),h1,← e0 emptyImg h0.1 0 (by omega),h0.2.1]
end lk
end Go.Proofs.YtpnahagiojelbaaGreatDoor
