/- What CheckStays wants, part 36. -/
import Derived.Test.YtpnahagiojelbaaGreatDoorCheckStaysB
import Derived.Test.YtpnahagiojelbaaGreatDoorCheckStaysP
import Derived.Test.YtpnahagiojelbaaGreatDoorCheckStaysT
import Derived.Test.YtpnahagiojelbaaGreatDoorCheckStaysZG
import Derived.Test.YtpnahagiojelbaaGreatDoorCheckStaysZI
set_option linter.unusedVariables false
set_option linter.unusedSimpArgs false
namespace Go.Proofs.YtpnahagiojelbaaGreatDoor
namespace fs
set_option maxRecDepth 100000
open rows
open sec
open ly
open pa
open lk
open al
theorem c9t{ss:List (List Int)}(hl:ss.length=65)(hs:Secs ss)(ht:ss.getD 0 zero32=emptyImg.getD 0 zero32)(hr:(inoAt ss 0).kind=2):mountsB ss=true:=by
 have h0:=a7z
 rw[mountsB,Bool.and_eq_true,Bool.and_eq_true,decide_eq_true_eq,decide_eq_true_eq,decide_eq_true_eq] at h0 ⊢
 have e0:∀l:List (List Int),l.length=65→∀i,i<65→l.getD i []=l.getD i zero32:=fun l h i hi=>by
  rw[List.getD,List.getD,List.getElem?_eq_getElem (by omega)];rfl
 refine⟨hl,?_,?_⟩
 ·rw[e0 ss hl 0 (by omega),ht,← e0 emptyImg h0.1 0 (by omega)];exact h0.2.1
 ·have h1:(1:Nat)<ss.length:=by omega
  have e1:ss.getD 1 []=secAt ss 1:=by
   rw[show (1:Int)=((1:Nat):Int) from rfl,c3e h1,List.getD,List.getElem?_eq_getElem h1];rfl
  have hk:(inoOfV (secAt ss 1)).kind=2:=by
   rw[inoAt,if_pos (by omega)] at hr;exact hr
  have hb:inoOfB (secAt ss 1)=true:=by
   cases hc:inoOfB (secAt ss 1) with
   | true=>rfl
   | false =>
    rw[inoOfV,if_neg (by rw[hc];decide)] at hk
    exact absurd hk (by decide)
  have:=b8i (a1e hs 1)
  rw[hb,hk,Bool.true_and] at this
  rw[e1]
  exact of_decide_eq_true this.symm
def Good(ss:List (List Int))(u:ByteArray)(v:List Int):Prop:=mountsB ss=true∧readV ss u=(v,0)
end fs
end Go.Proofs.YtpnahagiojelbaaGreatDoor
