/- What CheckStays wants, part 9. -/
import Derived.Test.YtpnahagiojelbaaGreatDoorCheckStaysB
import Derived.Test.YtpnahagiojelbaaGreatDoorCheckStaysH
import Derived.Shelf.SlMaps.Clone
set_option linter.unusedVariables false
set_option linter.unusedSimpArgs false
namespace Go.Proofs.YtpnahagiojelbaaGreatDoor
namespace dsk
set_option maxRecDepth 100000
open Go.ChangeShapes Go.WideShapes Go.ChangeAt Go.RowKit
open rows
open sec
open Go.Maps
end dsk
namespace dsk
open Go.ChangeShapes Go.WideShapes Go.ChangeAt Go.RowKit
open rows
open sec
open Go.Maps
theorem ca_kept(w w':World)(F:Nat→Prop)(d:Value)(st:St)(h:CA w F d st)(k:Keeps F w w'):CA w' F d st:=by
 obtain⟨z,g,vs,vw,vn,vl,vf,hd,h⟩:=h
 exact⟨z,g,vs,vw,vn,vl,vf,hd,a1m h k⟩
end dsk
namespace dsk
set_option maxRecDepth 100000
open Go.ChangeShapes Go.WideShapes Go.ChangeAt Go.RowKit
open rows
open sec
open Go.Maps
def Unmade(w:World)(d:Value):Prop:=d = .pointer none∨∃g,d = .pointer (some ⟨g,0,none⟩)∧w.cell? ⟨g,0,none⟩=some (.pointer none)∧g<w.heap.size
theorem Unmade.later{w w':World}{d:Value}(h:Unmade w d)(hb:Below w.heap.size w w'):Unmade w' d:=by
 rcases h with h|⟨g,h1,h2,h3⟩
 ·exact Or.inl h
 ·exact Or.inr ⟨g,h1,(hb.cell (p:=⟨g,0,none⟩) h3).trans h2,Nat.lt_of_lt_of_le h3 hb.size⟩
theorem umade{w:World}{d:Value}(h:Unmade w d):Calls Tryz.prog 48 #[d] w fun e w'=>e = .returned (.bool false)∧w=w':=by
 rcases h with rfl|⟨g,rfl,h2,_⟩
 ·exact c8p w
 ·exact d4w g w h2
theorem uread{w:World}{d:Value}(h:Unmade w d)(i:Int):Calls Tryz.prog 74 #[d,.int .i64 i] w (Rt w (.tuple #[agg zero32,.int .i64 1])):=by
 have hb0:=a0a (Below.refl w.heap.size w) (.cells (u8s zero32).toArray 65)
 have HM:=ι (umade (h.later hb0))
 rw[← a1k] at hb0 HM
 have HB:=ι hb0
 clear h hb0
 go_enter Tryz.func74,Tryz.ntmps74
 go_wp2_with (first|(go_at_call 48;refine HM.out.mono ?_;rintro e w0 ⟨rfl,rfl⟩)|(refine a0k rfl _ _ rfl rfl w.heap.size zero32 zero32 rfl (congrArg Value.agg a1k) (by decide) (by decide) (a1n w) ?_;intro w2 hA hB2 _;have A2:=ι hA;clear hA))
 exact a3b rfl w.heap.size _ _ rfl rfl (by decide) A2.out rfl ⟨rfl,HB.out.trans hB2⟩
theorem uwrite{w:World}{d:Value}(h:Unmade w d)(i:Int)(s:List Int)(k id:Int):Calls Tryz.prog 102 #[d,.int .i64 i,agg s,.agg #[.int .i64 k,.int .i64 id]] w (Rt w (.int .i64 1)):=by
 obtain⟨W,hW⟩:∃W,W=(w.alloc (.cells (u8s s).toArray 65)).alloc (.cells #[.int .i64 k,.int .i64 id] 101):=⟨_,rfl⟩
 have hbW:Below w.heap.size w W:=by rw[hW];exact a0a (a0a (Below.refl _ _) _) _
 have HM:=ι (umade (h.later hbW))
 have HW:=ι hW
 have HBW:=ι hbW
 clear h hW hbW
 go_enter Tryz.func102,Tryz.ntmps102
 go_wp2_with fail
 rw[← HW.out]
 refine HM.out.mono ?_
 rintro e w0 ⟨rfl,rfl⟩
 go_wp2_with fail
 go_ret
 exact⟨rfl,HBW.out⟩
end dsk
end Go.Proofs.YtpnahagiojelbaaGreatDoor
