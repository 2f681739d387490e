/- What ViewBack wants, part 19. -/
import Derived.Test.YtjedjkjhodgidaaGreatDoorViewBackB
import Derived.Test.YtjedjkjhodgidaaGreatDoorViewBackR
import Derived.Shelf.SlMaps.Clone
set_option linter.unusedVariables false
set_option linter.unusedSimpArgs false
namespace Go.Proofs.YtjedjkjhodgidaaGreatDoor
namespace dsk
set_option maxRecDepth 100000
open Go.ChangeShapes Go.WideShapes Go.ChangeAt Go.RowKit
open rows
open sec
open Go.Maps
def Unmade(w:World)(d:Value):Prop:=d = .pointer none∨∃g,d = .pointer (some ⟨g,0,none⟩)∧w.cell? ⟨g,0,none⟩=some (.pointer none)∧g<w.heap.size
theorem Unmade.later{w w':World}{d:Value}(h:Unmade w d)(hb:Below w.heap.size w w'):Unmade w' d:=by
 rcases h with h|⟨g,h1,h2,h3⟩
 ·exact Or.inl h
 ·exact Or.inr ⟨g,h1,(hb.cell (p:=⟨g,0,none⟩) h3).trans h2,Nat.lt_of_lt_of_le h3 hb.size⟩
theorem umade{w:World}{d:Value}(h:Unmade w d):Calls Tryz.prog 84 #[d] w fun e w'=>e = .returned (.bool false)∧w=w':=by
 rcases h with rfl|⟨g,rfl,h2,_⟩
 ·exact b5e w
 ·exact b9w g w h2
theorem uread{w:World}{d:Value}(h:Unmade w d)(i:Int):Calls Tryz.prog 53 #[d,.int .i64 i] w (Rt w (.tuple #[agg zero32,.int .i64 1])):=by
 have hb0:=a0b (Below.refl w.heap.size w) (.cells (u8s zero32).toArray 74)
 have HM:=ι (umade (h.later hb0))
 rw[← a0u] at hb0 HM
 have HB:=ι hb0
 clear h hb0
 go_enter Tryz.func53,Tryz.ntmps53
 go_wp2_with (first|(go_at_call 84;refine HM.out.mono ?_;rintro e w0 ⟨rfl,rfl⟩)|(refine a0g rfl _ _ rfl rfl w.heap.size zero32 zero32 rfl (congrArg Value.agg a0u) (by decide) (by decide) (a1c w) ?_;intro w2 hA hB2 _;have A2:=ι hA;clear hA))
 exact a1m rfl w.heap.size _ _ rfl rfl (by decide) A2.out rfl ⟨rfl,HB.out.trans hB2⟩
theorem uwrite{w:World}{d:Value}(h:Unmade w d)(i:Int)(s:List Int)(k id:Int):Calls Tryz.prog 37 #[d,.int .i64 i,agg s,.agg #[.int .i64 k,.int .i64 id]] w (Rt w (.int .i64 1)):=by
 obtain⟨W,hW⟩:∃W,W=(w.alloc (.cells (u8s s).toArray 74)).alloc (.cells #[.int .i64 k,.int .i64 id] 76):=⟨_,rfl⟩
 have hbW:Below w.heap.size w W:=by rw[hW];exact a0b (a0b (Below.refl _ _) _) _
 have HM:=ι (umade (h.later hbW))
 have HW:=ι hW
 have HBW:=ι hbW
 clear h hW hbW
 go_enter Tryz.func37,Tryz.ntmps37
 go_wp2_with fail
 rw[← HW.out]
 refine HM.out.mono ?_
 rintro e w0 ⟨rfl,rfl⟩
 go_wp2_with fail
 go_ret
 exact⟨rfl,HBW.out⟩
end dsk
end Go.Proofs.YtjedjkjhodgidaaGreatDoor
