/- What ViewTells wants, part 32. -/
import Derived.Test.YtjedjkjhodgidaaGreatDoorViewTellsB
import Derived.Test.YtjedjkjhodgidaaGreatDoorViewTellsT
import Derived.Test.YtjedjkjhodgidaaGreatDoorViewTellsShf
set_option linter.unusedVariables false
set_option linter.unusedSimpArgs false
namespace Go.Proofs.YtjedjkjhodgidaaGreatDoor
namespace vw
set_option maxRecDepth 100000
open Go.ChangeShapes Go.WideShapes Go.ChangeAt Go.RowKit
open rows
open sec
open ly
open pa
theorem b7r(c:Int)(w:World):Calls Tryz.prog 52 #[.int .u8 c] w fun e w'=>e = .returned (.bool (plainB c))∧w'=w:=by
 obtain⟨B,hB⟩:∃b,plainB c=b:=⟨_,rfl⟩
 rw[hB]
 have HB:=ι hB
 clear hB
 go_enter Tryz.func52,Tryz.ntmps52
 go_wp2_with fail
 all_goals go_ret
 all_goals
  refine⟨a0d ?_,rfl⟩
  rw[← HB.out,Bool.eq_iff_iff,a9y]
  simp
  try omega
theorem idx_all:∀c:UInt8,Lib.indexByte [48,49,50,51,52,53,54,55,56,57,97,98,99,100,101,102] c=(hexV (c.toNat:Int)).getD (-1):=by
 have h:∀n:Fin 256,Lib.indexByte [48,49,50,51,52,53,54,55,56,57,97,98,99,100,101,102] (UInt8.ofNat n.val)=(hexV ((UInt8.ofNat n.val).toNat:Int)).getD (-1):=by decide +kernel
 intro c
 have:=h ⟨c.toNat,c.toNat_lt⟩
 simpa using this
theorem b1k(c:UInt8)(w:World):Calls Tryz.prog 94 #[.string { data := #[48,49,50,51,52,53,54,55,56,57,97,98,99,100,101,102] },.int .u8 (c.toNat:Int)] w fun e w'=>e = .returned (.int .i64 ((hexV (c.toNat:Int)).getD (-1)))∧w'=w:=by
 refine(Tryz.strings_IndexByte _ _ w).mono ?_
 rintro e w' ⟨rfl,rfl⟩
 refine⟨?_,rfl⟩
 rw[← idx_all c]
 simp
end vw
end Go.Proofs.YtjedjkjhodgidaaGreatDoor
