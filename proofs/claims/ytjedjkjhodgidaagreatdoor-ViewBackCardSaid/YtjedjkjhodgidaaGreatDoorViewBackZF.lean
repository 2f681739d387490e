/- What ViewBack wants, part 32. -/
import Derived.Test.YtjedjkjhodgidaaGreatDoorViewBackB
import Derived.Test.YtjedjkjhodgidaaGreatDoorViewBackV
import Derived.Test.YtjedjkjhodgidaaGreatDoorViewBackShf
set_option linter.unusedVariables false
set_option linter.unusedSimpArgs false
namespace Go.Proofs.YtjedjkjhodgidaaGreatDoor
namespace vw
set_option maxRecDepth 100000
open Go.ChangeShapes Go.WideShapes Go.ChangeAt Go.RowKit
open rows
open sec
open ly
open pa
theorem a5n(c:Int)(w:World):Calls Tryz.prog 52 #[.int .u8 c] w fun e w'=>e = .returned (.bool (plainB c))∧w'=w:=by
 obtain⟨B,hB⟩:∃b,plainB c=b:=⟨_,rfl⟩
 rw[hB]
 have HB:=ι hB
 clear hB
 go_enter Tryz.func52,Tryz.ntmps52
 go_wp2_with fail
 all_goals go_ret
 all_goals
  refine⟨a0e ?_,rfl⟩
  rw[← HB.out,Bool.eq_iff_iff,a9c]
  simp
  try omega
theorem idx_all:∀c:UInt8,Lib.indexByte [48,49,50,51,52,53,54,55,56,57,97,98,99,100,101,102] c=(hexV (c.toNat:Int)).getD (-1):=by
 have h:∀n:Fin 256,Lib.indexByte [48,49,50,51,52,53,54,55,56,57,97,98,99,100,101,102] (UInt8.ofNat n.val)=(hexV ((UInt8.ofNat n.val).toNat:Int)).getD (-1):=by decide +kernel
 intro c
 have:=h ⟨c.toNat,c.toNat_lt⟩
 simpa using this
theorem a3b(c:UInt8)(w:World):Calls Tryz.prog 94 #[.string { data := #[48,49,50,51,52,53,54,55,56,57,97,98,99,100,101,102] },.int .u8 (c.toNat:Int)] w fun e w'=>e = .returned (.int .i64 ((hexV (c.toNat:Int)).getD (-1)))∧w'=w:=by
 refine(Tryz.strings_IndexByte _ _ w).mono ?_
 rintro e w' ⟨rfl,rfl⟩
 refine⟨?_,rfl⟩
 rw[← idx_all c]
 simp
theorem or_nib:∀a b:Fin 16,bits BinOp.or IntKind.i64 (((a.val:Nat):Int) * 16) ((b.val:Nat):Int) % 256=16 * ((a.val:Nat):Int)+((b.val:Nat):Int):=by decide +kernel
def fstV(r:List Int):Int×Nat:=(stepL r).getD (0,0)
set_option maxRecDepth 100000 in
set_option maxHeartbeats 3200000 in
theorem first_any(s:ByteArray)(w:World)(h0:1≤s.size)(h9:s.size≤100000):Calls Tryz.prog 40 #[.string s] w fun e w'=>e = .returned (.tuple #[.int .u8 (fstV (bys s)).1,.int .i64 (((fstV (bys s)).2:Nat):Int)])∧∃n,w'=w.drewN n:=by
 have hs0:0<s.size:=by omega
 have hsi:(0:Int)<s.size:=by omega
 have hb:bys s=(s[0].toNat:Int)::(bys s).drop 1:=by
  have:=drop_cons (l:=bys s) (j:=0) (by rw[a0d];exact hs0)
  rw[List.drop_zero,a4e s 0 hs0] at this
  exact this
 obtain⟨V,hV⟩:∃V,fstV (bys s)=V:=⟨_,rfl⟩
 rw[hV]
 rw[fstV] at hV
 have HP:=ι (a5n (s[0].toNat:Int) w)
 cases hp:plainB (s[0].toNat:Int) with
 | true =>
  rw[hp] at HP
  have e:stepL (bys s)=some ((s[0].toNat:Int),1):=by rw[hb,stepL,if_pos hp]
  rw[e] at hV
  subst hV
  clear e hb hp
  go_enter Tryz.func40,Tryz.ntmps40
  go_wp2_with (go_at_call 52;refine HP.out.mono ?_;rintro e w1 ⟨rfl,hw⟩;obtain rfl:=hw.symm)
  go_ret2
  exact⟨rfl,0,rfl⟩
 | false =>
  rw[hp] at HP
  have e:stepL (bys s)=if (s[0].toNat:Int)=92 then escL ((bys s).drop 1) else none:=by
   conv=>lhs;rw[hb,stepL,if_neg (by rw[hp];decide)]
  rw[e] at hV
  clear e hp
  by_cases h92:(s[0].toNat:Int)=92
  ·rw[if_pos h92] at hV
   have g0:((s[0].toNat:Int) != 92)=false:=by simpa using h92
   by_cases h3:s.size<3
   ·have e:escL ((bys s).drop 1)=none:=by
     have hl:((bys s).drop 1).length<2:=by rw[List.length_drop,a0d];omega
     match (bys s).drop 1,hl with
     | [],_=>rfl
     | [_],_=>rfl
    rw[e] at hV
    subst hV
    clear e hb h92
    have g3:decide ((s.size:Int)<3)=true:=by simp;omega
    go_enter Tryz.func40,Tryz.ntmps40
    go_wp2_with (go_at_call 52;refine HP.out.mono ?_;rintro e w1 ⟨rfl,hw⟩;obtain rfl:=hw.symm)
    go_ret2
    exact⟨rfl,0,rfl⟩
   ·have g3:decide ((s.size:Int)<3)=false:=by simp;omega
    have i1:1<s.size:=by omega
    have i2:2<s.size:=by omega
    have i1i:(1:Int)<s.size:=by omega
    have i2i:(2:Int)<s.size:=by omega
    have e:(bys s).drop 1=(s[1].toNat:Int)::(s[2].toNat:Int)::(bys s).drop 3:=by
     rw[drop_cons (l:=bys s) (j:=1) (by rw[a0d];exact i1),drop_cons (l:=bys s) (j:=2) (by rw[a0d];exact i2),a4e s 1 i1,a4e s 2 i2]
    rw[e,escL] at hV
    clear e hb h92
    have HX1:=ι fun w=>a3b s[1] w
    have HX2:=ι fun w=>a3b s[2] w
    have HV:=ι hV
    have k1:∀k,hexV (s[1].toNat:Int)=some k→0≤k∧k<16:=fun k h=>(a5a h).2
    have k2:∀k,hexV (s[2].toNat:Int)=some k→0≤k∧k<16:=fun k h=>(a5a h).2
    have HK1:=ι k1
    have HK2:=ι k2
    clear hV k1 k2
    go_enter Tryz.func40,Tryz.ntmps40
    go_upto_region 5 with(go_at_call 52;refine HP.out.mono ?_;rintro e w1 ⟨rfl,hw⟩;obtain rfl:=hw.symm)
    go_quiet (first|(go_at_call 94;exact Calls.quiet_of_same (a3b _ _)))
    have hV:=HV.out
    clear HV HX1 HX2
    cases hx:hexV (s[1].toNat:Int) with
    | none =>
     rw[hx] at hV
     simp only[Option.getD_none] at hV ⊢
     subst hV
     go_wp2_with fail
     go_ret2
     exact⟨rfl,_,rfl⟩
    | some x =>
     cases hy:hexV (s[2].toNat:Int) with
     | none =>
      rw[hx,hy] at hV
      have hx0:=(HK1.out x hx).1
      simp only[Option.getD_none,Option.getD_some] at hV ⊢
      subst hV
      have d0:decide (x<0)=false:=by simp;omega
      clear hx hy HK1 HK2
      go_wp2_with fail
      go_ret2
      exact⟨rfl,_,rfl⟩
     | some y =>
      rw[hx,hy] at hV
      obtain⟨x0,x1⟩:=HK1.out x hx
      obtain⟨y0,y1⟩:=HK2.out y hy
      simp only[Option.getD_some] at hV ⊢
      have d0:decide (x<0)=false:=by simp;omega
      have d1:decide (y<0)=false:=by simp;omega
      have hor:bits BinOp.or IntKind.i64 (x * 16) y % 256=16 * x+y:=by
       obtain⟨a,rfl⟩:=Int.eq_ofNat_of_zero_le x0
       obtain⟨b,rfl⟩:=Int.eq_ofNat_of_zero_le y0
       exact or_nib ⟨a,by omega⟩ ⟨b,by omega⟩
      have HP2:=ι fun w=>a5n (16 * x+y) w
      have HV:=ι hV
      clear hx hy HK1 HK2 hV
      cases hp2:plainB (16 * x+y) with
      | true =>
       have hV:=HV.out
       rw[if_pos hp2] at hV
       rw[hp2] at HP2
       subst hV
       clear HV hp2
       go_wp2_with (go_at_call 52;refine(HP2.out _).mono ?_;rintro e w1 ⟨rfl,hw⟩;obtain rfl:=hw.symm)
       go_ret2
       exact⟨rfl,_,rfl⟩
      | false =>
       have hV:=HV.out
       rw[if_neg (by rw[hp2];decide)] at hV
       rw[hp2] at HP2
       subst hV
       clear HV hp2
       go_wp2_with (go_at_call 52;refine(HP2.out _).mono ?_;rintro e w1 ⟨rfl,hw⟩;obtain rfl:=hw.symm)
       go_ret2
       exact⟨rfl,_,rfl⟩
  ·rw[if_neg h92] at hV
   have g0:((s[0].toNat:Int) != 92)=true:=by simpa using h92
   subst hV
   clear hb h92
   go_enter Tryz.func40,Tryz.ntmps40
   go_wp2_with (go_at_call 52;refine HP.out.mono ?_;rintro e w1 ⟨rfl,hw⟩;obtain rfl:=hw.symm)
   go_ret2
   exact⟨rfl,0,rfl⟩
end vw
end Go.Proofs.YtjedjkjhodgidaaGreatDoor
