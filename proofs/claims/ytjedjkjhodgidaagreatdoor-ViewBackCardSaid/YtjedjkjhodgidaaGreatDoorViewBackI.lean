/- What ViewBack wants, part 9. -/
import Derived.Test.YtjedjkjhodgidaaGreatDoorViewBackB
import Derived.Test.YtjedjkjhodgidaaGreatDoorViewBackG
import Derived.Test.YtjedjkjhodgidaaGreatDoorViewBackH
import Derived.Deep.MidRow
set_option linter.unusedVariables false
namespace Go.Proofs.YtjedjkjhodgidaaGreatDoor
namespace sec
set_option maxRecDepth 100000
open Go.ChangeShapes Go.WideShapes Go.ChangeAt Go.RowKit
open rows
theorem b8n(i k:Int):decide (fits i k)=decide (cutOk i k):=rfl
theorem c0z{w:World}{g i k:Nat}{s:List Int}(hs:s.length=32)(h:At w g s)(hf:i+k≤32)(hi:i<32):Rd w 1 (.slice (some ⟨g,i,none⟩) k (32-i)) k (u8s ((s.drop i).take k)):=by
 by_cases hk:k=0
 ·subst hk
  exact Or.inl ⟨_,_,rfl,rfl,by simp[u8s],fun h=>by cases h⟩
 ·refine Or.inr ⟨g,i,32-i,rfl,by omega,by omega,by unfold maxLen;omega,(Array.getElem?_eq_some_iff.1 h).1,by simp[u8s,hs];omega,fun j u hj => ?_⟩
  have hr:=h.range (i+j) u ?_
  ·simpa using hr
  ·simp only[u8s,List.getElem?_map,List.getElem?_take,List.getElem?_drop] at hj ⊢
   by_cases hjk:j<k
   ·simpa [hjk] using hj
   ·simp[hjk] at hj
theorem cut_run(w:World)(g i k:Nat)(hf:i+k≤32)(hi:i<32) :
  (Instr.sliceAt 74 (.pointer (some ⟨g,0,none⟩)) (some (.int .i64 (i:Int))) (some (.int .i64 ((i:Int)+(k:Int)))) none).run Tryz.prog w = .ok (.slice (some ⟨g,i,none⟩) k (32-i)) w:=by
 have hl:Tryz.prog.arrayLen 74=32:=by kernel_rfl
 have he:Tryz.prog.elem 74=5:=by kernel_rfl
 have hu:Tryz.prog.underlying 74=some (.array (Tryz.prog.arrayLen 74) (Tryz.prog.elem 74)):=by kernel_rfl
 have hs:=size8 w
 have ha:(⟨g,0,none⟩:Addr).add i=⟨g,i,none⟩:=by rw[Addr.add_mid,Nat.zero_add]
 rw[run_sliceAt_array_lh w 74 _ hu .i64 .i64 _ _ (by omega) (by omega) (by rw[hl];omega),he,hs,hl]
 simp only[Result.andThen_ok,slicedAt]
 rw[show (i:Int).toNat=i by omega,show ((i:Int)+(k:Int)).toNat=i+k by omega,if_neg (by omega),Nat.mul_one,ha,show i+k-i=k by omega]
theorem cut_yes(s:List Int)(i k:Nat)(w:World)(hs:Sec s)(hf:i+k≤32) :
  Calls Tryz.prog 150 #[agg s,.int .i64 (i:Int),.int .i64 (k:Int)] w fun e w'=>∃p c,e = .returned (.slice p k c)∧Rd w' 1 (.slice p k c) k (u8s ((s.drop i).take k))∧Below w.heap.size w w':=by
 obtain⟨w0,hw0⟩:∃w0,w0=w.alloc (.cells (u8s s).toArray 74):=⟨_,rfl⟩
 have hb0:Below w.heap.size w w0:=by rw[hw0];exact a0b (Below.refl _ _) _
 have hs0:At w0 w.heap.size s:=by rw[hw0];exact at_new w s
 have HW:=ι (show ∀w,Calls Tryz.prog 179 #[.int .i64 (i:Int),.int .i64 (k:Int)] w fun e w'=>e = .returned (.bool true)∧w=w' from fun w=>by
  have:=a6z (i:Int) (k:Int) w (WalkArith.wf_i64 (by omega)) (WalkArith.wf_i64 (by omega))
  rw[decide_eq_true (show fits (i:Int) (k:Int) from⟨by omega,by omega,by omega⟩)] at this
  exact this)
 have q1:(i:Int)+k≤32:=by omega
 by_cases h:i=32
 ·have hk0:k=0:=by omega
  subst hk0
  subst h
  have HCl:=ι (a7q ⟨w.heap.size,0,none⟩ 0 0 [] w0 (Or.inl ⟨_,_,rfl,rfl,rfl,fun h=>by cases h⟩) (by omega))
  have HD:Hid ((s.drop 32).take 0=[]):=ι (by simp)
  clear hs hs0
  rw[HD.out]
  go_enter Tryz.func150,Tryz.ntmps150
  go_wp2_with fail
  rw[← hw0]
  clear hw0
  go_wp2_with (first|(go_at_call 179;refine(HW.out _).mono ?_;rintro e w' ⟨rfl,rfl⟩)|(go_at_call 180;refine HCl.out.mono ?_;rintro e w1 ⟨p1,c1,rfl,hr1,hb1⟩))
  go_ret
  exact⟨p1,c1,rfl,hr1,a0a hb0 hb1⟩
 ·have hi:i<32:=by omega
  have h32:¬(32=i):=by omega
  have hcr:=cut_run w0 w.heap.size i k hf hi
  have HCl:=ι (a7q ⟨w.heap.size,i,none⟩ k (32-i) _ w0 (c0z hs.1 hs0 hf hi) (by omega))
  clear hs hs0
  go_enter Tryz.func150,Tryz.ntmps150
  go_wp2_with fail
  rw[← hw0]
  clear hw0
  go_wp2_with (first|(go_at_call 179;refine(HW.out _).mono ?_;rintro e w' ⟨rfl,rfl⟩)|(go_at_call 180;refine HCl.out.mono ?_;rintro e w1 ⟨p1,c1,rfl,hr1,hb1⟩))
  go_ret
  exact⟨p1,c1,rfl,hr1,a0a hb0 hb1⟩
theorem cut_no(s:List Int)(i k:Int)(w:World)(hi:(Lit.int .i64 i).wf=true)(hk:(Lit.int .i64 k).wf=true)(hf:¬cutOk i k) :
  Calls Tryz.prog 150 #[agg s,.int .i64 i,.int .i64 k] w (Rt w (.slice none 0 0)):=by
 obtain⟨w0,hw0⟩:∃w0,w0=w.alloc (.cells (u8s s).toArray 74):=⟨_,rfl⟩
 have hb0:Below w.heap.size w w0:=by rw[hw0];exact a0b (Below.refl _ _) _
 have HW:=ι (show ∀w,Calls Tryz.prog 179 #[.int .i64 i,.int .i64 k] w fun e w'=>e = .returned (.bool false)∧w=w' from fun w=>by
  have:=a6z i k w hi hk
  rw[b8n,decide_eq_false hf] at this
  exact this)
 clear hf
 go_enter Tryz.func150,Tryz.ntmps150
 go_wp2_with fail
 rw[← hw0]
 clear hw0
 go_wp2_with (first|(go_at_call 179;refine(HW.out _).mono ?_;rintro e w' ⟨rfl,rfl⟩))
 go_ret
 exact⟨rfl,hb0⟩
theorem cut_is:CutIs 150:=by
 intro s i k w hs hi hk
 by_cases h:cutOk i k
 ·obtain⟨i',rfl⟩:=Int.eq_ofNat_of_zero_le h.1
  obtain⟨k',rfl⟩:=Int.eq_ofNat_of_zero_le h.2.1
  have e1:cutN (i':Int) (k':Int)=k':=by rw[cutN,if_pos h];rfl
  have e2:cutOf s (i':Int) (k':Int)=(s.drop i').take k':=by rw[cutOf,if_pos h];rfl
  rw[e1,e2]
  exact cut_yes s i' k' w hs (by have:=h.2.2;omega)
 ·have e1:cutN i k=0:=by rw[cutN,if_neg h]
  have e2:cutOf s i k=[]:=by rw[cutOf,if_neg h]
  rw[e1,e2]
  exact(cut_no s i k w hi hk h).mono fun e w' ⟨he,hb⟩=>⟨none,0,he,a7p _ 1,hb⟩
end sec
namespace sec
set_option maxRecDepth 100000
open Go.ChangeShapes Go.WideShapes Go.ChangeAt Go.RowKit
open rows
theorem b1w{ops:Array Oper}{rest:List Oper}{o:Oper}{a:Act}{w:World}{Q:Exit→Act→World→Prop}(hgd:o.guard=none)(x:Operand)(ho:o.op = .load 74 x)
  (b off:Nat) (hx:a.eval x = .pointer (some ⟨b,off,none⟩)) (s:List Int) (hs:s.length=32) (hg:w.rangeAt b off (u8s s))
  (h:wpList Tryz.prog ops Q rest (a.put o.dst (agg s)) w):wpList Tryz.prog ops Q (o::rest) a w :=
 wpList_load_mid hgd 74 x ho b off hx (u8s s) _ hg Tryz.underlying74 rfl (by rw[a0m];simp[u8s,hs]) h
end sec
end Go.Proofs.YtjedjkjhodgidaaGreatDoor
