/- What CheckStays wants, part 15. -/
import Derived.Test.YtpnahagiojelbaaGreatDoorCheckStaysA
import Derived.Test.YtpnahagiojelbaaGreatDoorCheckStaysB
import Derived.Test.YtpnahagiojelbaaGreatDoorCheckStaysM
import Derived.Test.YtpnahagiojelbaaGreatDoorCheckStaysN
import Derived.Deep.MidRow
import Derived.IntWalk
set_option linter.unusedVariables false
namespace Go.Proofs.YtpnahagiojelbaaGreatDoor
namespace sec
set_option maxRecDepth 100000
open Go.ChangeShapes Go.WideShapes Go.ChangeAt Go.RowKit
open rows
theorem d2v(i k:Int):decide (fits i k)=decide (cutOk i k):=rfl
theorem rd_mid{w:World}{g i k:Nat}{s:List Int}(hs:s.length=32)(h:At w g s)(hf:i+k≤32)(hi:i<32):Rd w 1 (.slice (some ⟨g,i,none⟩) k (32-i)) k (u8s ((s.drop i).take k)):=by
 by_cases hk:k=0
 ·subst hk
  exact Or.inl ⟨_,_,rfl,rfl,by simp[u8s],fun h=>by cases h⟩
 ·refine Or.inr ⟨g,i,32-i,rfl,by omega,by omega,by unfold maxLen;omega,(Array.getElem?_eq_some_iff.1 h).1,by simp[u8s,hs];omega,fun j u hj => ?_⟩
  have hr:=h.range (i+j) u ?_
  ·simpa using hr
  ·simp only[u8s,List.getElem?_map,List.getElem?_take,List.getElem?_drop] at hj ⊢
   by_cases hjk:j<k
   ·simpa [hjk] using hj
   ·simp[hjk] at hj
theorem cut_run(w:World)(g i k:Nat)(hf:i+k≤32)(hi:i<32) :
  (Instr.sliceAt 65 (.pointer (some ⟨g,0,none⟩)) (some (.int .i64 (i:Int))) (some (.int .i64 ((i:Int)+(k:Int)))) none).run Tryz.prog w = .ok (.slice (some ⟨g,i,none⟩) k (32-i)) w:=by
 have hl:Tryz.prog.arrayLen 65=32:=by kernel_rfl
 have he:Tryz.prog.elem 65=5:=by kernel_rfl
 have hu:Tryz.prog.underlying 65=some (.array (Tryz.prog.arrayLen 65) (Tryz.prog.elem 65)):=by kernel_rfl
 have hs:=size8 w
 have ha:(⟨g,0,none⟩:Addr).add i=⟨g,i,none⟩:=by rw[Addr.add_mid,Nat.zero_add]
 rw[run_sliceAt_array_lh w 65 _ hu .i64 .i64 _ _ (by omega) (by omega) (by rw[hl];omega),he,hs,hl]
 simp only[Result.andThen_ok,slicedAt]
 rw[show (i:Int).toNat=i by omega,show ((i:Int)+(k:Int)).toNat=i+k by omega,if_neg (by omega),Nat.mul_one,ha,show i+k-i=k by omega]
theorem cut_yes(s:List Int)(i k:Nat)(w:World)(hs:Sec s)(hf:i+k≤32) :
  Calls Tryz.prog 196 #[agg s,.int .i64 (i:Int),.int .i64 (k:Int)] w fun e w'=>∃p c,e = .returned (.slice p k c)∧Rd w' 1 (.slice p k c) k (u8s ((s.drop i).take k))∧Below w.heap.size w w':=by
 obtain⟨w0,hw0⟩:∃w0,w0=w.alloc (.cells (u8s s).toArray 65):=⟨_,rfl⟩
 have hb0:Below w.heap.size w w0:=by rw[hw0];exact a0a (Below.refl _ _) _
 have hs0:At w0 w.heap.size s:=by rw[hw0];exact at_new w s
 have HW:=ι (show ∀w,Calls Tryz.prog 206 #[.int .i64 (i:Int),.int .i64 (k:Int)] w fun e w'=>e = .returned (.bool true)∧w=w' from fun w=>by
  have:=a9j (i:Int) (k:Int) w (WalkArith.wf_i64 (by omega)) (WalkArith.wf_i64 (by omega))
  rw[decide_eq_true (show fits (i:Int) (k:Int) from⟨by omega,by omega,by omega⟩)] at this
  exact this)
 have q1:(i:Int)+k≤32:=by omega
 by_cases h:i=32
 ·have hk0:k=0:=by omega
  subst hk0
  subst h
  have HCl:=ι (b2n ⟨w.heap.size,0,none⟩ 0 0 [] w0 (Or.inl ⟨_,_,rfl,rfl,rfl,fun h=>by cases h⟩) (by omega))
  have HD:Hid ((s.drop 32).take 0=[]):=ι (by simp)
  clear hs hs0
  rw[HD.out]
  go_enter Tryz.func196,Tryz.ntmps196
  go_wp2_with fail
  rw[← hw0]
  clear hw0
  go_wp2_with (first|(go_at_call 206;refine(HW.out _).mono ?_;rintro e w' ⟨rfl,rfl⟩)|(go_at_call 221;refine HCl.out.mono ?_;rintro e w1 ⟨p1,c1,rfl,hr1,hb1⟩))
  go_ret
  exact⟨p1,c1,rfl,hr1,a0b hb0 hb1⟩
 ·have hi:i<32:=by omega
  have h32:¬(32=i):=by omega
  have hcr:=cut_run w0 w.heap.size i k hf hi
  have HCl:=ι (b2n ⟨w.heap.size,i,none⟩ k (32-i) _ w0 (rd_mid hs.1 hs0 hf hi) (by omega))
  clear hs hs0
  go_enter Tryz.func196,Tryz.ntmps196
  go_wp2_with fail
  rw[← hw0]
  clear hw0
  go_wp2_with (first|(go_at_call 206;refine(HW.out _).mono ?_;rintro e w' ⟨rfl,rfl⟩)|(go_at_call 221;refine HCl.out.mono ?_;rintro e w1 ⟨p1,c1,rfl,hr1,hb1⟩))
  go_ret
  exact⟨p1,c1,rfl,hr1,a0b hb0 hb1⟩
theorem cut_no(s:List Int)(i k:Int)(w:World)(hi:(Lit.int .i64 i).wf=true)(hk:(Lit.int .i64 k).wf=true)(hf:¬cutOk i k) :
  Calls Tryz.prog 196 #[agg s,.int .i64 i,.int .i64 k] w (Rt w (.slice none 0 0)):=by
 obtain⟨w0,hw0⟩:∃w0,w0=w.alloc (.cells (u8s s).toArray 65):=⟨_,rfl⟩
 have hb0:Below w.heap.size w w0:=by rw[hw0];exact a0a (Below.refl _ _) _
 have HW:=ι (show ∀w,Calls Tryz.prog 206 #[.int .i64 i,.int .i64 k] w fun e w'=>e = .returned (.bool false)∧w=w' from fun w=>by
  have:=a9j i k w hi hk
  rw[d2v,decide_eq_false hf] at this
  exact this)
 clear hf
 go_enter Tryz.func196,Tryz.ntmps196
 go_wp2_with fail
 rw[← hw0]
 clear hw0
 go_wp2_with (first|(go_at_call 206;refine(HW.out _).mono ?_;rintro e w' ⟨rfl,rfl⟩))
 go_ret
 exact⟨rfl,hb0⟩
theorem cut_is:CutIs 196:=by
 intro s i k w hs hi hk
 by_cases h:cutOk i k
 ·obtain⟨i',rfl⟩:=Int.eq_ofNat_of_zero_le h.1
  obtain⟨k',rfl⟩:=Int.eq_ofNat_of_zero_le h.2.1
  have e1:cutN (i':Int) (k':Int)=k':=by rw[cutN,if_pos h];rfl
  have e2:cutOf s (i':Int) (k':Int)=(s.drop i').take k':=by rw[cutOf,if_pos h];rfl
  rw[e1,e2]
  exact cut_yes s i' k' w hs (by have:=h.2.2;omega)
 ·have e1:cutN i k=0:=by rw[cutN,if_neg h]
  have e2:cutOf s i k=[]:=by rw[cutOf,if_neg h]
  rw[e1,e2]
  exact(cut_no s i k w hi hk h).mono fun e w' ⟨he,hb⟩=>⟨none,0,he,a6a _ 1,hb⟩
end sec
namespace sec
set_option maxRecDepth 100000
open Go.ChangeShapes Go.WideShapes Go.ChangeAt Go.RowKit
open rows
theorem c2y{ops:Array Oper}{rest:List Oper}{o:Oper}{a:Act}{w:World}{Q:Exit→Act→World→Prop}(hgd:o.guard=none)(x:Operand)(ho:o.op = .load 65 x)
  (b off:Nat) (hx:a.eval x = .pointer (some ⟨b,off,none⟩)) (s:List Int) (hs:s.length=32) (hg:w.rangeAt b off (u8s s))
  (h:wpList Tryz.prog ops Q rest (a.put o.dst (agg s)) w):wpList Tryz.prog ops Q (o::rest) a w :=
 wpList_load_mid hgd 65 x ho b off hx (u8s s) _ hg Tryz.underlying65 rfl (by rw[a1j];simp[u8s,hs]) h
theorem c5i{w:World}{b off k:Nat}{cs:List Value}(h:w.rangeAt b off cs):w.rangeAt b off (cs.take k):=fun j u hj=>by
 refine h j u ?_
 rw[List.getElem?_take] at hj
 by_cases hjk:j<k
 ·simpa [hjk] using hj
 ·simp[hjk] at hj
theorem c4s{w:World}{b off k:Nat}{cs:List Value}(h:w.rangeAt b off cs):w.rangeAt b (off+k) (cs.drop k):=fun j u hj=>by
 rw[List.getElem?_drop] at hj
 rw[Nat.add_assoc]
 exact h (k+j) u hj
theorem d1f(l:List Int)(k:Nat):u8s (l.take k)=(u8s l).take k:=by simp[u8s]
theorem d2e(l:List Int)(k:Nat):u8s (l.drop k)=(u8s l).drop k:=by simp[u8s]
end sec
namespace sec
set_option maxRecDepth 100000
open Go.ChangeShapes Go.WideShapes Go.ChangeAt Go.RowKit
open rows
def gath(f:List Int)(k m:Nat):List Int:=f.take (min m k)++List.replicate (k-m) 0
theorem d3o{f:List Int}{k m:Nat}(h:k≤f.length):(gath f k m).length=k:=by simp[gath];omega
theorem d0y(f:List Int)(k:Nat):gath f k 0=List.replicate k 0:=by simp[gath]
theorem d0e{f:List Int}{k m:Nat}(h:k≤m):gath f k m=f.take k:=by
 rw[gath,Nat.min_eq_right h,Nat.sub_eq_zero_of_le h];simp
theorem d0q{f:List Int}{k m:Nat}(h:k≤f.length)(hm:m<k):splice (gath f k m) m ((f.drop m).take (min 32 (k-m)))=gath f k (m+32):=by
 have h1:(f.take m).length=m:=by simp;omega
 have h2:((f.drop m).take (min 32 (k-m))).length=min 32 (k-m):=by simp;omega
 have e1:(f.take m++List.replicate (k-m) (0:Int)).take m=f.take m:=by rw[List.take_append_of_le_length (by omega),List.take_of_length_le (by omega)]
 have e2:(f.take m++List.replicate (k-m) (0:Int)).drop (m+min 32 (k-m))=List.replicate (k-m-min 32 (k-m)) 0:=by
  rw[← List.drop_drop,List.drop_left' h1,List.drop_replicate]
 rw[splice,gath,Nat.min_eq_left (by omega),h2,e1,e2,← List.append_assoc,← List.take_add,gath,show min (m+32) k=m+min 32 (k-m) by omega,show k-(m+32)=k-m-min 32 (k-m) by omega]
def Row(w:World)(g:Nat)(cs:List Int):Prop:=w.heap[g]? = some (.cells (u8s cs).toArray 5 (0,0))
theorem d2g{w:World}{B g n:Nat}{cs:List Int}(h:w.ownsRow B 5 1 (.slice (some ⟨g,0,none⟩) n n) n (u8s cs)):Row w g cs:=by
 rcases h.2 with⟨h2,_⟩|⟨g',cap,cur,h1,h2,h3,h4,h5,h6,h7⟩
 ·cases h2
 ·cases h1
  rw[Nat.mul_one] at h6 h7
  rw[List.take_of_length_le (by simp[h6])] at h7
  rw[Row,← h7]
  exact h3
theorem c7e(k:Nat):(madeCells (Value.int .u8 0).cells (k * 1)).toList=u8s (List.replicate k 0):=by
 have hc:(Value.int .u8 0).cells = #[.int .u8 0]:=rfl
 apply List.ext_getElem
 ·simp[size_madeCells,u8s]
 ·intro i h1 h2
  simp[madeCells,hc,u8s,Nat.mod_one]
theorem row_rd{w:World}{g k:Nat}{cs:List Int}(h:Row w g cs)(hk:cs.length=k)(hm:k≤maxLen):Rd w 1 (.slice (some ⟨g,0,none⟩) k k) k (u8s cs):=by
 by_cases h0:k=0
 ·subst h0
  exact Or.inl ⟨_,_,rfl,rfl,by rw[List.eq_nil_of_length_eq_zero hk];rfl,fun h=>by cases h⟩
 ·refine Or.inr ⟨g,0,k,rfl,by omega,Nat.le_refl _,hm,(Array.getElem?_eq_some_iff.1 h).1,by simp[u8s,hk],fun i u hi => ?_⟩
  rw[Nat.zero_add,cell_of_row _ _ i _ _ (0,0) h]
  simpa using hi
theorem b6a{ops:Array Oper}{o:Oper}{a:Act}{w:World}{K:Act→World→Prop}{Q:Exit→Act→World→Prop}{E:Prop}(hgd:o.guard=none)(d s:Operand)
  (ho:o.op = .call { callee := .builtin .copy,args := #[d,s],argTypes := #[30,30] }) (g off dLen dCap:Nat) (ad:Addr) (sLen sCap:Nat)
  (hd:a.eval d = .slice (some ⟨g,off,none⟩) dLen dCap) (hs:a.eval s = .slice (some ad) sLen sCap) (old:List Int) (hg:Row w g old) (cs:List Int) (hn:cs.length=Nat.min sLen dLen)
  (hsrc:∀j v,(u8s cs)[j]? = some v→w.cell? (ad.add j)=some v) (hfit:off+cs.length≤old.length)
  (h:∀w',Row w' g (splice old off cs)→Below g w w'→K (a.put o.dst (goInt cs.length)) w') :
  if Region.wanted o (yielded ops a.tmps)=true then Oper.wp Tryz.prog o a w K Q else E:=by
 have hw:Region.wanted o (yielded ops a.tmps)=true:=by simp[Region.wanted,hgd]
 rw[if_pos hw]
 have hrun:=run_copy_row (P:=Tryz.prog) w 30 30 o.type 5 g off dLen dCap ad sLen sCap (u8s old).toArray 5 (u8s cs) Tryz.underlying30 (by kernel_rfl) hg (by simpa [u8s] using hn) hsrc (by simpa [u8s] using hfit) (a1y .u8 cs)
 have hl:(u8s cs).length=cs.length:=by simp[u8s]
 have e:(u8s old).toArray.toList.take off++u8s cs++(u8s old).toArray.toList.drop (off+(u8s cs).length)=u8s (splice old off cs):=by
  rw[← a9g,List.append_assoc];rfl
 rw[e,hl] at hrun
 unfold Oper.wp
 simp[execOp,ho,resolve,invoke,builtin,hd,hs,hrun,Result.andThen]
 exact h _ (setRow_heap w g _ _ _ _ hg) ((Below.refl g w).trans ⟨rfl,rfl,rfl,by simp[World.setRow],fun k hk=>setRow_other w g k _ (by omega)⟩)
set_option maxHeartbeats 1600000 in
theorem c3r(p:Option Addr)(n c:Nat)(ss:List (List Int))(k:Nat)(w:World)(hs:Secs ss)(h1:Rd w 32 (.slice p n c) n (cellsOf ss))(hk:k≤32 * n)(l1:n≤1000) :
  Calls Tryz.prog 39 #[.slice p n c,.int .i64 (k:Int)] w fun e w'=>∃p' c',e = .returned (.tuple #[.slice p' k c',.bool true])∧Rd w' 1 (.slice p' k c') k (u8s (ss.flatten.take k))∧Below w.heap.size w w'∧∀a,p'=some a→w.heap.size≤a.block:=by
 obtain⟨i0,hi,hz0,hz1,hz2⟩:=info_parts elem_bytes.info
 have hlen:=h1.cells
 rw[a0r hs] at hlen
 have HFL:Hid (ss.flatten.length=n * 32):=ι (by rw[d4k hs];exact hlen)
 have H1:=ι h1
 have hb1:(n:Int)≤1000:=by omega
 have hk2:(k:Int)≤32 * n:=by omega
 have hk3:decide (32 * (n:Int)<k)=false:=by simp;omega
 have hk4:¬(32 * (n:Int)<k):=by omega
 have hk0:decide ((k:Int)<0)=false:=by simp
 have HKF:Hid (k≤ss.flatten.length):=ι (by rw[HFL.out];omega)
 have hkm:k≤maxLen:=by unfold maxLen;omega
 clear h1 hlen
 go_enter Tryz.func39,Tryz.ntmps39
 go_wp2_with (first|(at_make;refine wpList_make_full _ rfl _ _ 30 rfl _ 5 i0 (.int .u8 0) 1 Tryz.underlying30 hi hz0 hz1 .i64 .i64 _ _ k rfl rfl rfl rfl (by rw[hz2];omega) (by unfold maxLen;omega) (Nat.le_refl _) ?_;intro w3 ho3 hg3))
 rw[c7e] at ho3
 have R3:=ι (d2g ho3)
 have hb3:=b3j hg3
 rw[← d0y ss.flatten k] at R3
 clear ho3 hg3
 go_loopw [7] (fun iv wr=>∃(m:Nat),m<k+32∧Hid (m % 32=0)∧iv = .int .i64 (m:Int)∧Hid (Row wr w.heap.size (gath ss.flatten k m))∧Below w.heap.size w wr) (fun iv _=>k+32-(intOf iv).toNat)
 case atStart=>exact⟨0,by omega,ι rfl,rfl,R3,hb3⟩
 case round =>
  obtain⟨m,hm,HM,rfl,HR,hbr⟩:=hrel
  by_cases ha:m<k
  ·have ha1:(m:Int)<k:=by omega
   obtain⟨b,off,rfl,hc1,hm1,hh1,hl1,HRG⟩:=c6l (H1.out.later hbr) hs (show m / 32<n by omega)
   have hd1:(m:Int) / 32<n:=by omega
   have hne:¬(k=m):=by omega
   have HGL:Hid ((gath ss.flatten k m).length=k):=ι (d3o HKF.out)
   have HSC:Hid (∀j v,(u8s ((ss.flatten.drop m).take (min 32 (k-m))))[j]? = some v→wr.drew.cell? ((⟨b,off+m / 32 * 32,none⟩:Addr).add j)=some v):=ι (by
    intro j v hj
    have hrd:=H1.out.later hbr
    rcases hrd with⟨p2,cap',h1,h0,_⟩|⟨b',off',cap',h1,h2,h3,h4,h5,h6,h7⟩
    ·omega
    ·cases h1
     have hmm:m / 32 * 32=m:=by have:=HM.out;omega
     rw[Addr.add_mid,hmm]
     rw[d1f,d2e] at hj
     exact c5i (c4s (k:=m) h7) j v hj)
   have hcl:((ss.flatten.drop m).take (min 32 (k-m))).length=min 32 (k-m):=by have:=HKF.out;simp only[List.length_take,List.length_drop];omega
   have hst:=d0q HKF.out ha
   obtain⟨X,hX⟩:∃X,(ss.flatten.drop m).take (min 32 (k-m))=X:=⟨_,rfl⟩
   rw[hX] at HSC hcl hst
   have HXL:=ι hcl
   have HST:=ι hst
   clear hX HRG hcl hst
   go_wp2_with fail
   have hle:m≤k:=by omega
   have hd0:(0:Int)≤(m:Int) / 32:=by omega
   have htn:((m:Int) / 32).toNat=m / 32:=by omega
   have hwr:IntKind.i64.wrap ((m:Int) / 32)=(m:Int) / 32:=IntWalk.i64_in _ (by omega)
   refine wp_region_held_drew (S:=fun _=>True) (by kernel_rfl) trivial (fun hH0 => ?_)
   have htr:True:=trivial
   refine tk 0 rfl ?_
   refine tk 1 rfl ?_
   refine tk 2 rfl ?_
   refine tk 3 rfl ?_
   refine tk 4 rfl ?_
   refine tk 5 rfl ?_
   refine tk 6 rfl ?_
   refine tk 7 rfl ?_
   refine rd 8 rfl (fun K hK => ?_)
   refine b6a rfl (.tmp 26) (.tmp 31) (by rfl) w.heap.size m (k-m) (k-m) ⟨b,off+m / 32 * 32,none⟩ 32 32 (by rfl) (by rfl) (gath ss.flatten k m) HR.out X HXL.out HSC.out (by rw[HXL.out,HGL.out];omega) ?_
   intro w4 hg4 hb4
   rw[HST.out] at hg4
   have R4:=ι hg4
   clear hg4
   dsimp only
   refine hK.out _ _ trivial (fun hHeld => ?_)
   clear hK K
   try simp only[Act.put,List.setIfInBounds_toArray,List.set_cons_zero,List.set_cons_succ]
   refine wpAnyH_done (by kernel_rfl) ?_ _
   clear hwr htn hd0 hle
   go_wp2_with fail
   go_roundw
   case rel=>exact⟨m+32,by omega,ι (by have:=HM.out;omega),by go_num,R4,hbr.drew.trans hb4⟩
   case measure=>simp[intOf];omega
  ·have HD:Hid (gath ss.flatten k m=ss.flatten.take k):=ι (d0e (by omega))
   rw[HD.out] at HR
   go_wp2_with fail
   go_ret2
   exact⟨_,_,rfl,row_rd HR.out (by rw[List.length_take];exact Nat.min_eq_left HKF.out) hkm,hbr,fun a h=>by cases h;exact Nat.le_refl _⟩
end sec
end Go.Proofs.YtpnahagiojelbaaGreatDoor
