/- What ViewBack wants, part 33. -/
import Derived.Test.YtjedjkjhodgidaaGreatDoorViewBackA
import Derived.Test.YtjedjkjhodgidaaGreatDoorViewBackB
import Derived.Test.YtjedjkjhodgidaaGreatDoorViewBackV
import Derived.Test.YtjedjkjhodgidaaGreatDoorViewBackZB
import Derived.Test.YtjedjkjhodgidaaGreatDoorViewBackZF
import Derived.StillTailTactics
set_option linter.unusedVariables false
set_option linter.unusedSimpArgs false
namespace Go.Proofs.YtjedjkjhodgidaaGreatDoor
namespace vw
set_option maxRecDepth 100000
open Go.ChangeShapes Go.WideShapes Go.ChangeAt Go.RowKit
open rows
open sec
open ly
open pa
open lk (a8p)
open fs (a1x)
theorem own_lit(w:World)(x:Int):Own (w.alloc (.cells #[.int .u8 x] 5)) w.heap.size 5 1 (.slice (some ⟨w.heap.size,0,none⟩) 1 1) 1 (u8s [x]) :=
 ⟨rfl,Or.inr ⟨w.heap.size,1,#[.int .u8 x],rfl,Nat.le_refl _,heap_alloc_new _ _,Nat.le_refl _,by decide,rfl,rfl⟩⟩
theorem and_nib:∀a:Fin 256,bits BinOp.and IntKind.u8 ((a.val:Nat):Int) 15=((a.val % 16:Nat):Int):=by decide +kernel
set_option maxRecDepth 100000 in
set_option maxHeartbeats 3200000 in
theorem a4p(s:ByteArray)(w:World)(hs:s.size≤100000):Calls Tryz.prog 20 #[.string s] w (Rt w (.string (strOfNums (quoteL (bys s))))):=by
 have HQ:=ι (qU_all s)
 have hs9:(s.size:Int)≤100000:=by omega
 go_enter Tryz.func20,Tryz.ntmps20
 go_upto_region 3 with fail
 have HO0:=ι (own_lit w 34)
 have HB0:=ι (a0b (Below.refl w.heap.size w) (.cells #[.int .u8 34] 5))
 generalize w.alloc (.cells #[.int .u8 34] 5)=w0 at *
 go_loopw [3,9] (fun bv iv wr=>∃(i:Nat) (q:Option Addr) (k:Nat),i≤s.size∧iv = .int .i64 (i:Int)∧bv = .slice q (qU s i).length k∧Hid (Own wr w.heap.size 5 1 (.slice q (qU s i).length k) (qU s i).length (u8s (qU s i)))∧Hid (Below w.heap.size w wr)) (fun _ iv _=>s.size-(intOf iv).toNat)
 case atStart=>exact⟨0,_,_,by omega,rfl,rfl,HO0,HB0⟩
 case round =>
  clear HO0 HB0
  obtain⟨i,q,k,hi,rfl,rfl,HO,HB⟩:=hrel
  have hz:=qU_len s i
  by_cases hlt:i<s.size
  ·have hlti:(i:Int)<s.size:=by omega
   have HU:=ι (qU_succ s hlt)
   have hc0:0≤(s[i].toNat:Int):=Int.natCast_nonneg _
   have hc1:=u8_lt s[i]
   have HP:=ι fun w=>a5n (s[i].toNat:Int) w
   obtain⟨U,hU⟩:∃u,qU s i=u:=⟨_,rfl⟩
   rw[hU] at HU HO hz
   have HN:=ι hz
   simp only[hU]
   clear hU hz
   cases hp:plainB (s[i].toNat:Int) with
   | true =>
    have he:qU s (i+1)=U++[(s[i].toNat:Int)]:=by rw[HU.out,signL,if_pos hp]
    have HE:=ι he
    rw[hp] at HP
    clear hp he HU
    go_wp2_with (first
     | (go_at_call 52;refine(HP.out _).mono ?_;rintro e w1 ⟨rfl,hw⟩;obtain rfl:=hw.symm)
     | (at_builtin;refine a5s a1x rfl (.tmp 17) (.tmp 19) rfl w.heap.size _ U.length _ rfl (HO.out.alloc _) _ 1 [.int .u8 (s[i].toNat:Int)] rfl (b2s _ _ 1 #[.int .u8 (s[i].toNat:Int)] rfl) (by simp[Value.oneCell']) (by have:=HN.out;omega) (by have:=HB.out.size;simp;omega) ?_;intro pa ca wa ho hb;have HO2:=ι ho;have HBa:=ι ((a0b HB.out _).trans hb);clear ho hb))
    exact⟨⟨i+1,pa,ca,by omega,by go_num,by rw[HE.out];simp,by rw[HE.out];exact ι (by rw[List.length_append,List.length_singleton,u8s,List.map_append];exact HO2.out),HBa⟩,by simp[intOf];omega⟩
   | false =>
    have he:qU s (i+1)=U++[92,hexC ((s[i].toNat:Int) / 16),hexC ((s[i].toNat:Int) % 16)]:=by rw[HU.out,signL,if_neg (by rw[hp];decide)]
    have HE:=ι he
    rw[hp] at HP
    clear hp he HU
    go_upto_region 8 with(first
     | (go_at_call 52;refine(HP.out _).mono ?_;rintro e w1 ⟨rfl,hw⟩;obtain rfl:=hw.symm))
    obtain⟨c,hc⟩:∃c,(s[i].toNat:Int)=c:=⟨_,rfl⟩
    rw[hc] at hc0 hc1 HE HP
    have hsh:c / 16=((c.toNat / 16:Nat):Int):=by omega
    have hand:bits BinOp.and IntKind.u8 c 15=((c.toNat % 16:Nat):Int):=by
     have:=and_nib ⟨c.toNat,by omega⟩
     simpa [show ((c.toNat:Nat):Int)=c by omega] using this
    obtain⟨m1,hm1⟩:∃m,c.toNat / 16=m:=⟨_,rfl⟩
    obtain⟨m2,hm2⟩:∃m,c.toNat % 16=m:=⟨_,rfl⟩
    rw[hm1] at hsh
    rw[hm2] at hand
    have l1:m1<16:=by omega
    have l2:m2<16:=by omega
    have l1i:(m1:Int)<16:=by omega
    have l2i:(m2:Int)<16:=by omega
    have q1:=a9m m1 l1
    have q2:=a9m m2 l2
    have he2:qU s (i+1)=U++[92,hexC (m1:Int),hexC (m2:Int)]:=by rw[HE.out,hsh,show c % 16=(m2:Int) by omega]
    have HE2:=ι he2
    generalize hexC (m1:Int)=x1 at *
    generalize hexC (m2:Int)=x2 at *
    clear he2 hm1 hm2 HE
    refine wp_region_held_drew (S:=fun v=>Below w.heap.size w v) (by kernel_rfl) HB.out.drew (fun hH0 => ?_)
    have h0:Below w.heap.size w wr.drew:=HB.out.drew
    refine tk 0 rfl ?_
    refine tk 1 rfl ?_
    refine tk 2 rfl ?_
    refine tk 3 rfl ?_
    refine tk 4 rfl ?_
    refine tk 5 rfl ?_
    refine tk 6 rfl ?_
    refine rd 7 rfl (fun K hK => ?_)
    go_simp
    have h1:=a0b h0 (.cells #[.int .u8 92,.int .u8 x1,.int .u8 x2] 5)
    refine hK.out _ _ h1 (fun hHeld => ?_)
    clear hK K
    try simp only[Act.put,List.setIfInBounds_toArray,List.set_cons_zero,List.set_cons_succ]
    refine rd 8 rfl (fun K hK => ?_)
    refine step_ap a1x (by rfl) (.tmp 21) (.tmp 28) rfl w.heap.size _ U.length _ rfl (HO.out.drew.alloc _) _ 3 [.int .u8 92,.int .u8 x1,.int .u8 x2] rfl (rd_lit wr.drew 5 1 3 #[.int .u8 92,.int .u8 x1,.int .u8 x2] rfl (by decide) (by decide)) (by simp[Value.oneCell']) (by have:=HN.out;omega) (by have:=h1.size;exact this) ?_
    intro pa ca wa ho hb
    have HO2:=ι ho
    have h2:Below w.heap.size w wa:=h1.trans hb
    have HBa:=ι h2
    clear ho hb
    refine hK.out _ _ h2 (fun hHeld => ?_)
    clear hK K
    try simp only[Act.put,List.setIfInBounds_toArray,List.set_cons_zero,List.set_cons_succ]
    refine tk 9 rfl ?_
    refine wpAnyH_done (by kernel_rfl) ?_ _
    go_wp2_with fail
    exact⟨⟨i+1,pa,ca,by omega,by go_num,by rw[HE2.out];simp,by rw[HE2.out];exact ι (by rw[List.length_append,u8s,List.map_append];exact HO2.out),HBa⟩,by simp[intOf];omega⟩
  ·obtain rfl:i=s.size:=by omega
   go_wp2_with (first
     | (at_builtin;refine a5s a1x rfl (.tmp 31) (.tmp 32) rfl w.heap.size _ (qU s s.size).length _ rfl (HO.out.alloc _) _ 1 [.int .u8 34] rfl (b2s _ _ 1 #[.int .u8 34] rfl) (by simp[Value.oneCell']) (by omega) (by have:=HB.out.size;simp;omega) ?_;intro pa ca wa ho hb;have HO2:=ι ho;have HBa:=ι ((a0b HB.out _).trans hb);clear ho hb;have hcv:=a1f (w:=wa) (p:=pa) (n:=(qU s s.size).length+1) (c:=ca) (xs:=qU s s.size++[34]) (by rw[u8s,List.map_append];exact HO2.out.rd)))
   go_ret
   exact⟨by rw[← HQ.out];rfl,HBa.out⟩
theorem a5e(R:ByteArray){n:Nat}(h:n≤R.size):bys (R.extract n R.size)=(bys R).drop n:=by
 rw[a6a R n R.size (Nat.le_refl _),List.take_of_length_le]
 rw[List.length_drop,a0d];omega
set_option maxRecDepth 100000 in
set_option maxHeartbeats 3200000 in
theorem a1t(s:ByteArray)(w:World)(hs:s.size≤100000):Calls Tryz.prog 14 #[.string s] w (Rt w (.tuple #[.string (strOfNums ((unquoteL (bys s)).getD [])),.bool (unquoteL (bys s)).isSome])):=by
 have hs9:(s.size:Int)≤100000:=by omega
 by_cases h2:s.size<2
 ·have e:unquoteL (bys s)=none:=by rw[unquoteL,if_pos (Or.inl (by rw[a0d];exact h2))]
  rw[e]
  have d1:decide ((s.size:Int)-1<1)=true:=by simp;omega
  go_enter Tryz.func14,Tryz.ntmps14
  go_wp2_with fail
  go_ret2
  exact⟨rfl,Below.refl _ _⟩
 ·have d1:decide ((s.size:Int)-1<1)=false:=by simp;omega
  have hlt0:0<s.size:=by omega
  have hltl:s.size-1<s.size:=by omega
  have b0:=a4e s 0 hlt0
  have b1:=a4e s (s.size-1) hltl
  have hse:(s.size:Int)-1=((s.size-1:Nat):Int):=by omega
  obtain⟨z,hz⟩:∃z,s.size-1=z:=⟨_,rfl⟩
  rw[hz] at hse
  have hzl:z<s.size:=by omega
  have hq1s:s[s.size-1]=s[z]:=by simp only[hz]
  rw[hq1s] at b1
  have hzi:(z:Int)<s.size:=by omega
  have hz1:(1:Int)≤z:=by omega
  clear hq1s hltl
  go_enter Tryz.func14,Tryz.ntmps14
  by_cases hq0:(s[0].toNat:Int)=34
  ·by_cases hq1:(s[z].toNat:Int)=34
   ·have U0:=ι (b8y (s:=s) (by omega) (b0.trans hq0) (b1.trans hq1))
    have g0:((s[0].toNat:Int) != 34)=false:=by simpa using hq0
    have g1:((s[z].toNat:Int) != 34)=false:=by simpa using hq1
    have hR0:bys (s.extract 1 z)=(((bys s).drop 1).take (s.size-2)).drop 0:=by
     rw[a6a s 1 z (by omega),List.drop_zero,show z-1=s.size-2 by omega]
    have HR0:=ι hR0
    clear hq0 hq1 b0 b1 hR0
    go_upto_region 6 with fail
    go_loopw [5,6] (fun bv rv wr=>∃(j:Nat) (out:List Int) (q:Option Addr) (k:Nat) (R:ByteArray),UqAt s j out∧bys R=(((bys s).drop 1).take (s.size-2)).drop j∧rv = .string R∧bv = .slice q out.length k∧Hid (Own wr w.heap.size 5 1 (.slice q out.length k) out.length (u8s out))∧Hid (Below w.heap.size w wr)) (fun _ rv _=>match rv with | .string R=>R.size|_=>0)
    case atStart=>exact⟨0,[],none,0,_,U0.out,HR0.out,rfl,rfl,ι (a2b _ _ _ _),ι (Below.refl _ _)⟩
    case round =>
     clear U0 g0 g1 HR0
     obtain⟨j,out,q,k,R,hu,hR,rfl,rfl,HO,HB⟩:=hrel
     have hRl:R.size=s.size-2-j:=by rw[← a0d R,hR,a3e _ hu.1]
     have hj2:=hu.1
     by_cases hr0:R.size=0
     ·have he:=uq_done hu (by omega)
      have hcv:=a1f (w:=wr) (p:=q) (n:=out.length) (c:=k) (xs:=out) HO.out.rd
      have hRe:R={ data := #[] }:=a1p ((List.eq_nil_of_length_eq_zero (l:=bys R) (by rw[a0d];exact hr0)).trans rfl)
      subst hRe
      clear hu hR hRl
      go_wp2_with fail
      go_ret2
      exact⟨by rw[he];rfl,HB.out⟩
     ·have hne:(R.toList == [])=false:=by
       cases hh:(R.toList == []) with
       | false=>rfl
       | true =>
        exfalso;apply hr0
        have:=a8p (a:=R) (b:={ data := #[] }) (by simpa using hh)
        rw[this];rfl
      have HF:=ι fun w=>first_any R w (by omega) (by omega)
      have HU:=ι hu
      have HR:=ι hR
      have HJ:=ι hj2
      have HL:=ι hRl
      have hol:out.length≤100000:=by have:=hu.2.2.2;omega
      cases hs:stepL (bys R) with
      | none =>
       have e1:fstV (bys R)=(0,0):=by rw[fstV,hs];rfl
       rw[e1] at HF
       have he:=uq_stop hu (by omega) (by rw[← hR];exact hs)
       have HE:=ι he
       clear hs e1 hu hR hRl he hj2 HU HR
       go_wp2_with (go_at_call 40;refine(HF.out _).mono ?_;rintro e w1 ⟨rfl,n1,rfl⟩;have HB1:=ι (a2g HB.out n1))
       go_ret2
       exact⟨by rw[HE.out];rfl,HB1.out⟩
      | some x =>
       obtain⟨c,n⟩:=x
       have e1:fstV (bys R)=(c,n):=by rw[fstV,hs];rfl
       rw[e1] at HF
       obtain⟨u1,u2,u3⟩:=uq_step hu (by rw[← hR];exact hs)
       have hn:=(a4a (a0n R) hs).2.2.1
       rw[a0d] at hn
       have HU1:=ι u1
       have hR1:bys (R.extract n R.size)=(((bys s).drop 1).take (s.size-2)).drop (j+n):=by rw[a5e R hn,hR,List.drop_drop]
       have HR1:=ι hR1
       have hz1:(R.extract n R.size).size=R.size-n:=by rw[ByteArray.size_extract];omega
       have HZ1:=ι hz1
       have n0:((n:Int) == 0)=false:=by simp;omega
       have hni:(n:Int)≤R.size:=by omega
       have HN1:=ι u2
       clear hs e1 hu hR hRl hj2 HU HR u1 u2 u3 hR1 hz1
       go_wp2_with (first
        | (go_at_call 40;refine(HF.out _).mono ?_;rintro e w1 ⟨rfl,n1,rfl⟩;have HB1:=ι (a2g HB.out n1))
        | (at_builtin;refine a5s a1x rfl (.tmp 37) (.tmp 39) rfl w.heap.size _ out.length _ rfl ((HO.out.drewN n1).alloc _) _ 1 [.int .u8 c] rfl (b2s _ _ 1 #[.int .u8 c] rfl) (by simp[Value.oneCell']) (by omega) (by have:=HB1.out.size;simp at this ⊢;omega) ?_;intro pa ca wa ho hb;have HO2:=ι ho;have HBa:=ι ((a0b HB1.out _).trans hb);clear ho hb))
       exact⟨⟨j+n,out++[c],pa,ca,R.extract n R.size,HU1.out,HR1.out,rfl,by simp,by rw[List.length_append,List.length_singleton,u8s,List.map_append];exact HO2,HBa⟩,by have:=HZ1.out;have:=HN1.out;simp only;omega⟩
   ·have e:unquoteL (bys s)=none:=by rw[unquoteL,if_pos (Or.inr (Or.inr (by rw[a0d,b1];exact hq1)))]
    rw[e]
    have g0:((s[0].toNat:Int) != 34)=false:=by simpa using hq0
    have g1:((s[z].toNat:Int) != 34)=true:=by simpa using hq1
    go_wp2_with fail
    go_ret2
    exact⟨rfl,Below.refl _ _⟩
  ·have e:unquoteL (bys s)=none:=by rw[unquoteL,if_pos (Or.inr (Or.inl (by rw[b0];exact hq0)))]
   rw[e]
   have g0:((s[0].toNat:Int) != 34)=true:=by simpa using hq0
   go_wp2_with fail
   go_ret2
   exact⟨rfl,Below.refl _ _⟩
end vw
namespace vw
set_option maxRecDepth 100000
open Go.ChangeShapes Go.WideShapes Go.ChangeAt Go.RowKit
open rows
open sec
open ly
open pa
open fs (Nd aggN a1a)
theorem a2h(a b:ByteArray):bys (a++b)=bys a++bys b:=by
 unfold bys;rw[ByteArray.data_append,Array.toList_append,List.map_append]
set_option maxRecDepth 100000 in
set_option maxHeartbeats 1600000 in
theorem a7h(x:Nd)(w:World)(hmx:Mx w)(hp:x.path.size≤100000)(hd:x.data.size≤100000):Calls Tryz.prog 43 #[aggN x] w (Rt w (.bool (okN x))):=by
 have HP:=ι fun w' (hb:Below w.heap.size w w')=>b7w x.path w' (hmx.later hb) hp
 obtain⟨B,hB⟩:∃b,okN x=b:=⟨_,rfl⟩
 rw[hB]
 have h1:=a6j x
 rw[hB] at h1
 have H1:=ι h1
 have hd9:(x.data.size:Int)≤100000:=by omega
 generalize errP (bys x.path)=E at *
 obtain⟨px,dx,bx⟩:=x
 simp only at *
 clear h1 hB hmx
 cases dx with
 | true =>
  go_enter Tryz.func43,Tryz.ntmps43
  go_wp2_with (go_at_call 95;refine(HP.out _ (a0b (Below.refl _ _) _)).mono ?_;rintro e w1 ⟨rfl,hb⟩;have HB:=ι (a0a (a0b (Below.refl _ _) _) hb);have A1:=ι ((a1a w ⟨px,true,bx⟩).later hb);have c1:w1.cell? ⟨w.heap.size,1,none⟩=some (.bool true):=A1.out.c1;have c2:w1.cell? ⟨w.heap.size,2,none⟩=some (.string bx):=A1.out.c2;clear hb)
  all_goals go_ret
  all_goals (refine⟨a0e ?_,HB.out⟩;have h:=H1.out;rw[Bool.eq_iff_iff,h];simp_all;try omega)
 | false =>
  go_enter Tryz.func43,Tryz.ntmps43
  go_wp2_with (go_at_call 95;refine(HP.out _ (a0b (Below.refl _ _) _)).mono ?_;rintro e w1 ⟨rfl,hb⟩;have HB:=ι (a0a (a0b (Below.refl _ _) _) hb);have A1:=ι ((a1a w ⟨px,false,bx⟩).later hb);have c1:w1.cell? ⟨w.heap.size,1,none⟩=some (.bool false):=A1.out.c1;have c2:w1.cell? ⟨w.heap.size,2,none⟩=some (.string bx):=A1.out.c2;clear hb)
  all_goals go_ret
  all_goals (refine⟨a0e ?_,HB.out⟩;have h:=H1.out;rw[Bool.eq_iff_iff,h];simp_all;try omega)
end vw
namespace vw
set_option maxRecDepth 100000
open Go.ChangeShapes Go.WideShapes Go.ChangeAt Go.RowKit
open rows
open sec
open ly
open pa
open fs (Nd aggN a1a)
open dsk (a0o)
theorem a4r(b:ByteArray):(quoteL (bys b)).length≤3 * b.size+2:=by
 rw[a3w]
 have:=(a4g (bys b)).2
 rw[a0d] at this
 omega
theorem b9p(px:ByteArray)(bx:ByteArray):px++{ data := #[47] }++{ data := #[10] }=strOfNums (lineL ⟨px,true,bx⟩):=by
 apply a1p
 have hb:∀x∈lineL ⟨px,true,bx⟩,0≤x∧x<256:=by
  intro x hx
  simp only[lineL,bodyL,if_true,List.mem_append,List.mem_singleton] at hx
  rcases hx with(hx|rfl)|rfl
  ·exact a0n _ x hx
  ·omega
  ·omega
 rw[a0w hb,a2h,a2h]
 rfl
theorem b7d(px:ByteArray)(bx:ByteArray):px++{ data := #[32] }++strOfNums (quoteL (bys bx))++{ data := #[10] }=strOfNums (lineL ⟨px,false,bx⟩):=by
 apply a1p
 have hq:=quote_bytes (a0n bx)
 have hb:∀x∈lineL ⟨px,false,bx⟩,0≤x∧x<256:=by
  intro x hx
  rw[lineL,bodyL,if_neg (by simp)] at hx
  simp only[List.mem_append,List.mem_cons,List.not_mem_nil,or_false] at hx
  rcases hx with(hx|rfl|hx)|rfl
  ·exact a0n _ x hx
  ·omega
  ·have:=hq x hx;omega
  ·omega
 rw[a0w hb,a2h,a2h,a2h,a0w (fun x hx=>by have:=hq x hx;omega),lineL,bodyL,if_neg (by simp)]
 simp only[List.append_assoc]
 rfl
set_option maxRecDepth 100000 in
set_option maxHeartbeats 3200000 in
theorem b7p(x:Nd)(w:World)(hp:x.path.size≤100000)(hd:x.data.size≤100000):Calls Tryz.prog 45 #[aggN x] w (Rt w (.string (strOfNums (lineL x)))):=by
 have HQ:=ι fun w'=>a4p x.data w' hd
 have hqz:=a4r x.data
 obtain⟨px,dx,bx⟩:=x
 simp only at *
 cases dx with
 | true =>
  have HL:=ι (b9p px bx)
  have s1:(px.size:Int)+1≤9223372036854775807:=by omega
  have s2:((px++{ data := #[47] }).size:Int)+1≤9223372036854775807:=by rw[ByteArray.size_append,show ({ data := #[47] }:ByteArray).size=1 from rfl];omega
  clear hqz HQ
  go_enter Tryz.func45,Tryz.ntmps45
  go_wp2_with fail
  go_ret
  exact⟨by rw[← HL.out];rfl,a0b (Below.refl _ _) _⟩
 | false =>
  have HL:=ι (b7d px bx)
  have e32:({ data := #[32] }:ByteArray).size=1:=rfl
  have n1:¬9223372036854775807<px.size+1:=by omega
  have n2:¬9223372036854775807<(px++{ data := #[32] }).size+(strOfNums (quoteL (bys bx))).size:=by rw[ByteArray.size_append,strOfNums_size,e32];omega
  have n3:¬9223372036854775807<(px++{ data := #[32] }++strOfNums (quoteL (bys bx))).size+1:=by rw[ByteArray.size_append,ByteArray.size_append,strOfNums_size,e32];omega
  clear e32
  generalize strOfNums (quoteL (bys bx))=qs at *
  obtain⟨q1,hq1⟩:∃q1,px++{ data := #[32] }=q1:=⟨_,rfl⟩
  rw[hq1] at HL n2 n3
  obtain⟨q2,hq2⟩:∃q2,q1++qs=q2:=⟨_,rfl⟩
  rw[hq2] at HL n3
  clear hqz
  have A0:=ι (a1a w ⟨px,false,bx⟩)
  have B0:=ι (a0b (Below.refl w.heap.size w) (.cells #[.string px,.bool false,.string bx] 35))
  go_enter Tryz.func45,Tryz.ntmps45
  go_upto_region 3 with fail
  obtain⟨W,hW⟩:∃W,w.alloc (.cells #[.string px,.bool false,.string bx] 35)=W:=⟨_,rfl⟩
  rw[hW] at A0 B0 ⊢
  refine wp_region_held_drew (S:=ext W.drew) (by kernel_rfl) (Below.refl _ _) (fun hH0 => ?_)
  have h0:Below W.drew.heap.size W.drew W.drew:=Below.refl _ _
  refine tk 0 rfl ?_
  refine tkv 1 rfl (a0o (by rfl) 9 _ Tryz.underlying9 rfl _ rfl w.heap.size 0 rfl _ (fun w' hw=>(A0.out.later (a0h hw)).c0)) ?_
  refine tk 2 rfl ?_
  refine tk 3 rfl ?_
  refine tkv 4 rfl (a0o (by rfl) 9 _ Tryz.underlying9 rfl _ rfl w.heap.size 2 rfl _ (fun w' hw=>(A0.out.later (a0h hw)).c2)) ?_
  refine rd 5 rfl (fun K hK => ?_)
  go_simp
  refine(HQ.out _).mono ?_
  rintro e v1 ⟨rfl,hb⟩
  have h1:Below W.drew.heap.size W.drew v1:=a0a h0 hb
  have HB:=ι (a0a B0.out.drew h1)
  clear hb
  dsimp only
  refine hK.out _ _ h1 (fun hHeld => ?_)
  clear hK K
  try simp only[Act.put,List.setIfInBounds_toArray,List.set_cons_zero,List.set_cons_succ]
  refine tk 6 rfl ?_
  refine tk 7 rfl ?_
  refine tk 8 rfl ?_
  refine wpAnyH_done (by kernel_rfl) ?_ _
  go_wp2_with fail
  go_ret
  exact⟨by rw[← HL.out];rfl,HB.out⟩
end vw
end Go.Proofs.YtjedjkjhodgidaaGreatDoor
