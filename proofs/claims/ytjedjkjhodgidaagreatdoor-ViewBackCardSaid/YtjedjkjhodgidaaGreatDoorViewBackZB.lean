/- What ViewBack wants, part 28. -/
import Derived.Test.YtjedjkjhodgidaaGreatDoorViewBackA
import Derived.Test.YtjedjkjhodgidaaGreatDoorViewBackB
import Derived.Test.YtjedjkjhodgidaaGreatDoorViewBackY
import Derived.Test.YtjedjkjhodgidaaGreatDoorViewBackZA
import Derived.Test.YtjedjkjhodgidaaGreatDoorViewBackShf
set_option linter.unusedVariables false
set_option linter.unusedSimpArgs false
namespace Go.Proofs.YtjedjkjhodgidaaGreatDoor
namespace pa
set_option maxRecDepth 100000
open Go.ChangeShapes Go.WideShapes Go.ChangeAt Go.RowKit
open rows
open ly
open dsk (a0c a0j a3a a0f)
theorem b3l{cs:Array Value}{i:Nat}{v:Value}(h:cs[i]? = some v):cs.setIfInBounds i v=cs:=by
 apply Array.ext_getElem?
 intro j
 rw[Array.getElem?_setIfInBounds]
 by_cases e:i=j
 ·subst e
  rw[if_pos rfl,h,if_pos (Array.getElem?_eq_some_iff.1 h).1]
 ·rw[if_neg e]
theorem clone_any(s:ByteArray)(hs:s.size≤281474976710656)(w:World):Calls Tryz.prog 51 #[.string s] w (Rt w (.string s)):=by
 have HC:=ι (Tryz.stringslite_Clone s w hs)
 clear hs
 go_enter Tryz.func51,Tryz.ntmps51
 go_wp2_with (go_at_call 101;refine HC.out.mono ?_;rintro e w' ⟨rfl,hb⟩)
 go_ret
 exact⟨rfl,hb⟩
theorem b4l{s:ByteArray}(h:Lib.hasPrefix s.data.toList [47]=true):bys s=47::bys ⟨(Lib.trimPrefix s.data.toList [47]).toArray⟩:=by
 rw[Lib.trimPrefix,if_pos h]
 unfold Lib.hasPrefix at h
 unfold bys
 cases hl:s.data.toList with
 | nil=>rw[hl] at h;simp at h
 | cons b l =>
  rw[hl] at h
  have hb:47=b:=by simpa using h
  subst hb
  rfl
theorem b8h{s:ByteArray}(h:Lib.hasPrefix s.data.toList [47]=false):splitL (bys s)=none:=by
 unfold Lib.hasPrefix at h
 have hp:parse (bys s)=none∨bys s=[]:=by
  unfold bys
  cases hl:s.data.toList with
  | nil=>exact Or.inr rfl
  | cons b l =>
   rw[hl] at h
   refine Or.inl (b6n _ fun(hb:(b.toNat:Int)=47) => ?_)
   have:b=47:=UInt8.toNat_inj.1 (by
    have h2:b.toNat=47:=by omega
    rw[h2];rfl)
   subst this
   simp at h
 have hne:bys s≠[47]:=fun e=>by
  have h2:s.data.toList=[47]:=by rw[← ByteArray.toList_eq];exact(slash1 s).2 e
  rw[h2] at h
  simp at h
 rcases hp with hp|hp
 ·exact a3l hne hp
 ·rw[hp,a3n (by simp) parse_nil];rfl
set_option maxRecDepth 100000 in
set_option maxHeartbeats 3200000 in
theorem c0n:SplitMx 55:=by
 intro s w hmx hs
 have hsi:(s.size:Int)≤100000:=by omega
 by_cases h47:s.toList=[47]
 ·have e1:bys s=[47]:=(slash1 s).1 h47
  have E1:Hid (nms (bys s)=[]∧errS (bys s)=0):=ι (by rw[e1,nms,errS,b1i];exact⟨rfl,rfl⟩)
  clear e1
  go_enter Tryz.func55,Tryz.ntmps55
  go_wp2_with fail
  go_ret2
  refine⟨none,0,0,by rw[E1.out.2];rfl,by rw[E1.out.1];rfl,by rw[E1.out.1];exact a7p _ 1,Below.refl _ _⟩
 ·have g47:(s.toList == [47])=false:=by simpa using h47
  have hne:bys s≠[47]:=fun h=>h47 ((slash1 s).2 h)
  have HCP:=ι fun w=>Tryz.strings_CutPrefix s { data := #[47] } w
  rw[show ({ data := #[47] }:ByteArray).data.toList=[47] from rfl] at HCP
  cases hp:Lib.hasPrefix s.data.toList [47] with
  | false =>
   have HZ:=ι (b8h hp)
   rw[hp] at HCP
   clear h47 hne hp
   go_enter Tryz.func55,Tryz.ntmps55
   go_wp2_with (go_at_call 104;refine(HCP.out _).mono ?_;rintro e w1 ⟨rfl,hw1⟩;obtain rfl:w=w1:=hw1.symm)
   go_ret2
   exact⟨none,0,0,by rw[errS,HZ.out];rfl,by rw[nms,HZ.out];rfl,by rw[nms,HZ.out];exact a7p _ 1,Below.refl _ _⟩
  | true =>
   have hbr:=b4l hp
   rw[hp] at HCP
   generalize (⟨(Lib.trimPrefix s.data.toList [47]).toArray⟩:ByteArray)=r at HCP hbr
   have hrs:s.size=r.size+1:=by rw[← a0d s,hbr,List.length_cons,a0d]
   obtain⟨m,hm⟩:=hmx
   have HSP:=ι (Tryz.strings_SplitN r slashB 5 m w (by omega) hm (by decide) (by decide) (by decide))
   have hpc:=pieces r
   obtain⟨L,hL⟩:∃L,Lib.splitB slashB 0 (min 5 (r.size+1)-1) r=L:=⟨_,rfl⟩
   have hln:L.length≤min 5 (r.size+1):=by
    have:=Lib.splitB_length_le slashB 0 (min 5 (r.size+1)-1) r
    rw[hL] at this;omega
   rw[hL] at HSP hpc
   clear hL
   have hszs:∀x∈L,x.size≤100000:=fun x hx=>by
    have:=b0m 4 (bys r) (bys x) (by rw[← hpc];exact List.mem_map_of_mem hx)
    rw[a0d,a0d] at this
    omega
   obtain⟨N,hN⟩:∃N,min 5 (r.size+1)=N:=⟨_,rfl⟩
   have hN5:N≤5:=by omega
   rw[hN] at HSP hln
   clear hN
   have hcl:(cutK 4 (bys r)).length=L.length:=by rw[← hpc,List.length_map]
   have hl1:1≤L.length:=by rw[← hcl];exact b8v _ _
   by_cases h4:4<L.length
   ·have HZ:Hid (splitL (bys s)=none):=ι (by
     cases hps:parse (bys s) with
     | none=>exact a3l hne hps
     | some ns =>
      have h5:=b2e 4 (bys r) ns (by rw[hcl];omega) (by rw[← hbr];exact hps)
      rw[a3n hne hps,if_neg (by omega)])
    have h4i:(4:Int)<(L.length:Int):=by omega
    generalize L.length=n at *
    generalize Lib.cellsOf L N=cs at *
    clear h47 hne hp hpc hszs hcl hbr
    go_enter Tryz.func55,Tryz.ntmps55
    go_wp2_with (first|(go_at_call 104;refine(HCP.out _).mono ?_;rintro e w1 ⟨rfl,hw1⟩;obtain rfl:w=w1:=hw1.symm)|(go_at_call 105;refine HSP.out.mono ?_;rintro e w1 ⟨rfl,hw⟩;have HW:=ι hw;clear hw))
    go_ret2
    exact⟨none,0,0,by rw[errS,HZ.out];rfl,by rw[nms,HZ.out];rfl,by rw[nms,HZ.out];exact a7p _ 1,by rw[HW.out];exact a0b (Below.refl _ _) _⟩
   ·have h4i:(L.length:Int)≤4:=by omega
    have hcp:=b0e 4 (bys r) (by rw[hcl];omega)
    rw[← hbr,← hpc] at hcp
    have HNO:Hid (∀i (h:i<L.length),isNm (bys L[i])=false→splitL (bys s)=none):=ι (fun i h hf=>a3l hne (by
     rw[hcp,if_neg]
     intro ha
     have:=List.all_eq_true.1 ha (bys L[i]) (List.mem_map_of_mem (List.getElem_mem h))
     rw[hf] at this
     cases this))
    have HYE:Hid ((∀i (h:i<L.length),isNm (bys L[i])=true)→splitL (bys s)=some (L.map bys)):=ι (fun ha=>by
     rw[if_pos (List.all_eq_true.2 (fun y hy=>by
      obtain⟨x,hx,rfl⟩:=List.mem_map.1 hy
      obtain⟨i,hi,rfl⟩:=List.mem_iff_getElem.1 hx
      exact ha i hi))] at hcp
     rw[a3n hne hcp,if_pos ⟨by rw[List.length_map];exact hl1,by rw[List.length_map];omega⟩])
    have HCE:Hid (∀i (h:i<L.length),(Lib.cellsOf L N)[i]? = some (.string L[i])):=ι (fun i h=>by
     unfold Lib.cellsOf
     rw[List.getElem?_toArray,List.getElem?_append_left (by rw[List.length_map];exact h)]
     simp[h])
    have HSZ:Hid (∀i (h:i<L.length),L[i].size≤100000):=ι (fun i h=>hszs _ (List.getElem_mem h))
    clear h47 hne hp hpc hszs hcl hbr hcp h4
    obtain⟨n,hn⟩:∃n,n=L.length:=⟨_,rfl⟩
    have HN:=ι hn
    rw[← hn] at h4i hl1 hln HSP
    have h1i:(1:Int)≤n:=by omega
    clear hn
    generalize hcs:Lib.cellsOf L N=cs at *
    clear hcs
    go_enter Tryz.func55,Tryz.ntmps55
    go_wp2_with (first|(go_at_call 104;refine(HCP.out _).mono ?_;rintro e w1 ⟨rfl,hw1⟩;obtain rfl:w=w1:=hw1.symm)|(go_at_call 105;refine HSP.out.mono ?_;rintro e w1 ⟨rfl,hw⟩;have HR1:Hid (w1.heap[w.heap.size]? = some (.cells cs 9 (0,0))):=ι (by rw[hw];exact heap_alloc_new _ _);have HB1:Hid (Below w.heap.size w w1):=ι (by rw[hw];exact a0b (Below.refl _ _) _);clear hw))
    go_loopw [7,8,25] (fun _ _ iv wr=>∃i:Nat,i≤n∧iv = .int .i64 (i:Int)∧Hid (∀k (h:k<L.length),k<i→isNm (bys L[k])=true)∧Hid (wr.heap[w.heap.size]? = some (.cells cs 9 (0,0)))∧Hid (Below w.heap.size w wr)) (fun _ _ iv _=>n-(intOf iv).toNat)
    case atStart=>exact⟨0,by omega,rfl,ι (fun k h hk=>by omega),HR1,HB1⟩
    case round =>
     obtain⟨i,hi,rfl,HA,HR,HB⟩:=hrel
     by_cases hlt:i<n
     ·have hlti:(i:Int)<n:=by omega
      have hlL:i<L.length:=by rw[← HN.out];exact hlt
      have k1:=a0c HR.out i _ (HCE.out i hlL)
      have k2:=a0j HR.out i
      obtain⟨x,hx⟩:∃x,x=L[i]:=⟨_,rfl⟩
      have hxs:x.size≤100000:=by rw[hx];exact HSZ.out i hlL
      have HCX:Hid (cs[i]? = some (.string x)):=ι (by rw[hx];exact HCE.out i hlL)
      have HNX:Hid (isNm (bys x)=false→splitL (bys s)=none):=ι (by rw[hx];exact HNO.out i hlL)
      have HAX:Hid (isNm (bys x)=true→∀k (h:k<L.length),k<i+1→isNm (bys L[k])=true):=ι (fun hh k h hk=>by
       by_cases e:k=i
       ·subst e;rw[← hx];exact hh
       ·exact HA.out k h (by omega))
      rw[← hx] at k1
      clear hx
      have HNM:=ι fun w=>name_of x (isNm (bys x)) (by rw[a8x]) (by unfold maxLen;omega) w
      have HCL:=ι fun w=>clone_any x (by omega) w
      cases hnm:isNm (bys x) with
      | false =>
       have HZ:=ι (HNX.out hnm)
       rw[hnm] at HNM
       clear hnm
       go_wp2_with (go_at_call 106;refine(HNM.out _).mono ?_;rintro e w2 ⟨rfl,rfl⟩)
       go_ret2
       exact⟨none,0,0,by rw[errS,HZ.out];rfl,by rw[nms,HZ.out];rfl,by rw[nms,HZ.out];exact a7p _ 1,HB.out⟩
      | true =>
       have HA2:=ι (HAX.out hnm)
       rw[hnm] at HNM
       clear hnm
       go_wp2_with (first|(go_at_call 106;refine(HNM.out _).mono ?_;rintro e w2 ⟨rfl,rfl⟩)|(go_at_call 51;refine(HCL.out _).mono ?_;rintro e w2 ⟨rfl,hb⟩;have HR2:=ι (a3a HR.out hb (Array.getElem?_eq_some_iff.1 HR.out).1);have HB2:=ι (a0a HB.out hb);have k3:=a0c HR2.out i _ HCX.out;have k4:=a0j HR2.out i;clear hb))
       go_roundw
       case rel=>exact⟨i+1,by omega,by go_num,HA2,ι (by rw[a0f HR2.out,b3l HCX.out]),ι (HB2.out.setCell (p:=⟨w.heap.size,i,none⟩) (Nat.le_refl _) _)⟩
       case measure=>simp[intOf];omega
     ·obtain rfl:i=n:=by omega
      have HZ:Hid (splitL (bys s)=some (L.map bys)):=ι (HYE.out fun k h=>HA.out k h (by rw[HN.out];exact h))
      go_wp2_with fail
      go_ret2
      refine⟨some ⟨w.heap.size,0,none⟩,i,N,by rw[errS,HZ.out];rfl,by rw[nms,HZ.out,Option.getD_some,List.length_map];exact HN.out,?_,HB.out⟩
      rw[nms,HZ.out,Option.getD_some]
      refine Or.inr ⟨_,0,N,rfl,by omega,by omega,by unfold maxLen;omega,(Array.getElem?_eq_some_iff.1 HR.out).1,by rw[a4z,List.length_map,Nat.mul_one,HN.out],?_⟩
      intro k v hk
      rw[strC,List.map_map,List.getElem?_map] at hk
      obtain⟨x,hx,rfl⟩:=Option.map_eq_some_iff.1 hk
      obtain⟨hkl,hx2⟩:=List.getElem?_eq_some_iff.1 hx
      rw[Nat.zero_add]
      refine a0c HR.out k _ ?_
      rw[HCE.out k hkl,hx2]
      exact congrArg some (congrArg Value.string (a1h x).symm)
theorem b1y(x:List Int)(r:List (List Int)):({ data := #[47] }:ByteArray)++⟨(Lib.join (((x::r).map strOfNums).map (·.data.toList)) [47]).toArray⟩=strOfNums (joinP (x::r)):=by
 have h:(({ data := #[47] }:ByteArray)++⟨(Lib.join (((x::r).map strOfNums).map (·.data.toList)) [47]).toArray⟩).data.toList=(strOfNums (joinP (x::r))).data.toList:=by
  rw[ByteArray.data_append,Array.toList_append,strOfNums_data,joinP,if_neg (by simp),List.map_cons,List.map_cons,Lib.join_cons]
  simp[joinL,Lib.joinTail,strOfNums_data,List.map_flatten,Function.comp_def]
 generalize ({ data := #[47] }:ByteArray)++⟨(Lib.join (((x::r).map strOfNums).map (·.data.toList)) [47]).toArray⟩=a at h
 generalize strOfNums (joinP (x::r))=b at h
 cases a;cases b
 simpa using h
theorem b9n(ns:List (List Int))(m:Nat)(h:∀x∈ns,x.length≤m):(Lib.join ((ns.map strOfNums).map (·.data.toList)) [47]).length≤ns.length * (m+1):=by
 cases ns with
 | nil=>simp[Lib.join_nil]
 | cons x r =>
  have h1:=congrArg ByteArray.size (b1y x r)
  rw[strOfNums_size,joinP,if_neg (by simp),ByteArray.size_append] at h1
  have h2:=b7z m h
  have h3:(⟨(Lib.join (((x::r).map strOfNums).map (·.data.toList)) [47]).toArray⟩:ByteArray).size=(Lib.join (((x::r).map strOfNums).map (·.data.toList)) [47]).length:=by
   rw[Lib.size_eq]
  omega
set_option maxHeartbeats 1600000 in
theorem b7j:JoinIs 134:=by
 intro p n c ns w hr hn hs
 have hl:ns.length=n:=by have h:=hr.cells;rw[a4z] at h;omega
 have hsl:strOfNums [47]={ data := #[47] }:=rfl
 have HSL:=ι hsl
 clear hsl
 by_cases h0:n=0
 ·subst h0
  have h1:ns=[]:=List.eq_nil_of_length_eq_zero hl
  subst h1
  have HJ:=ι (Tryz.strings_Join_none p c { data := #[47] } w)
  clear hr hl hs
  go_enter Tryz.func134,Tryz.ntmps134
  go_wp2_with (go_at_call 168;refine HJ.out.mono ?_;rintro e w1 ⟨rfl,hw1⟩;obtain rfl:w=w1:=hw1.symm)
  go_ret
  exact⟨by rw[joinP,if_pos rfl];rfl,Below.refl _ _⟩
 ·obtain⟨b,o,rfl,hnc,hcm,hb,_,hc⟩:=c0u hr (i:=0) (by omega)
  have hlen:=b9n ns 100000 hs
  have hl2:ns.length * (100000+1)≤1000 * (100000+1):=Nat.mul_le_mul_right _ (by omega)
  have HJ:=Tryz.strings_Join b o c (ns.map strOfNums) { data := #[47] } w (fun j x hx=>by
   rw[List.getElem?_map] at hx
   obtain⟨y,hy,rfl⟩:=Option.map_eq_some_iff.1 hx
   obtain⟨hjl,hy2⟩:=List.getElem?_eq_some_iff.1 hy
   rw[hc j (by omega),List.getD,hy];rfl) hb (by rw[List.length_map];omega) (by rw[List.length_map];omega) (by
    rw[show ({ data := #[47] }:ByteArray).data.toList=[47] from rfl];omega)
  rw[show ({ data := #[47] }:ByteArray).data.toList=[47] from rfl,List.length_map,hl] at HJ
  have hres:({ data := #[47] }:ByteArray)++⟨(Lib.join ((ns.map strOfNums).map (·.data.toList)) [47]).toArray⟩=strOfNums (joinP ns):=by
   cases ns with
   | nil=>simp at hl;omega
   | cons x r=>exact b1y x r
  have hjs:((⟨(Lib.join ((ns.map strOfNums).map (·.data.toList)) [47]).toArray⟩:ByteArray).size:Int)≤1000000000:=by
   rw[Lib.size_eq]
   show ((Lib.join ((ns.map strOfNums).map (·.data.toList)) [47]).length:Int)≤1000000000
   omega
  generalize (⟨(Lib.join ((ns.map strOfNums).map (·.data.toList)) [47]).toArray⟩:ByteArray)=j at HJ hres hjs
  have HX:=ι hres
  have HJ:=ι HJ
  clear hres hr hc hs hlen hl2 hl
  go_enter Tryz.func134,Tryz.ntmps134
  go_wp2_with (go_at_call 168;refine HJ.out.mono ?_;rintro e w1 ⟨rfl,hb1⟩)
  go_ret
  exact⟨by rw[← HX.out];rfl,hb1⟩
set_option maxHeartbeats 1600000 in
theorem b7w:ParentMx 95:=by
 intro s w hmx hs
 have HSP:=ι (c0n s w hmx hs)
 have hjs:∀l ns,splitL l=some ns→(∀n∈ns,isNm n=true)∧ns.length≤4:=fun l ns h=>⟨(a4s h).2.1,(a4s h).2.2.1⟩
 cases hsp:splitL (bys s) with
 | none =>
  have E1:Hid (errS (bys s)=9∧nms (bys s)=[]∧parL (bys s)=[]∧lastL (bys s)=[]∧errP (bys s)=9):=ι (by simp[errS,nms,parL,lastL,errP,hsp])
  clear hjs hsp
  go_enter Tryz.func95,Tryz.ntmps95
  go_wp2_with (go_at_call 55;refine HSP.out.mono ?_;rintro e w1 ⟨p,n,c,rfl,hn,hr,hb⟩;rw[E1.out.1];have HB:=ι hb;clear hb hn hr)
  go_ret3
  exact⟨by rw[E1.out.2.2.1,E1.out.2.2.2.1,E1.out.2.2.2.2];rfl,HB.out⟩
 | some ns =>
  cases ns with
  | nil =>
   have E1:Hid (errS (bys s)=0∧nms (bys s)=[]∧parL (bys s)=[]∧lastL (bys s)=[]∧errP (bys s)=1):=ι (by simp[errS,nms,parL,lastL,errP,hsp])
   clear hjs hsp
   go_enter Tryz.func95,Tryz.ntmps95
   go_wp2_with (go_at_call 55;refine HSP.out.mono ?_;rintro e w1 ⟨p,n,c,rfl,hn,hr,hb⟩;rw[E1.out.1];have HB:=ι hb;rw[E1.out.2.1] at hn;obtain rfl:n=0:=hn;clear hb hr)
   go_ret3
   exact⟨by rw[E1.out.2.2.1,E1.out.2.2.2.1,E1.out.2.2.2.2];rfl,HB.out⟩
  | cons x xs =>
   obtain⟨hnm,hl4⟩:=hjs _ _ hsp
   have E1:Hid (errS (bys s)=0∧nms (bys s)=x::xs∧parL (bys s)=joinP ((x::xs).take xs.length)∧lastL (bys s)=(x::xs).getD xs.length []∧errP (bys s)=0):=ι (by
    refine⟨by simp[errS,hsp],by simp[nms,hsp],?_,?_,by simp[errP,hsp]⟩
    ·rw[parL,hsp]
     simp only
     rw[List.dropLast_eq_take]
     rfl
    ·rw[lastL,hsp]
     simp only
     rw[List.getLastD_eq_getLast?,List.getLast?_eq_getElem?,List.getD]
     rfl)
   have HJ:=ι fun(a:Addr) c w' (hr:Rd w' 1 (.slice (some a) (xs.length+1) c) (xs.length+1) (strC (x::xs)))=>b7j (some a) xs.length c ((x::xs).take xs.length) w' (rd_pre hr xs.length (by omega)) (by simp at hl4;omega) (fun y hy=>by have:=(a8e (hnm y (List.mem_of_mem_take hy))).2;omega)
   have hk4:xs.length≤3:=by simp at hl4;omega
   clear hjs hsp hnm hl4
   have HGL:Hid ((x::xs).length=xs.length+1):=ι rfl
   generalize xs.length=k at *
   generalize x::xs=L at *
   have hki:(k:Int)≤3:=by omega
   have W1:Hid (IntKind.i64.wrap (k:Int)=(k:Int)):=ι (by
    simp[IntKind.wrap,IntKind.signed,IntKind.bits]
    omega)
   go_enter Tryz.func95,Tryz.ntmps95
   go_upto_region 7 with(go_at_call 55;refine HSP.out.mono ?_;rintro e w1 ⟨p,n,c,rfl,hn,hr,hb⟩;rw[E1.out.1];have HB:=ι hb;rw[E1.out.2.1] at hn hr;rw[HGL.out] at hn;subst hn;have HR:=ι hr;clear hb hr)
   obtain⟨b,off,rfl,hc1,hc2,hbl,hll,hcell⟩:=c0u HR.out (i:=k) (by omega)
   have HC:=ι fun w' (hw:Below w1.heap.size w1 w')=>(hw.cell (p:=⟨b,off+k,none⟩) hbl).trans (hcell k (by omega))
   have HJ2:=ι fun w' (hw:Below w1.heap.size w1 w')=>HJ.out ⟨b,off,none⟩ c w' (HR.out.later hw)
   clear hcell hll hbl hc2
   have hck:(k:Int)≤c:=by omega
   have hkk:(k:Int)<(k:Int)+1:=by omega
   have h0:=Below.refl w1.drew.heap.size w1.drew
   refine wp_region_held_drew (S:=ext w1.drew) (by kernel_rfl) (Below.refl _ _) (fun hH0 => ?_)
   refine tk 0 rfl ?_
   refine tk 1 rfl ?_
   refine tk 2 rfl ?_
   refine tk 4 rfl ?_
   refine tk 5 rfl ?_
   refine tk 6 rfl ?_
   refine tkv 7 rfl (dsk.a0o (by rfl) 9 _ Tryz.underlying9 rfl _ rfl b (off+k) rfl _ (fun w' hw=>HC.out w' (a0h hw))) ?_
   refine rd 3 rfl (fun K hK => ?_)
   go_simp
   refine(HJ2.out _ (a0h h0)).mono ?_
   rintro e v1 ⟨rfl,hb1⟩
   have h1:=a0a h0 hb1
   dsimp only
   refine hK.out _ _ ?_ (fun hHeld => ?_)
   ·exact h1
   clear hK K
   try simp only[Act.put,List.setIfInBounds_toArray,List.set_cons_zero,List.set_cons_succ]
   refine tk 8 rfl ?_
   refine tk 9 rfl ?_
   refine tk 10 rfl ?_
   refine wpAnyH_done (by kernel_rfl) ?_ _
   go_wp2_with fail
   go_ret3
   exact⟨by rw[E1.out.2.2.1,E1.out.2.2.2.1,E1.out.2.2.2.2];rfl,a0a HB.out (a0h h1)⟩
end pa
end Go.Proofs.YtjedjkjhodgidaaGreatDoor
