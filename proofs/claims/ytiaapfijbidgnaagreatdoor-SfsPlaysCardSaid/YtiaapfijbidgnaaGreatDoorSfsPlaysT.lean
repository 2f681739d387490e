/- What SfsPlays wants, part 20. -/
import Derived.Test.YtiaapfijbidgnaaGreatDoorSfsPlaysA
import Derived.Test.YtiaapfijbidgnaaGreatDoorSfsPlaysB
import Derived.Test.YtiaapfijbidgnaaGreatDoorSfsPlaysD
import Derived.Test.YtiaapfijbidgnaaGreatDoorSfsPlaysF
import Derived.Test.YtiaapfijbidgnaaGreatDoorSfsPlaysQ
import Derived.Test.YtiaapfijbidgnaaGreatDoorSfsPlaysS
import Derived.Laws.Cover1
set_option linter.unusedVariables false
set_option linter.unusedSimpArgs false
namespace Go.Proofs.YtiaapfijbidgnaaGreatDoor
namespace lk
set_option maxRecDepth 100000
open Go.ChangeShapes Go.WideShapes Go.ChangeAt Go.RowKit
open rows
open sec
open dsk (wf64 a0c)
open ly
open pa
def ltS(a b:ByteArray):Bool:=Op.bytesLess a.toList b.toList
theorem d0l(x:List UInt8):∀(y:List UInt8),Op.bytesLess x y=decide (x<y):=by
 induction x with
 | nil=>intro y;cases y<;>simp[Op.bytesLess]
 | cons a x ih =>
  intro y
  cases y with
  | nil=>simp[Op.bytesLess]
  | cons b y =>
   simp only[Op.bytesLess,ih y,List.cons_lt_cons_iff,Bool.decide_or,Bool.decide_and]
   rcases Decidable.em (a<b) with h1|h1<;>rcases Decidable.em (a=b) with h2|h2<;>simp[h1,h2]
theorem b5h(a b:ByteArray):ltS a b=decide (a.toList<b.toList):=d0l _ _
theorem a4b(a:ByteArray):ltS a a=false:=by
 rw[b5h,decide_eq_false_iff_not]
 exact List.lt_irrefl _
theorem a6g{a b c:ByteArray}(h:ltS a b=true)(k:ltS b c=true):ltS a c=true:=by
 rw[b5h,decide_eq_true_eq] at *
 exact List.lt_trans h k
theorem b4k{a b:ByteArray}(h:a.toList=b.toList):a=b:=by
 have h2:a.data.toList=b.data.toList:=by rw[← ByteArray.toList_eq,← ByteArray.toList_eq];exact h
 cases a;cases b
 simpa using h2
theorem b1a{a b:ByteArray}(h:ltS a b=false)(k:ltS b a=false):a=b:=by
 rw[b5h,decide_eq_false_iff_not] at *
 exact b4k (List.le_antisymm (List.not_lt.1 k) (List.not_lt.1 h))
theorem b7n{a b c:ByteArray}(h:ltS b a=false)(k:ltS b c=true):ltS a c=true:=by
 cases hab:ltS a b with
 | true=>exact a6g hab k
 | false =>
  have:=b1a hab h
  subst this
  exact k
theorem gt_is(a b:ByteArray):(!(Op.bytesLess a.toList b.toList || a.toList == b.toList))=ltS b a:=by
 show (!(ltS a b || a.toList == b.toList))=ltS b a
 cases h:ltS a b with
 | true =>
  cases h2:ltS b a with
  | true=>have:=a6g h h2;rw[a4b] at this;cases this
  | false=>rfl
 | false =>
  cases h2:ltS b a with
  | true =>
   have hne:(a.toList == b.toList)=false:=by
    rw[beq_eq_false_iff_ne]
    intro e
    have:=b4k e
    subst this
    rw[a4b] at h2
    cases h2
   rw[hne];rfl
  | false =>
   have:=b1a h h2
   subst this
   simp
def nmIn(ss:List (List Int))(d:Int)(k:Nat)(x:ByteArray):Prop:=∃j,j<k∧standB ss j=true∧(entAt ss (j:Int)).parent=d∧(entAt ss (j:Int)).name=x
def atB(ss:List (List Int))(d:Int)(j:Nat):Bool:=standB ss j && decide ((entAt ss (j:Int)).parent=d)
theorem nmIn_succ{ss:List (List Int)}{d:Int}{k:Nat}{x:ByteArray}:nmIn ss d (k+1) x↔nmIn ss d k x∨(atB ss d k=true∧(entAt ss (k:Int)).name=x):=by
 constructor
 ·rintro⟨j,hj,h1,h2,h3⟩
  by_cases e:j=k
  ·subst e
   exact Or.inr ⟨by rw[atB,h1,h2];simp,h3⟩
  ·exact Or.inl ⟨j,by omega,h1,h2,h3⟩
 ·rintro(⟨j,hj,h⟩|⟨h1,h2⟩)
  ·exact⟨j,by omega,h⟩
  ·rw[atB,Bool.and_eq_true,decide_eq_true_eq] at h1
   exact⟨k,by omega,h1.1,h1.2,h2⟩
def IsList(ss:List (List Int))(d:Int)(L:List ByteArray):Prop:=L.Pairwise (fun a b=>ltS a b=true)∧∀x,x∈L↔nmIn ss d 24 x
structure UpTo (ss:List (List Int)) (d:Int) (L:List ByteArray) (last:ByteArray):Prop where
 sorted:L.Pairwise (fun a b=>ltS a b=true)
 mem:∀x,x∈L↔nmIn ss d 24 x∧ltS last x=false
structure Least (ss:List (List Int)) (d:Int) (last:ByteArray) (k:Nat) (next:ByteArray) (some:Bool):Prop where
 yes:some=true→nmIn ss d k next∧ltS last next=true∧∀x,nmIn ss d k x→ltS last x=true→ltS x next=false
 no:some=false→∀x,nmIn ss d k x→ltS last x=false
theorem Least.zero(ss:List (List Int))(d:Int)(last next:ByteArray):Least ss d last 0 next false :=
 ⟨(fun h=>by cases h),(fun _ x ⟨j,hj,_⟩=>by omega)⟩
theorem Least.skip{ss:List (List Int)}{d:Int}{last next:ByteArray}{k:Nat}{some:Bool}(h:Least ss d last k next some)
  (hs:atB ss d k=false∨ltS last (entAt ss (k:Int)).name=false∨(some=true∧ltS (entAt ss (k:Int)).name next=false)):Least ss d last (k+1) next some:=by
 refine⟨fun hy => ?_,fun hn x hx => ?_⟩
 ·obtain⟨h1,h2,h3⟩:=h.yes hy
  refine⟨nmIn_succ.2 (Or.inl h1),h2,fun x hx hl => ?_⟩
  rcases nmIn_succ.1 hx with hx|⟨ha,rfl⟩
  ·exact h3 x hx hl
  ·rcases hs with hs|hs|⟨_,hs⟩
   ·rw[ha] at hs;cases hs
   ·rw[hl] at hs;cases hs
   ·exact hs
 ·rcases nmIn_succ.1 hx with hx|⟨ha,rfl⟩
  ·exact h.no hn x hx
  ·rcases hs with hs|hs|⟨hs,_⟩
   ·rw[ha] at hs;cases hs
   ·exact hs
   ·rw[hn] at hs;cases hs
theorem Least.take{ss:List (List Int)}{d:Int}{last next:ByteArray}{k:Nat}{some:Bool}(h:Least ss d last k next some)
  (ha:atB ss d k=true) (hl:ltS last (entAt ss (k:Int)).name=true) (hs:some=false∨ltS (entAt ss (k:Int)).name next=true):Least ss d last (k+1) (entAt ss (k:Int)).name true:=by
 refine⟨fun _=>⟨nmIn_succ.2 (Or.inr ⟨ha,rfl⟩),hl,fun x hx hlx => ?_⟩,fun h=>by cases h⟩
 rcases nmIn_succ.1 hx with hx|⟨_,rfl⟩
 ·cases hsm:some with
  | false=>have:=h.no hsm x hx;rw[hlx] at this;cases this
  | true =>
   rcases hs with hs|hs
   ·rw[hsm] at hs;cases hs
   ·have h3:=(h.yes hsm).2.2 x hx hlx
    cases hxn:ltS x (entAt ss (k:Int)).name with
    | false=>rfl
    | true=>have:=a6g hxn hs;rw[h3] at this;cases this
 ·exact a4b _
theorem UpTo.done{ss:List (List Int)}{d:Int}{L:List ByteArray}{last next:ByteArray}(h:UpTo ss d L last)(k:Least ss d last 24 next false):IsList ss d L :=
 ⟨h.sorted,fun x=>⟨fun hx=>((h.mem x).1 hx).1,fun hx=>(h.mem x).2 ⟨hx,k.no rfl x hx⟩⟩⟩
theorem UpTo.more{ss:List (List Int)}{d:Int}{L:List ByteArray}{last next:ByteArray}(h:UpTo ss d L last)(k:Least ss d last 24 next true):UpTo ss d (L++[next]) next:=by
 obtain⟨k1,k2,k3⟩:=k.yes rfl
 refine⟨?_,fun x => ?_⟩
 ·rw[List.pairwise_append]
  refine⟨h.sorted,List.pairwise_singleton _ _,fun x hx y hy => ?_⟩
  rw[List.mem_singleton.1 hy]
  exact b7n ((h.mem x).1 hx).2 k2
 ·rw[List.mem_append,List.mem_singleton]
  constructor
  ·rintro(hx|rfl)
   ·obtain⟨h1,h2⟩:=(h.mem x).1 hx
    refine⟨h1,?_⟩
    have h3:=b7n h2 k2
    cases hn:ltS next x with
    | false=>rfl
    | true=>have:=a6g h3 hn;rw[a4b] at this;cases this
   ·exact⟨k1,a4b _⟩
  ·rintro⟨h1,h2⟩
   cases hl:ltS last x with
   | false=>exact Or.inl ((h.mem x).2 ⟨h1,hl⟩)
   | true=>exact Or.inr (b1a (k3 x h1 hl) h2)
def msrS(ss:List (List Int)):Value→Nat
 | .string last=>cntU (fun j=>ltS last (entAt ss (j:Int)).name) 24
 | _=>0
theorem d0s{ss:List (List Int)}{d:Int}{last next:ByteArray}(k:Least ss d last 24 next true):msrS ss (.string next)<msrS ss (.string last):=by
 obtain⟨⟨j,hj,_,_,hn⟩,k2,_⟩:=k.yes rfl
 exact b7o (fun i _ h=>a6g k2 h) ⟨j,hj,by rw[hn];exact k2,by rw[hn];exact a4b _⟩
theorem c8k{ss:List (List Int)}(hs:Secs ss)(k:Nat)(hu:(entAt ss (k:Int)).used=true):1≤(entAt ss (k:Int)).name.size∧(entAt ss (k:Int)).name.size≤8:=by
 unfold entAt at hu ⊢
 split at hu
 ·rename_i hin
  rw[if_pos hin]
  rw[entOfV] at hu ⊢
  split at hu
  ·rename_i hb
   rw[if_pos hb]
   rw[entOfB,Bool.and_eq_true] at hb
   have hr:=hb.1
   rw[rightE,if_pos hu] at hr
   simp only[Bool.and_eq_true] at hr
   have hn:=hr.2
   rw[a4x] at hn
   have:=a7j hn
   rw[a1v] at this
   exact this
  ·cases hu
 ·cases hu
theorem c3i{ss:List (List Int)}(hs:Secs ss)(d:Int):UpTo ss d [] { data := #[] }:=by
 refine⟨List.Pairwise.nil,fun x=>⟨(fun h=>by cases h),?_⟩⟩
 rintro⟨⟨j,_,h1,_,rfl⟩,h2⟩
 rw[standB,Bool.and_eq_true] at h1
 have hf:=(c8k hs j h1.1).1
 generalize (entAt ss (j:Int)).name=nm at hf h2
 rw[b5h,decide_eq_false_iff_not] at h2
 have hne:nm.toList≠[]:=fun e=>by
  rw[ByteArray.toList_eq] at e
  have:nm.size=0:=by rw[Lib.size_eq,e];rfl
  omega
 cases hl:nm.toList with
 | nil=>exact absurd hl hne
 | cons a l =>
  rw[hl] at h2
  exact absurd (by rw[show ({ data := #[] }:ByteArray).toList=[] by rw[ByteArray.toList_eq]];exact List.nil_lt_cons _ _) h2
theorem a8k:Elem 83 9 1 16 (.string ByteArray.empty):=⟨Tryz.underlying83,by kernel_rfl,by decide,by decide,by decide⟩
def strV(L:List ByteArray):List Value:=L.map .string
set_option maxHeartbeats 3200000 in
set_option maxRecDepth 100000 in
theorem c7u(p:Option Addr)(n c:Nat)(ss:List (List Int))(w:World)(h:Rd w 32 (.slice p n c) n (cellsOf ss))(hs:Secs ss)(hn:n≤100000)(d:Int)(hd:wf64 d) :
  Calls Tryz.prog 76 #[.slice p n c,.int .i64 d] w fun e w'=>∃L q m k,IsList ss d L∧e = .returned (.slice q m k)∧m=L.length∧Rd w' 1 (.slice q m k) m (strV L)∧Below w.heap.size w w':=by
 have HE:=ι fun(k:Nat) (hk:k≤24) w' (hb:Below w.heap.size w w')=>a4q p n c ss w' (h.later hb) hs hn (k:Int) (a0h (by omega))
 have HT:=ι fun(k:Nat) (hk:k<24) w' (hb:Below w.heap.size w w')=>b0r p n c ss w' (h.later hb) hs hn k hk
 have HU:=ι (c3i hs d)
 obtain⟨d1,d2⟩:=rows.wf_i64 hd
 clear h hs hd
 go_enter Tryz.func76,Tryz.ntmps76
 go_wp2_with fail
 go_loopw [5,6,7,8,9,10] (fun ov lv _ _ _ _ wr=>∃(L:List ByteArray) (last:ByteArray) (q:Option Addr) (m k:Nat),ov = .slice q m k∧lv = .string last∧m=L.length∧Hid (m+msrS ss (.string last)≤24)∧Hid (UpTo ss d L last)∧Hid (Own wr w.heap.size 9 1 (.slice q m k) m (strV L))∧Hid (Below w.heap.size w wr)) (fun _ lv _ _ _ _ _=>msrS ss lv)
 case atStart=>exact⟨[],{ data := #[] },none,0,0,rfl,rfl,rfl,ι (by rw[Nat.zero_add];exact b8x _ _),HU,ι (a2n _ _ _ _),ι (Below.refl _ _)⟩
 case round =>
  obtain⟨L,last,q,m,k0,rfl,rfl,hm,HMS,HUP,HO,HB0⟩:=hrel
  have HML:=ι hm
  clear HU hm
  obtain⟨wo,hwo⟩:∃wo,wr=wo:=⟨_,rfl⟩
  rw[hwo] at HO HB0
  rw[hwo]
  clear hwo
  go_wp2_with fail
  go_loopw [7,8,9,10] (fun nv sv kv _ wr=>∃(k:Nat) (nx:ByteArray) (sm:Bool),k≤24∧kv = .int .i64 (k:Int)∧nv = .string nx∧sv = .bool sm∧Hid (Least ss d last k nx sm)∧Hid (Below wo.heap.size wo wr)) (fun _ _ kv _ _=>24-(intOf kv).toNat)
  case atStart=>exact⟨0,_,false,by omega,rfl,rfl,rfl,ι (Least.zero _ _ _ _),ι (Below.refl _ _)⟩
  case round =>
   obtain⟨k,nx,sm,hk,rfl,rfl,rfl,HLE,HB⟩:=hrel
   by_cases hlt:k<24
   ·have hlti:(k:Int)<24:=by omega
    have HBW:=ι (a0a HB0.out HB.out)
    have HEk:=ι (HE.out k (by omega) wr HBW.out)
    have HTk:=ι (HT.out k hlt)
    have HAT:Hid (atB ss d k=(standB ss k && decide ((entAt ss (k:Int)).parent=d))):=ι rfl
    have HSK:=ι fun hs=>HLE.out.skip hs
    have HTA:=ι fun ha hl hs=>HLE.out.take ha hl hs
    generalize atB ss d k=ab at HSK HTA HAT
    generalize standB ss k=st at HTk HAT
    generalize entAt ss (k:Int)=x at HEk HAT HSK HTA
    obtain⟨u,pa,nm,tg⟩:=x
    simp only at HAT HSK HTA
    cases st with
    | false =>
     have HL2:=ι (HSK.out (Or.inl (by rw[HAT.out];rfl)))
     clear HSK HTA HAT
     go_wp2_with (first|(go_at_call 72;refine HEk.out.mono ?_;rintro e w1 ⟨rfl,hb⟩;have B1:=ι hb;clear hb)|(go_at_call 142;refine(HTk.out _ (a0a HBW.out (a0b B1.out _))).mono ?_;rintro e w2 ⟨rfl,hb⟩;have B2:=ι (a0a HB.out (a0a (a0b B1.out _) hb));have hA:=(AtE.later (a1f w1 ⟨u,pa,nm,tg⟩) hb);have hc1:=a0c hA 1 _ rfl;have hc2:=a0c hA 2 _ rfl;clear hb hA))
     go_roundw
     case rel=>exact⟨k+1,nx,_,by omega,by go_num,rfl,rfl,HL2,B2⟩
     case measure=>simp[intOf];omega
    | true =>
     by_cases hp:pa=d
     ·subst hp
      have hab:ab=true:=by rw[HAT.out];simp
      cases hg:ltS last nm with
      | true =>
       have hb1:(!(Op.bytesLess nm.toList last.toList || nm.toList == last.toList))=true:=by rw[gt_is];exact hg
       cases sm with
       | false =>
        have HL2:=ι (HTA.out hab hg (Or.inl rfl))
        clear HSK HTA HAT
        go_wp2_with (first|(go_at_call 72;refine HEk.out.mono ?_;rintro e w1 ⟨rfl,hb⟩;have B1:=ι hb;clear hb)|(go_at_call 142;refine(HTk.out _ (a0a HBW.out (a0b B1.out _))).mono ?_;rintro e w2 ⟨rfl,hb⟩;have B2:=ι (a0a HB.out (a0a (a0b B1.out _) hb));have hA:=(AtE.later (a1f w1 ⟨u,pa,nm,tg⟩) hb);have hc1:=a0c hA 1 _ rfl;have hc2:=a0c hA 2 _ rfl;clear hb hA))
        go_roundw
        case rel=>exact⟨k+1,nm,true,by omega,by go_num,rfl,rfl,HL2,B2⟩
        case measure=>simp[intOf];omega
       | true =>
        cases hl:ltS nm nx with
        | true =>
         have hb3:Op.bytesLess nm.toList nx.toList=true:=hl
         have HL2:=ι (HTA.out hab hg (Or.inr hl))
         clear HSK HTA HAT
         go_wp2_with (first|(go_at_call 72;refine HEk.out.mono ?_;rintro e w1 ⟨rfl,hb⟩;have B1:=ι hb;clear hb)|(go_at_call 142;refine(HTk.out _ (a0a HBW.out (a0b B1.out _))).mono ?_;rintro e w2 ⟨rfl,hb⟩;have B2:=ι (a0a HB.out (a0a (a0b B1.out _) hb));have hA:=(AtE.later (a1f w1 ⟨u,pa,nm,tg⟩) hb);have hc1:=a0c hA 1 _ rfl;have hc2:=a0c hA 2 _ rfl;clear hb hA))
         go_roundw
         case rel=>exact⟨k+1,nm,true,by omega,by go_num,rfl,rfl,HL2,B2⟩
         case measure=>simp[intOf];omega
        | false =>
         have hb3:Op.bytesLess nm.toList nx.toList=false:=hl
         have HL2:=ι (HSK.out (Or.inr (Or.inr ⟨rfl,hl⟩)))
         clear HSK HTA HAT
         go_wp2_with (first|(go_at_call 72;refine HEk.out.mono ?_;rintro e w1 ⟨rfl,hb⟩;have B1:=ι hb;clear hb)|(go_at_call 142;refine(HTk.out _ (a0a HBW.out (a0b B1.out _))).mono ?_;rintro e w2 ⟨rfl,hb⟩;have B2:=ι (a0a HB.out (a0a (a0b B1.out _) hb));have hA:=(AtE.later (a1f w1 ⟨u,pa,nm,tg⟩) hb);have hc1:=a0c hA 1 _ rfl;have hc2:=a0c hA 2 _ rfl;clear hb hA))
         go_roundw
         case rel=>exact⟨k+1,nx,_,by omega,by go_num,rfl,rfl,HL2,B2⟩
         case measure=>simp[intOf];omega
      | false =>
       have HL2:=ι (HSK.out (Or.inr (Or.inl hg)))
       have hb1:(!(Op.bytesLess nm.toList last.toList || nm.toList == last.toList))=false:=by rw[gt_is];exact hg
       clear HSK HTA HAT
       go_wp2_with (first|(go_at_call 72;refine HEk.out.mono ?_;rintro e w1 ⟨rfl,hb⟩;have B1:=ι hb;clear hb)|(go_at_call 142;refine(HTk.out _ (a0a HBW.out (a0b B1.out _))).mono ?_;rintro e w2 ⟨rfl,hb⟩;have B2:=ι (a0a HB.out (a0a (a0b B1.out _) hb));have hA:=(AtE.later (a1f w1 ⟨u,pa,nm,tg⟩) hb);have hc1:=a0c hA 1 _ rfl;have hc2:=a0c hA 2 _ rfl;clear hb hA))
       go_roundw
       case rel=>exact⟨k+1,nx,_,by omega,by go_num,rfl,rfl,HL2,B2⟩
       case measure=>simp[intOf];omega
     ·have hpb:(pa == d)=false:=beq_eq_false_iff_ne.2 hp
      have HL2:=ι (HSK.out (Or.inl (by rw[HAT.out,decide_eq_false hp];rfl)))
      clear HSK HTA HAT
      go_wp2_with (first|(go_at_call 72;refine HEk.out.mono ?_;rintro e w1 ⟨rfl,hb⟩;have B1:=ι hb;clear hb)|(go_at_call 142;refine(HTk.out _ (a0a HBW.out (a0b B1.out _))).mono ?_;rintro e w2 ⟨rfl,hb⟩;have B2:=ι (a0a HB.out (a0a (a0b B1.out _) hb));have hA:=(AtE.later (a1f w1 ⟨u,pa,nm,tg⟩) hb);have hc1:=a0c hA 1 _ rfl;have hc2:=a0c hA 2 _ rfl;clear hb hA))
      go_roundw
      case rel=>exact⟨k+1,nx,_,by omega,by go_num,rfl,rfl,HL2,B2⟩
      case measure=>simp[intOf];omega
   ·have hge:(24:Int)≤k:=by omega
    have HL24:Hid (Least ss d last 24 nx sm):=ι (by
      have e:k=24:=by omega
      have h:=HLE.out
      rw[e] at h
      exact h)
    obtain⟨wi,hwi⟩:∃wi,wr=wi:=⟨_,rfl⟩
    rw[hwi] at HB
    rw[hwi]
    clear hwi HLE
    cases sm with
    | false =>
     have HIS:=ι (HUP.out.done HL24.out)
     go_wp2_with fail
     go_ret
     exact⟨L,q,m,k0,HIS.out,rfl,HML.out,(HO.out.rd).later HB.out,a0a HB0.out HB.out⟩
    | true =>
     have HUM:=ι (HUP.out.more HL24.out)
     have HLS:=ι (d0s HL24.out)
     have HOW:=ι (show Own wi w.heap.size 9 1 (.slice q m k0) m (strV L) from dsk.a0o HO.out HB.out)
     go_wp2_with (at_builtin;refine a5s a8k rfl (.tmp 48) (.tmp 50) rfl w.heap.size _ m _ rfl (HOW.out.alloc _) _ 1 [.string nx] rfl (b1g _ _ 1 #[.string nx] rfl) (by simp[Value.oneCell']) (by have:=HMS.out;omega) (by have:=(a0a HB0.out HB.out).size;simp;omega) ?_;intro pa ca wa ho hb;have HO2:=ι ho;have HBa:=ι ((a0b (a0a HB0.out HB.out) _).trans hb);clear ho hb)
     go_roundw
     case rel=>exact⟨L++[nx],nx,pa,m+1,ca,rfl,rfl,by rw[List.length_append,HML.out];rfl,ι (by have:=HMS.out;have:=HLS.out;omega),HUM,ι (by have h:=HO2.out;simpa [strV] using h),HBa⟩
     case measure=>exact HLS.out
end lk
namespace fs
set_option maxRecDepth 100000
open Go.ChangeShapes Go.WideShapes Go.ChangeAt Go.RowKit
open rows
open sec
open ly
open pa
open lk
structure Spot where
 dir:Int
 name:ByteArray
 k:Int
 is:Bool
def spot0:Spot:=⟨0,ByteArray.empty,0,false⟩
abbrev Spot.c(x:Spot):Array Value := #[.int .i64 x.dir,.string x.name,.int .i64 x.k,.bool x.is]
abbrev aggS(x:Spot):Value := .agg x.c
theorem b2y{ss:List (List Int)}(hs:Secs ss):∀(ns:List (List Int)) (n:Int),0≤n→n≤255→0≤(lookG ss n ns).1∧(lookG ss n ns).1≤255
 | [],n,h0,h1=>⟨h0,h1⟩
 | x::r,n,h0,h1=>by
  rw[lookG]
  split
  ·split
   ·rename_i k _
    obtain⟨_,_,h2,h3⟩:=a3x hs (k:Int)
    exact b2y hs r _ h2 h3
   ·exact⟨Int.le_refl _,by decide⟩
  ·exact⟨Int.le_refl _,by decide⟩
theorem a5a{ss:List (List Int)}(hs:Secs ss)(s:List Int):0≤(lookV ss s).1∧(lookV ss s).1≤255:=by
 unfold lookV
 split
 ·exact⟨Int.le_refl _,by decide⟩
 ·exact b2y hs _ 0 (Int.le_refl _) (by decide)
theorem c0t(s:List Int):(parL s).length≤36:=by
 unfold parL
 split
 ·rename_i x xs h
  obtain⟨_,h2,h3,_⟩:=a1h h
  have hm:∀y∈(x::xs).dropLast,y.length≤8:=fun y hy=>(a7j (h2 y (List.dropLast_subset _ hy))).2
  have hl:(x::xs).dropLast.length≤3:=by rw[List.length_dropLast];omega
  unfold joinP
  split
  ·simp
  ·have:=b1c 8 hm
   have h4:(x::xs).dropLast.length * (8+1)≤3 * 9:=Nat.mul_le_mul_right _ hl
   omega
 ·simp
def placeV(ss:List (List Int))(s:ByteArray):Spot×Int :=
 if errP (bys s)≠0 then (spot0,errP (bys s))
 else if (lookV ss (bys (strOfNums (parL (bys s))))).2≠0 then (spot0,(lookV ss (bys (strOfNums (parL (bys s))))).2)
 else if (inoAt ss (lookV ss (bys (strOfNums (parL (bys s))))).1).kind≠2 then (spot0,6)
 else (⟨(lookV ss (bys (strOfNums (parL (bys s))))).1,strOfNums (lastL (bys s)),(((findO ss (lookV ss (bys (strOfNums (parL (bys s))))).1 (strOfNums (lastL (bys s)))).getD 0:Nat):Int),(findO ss (lookV ss (bys (strOfNums (parL (bys s))))).1 (strOfNums (lastL (bys s)))).isSome⟩,0)
theorem b5z:(Tryz.prog.info? 111).map (·.size)=some 4:=by kernel_rfl
def AtS(w:World)(g:Nat)(x:Spot):Prop:=w.heap[g]? = some (.cells x.c 111)
theorem AtS.later{w w':World}{g:Nat}{x:Spot}(h:AtS w g x)(k:Below w.heap.size w w'):AtS w' g x:=(k.block g (Array.getElem?_eq_some_iff.1 h).1).trans h
theorem a1d{ops:Array Oper}{rest:List Oper}{o:Oper}{a:Act}{w:World}{Q:Exit→Act→World→Prop}(hgd:o.guard=none)(p y:Operand)(ho:o.op = .store 111 p y)(hd:o.dst=none)
  (g:Nat) (x old:Spot) (hp:a.eval p = .pointer (some ⟨g,0,none⟩)) (hy:a.eval y=aggS x) (hg:AtS w g old)
  (h:∀w',AtS w' g x→Below g w w'→wpList Tryz.prog ops Q rest a w'):wpList Tryz.prog ops Q (o::rest) a w:=by
 refine wpList_store_row hgd 111 p y ho g x.c hp hy 111 _ hg (by rw[b5z];rfl) rfl (by simp[Spot.c,Value.oneCell']) ?_
 rw[hd]
 exact h _ (setRow_heap w g _ _ _ _ hg) ((Below.refl g w).trans ⟨rfl,rfl,rfl,by simp[World.setRow],fun k hk=>setRow_other w g k _ (by omega)⟩)
theorem a7x{fn:Func}{p q:Tmp}{R:Ending→World→Prop}{a:Act}{w:World}(h:fn.results = #[.cell p 111,.tmp q])(g:Nat)(x:Spot)(v:Value)(hp:a.tmps.getD p undef = .pointer (some ⟨g,0,none⟩))(hq:a.tmps.getD q undef=v)(hg:AtS w g x)
  (hd:a.defers=[]) (hR:R (.returned (.tuple #[aggS x,v])) w):bodyPost Tryz.prog fn R .ret a w:=by
 refine bodyPost_ret (v := .tuple #[aggS x,v]) ?_ hd hR
 have hp':a.tmps[p]?.getD undef = .pointer (some ⟨g,0,none⟩):=by simpa using hp
 have hq':a.tmps[q]?.getD undef=v:=by simpa using hq
 have hl:=run_loadVar_row (P:=Tryz.prog) w g _ 111 _ _ _ hg Tryz.underlying111 rfl (by rw[b5z];rfl)
 simp[results,h,hp',hq',asAddr,hl]
set_option maxHeartbeats 1600000 in
theorem a6s(p:Option Addr)(n c:Nat)(ss:List (List Int))(w:World)(h:Rd w 32 (.slice p n c) n (cellsOf ss))(hs:Secs ss)(hn:n≤100000)(s:ByteArray)(hsz:s.size≤100000) :
  Calls Tryz.prog 62 #[.slice p n c,.string s] w (Rt w (.tuple #[aggS (placeV ss s).1,.int .i64 (placeV ss s).2])):=by
 have HP:=ι fun w'=>a8j s w' hsz
 have HL:=ι fun w' (hb:Below w.heap.size w w')=>a7g p n c ss w' (h.later hb) hs hn (strOfNums (parL (bys s))) (by rw[strOfNums_size];have:=c0t (bys s);omega)
 obtain⟨hz0,hz1⟩:=a5a hs (bys (strOfNums (parL (bys s))))
 have HI:=ι fun w' (hb:Below w.heap.size w w')=>a5o p n c ss w' (h.later hb) hs hn (lookV ss (bys (strOfNums (parL (bys s))))).1 (a0h (by omega))
 have HF:=ι fun w' (hb:Below w.heap.size w w')=>b6n p n c ss w' (h.later hb) hs hn (lookV ss (bys (strOfNums (parL (bys s))))).1 (a0h (by omega)) (strOfNums (lastL (bys s)))
 have H4:=a1m hs (lookV ss (bys (strOfNums (parL (bys s))))).1
 obtain⟨V,HV⟩:∃V,placeV ss s=V:=⟨_,rfl⟩
 rw[HV]
 unfold placeV at HV
 unfold lookT at HL
 generalize lookV ss (bys (strOfNums (parL (bys s))))=lv at *
 obtain⟨z,e2⟩:=lv
 simp only at HL HI HF H4 HV hz0 hz1
 have hf1:=fieldI0 _ H4
 obtain⟨kd,hkd⟩:∃kd,(inoAt ss z).kind=kd:=⟨_,rfl⟩
 rw[hkd] at hf1 HV
 generalize aggI (inoAt ss z)=yv at HI hf1
 generalize errP (bys s)=e1 at *
 generalize strOfNums (lastL (bys s))=nm at *
 generalize strOfNums (parL (bys s))=up at *
 unfold optV at HF
 generalize (((findO ss z nm).getD 0:Nat):Int)=kz at *
 generalize (findO ss z nm).isSome=fb at *
 obtain⟨W1,hW1⟩:∃W1,w.alloc (.cells #[.int .i64 0,.string { data := #[] },.int .i64 0,.bool false] 111)=W1:=⟨_,rfl⟩
 have A1:Hid (AtS W1 w.heap.size spot0):=ι (by rw[← hW1];exact heap_alloc_new _ _)
 have B1:Hid (Below w.heap.size w W1):=ι (by rw[← hW1];exact a0b (Below.refl _ _) _)
 clear h hs hn hsz H4 hkd hz0 hz1
 by_cases he1:e1=0
 ·subst he1
  rw[if_neg (by simp)] at HV
  by_cases he2:e2=0
  ·subst he2
   rw[if_neg (by simp)] at HV
   by_cases hk:kd=2
   ·subst hk
    rw[if_neg (by simp)] at HV
    subst HV
    go_enter Tryz.func62,Tryz.ntmps62
    go_upto_region 1 with fail
    clear hW1
    go_wp2_with (first
   | (go_at_call 71;refine(HP.out _).mono ?_;rintro e w2 ⟨rfl,hb⟩;have B2:=ι (a0a B1.out hb);have A2:=ι (A1.out.later hb);clear hb)
   | (go_at_call 82;refine(HL.out _ B2.out).mono ?_;rintro e w3 ⟨rfl,hb⟩;have B3:=ι (a0a B2.out hb);have A3:=ι (A2.out.later hb);clear hb)
   | (go_at_call 73;refine(HI.out _ B3.out).mono ?_;rintro e w4 ⟨rfl,hb⟩;have B4:=ι (a0a B3.out hb);have A4:=ι (A3.out.later hb);clear hb)
   | (go_at_call 130;refine(HF.out _ B4.out).mono ?_;rintro e w5 ⟨rfl,hb⟩;have B5:=ι (a0a B4.out hb);have A5:=ι (A4.out.later hb);clear hb)
   | (refine a1d rfl (.tmp 4) (.tmp 50) rfl rfl w.heap.size ⟨z,nm,kz,fb⟩ spot0 rfl rfl A5.out ?_;intro w6 hA hB;have A6:=ι hA;have B6:=ι (B5.out.trans hB);clear hA hB))
    exact a7x rfl w.heap.size ⟨z,nm,kz,fb⟩ (.int .i64 0) rfl rfl A6.out rfl ⟨rfl,B6.out⟩
   ·rw[if_pos hk] at HV
    subst HV
    have hne:(kd != 2)=true:=by simpa using hk
    go_enter Tryz.func62,Tryz.ntmps62
    go_upto_region 1 with fail
    clear hW1
    go_wp2_with (first
   | (go_at_call 71;refine(HP.out _).mono ?_;rintro e w2 ⟨rfl,hb⟩;have B2:=ι (a0a B1.out hb);have A2:=ι (A1.out.later hb);clear hb)
   | (go_at_call 82;refine(HL.out _ B2.out).mono ?_;rintro e w3 ⟨rfl,hb⟩;have B3:=ι (a0a B2.out hb);have A3:=ι (A2.out.later hb);clear hb)
   | (go_at_call 73;refine(HI.out _ B3.out).mono ?_;rintro e w4 ⟨rfl,hb⟩;have B4:=ι (a0a B3.out hb);have A4:=ι (A3.out.later hb);clear hb)
   | (go_at_call 130;refine(HF.out _ B4.out).mono ?_;rintro e w5 ⟨rfl,hb⟩;have B5:=ι (a0a B4.out hb);have A5:=ι (A4.out.later hb);clear hb)
   | (refine a1d rfl (.tmp 4) (.tmp 38) rfl rfl w.heap.size spot0 spot0 rfl rfl A4.out ?_;intro w6 hA hB;have A6:=ι hA;have B6:=ι (B4.out.trans hB);clear hA hB))
    exact a7x rfl w.heap.size spot0 (.int .i64 6) rfl rfl A6.out rfl ⟨rfl,B6.out⟩
  ·rw[if_pos he2] at HV
   subst HV
   have hne:(e2 != 0)=true:=by simpa using he2
   go_enter Tryz.func62,Tryz.ntmps62
   go_upto_region 1 with fail
   clear hW1
   go_wp2_with (first
   | (go_at_call 71;refine(HP.out _).mono ?_;rintro e w2 ⟨rfl,hb⟩;have B2:=ι (a0a B1.out hb);have A2:=ι (A1.out.later hb);clear hb)
   | (go_at_call 82;refine(HL.out _ B2.out).mono ?_;rintro e w3 ⟨rfl,hb⟩;have B3:=ι (a0a B2.out hb);have A3:=ι (A2.out.later hb);clear hb)
   | (go_at_call 73;refine(HI.out _ B3.out).mono ?_;rintro e w4 ⟨rfl,hb⟩;have B4:=ι (a0a B3.out hb);have A4:=ι (A3.out.later hb);clear hb)
   | (go_at_call 130;refine(HF.out _ B4.out).mono ?_;rintro e w5 ⟨rfl,hb⟩;have B5:=ι (a0a B4.out hb);have A5:=ι (A4.out.later hb);clear hb)
   | (refine a1d rfl (.tmp 4) (.tmp 31) rfl rfl w.heap.size spot0 spot0 rfl rfl A3.out ?_;intro w6 hA hB;have A6:=ι hA;have B6:=ι (B3.out.trans hB);clear hA hB))
   exact a7x rfl w.heap.size spot0 (.int .i64 e2) rfl rfl A6.out rfl ⟨rfl,B6.out⟩
 ·rw[if_pos he1] at HV
  subst HV
  have hne:(e1 != 0)=true:=by simpa using he1
  go_enter Tryz.func62,Tryz.ntmps62
  go_upto_region 1 with fail
  clear hW1
  go_wp2_with (first
   | (go_at_call 71;refine(HP.out _).mono ?_;rintro e w2 ⟨rfl,hb⟩;have B2:=ι (a0a B1.out hb);have A2:=ι (A1.out.later hb);clear hb)
   | (go_at_call 82;refine(HL.out _ B2.out).mono ?_;rintro e w3 ⟨rfl,hb⟩;have B3:=ι (a0a B2.out hb);have A3:=ι (A2.out.later hb);clear hb)
   | (go_at_call 73;refine(HI.out _ B3.out).mono ?_;rintro e w4 ⟨rfl,hb⟩;have B4:=ι (a0a B3.out hb);have A4:=ι (A3.out.later hb);clear hb)
   | (go_at_call 130;refine(HF.out _ B4.out).mono ?_;rintro e w5 ⟨rfl,hb⟩;have B5:=ι (a0a B4.out hb);have A5:=ι (A4.out.later hb);clear hb)
   | (refine a1d rfl (.tmp 4) (.tmp 21) rfl rfl w.heap.size spot0 spot0 rfl rfl A2.out ?_;intro w6 hA hB;have A6:=ι hA;have B6:=ι (B2.out.trans hB);clear hA hB))
  exact a7x rfl w.heap.size spot0 (.int .i64 e1) rfl rfl A6.out rfl ⟨rfl,B6.out⟩
theorem a5l{fn:Func}{q p r:Tmp}{R:Ending→World→Prop}{a:Act}{w:World}(h:fn.results = #[.tmp q,.cell p 119,.tmp r])(g:Nat)(x:Ino)(u v:Value)(hu:a.tmps.getD q undef=u)(hp:a.tmps.getD p undef = .pointer (some ⟨g,0,none⟩))(hv:a.tmps.getD r undef=v)(hx:x.b.length=4)(hg:AtI w g x)
  (hd:a.defers=[]) (hR:R (.returned (.tuple #[u,aggI x,v])) w):bodyPost Tryz.prog fn R .ret a w:=by
 refine bodyPost_ret (v := .tuple #[u,aggI x,v]) ?_ hd hR
 have hp':a.tmps[p]?.getD undef = .pointer (some ⟨g,0,none⟩):=by simpa using hp
 have hu':a.tmps[q]?.getD undef=u:=by simpa using hu
 have hv':a.tmps[r]?.getD undef=v:=by simpa using hv
 have hl:=run_loadVar_row (P:=Tryz.prog) w g _ 119 _ _ _ hg a8q rfl (by rw[a5f];simp[a3w hx])
 simp[results,h,hp',hu',hv',asAddr,hl]
theorem a9j{w:World}{ops:Array Oper}{o:Oper}{a:Act}{K:Act→World→Prop}{Q:Exit→Act→World→Prop}{F:Prop}(hw:Region.wanted o (yielded ops a.tmps)=true)(p y:Operand)(ho:o.op = .store 119 p y)
  (g:Nat) (hp:a.eval p = .pointer (some ⟨g,0,none⟩)) (x:Ino) (hy:a.eval y=aggI x) (hx:x.b.length=4) (old:Ino) (hold:old.b.length=4) (hg:AtI w g old)
  (h:∀w',AtI w' g x→dsk.Touch (fun k=>k=g) w w'→K (a.put o.dst undef) w'):if Region.wanted o (yielded ops a.tmps)=true then Oper.wp Tryz.prog o a w K Q else F:=by
 rw[if_pos hw]
 exact wp_store_row 119 p y ho g x.c.toArray hp hy 119 _ hg (by rw[a5f];simp[a3w hx]) (by simp[a3w hx,a3w hold]) (by rw[List.all_toArray];exact c0h x)
  (h _ (setRow_heap w g _ _ _ _ hg) (dsk.a3u w g _))
def fileV(ss:List (List Int))(s:ByteArray):Int×Ino×Int :=
 if (lookV ss (bys s)).2≠0 then (0,ino0,(lookV ss (bys s)).2)
 else if (inoAt ss (lookV ss (bys s)).1).kind≠1 then (0,ino0,6)
 else ((lookV ss (bys s)).1,inoAt ss (lookV ss (bys s)).1,0)
def fileT(x:Int×Ino×Int):Value := .tuple #[.int .i64 x.1,aggI x.2.1,.int .i64 x.2.2]
set_option maxRecDepth 100000 in
set_option maxHeartbeats 1600000 in
theorem a7i(p:Option Addr)(n c:Nat)(ss:List (List Int))(w:World)(h:Rd w 32 (.slice p n c) n (cellsOf ss))(hs:Secs ss)(hn:n≤100000)(s:ByteArray)(hsz:s.size≤100000) :
  Calls Tryz.prog 68 #[.slice p n c,.string s] w (Rt w (fileT (fileV ss s))):=by
 have HL:=ι fun w' (hb:Below w.heap.size w w')=>a7g p n c ss w' (h.later hb) hs hn s hsz
 obtain⟨hz0,hz1⟩:=a5a hs (bys s)
 have HI:=ι fun w' (hb:Below w.heap.size w w')=>a5o p n c ss w' (h.later hb) hs hn (lookV ss (bys s)).1 (a0h (by omega))
 have H4:=ι (a1m hs (lookV ss (bys s)).1)
 obtain⟨V,HV⟩:∃V,fileV ss s=V:=⟨_,rfl⟩
 rw[HV]
 unfold fileV at HV
 unfold lookT at HL
 generalize lookV ss (bys s)=lv at *
 obtain⟨z,e2⟩:=lv
 simp only at HL HI H4 HV hz0 hz1
 generalize inoAt ss z=y at *
 obtain⟨kd,sz,bl⟩:=y
 simp only at HV
 obtain⟨W1,hW1⟩:∃W1,w.alloc (.cells #[.int .i64 0,.int .i64 0,.int .i64 0,.int .i64 0,.int .i64 0,.int .i64 0] 119)=W1:=⟨_,rfl⟩
 have A1:Hid (AtI W1 w.heap.size ino0):=ι (by rw[← hW1];exact heap_alloc_new _ _)
 have B1:Hid (Below w.heap.size w W1):=ι (by rw[← hW1];exact a0b (Below.refl _ _) _)
 clear h hs hn hsz hz0 hz1
 by_cases he2:e2=0
 ·subst he2
  rw[if_neg (by simp)] at HV
  by_cases hk:kd=1
  ·subst hk
   rw[if_neg (by simp)] at HV
   subst HV
   go_enter Tryz.func68,Tryz.ntmps68
   go_upto_region 1 with fail
   clear hW1
   go_upto_region 5 with(first
    | (go_at_call 82;refine(HL.out _ B1.out).mono ?_;rintro e w2 ⟨rfl,hb⟩;have B2:=ι (a0a B1.out hb);have A2:=ι (A1.out.later hb);clear hb)
    | (go_at_call 73;refine(HI.out _ B2.out).mono ?_;rintro e w3 ⟨rfl,hb⟩;have B3:=ι (a0a B2.out hb);have A3:=ι (A2.out.later hb);clear hb)
    | (refine a0f rfl (.tmp 9) (.tmp 22) rfl rfl w3.heap.size ⟨1,sz,bl⟩ ino0 rfl rfl H4.out rfl (a0r w3) ?_;intro w4 hA hB _;have hb:=(a0b (Below.refl _ w3) _).trans hB;have B4:=ι (a0a B3.out hb);have A4:=ι (A3.out.later hb);have X4:=ι hA;clear hA hB hb))
   have hc0:=X4.out.cell0
   simp only at hc0
   go_upto_region 7 with fail
   have hgb:w3.heap.size≠w.heap.size:=by
    have h1:=A3.out
    unfold AtI at h1
    have:=(Array.getElem?_eq_some_iff.1 h1).1
    omega
   have h0:=dsk.Touch.refl (fun k=>k=w.heap.size) w4.drew
   have HX:=ι fun w' (hw:dsk.Touch (fun k=>k=w.heap.size) w4.drew w')=>show AtI w' w3.heap.size ⟨1,sz,bl⟩ from(hw.block _ (Array.getElem?_eq_some_iff.1 X4.out).1 hgb).trans X4.out
   have A4d:Hid (AtI w4.drew w.heap.size ino0):=A4
   refine wp_region_held_drew (S:=dsk.Touch (fun k=>k=w.heap.size) w4.drew) (by kernel_rfl) h0 (fun hH0 => ?_)
   refine tk 0 rfl ?_
   refine tkv 1 rfl (d2c (by rfl) (.tmp 9) rfl w3.heap.size rfl ⟨1,sz,bl⟩ H4.out (fun w' hw=>HX.out w' hw)) ?_
   refine tk 2 rfl ?_
   refine rd 3 rfl (fun K hK => ?_)
   refine a9j (by rfl) (.tmp 5) (.tmp 28) rfl w.heap.size rfl ⟨1,sz,bl⟩ rfl H4.out ino0 rfl A4d.out ?_
   intro v1 hA1 hT1
   have AF:=ι hA1
   have h1:=hT1
   dsimp only
   refine hK.out _ _ ?_ (fun hHeld => ?_)
   ·exact h1
   clear hK K
   try simp only[Act.put,List.setIfInBounds_toArray,List.set_cons_zero,List.set_cons_succ]
   refine tk 4 rfl ?_
   refine wpAnyH_done (by kernel_rfl) ?_ _
   go_wp2_with fail
   exact a5l rfl w.heap.size ⟨1,sz,bl⟩ (.int .i64 z) (.int .i64 0) rfl rfl rfl H4.out AF.out rfl ⟨rfl,B4.out.trans ((Below.refl w.heap.size w4).drew.trans (dsk.Touch.below h1 (by have:=B4.out.size;exact this) (fun i hi=>by omega)))⟩
  ·rw[if_pos hk] at HV
   subst HV
   have hne:(kd != 1)=true:=by simpa using hk
   go_enter Tryz.func68,Tryz.ntmps68
   go_upto_region 1 with fail
   clear hW1
   go_upto_region 5 with(first
    | (go_at_call 82;refine(HL.out _ B1.out).mono ?_;rintro e w2 ⟨rfl,hb⟩;have B2:=ι (a0a B1.out hb);have A2:=ι (A1.out.later hb);clear hb)
    | (go_at_call 73;refine(HI.out _ B2.out).mono ?_;rintro e w3 ⟨rfl,hb⟩;have B3:=ι (a0a B2.out hb);have A3:=ι (A2.out.later hb);clear hb)
    | (refine a0f rfl (.tmp 9) (.tmp 22) rfl rfl w3.heap.size ⟨kd,sz,bl⟩ ino0 rfl rfl H4.out rfl (a0r w3) ?_;intro w4 hA hB _;have hb:=(a0b (Below.refl _ w3) _).trans hB;have B4:=ι (a0a B3.out hb);have A4:=ι (A3.out.later hb);have X4:=ι hA;clear hA hB hb))
   have hc0:=X4.out.cell0
   simp only at hc0
   go_wp2_with (refine a0f rfl (.tmp 5) (.tmp 26) rfl rfl w.heap.size ino0 ino0 rfl rfl rfl rfl A4.out ?_;intro w5 hA hB _;have A5:=ι hA;have B5:=ι (B4.out.trans hB);clear hA hB)
   exact a5l rfl w.heap.size ino0 (.int .i64 0) (.int .i64 6) rfl rfl rfl rfl A5.out rfl ⟨rfl,B5.out⟩
 ·rw[if_pos he2] at HV
  subst HV
  have hne:(e2 != 0)=true:=by simpa using he2
  go_enter Tryz.func68,Tryz.ntmps68
  go_upto_region 1 with fail
  clear hW1
  go_wp2_with (first
   | (go_at_call 82;refine(HL.out _ B1.out).mono ?_;rintro e w2 ⟨rfl,hb⟩;have B2:=ι (a0a B1.out hb);have A2:=ι (A1.out.later hb);clear hb)
   | (refine a0f rfl (.tmp 5) (.tmp 18) rfl rfl w.heap.size ino0 ino0 rfl rfl rfl rfl A2.out ?_;intro w5 hA hB _;have A5:=ι hA;have B5:=ι (B2.out.trans hB);clear hA hB))
  exact a5l rfl w.heap.size ino0 (.int .i64 0) (.int .i64 e2) rfl rfl rfl rfl A5.out rfl ⟨rfl,B5.out⟩
end fs
namespace fs
set_option maxRecDepth 100000
open Go.ChangeShapes Go.WideShapes Go.ChangeAt Go.RowKit
open rows
open sec
open ly
open pa
open lk
def byteAt(ss:List (List Int))(x:Ino)(i:Nat):Int:=(ss.getD (40+(x.b.getD (i / 32) 0).toNat) zero32).getD (i % 32) 0
def readL(ss:List (List Int))(x:Ino):List Int:=(List.range x.size.toNat).map (byteAt ss x)
def readV(ss:List (List Int))(s:ByteArray):List Int×Int:=if (fileV ss s).2.2≠0 then ([],(fileV ss s).2.2) else (readL ss (fileV ss s).2.1,0)
theorem a5k{ss:List (List Int)}(hs:Secs ss)(z:Int)(h:(inoAt ss z).kind=1):0≤(inoAt ss z).size∧(inoAt ss z).size≤128∧∀i:Nat,(i:Int)<(inoAt ss z).size→1≤(inoAt ss z).b.getD (i / 32) 0∧(inoAt ss z).b.getD (i / 32) 0≤24:=by
 have hk0:ino0.kind≠1:=by decide
 unfold inoAt at h ⊢
 split
 ·rename_i hin
  rw[if_pos hin] at h
  rw[inoOfV] at h ⊢
  split
  ·rename_i hb
   rw[if_pos hb] at h
   rw[inoOfB,Bool.and_eq_true] at hb
   have hr:=hb.1
   rw[a3j h,Bool.and_eq_true,Bool.and_eq_true,decide_eq_true_eq,decide_eq_true_eq] at hr
   refine⟨hr.1.1,hr.1.2,fun i hi => ?_⟩
   have hn:i / 32<need (inoOf (secAt ss (1+z))).size.toNat:=by unfold need;omega
   have h4:=a5i (z:=(inoOf (secAt ss (1+z))).size.toNat) (by omega)
   have hbk:=b8h hr.2 (i / 32) (by omega)
   rw[a6h hn,Bool.and_eq_true,Bool.and_eq_true,decide_eq_true_eq,decide_eq_true_eq] at hbk
   exact hbk.1
  ·rename_i hb
   rw[if_neg hb] at h
   exact absurd h hk0
 ·rename_i hin
  rw[if_neg hin] at h
  exact absurd h hk0
theorem b9j{ss:List (List Int)}(hs:Secs ss)(s:ByteArray)(h:(fileV ss s).2.2=0):∃z,(fileV ss s).2.1=inoAt ss z∧(inoAt ss z).kind=1:=by
 unfold fileV at h ⊢
 split at h
 ·rename_i he;exact absurd h he
 ·rename_i he
  split at h
  ·simp at h
  ·rename_i hk
   rw[if_neg he,if_neg hk]
   exact⟨_,rfl,by simpa using hk⟩
theorem a2j{ss:List (List Int)}(hs:Secs ss)(s:ByteArray):(fileV ss s).2.1.b.length=4:=by
 unfold fileV
 split
 ·rfl
 ·split
  ·rfl
  ·exact a1m hs _
theorem elem_by:Elem 38 5 1 1 (.int .u8 0):=⟨Tryz.underlying38,by kernel_rfl,by decide,by decide,by decide⟩
theorem c3h{ss:List (List Int)}{x:Ino}{i:Nat}(h:(i:Int)<x.size):(readL ss x).take (i+1)=(readL ss x).take i++[byteAt ss x i]:=by
 have hl:i<(readL ss x).length:=by simp[readL];omega
 rw[List.take_succ_eq_append_getElem hl]
 simp[readL]
set_option maxRecDepth 100000 in
set_option maxHeartbeats 1600000 in
theorem c6q(p:Option Addr)(n c:Nat)(ss:List (List Int))(w:World)(h:Rd w 32 (.slice p n c) n (cellsOf ss))(hs:Secs ss)(hn:n=65)(s:ByteArray)(hsz:s.size≤100000) :
  Calls Tryz.prog 81 #[.slice p n c,.string s] w fun e w'=>∃q m k,e = .returned (.tuple #[.slice q m k,.int .i64 (readV ss s).2])∧m=(readV ss s).1.length∧Rd w' 1 (.slice q m k) m (u8s (readV ss s).1)∧Below w.heap.size w w':=by
 subst hn
 have HF:=ι (a7i p 65 c ss w h hs (by omega) s hsz)
 have hfo:=b9j hs s
 have H4:=ι (a2j hs s)
 obtain⟨V,HV⟩:∃V,readV ss s=V:=⟨_,rfl⟩
 rw[HV]
 unfold readV at HV
 unfold fileT at HF
 generalize fileV ss s=fv at *
 obtain⟨z,x,e2⟩:=fv
 simp only at HF HV hfo H4
 by_cases he2:e2=0
 ·subst he2
  rw[if_neg (by simp)] at HV
  subst HV
  obtain⟨y,rfl,hk⟩:=hfo rfl
  obtain⟨f0,f1,f2⟩:=a5k hs y hk
  generalize inoAt ss y=x at *
  obtain⟨kd,sz,bl⟩:=x
  simp only at f0 f1 f2 hk
  obtain⟨zn,rfl⟩:=Int.eq_ofNat_of_zero_le f0
  have HRL:=ι fun(i:Nat) (hi:(i:Int)<zn)=>c3h (ss:=ss) (x:=⟨kd,zn,bl⟩) (i:=i) hi
  have HRN:Hid ((readL ss ⟨kd,zn,bl⟩).length=zn):=ι (by simp[readL])
  have HBY:Hid (∀i,byteAt ss ⟨kd,zn,bl⟩ i=(ss.getD (40+(bl.getD (i / 32) 0).toNat) zero32).getD (i % 32) 0):=ι fun i=>rfl
  have HF2:=ι f2
  have HS:=ι hs
  have HR:=ι h
  have hzi:(zn:Int)≤128:=f1
  generalize readL ss ⟨kd,zn,bl⟩=RL at *
  generalize byteAt ss ⟨kd,zn,bl⟩=by_ at *
  clear h hs hfo f2 f0 f1 hk
  go_enter Tryz.func81,Tryz.ntmps81
  go_upto_region 5 with(first
   | (go_at_call 68;refine HF.out.mono ?_;rintro e w2 ⟨rfl,hb⟩;have B2:=ι hb;clear hb)
   | (refine a0f rfl (.tmp 7) (.tmp 16) rfl rfl w2.heap.size ⟨kd,zn,bl⟩ ino0 rfl rfl H4.out rfl (a0r w2) ?_;intro w3 hA hB _;have B3:=ι (a0a B2.out ((a0b (Below.refl _ w2) _).trans hB));have A3:=ι hA;clear hA hB))
  obtain⟨g,hg⟩:∃g,w2.heap.size=g:=⟨_,rfl⟩
  rw[hg] at A3
  go_wp2_with fail
  go_loopw [9,10] (fun ov iv wr=>∃(i:Nat) (q:Option Addr) (k:Nat),i≤zn∧iv = .int .i64 (i:Int)∧ov = .slice q i k∧Hid (Own wr w3.heap.size 5 1 (.slice q i k) i (u8s (RL.take i)))∧Hid (Below w3.heap.size w3 wr)) (fun _ iv _=>zn-(intOf iv).toNat)
  case atStart=>exact⟨0,none,0,by omega,rfl,rfl,ι (by simp[u8s];exact a2n _ _ _ _),ι (Below.refl _ _)⟩
  case round =>
   obtain⟨i,q,k,hi,rfl,rfl,HO,HB⟩:=hrel
   have AR:=ι (A3.out.later HB.out)
   have hc1:=AR.out.cell1
   simp only at hc1
   rw[hg]
   by_cases hlt:i<zn
   ·have hlti:(i:Int)<zn:=by omega
    obtain⟨b1,b2⟩:=HF2.out i hlti
    have hjl:i / 32<bl.length:=by have:=H4.out;exact(by simpa using this:bl.length=4)▸(by omega)
    have hcb:=AR.out.cellb hjl
    simp only at hcb
    obtain⟨m,hm⟩:∃m:Nat,bl.getD (i / 32) 0=(m:Int)+1:=⟨(bl.getD (i / 32) 0).toNat-1,by omega⟩
    rw[hm] at hcb b1 b2
    have hm24:m<24:=by omega
    obtain⟨bb,oo,rfl,_,_,hbb,hll,hrg⟩:=b0e (HR.out.later (a0a B3.out HB.out)) HS.out (j:=41+m) (by omega)
    have hsl:=hrg (41+m) (by omega)
    have hS:=HS.out ss[41+m] (List.getElem_mem (by omega))
    obtain⟨v,hv⟩:∃v,ss[41+m].getD (i % 32) 0=v:=⟨_,rfl⟩
    have hcv:wr.cell? ⟨bb,oo+(41+m) * 32+i % 32,none⟩=some (.int .u8 v):=by
     refine hsl (i % 32) _ ?_
     have hl:i % 32<ss[41+m].length:=by rw[hS.1];omega
     rw[← hv]
     simp[u8s,List.getD,hl]
    have HV2:Hid (by_ i=v):=ι (by
     rw[HBY.out i,hm,← hv]
     rw[show 40+((m:Int)+1).toNat=41+m by omega,show ss.getD (41+m) zero32=ss[41+m] by simp[List.getD,show 41+m<ss.length by omega]])
    have HT:=ι (HRL.out i hlti)
    clear hsl hS hv hm hrg b1 b2
    go_wp2_with (at_builtin;refine a5s elem_by rfl (.tmp 27) (.tmp 41) rfl w3.heap.size _ i _ rfl (HO.out.alloc _) _ 1 [.int .u8 v] rfl (b1g _ _ 1 #[.int .u8 v] rfl) (by simp[Value.oneCell']) (by omega) (by have:=HB.out.size;simp;omega) ?_;intro pa ca wa ho hb;have HO2:=ι ho;have HBa:=ι ((a0b HB.out _).trans hb);clear ho hb)
    go_roundw
    case rel=>exact⟨i+1,pa,ca,by omega,by go_num,rfl,ι (by rw[HT.out,HV2.out];have h:=HO2.out;simpa [u8s] using h),HBa⟩
    case measure=>simp[intOf];omega
   ·have hge:(zn:Int)≤i:=by omega
    have hin:i=zn:=by omega
    have HE:Hid (RL.take i=RL):=ι (List.take_of_length_le (by rw[HRN.out];omega))
    have HIN:=ι hin
    clear hin
    go_wp2_with fail
    go_ret2
    exact⟨q,i,k,rfl,by rw[HRN.out];exact HIN.out,by have h:=HO.out.rd;rw[HE.out] at h;exact h,a0a B3.out HB.out⟩
 ·rw[if_pos he2] at HV
  subst HV
  have hne:(e2 != 0)=true:=by simpa using he2
  clear h hs hfo
  obtain⟨kd,sz,bl⟩:=x
  go_enter Tryz.func81,Tryz.ntmps81
  go_wp2_with (first
   | (go_at_call 68;refine HF.out.mono ?_;rintro e w2 ⟨rfl,hb⟩;have B2:=ι hb;clear hb)
   | (refine a0f rfl (.tmp 7) (.tmp 16) rfl rfl w2.heap.size ⟨kd,sz,bl⟩ ino0 rfl rfl H4.out rfl (a0r w2) ?_;intro w3 hA hB _;have B3:=ι (a0a B2.out ((a0b (Below.refl _ w2) _).trans hB));clear hA hB))
  go_ret2
  exact⟨none,0,0,rfl,rfl,a2g _ 1,B3.out⟩
end fs
namespace fs
set_option maxRecDepth 100000
open Go.ChangeShapes Go.WideShapes Go.ChangeAt Go.RowKit
open rows
open sec
open dsk (Wr.c Wr.c_len St Wr RefAt a3o a0l a6t a2f a3z a4t size_alloc a0c)
open ly
open lk
def nowL(st:St):List (List Int):=over st.safe st.wait st.wait.length
theorem a6q{ss:List (List Int)}{ws:List Wr}(hs:Secs ss)(hw:∀x∈ws,Sec x.s):∀i,i≤ws.length→Secs (over ss ws i)
 | 0,_=>hs
 | i+1,h=>by
  rw[a8i (show i<ws.length by omega),wr1]
  split
  ·exact a3z (a6q hs hw i (by omega)) (hw _ (List.getElem_mem _)) _
  ·exact a6q hs hw i (by omega)
theorem a9y{w:World}{sz n:Nat}{v:Value}{cs:List Value}(h:Rd w sz v n cs):∃p c,v = .slice p n c:=by
 rcases h with⟨p,c,h1,h2,_⟩|⟨b,o,c,h1,_⟩
 ·exact⟨p,c,by rw[h1,h2]⟩
 ·exact⟨_,_,h1⟩
set_option maxRecDepth 100000 in
set_option maxHeartbeats 1600000 in
theorem b3r(S:Nat→Prop)(gd:Nat)(st:St)(vs vw vl vb:Value)(w:World)(h:RefAt w S gd st vs vw vl vb)(hs:Secs st.safe)(hws:∀x∈st.wait,Sec x.s)(hpos:∀x∈st.wait,0≤x.pos∧x.pos<(st.safe.length:Int))(hn:st.safe.length≤65)(hm:st.wait.length≤900) :
  Calls Tryz.prog 24 #[.pointer (some ⟨gd,0,none⟩)] w fun e w'=>∃q k,e = .returned (.slice q st.safe.length k)∧Rd w' 32 (.slice q st.safe.length k) st.safe.length (cellsOf (nowL st))∧Below w.heap.size w w':=by
 have hgl:gd<w.heap.size:=(Array.getElem?_eq_some_iff.1 h.row).1
 obtain⟨p,c,rfl⟩:=a9y h.safe
 obtain⟨p2,c2,rfl⟩:=a9y h.wait
 have HC0:=ι fun w' (hb:Below w.heap.size w w')=>(hb.cell (p:=⟨gd,0,none⟩) hgl).trans (a0c h.row 0 _ rfl)
 have HC1:=ι fun w' (hb:Below w.heap.size w w')=>(hb.cell (p:=⟨gd,1,none⟩) hgl).trans (a0c h.row 1 _ rfl)
 have H1:=ι h.safe
 have H2:=ι h.wait
 have HS:=ι hs
 have HOK:=ι hws
 have HPO:=ι hpos
 obtain⟨ss,hss⟩:∃ss,st.safe=ss:=⟨_,rfl⟩
 obtain⟨ws,hwe⟩:∃ws,st.wait=ws:=⟨_,rfl⟩
 have HNL:Hid (nowL st=over ss ws ws.length):=ι (by rw[nowL,hss,hwe])
 rw[hss] at H1 HS HPO hn HC0 ⊢
 rw[hwe] at H2 HOK HPO hm HC1
 obtain⟨n,hnl⟩:∃n,ss.length=n:=⟨_,rfl⟩
 obtain⟨m,hml⟩:∃m,ws.length=m:=⟨_,rfl⟩
 rw[hnl] at H1 HPO hn HC0 ⊢
 rw[hml] at H2 hm HC1 HNL
 have HSL:=ι hnl
 have HLL:=ι hml
 have hmi:(m:Int)≤900:=by omega
 have hni:(n:Int)≤65:=by omega
 have HSF:=ι (H1.out.later (a0b (Below.refl w.heap.size w) (.cells #[] 95)))
 have k0:=HC0.out _ (a0b (Below.refl w.heap.size w) (.cells #[] 95))
 clear h hs hws hpos hss hwe hnl hml hgl
 go_enter Tryz.func24,Tryz.ntmps24
 go_wp2_with (at_builtin;refine a5s elem_secs rfl (.tmp 5) (.tmp 9) rfl w.heap.size _ 0 [] rfl (c6o _ _ _ _ rfl (Nat.le_refl _)) _ n _ rfl HSF.out (a1y .u8 _) (by omega) (by rw[size_alloc];omega) ?_;intro p4 c4 w4 ho4 hb4;have HO4:=ι ho4;have hb14:=(a0b (Below.refl w.heap.size w) (.cells #[] 95)).trans hb4;clear ho4 hb4)
 have ho4:=HO4.out
 rw[Nat.zero_add,List.nil_append] at ho4
 have HO0:Hid (Own w4 w.heap.size 95 32 (.slice p4 n c4) n (cellsOf (over ss ws 0))):=ι ho4
 clear HO4 ho4 HSF k0
 go_loopw [4] (fun iv wr=>∃(j:Nat),j≤m∧iv = .int .i64 (j:Int)∧Hid (Own wr w.heap.size 95 32 (.slice p4 n c4) n (cellsOf (over ss ws j)))∧Below w.heap.size w wr) (fun iv _=>m-(intOf iv).toNat)
 case atStart=>exact⟨0,by omega,rfl,HO0,hb14⟩
 case round =>
  clear HO0 hb14
  obtain⟨j,hj,rfl,HO,hbr⟩:=hrel
  have k1:=HC1.out _ hbr
  by_cases ha:j<m
  ·have ha1:(j:Int)<m:=by omega
   have hjl:j<ws.length:=by rw[HLL.out];exact ha
   obtain⟨b2,o2,rfl,hcc2,hcm2,hb2,_,HR2⟩:=dsk.Rd.chunk Wr.c H2.out (fun x hx=>Wr.c_len (HOK.out x hx)) (by decide) ha
   have hmem:=List.getElem_mem hjl
   have HAO:=ι (HOK.out _ hmem)
   have hpx:=HPO.out _ hmem
   have HWR:=ι (Rd.rangeLater (HR2 j hjl) hb2 hbr)
   have HOV:=ι (a8i (ss:=ss) hjl)
   have HOS:=ι (a6q HS.out HOK.out j (by omega))
   have HOL:Hid ((over ss ws j).length=n):=ι (by rw[a7v ss ws j (by omega),HSL.out])
   generalize ws[j]=x at *
   clear HR2 hmem
   have hzr:=hbr.size
   have hbw:b2<wr.heap.size:=by omega
   obtain⟨kp,hkp⟩:=Int.eq_ofNat_of_zero_le hpx.1
   have hkn:kp<n:=by omega
   have hkn1:(kp:Int)<n:=by omega
   have HZ:=ι hkp
   have HN:Hid (over ss ws (j+1)=(over ss ws j).set kp x.s):=ι (by rw[HOV.out,wr1,if_pos (by rw[HZ.out,HOL.out];omega),HZ.out];rfl)
   obtain⟨g,hg⟩:=a6t HO.out (by omega)
   subst hg
   have hgb:=a2f HO.out (k:=g) rfl
   have hgg:=hgb.1
   have hgl:=hgb.2
   clear hgb hpx hkp
   go_upto_region 5 with fail
   have HOD:=ι (dsk.a0o HO.out ((Below.refl wr.heap.size wr).drew))
   have hbd:b2<wr.drew.heap.size:=hbw
   have HWD:Hid (wr.drew.rangeAt b2 (o2+j * 36) x.c):=ι (Rd.rangeLater HWR.out hbw ((Below.refl wr.heap.size wr).drew))
   have HZD:Hid (∀w',Below wr.drew.heap.size wr.drew w'→w'.cell? ⟨b2,o2+j * 36,none⟩=some (.int .i64 (kp:Int))):=ι (fun w' hw=>by
    have:=(a3o HAO.out (Rd.rangeLater HWD.out hbd hw)).1
    rw[HZ.out] at this
    exact this)
   have HKD:=ι fun w' (hw:Below wr.drew.heap.size wr.drew w')=>HC1.out w' (a0a hbr (a0i hw))
   refine a2o (S:=ext wr.drew) 18 (by kernel_rfl) (Below.refl _ _) (fun hH0 => ?_)
   refine tl 0 rfl ?_
   refine tl 1 rfl ?_
   refine tl 2 rfl ?_
   refine tl 3 rfl ?_
   refine tlv 4 rfl (a0l (by rfl) 54 _ Tryz.underlying54 rfl _ rfl gd 1 rfl _ (fun w' hw=>HKD.out w' hw)) ?_
   refine tl 5 rfl ?_
   refine tl 6 rfl ?_
   refine tl 7 rfl ?_
   refine tlv 8 rfl (a0l (by rfl) 3 _ Tryz.underlying3 rfl _ rfl b2 (o2+j * 36) rfl (.int .i64 (kp:Int)) (fun w' hw=>HZD.out w' hw)) ?_
   refine tl 9 rfl ?_
   refine tl 10 rfl ?_
   refine tl 11 rfl ?_
   refine tlv 12 rfl (a0l (by rfl) 54 _ Tryz.underlying54 rfl _ rfl gd 1 rfl _ (fun w' hw=>HKD.out w' hw)) ?_
   refine tl 13 rfl ?_
   refine tl 14 rfl ?_
   refine tl 15 rfl ?_
   refine tlv 16 rfl (a3v (by rfl) _ rfl b2 (o2+j * 36+1) rfl x.s HAO.out.1 (fun w' hw=>(a3o HAO.out (Rd.rangeLater HWD.out hbd hw)).2.1)) ?_
   refine tl 17 rfl ?_
   refine a0e (rs:=[18]) (by kernel_rfl) (by simp) ?_
   refine AllReadyL.cons (o:={ dst:=none,op:=Op.store 95 (Operand.tmp 37) (Operand.tmp 36),type:=0,pos := "ref.go:17", after := #[{ on:=17,ground:=Ground.data },{ on:=16,ground:=Ground.data },{ on:=0,ground:=Ground.phase },{ on:=1,ground:=Ground.phase },{ on:=2,ground:=Ground.phase },{ on:=3,ground:=Ground.phase },{ on:=4,ground:=Ground.phase },{ on:=5,ground:=Ground.phase },{ on:=6,ground:=Ground.phase },{ on:=7,ground:=Ground.phase },{ on:=8,ground:=Ground.phase },{ on:=9,ground:=Ground.phase },{ on:=10,ground:=Ground.phase },{ on:=11,ground:=Ground.phase },{ on:=12,ground:=Ground.phase },{ on:=13,ground:=Ground.phase },{ on:=14,ground:=Ground.phase },{ on:=15,ground:=Ground.phase },{ on:=16,ground:=Ground.phase }],guard:=none }) rfl (fun K hK => ?_) AllReadyL.nil
   refine a4t (by rfl) _ _ (by rfl) w.heap.size g kp n c4 (by rfl) x.s (by rfl) HAO.out _ HOS.out (by rw[HOL.out];exact hkn) HOD.out ?_
   intro w12 ho12 ht12
   have HO12:=ι ho12
   have HT12:=ι ht12
   have h1:True:=trivial
   clear ho12 ht12
   dsimp only
   refine hK.out _ _ (Or.inl rfl) (fun hHeld => ?_)
   clear hK K
   try simp only[Act.put,List.setIfInBounds_toArray,List.set_cons_zero,List.set_cons_succ]
   refine a1w (by kernel_rfl) ?_ _
   clear hHeld hH0
   have hb12:Below w.heap.size w w12:=hbr.drew.trans (HT12.out.below (show w.heap.size≤wr.drew.heap.size from hbr.size) (fun k hk=>by rw[hk];exact hgg))
   go_wp2_with fail
   exact⟨⟨j+1,by omega,by go_num,ι (by rw[HN.out];exact HO12.out),hb12⟩,by simp[intOf];omega⟩
  ·have hge:(m:Int)≤j:=by omega
   have HF:Hid (Rd wr 32 (.slice p4 n c4) n (cellsOf (nowL st))):=ι (by
    have e:j=m:=by omega
    have h:=Own.rd HO.out
    rw[e,← HNL.out] at h
    exact h)
   clear HO
   go_wp2_with fail
   go_ret
   exact⟨p4,c4,rfl,HF.out,hbr⟩
theorem c0y(ss:List (List Int))(ws:List Wr)(hp:∀x∈ws,0≤x.pos∧x.pos<(ss.length:Int)):∀k,k≤ws.length→dsk.outOf (fun _=>true) (ws.take k) ss=over ss ws k
 | 0,_=>rfl
 | k+1,h=>by
  have hk:k<ws.length:=by omega
  have ih:=c0y ss ws hp k (by omega)
  have hx:=hp _ (List.getElem_mem hk)
  rw[List.take_succ_eq_append_getElem hk,a8i hk,wr1,if_pos (by rw[a7v ss ws k (by omega)];exact hx),← ih]
  exact dsk.b0n ⟨ss,ws.take k,0,[],[],0⟩ ws[k]
theorem b4n(st:St)(hp:∀x∈st.wait,0≤x.pos∧x.pos<(st.safe.length:Int)):nowL st=dsk.seenOf st:=by
 have h:=c0y st.safe st.wait hp st.wait.length (Nat.le_refl _)
 rw[List.take_of_length_le (Nat.le_refl _)] at h
 exact h.symm
def mountV(st:St):Int:=if st.safe.length=0 then 1 else if mountsB (nowL st) then 0 else 8
theorem c5h(st:St):(nowL st).length=st.safe.length:=a7v _ _ _ (Nat.le_refl _)
theorem b4y{st:St}(hs:Secs st.safe)(hws:∀x∈st.wait,Sec x.s):Secs (nowL st):=a6q hs hws _ (Nat.le_refl _)
set_option maxRecDepth 100000 in
theorem c2e(S:Nat→Prop)(gd:Nat)(st:St)(vs vw vl vb:Value)(w:World)(h:RefAt w S gd st vs vw vl vb)(hs:Secs st.safe)(hws:∀x∈st.wait,Sec x.s)(hpos:∀x∈st.wait,0≤x.pos∧x.pos<(st.safe.length:Int))(hn:st.safe.length≤65)(hm:st.wait.length≤900) :
  Calls Tryz.prog 12 #[.pointer (some ⟨gd,0,none⟩)] w (Rt w (.int .i64 (mountV st))):=by
 have HN:=ι (b3r S gd st vs vw vl vb w h hs hws hpos hn hm)
 have hlen:=c5h st
 have HM:=ι fun w' q k (hr:Rd w' 32 (.slice q st.safe.length k) st.safe.length (cellsOf (nowL st)))=>b8g q st.safe.length k (nowL st) w' (b4y hs hws) hr (by unfold maxLen;omega)
 obtain⟨p,c,rfl⟩:=a9y h.safe
 have k0:=a0c h.row 0 _ rfl
 obtain⟨V,hV⟩:∃V,mountV st=V:=⟨_,rfl⟩
 rw[hV]
 unfold mountV at hV
 have hni:(st.safe.length:Int)≤65:=by omega
 generalize mountsB (nowL st)=mb at *
 generalize nowL st=L at *
 generalize st.safe.length=n at *
 clear h hs hws hpos hm hlen
 by_cases h0:n=0
 ·subst h0
  rw[if_pos rfl] at hV
  subst hV
  go_enter Tryz.func12,Tryz.ntmps12
  go_wp2_with fail
  go_ret
  exact⟨rfl,Below.refl _ _⟩
 ·rw[if_neg h0] at hV
  have hnb:((n:Int) == 0)=false:=beq_eq_false_iff_ne.2 (by omega)
  cases mb with
  | true =>
   rw[if_pos rfl] at hV
   subst hV
   go_enter Tryz.func12,Tryz.ntmps12
   go_wp2_with (first|(go_at_call 24;refine HN.out.mono ?_;rintro e w2 ⟨q,k,rfl,hr,hb⟩;have R2:=ι hr;have B2:=ι hb;clear hr hb)|(go_at_call 61;refine(HM.out _ _ _ R2.out).mono ?_;rintro e w3 ⟨rfl,hb⟩;have B3:=ι (a0a B2.out hb);clear hb))
   go_ret
   exact⟨rfl,B3.out⟩
  | false =>
   rw[if_neg (by decide)] at hV
   subst hV
   go_enter Tryz.func12,Tryz.ntmps12
   go_wp2_with (first|(go_at_call 24;refine HN.out.mono ?_;rintro e w2 ⟨q,k,rfl,hr,hb⟩;have R2:=ι hr;have B2:=ι hb;clear hr hb)|(go_at_call 61;refine(HM.out _ _ _ R2.out).mono ?_;rintro e w3 ⟨rfl,hb⟩;have B3:=ι (a0a B2.out hb);clear hb))
   go_ret
   exact⟨rfl,B3.out⟩
theorem c3o(w:World):Calls Tryz.prog 12 #[.pointer none] w fun e w'=>e = .returned (.int .i64 1)∧w=w':=by
 go_enter Tryz.func12,Tryz.ntmps12
 go_wp2
 go_ret
 exact⟨rfl,rfl⟩
end fs
namespace fs
set_option maxRecDepth 100000
open Go.ChangeShapes Go.WideShapes Go.ChangeAt Go.RowKit
open rows
open sec
open dsk (Wr.ok Wr.c Wr.c_len St Wr RefIs RefDone writeR grow a3o a0l wrsC InS)
open ly
open lk
theorem a6v{k:Nat}{st:St}(h:st.good k)(i:Int)(s:List Int)(kd id:Int)(hs:Sec s):(writeR st i s kd id).2.good (k+1):=by
 unfold writeR
 split
 ·rename_i hin
  split
  ·exact⟨h.ss,h.n1,h.ws,h.es,by have:=h.wn;show st.wait.length≤k+1;omega,by have:=h.ln;show st.log.length≤k+1;omega,h.bn,⟨h.ep.1,by have:=h.ep.2;show st.ep≤((k+1:Nat):Int);omega⟩,⟨by have:=h.asked.1;show 0≤st.asked+1;omega,by have:=h.asked.2;show st.asked+1≤((k+1:Nat):Int);omega⟩⟩
  ·refine⟨h.ss,h.n1,fun y hy => ?_,fun e he => ?_,?_,?_,h.bn,⟨h.ep.1,by have:=h.ep.2;show st.ep≤((k+1:Nat):Int);omega⟩,⟨by have:=h.asked.1;show 0≤st.asked+1;omega,by have:=h.asked.2;show st.asked+1≤((k+1:Nat):Int);omega⟩⟩
   ·rcases List.mem_append.1 hy with hy|hy
    ·exact h.ws y hy
    ·rw[List.mem_singleton.1 hy];exact⟨hs,hin⟩
   ·rcases List.mem_append.1 he with he|he
    ·exact h.es e he
    ·rw[List.mem_singleton.1 he];exact⟨hs,Nat.zero_le _⟩
   ·have:=h.wn;simp;omega
   ·have:=h.ln;simp;omega
 ·exact⟨h.ss,h.n1,h.ws,h.es,by have:=h.wn;show st.wait.length≤k+1;omega,by have:=h.ln;show st.log.length≤k+1;omega,h.bn,⟨h.ep.1,by have:=h.ep.2;show st.ep≤((k+1:Nat):Int);omega⟩,⟨by have:=h.asked.1;show 0≤st.asked+1;omega,by have:=h.asked.2;show st.asked+1≤((k+1:Nat):Int);omega⟩⟩
theorem a9w:(Tryz.prog.info? 97).map (·.size)=some 2:=by kernel_rfl
theorem b3a{ops:Array Oper}{S:World→Prop}{op:Oper}{a:Act}(hw:Region.wanted op (yielded ops a.tmps)=true)(x:Operand)(ho:op.op = .load 97 x)
  (b o:Nat) (hx:a.eval x = .pointer (some ⟨b,o,none⟩)) (k id:Int) (hS:∀w,S w→w.cell? ⟨b,o,none⟩=some (.int .i64 k)∧w.cell? ⟨b,o+1,none⟩=some (.int .i64 id)):YieldsIf Tryz.prog ops S op (.agg #[.int .i64 k,.int .i64 id]) a :=
 yieldsIf_load_mid hw _ x ho b o hx [.int .i64 k,.int .i64 id] _ (fun w h j u hj=>by
  obtain⟨h1,h2⟩:=hS w h
  match j,hj with
  | 0,hj=>cases hj;exact h1
  | 1,hj=>cases hj;exact h2
  | j+2,hj=>simp at hj) Tryz.underlying97 rfl (by rw[a9w];rfl)
def doR(st:St):List Wr→Int×St
 | []=>(0,st)
 | x::r=>if (writeR st x.pos x.s x.kind x.id).1≠0 then writeR st x.pos x.s x.kind x.id else doR (writeR st x.pos x.s x.kind x.id).2 r
theorem a8o{ws:List Wr}(hw:∀x∈ws,Sec x.s):∀{k:Nat} {st:St},st.good k→(doR st ws).2.good (k+ws.length):=by
 induction ws with
 | nil=>intro k st h;exact h
 | cons x r ih =>
  intro k st h
  have h1:=a6v h x.pos x.s x.kind x.id (hw x (List.mem_cons_self ..))
  rw[doR]
  split
  ·exact⟨h1.ss,h1.n1,h1.ws,h1.es,by have:=h1.wn;simp;omega,by have:=h1.ln;simp;omega,h1.bn,⟨h1.ep.1,by have:=h1.ep.2;simp;omega⟩,⟨h1.asked.1,by have:=h1.asked.2;simp;omega⟩⟩
  ·have h2:=ih (fun y hy=>hw y (List.mem_cons_of_mem _ hy)) h1
   rw[List.length_cons,show k+(r.length+1)=k+1+r.length by omega]
   exact h2
theorem a4y{w:World}{S T:Nat→Prop}{g:Nat}{st:St}(h:RefIs w S g st)(hS:∀b,S b→T b):RefIs w T g st:=by
 obtain⟨vs,vw,vl,vb,h⟩:=h
 have hS':∀b,(S b∧b≠g)→(T b∧b≠g):=fun b hb=>⟨hS b hb.1,hb.2⟩
 obtain⟨es,he⟩:=h.log
 refine⟨vs,vw,vl,vb,h.row,hS _ h.own,h.safe,h.safeS.mono hS',h.wait,h.waitS.mono hS',⟨es,he.len,he.cells,he.at_.mono hS',fun i hi => ?_⟩,h.bad,h.badS.mono hS'⟩
 obtain⟨p,c,h1,h2,h3⟩:=he.tags i hi
 exact⟨p,c,h1,h2,h3.mono hS'⟩
set_option maxRecDepth 100000 in
set_option maxHeartbeats 1600000 in
theorem b4v(S:Nat→Prop)(g:Nat)(st:St)(ws:List Wr)(p:Option Addr)(m c:Nat)(w:World)(h:RefIs w S g st)(k:Nat)(hg:st.good k)(hk:k+m≤900)(hm:m≤40)(hr:Rd w 36 (.slice p m c) m (wrsC ws))(hin:InS (fun b=>b≠g) (.slice p m c))(hok:∀x∈ws,x.ok) :
  Calls Tryz.prog 66 #[.pointer (some ⟨g,0,none⟩),.slice p m c] w (RefDone S g w (doR st ws)):=by
 have HLL:=ι (dsk.Rd.count Wr.c hr (fun x hx=>Wr.c_len (hok x hx).1) (by decide))
 have HR:=ι hr
 have HIN:=ι hin
 have HOK:=ι hok
 have HGL:=ι (dsk.RefIs.lt h)
 have HI:Hid (RefIs w (grow S w w) g st):=ι (a4y h fun b hb=>Or.inl hb)
 have HG0:=ι hg
 have hmi:(m:Int)≤40:=by omega
 clear h hg hr hin hok
 go_enter Tryz.func66,Tryz.ntmps66
 go_wp2_with fail
 go_loopw [5,6] (fun iv _ wr=>∃(i:Nat) (sj:St),i≤m∧iv = .int .i64 (i:Int)∧Hid (doR st ws=doR sj (ws.drop i))∧Hid (sj.good (k+i))∧Hid (RefIs wr (grow S w wr) g sj)∧Hid (dsk.Touch (fun b=>b=g) w wr)) (fun iv _ _=>m-(intOf iv).toNat)
 case atStart=>exact⟨0,st,by omega,rfl,ι rfl,HG0,HI,ι (dsk.Touch.refl _ _)⟩
 case round =>
  obtain⟨i,sj,hi,rfl,HD,HG,HIr,HT⟩:=hrel
  clear HI HG0
  by_cases hlt:i<m
  ·have hlti:(i:Int)<m:=by omega
   have hil:i<ws.length:=by rw[HLL.out];exact hlt
   have hrw:Rd wr 36 (.slice p m c) m (wrsC ws):=dsk.Rd.kept HR.out HIN.out (HT.out.keeps fun b hb=>hb)
   obtain⟨b2,o2,rfl,hcc2,hcm2,hb2,_,HR2⟩:=dsk.Rd.chunk Wr.c hrw (fun x hx=>Wr.c_len (HOK.out x hx).1) (by decide) hlt
   have hbg:b2≠g:=HIN.out _ _ _ rfl (by omega)
   have HX:=ι (HOK.out _ (List.getElem_mem hil))
   have HWR:=ι (HR2 i hil)
   have HDS:Hid (ws.drop i=ws[i]::ws.drop (i+1)):=ι (List.drop_eq_getElem_cons hil)
   generalize ws[i]=x at *
   have HW:=ι fun w' (hh:RefIs w' (grow S w wr) g sj)=>dsk.rwrite (grow S w wr) g sj w' hh (HG.out.fine (by omega)).few (by have:=HG.out.n1;omega) x.pos x.s x.kind x.id HX.out.1 HX.out.2.1
   have HGN:=ι (a6v HG.out x.pos x.s x.kind x.id HX.out.1)
   have HGE:=ι HGL.out.1
   have HLO:=ι fun w' (hw:dsk.Touch (fun b=>b=g) wr w')=>show w'.rangeAt b2 (o2+i * 36) x.c from fun j u hj=>(World.cell?_of_block (a:=⟨b2,o2+i * 36+j,none⟩) (hw.block b2 hb2 hbg)).trans (HWR.out j u hj)
   clear HR2 hrw
   have HP0:=ι fun w' hw=>(a3o HX.out.1 (HLO.out w' hw)).1
   have HP1:=ι fun w' hw=>(a3o HX.out.1 (HLO.out w' hw)).2.1
   have HP2:=ι fun w' hw=>(show w'.cell? ⟨b2,o2+i * 36+33,none⟩=some (.int .i64 x.kind)∧w'.cell? ⟨b2,o2+i * 36+33+1,none⟩=some (.int .i64 x.id) from⟨(a3o HX.out.1 (HLO.out w' hw)).2.2.1,(a3o HX.out.1 (HLO.out w' hw)).2.2.2.1⟩)
   have HIrd:Hid (RefIs wr.drew (grow S w wr) g sj):=ι (by obtain⟨vs,vw,vl,vb,h⟩:=HIr.out;exact⟨vs,vw,vl,vb,dsk.a4g h ((Below.refl wr.heap.size wr).drew)⟩)
   have h0:=dsk.Touch.refl (fun b=>b=g) wr.drew
   have HDO:Hid (doR st ws=if (writeR sj x.pos x.s x.kind x.id).1≠0 then writeR sj x.pos x.s x.kind x.id else doR (writeR sj x.pos x.s x.kind x.id).2 (ws.drop (i+1))):=ι (by rw[HD.out,HDS.out];rfl)
   obtain⟨r,hr⟩:∃r,writeR sj x.pos x.s x.kind x.id=r:=⟨_,rfl⟩
   rw[hr] at HDO HGN HW
   obtain⟨e1,s1⟩:=r
   simp only at HDO HGN HW
   clear hr
   have hdd:Hid (∀w',dsk.Touch (fun b=>b=g) wr.drew w'→dsk.Touch (fun b=>b=g) wr w'):=ι fun w' h=>⟨h.os,h.tape,h.output,h.size,h.block⟩
   go_wp2_with fail
   refine wp_region_held_drew (S:=dsk.Touch (fun b=>b=g) wr.drew) (by kernel_rfl) h0 (fun hH0 => ?_)
   refine tk 0 rfl ?_
   refine tk 1 rfl ?_
   refine tk 2 rfl ?_
   refine tk 3 rfl ?_
   refine tk 4 rfl ?_
   refine tkv 5 rfl (a0l (by rfl) 3 _ Tryz.underlying3 rfl _ rfl b2 (o2+i * 36) rfl _ (fun w' hw=>HP0.out w' (hdd.out w' hw))) ?_
   refine tk 6 rfl ?_
   refine tk 7 rfl ?_
   refine tk 8 rfl ?_
   refine tk 9 rfl ?_
   refine tkv 10 rfl (a3v (by rfl) _ rfl b2 (o2+i * 36+1) rfl x.s HX.out.1.1 (fun w' hw=>HP1.out w' (hdd.out w' hw))) ?_
   refine tk 11 rfl ?_
   refine tk 12 rfl ?_
   refine tk 13 rfl ?_
   refine tk 14 rfl ?_
   refine tkv 15 rfl (b3a (by rfl) _ rfl b2 (o2+i * 36+33) rfl x.kind x.id (fun w' hw=>HP2.out w' (hdd.out w' hw))) ?_
   refine rd 16 rfl (fun K hK => ?_)
   go_simp
   refine(HW.out _ HIrd.out).mono ?_
   rintro e v1 ⟨rfl,hi1,ht1⟩
   have HIN1:=ι hi1
   have h1:=ht1
   dsimp only
   refine hK.out _ _ ?_ (fun hHeld => ?_)
   ·exact h1
   clear hK K
   try simp only[Act.put,List.setIfInBounds_toArray,List.set_cons_zero,List.set_cons_succ]
   refine tk 17 rfl ?_
   refine wpAnyH_done (by kernel_rfl) ?_ _
   have HB3:Hid (dsk.Touch (fun b=>b=g) w v1):=ι (HT.out.trans (hdd.out _ h1))
   have HI3:Hid (RefIs v1 (grow S w v1) g s1):=ι (a4y HIN1.out fun b hb=>by
    have q1:=HT.out.size
    have q2:wr.heap.size≤v1.heap.size:=h1.size
    rcases hb with(hb|hb)|hb
    ·exact Or.inl hb
    ·exact Or.inr ⟨hb.1,by omega⟩
    ·exact Or.inr ⟨by have:wr.heap.size≤b:=hb.1;omega,hb.2⟩)
   by_cases he:e1=0
   ·subst he
    have HD3:Hid (doR st ws=doR s1 (ws.drop (i+1))):=ι (by rw[HDO.out,if_neg (by simp)])
    go_wp2_with fail
    go_roundw
    case rel=>exact⟨i+1,s1,by omega,by go_num,HD3,ι (by have:=HGN.out;rw[Nat.add_assoc] at this;exact this),HI3,HB3⟩
    case measure=>simp[intOf];omega
   ·have hne:(e1 != 0)=true:=by simpa using he
    have HD3:Hid (doR st ws=(e1,s1)):=ι (by rw[HDO.out,if_pos he])
    go_wp2_with fail
    go_ret
    exact⟨by rw[HD3.out];rfl,by rw[HD3.out];exact HI3.out,HB3.out⟩
  ·have hge:(m:Int)≤i:=by omega
   have HE:Hid (doR st ws=(0,sj)):=ι (by rw[HD.out,List.drop_of_length_le (by rw[HLL.out];omega)];rfl)
   go_wp2_with fail
   go_ret
   exact⟨by rw[HE.out];rfl,by rw[HE.out];exact HIr.out,HT.out⟩
end fs
namespace fs
set_option maxRecDepth 100000
open Go.ChangeShapes Go.WideShapes Go.ChangeAt Go.RowKit
open rows
open sec
open dsk (St Wr Wr.ok barrier)
open ly
open pa
open lk
open al
def wIno(n:Int)(x:Ino):Wr:=⟨1+n,inoV x,2,n,0⟩
def wEnt(k:Int)(x:Ent)(f:Int):Wr:=⟨17+k,entV x,3,f,0⟩
theorem a8p{n:Int}{x:Ino}(hn:0≤n∧n≤200)(hx:x.b.length=4):(wIno n x).ok:=⟨a3p hx,a0h (by show 0≤1+n∧1+n<256;omega),a0h (by show (0:Int)≤2∧(2:Int)<256;omega),a0h (by show 0≤n∧n<256;omega),a0h (by show (0:Int)≤0∧(0:Int)<256;omega)⟩
theorem a2x{k f:Int}{x:Ent}(hk:0≤k∧k≤200)(hf:0≤f∧f≤255):(wEnt k x f).ok:=⟨a1x x,a0h (by show 0≤17+k∧17+k<256;omega),a0h (by show (0:Int)≤3∧(3:Int)<256;omega),a0h (by show 0≤f∧f<256;omega),a0h (by show (0:Int)≤0∧(0:Int)<256;omega)⟩
def makeV(st:St)(s:ByteArray)(kind:Int):Int×St :=
 if (placeV (nowL st) s).2≠0 then ((placeV (nowL st) s).2,st)
 else if (placeV (nowL st) s).1.is then (5,st)
 else match frI (nowL st),frE (nowL st) with
  | some n,some k=>doR st [wIno (n:Int) ⟨kind,0,[0,0,0,0]⟩,wEnt (k:Int) ⟨true,(placeV (nowL st) s).1.dir,(placeV (nowL st) s).1.name,(n:Int)⟩ (placeV (nowL st) s).1.dir]
  | _,_=>(2,st)
def cutB(b:List Int)(j:Nat):List Int:=b.take j++List.replicate (4-j) 0
def truncV(st:St)(s:ByteArray)(z:Int):Int×St :=
 if (fileV (nowL st) s).2.2≠0 then ((fileV (nowL st) s).2.2,st)
 else if z<0∨(fileV (nowL st) s).2.1.size<z then (1,st)
 else if z=(fileV (nowL st) s).2.1.size then (0,st)
 else doR st [wIno (fileV (nowL st) s).1 ⟨(fileV (nowL st) s).2.1.kind,z,cutB (fileV (nowL st) s).2.1.b (need z.toNat)⟩]
def fullB(ss:List (List Int))(d:Int):Bool:=(List.range 24).any (atB ss d)
def unlinkV(st:St)(s:ByteArray):Int×St :=
 if (placeV (nowL st) s).2≠0 then ((placeV (nowL st) s).2,st)
 else if (placeV (nowL st) s).1.is=false then (4,st)
 else if (inoAt (nowL st) (entAt (nowL st) (placeV (nowL st) s).1.k).target).kind=2∧fullB (nowL st) (entAt (nowL st) (placeV (nowL st) s).1.k).target=true then (7,st)
 else doR st [wEnt (placeV (nowL st) s).1.k ent0 (placeV (nowL st) s).1.dir]
def deeperB(s t:ByteArray):Bool:=underB (bys t) (bys s) || decide ((nms (bys s)).length<(nms (bys t)).length)
def moveR(st:St)(x y:Wr):Int×St :=
 if (doR st [x]).1≠0 then doR st [x]
 else if (barrier (doR st [x]).2).1≠0 then barrier (doR st [x]).2
 else doR (barrier (doR st [x]).2).2 [y]
def renameV(st:St)(s t:ByteArray):Int×St :=
 let L:=nowL st
 let a:=(placeV L s).1
 let b:=(placeV L t).1
 let n:=(entAt L a.k).target
 let dir:=decide ((inoAt L n).kind=2)
 let x:Ent:=⟨true,b.dir,b.name,n⟩
 if errP (bys s)≠0 then (errP (bys s),st)
 else if errP (bys t)≠0 then (errP (bys t),st)
 else if (placeV L s).2≠0 then ((placeV L s).2,st)
 else if a.is=false then (4,st)
 else if (placeV L t).2≠0 then ((placeV L t).2,st)
 else if s=t∨(b.is=true∧b.k=a.k) then (0,st)
 else if dir=true∧deeperB s t=true then (1,st)
 else if b.is=true then
  if dir=true∨(inoAt L (entAt L b.k).target).kind=2 then (5,st)
  else moveR st (wEnt b.k x b.dir) (wEnt a.k ent0 a.dir)
 else if a.dir=b.dir then doR st [wEnt a.k x b.dir]
 else match frE L with
  | none=>(2,st)
  | some k=>moveR st (wEnt (k:Int) x b.dir) (wEnt a.k ent0 a.dir)
def grownI(x:Ino)(off m:Nat)(f:List Int):Ino:=⟨x.kind,max x.size (off+m:Nat),x.b.take (need x.size.toNat)++f++x.b.drop (need x.size.toNat+f.length)⟩
def hitB(off m i:Nat):Bool:=decide (0<m∧off<32 * i+32∧32 * i<off+m)
def putL(old:List Int)(off:Nat)(b:List Int)(i:Nat):List Int:=(List.range 32).map fun j=>if off≤32 * i+j∧32 * i+j<off+b.length then b.getD (32 * i+j-off) 0 else old.getD j 0
def blksW(L:List (List Int))(n:Int)(y:Ino)(had off:Nat)(b:List Int)(k:Nat):List Wr :=
 ((List.range k).filter (hitB off b.length)).map fun i=>⟨40+y.b.getD i 0,putL (if i<had then L.getD (40+y.b.getD i 0).toNat zero32 else zero32) off b i,1,n,0⟩
def writeFV(st:St)(s:ByteArray)(off:Int)(b:List Int):Int×St :=
 let L:=nowL st
 let x:=(fileV L s).2.1
 let n:=(fileV L s).1
 if (fileV L s).2.2≠0 then ((fileV L s).2.2,st)
 else if off<0∨x.size<off then (1,st)
 else if 128-off<(b.length:Int) then (2,st)
 else
  let w:=((need (max x.size (off+b.length)).toNat:Nat):Int)-(need x.size.toNat:Nat)
  if blkB L w=false then (2,st)
  else
   let y:=grownI x off.toNat b.length (blkL L w)
   doR st (blksW L n y (need x.size.toNat) off.toNat b 4++if y=x then [] else [wIno n y])
def appendV(st:St)(s:ByteArray)(b:List Int):Int×St :=
 if (fileV (nowL st) s).2.2≠0 then ((fileV (nowL st) s).2.2,st) else writeFV st s (fileV (nowL st) s).2.1.size b
end fs
namespace fs
set_option maxRecDepth 100000
open Go.ChangeShapes Go.WideShapes Go.ChangeAt Go.RowKit
open rows
open sec
open dsk (Wr Wr.ok Wr.c Wr.c_len w0 AtW c6p a7z a1e a6r b3l b1j b1x b0s)
open ly
open pa
open lk
theorem a7s(p k i:Int)(s:List Int)(h:Sec s):Tryz.prog.built 99 [(0,.int .i64 p),(1,.agg (u8s s).toArray),(2,.agg #[.int .i64 k,.int .i64 i])]=some (Wr.c ⟨p,s,k,i,0⟩).toArray:=by
 have hl:(u8s s).length=32:=by simp[u8s,h.1]
 have hz:(u8s zero32).length=32:=by simp[u8s,zero32]
 rw[a6r _ _ _ _ b3l b1j b1x]
 rw[a1e _ _ 0 0 1 _ [.int .i64 p] _ rfl rfl rfl (by rw[Wr.c_len a0p];omega)]
 have e0:(w0.c).take 0++[Value.int .i64 p]++(w0.c).drop (0+1) = .int .i64 p::(u8s zero32++[.int .i64 0,.int .i64 0,.int .i64 0]):=rfl
 rw[e0,a1e _ _ 1 1 32 _ (u8s s) _ rfl rfl hl (by simp[hz])]
 have e1:(Value.int .i64 p::(u8s zero32++[Value.int .i64 0,.int .i64 0,.int .i64 0])).take 1++u8s s++(Value.int .i64 p::(u8s zero32++[Value.int .i64 0,.int .i64 0,.int .i64 0])).drop (1+32) = .int .i64 p::(u8s s++[.int .i64 0,.int .i64 0,.int .i64 0]):=by
  rw[show 1+32=32+1 by omega,List.drop_succ_cons,List.drop_left' hz];rfl
 rw[e1,a1e _ _ 2 33 2 _ [.int .i64 k,.int .i64 i] _ rfl rfl rfl (by simp[hl])]
 have e2:(Value.int .i64 p::(u8s s++[Value.int .i64 0,.int .i64 0,.int .i64 0])).take 33++[Value.int .i64 k,.int .i64 i]++(Value.int .i64 p::(u8s s++[Value.int .i64 0,.int .i64 0,.int .i64 0])).drop (33+2) = .int .i64 p::(u8s s++[.int .i64 k,.int .i64 i,.int .i64 0]):=by
  rw[List.take_succ_cons,List.take_left' hl,show 33+2=(32+2)+1 by omega,List.drop_succ_cons,← List.drop_drop,List.drop_left' hl]
  simp
 rw[e2]
 rfl
theorem c8v{fn:Func}{p:Tmp}{R:Ending→World→Prop}{a:Act}{w:World}(h:fn.results = #[.cell p 99])(g:Nat)(x:Wr)(hp:a.tmps.getD p undef = .pointer (some ⟨g,0,none⟩))(hx:Sec x.s)(hg:AtW w g x)
  (hd:a.defers=[]) (hR:R (.returned (.agg x.c.toArray)) w):bodyPost Tryz.prog fn R .ret a w :=
 bodyPost_ret (results_cell_row h a.tmps w g _ _ _ _ hp hg b3l rfl (by rw[b0s];simp[Wr.c_len hx])) hd hR
theorem b9v(w:World):AtW (w.alloc (.cells #[Value.int IntKind.i64 0,Value.int IntKind.u8 0,Value.int IntKind.u8 0,Value.int IntKind.u8 0,Value.int IntKind.u8 0,Value.int IntKind.u8 0,Value.int IntKind.u8 0,Value.int IntKind.u8 0,Value.int IntKind.u8 0,Value.int IntKind.u8 0,Value.int IntKind.u8 0,Value.int IntKind.u8 0,Value.int IntKind.u8 0,Value.int IntKind.u8 0,Value.int IntKind.u8 0,Value.int IntKind.u8 0,Value.int IntKind.u8 0,Value.int IntKind.u8 0,Value.int IntKind.u8 0,Value.int IntKind.u8 0,Value.int IntKind.u8 0,Value.int IntKind.u8 0,Value.int IntKind.u8 0,Value.int IntKind.u8 0,Value.int IntKind.u8 0,Value.int IntKind.u8 0,Value.int IntKind.u8 0,Value.int IntKind.u8 0,Value.int IntKind.u8 0,Value.int IntKind.u8 0,Value.int IntKind.u8 0,Value.int IntKind.u8 0,Value.int IntKind.u8 0,Value.int IntKind.i64 0,Value.int IntKind.i64 0,Value.int IntKind.i64 0] 99)) w.heap.size w0:=c6p w
def AtT(w:World)(g:Nat)(k i:Int):Prop:=w.heap[g]? = some (.cells #[.int .i64 k,.int .i64 i] 97 (0,0))
theorem AtT.later{w w':World}{g:Nat}{k i:Int}(h:AtT w g k i)(hb:Below w.heap.size w w'):AtT w' g k i:=(hb.block g (Array.getElem?_eq_some_iff.1 h).1).trans h
theorem d0f{ops:Array Oper}{rest:List Oper}{o:Oper}{a:Act}{w:World}{Q:Exit→Act→World→Prop}(hgd:o.guard=none)(p:Operand)(ho:o.op = .load 97 p)
  (g:Nat) (hp:a.eval p = .pointer (some ⟨g,0,none⟩)) (k i:Int) (hg:AtT w g k i)
  (h:wpList Tryz.prog ops Q rest (a.put o.dst (.agg #[.int .i64 k,.int .i64 i])) w):wpList Tryz.prog ops Q (o::rest) a w :=
 wpList_load_row hgd 97 p ho g hp 97 _ _ _ hg Tryz.underlying97 rfl (by rw[a9w];rfl) h
set_option maxRecDepth 100000 in
set_option maxHeartbeats 1600000 in
theorem b4r(n:Int)(hn:0≤n∧n≤200)(x:Ino)(hx:x.ok)(k i:Int)(w:World):Calls Tryz.prog 65 #[.int .i64 n,aggI x,.agg #[.int .i64 k,.int .i64 i]] w (Rt w (.agg (Wr.c ⟨1+n,inoV x,k,i,0⟩).toArray)):=by
 have HI:=ι fun w=>b3i x hx w
 have HS:=ι (a3p hx.four)
 have H4:=ι hx.four
 obtain⟨s,hs⟩:∃s,inoV x=s:=⟨_,rfl⟩
 rw[hs] at HI HS ⊢
 generalize rightI x=rb at *
 have hbw:=a0b (a0b (a0b (Below.refl w.heap.size w) (.cells x.c.toArray 119)) (.cells #[.int .i64 k,.int .i64 i] 97)) (.cells #[Value.int IntKind.i64 0,Value.int IntKind.u8 0,Value.int IntKind.u8 0,Value.int IntKind.u8 0,Value.int IntKind.u8 0,Value.int IntKind.u8 0,Value.int IntKind.u8 0,Value.int IntKind.u8 0,Value.int IntKind.u8 0,Value.int IntKind.u8 0,Value.int IntKind.u8 0,Value.int IntKind.u8 0,Value.int IntKind.u8 0,Value.int IntKind.u8 0,Value.int IntKind.u8 0,Value.int IntKind.u8 0,Value.int IntKind.u8 0,Value.int IntKind.u8 0,Value.int IntKind.u8 0,Value.int IntKind.u8 0,Value.int IntKind.u8 0,Value.int IntKind.u8 0,Value.int IntKind.u8 0,Value.int IntKind.u8 0,Value.int IntKind.u8 0,Value.int IntKind.u8 0,Value.int IntKind.u8 0,Value.int IntKind.u8 0,Value.int IntKind.u8 0,Value.int IntKind.u8 0,Value.int IntKind.u8 0,Value.int IntKind.u8 0,Value.int IntKind.u8 0,Value.int IntKind.i64 0,Value.int IntKind.i64 0,Value.int IntKind.i64 0] 99)
 have a0:AtI (((w.alloc (.cells x.c.toArray 119)).alloc (.cells #[.int .i64 k,.int .i64 i] 97)).alloc (.cells #[Value.int IntKind.i64 0,Value.int IntKind.u8 0,Value.int IntKind.u8 0,Value.int IntKind.u8 0,Value.int IntKind.u8 0,Value.int IntKind.u8 0,Value.int IntKind.u8 0,Value.int IntKind.u8 0,Value.int IntKind.u8 0,Value.int IntKind.u8 0,Value.int IntKind.u8 0,Value.int IntKind.u8 0,Value.int IntKind.u8 0,Value.int IntKind.u8 0,Value.int IntKind.u8 0,Value.int IntKind.u8 0,Value.int IntKind.u8 0,Value.int IntKind.u8 0,Value.int IntKind.u8 0,Value.int IntKind.u8 0,Value.int IntKind.u8 0,Value.int IntKind.u8 0,Value.int IntKind.u8 0,Value.int IntKind.u8 0,Value.int IntKind.u8 0,Value.int IntKind.u8 0,Value.int IntKind.u8 0,Value.int IntKind.u8 0,Value.int IntKind.u8 0,Value.int IntKind.u8 0,Value.int IntKind.u8 0,Value.int IntKind.u8 0,Value.int IntKind.u8 0,Value.int IntKind.i64 0,Value.int IntKind.i64 0,Value.int IntKind.i64 0] 99)) w.heap.size x:=(a4n w x).later (a0b (a0b (Below.refl _ _) _) _)
 have a1:AtT (((w.alloc (.cells x.c.toArray 119)).alloc (.cells #[.int .i64 k,.int .i64 i] 97)).alloc (.cells #[Value.int IntKind.i64 0,Value.int IntKind.u8 0,Value.int IntKind.u8 0,Value.int IntKind.u8 0,Value.int IntKind.u8 0,Value.int IntKind.u8 0,Value.int IntKind.u8 0,Value.int IntKind.u8 0,Value.int IntKind.u8 0,Value.int IntKind.u8 0,Value.int IntKind.u8 0,Value.int IntKind.u8 0,Value.int IntKind.u8 0,Value.int IntKind.u8 0,Value.int IntKind.u8 0,Value.int IntKind.u8 0,Value.int IntKind.u8 0,Value.int IntKind.u8 0,Value.int IntKind.u8 0,Value.int IntKind.u8 0,Value.int IntKind.u8 0,Value.int IntKind.u8 0,Value.int IntKind.u8 0,Value.int IntKind.u8 0,Value.int IntKind.u8 0,Value.int IntKind.u8 0,Value.int IntKind.u8 0,Value.int IntKind.u8 0,Value.int IntKind.u8 0,Value.int IntKind.u8 0,Value.int IntKind.u8 0,Value.int IntKind.u8 0,Value.int IntKind.u8 0,Value.int IntKind.i64 0,Value.int IntKind.i64 0,Value.int IntKind.i64 0] 99)) (w.heap.size+1) k i:=by
  have h:AtT ((w.alloc (.cells x.c.toArray 119)).alloc (.cells #[.int .i64 k,.int .i64 i] 97)) (w.alloc (.cells x.c.toArray 119)).heap.size k i:=heap_alloc_new _ _
  rw[World.size_alloc] at h
  exact h.later (a0b (Below.refl _ _) _)
 have a2:=b9v ((w.alloc (.cells x.c.toArray 119)).alloc (.cells #[.int .i64 k,.int .i64 i] 97))
 rw[World.size_alloc,World.size_alloc] at a2
 obtain⟨W,hW⟩:∃W,((w.alloc (.cells x.c.toArray 119)).alloc (.cells #[.int .i64 k,.int .i64 i] 97)).alloc (.cells #[Value.int IntKind.i64 0,Value.int IntKind.u8 0,Value.int IntKind.u8 0,Value.int IntKind.u8 0,Value.int IntKind.u8 0,Value.int IntKind.u8 0,Value.int IntKind.u8 0,Value.int IntKind.u8 0,Value.int IntKind.u8 0,Value.int IntKind.u8 0,Value.int IntKind.u8 0,Value.int IntKind.u8 0,Value.int IntKind.u8 0,Value.int IntKind.u8 0,Value.int IntKind.u8 0,Value.int IntKind.u8 0,Value.int IntKind.u8 0,Value.int IntKind.u8 0,Value.int IntKind.u8 0,Value.int IntKind.u8 0,Value.int IntKind.u8 0,Value.int IntKind.u8 0,Value.int IntKind.u8 0,Value.int IntKind.u8 0,Value.int IntKind.u8 0,Value.int IntKind.u8 0,Value.int IntKind.u8 0,Value.int IntKind.u8 0,Value.int IntKind.u8 0,Value.int IntKind.u8 0,Value.int IntKind.u8 0,Value.int IntKind.u8 0,Value.int IntKind.u8 0,Value.int IntKind.i64 0,Value.int IntKind.i64 0,Value.int IntKind.i64 0] 99)=W:=⟨_,rfl⟩
 rw[hW] at hbw a0 a1 a2
 have HB0:=ι hbw
 have A0:=ι a0
 have A1:=ι a1
 have A2:=ι a2
 clear hx hs hbw a0 a1 a2
 go_enter Tryz.func65,Tryz.ntmps65
 go_upto_region 1 with fail
 try rw[hW]
 clear hW
 go_wp2_with (first|(refine a0s rfl (.tmp 4) rfl w.heap.size rfl x H4.out A0.out ?_)|(go_at_call 132;refine(HI.out _).mono ?_;rintro e w1 ⟨rfl,hb⟩;have B1:=ι (a0a HB0.out hb);have T1:=ι (A1.out.later hb);have X1:=ι (A2.out.later hb);clear hb)|(refine a0j rfl (.tmp 7) (.tmp 12) rfl rfl w1.heap.size s zero32 rfl rfl HS.out.1 (by decide) (a1a w1) ?_;intro w2 hA hB _;have hb:=(a0b (Below.refl _ w1) _).trans hB;have B2:=ι (a0a B1.out hb);have T2:=ι (T1.out.later hb);have X2:=ι (X1.out.later hb);have S2:=ι hA;clear hA hB hb)|(refine a1t rfl (.tmp 7) rfl w1.heap.size rfl s HS.out.1 S2.out ?_)|(refine d0f rfl (.tmp 5) rfl (w.heap.size+1) rfl k i T2.out ?_)|(refine wpList_buildTo rfl 99 #[(0,.tmp 15),(1,.tmp 16),(2,.tmp 17)] rfl (some 18) rfl (Wr.c ⟨1+n,s,k,i,0⟩).toArray ?hb ?hk;(case hb=>(simp only[List.map_toArray,List.map_cons,List.map_nil];exact a7s (1+n) k i s HS.out)))|(refine a7z rfl (.tmp 6) (.tmp 18) rfl rfl (w.heap.size+1+1) ⟨1+n,s,k,i,0⟩ w0 rfl rfl HS.out a0p X2.out ?_;intro w5 hA hB;have X5:=ι hA;have B5:=ι (B2.out.trans (hB.mono (show w.heap.size≤w.heap.size+1+1 by omega)));clear hA hB))
 exact c8v rfl (w.heap.size+1+1) ⟨1+n,s,k,i,0⟩ rfl HS.out X5.out rfl ⟨rfl,B5.out⟩
set_option maxRecDepth 100000 in
set_option maxHeartbeats 1600000 in
theorem a3n(n:Int)(hn:0≤n∧n≤200)(x:Ent)(hx:x.ok)(f:Int)(w:World):Calls Tryz.prog 67 #[.int .i64 n,aggE x,.int .i64 f] w (Rt w (.agg (Wr.c (wEnt n x f)).toArray)):=by
 have HI:=ι fun w=>b2q x hx w
 have HS:=ι (a1x x)
 unfold wEnt
 obtain⟨s,hs⟩:∃s,entV x=s:=⟨_,rfl⟩
 rw[hs] at HI HS ⊢
 generalize rightE x=rb at *
 have hbw:=a0b (a0b (Below.refl w.heap.size w) (.cells #[.bool x.used,.int .i64 x.parent,.string x.name,.int .i64 x.target] 123)) (.cells #[Value.int IntKind.i64 0,Value.int IntKind.u8 0,Value.int IntKind.u8 0,Value.int IntKind.u8 0,Value.int IntKind.u8 0,Value.int IntKind.u8 0,Value.int IntKind.u8 0,Value.int IntKind.u8 0,Value.int IntKind.u8 0,Value.int IntKind.u8 0,Value.int IntKind.u8 0,Value.int IntKind.u8 0,Value.int IntKind.u8 0,Value.int IntKind.u8 0,Value.int IntKind.u8 0,Value.int IntKind.u8 0,Value.int IntKind.u8 0,Value.int IntKind.u8 0,Value.int IntKind.u8 0,Value.int IntKind.u8 0,Value.int IntKind.u8 0,Value.int IntKind.u8 0,Value.int IntKind.u8 0,Value.int IntKind.u8 0,Value.int IntKind.u8 0,Value.int IntKind.u8 0,Value.int IntKind.u8 0,Value.int IntKind.u8 0,Value.int IntKind.u8 0,Value.int IntKind.u8 0,Value.int IntKind.u8 0,Value.int IntKind.u8 0,Value.int IntKind.u8 0,Value.int IntKind.i64 0,Value.int IntKind.i64 0,Value.int IntKind.i64 0] 99)
 have a0:AtE ((w.alloc (.cells #[.bool x.used,.int .i64 x.parent,.string x.name,.int .i64 x.target] 123)).alloc (.cells #[Value.int IntKind.i64 0,Value.int IntKind.u8 0,Value.int IntKind.u8 0,Value.int IntKind.u8 0,Value.int IntKind.u8 0,Value.int IntKind.u8 0,Value.int IntKind.u8 0,Value.int IntKind.u8 0,Value.int IntKind.u8 0,Value.int IntKind.u8 0,Value.int IntKind.u8 0,Value.int IntKind.u8 0,Value.int IntKind.u8 0,Value.int IntKind.u8 0,Value.int IntKind.u8 0,Value.int IntKind.u8 0,Value.int IntKind.u8 0,Value.int IntKind.u8 0,Value.int IntKind.u8 0,Value.int IntKind.u8 0,Value.int IntKind.u8 0,Value.int IntKind.u8 0,Value.int IntKind.u8 0,Value.int IntKind.u8 0,Value.int IntKind.u8 0,Value.int IntKind.u8 0,Value.int IntKind.u8 0,Value.int IntKind.u8 0,Value.int IntKind.u8 0,Value.int IntKind.u8 0,Value.int IntKind.u8 0,Value.int IntKind.u8 0,Value.int IntKind.u8 0,Value.int IntKind.i64 0,Value.int IntKind.i64 0,Value.int IntKind.i64 0] 99)) w.heap.size x:=(a1f w x).later (a0b (Below.refl _ _) _)
 have a2:=b9v (w.alloc (.cells #[.bool x.used,.int .i64 x.parent,.string x.name,.int .i64 x.target] 123))
 rw[World.size_alloc] at a2
 obtain⟨W,hW⟩:∃W,(w.alloc (.cells #[.bool x.used,.int .i64 x.parent,.string x.name,.int .i64 x.target] 123)).alloc (.cells #[Value.int IntKind.i64 0,Value.int IntKind.u8 0,Value.int IntKind.u8 0,Value.int IntKind.u8 0,Value.int IntKind.u8 0,Value.int IntKind.u8 0,Value.int IntKind.u8 0,Value.int IntKind.u8 0,Value.int IntKind.u8 0,Value.int IntKind.u8 0,Value.int IntKind.u8 0,Value.int IntKind.u8 0,Value.int IntKind.u8 0,Value.int IntKind.u8 0,Value.int IntKind.u8 0,Value.int IntKind.u8 0,Value.int IntKind.u8 0,Value.int IntKind.u8 0,Value.int IntKind.u8 0,Value.int IntKind.u8 0,Value.int IntKind.u8 0,Value.int IntKind.u8 0,Value.int IntKind.u8 0,Value.int IntKind.u8 0,Value.int IntKind.u8 0,Value.int IntKind.u8 0,Value.int IntKind.u8 0,Value.int IntKind.u8 0,Value.int IntKind.u8 0,Value.int IntKind.u8 0,Value.int IntKind.u8 0,Value.int IntKind.u8 0,Value.int IntKind.u8 0,Value.int IntKind.i64 0,Value.int IntKind.i64 0,Value.int IntKind.i64 0] 99)=W:=⟨_,rfl⟩
 rw[hW] at hbw a0 a2
 have HB0:=ι hbw
 have A0:=ι a0
 have A2:=ι a2
 clear hx hs hbw a0 a2
 go_enter Tryz.func67,Tryz.ntmps67
 go_upto_region 1 with fail
 try rw[hW]
 clear hW
 go_wp2_with (first|(refine a0t rfl (.tmp 4) rfl w.heap.size rfl x A0.out ?_)|(go_at_call 134;refine(HI.out _).mono ?_;rintro e w1 ⟨rfl,hb⟩;have B1:=ι (a0a HB0.out hb);have X1:=ι (A2.out.later hb);clear hb)|(refine a0j rfl (.tmp 7) (.tmp 12) rfl rfl w1.heap.size s zero32 rfl rfl HS.out.1 (by decide) (a1a w1) ?_;intro w2 hA hB _;have hb:=(a0b (Below.refl _ w1) _).trans hB;have B2:=ι (a0a B1.out hb);have X2:=ι (X1.out.later hb);have S2:=ι hA;clear hA hB hb)|(refine a1t rfl (.tmp 7) rfl w1.heap.size rfl s HS.out.1 S2.out ?_)|(refine wpList_buildTo rfl 99 #[(0,.tmp 15),(1,.tmp 16),(2,.tmp 18)] rfl (some 19) rfl (Wr.c ⟨17+n,s,3,f,0⟩).toArray ?hb ?hk;(case hb=>(simp only[List.map_toArray,List.map_cons,List.map_nil];exact a7s (17+n) 3 f s HS.out)))|(refine a7z rfl (.tmp 6) (.tmp 19) rfl rfl (w.heap.size+1) ⟨17+n,s,3,f,0⟩ w0 rfl rfl HS.out a0p X2.out ?_;intro w5 hA hB;have X5:=ι hA;have B5:=ι (B2.out.trans (hB.mono (show w.heap.size≤w.heap.size+1 by omega)));clear hA hB))
 exact c8v rfl (w.heap.size+1) ⟨17+n,s,3,f,0⟩ rfl HS.out X5.out rfl ⟨rfl,B5.out⟩
end fs
namespace fs
set_option maxRecDepth 100000
open Go.ChangeShapes Go.WideShapes Go.ChangeAt Go.RowKit
open rows
open sec
open dsk (St Wr Wr.ok Wr.c Wr.c_len RefIs RefAt RefDone a4g a0q elem_wrs a1r a0c)
open ly
open pa
open lk
open al
theorem a3b{ss:List (List Int)}(hs:Secs ss)(s:ByteArray):0≤(placeV ss s).1.dir∧(placeV ss s).1.dir≤255∧0≤(placeV ss s).1.k∧(placeV ss s).1.k<24:=by
 have h0:0≤spot0.dir∧spot0.dir≤255∧0≤spot0.k∧spot0.k<24:=by decide
 unfold placeV
 split
 ·exact h0
 ·split
  ·exact h0
  ·split
   ·exact h0
   ·have h1:=a5a hs (bys (strOfNums (parL (bys s))))
    refine⟨h1.1,h1.2,by simp,?_⟩
    cases hf:findO ss (lookV ss (bys (strOfNums (parL (bys s))))).1 (strOfNums (lastL (bys s))) with
    | none=>simp
    | some k=>have:=b0b hf;simp;omega
theorem a3d(w:World):AtS (w.alloc (.cells #[.int .i64 0,.string { data := #[] },.int .i64 0,.bool false] 111)) w.heap.size spot0:=heap_alloc_new _ _
theorem AtS.cell0{w:World}{g:Nat}{x:Spot}(h:AtS w g x):w.cell? ⟨g,0,none⟩=some (.int .i64 x.dir):=a0c h 0 _ rfl
theorem AtS.cell1{w:World}{g:Nat}{x:Spot}(h:AtS w g x):w.cell? ⟨g,1,none⟩=some (.string x.name):=a0c h 1 _ rfl
theorem AtS.cell2{w:World}{g:Nat}{x:Spot}(h:AtS w g x):w.cell? ⟨g,2,none⟩=some (.int .i64 x.k):=a0c h 2 _ rfl
theorem AtS.cell3{w:World}{g:Nat}{x:Spot}(h:AtS w g x):w.cell? ⟨g,3,none⟩=some (.bool x.is):=a0c h 3 _ rfl
theorem a0u{w w':World}{S:Nat→Prop}{g:Nat}{st:St}(h:RefIs w S g st)(hb:Below w.heap.size w w'):RefIs w' S g st:=by
 obtain⟨vs,vw,vl,vb,h⟩:=h
 exact⟨vs,vw,vl,vb,a4g h hb⟩
theorem a1o{S:Nat→Prop}{g:Nat}{w w1:World}{r:Int×St}{e:Ending}{w':World}(hb:Below w.heap.size w w1)(h:RefDone S g w1 r e w'):RefDone S g w r e w':=by
 obtain⟨h1,h2,h3⟩:=h
 refine⟨h1,a4y h2 fun b hb' => ?_,(dsk.Touch.of_below hb).trans h3⟩
 rcases hb' with h|h
 ·exact Or.inl h
 ·exact Or.inr ⟨Nat.le_trans hb.size h.1,h.2⟩
theorem a0n{S:Nat→Prop}{g:Nat}{w w1:World}{st:St}{x:Int}(h:RefIs w S g st)(hb:Below w.heap.size w w1):RefDone S g w (x,st) (.returned (.int .i64 x)) w1 :=
 ⟨rfl,a4y (a0u h hb) fun b hb=>Or.inl hb,dsk.Touch.of_below hb⟩
theorem b5a{ss:List (List Int)}{d:Int}{l:List ByteArray}(h:IsList ss d l):decide (0<(l.length:Int))=fullB ss d:=by
 rw[fullB,Bool.eq_iff_iff,decide_eq_true_eq,List.any_eq_true]
 constructor
 ·intro hl
  cases l with
  | nil=>simp at hl
  | cons x r =>
   obtain⟨j,h1,h2,h3,_⟩:=(h.2 x).1 (List.mem_cons_self ..)
   exact⟨j,List.mem_range.2 h1,by rw[atB,h2,h3];simp⟩
 ·rintro⟨j,h1,h2⟩
  rw[atB,Bool.and_eq_true,decide_eq_true_eq] at h2
  have:=(h.2 _).2 ⟨j,List.mem_range.1 h1,h2.1,h2.2,rfl⟩
  have:=List.length_pos_of_mem this
  omega
set_option maxRecDepth 100000 in
set_option maxHeartbeats 3200000 in
theorem b9i(S:Nat→Prop)(g:Nat)(st:St)(w:World)(h:RefIs w S g st)(k:Nat)(hg:st.good k)(hk:k+10≤900)(s:ByteArray)(hsz:s.size≤100000) :
  Calls Tryz.prog 20 #[.pointer (some ⟨g,0,none⟩),.string s] w (RefDone S g w (unlinkV st s)):=by
 have HR:=ι h
 have HGT:=ι (dsk.RefIs.lt h)
 have HN:Hid (Calls Tryz.prog 24 #[.pointer (some ⟨g,0,none⟩)] w fun e w'=>∃q c,e = .returned (.slice q st.safe.length c)∧Rd w' 32 (.slice q st.safe.length c) st.safe.length (cellsOf (nowL st))∧Below w.heap.size w w'):=ι (by
  obtain⟨vs,vw,vl,vb,h⟩:=h
  exact b3r S g st vs vw vl vb w h hg.ss (fun x hx=>(hg.ws x hx).1) (fun x hx=>(hg.ws x hx).2) hg.n1 (by have:=hg.wn;omega))
 have hsec:Secs (nowL st):=b4y hg.ss fun x hx=>(hg.ws x hx).1
 have hn1:=hg.n1
 have HP:=ι fun q c w' (hr:Rd w' 32 (.slice q st.safe.length c) st.safe.length (cellsOf (nowL st)))=>a6s q st.safe.length c (nowL st) w' hr hsec (by omega) s hsz
 have hpf:=a3b hsec s
 have HE:=ι fun q c w' (hr:Rd w' 32 (.slice q st.safe.length c) st.safe.length (cellsOf (nowL st)))=>a4q q st.safe.length c (nowL st) w' hr hsec (by omega) (placeV (nowL st) s).1.k (a0h (by omega))
 have htf:=a3x hsec (placeV (nowL st) s).1.k
 have HI:=ι fun q c w' (hr:Rd w' 32 (.slice q st.safe.length c) st.safe.length (cellsOf (nowL st)))=>a5o q st.safe.length c (nowL st) w' hr hsec (by omega) (entAt (nowL st) (placeV (nowL st) s).1.k).target (a0h (by omega))
 have HL:=ι fun q c w' (hr:Rd w' 32 (.slice q st.safe.length c) st.safe.length (cellsOf (nowL st)))=>c7u q st.safe.length c (nowL st) w' hr hsec (by omega) (entAt (nowL st) (placeV (nowL st) s).1.k).target (a0h (by omega))
 have H4:=a1m hsec (entAt (nowL st) (placeV (nowL st) s).1.k).target
 have HO:=ι fun w'=>a3n (placeV (nowL st) s).1.k (by omega) ent0 a8w (placeV (nowL st) s).1.dir w'
 have hwok:=a2x (k:=(placeV (nowL st) s).1.k) (f:=(placeV (nowL st) s).1.dir) (x:=ent0) (by omega) (by omega)
 have HD:=ι fun(x:Wr) (hx:x.ok) (w1:World) (hb:Below w.heap.size w w1)=>b4v S g st [x] (some ⟨w1.heap.size,0,none⟩) 1 1 (w1.alloc (.cells x.c.toArray 99)) (a0u h (a0b hb _)) k hg (by omega) (by omega) (by
  have:=a1r w1 99 36 x.c (Wr.c_len hx.1)
  simpa [dsk.wrsC] using this) (fun a m c hv hm=>by
  cases hv
  have h1:g<w.heap.size:=by obtain⟨vs,vw,vl,vb,h⟩:=h;exact dsk.RefAt.lt h
  have:=hb.size
  show w1.heap.size≠g
  omega) (fun y hy=>by rw[List.mem_singleton.1 hy];exact hx)
 have HDO:=ι (HD.out _ hwok)
 obtain⟨V,hV⟩:∃V,unlinkV st s=V:=⟨_,rfl⟩
 rw[hV]
 unfold unlinkV at hV
 have HFB:=ι fun l (h:IsList (nowL st) (entAt (nowL st) (placeV (nowL st) s).1.k).target l)=>b5a h
 generalize fullB (nowL st) (entAt (nowL st) (placeV (nowL st) s).1.k).target=fb at *
 have hf1:=fieldI0 (inoAt (nowL st) (entAt (nowL st) (placeV (nowL st) s).1.k).target) H4
 obtain⟨kd,hkd⟩:∃kd,(inoAt (nowL st) (entAt (nowL st) (placeV (nowL st) s).1.k).target).kind=kd:=⟨_,rfl⟩
 rw[hkd] at hV hf1
 generalize aggI (inoAt (nowL st) (entAt (nowL st) (placeV (nowL st) s).1.k).target)=yv at *
 have hf3:=fieldE3 (entAt (nowL st) (placeV (nowL st) s).1.k)
 obtain⟨tg,htg⟩:∃tg,(entAt (nowL st) (placeV (nowL st) s).1.k).target=tg:=⟨_,rfl⟩
 rw[htg] at hf3 HI HL HFB htf
 generalize aggE (entAt (nowL st) (placeV (nowL st) s).1.k)=xv at *
 obtain⟨wr,hwr⟩:∃wr,wEnt (placeV (nowL st) s).1.k ent0 (placeV (nowL st) s).1.dir=wr:=⟨_,rfl⟩
 rw[hwr] at hV HO HDO hwok
 generalize placeV (nowL st) s=P at *
 obtain⟨sp,er⟩:=P
 simp only at hV HP HE HO hpf
 have HWK:=ι hwok
 generalize nowL st=L at *
 generalize st.safe.length=n at *
 clear hkd htg hwr HD hsec hwok
 clear h hg hk hsz
 by_cases he:er=0
 ·subst he
  rw[if_neg (by simp)] at hV
  cases his:sp.is with
  | false =>
   rw[his,if_pos rfl] at hV
   subst hV
   go_enter Tryz.func20,Tryz.ntmps20
   go_wp2_with (first|(go_at_call 24;refine HN.out.mono ?_;rintro e w1 ⟨q,c,rfl,hr,hb⟩;have R1:=ι hr;have B1:=ι hb;clear hr hb)|(go_at_call 62;refine(HP.out _ _ _ R1.out).mono ?_;rintro e w2 ⟨rfl,hb⟩;have B2:=ι (a0a B1.out hb);clear hb)|(refine a1d rfl (.tmp 6) (.tmp 15) rfl rfl w2.heap.size sp spot0 rfl rfl (a3d w2) ?_;intro w3 hA hB;have B3:=ι (a0a B2.out ((a0b (Below.refl _ w2) _).trans hB));have s3:=hA.cell3;rw[his] at s3;clear hA hB))
   go_ret
   exact a0n HR.out B3.out
  | true =>
   rw[his,if_neg (by decide)] at hV
   by_cases hk2:kd=2
   ·subst hk2
    cases fb with
    | true =>
     rw[if_pos ⟨rfl,rfl⟩] at hV
     subst hV
     go_enter Tryz.func20,Tryz.ntmps20
     go_wp2_with (first|(go_at_call 24;refine HN.out.mono ?_;rintro e w1 ⟨q,c,rfl,hr,hb⟩;have R1:=ι hr;have B1:=ι hb;clear hr hb)|(go_at_call 62;refine(HP.out _ _ _ R1.out).mono ?_;rintro e w2 ⟨rfl,hb⟩;have B2:=ι (a0a B1.out hb);have R2:=ι (R1.out.later hb);clear hb)|(refine a1d rfl (.tmp 6) (.tmp 15) rfl rfl w2.heap.size sp spot0 rfl rfl (a3d w2) ?_;intro w3 hA hB;have hb:=(a0b (Below.refl _ w2) _).trans hB;have B3:=ι (a0a B2.out hb);have R3:=ι (R2.out.later hb);have s3:=hA.cell3;rw[his] at s3;have s2:=hA.cell2;have S3:=ι hA;clear hA hB hb)|(go_at_call 72;refine(HE.out _ _ _ R3.out).mono ?_;rintro e w4 ⟨rfl,hb⟩;have B4:=ι (a0a B3.out hb);have R4:=ι (R3.out.later hb);have S4:=ι (S3.out.later hb);clear hb)|(go_at_call 73;refine(HI.out _ _ _ R4.out).mono ?_;rintro e w5 ⟨rfl,hb⟩;have B5:=ι (a0a B4.out hb);have R5:=ι (R4.out.later hb);have S5:=ι (S4.out.later hb);have p0:=S5.out.cell0;have p2:=S5.out.cell2;clear hb)|(go_at_call 76;refine(HL.out _ _ _ R5.out).mono ?_;rintro e w6 ⟨l,q6,m6,k6,hl,rfl,hm6,hr6,hb⟩;have B6:=ι (a0a B5.out hb);have S6:=ι (S5.out.later hb);have u0:=S6.out.cell0;have u2:=S6.out.cell2;have hfb:=HFB.out l hl;rw[← hm6] at hfb;have hfc:decide (0<m6)=decide (0<(m6:Int)):=(by simp);rw[hfb] at hfc;clear hb hl hr6 hm6))
     go_ret
     exact a0n HR.out B6.out
    | false =>
     rw[if_neg (by simp)] at hV
     subst hV
     go_enter Tryz.func20,Tryz.ntmps20
     go_wp2_with (first|(go_at_call 24;refine HN.out.mono ?_;rintro e w1 ⟨q,c,rfl,hr,hb⟩;have R1:=ι hr;have B1:=ι hb;clear hr hb)|(go_at_call 62;refine(HP.out _ _ _ R1.out).mono ?_;rintro e w2 ⟨rfl,hb⟩;have B2:=ι (a0a B1.out hb);have R2:=ι (R1.out.later hb);clear hb)|(refine a1d rfl (.tmp 6) (.tmp 15) rfl rfl w2.heap.size sp spot0 rfl rfl (a3d w2) ?_;intro w3 hA hB;have hb:=(a0b (Below.refl _ w2) _).trans hB;have B3:=ι (a0a B2.out hb);have R3:=ι (R2.out.later hb);have s3:=hA.cell3;rw[his] at s3;have s2:=hA.cell2;have S3:=ι hA;clear hA hB hb)|(go_at_call 72;refine(HE.out _ _ _ R3.out).mono ?_;rintro e w4 ⟨rfl,hb⟩;have B4:=ι (a0a B3.out hb);have R4:=ι (R3.out.later hb);have S4:=ι (S3.out.later hb);clear hb)|(go_at_call 73;refine(HI.out _ _ _ R4.out).mono ?_;rintro e w5 ⟨rfl,hb⟩;have B5:=ι (a0a B4.out hb);have R5:=ι (R4.out.later hb);have S5:=ι (S4.out.later hb);have p0:=S5.out.cell0;have p2:=S5.out.cell2;clear hb)|(go_at_call 76;refine(HL.out _ _ _ R5.out).mono ?_;rintro e w6 ⟨l,q6,m6,k6,hl,rfl,hm6,hr6,hb⟩;have B6:=ι (a0a B5.out hb);have S6:=ι (S5.out.later hb);have u0:=S6.out.cell0;have u2:=S6.out.cell2;have hfb:=HFB.out l hl;rw[← hm6] at hfb;have hfc:decide (0<m6)=decide (0<(m6:Int)):=(by simp);rw[hfb] at hfc;clear hb hl hr6 hm6)|(go_at_call 67;refine(HO.out _).mono ?_;rintro e w7 ⟨rfl,hb⟩;have B7:=ι (a0a B6.out hb);clear hb)|(refine a0q elem_wrs (by decide) rfl (.tmp 46) rfl wr.c rfl (Wr.c_len HWK.out.1) ?_)|(go_at_call 66;refine(HDO.out w7 B7.out).mono ?_;rintro e w8 hd8;have D8:=ι (a1o (a0b B7.out _) hd8);obtain⟨rfl,_⟩:=hd8))
     go_ret
     exact D8.out
   ·rw[if_neg (fun hh=>hk2 hh.1)] at hV
    subst hV
    have hkb:(kd == 2)=false:=beq_eq_false_iff_ne.2 hk2
    go_enter Tryz.func20,Tryz.ntmps20
    go_wp2_with (first|(go_at_call 24;refine HN.out.mono ?_;rintro e w1 ⟨q,c,rfl,hr,hb⟩;have R1:=ι hr;have B1:=ι hb;clear hr hb)|(go_at_call 62;refine(HP.out _ _ _ R1.out).mono ?_;rintro e w2 ⟨rfl,hb⟩;have B2:=ι (a0a B1.out hb);have R2:=ι (R1.out.later hb);clear hb)|(refine a1d rfl (.tmp 6) (.tmp 15) rfl rfl w2.heap.size sp spot0 rfl rfl (a3d w2) ?_;intro w3 hA hB;have hb:=(a0b (Below.refl _ w2) _).trans hB;have B3:=ι (a0a B2.out hb);have R3:=ι (R2.out.later hb);have s3:=hA.cell3;rw[his] at s3;have s2:=hA.cell2;have S3:=ι hA;clear hA hB hb)|(go_at_call 72;refine(HE.out _ _ _ R3.out).mono ?_;rintro e w4 ⟨rfl,hb⟩;have B4:=ι (a0a B3.out hb);have R4:=ι (R3.out.later hb);have S4:=ι (S3.out.later hb);clear hb)|(go_at_call 73;refine(HI.out _ _ _ R4.out).mono ?_;rintro e w5 ⟨rfl,hb⟩;have B5:=ι (a0a B4.out hb);have R5:=ι (R4.out.later hb);have S5:=ι (S4.out.later hb);have p0:=S5.out.cell0;have p2:=S5.out.cell2;clear hb)|(go_at_call 67;refine(HO.out _).mono ?_;rintro e w7 ⟨rfl,hb⟩;have B7:=ι (a0a B5.out hb);clear hb)|(refine a0q elem_wrs (by decide) rfl (.tmp 46) rfl wr.c rfl (Wr.c_len HWK.out.1) ?_)|(go_at_call 66;refine(HDO.out w7 B7.out).mono ?_;rintro e w8 hd8;have D8:=ι (a1o (a0b B7.out _) hd8);obtain⟨rfl,_⟩:=hd8))
    go_ret
    exact D8.out
 ·rw[if_pos he] at hV
  subst hV
  have heb:(er != 0)=true:=by simpa using he
  go_enter Tryz.func20,Tryz.ntmps20
  go_wp2_with (first|(go_at_call 24;refine HN.out.mono ?_;rintro e w1 ⟨q,c,rfl,hr,hb⟩;have R1:=ι hr;have B1:=ι hb;clear hr hb)|(go_at_call 62;refine(HP.out _ _ _ R1.out).mono ?_;rintro e w2 ⟨rfl,hb⟩;have B2:=ι (a0a B1.out hb);clear hb)|(refine a1d rfl (.tmp 6) (.tmp 15) rfl rfl w2.heap.size sp spot0 rfl rfl (a3d w2) ?_;intro w3 hA hB;have B3:=ι (a0a B2.out ((a0b (Below.refl _ w2) _).trans hB));clear hA hB))
  go_ret
  exact a0n HR.out B3.out
end fs
namespace fs
set_option maxRecDepth 100000
open Go.ChangeShapes Go.WideShapes Go.ChangeAt Go.RowKit
open rows
open sec
open dsk (St Wr Wr.ok Wr.c Wr.c_len wrsC w0 RefIs RefAt RefDone elem_wrs a1e AtW a7z b6a a0l)
open ly
open pa
open lk
open al
theorem a5m{S:Nat→Prop}{g:Nat}{st:St}{w:World}(h:RefIs w S g st){k:Nat}(hg:st.good k)(hk:k≤900):Calls Tryz.prog 24 #[.pointer (some ⟨g,0,none⟩)] w fun e w'=>∃q c,e = .returned (.slice q st.safe.length c)∧Rd w' 32 (.slice q st.safe.length c) st.safe.length (cellsOf (nowL st))∧Below w.heap.size w w':=by
 obtain⟨vs,vw,vl,vb,h⟩:=h
 exact b3r S g st vs vw vl vb w h hg.ss (fun x hx=>(hg.ws x hx).1) (fun x hx=>(hg.ws x hx).2) hg.n1 (by have:=hg.wn;omega)
theorem a3t{st:St}{k:Nat}(hg:st.good k):Secs (nowL st):=b4y hg.ss fun x hx=>(hg.ws x hx).1
theorem d0m(l:List Int):(lastL l).length≤8∧∀x∈lastL l,0≤x∧x<256:=by
 unfold lastL
 split
 ·rename_i n ns h
  have hm:(n::ns).getLastD []∈(n::ns):=by
   rw[List.getLastD_eq_getLast?,List.getLast?_eq_some_getLast (by simp),Option.getD_some]
   exact List.getLast_mem _
  have hn:=(a1h h).2.1 _ hm
  exact⟨(a7j hn).2,a8v hn⟩
 ·simp
theorem a6k(ss:List (List Int))(s:ByteArray):(placeV ss s).1.name.size≤8:=by
 have h0:spot0.name.size≤8:=by decide
 unfold placeV
 split
 ·exact h0
 ·split
  ·exact h0
  ·split
   ·exact h0
   ·obtain⟨h1,h2⟩:=d0m (bys s)
    show (strOfNums (lastL (bys s))).size≤8
    rw[← a1v,a7w h2]
    exact h1
theorem c7s(w:World)(x y:Wr)(hx:Sec x.s)(hy:Sec y.s):Rd (w.alloc (.cells (x.c++y.c).toArray 99)) 36 (.slice (some ⟨w.heap.size,0,none⟩) 2 2) 2 (wrsC [x,y]):=by
 have e:wrsC [x,y]=x.c++y.c:=by simp[wrsC]
 rw[e]
 refine Or.inr ⟨w.heap.size,0,2,rfl,by omega,Nat.le_refl _,by unfold maxLen;omega,by simp,by simp[Wr.c_len hx,Wr.c_len hy],fun i u hi => ?_⟩
 rw[Nat.zero_add,World.cell?_alloc_new]
 simpa using hi
theorem d1i(cs ds:List Value)(u v:Value)(hu:u.cells=cs.toArray)(hv:v.cells=ds.toArray)(hs:cs.length=36)(hd:ds.length=36)(old:Array Value)(ho:old.size=72):Instr.fill (fun i=>some (i * 36,36)) old [(0,u),(1,v)]=some (cs++ds).toArray:=by
 have e:old=old.toList.toArray:=by simp
 have hol:old.toList.length=72:=by simpa using ho
 generalize old.toList=l at *
 subst e
 rw[a1e _ _ 0 0 36 u cs _ (by simp) hu hs (by omega),a1e _ _ 1 36 36 v ds _ (by simp) hv hd (by simp[hs];omega)]
 have e1:(l.take 0++cs++l.drop (0+36)).take 36=cs:=by
  rw[List.take_zero,List.nil_append,List.take_left' hs]
 have e2:(l.take 0++cs++l.drop (0+36)).drop (36+36)=[]:=by
  apply List.drop_of_length_le
  simp[hs];omega
 rw[e1,e2,List.append_nil]
 rfl
theorem b8m{ops:Array Oper}{o:Oper}{a:Act}{w:World}{K:Act→World→Prop}{Q:Exit→Act→World→Prop}{F:Prop}(hw:Region.wanted o (yielded ops a.tmps)=true)(x y:Operand)(ho:o.op = .buildSlice 54 2 #[(0,x),(1,y)])
  (p q:Wr) (hp:Sec p.s) (hq:Sec q.s) (hx:a.eval x = .agg p.c.toArray) (hy:a.eval y = .agg q.c.toArray) (h:K (a.put o.dst (.slice (some ⟨w.heap.size,0,none⟩) 2 2)) (w.alloc (.cells (p.c++q.c).toArray 99))):if Region.wanted o (yielded ops a.tmps)=true then Oper.wp Tryz.prog o a w K Q else F:=by
 rw[if_pos hw]
 obtain⟨ie,hi,hz0,hz1,hz2⟩:=info_parts elem_wrs.info
 refine wp_buildSlice 54 99 2 #[(0,x),(1,y)] ho (p.c++q.c).toArray ie _ elem_wrs.und hi hz0 (by rw[hz1];omega) (by rw[hz1];omega) ?_ h
 rw[hz1]
 simp only[List.map_toArray,List.map_cons,List.map_nil,hx,hy]
 exact d1i p.c q.c _ _ rfl rfl (Wr.c_len hp) (Wr.c_len hq) _ (by simp)
theorem b2s{kind:Int}(h:0≤kind∧kind<256):(⟨kind,0,[0,0,0,0]⟩:Ino).ok:=⟨rfl,a0h h,a0h (by show (0:Int)≤0∧(0:Int)<256;omega),fun z hz=>by
 have:z=0:=by simpa using hz
 subst this
 exact a0h (by omega)⟩
set_option maxRecDepth 100000 in
set_option maxHeartbeats 3200000 in
theorem c5n(S:Nat→Prop)(g:Nat)(st:St)(w:World)(h:RefIs w S g st)(k:Nat)(hg:st.good k)(hk:k+10≤900)(s:ByteArray)(hsz:s.size≤100000)(kind:Int)(hkd:0≤kind∧kind<256) :
  Calls Tryz.prog 15 #[.pointer (some ⟨g,0,none⟩),.string s,.int .i64 kind] w (RefDone S g w (makeV st s kind)):=by
 have HR:=ι h
 have hgl:g<w.heap.size:=by obtain⟨vs,vw,vl,vb,h⟩:=h;exact dsk.RefAt.lt h
 have HN:=ι (a5m h hg (by omega))
 have hsec:=a3t hg
 have hn1:=hg.n1
 have HP:=ι fun q c w' (hr:Rd w' 32 (.slice q st.safe.length c) st.safe.length (cellsOf (nowL st)))=>a6s q st.safe.length c (nowL st) w' hr hsec (by omega) s hsz
 have hpf:=a3b hsec s
 have HFI:=ι fun q c w' (hr:Rd w' 32 (.slice q st.safe.length c) st.safe.length (cellsOf (nowL st)))=>c9h q st.safe.length c (nowL st) w' hr hsec (by omega)
 have HFE:=ι fun q c w' (hr:Rd w' 32 (.slice q st.safe.length c) st.safe.length (cellsOf (nowL st)))=>c0v q st.safe.length c (nowL st) w' hr hsec (by omega)
 have HNM:=ι (show (placeV (nowL st) s).1.name.size≤maxLen by have:=a6k (nowL st) s;unfold maxLen;omega)
 obtain⟨V,hV⟩:∃V,makeV st s kind=V:=⟨_,rfl⟩
 rw[hV]
 unfold makeV at hV
 have hfi:∀n,frI (nowL st)=some n→n<16:=fun n hn=>(a2z hn).1
 have hfe:∀n,frE (nowL st)=some n→n<24:=fun n hn=>(a2z hn).1
 generalize placeV (nowL st) s=P at *
 obtain⟨sp,er⟩:=P
 simp only at hV HP hpf HNM
 generalize frI (nowL st)=fi at *
 generalize frE (nowL st)=fe at *
 have HDD:=ι fun(ws:List Wr) (m:Nat) (hm:m≤10) p c w1 (hh:RefIs w1 S g st) (hr:Rd w1 36 (.slice p m c) m (wrsC ws)) (hin:dsk.InS (fun b=>b≠g) (.slice p m c)) (hok:∀x∈ws,x.ok)=>b4v S g st ws p m c w1 hh k hg (by omega) (by omega) hr hin hok
 generalize nowL st=L at *
 generalize st.safe.length=n at *
 clear h hg hk hsz hsec
 by_cases he:er=0
 ·subst he
  rw[if_neg (by simp)] at hV
  cases his:sp.is with
  | true =>
   rw[his,if_pos rfl] at hV
   subst hV
   clear HDD
   go_enter Tryz.func15,Tryz.ntmps15
   go_wp2_with (first|(go_at_call 24;refine HN.out.mono ?_;rintro e w1 ⟨q,c,rfl,hr,hb⟩;have R1:=ι hr;have B1:=ι hb;clear hr hb)|(go_at_call 62;refine(HP.out _ _ _ R1.out).mono ?_;rintro e w2 ⟨rfl,hb⟩;have B2:=ι (a0a B1.out hb);clear hb)|(refine a1d rfl (.tmp 8) (.tmp 21) rfl rfl w2.heap.size sp spot0 rfl rfl (a3d w2) ?_;intro w3 hA hB;have B3:=ι (a0a B2.out ((a0b (Below.refl _ w2) _).trans hB));have s3:=hA.cell3;rw[his] at s3;clear hA hB))
   go_ret
   exact a0n HR.out B3.out
  | false =>
   rw[his,if_neg (by decide)] at hV
   by_cases hno:fi=none∨fe=none
   ·have hV2:V=(2,st):=by
     rw[← hV]
     rcases hno with h|h
     ·rw[h]
     ·rw[h];cases fi<;>rfl
    subst hV2
    clear hV HDD
    cases fi with
    | none =>
     rw[a2h] at HFI
     cases fe with
     | none =>
      rw[a2h] at HFE
      go_enter Tryz.func15,Tryz.ntmps15
      go_wp2_with (first|(go_at_call 24;refine HN.out.mono ?_;rintro e w1 ⟨q,c,rfl,hr,hb⟩;have R1:=ι hr;have B1:=ι hb;clear hr hb)|(go_at_call 62;refine(HP.out _ _ _ R1.out).mono ?_;rintro e w2 ⟨rfl,hb⟩;have B2:=ι (a0a B1.out hb);have R2:=ι (R1.out.later hb);clear hb)|(refine a1d rfl (.tmp 8) (.tmp 21) rfl rfl w2.heap.size sp spot0 rfl rfl (a3d w2) ?_;intro w3 hA hB;have hb:=(a0b (Below.refl _ w2) _).trans hB;have B3:=ι (a0a B2.out hb);have R3:=ι (R2.out.later hb);have s3:=hA.cell3;rw[his] at s3;clear hA hB hb)|(go_at_call 63;refine(HFI.out _ _ _ R3.out).mono ?_;rintro e w4 ⟨rfl,hb⟩;have B4:=ι (a0a B3.out hb);have R4:=ι (R3.out.later hb);clear hb)|(go_at_call 64;refine(HFE.out _ _ _ R4.out).mono ?_;rintro e w5 ⟨rfl,hb⟩;have B5:=ι (a0a B4.out hb);clear hb))
      go_ret
      exact a0n HR.out B5.out
     | some b =>
      rw[a2i] at HFE
      go_enter Tryz.func15,Tryz.ntmps15
      go_wp2_with (first|(go_at_call 24;refine HN.out.mono ?_;rintro e w1 ⟨q,c,rfl,hr,hb⟩;have R1:=ι hr;have B1:=ι hb;clear hr hb)|(go_at_call 62;refine(HP.out _ _ _ R1.out).mono ?_;rintro e w2 ⟨rfl,hb⟩;have B2:=ι (a0a B1.out hb);have R2:=ι (R1.out.later hb);clear hb)|(refine a1d rfl (.tmp 8) (.tmp 21) rfl rfl w2.heap.size sp spot0 rfl rfl (a3d w2) ?_;intro w3 hA hB;have hb:=(a0b (Below.refl _ w2) _).trans hB;have B3:=ι (a0a B2.out hb);have R3:=ι (R2.out.later hb);have s3:=hA.cell3;rw[his] at s3;clear hA hB hb)|(go_at_call 63;refine(HFI.out _ _ _ R3.out).mono ?_;rintro e w4 ⟨rfl,hb⟩;have B4:=ι (a0a B3.out hb);have R4:=ι (R3.out.later hb);clear hb)|(go_at_call 64;refine(HFE.out _ _ _ R4.out).mono ?_;rintro e w5 ⟨rfl,hb⟩;have B5:=ι (a0a B4.out hb);clear hb))
      go_ret
      exact a0n HR.out B5.out
    | some a =>
     rw[a2i] at HFI
     obtain rfl:fe=none:=hno.resolve_left (by simp)
     rw[a2h] at HFE
     go_enter Tryz.func15,Tryz.ntmps15
     go_wp2_with (first|(go_at_call 24;refine HN.out.mono ?_;rintro e w1 ⟨q,c,rfl,hr,hb⟩;have R1:=ι hr;have B1:=ι hb;clear hr hb)|(go_at_call 62;refine(HP.out _ _ _ R1.out).mono ?_;rintro e w2 ⟨rfl,hb⟩;have B2:=ι (a0a B1.out hb);have R2:=ι (R1.out.later hb);clear hb)|(refine a1d rfl (.tmp 8) (.tmp 21) rfl rfl w2.heap.size sp spot0 rfl rfl (a3d w2) ?_;intro w3 hA hB;have hb:=(a0b (Below.refl _ w2) _).trans hB;have B3:=ι (a0a B2.out hb);have R3:=ι (R2.out.later hb);have s3:=hA.cell3;rw[his] at s3;clear hA hB hb)|(go_at_call 63;refine(HFI.out _ _ _ R3.out).mono ?_;rintro e w4 ⟨rfl,hb⟩;have B4:=ι (a0a B3.out hb);have R4:=ι (R3.out.later hb);clear hb)|(go_at_call 64;refine(HFE.out _ _ _ R4.out).mono ?_;rintro e w5 ⟨rfl,hb⟩;have B5:=ι (a0a B4.out hb);clear hb))
     go_ret
     exact a0n HR.out B5.out
   ·obtain⟨ni,hni⟩:∃ni,fi=some ni:=by cases fi with|none=>exact absurd (Or.inl rfl) hno|some a=>exact⟨a,rfl⟩
    obtain⟨ke,hke⟩:∃ke,fe=some ke:=by cases fe with|none=>exact absurd (Or.inr rfl) hno|some a=>exact⟨a,rfl⟩
    have hn16:=hfi ni hni
    have hk24:=hfe ke hke
    subst hni hke
    rw[a2i] at HFI HFE
    have hI:=ι fun w'=>b4r (ni:Int) (by omega) ⟨kind,0,[0,0,0,0]⟩ (b2s hkd) 2 (ni:Int) w'
    have hE:=ι fun w'=>a3n (ke:Int) (by omega) ⟨true,sp.dir,sp.name,(ni:Int)⟩ ⟨a0h (by show 0≤sp.dir∧sp.dir<256;omega),a0h (by show 0≤(ni:Int)∧(ni:Int)<256;omega),HNM.out⟩ sp.dir w'
    have okI:=a8p (n:=(ni:Int)) (x:=⟨kind,0,[0,0,0,0]⟩) (by omega) rfl
    have okE:=a2x (k:=(ke:Int)) (f:=sp.dir) (x:=⟨true,sp.dir,sp.name,(ni:Int)⟩) (by omega) (by omega)
    simp only at hV
    change doR st [wIno (ni:Int) ⟨kind,0,[0,0,0,0]⟩,wEnt (ke:Int) ⟨true,sp.dir,sp.name,(ni:Int)⟩ sp.dir]=V at hV
    rw[show (⟨1+(ni:Int),inoV ⟨kind,0,[0,0,0,0]⟩,2,(ni:Int),0⟩:Wr)=wIno (ni:Int) ⟨kind,0,[0,0,0,0]⟩ from rfl] at hI
    generalize wIno (ni:Int) ⟨kind,0,[0,0,0,0]⟩=x1 at *
    generalize hx2:wEnt (ke:Int) ⟨true,sp.dir,sp.name,(ni:Int)⟩ sp.dir=x2 at *
    subst hV
    have OI:=ι okI
    have OE:=ι okE
    clear hno hfi hfe hx2 okI okE
    go_enter Tryz.func15,Tryz.ntmps15
    go_upto_region 12 with(first|(go_at_call 24;refine HN.out.mono ?_;rintro e w1 ⟨q,c,rfl,hr,hb⟩;have R1:=ι hr;have B1:=ι hb;clear hr hb)|(go_at_call 62;refine(HP.out _ _ _ R1.out).mono ?_;rintro e w2 ⟨rfl,hb⟩;have B2:=ι (a0a B1.out hb);have R2:=ι (R1.out.later hb);clear hb)|(refine a1d rfl (.tmp 8) (.tmp 21) rfl rfl w2.heap.size sp spot0 rfl rfl (a3d w2) ?_;intro w3 hA hB;have hb:=(a0b (Below.refl _ w2) _).trans hB;have B3:=ι (a0a B2.out hb);have R3:=ι (R2.out.later hb);have S3:=ι hA;have s3:=hA.cell3;rw[his] at s3;clear hA hB hb)|(go_at_call 63;refine(HFI.out _ _ _ R3.out).mono ?_;rintro e w4 ⟨rfl,hb⟩;have B4:=ι (a0a B3.out hb);have R4:=ι (R3.out.later hb);have S4:=ι (S3.out.later hb);clear hb)|(go_at_call 64;refine(HFE.out _ _ _ R4.out).mono ?_;rintro e w5 ⟨rfl,hb⟩;have B5:=ι (a0a B4.out hb);have S5:=ι (S4.out.later hb);clear hb)|(go_at_call 65;refine(hI.out _).mono ?_;rintro e w6 ⟨rfl,hb⟩;have B6:=ι (a0a B5.out hb);have S6:=ι (S5.out.later hb);clear hb)|(refine a7z rfl (.tmp 14) (.tmp 49) rfl rfl w6.heap.size x1 w0 rfl rfl OI.out.1 a0p (b9v w6) ?_;intro w7 hA hB;have hb:=(a0b (Below.refl _ w6) _).trans hB;have B7:=ι (a0a B6.out hb);have S7:=ι (S6.out.later hb);have X7:=ι hA;clear hA hB hb))
    have hTS:Hid (∀w',dsk.Touch (fun b=>b=g) w7.drew w'→AtW w' w6.heap.size x1∧AtS w' w2.heap.size sp):=ι fun w' hw=>by
     have z2:=B2.out.size
     have z6:=B6.out.size
     exact⟨(hw.block _ (Array.getElem?_eq_some_iff.1 X7.out).1 (fun e=>by omega)).trans X7.out,(hw.block _ (Array.getElem?_eq_some_iff.1 S7.out).1 (fun e=>by omega)).trans S7.out⟩
    have HDW:=ι fun(w1:World) (hb:Below w.heap.size w w1)=>HDD.out [x1,x2] 2 (by omega) (some ⟨w1.heap.size,0,none⟩) 2 (w1.alloc (.cells (x1.c++x2.c).toArray 99)) (a0u HR.out (a0b hb _)) (c7s w1 x1 x2 OI.out.1 OE.out.1) (fun a m c hv hm=>by
     cases hv
     have:=hb.size
     show w1.heap.size≠g
     omega) (fun y hy=>by
     rcases List.mem_cons.1 hy with rfl|hy
     ·exact OI.out
     ·rw[List.mem_singleton.1 hy];exact OE.out)
    have hBd:Hid (∀v,Below w7.drew.heap.size w7.drew v→Below w.heap.size w v):=ι fun v hv=>a0a B7.out (((Below.refl w7.heap.size w7).drew).trans hv)
    clear HDD
    have h0:=dsk.Touch.refl (fun b=>b=g) w7.drew
    refine wp_region_held_drew (S:=dsk.Touch (fun b=>b=g) w7.drew) (by kernel_rfl) h0 (fun hH0 => ?_)
    refine tk 0 rfl ?_
    refine tkv 1 rfl (b6a (by rfl) _ rfl w6.heap.size 0 rfl x1 OI.out.1 (fun w' hw=>(hTS.out w' hw).1.range)) ?_
    refine tk 2 rfl ?_
    refine tk 3 rfl ?_
    refine tkv 4 rfl (a0l (by rfl) 3 _ Tryz.underlying3 rfl _ rfl w2.heap.size 0 rfl _ (fun w' hw=>(hTS.out w' hw).2.cell0)) ?_
    refine tk 5 rfl ?_
    refine tkv 6 rfl (a0l (by rfl) 9 _ Tryz.underlying9 rfl _ rfl w2.heap.size 1 rfl _ (fun w' hw=>(hTS.out w' hw).2.cell1)) ?_
    refine tk 7 rfl ?_
    refine tk 8 rfl ?_
    refine tk 9 rfl ?_
    refine tkv 10 rfl (a0l (by rfl) 3 _ Tryz.underlying3 rfl _ rfl w2.heap.size 0 rfl _ (fun w' hw=>(hTS.out w' hw).2.cell0)) ?_
    refine rd 11 rfl (fun K hK => ?_)
    go_simp
    refine(hE.out _).mono ?_
    rintro e v1 ⟨rfl,hb1⟩
    have BV:=ι (hBd.out _ hb1)
    have h1:dsk.Touch (fun b=>b=g) w7.drew v1:=dsk.Touch.of_below hb1
    dsimp only
    refine hK.out _ _ ?_ (fun hHeld => ?_)
    ·exact h1
    clear hK K
    try simp only[Act.put,List.setIfInBounds_toArray,List.set_cons_zero,List.set_cons_succ]
    refine rd 12 rfl (fun K hK => ?_)
    refine b8m (by rfl) (.tmp 51) (.tmp 61) rfl x1 x2 OI.out.1 OE.out.1 rfl rfl ?_
    have h2:dsk.Touch (fun b=>b=g) w7.drew (v1.alloc (.cells (x1.c++x2.c).toArray 99)):=(h1).alloc _
    refine hK.out _ _ ?_ (fun hHeld => ?_)
    ·exact h2
    clear hK K
    try simp only[Act.put,List.setIfInBounds_toArray,List.set_cons_zero,List.set_cons_succ]
    refine rd 13 rfl (fun K hK => ?_)
    go_simp
    refine(HDW.out v1 BV.out).mono ?_
    rintro e v3 hd3
    have D3:=ι (a1o (a0b BV.out _) hd3)
    have h3:dsk.Touch (fun b=>b=g) w7.drew v3:=(h2).trans hd3.2.2
    obtain⟨rfl,_⟩:=hd3
    dsimp only
    refine hK.out _ _ ?_ (fun hHeld => ?_)
    ·exact h3
    clear hK K
    try simp only[Act.put,List.setIfInBounds_toArray,List.set_cons_zero,List.set_cons_succ]
    refine tk 14 rfl ?_
    refine wpAnyH_done (by kernel_rfl) ?_ _
    go_wp2_with fail
    go_ret
    exact D3.out
 ·rw[if_pos he] at hV
  subst hV
  have heb:(er != 0)=true:=by simpa using he
  go_enter Tryz.func15,Tryz.ntmps15
  go_wp2_with (first|(go_at_call 24;refine HN.out.mono ?_;rintro e w1 ⟨q,c,rfl,hr,hb⟩;have R1:=ι hr;have B1:=ι hb;clear hr hb)|(go_at_call 62;refine(HP.out _ _ _ R1.out).mono ?_;rintro e w2 ⟨rfl,hb⟩;have B2:=ι (a0a B1.out hb);clear hb)|(refine a1d rfl (.tmp 8) (.tmp 21) rfl rfl w2.heap.size sp spot0 rfl rfl (a3d w2) ?_;intro w3 hA hB;have B3:=ι (a0a B2.out ((a0b (Below.refl _ w2) _).trans hB));clear hA hB))
  go_ret
  exact a0n HR.out B3.out
end fs
namespace fs
set_option maxRecDepth 100000
open Go.ChangeShapes Go.WideShapes Go.ChangeAt Go.RowKit
open rows
open sec
open dsk (wf64 St Wr Wr.ok Wr.c Wr.c_len wrsC RefIs RefAt RefDone a0q elem_wrs a1r a0d a0g)
open ly
open pa
open lk
open al
theorem a7l{ss:List (List Int)}(hs:Secs ss)(i:Int):(inoAt ss i).ok:=by
 unfold inoAt
 split
 ·exact c8e (a1n hs _)
 ·exact c4c
theorem a6b{ss:List (List Int)}(hs:Secs ss)(s:ByteArray)(h:(fileV ss s).2.2=0):(fileV ss s).2.1=inoAt ss (fileV ss s).1∧(inoAt ss (fileV ss s).1).kind=1∧0≤(fileV ss s).1∧(fileV ss s).1<16:=by
 unfold fileV at h ⊢
 split at h
 ·rename_i h1;exact absurd h h1
 ·rename_i h1
  rw[if_neg h1]
  split at h
  ·exact absurd h (by decide)
  ·rename_i h2
   rw[if_neg h2]
   have hk:(inoAt ss (lookV ss (bys s)).1).kind=1:=Decidable.not_not.1 h2
   refine⟨rfl,hk,?_⟩
   show 0≤(lookV ss (bys s)).1∧(lookV ss (bys s)).1<16
   unfold inoAt at hk
   split at hk
   ·assumption
   ·exact absurd hk (by decide)
theorem a8h{S:Nat→Prop}{g:Nat}{st:St}{w:World}(h:RefIs w S g st){k:Nat}(hg:st.good k)(hk:k+10≤900)(x:Wr)(hx:x.ok)(w1:World)(hb:Below w.heap.size w w1) :
  Calls Tryz.prog 66 #[.pointer (some ⟨g,0,none⟩),.slice (some ⟨w1.heap.size,0,none⟩) 1 1] (w1.alloc (.cells x.c.toArray 99)) (RefDone S g (w1.alloc (.cells x.c.toArray 99)) (doR st [x])) :=
 b4v S g st [x] (some ⟨w1.heap.size,0,none⟩) 1 1 (w1.alloc (.cells x.c.toArray 99)) (a0u h (a0b hb _)) k hg (by omega) (by omega) (by
  have:=a1r w1 99 36 x.c (Wr.c_len hx.1)
  simpa [wrsC] using this) (fun a m c hv hm=>by
  cases hv
  have h1:g<w.heap.size:=by obtain⟨vs,vw,vl,vb,h⟩:=h;exact dsk.RefAt.lt h
  have:=hb.size
  show w1.heap.size≠g
  omega) (fun y hy=>by rw[List.mem_singleton.1 hy];exact hx)
def clrB(b:List Int)(nd i:Nat):List Int:=b.take nd++(List.replicate (i-nd) 0++b.drop i)
theorem d1m{b:List Int}(h:b.length=4){nd i:Nat}(h1:nd≤i)(h2:i≤4):(clrB b nd i).length=4:=by simp[clrB,h];omega
theorem c3t{b:List Int}(nd:Nat):clrB b nd nd=b:=by simp[clrB]
theorem d1f{b:List Int}(h:b.length=4)(nd:Nat):clrB b nd 4=cutB b nd:=by simp[clrB,cutB,h]
theorem c8o{b:List Int}(h:b.length=4){nd i:Nat}(h1:nd≤i)(h2:i<4):(clrB b nd i).set i 0=clrB b nd (i+1):=by
 obtain⟨b0,b1,b2,b3,rfl⟩:=b1k h
 have e:i=0∨i=1∨i=2∨i=3:=by omega
 have e2:nd=0∨nd=1∨nd=2∨nd=3:=by omega
 rcases e with rfl|rfl|rfl|rfl<;>rcases e2 with rfl|rfl|rfl|rfl<;>first|rfl|omega
theorem AtI.setS{w:World}{g:Nat}{x:Ino}(h:AtI w g x)(z:Int):AtI (w.setCell ⟨g,1,none⟩ (.int .i64 z)) g {x with size:=z}:=a0g h _
theorem d2g{x:Ino}(hx:x.ok){z:Int}(hz:wf64 z)(j:Nat)(hj:j≤4):(⟨x.kind,z,cutB x.b j⟩:Ino).ok:=⟨by simp[cutB,hx.four];omega,hx.kind,hz,fun y hy=>by
 rcases List.mem_append.1 hy with hy|hy
 ·exact hx.b y (List.mem_of_mem_take hy)
 ·rw[(List.mem_replicate.1 hy).2];exact a0h (by omega)⟩
theorem b9t(m:Nat)(h:m≤1000):wf64 (m:Int):=WalkArith.wf_i64 (by omega)
set_option maxRecDepth 100000 in
set_option maxHeartbeats 3200000 in
theorem c3v(S:Nat→Prop)(g:Nat)(st:St)(w:World)(h:RefIs w S g st)(k:Nat)(hg:st.good k)(hk:k+10≤900)(s:ByteArray)(hsz:s.size≤100000)(z:Int)(hz:wf64 z) :
  Calls Tryz.prog 18 #[.pointer (some ⟨g,0,none⟩),.string s,.int .i64 z] w (RefDone S g w (truncV st s z)):=by
 have HR:=ι h
 have HN:=ι (a5m h hg (by omega))
 have hsec:=a3t hg
 have hn1:=hg.n1
 have HF:=ι fun q c w' (hr:Rd w' 32 (.slice q st.safe.length c) st.safe.length (cellsOf (nowL st)))=>a7i q st.safe.length c (nowL st) w' hr hsec (by omega) s hsz
 have H4:=ι (a2j hsec s)
 have hfi:=a6b hsec s
 have hff:=fun hh=>a5k hsec (fileV (nowL st) s).1 hh
 have hok:=a7l hsec (fileV (nowL st) s).1
 have HDO:=ι fun x hx w1 hb=>a8h h hg hk x hx w1 hb
 obtain⟨V,hV⟩:∃V,truncV st s z=V:=⟨_,rfl⟩
 rw[hV]
 unfold truncV at hV
 generalize hFE:fileV (nowL st) s=F at *
 obtain⟨n,x,er⟩:=F
 unfold fileT at HF
 simp only at hV HF H4 hfi hff hok
 generalize nowL st=L at *
 generalize st.safe.length=sl at *
 clear h hg hk hsz hsec hFE
 by_cases he:er=0
 ·subst he
  rw[if_neg (by simp)] at hV
  obtain⟨hx1,hx2,hx3,hx4⟩:=hfi rfl
  rw[← hx1] at hx2 hff hok
  obtain⟨hs0,hs1,_⟩:=hff hx2
  obtain⟨i1,i2⟩:=rows.wf_i64 hz
  clear hfi hff hx1
  by_cases hz0:z<0
  ·rw[if_pos (Or.inl hz0)] at hV
   subst hV
   clear hok
   go_enter Tryz.func18,Tryz.ntmps18
   go_wp2_with (first|(go_at_call 24;refine HN.out.mono ?_;rintro e w1 ⟨q,c,rfl,hr,hb⟩;have R1:=ι hr;have B1:=ι hb;clear hr hb)|(go_at_call 68;refine(HF.out _ _ _ R1.out).mono ?_;rintro e w2 ⟨rfl,hb⟩;have B2:=ι (a0a B1.out hb);clear hb)|(refine a0f rfl (.tmp 8) (.tmp 17) rfl rfl w2.heap.size x ino0 rfl rfl H4.out rfl (a0r w2) ?_;intro w3 hA hB _;have B3:=ι (a0a B2.out ((a0b (Below.refl _ w2) _).trans hB));have A3:=ι hA;have c1:=hA.cell1;have f1:=a0d hA 1;clear hA hB))
   go_ret
   exact a0n HR.out B3.out
  by_cases hz1:x.size<z
  ·rw[if_pos (Or.inr hz1)] at hV
   subst hV
   clear hok
   have hzz:0≤z:=by omega
   go_enter Tryz.func18,Tryz.ntmps18
   go_wp2_with (first|(go_at_call 24;refine HN.out.mono ?_;rintro e w1 ⟨q,c,rfl,hr,hb⟩;have R1:=ι hr;have B1:=ι hb;clear hr hb)|(go_at_call 68;refine(HF.out _ _ _ R1.out).mono ?_;rintro e w2 ⟨rfl,hb⟩;have B2:=ι (a0a B1.out hb);clear hb)|(refine a0f rfl (.tmp 8) (.tmp 17) rfl rfl w2.heap.size x ino0 rfl rfl H4.out rfl (a0r w2) ?_;intro w3 hA hB _;have B3:=ι (a0a B2.out ((a0b (Below.refl _ w2) _).trans hB));have A3:=ι hA;have c1:=hA.cell1;have f1:=a0d hA 1;clear hA hB))
   go_ret
   exact a0n HR.out B3.out
  rw[if_neg (by omega)] at hV
  by_cases hze:z=x.size
  ·rw[if_pos hze] at hV
   subst hV
   have hzb:(z == x.size)=true:=by rw[hze];simp
   have hzz:0≤z:=by omega
   have hzy:z≤x.size:=by omega
   clear hok hze
   go_enter Tryz.func18,Tryz.ntmps18
   go_wp2_with (first|(go_at_call 24;refine HN.out.mono ?_;rintro e w1 ⟨q,c,rfl,hr,hb⟩;have R1:=ι hr;have B1:=ι hb;clear hr hb)|(go_at_call 68;refine(HF.out _ _ _ R1.out).mono ?_;rintro e w2 ⟨rfl,hb⟩;have B2:=ι (a0a B1.out hb);clear hb)|(refine a0f rfl (.tmp 8) (.tmp 17) rfl rfl w2.heap.size x ino0 rfl rfl H4.out rfl (a0r w2) ?_;intro w3 hA hB _;have B3:=ι (a0a B2.out ((a0b (Below.refl _ w2) _).trans hB));have A3:=ι hA;have c1:=hA.cell1;have f1:=a0d hA 1;clear hA hB))
   go_ret
   exact a0n HR.out B3.out
  ·rw[if_neg hze] at hV
   have hzb:(z == x.size)=false:=beq_eq_false_iff_ne.2 hze
   have hzz:0≤z:=by omega
   have hzy:z≤x.size:=by omega
   obtain⟨m,rfl⟩:∃m:Nat,z=(m:Int):=⟨z.toNat,by omega⟩
   have hm128:m≤128:=by omega
   rw[Int.toNat_natCast] at hV
   have hnd:need m≤4:=by unfold need;omega
   have HNE:=ι fun w'=>a4r m w' hm128
   obtain⟨nd,hndE⟩:∃nd,need m=nd:=⟨_,rfl⟩
   rw[hndE] at hV hnd HNE
   have okN:=d2g hok (z:=(m:Int)) (b9t m (by omega)) nd hnd
   have okW:=a8p (n:=n) (x:=⟨x.kind,(m:Int),cutB x.b nd⟩) (by omega) okN.four
   have HOI:=ι fun w'=>b4r n (by omega) ⟨x.kind,(m:Int),cutB x.b nd⟩ okN 2 n w'
   rw[show (⟨1+n,inoV ⟨x.kind,(m:Int),cutB x.b nd⟩,2,n,0⟩:Wr)=wIno n ⟨x.kind,(m:Int),cutB x.b nd⟩ from rfl] at HOI
   have HDX:=ι (HDO.out _ okW)
   have OW:=ι okW
   have ON:=ι okN
   generalize wIno n ⟨x.kind,(m:Int),cutB x.b nd⟩=wr' at *
   subst hV
   have hndi:(nd:Int)≤4:=by omega
   clear hok hze HDO okN okW hndE
   go_enter Tryz.func18,Tryz.ntmps18
   go_upto_region 9 with(first|(go_at_call 24;refine HN.out.mono ?_;rintro e w1 ⟨q,c,rfl,hr,hb⟩;have R1:=ι hr;have B1:=ι hb;clear hr hb)|(go_at_call 68;refine(HF.out _ _ _ R1.out).mono ?_;rintro e w2 ⟨rfl,hb⟩;have B2:=ι (a0a B1.out hb);clear hb)|(refine a0f rfl (.tmp 8) (.tmp 17) rfl rfl w2.heap.size x ino0 rfl rfl H4.out rfl (a0r w2) ?_;intro w3 hA hB _;have B3:=ι (a0a B2.out ((a0b (Below.refl _ w2) _).trans hB));have A3:=ι hA;have c1:=hA.cell1;have f1:=a0d hA 1;clear hA hB))
   have A4:=ι (AtI.setS A3.out (m:Int))
   have B4:Hid (Below w.heap.size w (w3.setCell ⟨w2.heap.size,1,none⟩ (.int .i64 (m:Int)))):=ι (B3.out.setCell (p:=⟨w2.heap.size,1,none⟩) B2.out.size _)
   generalize w3.setCell ⟨w2.heap.size,1,none⟩ (.int .i64 (m:Int))=w4 at *
   clear c1 f1 A3 B3
   go_wp2_with (go_at_call 69;refine(HNE.out _).mono ?_;rintro e w5 ⟨rfl,rfl⟩)
   go_loopw [10] (fun iv wr=>∃i:Nat,nd≤i∧i≤4∧iv = .int .i64 (i:Int)∧Hid (AtI wr w2.heap.size ⟨x.kind,(m:Int),clrB x.b nd i⟩)∧Hid (Below w.heap.size w wr)) (fun iv _=>4-(intOf iv).toNat)
   case atStart=>exact⟨nd,Nat.le_refl _,hnd,rfl,ι (by rw[c3t];exact A4.out),B4⟩
   case round =>
    obtain⟨i,h1,h2,rfl,HA,HB⟩:=hrel
    clear A4 B4
    by_cases hlt:i<4
    ·have hlti:(i:Int)<4:=by omega
     have hln:(clrB x.b nd i).length=4:=d1m H4.out h1 h2
     have cc:=HA.out.cellb (i:=i) (by rw[hln];exact hlt)
     have ff:=a0d HA.out (2+i)
     have A5:=ι (AtI.setB (j:=i) HA.out 0)
     have hnx:=ι (c8o H4.out h1 hlt)
     have B5:=ι (HB.out.setCell (p:=⟨w2.heap.size,2+i,none⟩) B2.out.size (.int .i64 0))
     go_wp2_with fail
     go_roundw
     case rel=>exact⟨i+1,by omega,by omega,by go_num,ι (by rw[← hnx.out];exact A5.out),B5⟩
     case measure=>simp[intOf];omega
    ·obtain rfl:i=4:=by omega
     have A6:Hid (AtI wr w2.heap.size ⟨x.kind,(m:Int),cutB x.b nd⟩):=ι (by rw[← d1f H4.out];exact HA.out)
     clear HA
     generalize (⟨x.kind,(m:Int),cutB x.b nd⟩:Ino)=y at *
     go_wp2_with (first|(refine a0s rfl (.tmp 8) rfl w2.heap.size rfl y ON.out.four A6.out ?_)|(go_at_call 65;refine(HOI.out _).mono ?_;rintro e w7 ⟨rfl,hb⟩;have B7:=ι (a0a HB.out hb);clear hb)|(refine a0q elem_wrs (by decide) rfl (.tmp 50) rfl wr'.c rfl (Wr.c_len OW.out.1) ?_)|(go_at_call 66;refine(HDX.out w7 B7.out).mono ?_;rintro e w8 hd8;have D8:=ι (a1o (a0b B7.out _) hd8);obtain⟨rfl,_⟩:=hd8))
     go_ret
     exact D8.out
 ·rw[if_pos he] at hV
  subst hV
  have heb:(er != 0)=true:=by simpa using he
  clear hfi hff hok
  go_enter Tryz.func18,Tryz.ntmps18
  go_wp2_with (first|(go_at_call 24;refine HN.out.mono ?_;rintro e w1 ⟨q,c,rfl,hr,hb⟩;have R1:=ι hr;have B1:=ι hb;clear hr hb)|(go_at_call 68;refine(HF.out _ _ _ R1.out).mono ?_;rintro e w2 ⟨rfl,hb⟩;have B2:=ι (a0a B1.out hb);clear hb)|(refine a0f rfl (.tmp 8) (.tmp 17) rfl rfl w2.heap.size x ino0 rfl rfl H4.out rfl (a0r w2) ?_;intro w3 hA hB _;have B3:=ι (a0a B2.out ((a0b (Below.refl _ w2) _).trans hB));clear hA hB))
  go_ret
  exact a0n HR.out B3.out
end fs
namespace fs
set_option maxRecDepth 100000
open sec
open ly
open lk
open pa
structure Nd where
 path:ByteArray
 dir:Bool
 data:ByteArray
def nd0:Nd:=⟨ByteArray.empty,false,ByteArray.empty⟩
end fs
namespace fs
set_option maxRecDepth 100000
open sec
open ly
open lk
open pa
open al
theorem getD_set_ne{t:List Nd}{i j:Nat}(h:j≠i)(a:Nd):(t.set i a).getD j nd0=t.getD j nd0:=by
 have h2:¬i=j:=fun e=>h e.symm
 simp[List.getD,List.getElem?_set,h2]
theorem a6y{ss:List (List Int)}(m:Int):rightI (inoAt ss m)=true:=by
 unfold inoAt
 split
 ·rw[inoOfV]
  split
  ·rename_i h
   rw[inoOfB,Bool.and_eq_true] at h
   exact h.1
  ·decide
 ·decide
theorem c4p{ss:List (List Int)}(m:Int):(inoAt ss m).kind=0∨(inoAt ss m).kind=1∨(inoAt ss m).kind=2:=by
 by_cases h0:(inoAt ss m).kind=0
 ·exact Or.inl h0
 ·by_cases h1:(inoAt ss m).kind=1
  ·exact Or.inr (Or.inl h1)
  ·by_cases h2:(inoAt ss m).kind=2
   ·exact Or.inr (Or.inr h2)
   ·have:=a6y (ss:=ss) m
    rw[a5j h0 h1 h2] at this
    cases this
theorem d0h{ss:List (List Int)}{m:Int}(h:(inoAt ss m).kind≠1):(inoAt ss m).size=0∧(inoAt ss m).b=[0,0,0,0]:=by
 have h02:(inoAt ss m).kind=0∨(inoAt ss m).kind=2:=by
  rcases c4p (ss:=ss) m with h0|h1|h2
  ·exact Or.inl h0
  ·exact absurd h1 h
  ·exact Or.inr h2
 have hr:=a6y (ss:=ss) m
 rw[a2w h02,Bool.and_eq_true,beq_iff_eq,beq_iff_eq] at hr
 exact hr
theorem b6z{ss:List (List Int)}(m:Int):0≤(inoAt ss m).size∧(inoAt ss m).size≤128:=by
 by_cases h:(inoAt ss m).kind=1
 ·have hr:=a6y (ss:=ss) m
  rw[a3j h,Bool.and_eq_true,Bool.and_eq_true,decide_eq_true_eq,decide_eq_true_eq] at hr
  exact hr.1
 ·rw[(d0h h).1];decide
end fs
namespace fs
set_option maxRecDepth 100000
open sec
open ly
open lk
open pa
open al
theorem c1r{t:List Nd}{i:Nat}(h:i<t.length):t.set i (t.getD i nd0)=t:=by
 apply List.ext_getElem
 ·simp
 ·intro j h1 h2
  rw[List.getElem_set]
  split
  ·rename_i e;subst e;simp[List.getD,h]
  ·rfl
end fs
namespace fs
set_option maxRecDepth 100000
open Go.ChangeShapes Go.WideShapes Go.ChangeAt Go.RowKit
open rows
open sec
open dsk (InS)
open ly
open pa
open lk
theorem c5x{w:World}{sz n:Nat}{v:Value}{cs:List Value}(h:Rd w sz v n cs):InS (fun b=>b<w.heap.size) v:=fun a m c hv hm=>by
 rcases h with⟨p,cap,h1,_⟩|⟨b,off,cap,h1,_,_,_,h2,_⟩
 ·rw[hv] at h1
  cases h1
  omega
 ·rw[hv] at h1
  cases h1
  exact h2
end fs
namespace fs
set_option maxRecDepth 100000
open sec
open ly
open lk
open pa
open al
section
variable {L:List (List Int)} {n off:Nat} {b:List Int} {f:List Nat}
theorem c9p{old:List Int}(h:Sec old){b:List Int}(hb:∀z∈b,0≤z∧z<256)(off i:Nat):Sec (putL old off b i):=by
 refine⟨by simp[putL],fun z hz => ?_⟩
 unfold putL at hz
 obtain⟨j,hj,rfl⟩:=List.mem_map.1 hz
 split
 ·rename_i hin
  have hl:32 * i+j-off<b.length:=by omega
  simp only[List.getD,List.getElem?_eq_getElem hl,Option.getD_some]
  exact hb _ (List.getElem_mem hl)
 ·exact a1c h j
theorem b2h{l:List (List Int)}(h:Secs l)(p:Nat):Sec (l.getD p zero32):=by
 by_cases hp:p<l.length
 ·simp only[List.getD,List.getElem?_eq_getElem hp,Option.getD_some]
  exact h _ (List.getElem_mem hp)
 ·simp only[List.getD,List.getElem?_eq_none (Nat.le_of_not_lt hp),Option.getD_none]
  exact a0p
end
end fs
namespace fs
set_option maxRecDepth 100000
open Go.ChangeShapes Go.WideShapes Go.ChangeAt Go.RowKit
open rows
open sec
open dsk (a0g)
open ly
open pa
open lk
theorem c0n{w:World}{B:Nat}{e:TypeId}{sz n b c:Nat}{cs:List Value}(h:Own w B e sz (.slice (some ⟨b,0,none⟩) n c) n cs)(i:Nat)(u:Value):Own (w.setCell ⟨b,i,none⟩ u) B e sz (.slice (some ⟨b,0,none⟩) n c) n (cs.set i u):=by
 refine⟨by rw[List.length_set];exact h.1,?_⟩
 rcases h.2 with⟨h2,_⟩|⟨g,cap,cur,h1,h2,h3,h4,h5,h6,h7⟩
 ·cases h2
 ·cases h1
  refine Or.inr ⟨b,c,cur.setIfInBounds i u,rfl,h2,a0g h3 u,h4,h5,by rw[Array.size_setIfInBounds];exact h6,?_⟩
  rw[Array.toList_setIfInBounds,List.take_set,h7]
end fs
namespace fs
set_option maxRecDepth 100000
open Go.ChangeShapes Go.WideShapes Go.ChangeAt Go.RowKit
open rows
open sec
open ly
open pa
open lk
open al
theorem c0b(s t:ByteArray)(w:World)(hs:s.size≤100000)(ht:t.size≤100000):Calls Tryz.prog 74 #[.string s,.string t] w (Rt w (.bool (deeperB s t))):=by
 have HS:=ι fun w=>a5b s w hs
 have HT:=ι fun w=>a5b t w ht
 have HU:=ι fun w=>c6u t s w ht hs
 obtain⟨V,hV⟩:∃V,deeperB s t=V:=⟨_,rfl⟩
 rw[hV]
 unfold deeperB at hV
 clear hs ht
 cases hu:underB (bys t) (bys s) with
 | true =>
  rw[hu,Bool.true_or] at hV
  rw[hu] at HU
  subst hV
  go_enter Tryz.func74,Tryz.ntmps74
  go_upto_region 2 with(go_at_call 136;refine(HS.out _).mono ?_;rintro e w1 ⟨p1,n1,c1,rfl,hn1,_,hb⟩;have B1:=ι hb;clear hb hn1)
  go_wp2_with (first|(go_at_call 136;refine(HT.out _).mono ?_;rintro e w2 ⟨p2,n2,c2,rfl,hn2,_,hb⟩;have B2:=ι (a0a B1.out hb);clear hb hn2)|(go_at_call 140;refine(HU.out _).mono ?_;rintro e w3 ⟨rfl,hb⟩;have B3:=ι (a0a B2.out hb);clear hb))
  go_ret
  exact⟨rfl,B3.out⟩
 | false =>
  rw[hu,Bool.false_or] at hV
  rw[hu] at HU
  go_enter Tryz.func74,Tryz.ntmps74
  go_upto_region 2 with(go_at_call 136;refine(HS.out _).mono ?_;rintro e w1 ⟨p1,n1,c1,rfl,hn1,_,hb⟩;have B1:=ι hb;rw[← hn1] at hV;clear hb hn1)
  go_wp2_with (first|(go_at_call 136;refine(HT.out _).mono ?_;rintro e w2 ⟨p2,n2,c2,rfl,hn2,_,hb⟩;have B2:=ι (a0a B1.out hb);rw[← hn2] at hV;clear hb hn2)|(go_at_call 140;refine(HU.out _).mono ?_;rintro e w3 ⟨rfl,hb⟩;have B3:=ι (a0a B2.out hb);clear hb))
  go_ret
  exact⟨by rw[← hV];simp,B3.out⟩
end fs
namespace fs
set_option maxRecDepth 100000
open Go.ChangeShapes Go.WideShapes Go.ChangeAt Go.RowKit
open rows
open sec
open ly
open pa
open lk
structure FAct where
 kind:Int
 p:ByteArray
 q:ByteArray
 n:Int
 b:List Int
 bad:List Int
def fDo(st:dsk.St)(a:FAct):Int×dsk.St :=
 if a.kind=0 then makeV st a.p 1 else if a.kind=1 then makeV st a.p 2
 else if a.kind=2 then writeFV st a.p a.n a.b else if a.kind=3 then appendV st a.p a.b
 else if a.kind=4 then truncV st a.p a.n else if a.kind=5 then renameV st a.p a.q else if a.kind=6 then unlinkV st a.p else (0,st)
end fs
namespace fs
set_option maxRecDepth 100000
open Go.ChangeShapes Go.WideShapes Go.ChangeAt Go.RowKit
open rows
open sec
open dsk (wf64)
open ly
open pa
open lk
theorem b0m{w:World}{v:Value}{n:Nat}{xs:List Int}(h:Rd w 1 v n (xs.map (Value.int .u8)))(hx:∀x∈xs,0≤x∧x<256):(convert 38 9 v).run Tryz.prog w = .ok (.string (strOfNums xs)) w:=by
 rcases h with⟨p,cap,rfl,rfl,h0,hp⟩|⟨b,off,cap,rfl,h2,h2a,h2b,h3,h4,h5⟩
 ·obtain rfl:xs=[]:=List.map_eq_nil_iff.1 h0
  cases p with
  | none=>exact run_convert_bytes_nil w 38 5 Tryz.underlying38 Tryz.underlying5 0 cap 9 Tryz.underlying9
  | some a =>
   rw[run_convert_bytes_string w 38 9 5 _ 0 cap Tryz.underlying38 Tryz.underlying5 Tryz.underlying9,run_bytesToString w _ 0 cap [] (by have:=run_loadCells_list (P:=Tryz.prog) w a [] (by simp);simpa using this),foldl_push_bytes]
   rfl
 ·have hn:n=xs.length:=by rw[List.length_map] at h4;omega
  subst hn
  exact run_convert_bytes_arg w 38 5 Tryz.underlying38 Tryz.underlying5 b off xs.length cap xs rfl (fun i hi=>h5 i _ (by simp[List.getD,hi])) 9 Tryz.underlying9
structure ActIn (w:World) (a:FAct) (vb vf:Value):Prop where
 kind:wf64 a.kind
 n:wf64 a.n
 p:a.p.size≤100
 q:a.q.size≤100
 bl:a.b.length≤300
 bb:∀z∈a.b,0≤z∧z<256
 rd:Rd w 1 vb a.b.length (a.b.map (Value.int .u8))
theorem ActIn.later{w w':World}{a:FAct}{vb vf:Value}(h:ActIn w a vb vf)(k:Below w.heap.size w w'):ActIn w' a vb vf:=⟨h.kind,h.n,h.p,h.q,h.bl,h.bb,h.rd.later k⟩
abbrev actC(a:FAct)(vb vf:Value):Array Value := #[.int .i64 a.kind,.string a.p,.string a.q,.int .i64 a.n,vb,vf]
end fs
end Go.Proofs.YtiaapfijbidgnaaGreatDoor
