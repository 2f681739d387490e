/- What ViewTells wants, part 20. -/
import Derived.Test.YtjedjkjhodgidaaGreatDoorViewTellsB
import Derived.Test.YtjedjkjhodgidaaGreatDoorViewTellsC
import Derived.Test.YtjedjkjhodgidaaGreatDoorViewTellsD
import Derived.Test.YtjedjkjhodgidaaGreatDoorViewTellsH
import Derived.Test.YtjedjkjhodgidaaGreatDoorViewTellsJ
import Derived.Test.YtjedjkjhodgidaaGreatDoorViewTellsO
import Derived.Test.YtjedjkjhodgidaaGreatDoorViewTellsR
import Derived.Test.YtjedjkjhodgidaaGreatDoorViewTellsS
import Derived.Laws.Cover1
import Derived.BigQuiet
set_option linter.unusedVariables false
set_option linter.unusedSimpArgs false
namespace Go.Proofs.YtjedjkjhodgidaaGreatDoor
namespace lk
set_option maxRecDepth 100000
open Go.ChangeShapes Go.WideShapes Go.ChangeAt Go.RowKit
open rows
open sec
open dsk (wf64 a0c)
open ly
open pa
def ltS(a b:ByteArray):Bool:=Op.bytesLess a.toList b.toList
theorem c0b(x:List UInt8):∀(y:List UInt8),Op.bytesLess x y=decide (x<y):=by
 induction x with
 | nil=>intro y;cases y<;>simp[Op.bytesLess]
 | cons a x ih =>
  intro y
  cases y with
  | nil=>simp[Op.bytesLess]
  | cons b y =>
   simp only[Op.bytesLess,ih y,List.cons_lt_cons_iff,Bool.decide_or,Bool.decide_and]
   rcases Decidable.em (a<b) with h1|h1<;>rcases Decidable.em (a=b) with h2|h2<;>simp[h1,h2]
theorem b0i(a b:ByteArray):ltS a b=decide (a.toList<b.toList):=c0b _ _
theorem a1g(a:ByteArray):ltS a a=false:=by
 rw[b0i,decide_eq_false_iff_not]
 exact List.lt_irrefl _
theorem a2c{a b c:ByteArray}(h:ltS a b=true)(k:ltS b c=true):ltS a c=true:=by
 rw[b0i,decide_eq_true_eq] at *
 exact List.lt_trans h k
theorem b1q{a b:ByteArray}(h:a.toList=b.toList):a=b:=by
 have h2:a.data.toList=b.data.toList:=by rw[← ByteArray.toList_eq,← ByteArray.toList_eq];exact h
 cases a;cases b
 simpa using h2
theorem a4z{a b:ByteArray}(h:ltS a b=false)(k:ltS b a=false):a=b:=by
 rw[b0i,decide_eq_false_iff_not] at *
 exact b1q (List.le_antisymm (List.not_lt.1 k) (List.not_lt.1 h))
theorem b1a{a b c:ByteArray}(h:ltS b a=false)(k:ltS b c=true):ltS a c=true:=by
 cases hab:ltS a b with
 | true=>exact a2c hab k
 | false =>
  have:=a4z hab h
  subst this
  exact k
theorem gt_is(a b:ByteArray):(!(Op.bytesLess a.toList b.toList || a.toList == b.toList))=ltS b a:=by
 show (!(ltS a b || a.toList == b.toList))=ltS b a
 cases h:ltS a b with
 | true =>
  cases h2:ltS b a with
  | true=>have:=a2c h h2;rw[a1g] at this;cases this
  | false=>rfl
 | false =>
  cases h2:ltS b a with
  | true =>
   have hne:(a.toList == b.toList)=false:=by
    rw[beq_eq_false_iff_ne]
    intro e
    have:=b1q e
    subst this
    rw[a1g] at h2
    cases h2
   rw[hne];rfl
  | false =>
   have:=a4z h h2
   subst this
   simp
def nmIn(ss:List (List Int))(d:Int)(k:Nat)(x:ByteArray):Prop:=∃j,j<k∧standB ss j=true∧(entAt ss (j:Int)).parent=d∧(entAt ss (j:Int)).name=x
def atB(ss:List (List Int))(d:Int)(j:Nat):Bool:=standB ss j && decide ((entAt ss (j:Int)).parent=d)
theorem nmIn_succ{ss:List (List Int)}{d:Int}{k:Nat}{x:ByteArray}:nmIn ss d (k+1) x↔nmIn ss d k x∨(atB ss d k=true∧(entAt ss (k:Int)).name=x):=by
 constructor
 ·rintro⟨j,hj,h1,h2,h3⟩
  by_cases e:j=k
  ·subst e
   exact Or.inr ⟨by rw[atB,h1,h2];simp,h3⟩
  ·exact Or.inl ⟨j,by omega,h1,h2,h3⟩
 ·rintro(⟨j,hj,h⟩|⟨h1,h2⟩)
  ·exact⟨j,by omega,h⟩
  ·rw[atB,Bool.and_eq_true,decide_eq_true_eq] at h1
   exact⟨k,by omega,h1.1,h1.2,h2⟩
def IsList(ss:List (List Int))(d:Int)(L:List ByteArray):Prop:=L.Pairwise (fun a b=>ltS a b=true)∧∀x,x∈L↔nmIn ss d 24 x
theorem a4j:∀{a b:List ByteArray},a.Pairwise (fun x y=>ltS x y=true)→b.Pairwise (fun x y=>ltS x y=true)→(∀x,x∈a↔x∈b)→a=b
 | [],[],_,_,_=>rfl
 | [],y::b,_,_,h=>by have:=(h y).2 (List.mem_cons_self ..);cases this
 | x::a,[],_,_,h=>by have:=(h x).1 (List.mem_cons_self ..);cases this
 | x::a,y::b,ha,hb,h=>by
  rw[List.pairwise_cons] at ha hb
  have hxy:x=y:=by
   rcases List.mem_cons.1 ((h x).1 (List.mem_cons_self ..)) with e|hx
   ·exact e
   ·rcases List.mem_cons.1 ((h y).2 (List.mem_cons_self ..)) with e|hy
    ·exact e.symm
    ·have h1:=hb.1 x hx
     have h2:=ha.1 y hy
     have:=a2c h1 h2
     rw[a1g] at this
     cases this
  subst hxy
  have ih:=a4j ha.2 hb.2 fun z=>by
   constructor
   ·intro hz
    rcases List.mem_cons.1 ((h z).1 (List.mem_cons_of_mem _ hz)) with e|hz2
    ·subst e
     have:=ha.1 z hz
     rw[a1g] at this
     cases this
    ·exact hz2
   ·intro hz
    rcases List.mem_cons.1 ((h z).2 (List.mem_cons_of_mem _ hz)) with e|hz2
    ·subst e
     have:=hb.1 z hz
     rw[a1g] at this
     cases this
    ·exact hz2
  rw[ih]
theorem a8x{ss:List (List Int)}{d:Int}{a b:List ByteArray}(ha:IsList ss d a)(hb:IsList ss d b):a=b:=a4j ha.1 hb.1 fun x=>(ha.2 x).trans (hb.2 x).symm
structure UpTo (ss:List (List Int)) (d:Int) (L:List ByteArray) (last:ByteArray):Prop where
 sorted:L.Pairwise (fun a b=>ltS a b=true)
 mem:∀x,x∈L↔nmIn ss d 24 x∧ltS last x=false
structure Least (ss:List (List Int)) (d:Int) (last:ByteArray) (k:Nat) (next:ByteArray) (some:Bool):Prop where
 yes:some=true→nmIn ss d k next∧ltS last next=true∧∀x,nmIn ss d k x→ltS last x=true→ltS x next=false
 no:some=false→∀x,nmIn ss d k x→ltS last x=false
theorem Least.zero(ss:List (List Int))(d:Int)(last next:ByteArray):Least ss d last 0 next false :=
 ⟨(fun h=>by cases h),(fun _ x ⟨j,hj,_⟩=>by omega)⟩
theorem Least.skip{ss:List (List Int)}{d:Int}{last next:ByteArray}{k:Nat}{some:Bool}(h:Least ss d last k next some)
  (hs:atB ss d k=false∨ltS last (entAt ss (k:Int)).name=false∨(some=true∧ltS (entAt ss (k:Int)).name next=false)):Least ss d last (k+1) next some:=by
 refine⟨fun hy => ?_,fun hn x hx => ?_⟩
 ·obtain⟨h1,h2,h3⟩:=h.yes hy
  refine⟨nmIn_succ.2 (Or.inl h1),h2,fun x hx hl => ?_⟩
  rcases nmIn_succ.1 hx with hx|⟨ha,rfl⟩
  ·exact h3 x hx hl
  ·rcases hs with hs|hs|⟨_,hs⟩
   ·rw[ha] at hs;cases hs
   ·rw[hl] at hs;cases hs
   ·exact hs
 ·rcases nmIn_succ.1 hx with hx|⟨ha,rfl⟩
  ·exact h.no hn x hx
  ·rcases hs with hs|hs|⟨hs,_⟩
   ·rw[ha] at hs;cases hs
   ·exact hs
   ·rw[hn] at hs;cases hs
theorem Least.take{ss:List (List Int)}{d:Int}{last next:ByteArray}{k:Nat}{some:Bool}(h:Least ss d last k next some)
  (ha:atB ss d k=true) (hl:ltS last (entAt ss (k:Int)).name=true) (hs:some=false∨ltS (entAt ss (k:Int)).name next=true):Least ss d last (k+1) (entAt ss (k:Int)).name true:=by
 refine⟨fun _=>⟨nmIn_succ.2 (Or.inr ⟨ha,rfl⟩),hl,fun x hx hlx => ?_⟩,fun h=>by cases h⟩
 rcases nmIn_succ.1 hx with hx|⟨_,rfl⟩
 ·cases hsm:some with
  | false=>have:=h.no hsm x hx;rw[hlx] at this;cases this
  | true =>
   rcases hs with hs|hs
   ·rw[hsm] at hs;cases hs
   ·have h3:=(h.yes hsm).2.2 x hx hlx
    cases hxn:ltS x (entAt ss (k:Int)).name with
    | false=>rfl
    | true=>have:=a2c hxn hs;rw[h3] at this;cases this
 ·exact a1g _
theorem UpTo.done{ss:List (List Int)}{d:Int}{L:List ByteArray}{last next:ByteArray}(h:UpTo ss d L last)(k:Least ss d last 24 next false):IsList ss d L :=
 ⟨h.sorted,fun x=>⟨fun hx=>((h.mem x).1 hx).1,fun hx=>(h.mem x).2 ⟨hx,k.no rfl x hx⟩⟩⟩
theorem UpTo.more{ss:List (List Int)}{d:Int}{L:List ByteArray}{last next:ByteArray}(h:UpTo ss d L last)(k:Least ss d last 24 next true):UpTo ss d (L++[next]) next:=by
 obtain⟨k1,k2,k3⟩:=k.yes rfl
 refine⟨?_,fun x => ?_⟩
 ·rw[List.pairwise_append]
  refine⟨h.sorted,List.pairwise_singleton _ _,fun x hx y hy => ?_⟩
  rw[List.mem_singleton.1 hy]
  exact b1a ((h.mem x).1 hx).2 k2
 ·rw[List.mem_append,List.mem_singleton]
  constructor
  ·rintro(hx|rfl)
   ·obtain⟨h1,h2⟩:=(h.mem x).1 hx
    refine⟨h1,?_⟩
    have h3:=b1a h2 k2
    cases hn:ltS next x with
    | false=>rfl
    | true=>have:=a2c h3 hn;rw[a1g] at this;cases this
   ·exact⟨k1,a1g _⟩
  ·rintro⟨h1,h2⟩
   cases hl:ltS last x with
   | false=>exact Or.inl ((h.mem x).2 ⟨h1,hl⟩)
   | true=>exact Or.inr (a4z (k3 x h1 hl) h2)
def msrS(ss:List (List Int)):Value→Nat
 | .string last=>cntU (fun j=>ltS last (entAt ss (j:Int)).name) 24
 | _=>0
theorem c0j{ss:List (List Int)}{d:Int}{last next:ByteArray}(k:Least ss d last 24 next true):msrS ss (.string next)<msrS ss (.string last):=by
 obtain⟨⟨j,hj,_,_,hn⟩,k2,_⟩:=k.yes rfl
 exact a9g (fun i _ h=>a2c k2 h) ⟨j,hj,by rw[hn];exact k2,by rw[hn];exact a1g _⟩
theorem b7y{ss:List (List Int)}(hs:Secs ss)(k:Nat)(hu:(entAt ss (k:Int)).used=true):1≤(entAt ss (k:Int)).name.size∧(entAt ss (k:Int)).name.size≤8:=by
 unfold entAt at hu ⊢
 split at hu
 ·rename_i hin
  rw[if_pos hin]
  rw[entOfV] at hu ⊢
  split at hu
  ·rename_i hb
   rw[if_pos hb]
   rw[entOfB,Bool.and_eq_true] at hb
   have hr:=hb.1
   rw[rightE,if_pos hu] at hr
   simp only[Bool.and_eq_true] at hr
   have hn:=hr.2
   rw[a7e] at hn
   have:=a4i hn
   rw[a0y] at this
   exact this
  ·cases hu
 ·cases hu
theorem b4r{ss:List (List Int)}(hs:Secs ss)(d:Int):UpTo ss d [] { data := #[] }:=by
 refine⟨List.Pairwise.nil,fun x=>⟨(fun h=>by cases h),?_⟩⟩
 rintro⟨⟨j,_,h1,_,rfl⟩,h2⟩
 rw[standB,Bool.and_eq_true] at h1
 have hf:=(b7y hs j h1.1).1
 generalize (entAt ss (j:Int)).name=nm at hf h2
 rw[b0i,decide_eq_false_iff_not] at h2
 have hne:nm.toList≠[]:=fun e=>by
  rw[ByteArray.toList_eq] at e
  have:nm.size=0:=by rw[Lib.size_eq,e];rfl
  omega
 cases hl:nm.toList with
 | nil=>exact absurd hl hne
 | cons a l =>
  rw[hl] at h2
  exact absurd (by rw[show ({ data := #[] }:ByteArray).toList=[] by rw[ByteArray.toList_eq]];exact List.nil_lt_cons _ _) h2
theorem a5a:Elem 113 9 1 16 (.string ByteArray.empty):=⟨Tryz.underlying113,by kernel_rfl,by decide,by decide,by decide⟩
def strV(L:List ByteArray):List Value:=L.map .string
set_option maxHeartbeats 3200000 in
set_option maxRecDepth 100000 in
theorem b1g(p:Option Addr)(n c:Nat)(ss:List (List Int))(w:World)(h:Rd w 32 (.slice p n c) n (cellsOf ss))(hs:Secs ss)(hn:n≤100000)(d:Int)(hd:wf64 d) :
  Calls Tryz.prog 89 #[.slice p n c,.int .i64 d] w fun e w'=>∃L q m k,IsList ss d L∧e = .returned (.slice q m k)∧m=L.length∧m≤24∧Own w' w.heap.size 9 1 (.slice q m k) m (strV L)∧Below w.heap.size w w':=by
 have HE:=ι fun(k:Nat) (hk:k≤24) w' (hb:Below w.heap.size w w')=>a6c p n c ss w' (h.later hb) hs hn (k:Int) (a1l (by omega))
 have HT:=ι fun(k:Nat) (hk:k<24) w' (hb:Below w.heap.size w w')=>a6x p n c ss w' (h.later hb) hs hn k hk
 have HU:=ι (b4r hs d)
 obtain⟨d1,d2⟩:=rows.wf_i64 hd
 clear h hs hd
 go_enter Tryz.func89,Tryz.ntmps89
 go_wp2_with fail
 go_loopw [5,6,7,8,9,10] (fun ov lv _ _ _ _ wr=>∃(L:List ByteArray) (last:ByteArray) (q:Option Addr) (m k:Nat),ov = .slice q m k∧lv = .string last∧m=L.length∧Hid (m+msrS ss (.string last)≤24)∧Hid (UpTo ss d L last)∧Hid (Own wr w.heap.size 9 1 (.slice q m k) m (strV L))∧Hid (Below w.heap.size w wr)) (fun _ lv _ _ _ _ _=>msrS ss lv)
 case atStart=>exact⟨[],{ data := #[] },none,0,0,rfl,rfl,rfl,ι (by rw[Nat.zero_add];exact b5l _ _),HU,ι (a2m _ _ _ _),ι (Below.refl _ _)⟩
 case round =>
  obtain⟨L,last,q,m,k0,rfl,rfl,hm,HMS,HUP,HO,HB0⟩:=hrel
  have HML:=ι hm
  clear HU hm
  obtain⟨wo,hwo⟩:∃wo,wr=wo:=⟨_,rfl⟩
  rw[hwo] at HO HB0
  rw[hwo]
  clear hwo
  go_wp2_with fail
  go_loopw [7,8,9,10] (fun nv sv kv _ wr=>∃(k:Nat) (nx:ByteArray) (sm:Bool),k≤24∧kv = .int .i64 (k:Int)∧nv = .string nx∧sv = .bool sm∧Hid (Least ss d last k nx sm)∧Hid (Below wo.heap.size wo wr)) (fun _ _ kv _ _=>24-(intOf kv).toNat)
  case atStart=>exact⟨0,_,false,by omega,rfl,rfl,rfl,ι (Least.zero _ _ _ _),ι (Below.refl _ _)⟩
  case round =>
   obtain⟨k,nx,sm,hk,rfl,rfl,rfl,HLE,HB⟩:=hrel
   by_cases hlt:k<24
   ·have hlti:(k:Int)<24:=by omega
    have HBW:=ι (a0b HB0.out HB.out)
    have HEk:=ι (HE.out k (by omega) wr HBW.out)
    have HTk:=ι (HT.out k hlt)
    have HAT:Hid (atB ss d k=(standB ss k && decide ((entAt ss (k:Int)).parent=d))):=ι rfl
    have HSK:=ι fun hs=>HLE.out.skip hs
    have HTA:=ι fun ha hl hs=>HLE.out.take ha hl hs
    generalize atB ss d k=ab at HSK HTA HAT
    generalize standB ss k=st at HTk HAT
    generalize entAt ss (k:Int)=x at HEk HAT HSK HTA
    obtain⟨u,pa,nm,tg⟩:=x
    simp only at HAT HSK HTA
    cases st with
    | false =>
     have HL2:=ι (HSK.out (Or.inl (by rw[HAT.out];rfl)))
     clear HSK HTA HAT
     go_wp2_with (first|(go_at_call 91;refine HEk.out.mono ?_;rintro e w1 ⟨rfl,hb⟩;have B1:=ι hb;clear hb)|(go_at_call 137;refine(HTk.out _ (a0b HBW.out (a0a B1.out _))).mono ?_;rintro e w2 ⟨rfl,hb⟩;have B2:=ι (a0b HB.out (a0b (a0a B1.out _) hb));have hA:=(AtE.later (a1h w1 ⟨u,pa,nm,tg⟩) hb);have hc1:=a0c hA 1 _ rfl;have hc2:=a0c hA 2 _ rfl;clear hb hA))
     go_roundw
     case rel=>exact⟨k+1,nx,_,by omega,by go_num,rfl,rfl,HL2,B2⟩
     case measure=>simp[intOf];omega
    | true =>
     by_cases hp:pa=d
     ·subst hp
      have hab:ab=true:=by rw[HAT.out];simp
      cases hg:ltS last nm with
      | true =>
       have hb1:(!(Op.bytesLess nm.toList last.toList || nm.toList == last.toList))=true:=by rw[gt_is];exact hg
       cases sm with
       | false =>
        have HL2:=ι (HTA.out hab hg (Or.inl rfl))
        clear HSK HTA HAT
        go_wp2_with (first|(go_at_call 91;refine HEk.out.mono ?_;rintro e w1 ⟨rfl,hb⟩;have B1:=ι hb;clear hb)|(go_at_call 137;refine(HTk.out _ (a0b HBW.out (a0a B1.out _))).mono ?_;rintro e w2 ⟨rfl,hb⟩;have B2:=ι (a0b HB.out (a0b (a0a B1.out _) hb));have hA:=(AtE.later (a1h w1 ⟨u,pa,nm,tg⟩) hb);have hc1:=a0c hA 1 _ rfl;have hc2:=a0c hA 2 _ rfl;clear hb hA))
        go_roundw
        case rel=>exact⟨k+1,nm,true,by omega,by go_num,rfl,rfl,HL2,B2⟩
        case measure=>simp[intOf];omega
       | true =>
        cases hl:ltS nm nx with
        | true =>
         have hb3:Op.bytesLess nm.toList nx.toList=true:=hl
         have HL2:=ι (HTA.out hab hg (Or.inr hl))
         clear HSK HTA HAT
         go_wp2_with (first|(go_at_call 91;refine HEk.out.mono ?_;rintro e w1 ⟨rfl,hb⟩;have B1:=ι hb;clear hb)|(go_at_call 137;refine(HTk.out _ (a0b HBW.out (a0a B1.out _))).mono ?_;rintro e w2 ⟨rfl,hb⟩;have B2:=ι (a0b HB.out (a0b (a0a B1.out _) hb));have hA:=(AtE.later (a1h w1 ⟨u,pa,nm,tg⟩) hb);have hc1:=a0c hA 1 _ rfl;have hc2:=a0c hA 2 _ rfl;clear hb hA))
         go_roundw
         case rel=>exact⟨k+1,nm,true,by omega,by go_num,rfl,rfl,HL2,B2⟩
         case measure=>simp[intOf];omega
        | false =>
         have hb3:Op.bytesLess nm.toList nx.toList=false:=hl
         have HL2:=ι (HSK.out (Or.inr (Or.inr ⟨rfl,hl⟩)))
         clear HSK HTA HAT
         go_wp2_with (first|(go_at_call 91;refine HEk.out.mono ?_;rintro e w1 ⟨rfl,hb⟩;have B1:=ι hb;clear hb)|(go_at_call 137;refine(HTk.out _ (a0b HBW.out (a0a B1.out _))).mono ?_;rintro e w2 ⟨rfl,hb⟩;have B2:=ι (a0b HB.out (a0b (a0a B1.out _) hb));have hA:=(AtE.later (a1h w1 ⟨u,pa,nm,tg⟩) hb);have hc1:=a0c hA 1 _ rfl;have hc2:=a0c hA 2 _ rfl;clear hb hA))
         go_roundw
         case rel=>exact⟨k+1,nx,_,by omega,by go_num,rfl,rfl,HL2,B2⟩
         case measure=>simp[intOf];omega
      | false =>
       have HL2:=ι (HSK.out (Or.inr (Or.inl hg)))
       have hb1:(!(Op.bytesLess nm.toList last.toList || nm.toList == last.toList))=false:=by rw[gt_is];exact hg
       clear HSK HTA HAT
       go_wp2_with (first|(go_at_call 91;refine HEk.out.mono ?_;rintro e w1 ⟨rfl,hb⟩;have B1:=ι hb;clear hb)|(go_at_call 137;refine(HTk.out _ (a0b HBW.out (a0a B1.out _))).mono ?_;rintro e w2 ⟨rfl,hb⟩;have B2:=ι (a0b HB.out (a0b (a0a B1.out _) hb));have hA:=(AtE.later (a1h w1 ⟨u,pa,nm,tg⟩) hb);have hc1:=a0c hA 1 _ rfl;have hc2:=a0c hA 2 _ rfl;clear hb hA))
       go_roundw
       case rel=>exact⟨k+1,nx,_,by omega,by go_num,rfl,rfl,HL2,B2⟩
       case measure=>simp[intOf];omega
     ·have hpb:(pa == d)=false:=beq_eq_false_iff_ne.2 hp
      have HL2:=ι (HSK.out (Or.inl (by rw[HAT.out,decide_eq_false hp];rfl)))
      clear HSK HTA HAT
      go_wp2_with (first|(go_at_call 91;refine HEk.out.mono ?_;rintro e w1 ⟨rfl,hb⟩;have B1:=ι hb;clear hb)|(go_at_call 137;refine(HTk.out _ (a0b HBW.out (a0a B1.out _))).mono ?_;rintro e w2 ⟨rfl,hb⟩;have B2:=ι (a0b HB.out (a0b (a0a B1.out _) hb));have hA:=(AtE.later (a1h w1 ⟨u,pa,nm,tg⟩) hb);have hc1:=a0c hA 1 _ rfl;have hc2:=a0c hA 2 _ rfl;clear hb hA))
      go_roundw
      case rel=>exact⟨k+1,nx,_,by omega,by go_num,rfl,rfl,HL2,B2⟩
      case measure=>simp[intOf];omega
   ·have hge:(24:Int)≤k:=by omega
    have HL24:Hid (Least ss d last 24 nx sm):=ι (by
      have e:k=24:=by omega
      have h:=HLE.out
      rw[e] at h
      exact h)
    obtain⟨wi,hwi⟩:∃wi,wr=wi:=⟨_,rfl⟩
    rw[hwi] at HB
    rw[hwi]
    clear hwi HLE
    cases sm with
    | false =>
     have HIS:=ι (HUP.out.done HL24.out)
     go_wp2_with fail
     go_ret
     exact⟨L,q,m,k0,HIS.out,rfl,HML.out,by have:=HMS.out;omega,dsk.a0p HO.out HB.out,a0b HB0.out HB.out⟩
    | true =>
     have HUM:=ι (HUP.out.more HL24.out)
     have HLS:=ι (c0j HL24.out)
     have HOW:=ι (show Own wi w.heap.size 9 1 (.slice q m k0) m (strV L) from dsk.a0p HO.out HB.out)
     go_wp2_with (at_builtin;refine a4o a5a rfl (.tmp 48) (.tmp 50) rfl w.heap.size _ m _ rfl (HOW.out.alloc _) _ 1 [.string nx] rfl (a5m _ _ 1 #[.string nx] rfl) (by simp[Value.oneCell']) (by have:=HMS.out;omega) (by have:=(a0b HB0.out HB.out).size;simp;omega) ?_;intro pa ca wa ho hb;have HO2:=ι ho;have HBa:=ι ((a0a (a0b HB0.out HB.out) _).trans hb);clear ho hb)
     go_roundw
     case rel=>exact⟨L++[nx],nx,pa,m+1,ca,rfl,rfl,by rw[List.length_append,HML.out];rfl,ι (by have:=HMS.out;have:=HLS.out;omega),HUM,ι (by have h:=HO2.out;simpa [strV] using h),HBa⟩
     case measure=>exact HLS.out
end lk
namespace fs
set_option maxRecDepth 100000
open sec
open ly
open lk
open pa
theorem b8b(ss:List (List Int))(k:Int):rightE (entAt ss k)=true:=by
 unfold entAt
 split
 ·unfold entOfV
  split
  ·rename_i h
   rw[entOfB,Bool.and_eq_true] at h
   exact h.1
  ·exact a3s
 ·exact a3s
theorem b2v{ss:List (List Int)}{k:Int}(h:(entAt ss k).used=true):0≤(entAt ss k).parent∧(entAt ss k).parent<16∧1≤(entAt ss k).target∧(entAt ss k).target<16∧nameB (entAt ss k).name=true:=by
 have hr:=b8b ss k
 rw[a2a h] at hr
 simp only[Bool.and_eq_true,decide_eq_true_eq] at hr
 exact⟨hr.1.1.1.1,hr.1.1.1.2,hr.1.1.2,hr.1.2,hr.2⟩
end fs
namespace fs
set_option maxRecDepth 100000
open Go.ChangeShapes Go.WideShapes Go.ChangeAt Go.RowKit
open rows
open sec
open ly
open pa
open lk
def byteAt(ss:List (List Int))(x:Ino)(i:Nat):Int:=(ss.getD (40+(x.b.getD (i / 32) 0).toNat) zero32).getD (i % 32) 0
def readL(ss:List (List Int))(x:Ino):List Int:=(List.range x.size.toNat).map (byteAt ss x)
theorem b3q{ss:List (List Int)}(hs:Secs ss)(z:Int)(h:(inoAt ss z).kind=1):0≤(inoAt ss z).size∧(inoAt ss z).size≤128∧∀i:Nat,(i:Int)<(inoAt ss z).size→1≤(inoAt ss z).b.getD (i / 32) 0∧(inoAt ss z).b.getD (i / 32) 0≤24:=by
 have hk0:ino0.kind≠1:=by decide
 unfold inoAt at h ⊢
 split
 ·rename_i hin
  rw[if_pos hin] at h
  rw[inoOfV] at h ⊢
  split
  ·rename_i hb
   rw[if_pos hb] at h
   rw[inoOfB,Bool.and_eq_true] at hb
   have hr:=hb.1
   rw[a2e h,Bool.and_eq_true,Bool.and_eq_true,decide_eq_true_eq,decide_eq_true_eq] at hr
   refine⟨hr.1.1,hr.1.2,fun i hi => ?_⟩
   have hn:i / 32<need (inoOf (secAt ss (1+z))).size.toNat:=by unfold need;omega
   have h4:=a6p (z:=(inoOf (secAt ss (1+z))).size.toNat) (by omega)
   have hbk:=b2j hr.2 (i / 32) (by omega)
   rw[a3t hn,Bool.and_eq_true,Bool.and_eq_true,decide_eq_true_eq,decide_eq_true_eq] at hbk
   exact hbk.1
  ·rename_i hb
   rw[if_neg hb] at h
   exact absurd h hk0
 ·rename_i hin
  rw[if_neg hin] at h
  exact absurd h hk0
theorem a1t:Elem 54 5 1 1 (.int .u8 0):=⟨Tryz.underlying54,by kernel_rfl,by decide,by decide,by decide⟩
theorem a8i{ss:List (List Int)}{x:Ino}{i:Nat}(h:(i:Int)<x.size):(readL ss x).take (i+1)=(readL ss x).take i++[byteAt ss x i]:=by
 have hl:i<(readL ss x).length:=by simp[readL];omega
 rw[List.take_succ_eq_append_getElem hl]
 simp[readL]
end fs
namespace fs
set_option maxRecDepth 100000
open sec
open ly
open lk
open pa
structure Nd where
 path:ByteArray
 dir:Bool
 data:ByteArray
def nd0:Nd:=⟨ByteArray.empty,false,ByteArray.empty⟩
end fs
namespace vw
set_option maxRecDepth 100000
open ly
open pa
open fs (Nd)
def okN(x:Nd):Bool:=errP (bys x.path) == 0 && decide (x.data.size≤128) && (!x.dir || decide (x.data.size=0))
def bodyL(x:Nd):List Int:=bys x.path++(if x.dir then [47] else 32::quoteL (bys x.data))
def lineL(x:Nd):List Int:=bodyL x++[10]
def textL(l:List Nd):List Int:=(l.map lineL).flatten
theorem b5c{l:List Int}(h:errP l=0):∃ns,ns≠[]∧l=joinL ns∧(∀n∈ns,isNm n=true)∧ns.length≤4:=by
 unfold errP at h
 split at h
 ·rename_i n ns he
  obtain⟨e,hn,hl,_⟩:=a5f he
  refine⟨n::ns,by simp,?_,hn,hl⟩
  rw[← e,joinP,if_neg (by simp)]
 ·cases h
 ·cases h
theorem b9o{l:List Int}(h:errP l=0):1≤l.length∧l.length≤36:=by
 obtain⟨ns,h0,rfl,hn,h4⟩:=b5c h
 have:∀(ns:List (List Int)),(∀n∈ns,isNm n=true)→(joinL ns).length≤9 * ns.length:=by
  intro ns
  induction ns with
  | nil=>intro _;simp[joinL]
  | cons n t ih =>
   intro hh
   have:=ih fun x hx=>hh x (List.mem_cons_of_mem _ hx)
   have:=a4i (hh n List.mem_cons_self)
   rw[a3r,List.length_cons,List.length_append,List.length_cons];omega
 have hl:=this ns hn
 refine⟨?_,by omega⟩
 match ns,h0 with
 | n::t,_=>rw[a3r];simp
theorem b5z(x:Nd):okN x=true↔errP (bys x.path)=0∧x.data.size≤128∧(x.dir=true→x.data.size=0):=by
 rw[okN,Bool.and_eq_true,Bool.and_eq_true,beq_iff_eq,decide_eq_true_eq,and_assoc]
 cases x.dir<;>simp
theorem quote_bytes{l:List Int}(hb:∀x∈l,0≤x∧x<256):∀x∈quoteL l,32≤x∧x≤126:=by
 intro x hx
 rw[quoteL] at hx
 rcases List.mem_cons.1 hx with rfl|hx
 ·omega
 rcases List.mem_append.1 hx with hx|hx
 ·obtain⟨m,hm,hxm⟩:=List.mem_flatten.1 hx
  obtain⟨c,hc,rfl⟩:=List.mem_map.1 hm
  have:=b3v (hb c hc) x hxm;omega
 ·rw[List.mem_singleton.1 hx];omega
theorem b4q(l:List Nd)(x:Nd):textL (l++[x])=textL l++lineL x:=by simp[textL]
end vw
namespace vw
set_option maxRecDepth 100000
open rows
open sec
open ly
open pa
open lk
open fs (Nd readL)
def insS(x:ByteArray):List ByteArray→List ByteArray
 | []=>[x]
 | y::t=>if ltS x y=true then x::y::t else if ltS y x=true then y::insS x t else y::t
theorem a9c(x z:ByteArray):∀L:List ByteArray,z∈insS x L↔z=x∨z∈L
 | []=>by simp[insS]
 | y::t=>by
  rw[insS]
  split
  ·simp
  ·split
   ·rw[List.mem_cons,a9c x z t,List.mem_cons]
    constructor
    ·rintro(h|h|h)<;>simp[h]
    ·rintro(h|h|h)<;>simp[h]
   ·rename_i h1 h2
    have:x=y:=a4z (by simpa using h1) (by simpa using h2)
    subst this
    simp
theorem a6o(x:ByteArray):∀L:List ByteArray,L.Pairwise (fun a b=>ltS a b=true)→(insS x L).Pairwise (fun a b=>ltS a b=true)
 | [],_=>List.pairwise_singleton _ _
 | y::t,h=>by
  rw[insS]
  split
  ·rename_i hxy
   exact List.pairwise_cons.2 ⟨fun z hz=>by
    rcases List.mem_cons.1 hz with rfl|hz
    ·exact hxy
    ·exact a2c hxy ((List.pairwise_cons.1 h).1 z hz),h⟩
  ·split
   ·rename_i hyx
    refine List.pairwise_cons.2 ⟨fun z hz => ?_,a6o x t (List.pairwise_cons.1 h).2⟩
    rcases(a9c x z t).1 hz with rfl|hz
    ·exact hyx
    ·exact(List.pairwise_cons.1 h).1 z hz
   ·exact h
def listU(ss:List (List Int))(d:Int):Nat→List ByteArray
 | 0=>[]
 | k+1=>if atB ss d k then insS (entAt ss (k:Int)).name (listU ss d k) else listU ss d k
def listV(ss:List (List Int))(d:Int):List ByteArray:=listU ss d 24
theorem a8l(ss:List (List Int))(d:Int):∀k,(listU ss d k).Pairwise (fun a b=>ltS a b=true)∧∀x,x∈listU ss d k↔nmIn ss d k x
 | 0=>⟨List.Pairwise.nil,fun x=>⟨fun h=>(nomatch h),fun⟨j,hj,_⟩=>by omega⟩⟩
 | k+1=>by
  obtain⟨h1,h2⟩:=a8l ss d k
  rw[listU]
  split
  ·rename_i hb
   exact⟨a6o _ _ h1,fun x=>by
    rw[a9c,nmIn_succ,h2 x]
    constructor
    ·rintro(h|h)
     ·exact Or.inr ⟨hb,h.symm⟩
     ·exact Or.inl h
    ·rintro(h|h)
     ·exact Or.inr h
     ·exact Or.inl h.2.symm⟩
  ·rename_i hb
   exact⟨h1,fun x=>by
    rw[nmIn_succ,h2 x]
    exact⟨Or.inl,fun h=>h.elim id fun h=>absurd h.1 hb⟩⟩
theorem b5u(ss:List (List Int))(d:Int):IsList ss d (listV ss d):=a8l ss d 24
theorem b8p{ss:List (List Int)}{d:Int}{L:List ByteArray}(h:IsList ss d L):L=listV ss d:=a8x h (b5u ss d)
theorem a9v(ss:List (List Int))(d:Int):∀k,(listU ss d k).length≤k
 | 0=>Nat.le_refl _
 | k+1=>by
  have:=a9v ss d k
  have hi:∀(x:ByteArray) (L:List ByteArray),(insS x L).length≤L.length+1:=by
   intro x L
   induction L with
   | nil=>simp[insS]
   | cons y t ih =>
    rw[insS]
    split
    ·simp
    ·split<;>simp<;>omega
  rw[listU];split
  ·have:=hi (entAt ss (k:Int)).name (listU ss d k);omega
  ·omega
theorem a9t{ss:List (List Int)}{d:Int}{x:ByteArray}(h:x∈listV ss d):∃k,findO ss d x=some k∧k<24∧inB ss d x k=true:=by
 obtain⟨j,hj,h1,h2,h3⟩:=((b5u ss d).2 x).1 h
 cases hf:findO ss d x with
 | none =>
  have:=upto_none.1 hf j hj
  rw[inB,h1,decide_eq_true h2,decide_eq_true h3] at this
  cases this
 | some k=>exact⟨k,rfl,(a6z hf).1,(a6z hf).2.1⟩
def tgt(ss:List (List Int))(d:Int)(x:ByteArray):Int:=(entAt ss (((findO ss d x).getD 0:Nat):Int)).target
def nodeV(ss:List (List Int))(m:Int)(way:List (List Int)):Nd:=⟨strOfNums (joinP way),decide ((inoAt ss m).kind=2),strOfNums (readL ss (inoAt ss m))⟩
def nodesF(ss:List (List Int)):Nat→Int→List (List Int)→List Nd
 | 0,_,_=>[]
 | f+1,n,way=>if (inoAt ss n).kind=2 then
   ((listV ss n).map fun x=>nodeV ss (tgt ss n x) (way++[bys x])::nodesF ss f (tgt ss n x) (way++[bys x])).flatten
  else []
def nodesV(ss:List (List Int)):List Nd:=nodesF ss 4 0 []
def treeV(ss:List (List Int)):List Nd:=(nodesV ss).take 64
def wholeB(ss:List (List Int)):Bool:=decide ((nodesV ss).length≤64)
def nodesJ(ss:List (List Int))(f:Nat)(n:Int)(way:List (List Int))(j:Nat):List Nd:=(((listV ss n).take j).map fun x=>nodeV ss (tgt ss n x) (way++[bys x])::nodesF ss f (tgt ss n x) (way++[bys x])).flatten
theorem b1t(ss:List (List Int))(f:Nat)(n:Int)(way:List (List Int)):nodesJ ss f n way 0=[]:=rfl
theorem b1z{ss:List (List Int)}{f:Nat}{n:Int}{way:List (List Int)}{j:Nat}(h:j<(listV ss n).length):nodesJ ss f n way (j+1)=nodesJ ss f n way j++(nodeV ss (tgt ss n (listV ss n)[j]) (way++[bys (listV ss n)[j]])::nodesF ss f (tgt ss n (listV ss n)[j]) (way++[bys (listV ss n)[j]])):=by
 rw[nodesJ,nodesJ,List.take_succ_eq_append_getElem h,List.map_append,List.flatten_append]
 simp only[List.map_cons,List.map_nil,List.flatten_cons,List.flatten_nil,List.append_nil]
theorem b4c{ss:List (List Int)}{f:Nat}{n:Int}{way:List (List Int)}(h:(inoAt ss n).kind=2):nodesJ ss f n way (listV ss n).length=nodesF ss (f+1) n way:=by
 rw[nodesJ,List.take_length,nodesF,if_pos h]
theorem a6t{ss:List (List Int)}{f:Nat}{n:Int}{way:List (List Int)}(h:(inoAt ss n).kind≠2):nodesF ss f n way=[]:=by
 cases f with
 | zero=>rfl
 | succ f=>rw[nodesF,if_neg h]
theorem a6v(ss:List (List Int))(n:Int)(way:List (List Int)):nodesF ss 0 n way=[]:=rfl
end vw
namespace fs
set_option maxRecDepth 100000
open sec
open ly
open lk
open pa
open al
theorem getD_set_ne{t:List Nd}{i j:Nat}(h:j≠i)(a:Nd):(t.set i a).getD j nd0=t.getD j nd0:=by
 have h2:¬i=j:=fun e=>h e.symm
 simp[List.getD,List.getElem?_set,h2]
theorem a7y{ss:List (List Int)}(m:Int):rightI (inoAt ss m)=true:=by
 unfold inoAt
 split
 ·rw[inoOfV]
  split
  ·rename_i h
   rw[inoOfB,Bool.and_eq_true] at h
   exact h.1
  ·decide
 ·decide
end fs
namespace fs
set_option maxRecDepth 100000
open Go.ChangeShapes Go.WideShapes Go.ChangeAt Go.RowKit
open rows
open sec
open ly
open lk
theorem a8t:(Tryz.prog.info? 76).map (·.size)=some 2:=by kernel_rfl
theorem b3n{ops:Array Oper}{S:World→Prop}{op:Oper}{a:Act}(hw:Region.wanted op (yielded ops a.tmps)=true)(x:Operand)(ho:op.op = .load 76 x)
  (b o:Nat) (hx:a.eval x = .pointer (some ⟨b,o,none⟩)) (k id:Int) (hS:∀w,S w→w.cell? ⟨b,o,none⟩=some (.int .i64 k)∧w.cell? ⟨b,o+1,none⟩=some (.int .i64 id)):YieldsIf Tryz.prog ops S op (.agg #[.int .i64 k,.int .i64 id]) a :=
 yieldsIf_load_mid hw _ x ho b o hx [.int .i64 k,.int .i64 id] _ (fun w h j u hj=>by
  obtain⟨h1,h2⟩:=hS w h
  match j,hj with
  | 0,hj=>cases hj;exact h1
  | 1,hj=>cases hj;exact h2
  | j+2,hj=>simp at hj) Tryz.underlying76 rfl (by rw[a8t];rfl)
end fs
namespace vw
set_option maxRecDepth 100000
open Go.ChangeShapes Go.WideShapes Go.ChangeAt Go.RowKit
open rows
open sec
open ly
open pa
theorem a8z(a b:List Int):strOfNums a++strOfNums b=strOfNums (a++b):=by
 apply a7k
 unfold bys
 rw[ByteArray.data_append,Array.toList_append,strOfNums_data,strOfNums_data,strOfNums_data,List.map_append (l₁:=a),List.map_append]
theorem a0p{w w':World}{B:Nat}{e:TypeId}{sz n:Nat}{v:Value}{cs:List Value}(h:Own w B e sz v n cs)(hb:Below w.heap.size w w'):Own w' B e sz v n cs :=
 ⟨h.1,h.2.elim Or.inl fun⟨g,cap,cur,h1,h2,h3,r⟩=>Or.inr ⟨g,cap,cur,h1,h2,(hb.block g (Array.getElem?_eq_some_iff.1 h3).1).trans h3,r⟩⟩
theorem b0p:∀k:Nat,(h:k<16)→((({ data := #[48,49,50,51,52,53,54,55,56,57,97,98,99,100,101,102] }:ByteArray)[k]'h).toNat:Int)=hexC (k:Int):=by decide
end vw
namespace fs
set_option maxRecDepth 100000
open Go.ChangeShapes Go.WideShapes Go.ChangeAt Go.RowKit
open rows
open sec
open ly
open pa
open lk
abbrev Nd.c(a:Nd):List Value:=[.string a.path,.bool a.dir,.string a.data]
abbrev aggN(a:Nd):Value := .agg #[.string a.path,.bool a.dir,.string a.data]
def nodesC(t:List Nd):List Value:=(t.map Nd.c).flatten
theorem a8k(t:List Nd):(nodesC t).length=t.length * 3:=by
 induction t with
 | nil=>rfl
 | cons a t ih=>rw[nodesC,List.map_cons,List.flatten_cons,← nodesC,List.length_append,ih,List.length_cons];simp;omega
theorem a3l(t u:List Nd):nodesC (t++u)=nodesC t++nodesC u:=by simp[nodesC]
theorem a1m:Elem 25 35 3 40 (.agg #[.string ByteArray.empty,.bool false,.string ByteArray.empty]):=⟨Tryz.underlying25,by kernel_rfl,by decide,by decide,by decide⟩
theorem b7o(a b:ByteArray):(a.toList == b.toList)=decide (a=b):=by
 rw[Bool.eq_iff_iff,beq_iff_eq,decide_eq_true_eq]
 constructor
 ·intro e
  have h2:a.data.toList=b.data.toList:=by rw[← ByteArray.toList_eq,← ByteArray.toList_eq];exact e
  cases a;cases b
  simpa using h2
 ·rintro rfl;rfl
end fs
namespace fs
set_option maxRecDepth 100000
open sec
open ly
open lk
open pa
open al
theorem b3o{t:List Nd}{i:Nat}(h:i<t.length):t.set i (t.getD i nd0)=t:=by
 apply List.ext_getElem
 ·simp
 ·intro j h1 h2
  rw[List.getElem_set]
  split
  ·rename_i e;subst e;simp[List.getD,h]
  ·rfl
end fs
namespace fs
set_option maxRecDepth 100000
open Go.ChangeShapes Go.WideShapes Go.ChangeAt Go.RowKit
open rows
open sec
open dsk (a0c InS)
open ly
open pa
open lk
def AtN(w:World)(g:Nat)(x:Nd):Prop:=w.heap[g]? = some (.cells #[.string x.path,.bool x.dir,.string x.data] 35 (0,0))
theorem AtN.lt{w:World}{g:Nat}{x:Nd}(h:AtN w g x):g<w.heap.size:=(Array.getElem?_eq_some_iff.1 h).1
theorem AtN.later{w w':World}{g:Nat}{x:Nd}(h:AtN w g x)(k:Below w.heap.size w w'):AtN w' g x:=(k.block g h.lt).trans h
theorem a2q(w:World)(x:Nd):AtN (w.alloc (.cells #[.string x.path,.bool x.dir,.string x.data] 35)) w.heap.size x:=heap_alloc_new _ _
theorem AtN.c0{w:World}{g:Nat}{x:Nd}(h:AtN w g x):w.cell? ⟨g,0,none⟩=some (.string x.path):=a0c h 0 _ rfl
theorem AtN.c1{w:World}{g:Nat}{x:Nd}(h:AtN w g x):w.cell? ⟨g,1,none⟩=some (.bool x.dir):=a0c h 1 _ rfl
theorem AtN.c2{w:World}{g:Nat}{x:Nd}(h:AtN w g x):w.cell? ⟨g,2,none⟩=some (.string x.data):=a0c h 2 _ rfl
theorem a3g:(Tryz.prog.info? 35).map (·.size)=some 3:=by kernel_rfl
theorem a1z{ops:Array Oper}{rest:List Oper}{o:Oper}{a:Act}{w:World}{Q:Exit→Act→World→Prop}(hgd:o.guard=none)(x:Operand)(ho:o.op = .load 35 x)
  (b off:Nat) (hx:a.eval x = .pointer (some ⟨b,off,none⟩)) (y:Nd) (h0:w.cell? ⟨b,off,none⟩=some (.string y.path)) (h1:w.cell? ⟨b,off+1,none⟩=some (.bool y.dir)) (h2:w.cell? ⟨b,off+2,none⟩=some (.string y.data))
  (h:wpList Tryz.prog ops Q rest (a.put o.dst (aggN y)) w):wpList Tryz.prog ops Q (o::rest) a w :=
 wpList_load_mid hgd 35 x ho b off hx [.string y.path,.bool y.dir,.string y.data] _ (fun j u hj=>by
  match j,hj with
  | 0,hj=>cases hj;exact h0
  | 1,hj=>cases hj;exact h1
  | 2,hj=>cases hj;exact h2
  | j+3,hj=>simp at hj) Tryz.underlying35 rfl (by rw[a3g];rfl) h
theorem c0u{w:World}{sz n:Nat}{v:Value}{cs:List Value}(h:Rd w sz v n cs):InS (fun b=>b<w.heap.size) v:=fun a m c hv hm=>by
 rcases h with⟨p,cap,h1,_⟩|⟨b,off,cap,h1,_,_,_,h2,_⟩
 ·rw[hv] at h1
  cases h1
  omega
 ·rw[hv] at h1
  cases h1
  exact h2
end fs
namespace vw
set_option maxRecDepth 100000
open rows
open sec
open ly
open pa
open lk
open fs (b2v)
theorem c0h{ss:List (List Int)}{d:Int}{x:ByteArray}{k:Nat}(h:inB ss d x k=true):isNm (bys x)=true:=by
 rw[inB,Bool.and_eq_true,Bool.and_eq_true,decide_eq_true_eq,decide_eq_true_eq,standB,Bool.and_eq_true] at h
 have:=(b2v h.1.1.1).2.2.2.2
 rw[h.2,a7e] at this
 exact this
theorem b0m{ss:List (List Int)}{d:Int}{x:ByteArray}(h:x∈listV ss d):isNm (bys x)=true:=by
 obtain⟨k,_,_,hb⟩:=a9t h
 exact c0h hb
theorem c0r{ss:List (List Int)}{d:Int}{x:ByteArray}{k:Nat}(h:findO ss d x=some k):tgt ss d x=(entAt ss (k:Int)).target:=by rw[tgt,h];rfl
end vw
namespace vw
set_option maxRecDepth 100000
open Go.ChangeShapes Go.WideShapes Go.ChangeAt Go.RowKit
open rows
open sec
open ly
open pa
def qU(s:ByteArray)(i:Nat):List Int:=34::(((bys s).take i).map signL).flatten
theorem qU_succ(s:ByteArray){i:Nat}(h:i<s.size):qU s (i+1)=qU s i++signL (s[i].toNat:Int):=by
 have hl:i<(bys s).length:=by rw[a0y];exact h
 have e:(bys s)[i]=(s[i].toNat:Int):=Option.some.inj ((List.getElem?_eq_getElem hl).symm.trans (b8f s i h))
 rw[qU,qU,List.take_succ_eq_append_getElem hl,List.map_append,List.flatten_append,e]
 simp
theorem qU_all(s:ByteArray):qU s s.size++[34]=quoteL (bys s):=by
 rw[qU,quoteL,← a0y,List.take_length];rfl
theorem qU_len(s:ByteArray)(i:Nat):(qU s i).length≤3 * s.size+1:=by
 have:=(a8p ((bys s).take i)).2
 have h2:((bys s).take i).length≤s.size:=by rw[List.length_take,a0y];omega
 rw[qU,List.length_cons];omega
end vw
namespace vw
set_option maxRecDepth 100000
open Go.ChangeShapes Go.WideShapes Go.ChangeAt Go.RowKit
open rows
open sec
open ly
open pa
theorem u8_lt(b:UInt8):(b.toNat:Int)<256:=by have:=b.toNat_lt;omega
def hv(x:Int):Int:=(hexV x).getD 0
end vw
end Go.Proofs.YtjedjkjhodgidaaGreatDoor
