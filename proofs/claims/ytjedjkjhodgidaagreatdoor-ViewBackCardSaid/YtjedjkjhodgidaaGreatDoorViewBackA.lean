/- What ViewBack wants, part 1. -/
import Derived.Test.YtjedjkjhodgidaaGreatDoorRows
import Derived.WalkKit
import Derived.ProofKit
import Derived.OpenShut
import Derived.Handy
import Derived.ChangeSlices
import Derived.Deep.RegionHeld3
import Derived.Deep.QuietTactic
import Derived.Deep.DrawnRows
import Derived.Deep.MidRow
import Derived.BigQuiet
import Derived.Lib.Hide
import Derived.Lib.AppendStr
import Derived.Laws.AppendOwnNone
import Derived.Laws.BytesArg
import Derived.Laws.BitsAllLaws
import Derived.OwnWalk
import Derived.WalkSpells
import Derived.Outline
import Derived.Deep.RegionHeld
set_option linter.unusedVariables false
namespace Go.Proofs.YtjedjkjhodgidaaGreatDoor
namespace rows
set_option maxRecDepth 100000
open Go.ChangeShapes Go.WideShapes Go.ChangeAt Go.RowKit
theorem a0e{a b:Bool}(h:a=b):Ending.returned (.bool a) = .returned (.bool b):=by rw[h]
theorem wf_i64{n:Int}(h:(Lit.int .i64 n).wf=true) : -9223372036854775808≤n∧n≤9223372036854775807:=by
 simpa [Lit.wf,IntKind.min,IntKind.max,IntKind.signed,IntKind.bits] using h
theorem a0b{a w:World}(h:Below a.heap.size a w)(o:Obj):Below a.heap.size a (w.alloc o):=h.alloc h.size o
theorem a0a{a b c:World}(h:Below a.heap.size a b)(k:Below b.heap.size b c):Below a.heap.size a c:=h.trans (k.mono h.size)
theorem a0h{w w2:World}(h:Below w.drew.heap.size w.drew w2):Below w.heap.size w w2:=(Below.refl w.heap.size w).drew.trans (c:=w2) h
theorem b3r{w w':World}(h:w.grownBy w' none):Below w.heap.size w w':=(Below.refl _ w).grown h (Nat.le_refl _) (fun k hk=>by cases hk)
structure Elem (t e:TypeId) (sz by_:Nat) (z:Value):Prop where
 und:Tryz.prog.underlying t=some (.slice e)
 info:(Tryz.prog.info? e).map (fun i=>(i.zero,i.size,i.bytes))=some (some z,sz,by_)
 zs:z.cells.size=sz
 pos:0<sz
 few:by_≤1000
def Own(w:World)(B:Nat)(e:TypeId)(sz:Nat)(v:Value)(n:Nat)(cs:List Value):Prop:=w.ownsRow B e sz v n cs
def Rd(w:World)(sz:Nat)(v:Value)(n:Nat)(cs:List Value):Prop :=
 (∃p cap,v = .slice p 0 cap∧n=0∧cs=[]∧(p=none→cap=0)) ∨
 (∃b off cap,v = .slice (some ⟨b,off,none⟩) n cap∧0<n∧n≤cap∧cap≤maxLen∧b<w.heap.size∧cs.length=n * sz∧w.rangeAt b off cs)
theorem Rd.later{w w':World}{sz n:Nat}{v:Value}{cs:List Value}(h:Rd w sz v n cs)(hb:Below w.heap.size w w'):Rd w' sz v n cs:=by
 rcases h with h|⟨b,off,cap,h1,h2,h2a,h2b,h3,h4,h5⟩
 ·exact Or.inl h
 ·refine Or.inr ⟨b,off,cap,h1,h2,h2a,h2b,Nat.lt_of_lt_of_le h3 hb.size,h4,fun i u hi => ?_⟩
  rw[hb.cell (p:=⟨b,off+i,none⟩) h3]
  exact h5 i u hi
theorem Rd.cells{w:World}{sz n:Nat}{v:Value}{cs:List Value}(h:Rd w sz v n cs):cs.length=n * sz:=by
 rcases h with⟨p',cap',h1,rfl,rfl,_⟩|⟨b,off,cap',_,_,_,_,_,h,_⟩
 ·simp
 ·exact h
theorem a7p(w:World)(sz:Nat):Rd w sz (.slice none 0 0) 0 []:=Or.inl ⟨none,0,rfl,rfl,rfl,fun _=>rfl⟩
theorem Own.slice{w:World}{B:Nat}{e:TypeId}{sz n:Nat}{v:Value}{cs:List Value}(h:Own w B e sz v n cs):∃p c,v = .slice p n c:=by
 rcases h.2 with⟨h1,h2⟩|⟨g,cap,cur,h1,_⟩
 ·exact⟨none,0,by rw[h1,h2]⟩
 ·exact⟨_,_,h1⟩
theorem Own.rd{w:World}{B:Nat}{e:TypeId}{sz n:Nat}{v:Value}{cs:List Value}(h:Own w B e sz v n cs):Rd w sz v n cs:=by
 have h':=h
 rcases h.2 with⟨h1,h2⟩|⟨g,cap,cur,rfl,hb,hg,hn,hm,hs,ht⟩
 ·refine Or.inl ⟨none,0,by rw[h1],h2,?_,fun _=>rfl⟩
  have:=h.1
  rw[h2,Nat.zero_mul] at this
  exact List.eq_nil_of_length_eq_zero this
 ·by_cases h0:n=0
  ·subst h0
   refine Or.inl ⟨some ⟨g,0,none⟩,cap,rfl,rfl,?_,fun h=>by cases h⟩
   have:=h'.1
   rw[Nat.zero_mul] at this
   exact List.eq_nil_of_length_eq_zero this
  ·refine Or.inr ⟨g,0,cap,rfl,by omega,hn,hm,(Array.getElem?_eq_some_iff.1 hg).1,h'.1,?_⟩
   intro i u hi
   have hil:i<n * sz:=by
    have:=(List.getElem?_eq_some_iff.1 hi).1
    rw[h'.1] at this;exact this
   rw[Nat.zero_add,World.ownsRow.cellAt h' i hil,hi]
theorem Own.alloc{w:World}{B:Nat}{e:TypeId}{sz n:Nat}{v:Value}{cs:List Value}(h:Own w B e sz v n cs)(o:Obj):Own (w.alloc o) B e sz v n cs:=World.ownsRow.alloc h o
theorem Own.drewN{w:World}{B:Nat}{e:TypeId}{sz n:Nat}{v:Value}{cs:List Value}(h:Own w B e sz v n cs)(k:Nat):Own (w.drewN k) B e sz v n cs:=⟨h.1,h.2⟩
theorem Own.drew{w:World}{B:Nat}{e:TypeId}{sz n:Nat}{v:Value}{cs:List Value}(h:Own w B e sz v n cs):Own w.drew B e sz v n cs:=⟨h.1,h.2⟩
theorem a2g{B:Nat}{a w:World}(h:Below B a w)(n:Nat):Below B a (w.drewN n):=h.trans ⟨rfl,rfl,rfl,Nat.le_refl _,fun _ _=>rfl⟩
theorem a2b(w:World)(B:Nat)(e:TypeId)(sz:Nat):Own w B e sz (.slice none 0 0) 0 []:=World.ownsRow_nil w B e sz
theorem b3k(w:World){B:Nat}(e:TypeId)(sz:Nat)(hB:B≤w.heap.size):Own (w.alloc (.cells #[] e)) B e sz (.slice (some ⟨w.heap.size,0,none⟩) 0 0) 0 [] :=
 World.ownsRow_made w #[] 0 hB (Nat.zero_le _) (by simp)
theorem b2s(w:World)(e:TypeId)(sz:Nat)(cs:Array Value)(h:cs.size=sz):Rd (w.alloc (.cells cs e)) sz (.slice (some ⟨w.heap.size,0,none⟩) 1 1) 1 cs.toList:=by
 refine Or.inr ⟨w.heap.size,0,1,rfl,by simp,by simp,by unfold maxLen;omega,by simp,by simp[h],?_⟩
 intro i u hi
 rw[World.cell?_alloc_new,Nat.zero_add]
 simpa using hi
theorem b7e{w w':World}{B:Nat}{e:TypeId}{sz n m:Nat}{v v':Value}{cs ds:List Value}(hown:Own w B e sz v n cs)(hB:B≤w.heap.size)(h1:Own w' B e sz v' m ds)(hg:w.grownBy w' v.ownBlock):∃p c,v' = .slice p m c∧Own w' B e sz (.slice p m c) m ds∧Below B w w':=by
 obtain⟨p,c,hv⟩:=h1.slice
 subst hv
 exact⟨p,c,rfl,h1,(Below.refl B w).grown hg hB (fun k hk=>(World.ownsRow.lt hown k hk).1)⟩
theorem c0y{t e:TypeId}{sz by_:Nat}{z:Value}(E:Elem t e sz by_ z){w:World}(ty:TypeId)(B:Nat)(v:Value)(n:Nat)(cs:List Value)(hown:Own w B e sz v n cs)
  (y:Value) (m:Nat) (ds:List Value) (hrd:Rd w sz y m ds) (h1:∀u∈ds,u.oneCell'=true) (hl:n+m≤1000000) (hB:B≤w.heap.size) :
  ∃p c w',(Builtin.append_ #[t,t] ty #[v,y]).run Tryz.prog w = .ok (.slice p (n+m) c) w'∧Own w' B e sz (.slice p (n+m) c) (n+m) (cs++ds)∧Below B w w':=by
 obtain⟨i0,hi,hz0,hz1,hz2⟩:=info_parts E.info
 have hby:(n+m) * by_≤140737488355328:=by
  have:(n+m) * by_≤1000000 * 1000:=Nat.mul_le_mul hl E.few
  omega
 have key:∀(ad:Addr) (c:Nat),y = .slice (some ad) m c→ds.length=m * sz→(∀j u,ds[j]? = some u→w.cell? (ad.add j)=some u)→∃p c w',(Builtin.append_ #[t,t] ty #[v,y]).run Tryz.prog w = .ok (.slice p (n+m) c) w'∧Own w' B e sz (.slice p (n+m) c) (n+m) (cs++ds)∧Below B w w':=by
  intro ad c hy hm hc
  subst hy
  obtain⟨v',w',hr,h2,h3,_⟩:=run_append_own (P:=Tryz.prog) w B t ty e i0 z sz by_ E.und hi hz0 hz1 hz2 E.zs E.pos v n cs hown ad m c ds hm hc h1 (by unfold maxLen;omega) hby hB
  obtain⟨p,c',rfl,h4,h5⟩:=b7e hown hB h2 h3
  exact⟨p,c',w',hr,h4,h5⟩
 rcases hrd with⟨p,cap,rfl,rfl,rfl,hp⟩|⟨b,off,cap,rfl,h2,h2a,h2b,h3,h4,h5⟩
 ·cases p with
  | none =>
   obtain rfl:=hp rfl
   have hr:=run_append_owned_none (P:=Tryz.prog) (w:=w) B t ty e i0 sz E.und hi v n cs hown
   obtain⟨p,c,hv⟩:=hown.slice
   subst hv
   exact⟨p,c,w,hr,by rw[List.append_nil];exact hown,Below.refl B w⟩
  | some ad=>exact key ad cap rfl (by simp) (by simp)
 ·refine key ⟨b,off,none⟩ cap rfl h4 ?_
  intro j u hj
  rw[Addr.add_mid]
  exact h5 j u hj
theorem a5s{t e:TypeId}{sz by_:Nat}{z:Value}(E:Elem t e sz by_ z){w:World}{ops:Array Oper}{rest:List Oper}{o:Oper}{a:Act}{Q:Exit→Act→World→Prop}(hgd:o.guard=none)(s x:Operand)
  (ho:o.op = .call { callee := .builtin .append,args := #[s,x],argTypes := #[t,t] })
  (B:Nat) (v:Value) (n:Nat) (cs:List Value) (hs:a.eval s=v) (hown:Own w B e sz v n cs) (y:Value) (m:Nat) (ds:List Value) (hx:a.eval x=y) (hrd:Rd w sz y m ds) (h1:∀u∈ds,u.oneCell'=true) (hl:n+m≤1000000) (hB:B≤w.heap.size)
  (h:∀p c w',Own w' B e sz (.slice p (n+m) c) (n+m) (cs++ds)→Below B w w'→wpList Tryz.prog ops Q rest (a.put o.dst (.slice p (n+m) c)) w'):wpList Tryz.prog ops Q (o::rest) a w:=by
 refine wpList_plain hgd fun K hK => ?_
 obtain⟨p,c,w',hr,h2,h3⟩:=c0y E (w:=w) o.type B v n cs hown y m ds hrd h1 hl hB
 unfold Oper.wp
 simp[execOp,ho,resolve,invoke,builtin,hs,hx,hr,Result.andThen]
 exact hK _ _ (h p c w' h2 h3)
theorem step_ap{t e:TypeId}{sz by_:Nat}{z:Value}(E:Elem t e sz by_ z){w:World}{ops:Array Oper}{o:Oper}{a:Act}{K:Act→World→Prop}{Q:Exit→Act→World→Prop}{F:Prop}(hw:Region.wanted o (yielded ops a.tmps)=true)(s x:Operand)
  (ho:o.op = .call { callee := .builtin .append,args := #[s,x],argTypes := #[t,t] })
  (B:Nat) (v:Value) (n:Nat) (cs:List Value) (hs:a.eval s=v) (hown:Own w B e sz v n cs) (y:Value) (m:Nat) (ds:List Value) (hx:a.eval x=y) (hrd:Rd w sz y m ds) (h1:∀u∈ds,u.oneCell'=true) (hl:n+m≤1000000) (hB:B≤w.heap.size)
  (h:∀p c w',Own w' B e sz (.slice p (n+m) c) (n+m) (cs++ds)→Below B w w'→K (a.put o.dst (.slice p (n+m) c)) w') :
  if Region.wanted o (yielded ops a.tmps)=true then Oper.wp Tryz.prog o a w K Q else F:=by
 rw[if_pos hw]
 obtain⟨p,c,w',hr,h2,h3⟩:=c0y E (w:=w) o.type B v n cs hown y m ds hrd h1 hl hB
 unfold Oper.wp
 simp[execOp,ho,resolve,invoke,builtin,hs,hx,hr,Result.andThen]
 exact h p c w' h2 h3
theorem a2t(k:IntKind)(xs:List Int):∀u∈xs.map (Value.int k),u.oneCell'=true:=by
 intro u hu;obtain⟨z,_,rfl⟩:=List.mem_map.1 hu;rfl
theorem Rd.at{w:World}{k:IntKind}{p:Option Addr}{n c:Nat}{xs:List Int}(h:Rd w 1 (.slice p n c) n (xs.map (Value.int k))){i:Nat}(hi:i<n) :
  ∃b off,p=some ⟨b,off,none⟩∧n≤c∧c≤maxLen∧b<w.heap.size∧xs.length=n∧∀i,i<n→w.cell? ⟨b,off+i,none⟩=some (.int k (xs.getD i 0)):=by
 rcases h with⟨p',cap',h1,rfl,_⟩|⟨b,off,cap',h1,h2,h3,h4,h5,h6,h7⟩
 ·omega
 ·cases h1
  have hl:xs.length=n:=by simpa using h6
  refine⟨b,off,rfl,h3,h4,h5,hl,fun i hi=>h7 i _ ?_⟩
  simp[List.getD,show i<xs.length by omega]
def ext(w1:World):World→Prop:=fun w'=>Below w1.heap.size w1 w'
end rows
namespace rows
set_option maxRecDepth 100000
open Go
open Go.RowKit
section
variable {P:Program} {ops:Array Oper} {Q:Exit→Act→World→Prop} {md:Region.Mode} {S:World→Prop} {L:Nat}
def wpAnyL(P:Program)(md:Region.Mode)(ops:Array Oper)(Q:Exit→Act→World→Prop)(S:World→Prop)(L:Nat):Nat→Array Bool→Act→World→Prop
 | 0,listed,a,w=>Region.ready md ops listed=[]∧Q .normal a w
 | fuel+1,listed,a,w =>
  (Region.ready md ops listed=[]→Q .normal a w) ∧
  ∀i∈Region.ready md ops listed,wpOp P ops Q i (fun a' w'=>(i=L∨S w')∧wpAnyL P md ops Q S L fuel (listed.setIfInBounds i true) a' w') a w
theorem a4j:∀(fuel:Nat) (listed:Array Bool) (a:Act) (w:World),wpAnyL P md ops Q S L fuel listed a w→wpAny P md ops Q fuel listed a w
 | 0,_,_,_,h=>h
 | fuel+1,_,_,_,h=>⟨h.1,fun i hi=>wpOp_mono (fun a' w' h'=>a4j fuel _ a' w' h'.2) (h.2 i hi)⟩
def waitsFor(md:Region.Mode)(ops:Array Oper)(L i:Nat):Bool:=match ops[L]? with|some o=>o.after.any (fun e=>Region.binds md e && e.on == i)|none=>false
theorem b3o{i:Nat}(h:waitsFor md ops L i=true){oL:Oper}(ho:ops[L]? = some oL):∃e∈oL.after,Region.binds md e=true∧e.on=i:=by
 unfold waitsFor at h
 rw[ho] at h
 obtain⟨e,he,h2⟩:=Array.any_eq_true'.1 h
 rw[Bool.and_eq_true] at h2
 exact⟨e,he,h2.1,by simpa using h2.2⟩
theorem wpAnyL_first{i:Nat}{oi:Oper}{v:Value}(hi:ops[i]? = some oi)(hsel:∀(j:Nat) (o:Oper) cs b,ops[j]? = some o→o.op ≠ .select cs b)
  (hQ:∀c a w,Q (.panic c) (a.put oi.dst v) w→Q (.panic c) a w) (hL:waitsFor md ops L i=true) :
  ∀(fuel:Nat) (listed:Array Bool) (a:Act) (w:World),
   (∀j oj,ops[j]? = some oj→j≠i→listed.getD j true=false→(∀e∈oj.after,Region.binds md e=true→e.on≠i)→oi.apart ops oj=true) →
   i∈Region.ready md ops listed→YieldsIf P ops S oi v a→S w →
   wpAnyL P md ops Q S L fuel (listed.setIfInBounds i true) (a.put oi.dst v) w→wpAnyL P md ops Q S L (fuel+1) listed a w:=by
 intro fuel
 induction fuel with
 | zero =>
  intro listed a w _ hr hy hS H
  refine⟨fun h=>(by rw[h] at hr;cases hr),fun j hj => ?_⟩
  by_cases hji:j=i
  ·subst hji;exact hy.wpOp hi hS ⟨Or.inr hS,H⟩
  ·have:=ready_mono hj hji
   rw[H.1] at this
   cases this
 | succ fuel ih =>
  intro listed a w hfree hr hy hS H
  refine⟨fun h=>(by rw[h] at hr;cases hr),fun j hj => ?_⟩
  by_cases hji:j=i
  ·subst hji;exact hy.wpOp hi hS ⟨Or.inr hS,H⟩
  ·have h1:=H.2 j (ready_mono hj hji)
   obtain⟨hjun,oj,hoj,hall⟩:=mem_ready.1 hj
   have hnot:∀e∈oj.after,Region.binds md e=true→e.on≠i:=fun e he hb heq=>by
    have h1:=hall e he hb
    have h0:=(mem_ready.1 hr).1
    rw[heq] at h1
    rcases Nat.lt_or_ge i listed.size with h'|h'
    ·simp[h'] at h0 h1;rw[h0] at h1;cases h1
    ·simp[Array.getElem?_eq_none h'] at h1
   have hjL:j≠L:=fun e=>by
    subst e
    obtain⟨x,hx,hb,ho⟩:=b3o hL hoj
    exact hnot x hx hb ho
   have h2:=wpOp_putIf hoj (hfree j oj hoj hji hjun hnot) (fun cs b=>hsel i oi cs b hi) (fun cs b=>hsel j oj cs b hoj) hQ hy h1
   have hfree':∀k ok,ops[k]? = some ok→k≠i→(listed.setIfInBounds j true).getD k true=false →
     (∀e∈ok.after,Region.binds md e=true→e.on≠i)→oi.apart ops ok=true:=fun k ok hk hki hun hno=>by
    refine hfree k ok hk hki ?_ hno
    by_cases hjk:j=k
    ·subst hjk;exact hjun
    ·rw[getD_set_ne true hjk] at hun;exact hun
   refine wpOp_mono (fun a' w' h3 => ?_) h2
   have hS':S w':=by
    rcases h3.2.1 with h|h
    ·exact absurd h hjL
    ·exact h
   refine⟨h3.2.1,ih (listed.setIfInBounds j true) a' w' hfree' (ready_mono hr (Ne.symm hji)) h3.1 hS' ?_⟩
   rw[Array.setIfInBounds_comm _ _ hji]
   exact h3.2.2
theorem a5x{i:Nat}{oi:Oper}{v:Value}{fuel:Nat}{listed:Array Bool}{a:Act}{w:World}(hi:ops[i]? = some oi)
  (hs:Region.noSelect ops=true) (hf:Region.free md ops listed i=true) (hr:(Region.ready md ops listed).contains i=true) (hL:waitsFor md ops L i=true)
  (hQ:∀c a w,Q (.panic c) (a.put oi.dst v) w→Q (.panic c) a w) (hy:YieldsIf P ops S oi v a) (hS:S w)
  (h:wpAnyL P md ops Q S L fuel (listed.setIfInBounds i true) (a.put oi.dst v) w):wpAnyL P md ops Q S L (fuel+1) listed a w :=
 wpAnyL_first hi (Region.noSelect_spec hs) hQ hL fuel listed a w (Region.free_spec hi hf) (by simpa using hr) hy hS h
theorem a6l{listed:Array Bool}{a:Act}{w:World}(hr:Region.ready md ops listed=[])(h:Q .normal a w) :
  ∀fuel,wpAnyL P md ops Q S L fuel listed a w
 | 0=>⟨hr,h⟩
 | _+1=>⟨fun _=>h,by rw[hr];simp⟩
def AllReadyL(P:Program)(md:Region.Mode)(ops:Array Oper)(Q:Exit→Act→World→Prop)(S:World→Prop)(L:Nat)(fuel:Nat)(listed:Array Bool)(a:Act)(w:World)(rs:List Nat):Prop :=
 ∀i∈rs,wpOp P ops Q i (fun a' w'=>(i=L∨S w')∧wpAnyL P md ops Q S L fuel (listed.setIfInBounds i true) a' w') a w
theorem AllReadyL.nil{fuel:Nat}{listed:Array Bool}{a:Act}{w:World}:AllReadyL P md ops Q S L fuel listed a w []:=fun _ h=>by cases h
theorem AllReadyL.cons{fuel:Nat}{listed:Array Bool}{a:Act}{w:World}{i:Nat}{o:Oper}{rs:List Nat}(ho:ops[i]? = some o)
  (h:∀K':Act→World→Prop,Shut (∀a w,(i=L∨S w)→((i=L∨S w)→wpAnyL P md ops Q S L fuel (listed.setIfInBounds i true) a w)→K' a w)→if Region.wanted o (yielded ops a.tmps)=true then Oper.wp P o a w K' Q else K' (a.put o.dst undef) w)
  (hs:AllReadyL P md ops Q S L fuel listed a w rs):AllReadyL P md ops Q S L fuel listed a w (i::rs):=fun j hj=>by
 rcases List.mem_cons.1 hj with rfl|hj
 ·exact wpOp_step ho (fun K' hK=>h K' (fun a w hS hW=>hK a w ⟨hS,hW hS⟩))
 ·exact hs j hj
theorem a0q{rs:List Nat}{fuel:Nat}{listed:Array Bool}{a:Act}{w:World}(hr:Region.ready md ops listed=rs)(hne:rs≠[])
  (h:AllReadyL P md ops Q S L fuel listed a w rs):wpAnyL P md ops Q S L (fuel+1) listed a w:=⟨fun h0=>absurd (hr▸h0) hne,hr▸h⟩
theorem a3i(L:Nat){id:Nat}{a:Act}{w:World}(hm:P.follows .mixedOrders=true)(hS:S w.drew)
  (h:S w.drew→wpAnyL P .any ops Q S L ops.size (Array.replicate ops.size false) a w.drew):(Code.region id ops true).wp P Q a w:=by
 refine wp_region_any hm ?_
 exact a4j _ _ _ _ (h hS)
end
end rows
section
open Go Go.RowKit
section
variable {P:Program} {ops:Array Oper} {Q:Exit→Act→World→Prop} {md:Region.Mode} {S:World→Prop} {L:Nat}
theorem toL{i:Nat}{oi:Oper}(h:ops.toList[i]? = some oi):ops[i]? = some oi:=by rw[← Array.getElem?_toList];exact h
theorem tk(i:Nat){oi:Oper}{v:Value}{fuel:Nat}{listed l':Array Bool}{a a':Act}{w:World}(hi:ops.toList[i]? = some oi)(h:wpAnyH P md ops Q S fuel l' a' w)
  (hs:Region.noSelect ops=true:=by kernel_rfl) (hf:Region.free md ops listed i=true:=by kernel_rfl) (hr:(Region.ready md ops listed).contains i=true:=by kernel_rfl)
  (hy:YieldsIf P ops S oi v a:=by(refine Or.inl ⟨by rfl,?_⟩;intro w' hSw;go_simp;try with_reducible rfl)) (hS:S w:=by assumption)
  (hl:listed.setIfInBounds i true=l':=by first|(simp only[List.setIfInBounds_toArray,List.set_cons_zero,List.set_cons_succ];rfl)|rfl)
  (ha:a.put oi.dst v=a':=by first|(simp only[Act.put,List.setIfInBounds_toArray,List.set_cons_zero,List.set_cons_succ];rfl)|rfl)
  (hQ:∀c a w,Q (.panic c) (a.put oi.dst v) w→Q (.panic c) a w:=by exact fun _ _ _ h=>h):wpAnyH P md ops Q S (fuel+1) listed a w :=
 wpAnyH_take (toL hi) hs hf hr hQ hy hS (hl▸ha▸h)
theorem tkv(i:Nat){oi:Oper}{v:Value}{fuel:Nat}{listed l':Array Bool}{a a':Act}{w:World}(hi:ops.toList[i]? = some oi)(hy:YieldsIf P ops S oi v a)(h:wpAnyH P md ops Q S fuel l' a' w)
  (hs:Region.noSelect ops=true:=by kernel_rfl) (hf:Region.free md ops listed i=true:=by kernel_rfl) (hr:(Region.ready md ops listed).contains i=true:=by kernel_rfl)
  (hS:S w:=by assumption)
  (hl:listed.setIfInBounds i true=l':=by first|(simp only[List.setIfInBounds_toArray,List.set_cons_zero,List.set_cons_succ];rfl)|rfl)
  (ha:a.put oi.dst v=a':=by first|(simp only[Act.put,List.setIfInBounds_toArray,List.set_cons_zero,List.set_cons_succ];rfl)|rfl)
  (hQ:∀c a w,Q (.panic c) (a.put oi.dst v) w→Q (.panic c) a w:=by exact fun _ _ _ h=>h):wpAnyH P md ops Q S (fuel+1) listed a w :=
 wpAnyH_take (toL hi) hs hf hr hQ hy hS (hl▸ha▸h)
theorem tl(i:Nat){oi:Oper}{v:Value}{fuel:Nat}{listed l':Array Bool}{a a':Act}{w:World}(hi:ops.toList[i]? = some oi)(h:rows.wpAnyL P md ops Q S L fuel l' a' w)
  (hs:Region.noSelect ops=true:=by kernel_rfl) (hf:Region.free md ops listed i=true:=by kernel_rfl) (hr:(Region.ready md ops listed).contains i=true:=by kernel_rfl) (hL:rows.waitsFor md ops L i=true:=by kernel_rfl)
  (hy:YieldsIf P ops S oi v a:=by(refine Or.inl ⟨by rfl,?_⟩;intro w' hSw;go_simp;try with_reducible rfl)) (hS:S w:=by assumption)
  (hl:listed.setIfInBounds i true=l':=by first|(simp only[List.setIfInBounds_toArray,List.set_cons_zero,List.set_cons_succ];rfl)|rfl)
  (ha:a.put oi.dst v=a':=by first|(simp only[Act.put,List.setIfInBounds_toArray,List.set_cons_zero,List.set_cons_succ];rfl)|rfl)
  (hQ:∀c a w,Q (.panic c) (a.put oi.dst v) w→Q (.panic c) a w:=by exact fun _ _ _ h=>h):rows.wpAnyL P md ops Q S L (fuel+1) listed a w :=
 rows.a5x (toL hi) hs hf hr hL hQ hy hS (hl▸ha▸h)
theorem tlv(i:Nat){oi:Oper}{v:Value}{fuel:Nat}{listed l':Array Bool}{a a':Act}{w:World}(hi:ops.toList[i]? = some oi)(hy:YieldsIf P ops S oi v a)(h:rows.wpAnyL P md ops Q S L fuel l' a' w)
  (hs:Region.noSelect ops=true:=by kernel_rfl) (hf:Region.free md ops listed i=true:=by kernel_rfl) (hr:(Region.ready md ops listed).contains i=true:=by kernel_rfl) (hL:rows.waitsFor md ops L i=true:=by kernel_rfl)
  (hS:S w:=by assumption)
  (hl:listed.setIfInBounds i true=l':=by first|(simp only[List.setIfInBounds_toArray,List.set_cons_zero,List.set_cons_succ];rfl)|rfl)
  (ha:a.put oi.dst v=a':=by first|(simp only[Act.put,List.setIfInBounds_toArray,List.set_cons_zero,List.set_cons_succ];rfl)|rfl)
  (hQ:∀c a w,Q (.panic c) (a.put oi.dst v) w→Q (.panic c) a w:=by exact fun _ _ _ h=>h):rows.wpAnyL P md ops Q S L (fuel+1) listed a w :=
 rows.a5x (toL hi) hs hf hr hL hQ hy hS (hl▸ha▸h)
theorem rd(i:Nat){o:Oper}{fuel:Nat}{listed:Array Bool}{a:Act}{w:World}(hi:ops.toList[i]? = some o)
  (h:∀K':Act→World→Prop,Shut (∀a w,S w→(S w→wpAnyH P md ops Q S fuel (listed.setIfInBounds i true) a w)→K' a w)→if Region.wanted o (yielded ops a.tmps)=true then Oper.wp P o a w K' Q else K' (a.put o.dst undef) w)
  (hr:Region.ready md ops listed=[i]:=by kernel_rfl):wpAnyH P md ops Q S (fuel+1) listed a w :=
 wpAnyH_ready hr (by simp) (AllReadyH.cons (toL hi) h AllReadyH.nil)
end
end
end Go.Proofs.YtjedjkjhodgidaaGreatDoor
