/- What ViewBack wants, part 5. -/
import Derived.Test.YtjedjkjhodgidaaGreatDoorViewBackB
import Derived.Test.YtjedjkjhodgidaaGreatDoorViewBackC
import Derived.Test.YtjedjkjhodgidaaGreatDoorViewBackD
set_option linter.unusedVariables false
namespace Go.Proofs.YtjedjkjhodgidaaGreatDoor
namespace rng
set_option maxRecDepth 100000
open Go
open Go.RowKit
structure Calm (B:Nat) (a b:World):Prop where
 os:b.os=a.os
 tape:b.tape=a.tape
 output:b.output=a.output
 size:a.heap.size≤b.heap.size
 block:∀(k:Nat) (o:Obj),a.heap[k]? = some o→(k<B∨o.isCells=true)→b.heap[k]? = some o
theorem Calm.refl(B:Nat)(w:World):Calm B w w:=⟨rfl,rfl,rfl,Nat.le_refl _,fun _ _ h _=>h⟩
theorem Calm.trans{B:Nat}{a b c:World}(h:Calm B a b)(k:Calm B b c):Calm B a c :=
 ⟨k.os.trans h.os,k.tape.trans h.tape,k.output.trans h.output,Nat.le_trans h.size k.size,fun i o hi ho=>k.block i o (h.block i o hi ho) ho⟩
theorem Calm.mono{B B':Nat}{a b:World}(h:Calm B a b)(hB:B'≤B):Calm B' a b :=
 ⟨h.os,h.tape,h.output,h.size,fun i o hi ho=>h.block i o hi (ho.imp (fun h=>Nat.lt_of_lt_of_le h hB) id)⟩
theorem Calm.of_below{B:Nat}{a b:World}(h:Below a.heap.size a b):Calm B a b :=
 ⟨h.os,h.tape,h.output,h.size,fun i o hi _=>(h.block i (Array.getElem?_eq_some_iff.1 hi).1).trans hi⟩
theorem Calm.putObj{B l:Nat}{w:World}{o:Obj}(o':Obj)(hB:B≤l)(h:w.heap[l]? = some o)(hc:o.isCells=false):Calm B w (w.putObj l o') :=
 ⟨rfl,rfl,rfl,by simp,fun i o2 hi ho=>by
  by_cases e:i=l
  ·subst e
   rw[h] at hi;cases hi
   rcases ho with ho|ho
   ·omega
   ·rw[hc] at ho;cases ho
  ·exact(World.putObj_heap_other e).trans hi⟩
theorem Calm.below{B B0:Nat}{a b:World}(h:Calm B a b)(hB:B0≤B)(hs:B0≤a.heap.size):Below B0 a b :=
 ⟨h.os,h.tape,h.output,h.size,fun i hi=>by
  have hl:i<a.heap.size:=by omega
  have e:a.heap[i]? = some a.heap[i]:=Array.getElem?_eq_getElem hl
  exact(h.block i _ e (Or.inl (by omega))).trans e.symm⟩
theorem Calm.boxed{B k:Nat}{t:TypeId}{v:Value}{a b:World}(h:Calm B a b)(hb:Go.Boxed a k t v):Go.Boxed b k t v:=h.block k _ hb (Or.inr rfl)
structure Turn (m:Nat→Obj→Prop) (a b:World):Prop where
 os:b.os=a.os
 tape:b.tape=a.tape
 output:b.output=a.output
 size:a.heap.size≤b.heap.size
 keep:∀(k:Nat) (o:Obj),a.heap[k]? = some o→¬m k o→b.heap[k]? = some o
theorem Turn.refl(m:Nat→Obj→Prop)(w:World):Turn m w w:=⟨rfl,rfl,rfl,Nat.le_refl _,fun _ _ h _=>h⟩
theorem Turn.trans{m:Nat→Obj→Prop}{a b c:World}(h:Turn m a b)(k:Turn m b c):Turn m a c :=
 ⟨k.os.trans h.os,k.tape.trans h.tape,k.output.trans h.output,Nat.le_trans h.size k.size,fun i o hi ho=>k.keep i o (h.keep i o hi ho) ho⟩
theorem Turn.mono{m m':Nat→Obj→Prop}{a b:World}(h:Turn m a b)(hm:∀k o,m k o→m' k o):Turn m' a b :=
 ⟨h.os,h.tape,h.output,h.size,fun i o hi ho=>h.keep i o hi fun hm'=>ho (hm i o hm')⟩
theorem Turn.of_below{m:Nat→Obj→Prop}{a b:World}(h:Below a.heap.size a b):Turn m a b :=
 ⟨h.os,h.tape,h.output,h.size,fun i o hi _=>(h.block i (Array.getElem?_eq_some_iff.1 hi).1).trans hi⟩
theorem Turn.of_touch{Z:Nat→Prop}{a b:World}(h:dsk.Touch Z a b):Turn (fun k _=>Z k) a b :=
 ⟨h.os,h.tape,h.output,h.size,fun i o hi hz=>(h.block i (Array.getElem?_eq_some_iff.1 hi).1 hz).trans hi⟩
theorem Turn.of_touch'{Z:Nat→Prop}{m:Nat→Obj→Prop}{a b:World}(h:dsk.Touch Z a b)(hm:∀k o,a.heap[k]? = some o→Z k→m k o):Turn m a b :=
 ⟨h.os,h.tape,h.output,h.size,fun i o hi ho=>(h.block i (Array.getElem?_eq_some_iff.1 hi).1 fun hz=>ho (hm i o hi hz)).trans hi⟩
theorem Turn.below{m:Nat→Obj→Prop}{a b:World}{B:Nat}(h:Turn m a b)(hB:B≤a.heap.size)(hm:∀k o,m k o→B≤k):Below B a b :=
 ⟨h.os,h.tape,h.output,h.size,fun i hi=>by
  have e:a.heap[i]? = some a.heap[i]:=Array.getElem?_eq_getElem (by omega)
  exact(h.keep i _ e fun hk=>by have:=hm i _ hk;omega).trans e.symm⟩
theorem b7x{F:Fence}(hd:F.depth=none)(k:Nat):F.room k:=fun d h=>by rw[hd] at h;cases h
theorem a4b{m:Nat}(m':Nat){P:Program}{l:Nat}{args:Array Value}{W:World}{R:Ending→World→Prop}(h:YieldAt Fence.wide m P l args W R):YieldAt Fence.wide m' P l args W R:=by
 obtain⟨fn,tmps,assign,body,hy,hF,hr⟩:=h
 exact⟨fn,tmps,assign,body,hy,hF,fun c cs _=>hr c cs (b7x rfl _)⟩
def Seq{α:Type}(P:Program)(g:Nat)(lb:Array Value)(encs:α→Array Value)(soft:Obj→Prop)(m:Nat→Obj→Prop)(S Sp:List α→Prop)(w:World):Prop :=
 ∀(l:Nat) (J Jx:List α→World→Prop) (W:World),Below w.heap.size w W→(∀b o,m b o→b<W.heap.size∨soft o) →
  (∀s A B,J s A→Calm W.heap.size A B→J s B)→(∀s A B,Jx s A→Calm W.heap.size A B→Jx s B) →
  (∀pre x W1,J pre W1→W.heap.size≤W1.heap.size→Sp (pre++[x])→YieldAt Fence.wide 9 P l (encs x) W1 fun e W' =>
   (e = .returned (.bool true)∧J (pre++[x]) W'∧Turn m W1 W')∨(e = .returned (.bool false)∧Jx (pre++[x]) W'∧Turn (fun b o=>b<W.heap.size∨soft o) W1 W')) →
  J [] W →
  Calls P g (#[.func (.yield l) #[] #[]]++lb) W fun e W'=>(∃v,e = .returned v)∧((∃xs,S xs∧J xs W')∨(∃pre,Sp pre∧Jx pre W'))
def roundEnd{α:Type}(B:Nat)(soft:Obj→Prop)(m:Nat→Obj→Prop)(I:List α→World→Prop)(Ix:Code→List α→World→Prop)(xs:List α)(W:World):Exit→Act→World→Prop
 | .normal,_,W'=>I xs W'∧Turn m W W'
 | .ret,_,W'=>Ix .ret xs W'∧Turn (fun b o=>b<B∨soft o) W W'
 | .exit id,_,W'=>Ix (.exit id) xs W'∧Turn (fun b o=>b<B∨soft o) W W'
 | .goto t,_,W'=>Ix (.goto t) xs W'∧Turn (fun b o=>b<B∨soft o) W W'
 | .panic _,_,_=>False
 | .outgrown,_,_=>False
theorem a4m{α:Type}{P:Program}{n:Nat}{g:Operand}{ps:Array Tmp}{assign body:Code}{Q:Exit→Act→World→Prop}{a:Act}{w:World}
  {gf:Nat} {lb:Array Value} (hg:a.eval g = .func (.func gf) #[] lb) (eg:∀args w,(callFunc gf args).run P w = .ok (.enter gf args) w)
  {encs:α→Array Value} {soft:Obj→Prop} {m:Nat→Obj→Prop} {S Sp:List α→Prop} (hseq:Seq P gf lb encs soft (fun b o=>b=w.heap.size+1∨m b o) S Sp w) (hZ:∀b o,m b o→b<w.heap.size∨soft o) (hso:∀o,soft o→o.isCells=true) (hps:∀x,(encs x).size=ps.size)
  (I:List α→World→Prop) (Ix:Code→List α→World→Prop) (hI:∀s A B,I s A→Calm w.heap.size A B→I s B) (hIx:∀c s A B,Ix c s A→Calm w.heap.size A B→Ix c s B) (h0:I [] w)
  (Ax:List α→α→Act→World→Prop) (hAx:∀s x a' A B,Ax s x a' A→Calm w.heap.size A B→Ax s x a' B)
  (hassign:∀(l:Nat) (pre:List α) (x:α) (W:World),I pre W→w.heap.size≤W.heap.size→Sp (pre++[x]) →
   assign.wpIn (Fence.wide.inRound l) 9 P (Exit.then (fun a' W'=>Ax pre x a' W'∧Turn m W W') (fun _ _ _=>False)) { tmps:=(ps.zip (encs x)).foldl (fun t (p,v)=>t.setIfInBounds p v) a.tmps,defers:=[] } W)
  (hbody:∀(l:Nat) (pre:List α) (x:α) (a':Act) (W:World),Ax pre x a' W→w.heap.size+2≤W.heap.size→Sp (pre++[x])→body.wpIn (Fence.wide.inRound l) 9 P (roundEnd w.heap.size soft m I Ix (pre++[x]) W) a' W)
  (hdone:∀(D:Nat) (xs:List α) (W:World),w.heap.size≤D→S xs→I xs W→W.heap[D]? = some (.deferred (some []))→Q .normal { a with defers:={ target := .collected D,args := #[] }::a.defers } W)
  (hstop:∀(D:Nat) (c:Code) (pre:List α) (W:World),w.heap.size≤D→Sp pre→Ix c pre W→W.heap[D]? = some (.deferred (some []))→c.wpIn Fence.wide n P Q { a with defers:={ target := .collected D,args := #[] }::a.defers } W) :
  (Code.rangeFunc g ps assign body).wpIn Fence.wide n P Q a w:=by
 refine wpIn_rangeFunc ?_
 intro fn _
 obtain⟨R,hR⟩:∃R:LoopState→Option Code→Loop,R=fun s p=>{ state:=s,pending:=p,fn,tmps:=a.tmps,params:=ps,assign,body,defers:=w.heap.size }:=⟨_,rfl⟩
 obtain⟨W0,hW0⟩:∃W0,(w.alloc (.deferred (some []))).alloc (.loop (R .ready none))=W0:=⟨_,rfl⟩
 have hL0:W0.heap[w.heap.size+1]? = some (.loop (R .ready none)):=by
  have h:=World.alloc_heap_new (w.alloc (.deferred (some []))) (.loop (R .ready none))
  rw[World.size_alloc] at h
  rw[← hW0];exact h
 have hD0:W0.heap[w.heap.size]? = some (.deferred (some [])):=by
  rw[← hW0];exact(Below.heap_alloc _ _ _ (by simp)).trans (World.alloc_heap_new w _)
 have hb:Below w.heap.size w W0:=by
  rw[← hW0];exact((Below.refl _ w).alloc (Nat.le_refl _) _).alloc (by simp) _
 have hz0:W0.heap.size=w.heap.size+2:=by rw[← hW0];simp
 refine⟨w.heap.size+1,[{ target := .collected w.heap.size,args := #[] }],W0,{ target := .fn (.func gf) lb,args := #[.func (.yield (w.heap.size+1)) #[] #[]] },W0,gf,
  #[.func (.yield (w.heap.size+1)) #[] #[]]++lb,W0,?_,?_,fun _ _=>trivial,?_,fun h=>by simp[Fence.wide] at h,callsIn_wide.2 ?_⟩
 ·rw[← hW0,hR];exact run_enterLoop_outer _ _ _ _ _
 ·simp only[resolve,hg]
  simp[go_sem]
 ·simp[invoke,go_sem,eg]
 clear hW0
 refine(hseq (w.heap.size+1)
  (fun pre W=>I pre W∧W.heap[w.heap.size+1]? = some (.loop (R .ready none))∧W.heap[w.heap.size]? = some (.deferred (some [])))
  (fun pre W=>∃c,Ix c pre W∧W.heap[w.heap.size+1]? = some (.loop (R .done (some c)))∧W.heap[w.heap.size]? = some (.deferred (some [])))
  W0 hb (fun b o h=>by rcases h with h|h;(exact Or.inl (by omega));(exact(hZ b o h).imp (fun h=>by omega) id))
  (fun s A B h hc=>⟨hI s A B h.1 (hc.mono (by omega)),hc.block _ _ h.2.1 (Or.inl (by omega)),hc.block _ _ h.2.2 (Or.inl (by omega))⟩)
  (fun s A B h hc=>by
   obtain⟨c,h1,h2,h3⟩:=h
   exact⟨c,hIx c s A B h1 (hc.mono (by omega)),hc.block _ _ h2 (Or.inl (by omega)),hc.block _ _ h3 (Or.inl (by omega))⟩)
  ?_ ⟨hI [] w W0 h0 (Calm.of_below hb),hL0,hD0⟩).mono ?_
 ·rintro pre x W ⟨hi,hl,hd⟩ hsz hsp
  have hy:=run_yield (P:=P) (args:=encs x) hl (by rw[hR];exact hps x)
  rw[hR] at hy
  refine⟨fn,_,assign,body,hy,roundIn_of_wpIn trivial (wpIn_mono (hassign _ pre x W hi (by omega) hsp) ?_)⟩
  rintro e a1 W1 hp
  cases e with
  | normal =>
   obtain⟨hax,ht1⟩:=hp
   have hno:∀k o,w.heap.size≤k→o.isCells=false→¬m k o:=fun k o hk ho h=>by
    rcases hZ k o h with h|h
    ·omega
    ·rw[hso o h] at ho;cases ho
   have hl1:=ht1.keep _ _ hl (hno _ _ (Nat.le_succ _) rfl)
   have hd1:=ht1.keep _ _ hd (hno _ _ (Nat.le_refl _) rfl)
   have hlt:w.heap.size+1<W1.heap.size:=(Array.getElem?_eq_some_iff.1 hl1).1
   refine⟨_,run_beginRound hl1 (by rw[hR]),?_⟩
   have hl2:(W1.putObj (w.heap.size+1) (.loop { R .ready none with state := .busy })).heap[w.heap.size+1]? = some (.loop { R .ready none with state := .busy }):=World.putObj_heap_same hlt
   have hd2:(W1.putObj (w.heap.size+1) (.loop { R .ready none with state := .busy })).heap[w.heap.size]? = some (.deferred (some [])):=(World.putObj_heap_other (by omega)).trans hd1
   have hax2:=hAx _ _ _ _ _ hax (Calm.putObj (.loop { R .ready none with state := .busy }) (Nat.le_succ _) hl1 rfl)
   have hsz2:(W1.putObj (w.heap.size+1) (.loop { R .ready none with state := .busy })).heap.size=W1.heap.size:=by simp
   have hput:∀(V:World) (o:Obj),Turn (fun b _=>b=w.heap.size+1) V (V.putObj (w.heap.size+1) o):=fun V o=>⟨rfl,rfl,rfl,by simp,fun k _ hk hn=>(World.putObj_heap_other hn).trans hk⟩
   have ht2:Turn (fun b o=>b=w.heap.size+1∨m b o) W (W1.putObj (w.heap.size+1) (.loop { R .ready none with state := .busy })):=(ht1.mono fun i o hi=>Or.inr hi).trans ((hput _ _).mono fun i o hi=>Or.inl hi)
   refine wpIn_mono (hbody _ pre x a1 _ hax2 (by rw[hsz2];omega) hsp) ?_
   generalize W1.putObj (w.heap.size+1) (.loop { R .ready none with state := .busy })=W2 at *
   have fin:∀(jump:Option Code) (W3:World),W3.heap[w.heap.size+1]? = some (.loop { R .ready none with state := .busy }) →
     (Instr.endRound (w.heap.size+1) jump).run P W3 = .ok (.bool jump.isNone) (W3.putObj (w.heap.size+1) (.loop (R (if jump.isNone then .ready else .done) jump))) ∧
     (W3.putObj (w.heap.size+1) (.loop (R (if jump.isNone then .ready else .done) jump))).heap[w.heap.size+1]? = some (.loop (R (if jump.isNone then .ready else .done) jump)):=fun jump W3 hk=>by
    have h:=run_endRound (P:=P) jump hk
    rw[hR] at h hk ⊢
    exact⟨h,World.putObj_heap_same (Array.getElem?_eq_some_iff.1 hk).1⟩
   have go:∀(c:Code) (W3:World),Ix c (pre++[x]) W3→Turn (fun b o=>b<w.heap.size∨soft o) W2 W3→∃v w',(Instr.endRound (w.heap.size+1) (some c)).run P W3 = .ok v w' ∧
     ((Ending.returned v = .returned (.bool true)∧(I (pre++[x]) w'∧w'.heap[w.heap.size+1]? = some (.loop (R .ready none))∧w'.heap[w.heap.size]? = some (.deferred (some [])))∧Turn (fun b o=>b=w.heap.size+1∨m b o) W w') ∨
      (Ending.returned v = .returned (.bool false)∧(∃c,Ix c (pre++[x]) w'∧w'.heap[w.heap.size+1]? = some (.loop (R .done (some c)))∧w'.heap[w.heap.size]? = some (.deferred (some [])))∧Turn (fun b o=>b<W0.heap.size∨soft o) W w')):=fun c W3 hx ht3=>by
    have hq:∀k o,w.heap.size≤k→o.isCells=false→¬(k<w.heap.size∨soft o):=fun k o hk ho h=>by
     rcases h with h|h
     ·omega
     ·rw[hso o h] at ho;cases ho
    have hl3:=ht3.keep _ _ hl2 (hq _ _ (Nat.le_succ _) rfl)
    have hd3:=ht3.keep _ _ hd2 (hq _ _ (Nat.le_refl _) rfl)
    obtain⟨hr,hl4⟩:=fin (some c) W3 hl3
    refine⟨_,_,hr,.inr ⟨rfl,⟨c,hIx c _ _ _ hx (Calm.putObj _ (Nat.le_succ _) hl3 rfl),hl4,(World.putObj_heap_other (by omega)).trans hd3⟩,?_⟩⟩
    refine((ht2.mono fun i o hi => ?_).trans (ht3.mono fun i o hi => ?_)).trans ((hput _ _).mono fun i o hi => ?_)
    ·rcases hi with hi|hi
     ·exact Or.inl (by omega)
     ·exact(hZ i o hi).imp (fun h=>by omega) id
    ·exact hi.imp (fun h=>by omega) id
    ·exact Or.inl (by omega)
   rintro e a3 W3 hp
   cases e with
   | normal =>
    obtain⟨hi3,ht3⟩:=hp
    have hl3:=ht3.keep _ _ hl2 (hno _ _ (Nat.le_succ _) rfl)
    have hd3:=ht3.keep _ _ hd2 (hno _ _ (Nat.le_refl _) rfl)
    obtain⟨hr,hl4⟩:=fin none W3 hl3
    exact⟨_,_,hr,.inl ⟨rfl,⟨hI _ _ _ hi3 (Calm.putObj _ (Nat.le_succ _) hl3 rfl),hl4,(World.putObj_heap_other (by omega)).trans hd3⟩,(ht2.trans (ht3.mono fun i o hi=>Or.inr hi)).trans ((hput _ _).mono fun i o hi=>Or.inl hi)⟩⟩
   | ret=>exact go _ _ hp.1 hp.2
   | exit id=>exact go _ _ hp.1 hp.2
   | goto t=>exact go _ _ hp.1 hp.2
   | panic ch=>exact hp.elim
   | outgrown=>exact hp.elim
  | ret=>exact hp.elim
  | exit id=>exact hp.elim
  | goto t=>exact hp.elim
  | panic ch=>exact hp.elim
  | outgrown=>exact hp.elim
 ·rintro e W2 ⟨⟨v,rfl⟩,(⟨xs,hS,hi,hl,hd⟩|⟨pre,hSp,c,hi,hl,hd⟩)⟩
  ·have h:=run_endLoop (P:=P) hl (by rw[hR];simp)
   rw[hR] at h
   exact⟨none,_,h,hdone _ xs _ (Nat.le_refl _) hS (hI _ _ _ hi (Calm.putObj _ (Nat.le_succ _) hl rfl)) ((World.putObj_heap_other (by omega)).trans hd)⟩
  ·have h:=run_endLoop (P:=P) hl (by rw[hR];simp)
   rw[hR] at h
   exact⟨some c,_,h,hstop _ c pre _ (Nat.le_refl _) hSp (hIx _ _ _ _ hi (Calm.putObj _ (Nat.le_succ _) hl rfl)) ((World.putObj_heap_other (by omega)).trans hd)⟩
end rng
namespace rng
set_option maxRecDepth 100000
open Go
open Go.RowKit
structure CalmH (hole:Nat→Prop) (soft:Obj→Prop) (B:Nat) (a b:World):Prop where
 os:b.os=a.os
 tape:b.tape=a.tape
 output:b.output=a.output
 size:a.heap.size≤b.heap.size
 block:∀(k:Nat) (o:Obj),a.heap[k]? = some o→((k<B∧¬hole k)∨soft o)→b.heap[k]? = some o
theorem CalmH.of{hole:Nat→Prop}{soft:Obj→Prop}{B:Nat}{a b:World}(hso:∀o,soft o→o.isCells=true)(h:Calm B a b):CalmH hole soft B a b :=
 ⟨h.os,h.tape,h.output,h.size,fun k o hi ho=>h.block k o hi (ho.imp And.left (hso o))⟩
theorem CalmH.of_below{hole:Nat→Prop}{soft:Obj→Prop}{B:Nat}{a b:World}(h:Below a.heap.size a b):CalmH hole soft B a b :=
 ⟨h.os,h.tape,h.output,h.size,fun i o hi _=>(h.block i (Array.getElem?_eq_some_iff.1 hi).1).trans hi⟩
theorem CalmH.mono{hole:Nat→Prop}{soft:Obj→Prop}{B B':Nat}{a b:World}(h:CalmH hole soft B a b)(hB:B'≤B):CalmH hole soft B' a b :=
 ⟨h.os,h.tape,h.output,h.size,fun i o hi ho=>h.block i o hi (ho.imp (fun h=>⟨Nat.lt_of_lt_of_le h.1 hB,h.2⟩) id)⟩
theorem CalmH.boxed{hole:Nat→Prop}{soft:Obj→Prop}{B k:Nat}{t:TypeId}{v:Value}{a b:World}(h:CalmH hole soft B a b)(hk:k<B)(hh:¬hole k)(hb:Go.Boxed a k t v):Go.Boxed b k t v:=h.block k _ hb (Or.inl ⟨hk,hh⟩)
def SeqH{α:Type}(P:Program)(g:Nat)(lb:Array Value)(encs:α→Array Value)(hole:Nat→Prop)(soft:Obj→Prop)(m:Nat→Obj→Prop)(S Sp:List α→Prop)(w:World):Prop :=
 ∀(l:Nat) (J Jx:List α→World→Prop) (W:World),Below w.heap.size w W→(∀b o,m b o→b<W.heap.size∨soft o) →
  (∀s A B,J s A→CalmH hole soft W.heap.size A B→J s B)→(∀s A B,Jx s A→CalmH hole soft W.heap.size A B→Jx s B) →
  (∀pre x W1,J pre W1→W.heap.size≤W1.heap.size→Sp (pre++[x])→YieldAt Fence.wide 9 P l (encs x) W1 fun e W' =>
   (e = .returned (.bool true)∧J (pre++[x]) W'∧Turn m W1 W')∨(e = .returned (.bool false)∧Jx (pre++[x]) W'∧Turn (fun b o=>b<W.heap.size∨soft o) W1 W')) →
  J [] W →
  Calls P g (#[.func (.yield l) #[] #[]]++lb) W fun e W'=>(∃v,e = .returned v)∧((∃xs,S xs∧J xs W')∨(∃pre,Sp pre∧Jx pre W'))
theorem b0y{α:Type}{P:Program}{n:Nat}{g:Operand}{ps:Array Tmp}{assign body:Code}{Q:Exit→Act→World→Prop}{a:Act}{w:World}
  {gf:Nat} {lb:Array Value} (hg:a.eval g = .func (.func gf) #[] lb) (eg:∀args w,(callFunc gf args).run P w = .ok (.enter gf args) w)
  {encs:α→Array Value} {hole:Nat→Prop} {soft:Obj→Prop} {m:Nat→Obj→Prop} {S Sp:List α→Prop} (hH:∀k,hole k→k<w.heap.size) (hseq:SeqH P gf lb encs hole soft (fun b o=>b=w.heap.size+1∨m b o) S Sp w) (hZ:∀b o,m b o→b<w.heap.size∨soft o) (hso:∀o,soft o→o.isCells=true) (hps:∀x,(encs x).size=ps.size)
  (I:List α→World→Prop) (Ix:Code→List α→World→Prop) (hI:∀s A B,I s A→CalmH hole soft w.heap.size A B→I s B) (hIx:∀c s A B,Ix c s A→CalmH hole soft w.heap.size A B→Ix c s B) (h0:I [] w)
  (Ax:List α→α→Act→World→Prop) (hAx:∀s x a' A B,Ax s x a' A→Calm w.heap.size A B→Ax s x a' B)
  (hassign:∀(l:Nat) (pre:List α) (x:α) (W:World),I pre W→w.heap.size≤W.heap.size→Sp (pre++[x]) →
   assign.wpIn (Fence.wide.inRound l) 9 P (Exit.then (fun a' W'=>Ax pre x a' W'∧Turn m W W') (fun _ _ _=>False)) { tmps:=(ps.zip (encs x)).foldl (fun t (p,v)=>t.setIfInBounds p v) a.tmps,defers:=[] } W)
  (hbody:∀(l:Nat) (pre:List α) (x:α) (a':Act) (W:World),Ax pre x a' W→w.heap.size+2≤W.heap.size→Sp (pre++[x])→body.wpIn (Fence.wide.inRound l) 9 P (roundEnd w.heap.size soft m I Ix (pre++[x]) W) a' W)
  (hdone:∀(D:Nat) (xs:List α) (W:World),w.heap.size≤D→S xs→I xs W→W.heap[D]? = some (.deferred (some []))→Q .normal { a with defers:={ target := .collected D,args := #[] }::a.defers } W)
  (hstop:∀(D:Nat) (c:Code) (pre:List α) (W:World),w.heap.size≤D→Sp pre→Ix c pre W→W.heap[D]? = some (.deferred (some []))→c.wpIn Fence.wide n P Q { a with defers:={ target := .collected D,args := #[] }::a.defers } W) :
  (Code.rangeFunc g ps assign body).wpIn Fence.wide n P Q a w:=by
 refine wpIn_rangeFunc ?_
 intro fn _
 obtain⟨R,hR⟩:∃R:LoopState→Option Code→Loop,R=fun s p=>{ state:=s,pending:=p,fn,tmps:=a.tmps,params:=ps,assign,body,defers:=w.heap.size }:=⟨_,rfl⟩
 obtain⟨W0,hW0⟩:∃W0,(w.alloc (.deferred (some []))).alloc (.loop (R .ready none))=W0:=⟨_,rfl⟩
 have hL0:W0.heap[w.heap.size+1]? = some (.loop (R .ready none)):=by
  have h:=World.alloc_heap_new (w.alloc (.deferred (some []))) (.loop (R .ready none))
  rw[World.size_alloc] at h
  rw[← hW0];exact h
 have hD0:W0.heap[w.heap.size]? = some (.deferred (some [])):=by
  rw[← hW0];exact(Below.heap_alloc _ _ _ (by simp)).trans (World.alloc_heap_new w _)
 have hb:Below w.heap.size w W0:=by
  rw[← hW0];exact((Below.refl _ w).alloc (Nat.le_refl _) _).alloc (by simp) _
 have hz0:W0.heap.size=w.heap.size+2:=by rw[← hW0];simp
 refine⟨w.heap.size+1,[{ target := .collected w.heap.size,args := #[] }],W0,{ target := .fn (.func gf) lb,args := #[.func (.yield (w.heap.size+1)) #[] #[]] },W0,gf,
  #[.func (.yield (w.heap.size+1)) #[] #[]]++lb,W0,?_,?_,fun _ _=>trivial,?_,fun h=>by simp[Fence.wide] at h,callsIn_wide.2 ?_⟩
 ·rw[← hW0,hR];exact run_enterLoop_outer _ _ _ _ _
 ·simp only[resolve,hg]
  simp[go_sem]
 ·simp[invoke,go_sem,eg]
 clear hW0
 refine(hseq (w.heap.size+1)
  (fun pre W=>I pre W∧W.heap[w.heap.size+1]? = some (.loop (R .ready none))∧W.heap[w.heap.size]? = some (.deferred (some [])))
  (fun pre W=>∃c,Ix c pre W∧W.heap[w.heap.size+1]? = some (.loop (R .done (some c)))∧W.heap[w.heap.size]? = some (.deferred (some [])))
  W0 hb (fun b o h=>by rcases h with h|h;(exact Or.inl (by omega));(exact(hZ b o h).imp (fun h=>by omega) id))
  (fun s A B h hc=>⟨hI s A B h.1 (hc.mono (by omega)),hc.block _ _ h.2.1 (Or.inl ⟨by omega,fun hh=>by have:=hH _ hh;omega⟩),hc.block _ _ h.2.2 (Or.inl ⟨by omega,fun hh=>by have:=hH _ hh;omega⟩)⟩)
  (fun s A B h hc=>by
   obtain⟨c,h1,h2,h3⟩:=h
   exact⟨c,hIx c s A B h1 (hc.mono (by omega)),hc.block _ _ h2 (Or.inl ⟨by omega,fun hh=>by have:=hH _ hh;omega⟩),hc.block _ _ h3 (Or.inl ⟨by omega,fun hh=>by have:=hH _ hh;omega⟩)⟩)
  ?_ ⟨hI [] w W0 h0 (CalmH.of_below hb),hL0,hD0⟩).mono ?_
 ·rintro pre x W ⟨hi,hl,hd⟩ hsz hsp
  have hy:=run_yield (P:=P) (args:=encs x) hl (by rw[hR];exact hps x)
  rw[hR] at hy
  refine⟨fn,_,assign,body,hy,roundIn_of_wpIn trivial (wpIn_mono (hassign _ pre x W hi (by omega) hsp) ?_)⟩
  rintro e a1 W1 hp
  cases e with
  | normal =>
   obtain⟨hax,ht1⟩:=hp
   have hno:∀k o,w.heap.size≤k→o.isCells=false→¬m k o:=fun k o hk ho h=>by
    rcases hZ k o h with h|h
    ·omega
    ·rw[hso o h] at ho;cases ho
   have hl1:=ht1.keep _ _ hl (hno _ _ (Nat.le_succ _) rfl)
   have hd1:=ht1.keep _ _ hd (hno _ _ (Nat.le_refl _) rfl)
   have hlt:w.heap.size+1<W1.heap.size:=(Array.getElem?_eq_some_iff.1 hl1).1
   refine⟨_,run_beginRound hl1 (by rw[hR]),?_⟩
   have hl2:(W1.putObj (w.heap.size+1) (.loop { R .ready none with state := .busy })).heap[w.heap.size+1]? = some (.loop { R .ready none with state := .busy }):=World.putObj_heap_same hlt
   have hd2:(W1.putObj (w.heap.size+1) (.loop { R .ready none with state := .busy })).heap[w.heap.size]? = some (.deferred (some [])):=(World.putObj_heap_other (by omega)).trans hd1
   have hax2:=hAx _ _ _ _ _ hax (Calm.putObj (.loop { R .ready none with state := .busy }) (Nat.le_succ _) hl1 rfl)
   have hsz2:(W1.putObj (w.heap.size+1) (.loop { R .ready none with state := .busy })).heap.size=W1.heap.size:=by simp
   have hput:∀(V:World) (o:Obj),Turn (fun b _=>b=w.heap.size+1) V (V.putObj (w.heap.size+1) o):=fun V o=>⟨rfl,rfl,rfl,by simp,fun k _ hk hn=>(World.putObj_heap_other hn).trans hk⟩
   have ht2:Turn (fun b o=>b=w.heap.size+1∨m b o) W (W1.putObj (w.heap.size+1) (.loop { R .ready none with state := .busy })):=(ht1.mono fun i o hi=>Or.inr hi).trans ((hput _ _).mono fun i o hi=>Or.inl hi)
   refine wpIn_mono (hbody _ pre x a1 _ hax2 (by rw[hsz2];omega) hsp) ?_
   generalize W1.putObj (w.heap.size+1) (.loop { R .ready none with state := .busy })=W2 at *
   have fin:∀(jump:Option Code) (W3:World),W3.heap[w.heap.size+1]? = some (.loop { R .ready none with state := .busy }) →
     (Instr.endRound (w.heap.size+1) jump).run P W3 = .ok (.bool jump.isNone) (W3.putObj (w.heap.size+1) (.loop (R (if jump.isNone then .ready else .done) jump))) ∧
     (W3.putObj (w.heap.size+1) (.loop (R (if jump.isNone then .ready else .done) jump))).heap[w.heap.size+1]? = some (.loop (R (if jump.isNone then .ready else .done) jump)):=fun jump W3 hk=>by
    have h:=run_endRound (P:=P) jump hk
    rw[hR] at h hk ⊢
    exact⟨h,World.putObj_heap_same (Array.getElem?_eq_some_iff.1 hk).1⟩
   have go:∀(c:Code) (W3:World),Ix c (pre++[x]) W3→Turn (fun b o=>b<w.heap.size∨soft o) W2 W3→∃v w',(Instr.endRound (w.heap.size+1) (some c)).run P W3 = .ok v w' ∧
     ((Ending.returned v = .returned (.bool true)∧(I (pre++[x]) w'∧w'.heap[w.heap.size+1]? = some (.loop (R .ready none))∧w'.heap[w.heap.size]? = some (.deferred (some [])))∧Turn (fun b o=>b=w.heap.size+1∨m b o) W w') ∨
      (Ending.returned v = .returned (.bool false)∧(∃c,Ix c (pre++[x]) w'∧w'.heap[w.heap.size+1]? = some (.loop (R .done (some c)))∧w'.heap[w.heap.size]? = some (.deferred (some [])))∧Turn (fun b o=>b<W0.heap.size∨soft o) W w')):=fun c W3 hx ht3=>by
    have hq:∀k o,w.heap.size≤k→o.isCells=false→¬(k<w.heap.size∨soft o):=fun k o hk ho h=>by
     rcases h with h|h
     ·omega
     ·rw[hso o h] at ho;cases ho
    have hl3:=ht3.keep _ _ hl2 (hq _ _ (Nat.le_succ _) rfl)
    have hd3:=ht3.keep _ _ hd2 (hq _ _ (Nat.le_refl _) rfl)
    obtain⟨hr,hl4⟩:=fin (some c) W3 hl3
    refine⟨_,_,hr,.inr ⟨rfl,⟨c,hIx c _ _ _ hx (CalmH.of hso (Calm.putObj _ (Nat.le_succ _) hl3 rfl)),hl4,(World.putObj_heap_other (by omega)).trans hd3⟩,?_⟩⟩
    refine((ht2.mono fun i o hi => ?_).trans (ht3.mono fun i o hi => ?_)).trans ((hput _ _).mono fun i o hi => ?_)
    ·rcases hi with hi|hi
     ·exact Or.inl (by omega)
     ·exact(hZ i o hi).imp (fun h=>by omega) id
    ·exact hi.imp (fun h=>by omega) id
    ·exact Or.inl (by omega)
   rintro e a3 W3 hp
   cases e with
   | normal =>
    obtain⟨hi3,ht3⟩:=hp
    have hl3:=ht3.keep _ _ hl2 (hno _ _ (Nat.le_succ _) rfl)
    have hd3:=ht3.keep _ _ hd2 (hno _ _ (Nat.le_refl _) rfl)
    obtain⟨hr,hl4⟩:=fin none W3 hl3
    exact⟨_,_,hr,.inl ⟨rfl,⟨hI _ _ _ hi3 (CalmH.of hso (Calm.putObj _ (Nat.le_succ _) hl3 rfl)),hl4,(World.putObj_heap_other (by omega)).trans hd3⟩,(ht2.trans (ht3.mono fun i o hi=>Or.inr hi)).trans ((hput _ _).mono fun i o hi=>Or.inl hi)⟩⟩
   | ret=>exact go _ _ hp.1 hp.2
   | exit id=>exact go _ _ hp.1 hp.2
   | goto t=>exact go _ _ hp.1 hp.2
   | panic ch=>exact hp.elim
   | outgrown=>exact hp.elim
  | ret=>exact hp.elim
  | exit id=>exact hp.elim
  | goto t=>exact hp.elim
  | panic ch=>exact hp.elim
  | outgrown=>exact hp.elim
 ·rintro e W2 ⟨⟨v,rfl⟩,(⟨xs,hS,hi,hl,hd⟩|⟨pre,hSp,c,hi,hl,hd⟩)⟩
  ·have h:=run_endLoop (P:=P) hl (by rw[hR];simp)
   rw[hR] at h
   exact⟨none,_,h,hdone _ xs _ (Nat.le_refl _) hS (hI _ _ _ hi (CalmH.of hso (Calm.putObj _ (Nat.le_succ _) hl rfl))) ((World.putObj_heap_other (by omega)).trans hd)⟩
  ·have h:=run_endLoop (P:=P) hl (by rw[hR];simp)
   rw[hR] at h
   exact⟨some c,_,h,hstop _ c pre _ (Nat.le_refl _) hSp (hIx _ _ _ _ hi (CalmH.of hso (Calm.putObj _ (Nat.le_succ _) hl rfl))) ((World.putObj_heap_other (by omega)).trans hd)⟩
end rng
namespace rng
set_option maxRecDepth 100000
open Go
open Go.RowKit
structure CalmS (soft:Obj→Prop) (B:Nat) (a b:World):Prop where
 os:b.os=a.os
 tape:b.tape=a.tape
 output:b.output=a.output
 size:a.heap.size≤b.heap.size
 block:∀(k:Nat) (o:Obj),a.heap[k]? = some o→(k<B∨soft o)→b.heap[k]? = some o
theorem CalmS.of{soft:Obj→Prop}{B:Nat}{a b:World}(hso:∀o,soft o→o.isCells=true)(h:Calm B a b):CalmS soft B a b :=
 ⟨h.os,h.tape,h.output,h.size,fun k o hi ho=>h.block k o hi (ho.imp id (hso o))⟩
theorem CalmS.of_below{soft:Obj→Prop}{B:Nat}{a b:World}(h:Below a.heap.size a b):CalmS soft B a b :=
 ⟨h.os,h.tape,h.output,h.size,fun i o hi _=>(h.block i (Array.getElem?_eq_some_iff.1 hi).1).trans hi⟩
theorem CalmS.mono{soft:Obj→Prop}{B B':Nat}{a b:World}(h:CalmS soft B a b)(hB:B'≤B):CalmS soft B' a b :=
 ⟨h.os,h.tape,h.output,h.size,fun i o hi ho=>h.block i o hi (ho.imp (fun h=>Nat.lt_of_lt_of_le h hB) id)⟩
theorem CalmS.below{soft:Obj→Prop}{B B0:Nat}{a b:World}(h:CalmS soft B a b)(hB:B0≤B)(hs:B0≤a.heap.size):Below B0 a b :=
 ⟨h.os,h.tape,h.output,h.size,fun i hi=>by
  have hl:i<a.heap.size:=by omega
  have e:a.heap[i]? = some a.heap[i]:=Array.getElem?_eq_getElem hl
  exact(h.block i _ e (Or.inl (by omega))).trans e.symm⟩
theorem CalmS.boxed{soft:Obj→Prop}{B k:Nat}{t:TypeId}{v:Value}{a b:World}(h:CalmS soft B a b)(hk:k<B)(hb:Go.Boxed a k t v):Go.Boxed b k t v:=h.block k _ hb (Or.inl hk)
def SeqS{α:Type}(P:Program)(g:Nat)(lb:Array Value)(encs:α→Array Value)(soft:Obj→Prop)(m:Nat→Obj→Prop)(S Sp:List α→Prop)(w:World):Prop :=
 ∀(l:Nat) (J Jx:List α→World→Prop) (W:World),Below w.heap.size w W→(∀b o,m b o→b<W.heap.size∨soft o) →
  (∀s A B,J s A→CalmS soft W.heap.size A B→J s B)→(∀s A B,Jx s A→CalmS soft W.heap.size A B→Jx s B) →
  (∀pre x W1,J pre W1→W.heap.size≤W1.heap.size→Sp (pre++[x])→YieldAt Fence.wide 9 P l (encs x) W1 fun e W' =>
   (e = .returned (.bool true)∧J (pre++[x]) W'∧Turn m W1 W')∨(e = .returned (.bool false)∧Jx (pre++[x]) W'∧Turn (fun b o=>b<W.heap.size∨soft o) W1 W')) →
  J [] W →
  Calls P g (#[.func (.yield l) #[] #[]]++lb) W fun e W'=>(∃v,e = .returned v)∧((∃xs,S xs∧J xs W')∨(∃pre,Sp pre∧Jx pre W'))
theorem a6m{α:Type}{P:Program}{n:Nat}{g:Operand}{ps:Array Tmp}{assign body:Code}{Q:Exit→Act→World→Prop}{a:Act}{w:World}
  {gf:Nat} {lb:Array Value} (hg:a.eval g = .func (.func gf) #[] lb) (eg:∀args w,(callFunc gf args).run P w = .ok (.enter gf args) w)
  {encs:α→Array Value} {soft:Obj→Prop} {m:Nat→Obj→Prop} {S Sp:List α→Prop} (hseq:SeqS P gf lb encs soft (fun b o=>b=w.heap.size+1∨m b o) S Sp w) (hZ:∀b o,m b o→b<w.heap.size∨soft o) (hso:∀o,soft o→o.isCells=true) (hps:∀x,(encs x).size=ps.size)
  (I:List α→World→Prop) (Ix:Code→List α→World→Prop) (hI:∀s A B,I s A→CalmS soft w.heap.size A B→I s B) (hIx:∀c s A B,Ix c s A→CalmS soft w.heap.size A B→Ix c s B) (h0:I [] w)
  (Ax:List α→α→Act→World→Prop) (hAx:∀s x a' A B,Ax s x a' A→Calm w.heap.size A B→Ax s x a' B)
  (hassign:∀(l:Nat) (pre:List α) (x:α) (W:World),I pre W→w.heap.size≤W.heap.size→Sp (pre++[x]) →
   assign.wpIn (Fence.wide.inRound l) 9 P (Exit.then (fun a' W'=>Ax pre x a' W'∧Turn m W W') (fun _ _ _=>False)) { tmps:=(ps.zip (encs x)).foldl (fun t (p,v)=>t.setIfInBounds p v) a.tmps,defers:=[] } W)
  (hbody:∀(l:Nat) (pre:List α) (x:α) (a':Act) (W:World),Ax pre x a' W→w.heap.size+2≤W.heap.size→Sp (pre++[x])→body.wpIn (Fence.wide.inRound l) 9 P (roundEnd w.heap.size soft m I Ix (pre++[x]) W) a' W)
  (hdone:∀(D:Nat) (xs:List α) (W:World),w.heap.size≤D→S xs→I xs W→W.heap[D]? = some (.deferred (some []))→Q .normal { a with defers:={ target := .collected D,args := #[] }::a.defers } W)
  (hstop:∀(D:Nat) (c:Code) (pre:List α) (W:World),w.heap.size≤D→Sp pre→Ix c pre W→W.heap[D]? = some (.deferred (some []))→c.wpIn Fence.wide n P Q { a with defers:={ target := .collected D,args := #[] }::a.defers } W) :
  (Code.rangeFunc g ps assign body).wpIn Fence.wide n P Q a w:=by
 refine wpIn_rangeFunc ?_
 intro fn _
 obtain⟨R,hR⟩:∃R:LoopState→Option Code→Loop,R=fun s p=>{ state:=s,pending:=p,fn,tmps:=a.tmps,params:=ps,assign,body,defers:=w.heap.size }:=⟨_,rfl⟩
 obtain⟨W0,hW0⟩:∃W0,(w.alloc (.deferred (some []))).alloc (.loop (R .ready none))=W0:=⟨_,rfl⟩
 have hL0:W0.heap[w.heap.size+1]? = some (.loop (R .ready none)):=by
  have h:=World.alloc_heap_new (w.alloc (.deferred (some []))) (.loop (R .ready none))
  rw[World.size_alloc] at h
  rw[← hW0];exact h
 have hD0:W0.heap[w.heap.size]? = some (.deferred (some [])):=by
  rw[← hW0];exact(Below.heap_alloc _ _ _ (by simp)).trans (World.alloc_heap_new w _)
 have hb:Below w.heap.size w W0:=by
  rw[← hW0];exact((Below.refl _ w).alloc (Nat.le_refl _) _).alloc (by simp) _
 have hz0:W0.heap.size=w.heap.size+2:=by rw[← hW0];simp
 refine⟨w.heap.size+1,[{ target := .collected w.heap.size,args := #[] }],W0,{ target := .fn (.func gf) lb,args := #[.func (.yield (w.heap.size+1)) #[] #[]] },W0,gf,
  #[.func (.yield (w.heap.size+1)) #[] #[]]++lb,W0,?_,?_,fun _ _=>trivial,?_,fun h=>by simp[Fence.wide] at h,callsIn_wide.2 ?_⟩
 ·rw[← hW0,hR];exact run_enterLoop_outer _ _ _ _ _
 ·simp only[resolve,hg]
  simp[go_sem]
 ·simp[invoke,go_sem,eg]
 clear hW0
 refine(hseq (w.heap.size+1)
  (fun pre W=>I pre W∧W.heap[w.heap.size+1]? = some (.loop (R .ready none))∧W.heap[w.heap.size]? = some (.deferred (some [])))
  (fun pre W=>∃c,Ix c pre W∧W.heap[w.heap.size+1]? = some (.loop (R .done (some c)))∧W.heap[w.heap.size]? = some (.deferred (some [])))
  W0 hb (fun b o h=>by rcases h with h|h;(exact Or.inl (by omega));(exact(hZ b o h).imp (fun h=>by omega) id))
  (fun s A B h hc=>⟨hI s A B h.1 (hc.mono (by omega)),hc.block _ _ h.2.1 (Or.inl (by omega)),hc.block _ _ h.2.2 (Or.inl (by omega))⟩)
  (fun s A B h hc=>by
   obtain⟨c,h1,h2,h3⟩:=h
   exact⟨c,hIx c s A B h1 (hc.mono (by omega)),hc.block _ _ h2 (Or.inl (by omega)),hc.block _ _ h3 (Or.inl (by omega))⟩)
  ?_ ⟨hI [] w W0 h0 (CalmS.of_below hb),hL0,hD0⟩).mono ?_
 ·rintro pre x W ⟨hi,hl,hd⟩ hsz hsp
  have hy:=run_yield (P:=P) (args:=encs x) hl (by rw[hR];exact hps x)
  rw[hR] at hy
  refine⟨fn,_,assign,body,hy,roundIn_of_wpIn trivial (wpIn_mono (hassign _ pre x W hi (by omega) hsp) ?_)⟩
  rintro e a1 W1 hp
  cases e with
  | normal =>
   obtain⟨hax,ht1⟩:=hp
   have hno:∀k o,w.heap.size≤k→o.isCells=false→¬m k o:=fun k o hk ho h=>by
    rcases hZ k o h with h|h
    ·omega
    ·rw[hso o h] at ho;cases ho
   have hl1:=ht1.keep _ _ hl (hno _ _ (Nat.le_succ _) rfl)
   have hd1:=ht1.keep _ _ hd (hno _ _ (Nat.le_refl _) rfl)
   have hlt:w.heap.size+1<W1.heap.size:=(Array.getElem?_eq_some_iff.1 hl1).1
   refine⟨_,run_beginRound hl1 (by rw[hR]),?_⟩
   have hl2:(W1.putObj (w.heap.size+1) (.loop { R .ready none with state := .busy })).heap[w.heap.size+1]? = some (.loop { R .ready none with state := .busy }):=World.putObj_heap_same hlt
   have hd2:(W1.putObj (w.heap.size+1) (.loop { R .ready none with state := .busy })).heap[w.heap.size]? = some (.deferred (some [])):=(World.putObj_heap_other (by omega)).trans hd1
   have hax2:=hAx _ _ _ _ _ hax (Calm.putObj (.loop { R .ready none with state := .busy }) (Nat.le_succ _) hl1 rfl)
   have hsz2:(W1.putObj (w.heap.size+1) (.loop { R .ready none with state := .busy })).heap.size=W1.heap.size:=by simp
   have hput:∀(V:World) (o:Obj),Turn (fun b _=>b=w.heap.size+1) V (V.putObj (w.heap.size+1) o):=fun V o=>⟨rfl,rfl,rfl,by simp,fun k _ hk hn=>(World.putObj_heap_other hn).trans hk⟩
   have ht2:Turn (fun b o=>b=w.heap.size+1∨m b o) W (W1.putObj (w.heap.size+1) (.loop { R .ready none with state := .busy })):=(ht1.mono fun i o hi=>Or.inr hi).trans ((hput _ _).mono fun i o hi=>Or.inl hi)
   refine wpIn_mono (hbody _ pre x a1 _ hax2 (by rw[hsz2];omega) hsp) ?_
   generalize W1.putObj (w.heap.size+1) (.loop { R .ready none with state := .busy })=W2 at *
   have fin:∀(jump:Option Code) (W3:World),W3.heap[w.heap.size+1]? = some (.loop { R .ready none with state := .busy }) →
     (Instr.endRound (w.heap.size+1) jump).run P W3 = .ok (.bool jump.isNone) (W3.putObj (w.heap.size+1) (.loop (R (if jump.isNone then .ready else .done) jump))) ∧
     (W3.putObj (w.heap.size+1) (.loop (R (if jump.isNone then .ready else .done) jump))).heap[w.heap.size+1]? = some (.loop (R (if jump.isNone then .ready else .done) jump)):=fun jump W3 hk=>by
    have h:=run_endRound (P:=P) jump hk
    rw[hR] at h hk ⊢
    exact⟨h,World.putObj_heap_same (Array.getElem?_eq_some_iff.1 hk).1⟩
   have go:∀(c:Code) (W3:World),Ix c (pre++[x]) W3→Turn (fun b o=>b<w.heap.size∨soft o) W2 W3→∃v w',(Instr.endRound (w.heap.size+1) (some c)).run P W3 = .ok v w' ∧
     ((Ending.returned v = .returned (.bool true)∧(I (pre++[x]) w'∧w'.heap[w.heap.size+1]? = some (.loop (R .ready none))∧w'.heap[w.heap.size]? = some (.deferred (some [])))∧Turn (fun b o=>b=w.heap.size+1∨m b o) W w') ∨
      (Ending.returned v = .returned (.bool false)∧(∃c,Ix c (pre++[x]) w'∧w'.heap[w.heap.size+1]? = some (.loop (R .done (some c)))∧w'.heap[w.heap.size]? = some (.deferred (some [])))∧Turn (fun b o=>b<W0.heap.size∨soft o) W w')):=fun c W3 hx ht3=>by
    have hq:∀k o,w.heap.size≤k→o.isCells=false→¬(k<w.heap.size∨soft o):=fun k o hk ho h=>by
     rcases h with h|h
     ·omega
     ·rw[hso o h] at ho;cases ho
    have hl3:=ht3.keep _ _ hl2 (hq _ _ (Nat.le_succ _) rfl)
    have hd3:=ht3.keep _ _ hd2 (hq _ _ (Nat.le_refl _) rfl)
    obtain⟨hr,hl4⟩:=fin (some c) W3 hl3
    refine⟨_,_,hr,.inr ⟨rfl,⟨c,hIx c _ _ _ hx (CalmS.of hso (Calm.putObj _ (Nat.le_succ _) hl3 rfl)),hl4,(World.putObj_heap_other (by omega)).trans hd3⟩,?_⟩⟩
    refine((ht2.mono fun i o hi => ?_).trans (ht3.mono fun i o hi => ?_)).trans ((hput _ _).mono fun i o hi => ?_)
    ·rcases hi with hi|hi
     ·exact Or.inl (by omega)
     ·exact(hZ i o hi).imp (fun h=>by omega) id
    ·exact hi.imp (fun h=>by omega) id
    ·exact Or.inl (by omega)
   rintro e a3 W3 hp
   cases e with
   | normal =>
    obtain⟨hi3,ht3⟩:=hp
    have hl3:=ht3.keep _ _ hl2 (hno _ _ (Nat.le_succ _) rfl)
    have hd3:=ht3.keep _ _ hd2 (hno _ _ (Nat.le_refl _) rfl)
    obtain⟨hr,hl4⟩:=fin none W3 hl3
    exact⟨_,_,hr,.inl ⟨rfl,⟨hI _ _ _ hi3 (CalmS.of hso (Calm.putObj _ (Nat.le_succ _) hl3 rfl)),hl4,(World.putObj_heap_other (by omega)).trans hd3⟩,(ht2.trans (ht3.mono fun i o hi=>Or.inr hi)).trans ((hput _ _).mono fun i o hi=>Or.inl hi)⟩⟩
   | ret=>exact go _ _ hp.1 hp.2
   | exit id=>exact go _ _ hp.1 hp.2
   | goto t=>exact go _ _ hp.1 hp.2
   | panic ch=>exact hp.elim
   | outgrown=>exact hp.elim
  | ret=>exact hp.elim
  | exit id=>exact hp.elim
  | goto t=>exact hp.elim
  | panic ch=>exact hp.elim
  | outgrown=>exact hp.elim
 ·rintro e W2 ⟨⟨v,rfl⟩,(⟨xs,hS,hi,hl,hd⟩|⟨pre,hSp,c,hi,hl,hd⟩)⟩
  ·have h:=run_endLoop (P:=P) hl (by rw[hR];simp)
   rw[hR] at h
   exact⟨none,_,h,hdone _ xs _ (Nat.le_refl _) hS (hI _ _ _ hi (CalmS.of hso (Calm.putObj _ (Nat.le_succ _) hl rfl))) ((World.putObj_heap_other (by omega)).trans hd)⟩
  ·have h:=run_endLoop (P:=P) hl (by rw[hR];simp)
   rw[hR] at h
   exact⟨some c,_,h,hstop _ c pre _ (Nat.le_refl _) hSp (hIx _ _ _ _ hi (CalmS.of hso (Calm.putObj _ (Nat.le_succ _) hl rfl))) ((World.putObj_heap_other (by omega)).trans hd)⟩
end rng
end Go.Proofs.YtjedjkjhodgidaaGreatDoor
