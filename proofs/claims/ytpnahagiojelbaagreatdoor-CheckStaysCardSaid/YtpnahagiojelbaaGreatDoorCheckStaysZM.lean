/- What CheckStays wants, part 39. -/
import Derived.Test.YtpnahagiojelbaaGreatDoorCheckStaysB
import Derived.Test.YtpnahagiojelbaaGreatDoorCheckStaysX
set_option linter.unusedVariables false
set_option linter.unusedSimpArgs false
namespace Go.Proofs.YtpnahagiojelbaaGreatDoor
namespace lk
set_option maxRecDepth 100000
open Go.ChangeShapes Go.WideShapes Go.ChangeAt Go.RowKit
open rows
open sec
open ly
open rng
theorem b3z(a b:Int)(fk:Nat)(fc:Array Value)(w:World):Calls Tryz.prog 154 #[.int .i64 a,.int .i64 b,.func (.func fk) #[] fc] w fun e w'=>e = .returned (.func (.func 195) #[] #[.pointer (some ⟨w.heap.size,0,none⟩),.pointer (some ⟨w.heap.size+1,0,none⟩),.pointer (some ⟨w.heap.size+1+1,0,none⟩)])∧w'=((w.alloc (.cells #[.int .i64 a] 3)).alloc (.cells #[.int .i64 b] 3)).alloc (.cells #[.func (.func fk) #[] fc] 131):=by
 go_enter Tryz.func154,Tryz.ntmps154
 go_wp2
 go_ret
 exact⟨rfl,rfl⟩
theorem a7q(p:Option Addr)(fk:Nat)(fc:Array Value)(w:World):Calls Tryz.prog 157 #[.pointer p,.func (.func fk) #[] fc] w fun e w'=>e = .returned (.func (.func 197) #[] #[.pointer (some ⟨w.heap.size,0,none⟩),.pointer (some ⟨w.heap.size+1,0,none⟩)])∧w'=(w.alloc (.cells #[.pointer p] 45)).alloc (.cells #[.func (.func fk) #[] fc] 225):=by
 go_enter Tryz.func157,Tryz.ntmps157
 go_wp2
 go_ret
 exact⟨rfl,rfl⟩
theorem a7p(p:Option Addr)(fk:Nat)(fc:Array Value)(w:World):Calls Tryz.prog 160 #[.pointer p,.func (.func fk) #[] fc] w fun e w'=>e = .returned (.func (.func 198) #[] #[.pointer (some ⟨w.heap.size,0,none⟩),.pointer (some ⟨w.heap.size+1,0,none⟩)])∧w'=(w.alloc (.cells #[.pointer p] 45)).alloc (.cells #[.func (.func fk) #[] fc] 227):=by
 go_enter Tryz.func160,Tryz.ntmps160
 go_wp2
 go_ret
 exact⟨rfl,rfl⟩
def NumsAt(w0:World)(ss:List (List Int))(lo i:Nat)(w':World)(gf:Nat)(lb:Array Value):Prop :=
 (∀args w,(callFunc gf args).run Tryz.prog w = .ok (.enter gf args) w) ∧
 ∀(m:Nat→Obj→Prop) (V:World),Keep w0 lo w' V→(∀b o,m b o→w0.heap.size≤b)→(∀b o,m b o→b<lo∨softP o∨w'.heap.size≤b) →
  SeqS Tryz.prog gf lb (fun k:Nat => #[.int .i64 (k:Int)]) softP m (fun ys=>ys=those (pB ss i) (pLim i)) (fun pre=>pre <+: those (pB ss i) (pLim i)) V
def NumF(i gi:Nat):Prop:=∀(w0:World) (p:Option Addr) (ss:List (List Int)) (w:World),Dk w0 (.pointer p) ss→Below w0.heap.size w0 w→w0.heap.size≤w.heap.size →
 Calls Tryz.prog gi #[.pointer p] w fun e w'=>∃gf lb,e = .returned (.func (.func gf) #[] lb)∧Below w.heap.size w w'∧NumsAt w0 ss w.heap.size i w' gf lb
set_option maxRecDepth 100000 in
set_option maxHeartbeats 1600000 in
theorem odd_num:NumF 0 108:=by
 intro w0 p ss w hd hb hl
 have HD:=ι hd
 have HL:=ι hl
 clear hd hb hl
 go_enter Tryz.func108,Tryz.ntmps108
 go_wp2_with (go_at_call 154;refine(b3z _ _ _ _ _).mono ?_;rintro e w2 ⟨rfl,rfl⟩)
 go_ret
 obtain⟨W1,hW1⟩:∃W1,w.alloc (.cells #[.pointer p] 45)=W1:=⟨_,rfl⟩
 have b1:Below w.heap.size w W1:=by rw[← hW1];exact a0a (Below.refl _ _) _
 have hz1:W1.heap.size=w.heap.size+1:=by rw[← hW1];simp
 have hbd:=Go.Boxed.new w 45 (.pointer p)
 rw[hW1] at hbd ⊢
 refine⟨_,_,rfl,a0b b1 (a0a (a0a (a0a (Below.refl _ _) _) _) _),enters_of Tryz.func195 (by kernel_rfl) rfl,fun m V hK h1 h2 => ?_⟩
 refine Seq.toS a0j (odd_seq w0 w.heap.size _ p ss HD.out w.heap.size ?_ (w.heap.size+1) (w.heap.size+1+1) (w.heap.size+1+1+1) ?_ ?_ ?_ (by omega) m V hK h1 h2)
 ·exact((hbd.alloc _).alloc _).alloc _
 ·have h:=((Go.Boxed.new W1 3 (.int .i64 0)).alloc (.cells #[.int .i64 23] 3)).alloc (.cells #[.func (.func 155) #[] #[.pointer (some ⟨w.heap.size,0,none⟩)]] 131)
  rw[hz1] at h
  exact h
 ·have h:=(Go.Boxed.new (W1.alloc (.cells #[.int .i64 0] 3)) 3 (.int .i64 23)).alloc (.cells #[.func (.func 155) #[] #[.pointer (some ⟨w.heap.size,0,none⟩)]] 131)
  rw[World.size_alloc,hz1] at h
  exact h
 ·have h:=Go.Boxed.new ((W1.alloc (.cells #[.int .i64 0] 3)).alloc (.cells #[.int .i64 23] 3)) 131 (.func (.func 155) #[] #[.pointer (some ⟨w.heap.size,0,none⟩)])
  rw[World.size_alloc,World.size_alloc,hz1] at h
  exact h
set_option maxRecDepth 100000 in
set_option maxHeartbeats 1600000 in
theorem d1x:NumF 1 109:=by
 intro w0 p ss w hd hb hl
 have HD:=ι hd
 have HL:=ι hl
 clear hd hb hl
 go_enter Tryz.func109,Tryz.ntmps109
 go_wp2_with (go_at_call 157;refine(a7q _ _ _ _).mono ?_;rintro e w2 ⟨rfl,rfl⟩)
 go_ret
 obtain⟨W1,hW1⟩:∃W1,w.alloc (.cells #[.pointer p] 45)=W1:=⟨_,rfl⟩
 have b1:Below w.heap.size w W1:=by rw[← hW1];exact a0a (Below.refl _ _) _
 have hz1:W1.heap.size=w.heap.size+1:=by rw[← hW1];simp
 have hbd:=Go.Boxed.new w 45 (.pointer p)
 rw[hW1] at hbd ⊢
 refine⟨_,_,rfl,a0b b1 (a0a (a0a (Below.refl _ _) _) _),enters_of Tryz.func197 (by kernel_rfl) rfl,fun m V hK h1 h2 => ?_⟩
 refine Seq.toS a0j (d4t w0 p ss HD.out w.heap.size _ w.heap.size ((hbd.alloc _).alloc _) (w.heap.size+1) (w.heap.size+1+1) ?_ ?_ (by omega) HL.out m V hK h1 h2)
 ·have h:=(Go.Boxed.new W1 45 (.pointer p)).alloc (.cells #[.func (.func 158) #[] #[.pointer (some ⟨w.heap.size,0,none⟩)]] 225)
  rw[hz1] at h
  exact h
 ·have h:=Go.Boxed.new (W1.alloc (.cells #[.pointer p] 45)) 225 (.func (.func 158) #[] #[.pointer (some ⟨w.heap.size,0,none⟩)])
  rw[World.size_alloc,hz1] at h
  exact h
set_option maxRecDepth 100000 in
set_option maxHeartbeats 1600000 in
theorem dbl_num:NumF 3 111:=by
 intro w0 p ss w hd hb hl
 have HD:=ι hd
 have HL:=ι hl
 clear hd hb hl
 go_enter Tryz.func111,Tryz.ntmps111
 go_wp2_with (go_at_call 160;refine(a7p _ _ _ _).mono ?_;rintro e w2 ⟨rfl,rfl⟩)
 go_ret
 refine⟨_,_,rfl,a0a (a0a (Below.refl _ _) _) _,enters_of Tryz.func198 (by kernel_rfl) rfl,fun m V hK h1 h2 => ?_⟩
 refine dbl_seq w0 p ss HD.out w.heap.size _ w.heap.size (w.heap.size+1) ((Go.Boxed.new w 45 (.pointer p)).alloc _) ?_ (by omega) HL.out m V hK h1 h2
 have h:=Go.Boxed.new (w.alloc (.cells #[.pointer p] 45)) 227 (.func (.func 161) #[] #[])
 rw[World.size_alloc] at h
 exact h
set_option maxRecDepth 100000 in
set_option maxHeartbeats 1600000 in
theorem lnk_num:NumF 4 112:=by
 intro w0 p ss w hd hb hl
 have HD:=ι hd
 have HL:=ι hl
 clear hd hb hl
 go_enter Tryz.func112,Tryz.ntmps112
 go_wp2_with (go_at_call 160;refine(a7p _ _ _ _).mono ?_;rintro e w2 ⟨rfl,rfl⟩)
 go_ret
 refine⟨_,_,rfl,a0a (a0a (Below.refl _ _) _) _,enters_of Tryz.func198 (by kernel_rfl) rfl,fun m V hK h1 h2 => ?_⟩
 refine lnk_seq w0 p ss HD.out w.heap.size _ w.heap.size (w.heap.size+1) ((Go.Boxed.new w 45 (.pointer p)).alloc _) ?_ (by omega) HL.out m V hK h1 h2
 have h:=Go.Boxed.new (w.alloc (.cells #[.pointer p] 45)) 227 (.func (.func 162) #[] #[])
 rw[World.size_alloc] at h
 exact h
set_option maxRecDepth 100000 in
set_option maxHeartbeats 1600000 in
theorem shr_num:NumF 5 113:=by
 intro w0 p ss w hd hb hl
 have HO:=ι (c5d w (.pointer p) ss (hd.later hb))
 have HL:=ι hl
 have HLN:=ι (c3b ss 16)
 have HE:=ι (d2i ss)
 clear hd hb hl
 go_enter Tryz.func113,Tryz.ntmps113
 go_wp2_with (first
  | (go_at_call 163;refine HO.out.mono ?_;rintro e w2 ⟨rfl,hb⟩;have B2:=ι hb;clear hb)
  | (refine c7x rfl (.tmp 3) (.tmp 5) rfl rfl w2.heap.size (ownL ss 16) zero25 rfl rfl HLN.out (by decide) (b4m w2) ?_;intro w3 hA hB;have A3:=ι hA;have hs3:=hB.size;have B3:=ι (a0b B2.out ((a0a (Below.refl _ w2) _).trans hB));clear hA hB)
  | (go_at_call 154;refine(b3z _ _ _ _ _).mono ?_;rintro e w4 ⟨rfl,rfl⟩))
 go_ret
 have hs2:=B2.out.size
 refine⟨_,_,rfl,a0b B3.out (a0a (a0a (a0a (Below.refl _ _) _) _) _),enters_of Tryz.func195 (by kernel_rfl) rfl,fun m V hK h1 h2 => ?_⟩
 rw[show (those (pB ss 5) (pLim 5))=those (shrL (ownL ss 16)) 25 from HE.out.symm]
 refine Seq.toS a0j (c3w w0 w.heap.size _ (ownL ss 16) HLN.out w2.heap.size ?_ w3.heap.size (w3.heap.size+1) (w3.heap.size+1+1) ?_ ?_ ?_ (by have:=B3.out.size;omega) m V hK h1 h2)
 ·exact((A3.out.later (a0a (Below.refl _ _) _)).later (a0a (Below.refl _ _) _)).later (a0a (Below.refl _ _) _)
 ·exact((Go.Boxed.new w3 3 (.int .i64 1)).alloc _).alloc _
 ·have h:=(Go.Boxed.new (w3.alloc (.cells #[.int .i64 1] 3)) 3 (.int .i64 24)).alloc (.cells #[.func (.func 164) #[] #[.pointer (some ⟨w2.heap.size,0,none⟩)]] 131)
  rw[World.size_alloc] at h
  exact h
 ·have h:=Go.Boxed.new ((w3.alloc (.cells #[.int .i64 1] 3)).alloc (.cells #[.int .i64 24] 3)) 131 (.func (.func 164) #[] #[.pointer (some ⟨w2.heap.size,0,none⟩)])
  rw[World.size_alloc,World.size_alloc] at h
  exact h
end lk
namespace lk
set_option maxRecDepth 100000
open Go.ChangeShapes Go.WideShapes Go.ChangeAt Go.RowKit
open rows
open sec
open dsk (a0c)
open ly
open rng
attribute [local go_sem] Oper.semAt_some
def gsN:Nat→Nat
 | 0=>108
 | 1=>109
 | 2=>110
 | 3=>111
 | 4=>112
 | _=>113
def rowP:Array Value := #[.int .i64 1,.func (.func 108) #[] #[],.int .i64 2,.func (.func 109) #[] #[],.int .i64 3,.func (.func 110) #[] #[],.int .i64 4,.func (.func 111) #[] #[],.int .i64 5,.func (.func 112) #[] #[],.int .i64 6,.func (.func 113) #[] #[]]
theorem index6(i:Nat)(hi:i<6)(w:World):(Instr.index 175 (.agg rowP) (.int .i64 (i:Int))).run Tryz.prog w = .ok (.agg #[.int .i64 ((i+1:Nat):Int),.func (.func (gsN i)) #[] #[]]) w:=by
 rcases i with _|_|_|_|_|_|i
 ·kernel_rfl
 ·kernel_rfl
 ·kernel_rfl
 ·kernel_rfl
 ·kernel_rfl
 ·kernel_rfl
 ·omega
theorem enters6(i:Nat)(args:Array Value)(w:World):(callFunc (gsN i) args).run Tryz.prog w = .ok (.enter (gsN i) args) w:=by
 rcases i with _|_|_|_|_|i
 ·exact enters_of Tryz.func108 (by kernel_rfl) rfl args w
 ·exact enters_of Tryz.func109 (by kernel_rfl) rfl args w
 ·exact enters_of Tryz.func110 (by kernel_rfl) rfl args w
 ·exact enters_of Tryz.func111 (by kernel_rfl) rfl args w
 ·exact enters_of Tryz.func112 (by kernel_rfl) rfl args w
 ·exact enters_of Tryz.func113 (by kernel_rfl) rfl args w
def AtK(w:World)(b:Nat)(k:Int)(f:Value):Prop:=w.heap[b]? = some (.cells #[.int .i64 k,f] 174 (0,0))
theorem AtK.cell0{w:World}{b:Nat}{k:Int}{f:Value}(h:AtK w b k f):w.cell? ⟨b,0,none⟩=some (.int .i64 k):=a0c h 0 _ rfl
theorem AtK.cell1{w:World}{b:Nat}{k:Int}{f:Value}(h:AtK w b k f):w.cell? ⟨b,1,none⟩=some f:=a0c h 1 _ rfl
theorem info_k:(Tryz.prog.info? 174).map (·.size)=some 2:=by kernel_rfl
theorem info_6:(Tryz.prog.info? 175).map (·.size)=some 12:=by kernel_rfl
theorem store_k{ops:Array Oper}{rest:List Oper}{o:Oper}{a:Act}{w:World}{Q:Exit→Act→World→Prop}(hgd:o.guard=none)(x y:Operand)(ho:o.op = .store 174 x y)(hd:o.dst=none)
  (g:Nat) (k k0:Int) (f f0:Nat) (hx:a.eval x = .pointer (some ⟨g,0,none⟩)) (hy:a.eval y = .agg #[.int .i64 k,.func (.func f) #[] #[]]) (hg:AtK w g k0 .nilFunc)
  (h:∀w',AtK w' g k (.func (.func f) #[] #[])→Below g w w'→wpList Tryz.prog ops Q rest a w'):wpList Tryz.prog ops Q (o::rest) a w:=by
 refine wpList_store_row hgd 174 x y ho g #[.int .i64 k,.func (.func f) #[] #[]] hx hy 174 _ hg (by rw[info_k];rfl) rfl (by simp[Value.oneCell']) ?_
 rw[hd]
 exact h _ (setRow_heap w g _ _ _ _ hg) ((Below.refl g w).trans ⟨rfl,rfl,rfl,by simp[World.setRow],fun k hk=>setRow_other w g k _ (by omega)⟩)
structure Marks (B C:Nat) (Ds:List Nat) (w:World):Prop where
 nd:Ds.Nodup
 at_:∀D∈Ds,B≤D∧D<C∧w.heap[D]? = some (.deferred (some []))
def marksD(Ds:List Nat):List Deferred:=Ds.map fun D=>{ target := .collected D,args := #[] }
theorem Marks.calmS{soft:Obj→Prop}{B C C':Nat}{Ds:List Nat}{a b:World}(h:Marks B C Ds a)(hc:CalmS soft C' a b)(hC:C≤C'):Marks B C Ds b :=
 ⟨h.nd,fun D hD=>⟨(h.at_ D hD).1,(h.at_ D hD).2.1,hc.block D _ (h.at_ D hD).2.2 (Or.inl (Nat.lt_of_lt_of_le (h.at_ D hD).2.1 hC))⟩⟩
theorem Marks.later{B C:Nat}{Ds:List Nat}{a b:World}(h:Marks B C Ds a)(hb:Below a.heap.size a b):Marks B C Ds b :=
 ⟨h.nd,fun D hD=>⟨(h.at_ D hD).1,(h.at_ D hD).2.1,(hb.block D (Array.getElem?_eq_some_iff.1 (h.at_ D hD).2.2).1).trans (h.at_ D hD).2.2⟩⟩
theorem Marks.turn{B C:Nat}{Ds:List Nat}{a b:World}{m:Nat→Obj→Prop}(h:Marks B C Ds a)(hT:Turn m a b)(hm:∀k,B≤k→¬m k (.deferred (some []))):Marks B C Ds b :=
 ⟨h.nd,fun D hD=>⟨(h.at_ D hD).1,(h.at_ D hD).2.1,hT.keep D _ (h.at_ D hD).2.2 (hm D (h.at_ D hD).1)⟩⟩
theorem Marks.more{B C C':Nat}{Ds:List Nat}{a:World}(h:Marks B C Ds a){D:Nat}(h1:B≤D)(h2:C≤D)(h3:D<C')(h4:a.heap[D]? = some (.deferred (some []))):Marks B C' (D::Ds) a :=
 ⟨List.nodup_cons.2 ⟨fun hD=>by have:=(h.at_ D hD).2.1;omega,h.nd⟩,fun E hE=>by
  rcases List.mem_cons.1 hE with rfl|hE
  ·exact⟨h1,h3,h4⟩
  ·exact⟨(h.at_ E hE).1,by have:=(h.at_ E hE).2.1;omega,(h.at_ E hE).2.2⟩⟩
theorem a3e{F:Fence}{n:Nat}{P:Program}{fn:Func}{tmps:Array Value}{R:Ending→World→Prop}{B C:Nat}:∀(Ds:List Nat) (w:World),Marks B C Ds w →
  (∀w',rng.Calm B w w'→LeavesInM F n P fn tmps R [] .returning w')→LeavesInM F n P fn tmps R (marksD Ds) .returning w
 | [],w,_,h=>h w (rng.Calm.refl B w)
 | D::Ds,w,hM,h=>by
  have hD:=hM.at_ D List.mem_cons_self
  have hput:rng.Calm B w (w.putObj D (.deferred none)):=rng.Calm.putObj _ hD.1 hD.2.2 rfl
  refine⟨by simp,.inl ⟨_,_,rfl,run_takeDeferred hD.2.2,a3e (C:=C) Ds _ ⟨(List.nodup_cons.1 hM.nd).2,fun E hE => ?_⟩ fun w' hc=>h w' (hput.trans hc)⟩⟩
  have hE2:=hM.at_ E (List.mem_cons_of_mem _ hE)
  exact⟨hE2.1,hE2.2.1,(World.putObj_heap_other (by intro e;subst e;exact(List.nodup_cons.1 hM.nd).1 hE)).trans hE2.2.2⟩
theorem Keep.calmS{soft:Obj→Prop}{w0:World}{lo B:Nat}{V1 A C:World}(h:Keep w0 lo V1 A)(hc:CalmS soft B A C)(hB:w0.heap.size≤B)(hV:V1.heap.size≤B):Keep w0 lo V1 C :=
 ⟨h.below.trans (hc.below hB h.below.size),Nat.le_trans h.size hc.size,fun k o hk hi ho hs=>hc.block k o (h.cell k o hk hi ho hs) (Or.inl (by have:=(Array.getElem?_eq_some_iff.1 hi).1;omega))⟩
def kindN(i:Nat)(l:List Nat):List (Nat×Nat):=l.map fun n=>(i+1,n)
theorem b2t(i:Nat)(l:List Nat)(n:Nat):kindN i (l++[n])=kindN i l++[(i+1,n)]:=by simp[kindN]
theorem b9d(ss:List (List Int))(i:Nat):probsU ss i++kindN i (those (pB ss i) (pLim i))=probsU ss (i+1):=rfl
theorem b3n(ss:List (List Int)):∀{i j:Nat},i≤j→probsU ss i <+: probsU ss j
 | i,0,h=>by
  obtain rfl:i=0:=by omega
  exact List.prefix_rfl
 | i,j+1,h=>by
  by_cases e:i=j+1
  ·subst e;exact List.prefix_rfl
  ·exact(b3n ss (show i≤j by omega)).trans (List.prefix_append _ _)
theorem c1q{ss:List (List Int)}{i:Nat}(hi:i<6){pre:List Nat}(h:pre <+: those (pB ss i) (pLim i)):probsU ss i++kindN i pre <+: probs ss:=by
 obtain⟨t,ht⟩:=h
 refine List.IsPrefix.trans ⟨kindN i t,?_⟩ (b3n ss (show i+1≤6 by omega))
 rw[List.append_assoc,← b9d,← ht]
 simp[kindN]
set_option maxRecDepth 100000 in
set_option maxHeartbeats 4000000 in
theorem a9w(hnum:∀i,i<6→NumF i (gsN i))(w0:World)(p:Option Addr)(ss:List (List Int))(hd:Dk w0 (.pointer p) ss)(lo:Nat)(V1:World)(g bd:Nat)(hg:V1.heap[g]? = some (.cells rowP 175 (0,0)))(hbd:Go.Boxed V1 bd 45 (.pointer p))(hlo:lo≤g∧lo≤bd)(hlw:w0.heap.size≤lo)(m:Nat→Obj→Prop)(w:World)(hk:Keep w0 lo V1 w)(h1:∀b o,m b o→w0.heap.size≤b)(h2:∀b o,m b o→b<lo∨softP o∨V1.heap.size≤b) :
  SeqS Tryz.prog 114 #[.pointer (some ⟨g,0,none⟩),.pointer (some ⟨bd,0,none⟩)] (fun x:Nat×Nat => #[.agg #[.int .i64 (x.1:Int),.int .i64 (x.2:Int)]]) softP m (fun ys=>ys=probs ss) (fun pre=>pre <+: probs ss) w:=by
 intro l J Jx W hW hZW hJ hJx hY h0
 have HJ:=ι hJ
 have HJX:=ι hJx
 have HY:=ι hY
 have H1:=ι h1
 have H2:=ι h2
 have HZW:=ι hZW
 have HD:=ι hd
 have HNUM:=ι hnum
 have HBD:=ι fun V (h:Keep w0 lo V1 V)=>h.boxed hbd hlo.2 (by decide)
 have HG:=ι fun V (h:Keep w0 lo V1 V)=>h.cell g _ hlo.1 hg rfl (a0s (by decide))
 have hK0:Keep w0 lo V1 W:=hk.calm (B:=w0.heap.size) ⟨hW.os,hW.tape,hW.output,hW.size,fun k o hi ho=>(hW.block k (Array.getElem?_eq_some_iff.1 hi).1).trans hi⟩ (Nat.le_refl _)
 have hs0:=hK0.below.size
 have HV1:=ι hK0.size
 have HS0:=ι hs0
 have hb1:=a0a (Below.refl W.heap.size W) (.cells #[.func (.yield l) #[] #[]] 176)
 have hy1:=Go.Boxed.new W 176 (.func (.yield l) #[] #[])
 have hsz:(W.alloc (.cells #[.func (.yield l) #[] #[]] 176)).heap.size=W.heap.size+1:=by simp[World.size_alloc]
 obtain⟨W2,hW2⟩:∃W2,W.alloc (.cells #[.func (.yield l) #[] #[]] 176)=W2:=⟨_,rfl⟩
 rw[hW2] at hb1 hy1 hsz
 have HK2:Hid (Keep w0 lo V1 W2):=ι (hK0.later hb1)
 have HY2:=ι hy1
 have HSZ:=ι hsz
 have HJ2:Hid (J (probsU ss 0) W2):=ι (hJ _ _ _ h0 (CalmS.of_below hb1))
 have HG2:=ι (HG.out W2 HK2.out)
 have HM2:Hid (Marks W.heap.size W2.heap.size [] W2):=ι ⟨List.nodup_nil,fun D hD=>by cases hD⟩
 clear hJ hJx hY h1 h2 hbd hg hlo hlw hk hW hZW hK0 hb1 hy1 hsz h0 hd hs0 hnum
 refine(callsIn_wide (n:=10)).1 (callsIn_of_wp_marks Tryz.func114 rfl trivial ?_ rfl)
 simp only[Tryz.ntmps114,List.size_toArray,List.length_cons,List.length_nil,Nat.reduceAdd,Nat.reduceSub,Array.replicate_succ,Array.replicate_zero,List.push_toArray,List.append_toArray,List.nil_append,List.cons_append]
 have cz:True:=trivial
 have c0:=a0c HG2.out 0 _ rfl
 have c1:=a0c HG2.out 1 _ rfl
 have c2:=a0c HG2.out 2 _ rfl
 have c3:=a0c HG2.out 3 _ rfl
 have c4:=a0c HG2.out 4 _ rfl
 have c5:=a0c HG2.out 5 _ rfl
 have c6:=a0c HG2.out 6 _ rfl
 have c7:=a0c HG2.out 7 _ rfl
 have c8:=a0c HG2.out 8 _ rfl
 have c9:=a0c HG2.out 9 _ rfl
 have c10:=a0c HG2.out 10 _ rfl
 have c11:=a0c HG2.out 11 _ rfl
 gi_wp2
 clear c0 c1 c2 c3 c4 c5 c6 c7 c8 c9 c10 c11 hW2 cz
 refine wpIn_loop (fun a' V=>∃(i:Nat) (Ds:List Nat) (u5 u6 u9 u10 u11 u12 u13 u14 u15 u16 u17 u18 u19 u20 u21 u22 u23:Value),i≤6∧(J (probsU ss i) V∧Go.Boxed V W.heap.size 176 (.func (.yield l) #[] #[])∧Keep w0 lo V1 V∧W.heap.size≤V.heap.size∧Marks W.heap.size V.heap.size Ds V)∧a'={ tmps := #[.func (.yield l) #[] #[],.pointer (some ⟨g,0,none⟩),.pointer (some ⟨bd,0,none⟩),.pointer (some ⟨W.heap.size,0,none⟩),undef,u5,u6,.agg #[.int .i64 1,.func (.func 108) #[] #[],.int .i64 2,.func (.func 109) #[] #[],.int .i64 3,.func (.func 110) #[] #[],.int .i64 4,.func (.func 111) #[] #[],.int .i64 5,.func (.func 112) #[] #[],.int .i64 6,.func (.func 113) #[] #[]],.int .i64 (i:Int),u9,u10,u11,u12,u13,u14,u15,u16,u17,u18,u19,u20,u21,u22,u23],defers:=marksD Ds }) (fun a' _=>6-(intOf (a'.tmps.getD 8 undef)).toNat) ?_ ?_
 ·exact⟨0,[],undef,undef,undef,undef,undef,undef,undef,undef,undef,undef,undef,undef,undef,undef,undef,undef,undef,by omega,⟨HJ2.out,HY2.out,HK2.out,by have:=HSZ.out;omega,HM2.out⟩,rfl⟩
 clear HJ2 HY2 HK2 HM2 HG2 HSZ
 rintro _ wr ⟨i,Ds,u5,u6,u9,u10,u11,u12,u13,u14,u15,u16,u17,u18,u19,u20,u21,u22,u23,hi,hR,rfl⟩
 have HR:=ι hR
 clear hR
 by_cases hlt:i<6
 ·have hlti:(i:Int)<6:=by omega
  have HNF:=ι (HNUM.out i hlt)
  have hidx:=fun V=>index6 i hlt V
  have hent:=fun args V=>enters6 i args V
  simp only[rowP] at hidx
  generalize gsN i=gi at *
  have HDk:=ι HD.out
  have cd:=(HBD.out wr HR.out.2.2.1).cell
  gi_wp2_with (first|(refine c2p ?_;refine store_k rfl (.tmp 5) (.tmp 10) rfl rfl wr.heap.size ((i:Int)+1) 0 gi 0 rfl rfl (heap_alloc_new _ _) ?_;intro w2 hA hB;have hB2:=(a0a (Below.refl _ wr) _).trans hB;have A2:=ι hA;have B2:=ι hB2;have ck0:=hA.cell0;have ck1:=hA.cell1;have cd2:w2.cell? ⟨bd,0,none⟩=some (.pointer p):=(hB2.cell (p:=⟨bd,0,none⟩) (HBD.out wr HR.out.2.2.1).lt).trans cd;clear hA hB hB2;refine a1f ?_)|(refine⟨trivial,?_⟩;refine(callsIn_wide.2 (HNF.out w0 p ss w2 HD.out ((HR.out.2.2.1.later B2.out).below) ((HR.out.2.2.1.later B2.out).below.size))).mono ?_;rintro e w3 ⟨gf,lb,rfl,hb3,hN3⟩;have B3:=ι hb3;have N3:=ι hN3;clear hb3 hN3))
  have hWR:=HR.out.2.2.2.1
  have HWR:=ι hWR
  have hlt3:wr.heap.size<w3.heap.size:=Nat.lt_of_lt_of_le (Array.getElem?_eq_some_iff.1 A2.out).1 B3.out.size
  have HLT:=ι hlt3
  have HW3:Hid (W.heap.size≤w3.heap.size):=ι (by omega)
  have HK3:Hid (Keep w0 lo V1 w3):=ι ((HR.out.2.2.1.later B2.out).later B3.out)
  have H23:Hid (wr.heap.size≤w2.heap.size):=ι B2.out.size
  have HI3:Hid (J (probsU ss i++kindN i []) w3∧Go.Boxed w3 W.heap.size 176 (.func (.yield l) #[] #[])∧Keep w0 lo V1 w3∧W.heap.size≤w3.heap.size∧Marks W.heap.size w3.heap.size Ds w3∧AtK w3 wr.heap.size ((i:Int)+1) (.func (.func gi) #[] #[])):=ι ⟨by
    have hj:=HJ.out _ _ _ (HJ.out _ _ _ HR.out.1 (CalmS.of_below B2.out)) (CalmS.of_below B3.out)
    simpa [kindN] using hj,(rng.Calm.of_below (B:=0) B3.out).boxed ((rng.Calm.of_below (B:=0) B2.out).boxed HR.out.2.1),HK3.out,HW3.out,by
    have hm:=(HR.out.2.2.2.2.later B2.out).later B3.out
    exact⟨hm.nd,fun D hD=>⟨(hm.at_ D hD).1,by have:=(hm.at_ D hD).2.1;omega,(hm.at_ D hD).2.2⟩⟩,(B3.out.block _ (Array.getElem?_eq_some_iff.1 A2.out).1).trans A2.out⟩
  refine a7e (gf:=gf) (lb:=lb) rfl N3.out.1 (m:=m)
   (N3.out.2 (fun b o=>b=w3.heap.size+1∨m b o) w3 (Keep.refl HK3.out.below) (fun b o hb=>by
    have h1:=HW3.out
    have h2:=HS0.out
    rcases hb with hb|hb
    ·omega
    ·exact H1.out b o hb) (fun b o hb=>by
    have h1:=HWR.out
    have h2:=H23.out
    rcases hb with hb|hb
    ·exact Or.inr (Or.inr (by omega))
    ·rcases HZW.out b o hb with h|h
     ·exact Or.inl (by omega)
     ·exact Or.inr (Or.inl h)))
   (fun b o h=>(HZW.out b o h).imp (fun h=>by have:=HW3.out;omega) id) a0j (fun _=>rfl)
   (fun pre V=>J (probsU ss i++kindN i pre) V∧Go.Boxed V W.heap.size 176 (.func (.yield l) #[] #[])∧Keep w0 lo V1 V∧W.heap.size≤V.heap.size∧Marks W.heap.size w3.heap.size Ds V∧AtK V wr.heap.size ((i:Int)+1) (.func (.func gi) #[] #[]))
   (fun c pre V=>c = .ret∧Jx (probsU ss i++kindN i pre) V∧Marks W.heap.size w3.heap.size Ds V)
   (fun s A B HH hc=>⟨HJ.out _ _ _ HH.1 (hc.mono HW3.out),hc.boxed (by have:=HWR.out;have:=HLT.out;omega) HH.2.1,HH.2.2.1.calmS hc (by have:=HW3.out;have:=HS0.out;omega) (by have:=HW3.out;have:=HV1.out;omega),Nat.le_trans HH.2.2.2.1 hc.size,HH.2.2.2.2.1.calmS hc (Nat.le_refl _),hc.block _ _ HH.2.2.2.2.2 (Or.inl HLT.out)⟩)
   (fun c s A B h hc=>⟨h.1,HJX.out _ _ _ h.2.1 (hc.mono HW3.out),h.2.2.calmS hc (Nat.le_refl _)⟩)
   HI3.out
   (fun pre k a' V=>(J (probsU ss i++kindN i pre) V∧Go.Boxed V W.heap.size 176 (.func (.yield l) #[] #[])∧Keep w0 lo V1 V∧W.heap.size≤V.heap.size∧Marks W.heap.size w3.heap.size Ds V∧AtK V wr.heap.size ((i:Int)+1) (.func (.func gi) #[] #[]))∧a'={ tmps := #[.func (.yield l) #[] #[],.pointer (some ⟨g,0,none⟩),.pointer (some ⟨bd,0,none⟩),.pointer (some ⟨W.heap.size,0,none⟩),undef,.pointer (some ⟨wr.heap.size,0,none⟩),.int .i64 (k:Int),.agg #[.int .i64 1,.func (.func 108) #[] #[],.int .i64 2,.func (.func 109) #[] #[],.int .i64 3,.func (.func 110) #[] #[],.int .i64 4,.func (.func 111) #[] #[],.int .i64 5,.func (.func 112) #[] #[],.int .i64 6,.func (.func 113) #[] #[]],.int .i64 (i:Int),.bool true,.agg #[.int .i64 ((i:Int)+1),.func (.func gi) #[] #[]],.pointer (some ⟨wr.heap.size,1,none⟩),.func (.func gi) #[] #[],.pointer p,.func (.func gf) #[] lb,.int .i64 (k:Int),u16,u17,u18,u19,u20,u21,u22,u23],defers:=[] })
   (fun s k a' A B h hc2=>by
    obtain⟨HH,h3⟩:=h
    have hc:=CalmS.of a0j hc2
    exact⟨⟨HJ.out _ _ _ HH.1 (hc.mono HW3.out),hc.boxed (by have:=HWR.out;have:=HLT.out;omega) HH.2.1,HH.2.2.1.calmS hc (by have:=HW3.out;have:=HS0.out;omega) (by have:=HW3.out;have:=HV1.out;omega),Nat.le_trans HH.2.2.2.1 hc.size,HH.2.2.2.2.1.calmS hc (Nat.le_refl _),hc.block _ _ HH.2.2.2.2.2 (Or.inl HLT.out)⟩,h3⟩)
   ?assign ?body ?done ?stop
  case assign =>
   rintro l2 pre k V hI hsz _
   have HI2:=ι hI
   clear hI
   gi_wp2
   exact⟨⟨HI2.out,by first|rfl|trivial⟩,Turn.refl _ _⟩
  case body =>
   rintro l2 pre k a' V ⟨hI,rfl⟩ hsz hsp
   have hpk:(probsU ss i++kindN i pre)++[(i+1,k)] <+: probs ss:=by
    have h:=c1q hlt hsp
    rwa [b2t,← List.append_assoc] at h
   have HKS:Hid (probsU ss i++kindN i (pre++[k])=(probsU ss i++kindN i pre)++[(i+1,k)]):=ι (by rw[b2t,← List.append_assoc])
   have HYw:=a2d 8 (HY.out _ (i+1,k) V hI.1 hI.2.2.2.1 hpk)
   obtain⟨fn,tmps,assign,body,hy0,hR⟩:=HYw
   have hy:(Instr.yield l #[.agg #[.int .i64 ((i:Int)+1),.int .i64 (k:Int)]]).run Tryz.prog V = .ok (.round l fn tmps assign body) V:=hy0
   have ey:=hI.2.1.cell
   have ck0:=hI.2.2.2.2.2.cell0
   have ck1:=hI.2.2.2.2.2.cell1
   have HI2:=ι hI
   clear hI hy0 hpk hsp
   gi_wp2
   refine RoundIn.mono (F:=Fence.wide.inRound l2) hR ?_
   rintro e W4 (⟨rfl,hJ4,hT4⟩|⟨rfl,hJx4,hT4⟩)
   ·have HJ4:=ι hJ4
    have HT4:=ι hT4
    clear hy hR hJ4 hT4
    gi_wp2
    have h:=HI2.out
    exact⟨⟨by rw[HKS.out];exact HJ4.out,HT4.out.keep _ _ h.2.1 (fun hz=>by
      have:=HWR.out
      rcases HZW.out _ _ hz with hh|hh
      ·omega
      ·exact a0s (by decide) hh),h.2.2.1.turn HT4.out (fun b o hz=>H1.out b o hz) (fun b o hz=>H2.out b o hz),Nat.le_trans h.2.2.2.1 HT4.out.size,h.2.2.2.2.1.turn HT4.out (fun k hk hz=>by
      rcases HZW.out _ _ hz with hh|⟨_,_,hh⟩
      ·omega
      ·cases hh),HT4.out.keep _ _ h.2.2.2.2.2 (fun hz=>by
      have:=HWR.out
      rcases HZW.out _ _ hz with hh|hh
      ·omega
      ·exact a0s (by decide) hh)⟩,HT4.out⟩
   ·have HJX4:=ι hJx4
    have HT4:=ι hT4
    clear hy hR hJx4 hT4
    gi_wp2
    have h:=HI2.out
    exact⟨⟨rfl,by rw[HKS.out];exact HJX4.out,h.2.2.2.2.1.turn HT4.out (fun k hk hz=>by
      rcases hz with hh|⟨_,_,hh⟩
      ·omega
      ·cases hh)⟩,HT4.out.mono fun j o hz=>hz.imp (fun h=>by have:=HW3.out;omega) id⟩
  case done =>
   rintro D ys V hD rfl hI hK
   have HI2:=ι hI
   clear hI
   gi_wp2
   have h:=HI2.out
   have hDl:D<V.heap.size:=(Array.getElem?_eq_some_iff.1 hK).1
   refine⟨⟨i+1,D::Ds,_,_,_,_,_,_,_,_,_,_,_,_,_,_,_,_,_,by omega,⟨h.1,h.2.1,h.2.2.1,h.2.2.2.1,h.2.2.2.2.1.more (by have:=HW3.out;omega) hD hDl hK⟩,rfl⟩,?_⟩
   simp[intOf]
   omega
  case stop =>
   rintro D c pre V hD hp ⟨rfl,hx,hM⟩ hK
   have HX:=ι hx
   clear hx
   gi_wp2
   have hDl:D<V.heap.size:=(Array.getElem?_eq_some_iff.1 hK).1
   refine a3e (B:=W.heap.size) (C:=V.heap.size) (D::Ds) V (hM.more (by have:=HW3.out;omega) hD hDl hK) fun w' hc => ?_
   exact⟨_,results_none rfl _ _ _,⟨_,rfl⟩,.inr ⟨_,c1q hlt hp,HJX.out _ _ _ HX.out (CalmS.of a0j hc)⟩⟩
 ·obtain rfl:i=6:=by omega
  gi_wp2
  refine a3e (B:=W.heap.size) (C:=wr.heap.size) Ds wr HR.out.2.2.2.2 fun w' hc => ?_
  exact⟨_,results_none rfl _ _ _,⟨_,rfl⟩,.inl ⟨_,rfl,HJ.out _ _ _ HR.out.1 (CalmS.of a0j hc)⟩⟩
end lk
end Go.Proofs.YtpnahagiojelbaaGreatDoor
