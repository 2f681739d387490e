/- What SfsPlays wants, part 8. -/
import Derived.Test.YtiaapfijbidgnaaGreatDoorSfsPlaysB
import Derived.Test.YtiaapfijbidgnaaGreatDoorSfsPlaysG
import Derived.DeepKeys5
import Derived.DeepKeys3
set_option linter.unusedVariables false
set_option linter.unusedSimpArgs false
namespace Go.Proofs.YtiaapfijbidgnaaGreatDoor
namespace dsk
set_option maxRecDepth 100000
open Go.ChangeShapes Go.WideShapes Go.ChangeAt Go.RowKit
open rows
open sec
open Go.Maps
end dsk
namespace dsk
open Go.ChangeShapes Go.WideShapes Go.ChangeAt Go.RowKit
open rows
open sec
open Go.Maps
theorem a7z{ops:Array Oper}{rest:List Oper}{o:Oper}{a:Act}{w:World}{Q:Exit→Act→World→Prop}(hgd:o.guard=none)(x y:Operand)(ho:o.op = .store 99 x y)(hd:o.dst=none)
  (g:Nat) (z old:Wr) (hx:a.eval x = .pointer (some ⟨g,0,none⟩)) (hy:a.eval y = .agg z.c.toArray) (hs:Sec z.s) (hold:Sec old.s) (hg:AtW w g old)
  (h:∀w',AtW w' g z→Below g w w'→wpList Tryz.prog ops Q rest a w'):wpList Tryz.prog ops Q (o::rest) a w:=by
 refine wpList_store_row hgd 99 x y ho g z.c.toArray hx hy 99 _ hg (by rw[b0s];simp[Wr.c_len hs]) (by simp[Wr.c_len hs,Wr.c_len hold]) (by simp only[List.all_toArray];exact List.all_eq_true.2 (a3i z)) ?_
 rw[hd]
 exact h _ (setRow_heap w g _ _ _ _ hg) ((Below.refl g w).trans ⟨rfl,rfl,rfl,by simp[World.setRow],fun k hk=>setRow_other w g k _ (by omega)⟩)
theorem c6p(w:World):AtW (w.alloc (.cells (w0.c).toArray 99)) w.heap.size w0:=heap_alloc_new _ _
theorem AtW.later{w w':World}{g:Nat}{x:Wr}(h:AtW w g x)(hb:Below w.heap.size w w'):AtW w' g x:=a0z h hb (Array.getElem?_eq_some_iff.1 h).1
end dsk
namespace dsk
set_option maxRecDepth 100000
open Go.ChangeShapes Go.WideShapes Go.ChangeAt Go.RowKit
open rows
open sec
open Go.Maps
end dsk
namespace dsk
open Go.ChangeShapes Go.WideShapes Go.ChangeAt Go.RowKit
open rows
open sec
open Go.Maps
theorem b7c(ls:List Wr)(x:Wr):wrsC (ls++[x])=wrsC ls++x.c:=by simp[wrsC]
end dsk
namespace dsk
set_option maxRecDepth 100000
open Go.ChangeShapes Go.WideShapes Go.ChangeAt Go.RowKit
open rows
open sec
open Go.Maps
set_option maxHeartbeats 1600000 in
theorem a8g(w:World)(p:Option Addr)(n c:Nat)(ss:List (List Int))(hs:Secs ss)(h:Rd w 32 (.slice p n c) n (cellsOf ss))(h1:1≤n)(h2:n≤65):Calls Tryz.prog 9 #[.slice p n c] w fun e w'=>∃ad,e = .returned (.tuple #[.pointer (some ad),.int .i64 0])∧CA w' (fun b=>w.heap.size≤b∧b<w'.heap.size) (.pointer (some ad)) (st0 ss)∧Below w.heap.size w w':=by
 have HP:=ι (fun w=>cpossible (n:Int) w (WalkArith.wf_i64 (by omega)))
 rw[decide_eq_true (show 1≤(n:Int)∧(n:Int)≤65 by omega)] at HP
 have hsl:ss.length=n:=by have:=h.cells;rw[a0y hs] at this;omega
 have HSL:=ι hsl
 have HS1:Hid (∀u∈cellsOf ss,u.oneCell'=true):=ι (by rw[a4m];intro u hu;obtain⟨l,hl,hul⟩:=List.mem_flatten.1 hu;obtain⟨x,_,rfl⟩:=List.mem_map.1 hl;exact a1y .u8 x u hul)
 have HC1:=ι (b2k p n c (cellsOf ss) w h HS1.out (by omega))
 have H:=ι h
 have hni:(n:Int)≤65:=by omega
 clear h hs hsl
 go_enter Tryz.func9,Tryz.ntmps9
 go_wp2_with (go_at_call 56;refine(HP.out w).mono ?_;rintro e w0 ⟨rfl,rfl⟩)
 refine HC1.out.mono ?_
 rintro e w1 ⟨p1,c1,rfl,ho1,hb1⟩
 have HO1:=ι ho1
 have HB1:=ι hb1
 have HC2:=ι (b2k p n c (cellsOf ss) w1 (H.out.later hb1) HS1.out (by omega))
 clear ho1 hb1
 go_wp2_with (go_at_call 57;refine HC2.out.mono ?_;rintro e w2 ⟨p2,c2,rfl,ho2,hb2⟩;have HO2:=ι ho2;have HB2:=ι hb2;clear ho2 hb2)
 have hs1:=HB1.out.size
 have hs2:=HB2.out.size
 have hB:Below w.heap.size w w2:=HB1.out.trans (HB2.out.mono hs1)
 have hsz:=HSL.out
 have hfin:CodeAt (w2.alloc (.cells #[.pointer (some ⟨w2.heap.size,0,none⟩),.slice p1 n c1,.slice none 0 0,.slice p2 n c2,.int .i64 0,.slice none 0 0,.int .i64 0,.map none] 104)) (fun b=>w.heap.size≤b∧b<w2.heap.size+1) (fun b=>if b<w1.heap.size then 1 else if b<w2.heap.size then 3 else 0) w2.heap.size (st0 ss) (.slice p1 n c1) (.slice none 0 0) (.slice p2 n c2) (.slice none 0 0) (.map none):=by
  refine⟨heap_alloc_new _ _,⟨⟨by omega,by omega⟩,by dsimp only;rw[if_neg (by omega),if_neg (by omega)]⟩,?_,fun k hk => ?_,a2n _ _ _ _,c0e _,?_,fun k hk => ?_,⟨[],rfl,a2n _ _ _ _,fun i hi=>absurd hi (Nat.not_lt_zero _)⟩,c0e _,Or.inl ⟨rfl,rfl⟩,fun x hx=>by cases hx⟩
  ·show Own _ 0 _ 32 _ ss.length (cellsOf ss)
   rw[hsz]
   exact a0o (own_base HO1.out (Nat.zero_le _)) (a0a HB2.out (a0b (Below.refl _ _) _))
  ·have h:=a2f HO1.out hk
   exact⟨⟨h.1,by omega⟩,if_pos h.2⟩
  ·show Own _ 0 _ 32 _ ss.length (cellsOf ss)
   rw[hsz]
   exact a0o (own_base HO2.out (Nat.zero_le _)) (a0b (Below.refl _ _) _)
  ·have h:=a2f HO2.out hk
   exact⟨⟨by omega,by omega⟩,by dsimp only;rw[if_neg (by omega),if_pos h.2]⟩
 go_ret2
 exact⟨_,rfl,⟨_,w2.heap.size,_,_,_,_,_,rfl,hfin.wider (fun b hb=>⟨hb.1,by rw[size_alloc];exact hb.2⟩) (fun _ _=>rfl)⟩,a0b hB _⟩
theorem c1p(w:World)(p:Option Addr)(n c:Nat)(h:n≤200)(hn:n<1∨65<n):Calls Tryz.prog 9 #[.slice p n c] w (Rt w (.tuple #[.pointer none,.int .i64 1])):=by
 have HP:=ι (fun w=>cpossible (n:Int) w (WalkArith.wf_i64 (by omega)))
 rw[decide_eq_false (show ¬(1≤(n:Int)∧(n:Int)≤65) by omega)] at HP
 have hni:(n:Int)≤200:=by omega
 go_enter Tryz.func9,Tryz.ntmps9
 go_wp2_with (go_at_call 56;refine(HP.out w).mono ?_;rintro e w0 ⟨rfl,rfl⟩)
 go_ret2
 exact⟨rfl,Below.refl _ _⟩
end dsk
end Go.Proofs.YtiaapfijbidgnaaGreatDoor
