/- What ViewBack wants, part 18. -/
import Derived.Test.YtjedjkjhodgidaaGreatDoorViewBackB
import Derived.Test.YtjedjkjhodgidaaGreatDoorViewBackM
import Derived.DeepKeys5
import Derived.DeepKeys3
set_option linter.unusedVariables false
set_option linter.unusedSimpArgs false
namespace Go.Proofs.YtjedjkjhodgidaaGreatDoor
namespace dsk
set_option maxRecDepth 100000
open Go.ChangeShapes Go.WideShapes Go.ChangeAt Go.RowKit
open rows
open sec
open Go.Maps
set_option maxHeartbeats 1600000 in
theorem b5r(w:World)(p:Option Addr)(n c:Nat)(ss:List (List Int))(hs:Secs ss)(h:Rd w 32 (.slice p n c) n (cellsOf ss))(h1:1≤n)(h2:n≤65):Calls Tryz.prog 36 #[.slice p n c] w fun e w'=>∃ad,e = .returned (.tuple #[.pointer (some ad),.int .i64 0])∧CA w' (fun b=>w.heap.size≤b∧b<w'.heap.size) (.pointer (some ad)) (st0 ss)∧Below w.heap.size w w':=by
 have HP:=ι (fun w=>cpossible (n:Int) w (WalkArith.wf_i64 (by omega)))
 rw[decide_eq_true (show 1≤(n:Int)∧(n:Int)≤65 by omega)] at HP
 have hsl:ss.length=n:=by have:=h.cells;rw[a0p hs] at this;omega
 have HSL:=ι hsl
 have HS1:Hid (∀u∈cellsOf ss,u.oneCell'=true):=ι (by rw[a1s];intro u hu;obtain⟨l,hl,hul⟩:=List.mem_flatten.1 hu;obtain⟨x,_,rfl⟩:=List.mem_map.1 hl;exact a2t .u8 x u hul)
 have HC1:=ι (a6r p n c (cellsOf ss) w h HS1.out (by omega))
 have H:=ι h
 have hni:(n:Int)≤65:=by omega
 clear h hs hsl
 go_enter Tryz.func36,Tryz.ntmps36
 go_wp2_with (go_at_call 82;refine(HP.out w).mono ?_;rintro e w0 ⟨rfl,rfl⟩)
 refine HC1.out.mono ?_
 rintro e w1 ⟨p1,c1,rfl,ho1,hb1⟩
 have HO1:=ι ho1
 have HB1:=ι hb1
 have HC2:=ι (a6r p n c (cellsOf ss) w1 (H.out.later hb1) HS1.out (by omega))
 clear ho1 hb1
 go_wp2_with (go_at_call 83;refine HC2.out.mono ?_;rintro e w2 ⟨p2,c2,rfl,ho2,hb2⟩;have HO2:=ι ho2;have HB2:=ι hb2;clear ho2 hb2)
 have hs1:=HB1.out.size
 have hs2:=HB2.out.size
 have hB:Below w.heap.size w w2:=HB1.out.trans (HB2.out.mono hs1)
 have hsz:=HSL.out
 have hfin:CodeAt (w2.alloc (.cells #[.pointer (some ⟨w2.heap.size,0,none⟩),.slice p1 n c1,.slice none 0 0,.slice p2 n c2,.int .i64 0,.slice none 0 0,.int .i64 0,.map none] 146)) (fun b=>w.heap.size≤b∧b<w2.heap.size+1) (fun b=>if b<w1.heap.size then 1 else if b<w2.heap.size then 3 else 0) w2.heap.size (st0 ss) (.slice p1 n c1) (.slice none 0 0) (.slice p2 n c2) (.slice none 0 0) (.map none):=by
  refine⟨heap_alloc_new _ _,⟨⟨by omega,by omega⟩,by dsimp only;rw[if_neg (by omega),if_neg (by omega)]⟩,?_,fun k hk => ?_,a2b _ _ _ _,b2h _,?_,fun k hk => ?_,⟨[],rfl,a2b _ _ _ _,fun i hi=>absurd hi (Nat.not_lt_zero _)⟩,b2h _,Or.inl ⟨rfl,rfl⟩,fun x hx=>by cases hx⟩
  ·show Own _ 0 _ 32 _ ss.length (cellsOf ss)
   rw[hsz]
   exact a0x (own_base HO1.out (Nat.zero_le _)) (a0a HB2.out (a0b (Below.refl _ _) _))
  ·have h:=a1z HO1.out hk
   exact⟨⟨h.1,by omega⟩,if_pos h.2⟩
  ·show Own _ 0 _ 32 _ ss.length (cellsOf ss)
   rw[hsz]
   exact a0x (own_base HO2.out (Nat.zero_le _)) (a0b (Below.refl _ _) _)
  ·have h:=a1z HO2.out hk
   exact⟨⟨by omega,by omega⟩,by dsimp only;rw[if_neg (by omega),if_pos h.2]⟩
 go_ret2
 exact⟨_,rfl,⟨_,w2.heap.size,_,_,_,_,_,rfl,hfin.wider (fun b hb=>⟨hb.1,by rw[size_alloc];exact hb.2⟩) (fun _ _=>rfl)⟩,a0b hB _⟩
theorem b9z(w:World)(p:Option Addr)(n c:Nat)(h:n≤200)(hn:n<1∨65<n):Calls Tryz.prog 36 #[.slice p n c] w (Rt w (.tuple #[.pointer none,.int .i64 1])):=by
 have HP:=ι (fun w=>cpossible (n:Int) w (WalkArith.wf_i64 (by omega)))
 rw[decide_eq_false (show ¬(1≤(n:Int)∧(n:Int)≤65) by omega)] at HP
 have hni:(n:Int)≤200:=by omega
 go_enter Tryz.func36,Tryz.ntmps36
 go_wp2_with (go_at_call 82;refine(HP.out w).mono ?_;rintro e w0 ⟨rfl,rfl⟩)
 go_ret2
 exact⟨rfl,Below.refl _ _⟩
end dsk
end Go.Proofs.YtjedjkjhodgidaaGreatDoor
