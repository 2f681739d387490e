/- What SfsRenames wants, part 11. -/
import Derived.Test.YtiaapfijbidgnaaGreatDoorSfsRenamesB
import Derived.Test.YtiaapfijbidgnaaGreatDoorSfsRenamesJ
import Derived.Test.YtiaapfijbidgnaaGreatDoorRows
import Derived.WalkKit
import Derived.ProofKit
import Derived.OpenShut
import Derived.Handy
import Derived.Deep.RegionWith
import Derived.Deep.QuietTactic
import Derived.BigQuiet
import Derived.Lib.Hide
import Derived.Deep.WholeRow
import Derived.Outline
set_option linter.unusedVariables false
namespace Go.Proofs.YtiaapfijbidgnaaGreatDoor
namespace cho
set_option maxRecDepth 100000
open Go.ChangeShapes Go.WideShapes Go.ChangeAt Go.RowKit
open choMath
theorem c9v{k:IntKind}{a b:Int}(h:a=b):Ending.returned (.int k a) = .returned (.int k b):=by rw[h]
theorem a0j{a b:Bool}(h:a=b):Ending.returned (.bool a) = .returned (.bool b):=by rw[h]
theorem a0a{a w:World}(h:Below a.heap.size a w)(o:Obj):Below a.heap.size a (w.alloc o):=h.alloc h.size o
theorem a0b{a b c:World}(h:Below a.heap.size a b)(k:Below b.heap.size b c):Below a.heap.size a c:=h.trans (k.mono h.size)
theorem b7s{B:Nat}{a w:World}(h:Below B a w)(n:Nat):Below B a (w.drewN n):=h.trans ⟨rfl,rfl,rfl,Nat.le_refl _,fun _ _=>rfl⟩
theorem c1z(c k:Nat)(w:World)(hc:c<18446744073709551616)(hk:k<32) :
  Calls Tryz.prog 103 #[.int .u64 (c:Int),.int .i64 (k:Int)] w fun e w'=>e = .returned (.int .i64 (fd c k:Int))∧w=w':=by
 have h1:(0:Int)≤k:=by omega
 have h2:(k:Int)<32:=by omega
 have HC:=ι hc
 clear hc
 go_enter Tryz.func103,Tryz.ntmps103
 go_wp2
 go_ret
 exact⟨c9v (d0v c k HC.out),rfl⟩
theorem d2k(c:Nat)(i:Int)(w:World)(h:i<0∨32≤i) :
  Calls Tryz.prog 103 #[.int .u64 (c:Int),.int .i64 i] w fun e w'=>e = .returned (.int .i64 0)∧w=w':=by
 rcases h with h|h
 all_goals
  go_enter Tryz.func103,Tryz.ntmps103
  go_wp2
  go_ret
  exact⟨rfl,rfl⟩
theorem d4g(c:Nat)(i:Int)(w:World)(hc:c<18446744073709551616) :
  Calls Tryz.prog 103 #[.int .u64 (c:Int),.int .i64 i] w fun e w'=>e = .returned (.int .i64 (fate c i))∧w=w':=by
 by_cases h:0≤i∧i<32
 ·obtain⟨k,rfl⟩:=Int.eq_ofNat_of_zero_le h.1
  rw[fate,if_pos h]
  exact c1z c k w hc (by omega)
 ·rw[fate,if_neg h]
  exact d2k c i w (by omega)
end cho
namespace cho
set_option maxRecDepth 100000
open Go.ChangeShapes Go.WideShapes Go.ChangeAt Go.RowKit
open choMath
theorem b0t(c k n:Nat)(hk:k≤n)(f:Nat→Bool)(h:(List.range k).all f=true):(k=n→(List.range n).all f=true)∧(k<n→f k=false→(List.range n).all f=false):=by
 refine⟨fun e=>e▸h,fun hlt hf => ?_⟩
 rw[Bool.eq_false_iff]
 intro ha
 rw[List.all_eq_true] at ha
 rw[ha k (List.mem_range.2 hlt)] at hf
 cases hf
theorem b4s(k:Nat)(f:Nat→Bool)(h:(List.range k).all f=true)(hf:f k=true):(List.range (k+1)).all f=true:=by
 rw[List.range_succ,List.all_append,h];simp[hf]
theorem d2h(c n:Nat)(w:World)(hc:c<18446744073709551616)(hn:n≤32) :
  Calls Tryz.prog 194 #[.int .u64 (c:Int),.int .i64 (n:Int)] w fun e w'=>e = .returned (.bool (riB c n))∧w=w':=by
 have HR:=ι (riB_in c n (by(have:(4:Nat)^32=18446744073709551616:=by decide);omega) hn)
 have HC:=ι hc
 clear hc
 have hn2:(n:Int)≤32:=by omega
 go_enter Tryz.func194,Tryz.ntmps194
 go_wp2
 go_loop [5,13] (fun _ i=>∃k:Nat,k≤n∧(List.range k).all (fun i=>decide (fd c i≤2))=true∧i = .int .i64 (k:Int)) (fun _ i=>n-(intOf i).toNat)
 case atStart=>exact⟨0,by omega,rfl,rfl⟩
 case round =>
  obtain⟨k,hk,hall,rfl⟩:=hrel
  have HA:=ι hall
  clear hall
  by_cases hlt:k<n
  ·have hkk:(k:Int)<32:=by omega
   by_cases h2:fd c k≤2
   ·have h2':decide (2<(fd c k:Int))=false:=by simp;omega
    go_wp2_with (go_at_call 103;refine(c1z c k _ HC.out (by omega)).mono ?_;rintro e w1 ⟨rfl,rfl⟩)
    go_round
    case rel=>exact⟨k+1,by omega,b4s k _ HA.out (by simpa using h2),by go_num⟩
    case measure=>simp[intOf];omega
   ·have h2':decide (2<(fd c k:Int))=true:=by simp;omega
    go_wp2_with (go_at_call 103;refine(c1z c k _ HC.out (by omega)).mono ?_;rintro e w1 ⟨rfl,rfl⟩)
    go_ret
    exact⟨a0j (by rw[HR.out,(b0t c k n hk _ HA.out).2 hlt (by simpa using h2)];rfl),rfl⟩
  ·obtain rfl:k=n:=by omega
   go_wp2
   go_ret
   exact⟨a0j (by rw[HR.out,HA.out,← c6g];rfl),rfl⟩
theorem c6m(c:Nat)(n:Int)(w:World)(h:n<0∨32<n) :
  Calls Tryz.prog 194 #[.int .u64 (c:Int),.int .i64 n] w fun e w'=>e = .returned (.bool false)∧w=w':=by
 rcases h with h|h
 all_goals
  go_enter Tryz.func194,Tryz.ntmps194
  go_wp2
  go_ret
  exact⟨rfl,rfl⟩
theorem a7v(c:Nat)(n:Int)(w:World)(hc:c<18446744073709551616) :
  Calls Tryz.prog 194 #[.int .u64 (c:Int),.int .i64 n] w fun e w'=>e = .returned (.bool (riB c n))∧w=w':=by
 by_cases h:n<0∨32<n
 ·rw[riB_out c n h];exact c6m c n w h
 ·obtain⟨m,rfl⟩:=Int.eq_ofNat_of_zero_le (show 0≤n by omega)
  exact d2h c m w hc (by omega)
end cho
namespace cho
set_option maxRecDepth 100000
open Go.ChangeShapes Go.WideShapes Go.ChangeAt Go.RowKit
open choMath
theorem a6o(c:Nat)(i d:Int)(w:World)(hc:c<18446744073709551616)(h:fate c i=d) :
  Calls Tryz.prog 103 #[.int .u64 (c:Int),.int .i64 i] w fun e w'=>e = .returned (.int .i64 d)∧w=w':=by subst h;exact d4g c i w hc
end cho
namespace cho
set_option maxRecDepth 100000
open Go.ChangeShapes Go.WideShapes Go.ChangeAt Go.RowKit
open choMath
def IntsIn(w:World)(v:Value)(zs:List Int):Prop :=
 (∃p cap,v = .slice p 0 cap∧zs=[]) ∨
 (∃b off cap,v = .slice (some ⟨b,off,none⟩) zs.length cap∧0<zs.length∧b<w.heap.size∧∀i,i<zs.length→w.cell? ⟨b,off+i,none⟩=some (.int .i64 (zs.getD i 0)))
theorem c8l(c:Nat)(zs:List Int)(b off cap:Nat)(w:World)(hc:c<18446744073709551616)(hr:riB c zs.length=true)(hn:zs.length≤32)
  (hcell:∀i,i<zs.length→w.cell? ⟨b,off+i,none⟩=some (.int .i64 (zs.getD i 0))) :
  Calls Tryz.prog 195 #[.int .u64 (c:Int),.slice (some ⟨b,off,none⟩) zs.length cap] w fun e w'=>e = .returned (.tuple #[.int .i64 (lr c zs zs.length).1,.bool (lr c zs zs.length).2])∧w=w':=by
 have HC:=ι hc
 have HR:=ι hr
 have HCELL:=ι hcell
 clear hc hr hcell
 obtain⟨n,hnn⟩:∃n,zs.length=n:=⟨_,rfl⟩
 have HNN:=ι hnn
 rw[hnn] at hn ⊢
 clear hnn
 have hn2:(n:Int)≤32:=by omega
 go_enter Tryz.func195,Tryz.ntmps195
 go_wp2
 go_loop [6,7,8,9,12] (fun l r _ _ i=>∃(j:Nat) (L:Int) (R:Bool),j≤n∧lr c zs j=(L,R)∧l = .int .i64 L∧r = .bool R∧i = .int .i64 (j:Int)) (fun _ _ _ _ i=>n-(intOf i).toNat)
 case atStart=>exact⟨0,0,false,by omega,rfl,rfl,rfl,rfl⟩
 case round =>
  obtain⟨j,L,R,hj,hlr,rfl,rfl,rfl⟩:=hrel
  have HLR:=ι hlr
  clear hlr
  by_cases hlt:j<n
  ·have hcj:w.cell? ⟨b,off+j,none⟩=some (.int .i64 (zs.getD j 0)):=HCELL.out j (by rw[HNN.out];exact hlt)
   have hstep:lr c zs (j+1)=if fd c j≠0∧(R=false∨L<zs.getD j 0) then (zs.getD j 0,true) else (L,R):=by rw[lr,HLR.out]
   have hfd:fate c (j:Int)=((fd c j:Nat):Int):=by rw[fate,if_pos (by omega)];rfl
   generalize zs.getD j 0=z at *
   generalize fd c j=d at *
   have HST:=ι hstep
   have HFD:=ι hfd
   clear hstep hfd
   by_cases hd0:d=0
   ·subst hd0
    go_wp2_with (go_at_call 103;refine(a6o c _ 0 _ HC.out HFD.out).mono ?_;rintro e w1 ⟨rfl,rfl⟩)
    go_round
    case rel=>exact⟨j+1,L,R,by omega,by rw[HST.out];simp,rfl,rfl,by go_num⟩
    case measure=>simp[intOf];omega
   ·have hne:((d:Int) != 0)=true:=by simp;omega
    have hne2:((d:Int) == 0)=false:=by simp;omega
    cases R with
    | false =>
     go_wp2_with (go_at_call 103;refine(a6o c _ d _ HC.out HFD.out).mono ?_;rintro e w1 ⟨rfl,rfl⟩)
     go_round
     case rel=>exact⟨j+1,z,true,by omega,by rw[HST.out];simp[hd0],rfl,rfl,by go_num⟩
     case measure=>simp[intOf];omega
    | true =>
     by_cases hL:L<z
     ·go_wp2_with (go_at_call 103;refine(a6o c _ d _ HC.out HFD.out).mono ?_;rintro e w1 ⟨rfl,rfl⟩)
      go_round
      case rel=>exact⟨j+1,z,true,by omega,by rw[HST.out];simp[hd0,hL],rfl,rfl,by go_num⟩
      case measure=>simp[intOf];omega
     ·go_wp2_with (go_at_call 103;refine(a6o c _ d _ HC.out HFD.out).mono ?_;rintro e w1 ⟨rfl,rfl⟩)
      go_round
      case rel=>exact⟨j+1,L,true,by omega,by rw[HST.out];simp;omega,rfl,rfl,by go_num⟩
      case measure=>simp[intOf];omega
  ·obtain rfl:j=n:=by omega
   go_wp2
   go_ret2
   exact⟨by rw[HLR.out];rfl,rfl⟩
theorem d2r(c:Nat)(p:Option Addr)(cap:Nat)(w:World) :
  Calls Tryz.prog 195 #[.int .u64 (c:Int),.slice p 0 cap] w fun e w'=>e = .returned (.tuple #[.int .i64 0,.bool false])∧w=w':=by
 go_enter Tryz.func195,Tryz.ntmps195
 go_wp2
 go_loop [6,7,8,9,12] (fun l r _ _ i=>l = .int .i64 0∧r = .bool false∧i = .int .i64 0) (fun _ _ _ _ i=>0)
 case atStart=>exact⟨rfl,rfl,rfl⟩
 case round =>
  obtain⟨rfl,rfl,rfl⟩:=hrel
  go_wp2
  go_ret2
  exact⟨rfl,rfl⟩
end cho
namespace cho
set_option maxRecDepth 100000
open Go.ChangeShapes Go.WideShapes Go.ChangeAt Go.RowKit
open choMath
theorem riB_len{c:Nat}{n:Int}(h:riB c n=true):0≤n∧n≤32:=by
 rw[riB,Bool.and_eq_true,decide_eq_true_eq] at h
 exact h.1
theorem b3j(c len cap:Nat)(p:Option Addr)(w:World)(hc:c<18446744073709551616)(h:riB c len=false) :
  Calls Tryz.prog 157 #[.int .u64 (c:Int),.slice p len cap] w fun e w'=>e = .returned (.bool false)∧w=w':=by
 have HC:=ι hc
 have HR:=ι h
 clear hc h
 go_enter Tryz.func157,Tryz.ntmps157
 go_wp2_with (go_at_call 194;refine(a7v c _ _ HC.out).mono ?_;rw[HR.out];rintro e w1 ⟨rfl,rfl⟩)
 go_ret
 exact⟨rfl,rfl⟩
theorem c1q(c cap:Nat)(p:Option Addr)(w:World)(hc:c<18446744073709551616)(h:riB c 0=true) :
  Calls Tryz.prog 157 #[.int .u64 (c:Int),.slice p 0 cap] w fun e w'=>e = .returned (.bool true)∧w=w':=by
 have HC:=ι hc
 have HR:=ι h
 clear hc h
 go_enter Tryz.func157,Tryz.ntmps157
 go_wp2_with (first|(go_at_call 194;refine(a7v c 0 _ HC.out).mono ?_;rw[HR.out];rintro e w1 ⟨rfl,rfl⟩)|(go_at_call 195;refine(d2r c p cap _).mono ?_;rintro e w1 ⟨rfl,rfl⟩))
 go_ret
 exact⟨rfl,rfl⟩
theorem b7r(c:Nat)(zs:List Int)(b off cap:Nat)(w:World)(hc:c<18446744073709551616)(hr:riB c zs.length=true)
  (hcell:∀i,i<zs.length→w.cell? ⟨b,off+i,none⟩=some (.int .i64 (zs.getD i 0))) :
  Calls Tryz.prog 157 #[.int .u64 (c:Int),.slice (some ⟨b,off,none⟩) zs.length cap] w fun e w'=>e = .returned (.bool (alB c zs))∧w=w':=by
 have hn:=riB_len hr
 have hn2:zs.length≤32:=by omega
 have HAL:=ι (alB_dev c zs hr)
 have HLS:=ι (fun W=>c8l c zs b off cap W hc hr hn2)
 have HC:=ι hc
 have HR:=ι hr
 have HCELL:=ι hcell
 clear hc hr hcell hn
 have hn3:(zs.length:Int)≤32:=by omega
 obtain⟨L,R,hLR⟩:∃L R,lr c zs zs.length=(L,R):=⟨_,_,rfl⟩
 have HLR:=ι hLR
 clear hLR
 cases R with
 | false =>
  go_enter Tryz.func157,Tryz.ntmps157
  go_wp2_with (first|(go_at_call 194;refine(a7v c _ _ HC.out).mono ?_;rw[HR.out];rintro e w1 ⟨rfl,rfl⟩)|(go_at_call 195;refine(HLS.out _ HCELL.out).mono ?_;rw[HLR.out];rintro e w1 ⟨rfl,rfl⟩))
  go_ret
  exact⟨a0j (by rw[HAL.out,HLR.out];rfl),rfl⟩
 | true =>
  obtain⟨n,hnn⟩:∃n,zs.length=n:=⟨_,rfl⟩
  have HNN:=ι hnn
  have HAL2:Hid (alB c zs=(List.range n).all (dvP c zs L)):=ι (by rw[HAL.out,HLR.out,← hnn];rfl)
  have HR2:Hid (riB c (n:Int)=true):=ι (by rw[← hnn];exact HR.out)
  have HCELL2:Hid (∀i,i<n→w.cell? ⟨b,off+i,none⟩=some (.int .i64 (zs.getD i 0))):=ι (by rw[← hnn];exact HCELL.out)
  have HLS2:Hid (Calls Tryz.prog 195 #[.int .u64 (c:Int),.slice (some ⟨b,off,none⟩) n cap] w fun e w'=>e = .returned (.tuple #[.int .i64 L,.bool true])∧w=w'):=ι (by
   have:=HLS.out w HCELL.out
   rw[HLR.out,hnn] at this
   exact this)
  rw[hnn] at hn2 hn3 ⊢
  clear hnn HLS HCELL HR HAL HLR
  go_enter Tryz.func157,Tryz.ntmps157
  go_wp2_with (first|(go_at_call 194;refine(a7v c _ _ HC.out).mono ?_;rw[HR2.out];rintro e w1 ⟨rfl,rfl⟩)|(go_at_call 195;refine HLS2.out.mono ?_;rintro e w1 ⟨rfl,rfl⟩))
  go_loop [7,8,24] (fun _ _ i=>∃j:Nat,j≤n∧(List.range j).all (dvP c zs L)=true∧i = .int .i64 (j:Int)) (fun _ _ i=>n-(intOf i).toNat)
  case atStart=>exact⟨0,by omega,rfl,rfl⟩
  case round =>
   obtain⟨j,hj,hall,rfl⟩:=hrel
   have HA:=ι hall
   clear hall
   by_cases hlt:j<n
   ·have hcj:w.cell? ⟨b,off+j,none⟩=some (.int .i64 (zs.getD j 0)):=HCELL2.out j hlt
    have hfd:fate c (j:Int)=((fd c j:Nat):Int):=by rw[fate,if_pos (by omega)];rfl
    have hp:dvP c zs L j=(!(decide (zs.getD j 0<L)) || fd c j == 1):=rfl
    generalize zs.getD j 0=z at *
    generalize fd c j=d at *
    have HP:=ι hp
    have HFD:=ι hfd
    clear hp hfd
    by_cases hz:z<L
    ·by_cases hd1:d=1
     ·subst hd1
      go_wp2_with (go_at_call 103;refine(a6o c _ 1 _ HC.out HFD.out).mono ?_;rintro e w1 ⟨rfl,rfl⟩)
      go_round
      case rel=>exact⟨j+1,by omega,b4s j _ HA.out (by rw[HP.out];simp),by go_num⟩
      case measure=>simp[intOf];omega
     ·have hne:((d:Int) != 1)=true:=by simp;omega
      have hne2:((d:Int) == 1)=false:=by simp;omega
      go_wp2_with (go_at_call 103;refine(a6o c _ d _ HC.out HFD.out).mono ?_;rintro e w1 ⟨rfl,rfl⟩)
      go_ret
      exact⟨a0j (by rw[HAL2.out,(b0t c j n hj _ HA.out).2 hlt (by rw[HP.out];simp[hz,hd1])]),rfl⟩
    ·have hz2:decide (z<L)=false:=by simp;omega
     go_wp2
     go_round
     case rel=>exact⟨j+1,by omega,b4s j _ HA.out (by rw[HP.out];simp;omega),by go_num⟩
     case measure=>simp[intOf];omega
   ·obtain rfl:j=n:=by omega
    go_wp2
    go_ret
    exact⟨a0j (by rw[HAL2.out,HA.out]),rfl⟩
theorem b2s(c:Nat)(zs:List Int)(v:Value)(w:World)(hc:c<18446744073709551616)(h:IntsIn w v zs) :
  Calls Tryz.prog 157 #[.int .u64 (c:Int),v] w fun e w'=>e = .returned (.bool (alB c zs))∧w=w':=by
 rcases h with⟨p,cap,rfl,rfl⟩|⟨b,off,cap,rfl,h2,h3,h4⟩
 ·cases h:riB c 0 with
  | false =>
   have e:alB c []=false:=by show (riB c 0 && _)=false;rw[h];rfl
   rw[e]
   exact b3j c 0 cap p w hc h
  | true =>
   have e:alB c []=true:=by show (riB c 0 && _)=true;rw[h];rfl
   rw[e]
   exact c1q c cap p w hc h
 ·cases h:riB c zs.length with
  | false =>
   have e:alB c zs=false:=by rw[alB,h];rfl
   rw[e]
   exact b3j c _ cap _ w hc h
  | true=>exact b7r c zs b off cap w hc h h4
end cho
end Go.Proofs.YtiaapfijbidgnaaGreatDoor
