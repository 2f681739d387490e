/- What CheckStays wants, part 33. -/
import Derived.Test.YtpnahagiojelbaaGreatDoorCheckStaysB
import Derived.Test.YtpnahagiojelbaaGreatDoorCheckStaysC
import Derived.Test.YtpnahagiojelbaaGreatDoorCheckStaysH
import Derived.Test.YtpnahagiojelbaaGreatDoorCheckStaysR
import Derived.Test.YtpnahagiojelbaaGreatDoorCheckStaysT
import Derived.Test.YtpnahagiojelbaaGreatDoorCheckStaysZ
set_option linter.unusedVariables false
set_option linter.unusedSimpArgs false
namespace Go.Proofs.YtpnahagiojelbaaGreatDoor
namespace fs
set_option maxRecDepth 100000
open Go.ChangeShapes Go.WideShapes Go.ChangeAt Go.RowKit
open rows
open sec
open dsk (wf64 InS Keeps grow)
open ly
open pa
open lk
def FDone(FI:World→(Nat→Prop)→Value→dsk.St→Prop)(F:Nat→Prop)(f:Value)(w:World)(r:Int×dsk.St)(e:Ending)(w':World):Prop:=e = .returned (.int .i64 r.1)∧FI w' (grow F w w') f r.2∧dsk.Touch F w w'
structure SfsIs (FI:World→(Nat→Prop)→Value→dsk.St→Prop):Prop where
 kept:∀(w w':World) (F:Nat→Prop) (f:Value) (st:dsk.St),FI w F f st→Keeps F w w'→FI w' F f st
 mono:∀(w:World) (F G:Nat→Prop) (f:Value) (st:dsk.St),FI w F f st→(∀b,F b→G b)→FI w G f st
 read:∀(w:World) (F:Nat→Prop) (f:Value) (st:dsk.St) (k:Nat) (s:ByteArray),FI w F f st→st.good k→k≤880→Mx w→s.size≤100000→Calls Tryz.prog 10 #[f,.string s] w fun e w'=>∃p n c,e = .returned (.tuple #[.slice p n c,.int .i64 (readV (nowL st) s).2])∧n=(readV (nowL st) s).1.length∧Rd w' 1 (.slice p n c) n ((readV (nowL st) s).1.map (Value.int .u8))∧Below w.heap.size w w'
 create:∀(w:World) (F:Nat→Prop) (f:Value) (st:dsk.St) (k:Nat) (s:ByteArray),FI w F f st→st.good k→k≤880→Mx w→s.size≤100000→Calls Tryz.prog 25 #[f,.string s] w (FDone FI F f w (makeV st s 1))
 mkdir:∀(w:World) (F:Nat→Prop) (f:Value) (st:dsk.St) (k:Nat) (s:ByteArray),FI w F f st→st.good k→k≤880→Mx w→s.size≤100000→Calls Tryz.prog 76 #[f,.string s] w (FDone FI F f w (makeV st s 2))
 write:∀(w:World) (F:Nat→Prop) (f:Value) (st:dsk.St) (k:Nat) (s:ByteArray) (off:Int) (p:Option Addr) (m c:Nat) (b:List Int),FI w F f st→st.good k→k≤880→Mx w→s.size≤100000→wf64 off→Rd w 1 (.slice p m c) m (b.map (Value.int .u8))→InS (fun x=>¬F x) (.slice p m c)→m≤300→(∀x∈b,0≤x∧x<256)→Calls Tryz.prog 77 #[f,.string s,.int .i64 off,.slice p m c] w (FDone FI F f w (writeFV st s off b))
 append:∀(w:World) (F:Nat→Prop) (f:Value) (st:dsk.St) (k:Nat) (s:ByteArray) (p:Option Addr) (m c:Nat) (b:List Int),FI w F f st→st.good k→k≤880→Mx w→s.size≤100000→Rd w 1 (.slice p m c) m (b.map (Value.int .u8))→InS (fun x=>¬F x) (.slice p m c)→m≤300→(∀x∈b,0≤x∧x<256)→Calls Tryz.prog 26 #[f,.string s,.slice p m c] w (FDone FI F f w (appendV st s b))
 trunc:∀(w:World) (F:Nat→Prop) (f:Value) (st:dsk.St) (k:Nat) (s:ByteArray) (z:Int),FI w F f st→st.good k→k≤880→Mx w→s.size≤100000→wf64 z→Calls Tryz.prog 78 #[f,.string s,.int .i64 z] w (FDone FI F f w (truncV st s z))
 rename:∀(w:World) (F:Nat→Prop) (f:Value) (st:dsk.St) (k:Nat) (s:ByteArray) (u:ByteArray),FI w F f st→st.good k→k≤880→Mx w→s.size≤100000→u.size≤100000→Calls Tryz.prog 79 #[f,.string s,.string u] w (FDone FI F f w (renameV st s u))
 unlink:∀(w:World) (F:Nat→Prop) (f:Value) (st:dsk.St) (k:Nat) (s:ByteArray),FI w F f st→st.good k→k≤880→Mx w→s.size≤100000→Calls Tryz.prog 80 #[f,.string s] w (FDone FI F f w (unlinkV st s))
theorem SfsIs.later{FI:World→(Nat→Prop)→Value→dsk.St→Prop}(C:SfsIs FI){w w':World}{F:Nat→Prop}{f:Value}{st:dsk.St}(h:FI w F f st)(hb:Below w.heap.size w w'):FI w' F f st :=
 C.kept _ _ _ _ _ h ⟨hb.size,fun k hk _=>hb.block k hk⟩
end fs
namespace fs
set_option maxRecDepth 100000
open Go.ChangeShapes Go.WideShapes Go.ChangeAt Go.RowKit
open rows
open sec
open dsk (InS)
open ly
open pa
open lk
theorem a2j{FI:World→(Nat→Prop)→Value→dsk.St→Prop}(C:SfsIs FI){F:Nat→Prop}{f:Value}{w w1:World}{r:Int×dsk.St}{e:Ending}{w':World}(hb:Below w.heap.size w w1)(h:FDone FI F f w1 r e w'):FDone FI F f w r e w':=by
 obtain⟨h1,h2,h3⟩:=h
 refine⟨h1,C.mono _ _ _ _ _ h2 fun b hb' => ?_,(dsk.Touch.of_below hb).trans h3⟩
 rcases hb' with h|h
 ·exact Or.inl h
 ·exact Or.inr ⟨Nat.le_trans hb.size h.1,h.2⟩
theorem c3q{FI:World→(Nat→Prop)→Value→dsk.St→Prop}(C:SfsIs FI){F:Nat→Prop}{f:Value}{st:dsk.St}{w w1:World}(h:FI w F f st)(hb:Below w.heap.size w w1)(r:Int):FDone FI F f w (r,st) (.returned (.int .i64 r)) w1 :=
 ⟨rfl,C.mono _ _ _ _ _ (C.later h hb) fun b hb=>Or.inl hb,dsk.Touch.of_below hb⟩
set_option maxRecDepth 100000 in
set_option maxHeartbeats 6400000 in
theorem ldo_any{FI:World→(Nat→Prop)→Value→dsk.St→Prop}(C:SfsIs FI)(w:World)(F:Nat→Prop)(f:Value)(st:dsk.St)(k:Nat)(hf:FI w F f st)(hg:st.good k)(hk:k≤880)(hm:Mx w)(a:FAct)(p1:Option Addr)(n1 c1:Nat)(p2:Option Addr)(n2 c2:Nat)(ha:ActIn w a (.slice p1 n1 c1) (.slice p2 n2 c2))(hin:InS (fun x=>¬F x) (.slice p1 n1 c1))(h7:a.kind≠7) :
  Calls Tryz.prog 35 #[f,.agg (actC a (.slice p1 n1 c1) (.slice p2 n2 c2))] w (FDone FI F f w (fDo st a)):=by
 have HF:=ι hf
 obtain⟨kd,pp,qq,nn,bb,bad⟩:=a
 have hbox:Hid (Below w.heap.size w (w.alloc (.cells #[.int .i64 kd,.string pp,.string qq,.int .i64 nn,.slice p1 n1 c1,.slice p2 n2 c2] 33))):=ι (a0a (Below.refl _ _) _)
 have HV:Hid (fDo st ⟨kd,pp,qq,nn,bb,bad⟩=if kd=0 then makeV st pp 1 else if kd=1 then makeV st pp 2 else if kd=2 then writeFV st pp nn bb else if kd=3 then appendV st pp bb else if kd=4 then truncV st pp nn else if kd=5 then renameV st pp qq else if kd=6 then unlinkV st pp else (0,st)):=ι rfl
 have hpz:=ha.p
 have hqz:=ha.q
 have hnw:=ha.n
 have hbl:=ha.bl
 have hbb:=ha.bb
 have hrl:n1=bb.length:=ha.rd.len
 simp only at hpz hqz hnw hbl hbb
 rw[← hrl] at hbl
 have R1:Hid (Rd (w.alloc (.cells #[.int .i64 kd,.string pp,.string qq,.int .i64 nn,.slice p1 n1 c1,.slice p2 n2 c2] 33)) 1 (.slice p1 n1 c1) n1 (bb.map (Value.int .u8))):=ι (by have:=ha.rd.later hbox.out;simp only at this;rw[← hrl] at this;exact this)
 have IN1:=ι hin
 have F1:=ι (C.later HF.out hbox.out)
 have M1:=ι (hm.later hbox.out)
 generalize hW:w.alloc (.cells #[.int .i64 kd,.string pp,.string qq,.int .i64 nn,.slice p1 n1 c1,.slice p2 n2 c2] 33)=W at *
 simp only at h7
 clear hf hm ha hin hrl
 by_cases h0:kd=0
 ·subst h0
  have HC:=ι (C.create W F f st k pp F1.out hg hk M1.out (by omega))
  rw[HV.out.trans (if_pos rfl)]
  clear HV
  subst hW
  go_enter Tryz.func35,Tryz.ntmps35
  go_wp2_with (go_at_call 25;refine HC.out.mono ?_;rintro e w2 hd;have D2:=ι (a2j C hbox.out hd);obtain⟨rfl,_⟩:=hd)
  go_ret
  exact D2.out
 have k0:(kd == 0)=false:=beq_eq_false_iff_ne.2 h0
 have HV:=ι (HV.out.trans (if_neg h0))
 by_cases h1:kd=1
 ·subst h1
  have HC:=ι (C.mkdir W F f st k pp F1.out hg hk M1.out (by omega))
  rw[HV.out.trans (if_pos rfl)]
  clear HV h0
  subst hW
  go_enter Tryz.func35,Tryz.ntmps35
  go_wp2_with (go_at_call 76;refine HC.out.mono ?_;rintro e w2 hd;have D2:=ι (a2j C hbox.out hd);obtain⟨rfl,_⟩:=hd)
  go_ret
  exact D2.out
 have k1:(kd == 1)=false:=beq_eq_false_iff_ne.2 h1
 have HV:=ι (HV.out.trans (if_neg h1))
 by_cases h2:kd=2
 ·subst h2
  have HC:=ι (C.write W F f st k pp nn p1 n1 c1 bb F1.out hg hk M1.out (by omega) hnw R1.out IN1.out hbl hbb)
  rw[HV.out.trans (if_pos rfl)]
  clear HV h0 h1
  subst hW
  go_enter Tryz.func35,Tryz.ntmps35
  go_wp2_with (go_at_call 77;refine HC.out.mono ?_;rintro e w2 hd;have D2:=ι (a2j C hbox.out hd);obtain⟨rfl,_⟩:=hd)
  go_ret
  exact D2.out
 have k2:(kd == 2)=false:=beq_eq_false_iff_ne.2 h2
 have HV:=ι (HV.out.trans (if_neg h2))
 by_cases h3:kd=3
 ·subst h3
  have HC:=ι (C.append W F f st k pp p1 n1 c1 bb F1.out hg hk M1.out (by omega) R1.out IN1.out hbl hbb)
  rw[HV.out.trans (if_pos rfl)]
  clear HV h0 h1 h2
  subst hW
  go_enter Tryz.func35,Tryz.ntmps35
  go_wp2_with (go_at_call 26;refine HC.out.mono ?_;rintro e w2 hd;have D2:=ι (a2j C hbox.out hd);obtain⟨rfl,_⟩:=hd)
  go_ret
  exact D2.out
 have k3:(kd == 3)=false:=beq_eq_false_iff_ne.2 h3
 have HV:=ι (HV.out.trans (if_neg h3))
 by_cases h4:kd=4
 ·subst h4
  have HC:=ι (C.trunc W F f st k pp nn F1.out hg hk M1.out (by omega) hnw)
  rw[HV.out.trans (if_pos rfl)]
  clear HV h0 h1 h2 h3
  subst hW
  go_enter Tryz.func35,Tryz.ntmps35
  go_wp2_with (go_at_call 78;refine HC.out.mono ?_;rintro e w2 hd;have D2:=ι (a2j C hbox.out hd);obtain⟨rfl,_⟩:=hd)
  go_ret
  exact D2.out
 have k4:(kd == 4)=false:=beq_eq_false_iff_ne.2 h4
 have HV:=ι (HV.out.trans (if_neg h4))
 by_cases h5:kd=5
 ·subst h5
  have HC:=ι (C.rename W F f st k pp qq F1.out hg hk M1.out (by omega) (by omega))
  rw[HV.out.trans (if_pos rfl)]
  clear HV h0 h1 h2 h3 h4
  subst hW
  go_enter Tryz.func35,Tryz.ntmps35
  go_wp2_with (go_at_call 79;refine HC.out.mono ?_;rintro e w2 hd;have D2:=ι (a2j C hbox.out hd);obtain⟨rfl,_⟩:=hd)
  go_ret
  exact D2.out
 have k5:(kd == 5)=false:=beq_eq_false_iff_ne.2 h5
 have HV:=ι (HV.out.trans (if_neg h5))
 by_cases h6:kd=6
 ·subst h6
  have HC:=ι (C.unlink W F f st k pp F1.out hg hk M1.out (by omega))
  rw[HV.out.trans (if_pos rfl)]
  clear HV h0 h1 h2 h3 h4 h5
  subst hW
  go_enter Tryz.func35,Tryz.ntmps35
  go_wp2_with (go_at_call 80;refine HC.out.mono ?_;rintro e w2 hd;have D2:=ι (a2j C hbox.out hd);obtain⟨rfl,_⟩:=hd)
  go_ret
  exact D2.out
 have k6:(kd == 6)=false:=beq_eq_false_iff_ne.2 h6
 have HV:=ι (HV.out.trans (if_neg h6))
 rw[HV.out]
 have k7:(kd == 7)=false:=beq_eq_false_iff_ne.2 h7
 clear HV h0 h1 h2 h3 h4 h5 h6 h7
 subst hW
 go_enter Tryz.func35,Tryz.ntmps35
 go_wp2_with fail
 go_ret
 exact c3q C HF.out hbox.out _
end fs
namespace fs
set_option maxRecDepth 100000
open Go.ChangeShapes Go.WideShapes Go.ChangeAt Go.RowKit
open rows
open sec
open dsk (St Wr barrier)
open ly
open pa
open lk
open al
theorem a0w{st:St}{k m:Nat}(h:st.good k)(hm:k≤m):st.good m :=
 ⟨h.ss,h.n1,h.ws,h.es,Nat.le_trans h.wn hm,Nat.le_trans h.ln hm,h.bn,⟨h.ep.1,by have:=h.ep.2;omega⟩,⟨h.asked.1,by have:=h.asked.2;omega⟩⟩
theorem a7u{st:St}{k:Nat}(h:st.good k)(ws:List Wr)(hw:∀x∈ws,Sec x.s)(hl:ws.length≤5):(doR st ws).2.good (k+10):=a0w (c0m hw h) (by omega)
theorem a9p{st:St}{k:Nat}(h:st.good k):(barrier st).2.good (k+1):=by
 unfold barrier
 split
 ·exact⟨h.ss,h.n1,h.ws,h.es,by have:=h.wn;show st.wait.length≤k+1;omega,by have:=h.ln;show st.log.length≤k+1;omega,h.bn,⟨h.ep.1,by have:=h.ep.2;show st.ep≤((k+1:Nat):Int);omega⟩,⟨by have:=h.asked.1;show 0≤st.asked+1;omega,by have:=h.asked.2;show st.asked+1≤((k+1:Nat):Int);omega⟩⟩
 ·refine⟨h.ss,h.n1,h.ws,fun e he => ?_,by have:=h.wn;show st.wait.length≤k+1;omega,by have:=h.ln;simp;omega,h.bn,⟨by have:=h.ep.1;show 0≤st.ep+1;omega,by have:=h.ep.2;show st.ep+1≤((k+1:Nat):Int);omega⟩,⟨by have:=h.asked.1;show 0≤st.asked+1;omega,by have:=h.asked.2;show st.asked+1≤((k+1:Nat):Int);omega⟩⟩
  rcases List.mem_append.1 he with he|he
  ·exact h.es e he
  ·rw[List.mem_singleton.1 he];exact⟨by show Sec dsk.w0.s;exact a0i,by simp⟩
theorem c3o{st:St}{k:Nat}(h:st.good k)(x y:Wr)(hx:Sec x.s)(hy:Sec y.s):(moveR st x y).2.good (k+10):=by
 have h1:(doR st [x]).2.good (k+1):=c0m (ws:=[x]) (fun z hz=>by rw[List.mem_singleton.1 hz];exact hx) h
 have h2:=a9p h1
 have h3:(doR (barrier (doR st [x]).2).2 [y]).2.good (k+1+1+1):=c0m (ws:=[y]) (fun z hz=>by rw[List.mem_singleton.1 hz];exact hy) h2
 unfold moveR
 split
 ·exact a0w h1 (by omega)
 ·split
  ·exact a0w h2 (by omega)
  ·exact a0w h3 (by omega)
theorem d0k{st:St}{k:Nat}(h:st.good k)(s:ByteArray)(kind:Int):(makeV st s kind).2.good (k+10):=by
 have h0:=a0w h (show k≤k+10 by omega)
 unfold makeV
 split
 ·exact h0
 ·split
  ·exact h0
  ·split
   ·exact a7u h _ (fun x hx=>by
     rcases List.mem_cons.1 hx with rfl|hx
     ·exact a2k rfl
     ·rw[List.mem_singleton.1 hx];exact a1i _) (by simp)
   ·exact h0
theorem c3s{st:St}{k:Nat}(h:st.good k)(s:ByteArray)(z:Int):(truncV st s z).2.good (k+10):=by
 have h0:=a0w h (show k≤k+10 by omega)
 have hs:=b6q h
 unfold truncV
 split
 ·exact h0
 ·split
  ·exact h0
  ·split
   ·exact h0
   ·rename_i hz _
    refine a7u h _ (fun x hx=>by
     rw[List.mem_singleton.1 hx]
     refine a2k ?_
     have h4:=a4k hs s
     have hn:need z.toNat≤4:=by
      by_cases he:(fileV (nowL st) s).2.2=0
      ·have h1:=(b2i hs s he).1
       have h2:=a3w (ss:=nowL st) (fileV (nowL st) s).1
       rw[← h1] at h2
       exact a5l (by omega)
      ·rename_i hne _
       exact absurd he (by assumption)
     show (cutB (fileV (nowL st) s).2.1.b (need z.toNat)).length=4
     unfold cutB
     rw[List.length_append,List.length_take,List.length_replicate,h4];omega) (by simp)
theorem c0w{st:St}{k:Nat}(h:st.good k)(s:ByteArray):(unlinkV st s).2.good (k+10):=by
 have h0:=a0w h (show k≤k+10 by omega)
 unfold unlinkV
 split
 ·exact h0
 ·split
  ·exact h0
  ·split
   ·exact h0
   ·exact a7u h _ (fun x hx=>by rw[List.mem_singleton.1 hx];exact a1i _) (by simp)
theorem c0p{st:St}{k:Nat}(h:st.good k)(s u:ByteArray):(renameV st s u).2.good (k+10):=by
 have h0:=a0w h (show k≤k+10 by omega)
 unfold renameV
 simp only
 repeat' split
 all_goals first
  | exact h0
  | exact c3o h _ _ (a1i _) (a1i _)
  | exact a7u h _ (fun x hx=>by rw[List.mem_singleton.1 hx];exact a1i _) (by simp)
theorem c4t{L:List (List Int)}{n:Int}{y:Ino}{had off:Nat}{b:List Int}:(blksW L n y had off b 4).length≤4:=by
 unfold blksW
 rw[List.length_map]
 exact Nat.le_trans (List.length_filter_le ..) (by simp)
theorem b0k{st:St}{k:Nat}(h:st.good k)(s:ByteArray)(off:Int)(b:List Int)(hb:∀z∈b,0≤z∧z<256):(writeFV st s off b).2.good (k+10):=by
 have h0:=a0w h (show k≤k+10 by omega)
 have hs:=b6q h
 unfold writeFV
 simp only
 split
 ·exact h0
 ·split
  ·exact h0
  ·split
   ·exact h0
   ·split
    ·exact h0
    ·rename_i g1 g2 g3 g4
     refine a7u h _ (fun x hx => ?_) ?_
     ·rcases List.mem_append.1 hx with hx|hx
      ·unfold blksW at hx
       obtain⟨i,_,rfl⟩:=List.mem_map.1 hx
       refine c1i ?_ hb _ _
       split
       ·exact b2o hs _
       ·exact a0i
      ·split at hx
       ·cases hx
       ·rw[List.mem_singleton.1 hx]
        refine a2k ?_
        have he:(fileV (nowL st) s).2.2=0:=Decidable.not_not.1 g1
        have h1:=(b2i hs s he).1
        have h2:=a3w (ss:=nowL st) (fileV (nowL st) s).1
        rw[← h1] at h2
        have h4:=a4k hs s
        have hB:blkB (nowL st) (((need (max (fileV (nowL st) s).2.1.size (off+b.length)).toNat:Nat):Int)-(need (fileV (nowL st) s).2.1.size.toNat:Nat))=true:=by simpa using g4
        have hn1:=a5l (z:=(max (fileV (nowL st) s).2.1.size (off+b.length)).toNat) (by omega)
        have hB2:=hB
        rw[blkB,decide_eq_true_eq] at hB2
        show ((fileV (nowL st) s).2.1.b.take (need (fileV (nowL st) s).2.1.size.toNat)++blkL (nowL st) _++(fileV (nowL st) s).2.1.b.drop (need (fileV (nowL st) s).2.1.size.toNat+(blkL (nowL st) _).length)).length=4
        rw[blkL,if_pos hB,List.length_append,List.length_append,List.length_take,List.length_drop,a2z,List.length_take,h4]
        omega
     ·rw[List.length_append]
      have:=c4t (L:=nowL st) (n:=(fileV (nowL st) s).1) (y:=grownI (fileV (nowL st) s).2.1 off.toNat b.length (blkL (nowL st) (((need (max (fileV (nowL st) s).2.1.size (off+b.length)).toNat:Nat):Int)-(need (fileV (nowL st) s).2.1.size.toNat:Nat)))) (had:=need (fileV (nowL st) s).2.1.size.toNat) (off:=off.toNat) (b:=b)
      split<;>simp<;>omega
theorem b6w{st:St}{k:Nat}(h:st.good k)(s:ByteArray)(b:List Int)(hb:∀z∈b,0≤z∧z<256):(appendV st s b).2.good (k+10):=by
 unfold appendV
 split
 ·exact a0w h (by omega)
 ·exact b0k h s _ b hb
theorem d3u{st:St}{k:Nat}(h:st.good k)(a:FAct)(hb:∀z∈a.b,0≤z∧z<256):(fDo st a).2.good (k+10):=by
 unfold fDo
 repeat' split
 all_goals first
  | exact d0k h _ _
  | exact b0k h _ _ _ hb
  | exact b6w h _ _ hb
  | exact c3s h _ _
  | exact c0p h _ _
  | exact c0w h _
  | exact a0w h (by omega)
structure AX where
 a:FAct
 p1:Option Addr
 n1:Nat
 c1:Nat
 p2:Option Addr
 n2:Nat
 c2:Nat
abbrev AX.c(x:AX):List Value:=[.int .i64 x.a.kind,.string x.a.p,.string x.a.q,.int .i64 x.a.n,.slice x.p1 x.n1 x.c1,.slice x.p2 x.n2 x.c2]
theorem d4j:(Tryz.prog.info? 33).map (·.size)=some 6:=by kernel_rfl
end fs
namespace fs
set_option maxRecDepth 100000
open Go.ChangeShapes Go.WideShapes Go.ChangeAt Go.RowKit
open rows
open sec
open dsk (wf64)
open ly
open pa
open lk
open al
structure AX.ok (W:World) (x:AX):Prop where
 kind:wf64 x.a.kind
 n:wf64 x.a.n
 p:x.a.p.size≤maxLen
 q:x.a.q.size≤maxLen
 bl:x.a.b.length=x.n1
 bm:x.n1≤maxLen
 bb:∀z∈x.a.b,0≤z∧z<256
 rd:Rd W 1 (.slice x.p1 x.n1 x.c1) x.n1 (x.a.b.map (Value.int .u8))
 fm:x.n2≤maxLen
 bad:Rd W 1 (.slice x.p2 x.n2 x.c2) x.n2 (i64s x.a.bad)
 bw:∀z∈x.a.bad,wf64 z
theorem cellsActF:Tryz.prog.cellsOf 33=6:=by kernel_rfl
theorem c2m:Tryz.prog.underlying 33=some (.struct (Tryz.prog.fieldsOf 33)):=by kernel_rfl
theorem b8z:(Tryz.prog.fieldsOf 33).toList.map (fun f=>(f.type,f.offset))=[(3,0),(9,1),(9,2),(3,3),(30,4),(31,5)]:=by kernel_rfl
theorem b5j:Tryz.prog.underlying 3=some (.int .i64):=by kernel_rfl
theorem und_u8F:Tryz.prog.underlying 5=some (.int .u8):=by kernel_rfl
theorem c3i:Tryz.prog.underlying 9=some .string:=by kernel_rfl
theorem und_bsF:Tryz.prog.underlying 30=some (.slice 5):=by kernel_rfl
theorem und_isF:Tryz.prog.underlying 31=some (.slice 3):=by kernel_rfl
theorem d0b:Tryz.prog.underlying 22=some (.slice 33):=by kernel_rfl
theorem cellsIntF:Tryz.prog.cellsOf 3=1:=by kernel_rfl
theorem cellsU8F:Tryz.prog.cellsOf 5=1:=by kernel_rfl
theorem cellsStrF:Tryz.prog.cellsOf 9=1:=by kernel_rfl
theorem cellsBsF:Tryz.prog.cellsOf 30=1:=by kernel_rfl
theorem cellsIsF:Tryz.prog.cellsOf 31=1:=by kernel_rfl
theorem wf_u8F{n:Int}(h:(Lit.int .u8 n).wf=true):0≤n∧n<256:=by
 have:0≤n∧n≤255:=by simpa [Lit.wf,IntKind.min,IntKind.max,IntKind.signed,IntKind.bits] using h
 omega
theorem a3o{α:Type}(cs:List α)(n m:Nat):(cs.drop n).take m++cs.drop (n+m)=cs.drop n:=by
 rw[← List.drop_drop,List.take_append_drop]
theorem d2m(l:List Int):(l.map fun a=>[Value.int .u8 a]).flatten=l.map (Value.int .u8):=by
 induction l with
 | nil=>rfl
 | cons a t ih=>simp at ih ⊢;exact ih
theorem c7r(l:List Int):(l.map fun a=>[Value.int .i64 a]).flatten=i64s l:=by
 induction l with
 | nil=>rfl
 | cons a t ih=>simp[i64s] at ih ⊢;exact ih
section
variable {H:Type} {enc:TypeId×Value→H} {W:World} {base:Nat} {spare:Nat→Bool} {held:Bool}
theorem c0f{T:TypeId}{fs:Array Field}(ht:Tryz.prog.underlying T=some (.struct fs)){L:List (TypeId×Nat)}(hL:fs.toList.map (fun f=>(f.type,f.offset))=L){fuel:Nat}{cs:List Value}{x:DataW H×List MemPlace}
  (h:DataW.trod enc Tryz.prog W base spare held fuel T cs=some x):cs.length=Tryz.prog.cellsOf T∧∀(i:Nat) (ty:TypeId) (off:Nat),L[i]? = some (ty,off)→∃n y,DataW.trod enc Tryz.prog W base spare held n ty ((cs.drop off).take (Tryz.prog.cellsOf ty))=some y:=by
 obtain⟨xs,n,_,_,hl,hx,hf⟩:=DataW.trod_struct ht h
 refine⟨hl,fun i ty off hi => ?_⟩
 rw[← hL,List.getElem?_map] at hi
 cases hq:fs[i]? with
 | none=>simp[hq] at hi
 | some f =>
  have h1:(f.type,f.offset)=(ty,off):=by simpa [hq] using hi
  have h2:=hf i f hq
  have hix:i<xs.length:=by rw[hx];exact(Array.getElem?_eq_some_iff.1 hq).1
  rw[List.getElem?_eq_getElem hix] at h2
  cases h1
  exact⟨n,_,h2⟩
theorem b4q{n:Nat}{cs:List Value}{x:DataW H×List MemPlace}(h:DataW.trod enc Tryz.prog W base spare held n 33 cs=some x):∃a:AX,a.ok W∧cs=a.c:=by
 obtain⟨hl,hf⟩:=c0f c2m b8z h
 rw[cellsActF] at hl
 obtain⟨_,_,h0⟩:=hf 0 _ _ rfl
 obtain⟨_,_,h1⟩:=hf 1 _ _ rfl
 obtain⟨_,_,h2⟩:=hf 2 _ _ rfl
 obtain⟨_,_,h3⟩:=hf 3 _ _ rfl
 obtain⟨_,_,h4⟩:=hf 4 _ _ rfl
 obtain⟨_,_,h5⟩:=hf 5 _ _ rfl
 rw[cellsIntF] at h0 h3
 rw[cellsStrF] at h1 h2
 rw[cellsBsF] at h4
 rw[cellsIsF] at h5
 obtain⟨kd,e0,_,wkd⟩:=DataW.trod_int b5j h0
 obtain⟨s,e1,_,ws⟩:=DataW.trod_string c3i h1
 obtain⟨u,e2,_,wu⟩:=DataW.trod_string c3i h2
 obtain⟨z,e3,_,wz⟩:=DataW.trod_int b5j h3
 obtain⟨p4,l4,c4,bs,e4,hg4,hl4,hr4,hm4⟩:=open_slice (fun a:Int=>[Value.int .u8 a]) (by decide) und_bsF cellsU8F (fun a:Int=>0≤a∧a<256) (fun _ _=>rfl) (fun _ _ _ h=>by
  obtain⟨a,ha,_,wa⟩:=DataW.trod_int und_u8F h
  exact⟨a,wf_u8F wa,ha⟩) h4
 obtain⟨p5,l5,c5,zs,e5,hg5,hl5,hr5,hm5⟩:=open_slice (fun a:Int=>[Value.int .i64 a]) (by decide) und_isF cellsIntF wf64 (fun _ _=>rfl) (fun _ _ _ h=>by
  obtain⟨a,ha,_,wa⟩:=DataW.trod_int b5j h
  exact⟨a,wa,ha⟩) h5
 rw[d2m] at hr4
 rw[c7r] at hr5
 refine⟨⟨⟨kd,s,u,z,bs,zs⟩,p4,l4,c4,p5,l5,c5⟩,⟨wkd,wz,ws,wu,hl4,hm4,hg4,hr4,hm5,hr5,hg5⟩,?_⟩
 have q0:=a3o cs 0 1
 have q1:=a3o cs 1 1
 have q2:=a3o cs 2 1
 have q3:=a3o cs 3 1
 have q4:=a3o cs 4 1
 have q5:=a3o cs 5 1
 rw[e0] at q0
 rw[e1] at q1
 rw[e2] at q2
 rw[e3] at q3
 rw[e4] at q4
 rw[e5,List.drop_of_length_le (i:=5+1) (by omega),List.append_nil] at q5
 simp only[Nat.reduceAdd] at q0 q1 q2 q3 q4
 rw[List.drop_zero,← q1,← q2,← q3,← q4,← q5] at q0
 rw[← q0]
 rfl
theorem b4r{p:Option Addr}{len cap:Nat}{d:DataW H}{ps:List MemPlace}
  (h:DataW.Trod enc Tryz.prog W 0 (fun _=>true) true 22 (.slice p len cap) d ps):∃l:List AX,(∀a∈l,a.ok W)∧l.length=len∧Rd W 6 (.slice p len cap) len ((l.map AX.c).flatten)∧len≤maxLen:=by
 obtain⟨fuel,hf⟩:=h
 obtain⟨p',len',cap',l,hcs,hg,hl,hr,hm⟩:=open_slice AX.c (by decide) d0b cellsActF (fun a=>a.ok W) (fun a ha=>rfl) (fun _ _ _ h=>b4q h) hf
 simp[Value.cells] at hcs
 obtain⟨rfl,rfl,rfl⟩:=hcs
 exact⟨l,hg,hl,hr,hm⟩
end
def AX.light(x:AX):Prop:=x.a.p.size≤100∧x.a.q.size≤100∧x.n1≤300∧x.n2≤30
theorem AX.actIn{W:World}{x:AX}(h:x.ok W)(hl:x.light):ActIn W x.a (.slice x.p1 x.n1 x.c1) (.slice x.p2 x.n2 x.c2) :=
 ⟨h.kind,h.n,hl.1,hl.2.1,by rw[h.bl];exact hl.2.2.1,h.bb,by rw[h.bl];exact h.rd⟩
def FLightPost(n m:Nat)(l:List AX)(w:World)(e:Ending)(w':World):Prop:=∃b:Bool,e = .returned (.bool b)∧w=w'∧(b=true→n≤m∧∀a∈l,a.light)
theorem d4l{w:World}{x:AX}{b o:Nat}(hr:w.rangeAt b o x.c):w.cell? ⟨b,o+1,none⟩=some (.string x.a.p)∧w.cell? ⟨b,o+2,none⟩=some (.string x.a.q)∧w.cell? ⟨b,o+4,none⟩=some (.slice x.p1 x.n1 x.c1)∧w.cell? ⟨b,o+5,none⟩=some (.slice x.p2 x.n2 x.c2) :=
 ⟨hr 1 _ rfl,hr 2 _ rfl,hr 4 _ rfl,hr 5 _ rfl⟩
set_option maxHeartbeats 1600000 in
theorem c4w{W:World}(p:Option Addr)(n c m:Nat)(l:List AX)(w:World)(hm0:m≤99)(hw:Below W.heap.size W w)(hg:∀a∈l,a.ok W)(hr:Rd W 6 (.slice p n c) n ((l.map AX.c).flatten))(hm:n≤maxLen) :
  Calls Tryz.prog 5 #[.slice p n c,.int .i64 (m:Int)] w (FLightPost n m l w):=by
 have hle:∀a∈l,a.c.length=6:=fun a ha=>rfl
 have HZ:Hid (l.length=n):=ι (dsk.Rd.count AX.c hr hle (by decide))
 have HR:=ι hr
 have HLE:=ι hle
 have HG:=ι hg
 have hm2:(n:Int)≤9223372036854775807:=by unfold maxLen at hm;omega
 clear hr hle hg
 go_enter Tryz.func5,Tryz.ntmps5
 go_wp2
 go_loop [5] (fun iv=>∃(j:Nat),j≤n∧j≤100∧Hid (∀i (h:i<l.length),i<j→l[i].light)∧iv = .int .i64 (j:Int)) (fun iv=>n-(intOf iv).toNat)
 case atStart=>exact⟨0,by omega,by omega,ι (fun _ _ h=>by omega),rfl⟩
 case round =>
  obtain⟨j,hj,hj2,HL,rfl⟩:=hrel
  by_cases ha:j<n
  ·have ha1:(j:Int)<n:=by omega
   by_cases hb:j<100
   ·have hb1:decide ((j:Int)<100)=true:=by simp;omega
    have hjl:j<l.length:=by rw[HZ.out];exact ha
    obtain⟨b1,o1,rfl,hc1,hm1,hh1,hl1,HR1⟩:=dsk.Rd.chunk AX.c HR.out HLE.out (by decide) ha
    have hok:=HG.out _ (List.getElem_mem hjl)
    obtain⟨hP,hQ,hB,hF⟩:=d4l (Rd.rangeLater (HR1 j hjl) hh1 hw)
    have HLL:Hid (l[j].light→∀i (h:i<l.length),i<j+1→l[i].light):=ι (fun hq i h hi=>by
     rcases Nat.lt_or_ge i j with h1|h1
     ·exact HL.out i h h1
     ·obtain rfl:i=j:=by omega
      exact hq)
    obtain⟨x,hx⟩:∃x,l[j]=x:=⟨_,rfl⟩
    rw[hx] at hP hQ hB hF hok
    have HX:=ι hx
    clear hx HR1 hl1
    obtain⟨⟨kd,s,u,z,bs,zs⟩,p1,n1,c1,p2,n2,c2⟩:=x
    have m1:s.size≤maxLen:=hok.p
    have m2:u.size≤maxLen:=hok.q
    have m3:n1≤maxLen:=hok.bm
    have m4:n2≤maxLen:=hok.fm
    clear hok
    unfold maxLen at m1 m2 m3 m4
    simp only[] at hP hQ hB hF
    by_cases h1:s.size≤100
    ·have d1:decide ((100:Int)<s.size)=false:=by simp;omega
     by_cases h2:u.size≤100
     ·have d2:decide ((100:Int)<u.size)=false:=by simp;omega
      by_cases h3:n1≤300
      ·have d3:decide ((300:Int)<n1)=false:=by simp;omega
       by_cases h4:n2≤30
       ·have d4:decide ((30:Int)<n2)=false:=by simp;omega
        go_wp2_with fail
        go_round
        case rel=>exact⟨j+1,by omega,by omega,ι (HLL.out (by rw[HX.out];exact⟨h1,h2,h3,h4⟩)),by go_num⟩
        case measure=>simp[intOf];omega
       ·have d4:decide ((30:Int)<n2)=true:=by simp;omega
        go_wp2_with fail
        go_ret
        exact⟨false,rfl,rfl,by simp⟩
      ·have d3:decide ((300:Int)<n1)=true:=by simp;omega
       go_wp2_with fail
       go_ret
       exact⟨false,rfl,rfl,by simp⟩
     ·have d2:decide ((100:Int)<u.size)=true:=by simp;omega
      go_wp2_with fail
      go_ret
      exact⟨false,rfl,rfl,by simp⟩
    ·have d1:decide ((100:Int)<s.size)=true:=by simp;omega
     go_wp2_with fail
     go_ret
     exact⟨false,rfl,rfl,by simp⟩
   ·have hb1:decide ((j:Int)<100)=false:=by simp;omega
    have hn:decide ((n:Int)≤m)=false:=by simp;omega
    have hn2:decide (n≤m)=false:=by simp;omega
    go_wp2_with fail
    go_ret
    exact⟨false,rfl,rfl,by simp⟩
  ·by_cases hn:n≤m
   ·have hn1:decide ((n:Int)≤m)=true:=by simp;omega
    have hn2:decide (n≤m)=true:=by simp;omega
    go_wp2_with fail
    go_ret
    exact⟨true,rfl,rfl,fun _=>⟨hn,fun a ham=>by
     obtain⟨i,hi,rfl⟩:=List.getElem_of_mem ham
     exact HL.out i hi (by have:=HZ.out;omega)⟩⟩
   ·have hn1:decide ((n:Int)≤m)=false:=by simp;omega
    have hn2:decide (n≤m)=false:=by simp;omega
    go_wp2_with fail
    go_ret
    exact⟨false,rfl,rfl,by simp⟩
end fs
namespace fs
set_option maxRecDepth 100000
open Go.ChangeShapes Go.WideShapes Go.ChangeAt Go.RowKit
open rows
open sec
open dsk (grow St CA st0)
open ly
open pa
open lk
open al
structure SfsHas (FI:Value→World→(Nat→Prop)→Value→dsk.St→Prop):Prop where
 mount:∀(w:World) (F:Nat→Prop) (d:Value) (st:dsk.St) (k:Nat),CA w F d st→st.good k→k≤880→mountV st=0→Calls Tryz.prog 31 #[d] w fun e w'=>∃ad,e = .returned (.tuple #[.pointer (some ad),.int .i64 0])∧FI d w' (grow F w w') (.pointer (some ad)) st∧Below w.heap.size w w'
 disk:∀(d:Value) (w:World) (F:Nat→Prop) (f:Value) (st:dsk.St) (k:Nat),FI d w F f st→st.good k→k≤880→Calls Tryz.prog 16 #[f] w fun e w'=>e = .returned d∧w'=w
 code:∀(d:Value) (w:World) (F:Nat→Prop) (f:Value) (st:dsk.St),FI d w F f st→CA w F d st
theorem a7z:mountsB emptyImg=true:=by kernel_rfl
theorem b6k(ss:List (List Int)):nowL (st0 ss)=ss:=rfl
theorem c2q{ss:List (List Int)}(hs:Secs ss)(hl:ss.length≤65):(st0 ss).good 0 :=
 ⟨hs,hl,fun x hx=>(by cases hx),fun x hx=>(by cases hx),Nat.le_refl _,Nat.le_refl _,Nat.zero_le _,⟨Int.le_refl _,Int.le_refl _⟩,⟨Int.le_refl _,Int.le_refl _⟩⟩
end fs
end Go.Proofs.YtpnahagiojelbaaGreatDoor
