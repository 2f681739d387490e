/- What SfsPlays wants, part 33. -/
import Derived.Test.YtiaapfijbidgnaaGreatDoorSfsPlaysA
import Derived.Test.YtiaapfijbidgnaaGreatDoorSfsPlaysB
import Derived.Test.YtiaapfijbidgnaaGreatDoorSfsPlaysC
import Derived.Test.YtiaapfijbidgnaaGreatDoorSfsPlaysH
import Derived.Test.YtiaapfijbidgnaaGreatDoorSfsPlaysR
import Derived.Test.YtiaapfijbidgnaaGreatDoorSfsPlaysS
import Derived.Test.YtiaapfijbidgnaaGreatDoorSfsPlaysT
import Derived.Test.YtiaapfijbidgnaaGreatDoorSfsPlaysZ
set_option linter.unusedVariables false
set_option linter.unusedSimpArgs false
namespace Go.Proofs.YtiaapfijbidgnaaGreatDoor
namespace fs
set_option maxRecDepth 100000
open Go.ChangeShapes Go.WideShapes Go.ChangeAt Go.RowKit
open rows
open sec
open dsk (wf64 InS Keeps grow)
open ly
open pa
open lk
def FDone(FI:World→(Nat→Prop)→Value→dsk.St→Prop)(F:Nat→Prop)(f:Value)(w:World)(r:Int×dsk.St)(e:Ending)(w':World):Prop:=e = .returned (.int .i64 r.1)∧FI w' (grow F w w') f r.2∧dsk.Touch F w w'
structure SfsIs (FI:World→(Nat→Prop)→Value→dsk.St→Prop):Prop where
 kept:∀(w w':World) (F:Nat→Prop) (f:Value) (st:dsk.St),FI w F f st→Keeps F w w'→FI w' F f st
 mono:∀(w:World) (F G:Nat→Prop) (f:Value) (st:dsk.St),FI w F f st→(∀b,F b→G b)→FI w G f st
 read:∀(w:World) (F:Nat→Prop) (f:Value) (st:dsk.St) (k:Nat) (s:ByteArray),FI w F f st→st.good k→k≤880→Mx w→s.size≤100000→Calls Tryz.prog 31 #[f,.string s] w fun e w'=>∃p n c,e = .returned (.tuple #[.slice p n c,.int .i64 (readV (nowL st) s).2])∧n=(readV (nowL st) s).1.length∧Rd w' 1 (.slice p n c) n ((readV (nowL st) s).1.map (Value.int .u8))∧Below w.heap.size w w'
 exist:∀(w:World) (F:Nat→Prop) (f:Value) (st:dsk.St) (k:Nat) (s:ByteArray),FI w F f st→st.good k→k≤880→Mx w→s.size≤100000→Calls Tryz.prog 54 #[f,.string s] w (Rt w (.bool (decide ((lookV (nowL st) (bys s)).2=0))))
 create:∀(w:World) (F:Nat→Prop) (f:Value) (st:dsk.St) (k:Nat) (s:ByteArray),FI w F f st→st.good k→k≤880→Mx w→s.size≤100000→Calls Tryz.prog 51 #[f,.string s] w (FDone FI F f w (makeV st s 1))
 mkdir:∀(w:World) (F:Nat→Prop) (f:Value) (st:dsk.St) (k:Nat) (s:ByteArray),FI w F f st→st.good k→k≤880→Mx w→s.size≤100000→Calls Tryz.prog 77 #[f,.string s] w (FDone FI F f w (makeV st s 2))
 write:∀(w:World) (F:Nat→Prop) (f:Value) (st:dsk.St) (k:Nat) (s:ByteArray) (off:Int) (p:Option Addr) (m c:Nat) (b:List Int),FI w F f st→st.good k→k≤880→Mx w→s.size≤100000→wf64 off→Rd w 1 (.slice p m c) m (b.map (Value.int .u8))→InS (fun x=>¬F x) (.slice p m c)→m≤300→(∀x∈b,0≤x∧x<256)→Calls Tryz.prog 52 #[f,.string s,.int .i64 off,.slice p m c] w (FDone FI F f w (writeFV st s off b))
 append:∀(w:World) (F:Nat→Prop) (f:Value) (st:dsk.St) (k:Nat) (s:ByteArray) (p:Option Addr) (m c:Nat) (b:List Int),FI w F f st→st.good k→k≤880→Mx w→s.size≤100000→Rd w 1 (.slice p m c) m (b.map (Value.int .u8))→InS (fun x=>¬F x) (.slice p m c)→m≤300→(∀x∈b,0≤x∧x<256)→Calls Tryz.prog 78 #[f,.string s,.slice p m c] w (FDone FI F f w (appendV st s b))
 trunc:∀(w:World) (F:Nat→Prop) (f:Value) (st:dsk.St) (k:Nat) (s:ByteArray) (z:Int),FI w F f st→st.good k→k≤880→Mx w→s.size≤100000→wf64 z→Calls Tryz.prog 79 #[f,.string s,.int .i64 z] w (FDone FI F f w (truncV st s z))
 rename:∀(w:World) (F:Nat→Prop) (f:Value) (st:dsk.St) (k:Nat) (s:ByteArray) (u:ByteArray),FI w F f st→st.good k→k≤880→Mx w→s.size≤100000→u.size≤100000→Calls Tryz.prog 32 #[f,.string s,.string u] w (FDone FI F f w (renameV st s u))
 unlink:∀(w:World) (F:Nat→Prop) (f:Value) (st:dsk.St) (k:Nat) (s:ByteArray),FI w F f st→st.good k→k≤880→Mx w→s.size≤100000→Calls Tryz.prog 55 #[f,.string s] w (FDone FI F f w (unlinkV st s))
theorem SfsIs.later{FI:World→(Nat→Prop)→Value→dsk.St→Prop}(C:SfsIs FI){w w':World}{F:Nat→Prop}{f:Value}{st:dsk.St}(h:FI w F f st)(hb:Below w.heap.size w w'):FI w' F f st :=
 C.kept _ _ _ _ _ h ⟨hb.size,fun k hk _=>hb.block k hk⟩
theorem d1l(z:Int)(w:World):Calls Tryz.prog 13 #[.int .i64 z] w fun e w'=>e = .returned (.int .i64 z)∧w'=w:=by
 go_enter Tryz.func13,Tryz.ntmps13
 go_wp2
 go_ret
 exact⟨rfl,rfl⟩
end fs
namespace fs
set_option maxRecDepth 100000
open Go.ChangeShapes Go.WideShapes Go.ChangeAt Go.RowKit
open rows
open sec
open dsk (InS)
open ly
open pa
open lk
theorem a3e{FI:World→(Nat→Prop)→Value→dsk.St→Prop}(C:SfsIs FI){F:Nat→Prop}{f:Value}{w w1:World}{r:Int×dsk.St}{e:Ending}{w':World}(hb:Below w.heap.size w w1)(h:FDone FI F f w1 r e w'):FDone FI F f w r e w':=by
 obtain⟨h1,h2,h3⟩:=h
 refine⟨h1,C.mono _ _ _ _ _ h2 fun b hb' => ?_,(dsk.Touch.of_below hb).trans h3⟩
 rcases hb' with h|h
 ·exact Or.inl h
 ·exact Or.inr ⟨Nat.le_trans hb.size h.1,h.2⟩
theorem c3r{FI:World→(Nat→Prop)→Value→dsk.St→Prop}(C:SfsIs FI){F:Nat→Prop}{f:Value}{st:dsk.St}{w w1:World}(h:FI w F f st)(hb:Below w.heap.size w w1)(r:Int):FDone FI F f w (r,st) (.returned (.int .i64 r)) w1 :=
 ⟨rfl,C.mono _ _ _ _ _ (C.later h hb) fun b hb=>Or.inl hb,dsk.Touch.of_below hb⟩
set_option maxRecDepth 100000 in
set_option maxHeartbeats 6400000 in
theorem ldo_any{FI:World→(Nat→Prop)→Value→dsk.St→Prop}(C:SfsIs FI)(w:World)(F:Nat→Prop)(f:Value)(st:dsk.St)(k:Nat)(hf:FI w F f st)(hg:st.good k)(hk:k≤880)(hm:Mx w)(a:FAct)(p1:Option Addr)(n1 c1:Nat)(p2:Option Addr)(n2 c2:Nat)(ha:ActIn w a (.slice p1 n1 c1) (.slice p2 n2 c2))(hin:InS (fun x=>¬F x) (.slice p1 n1 c1))(h7:a.kind≠7) :
  Calls Tryz.prog 22 #[f,.agg (actC a (.slice p1 n1 c1) (.slice p2 n2 c2))] w (FDone FI F f w (fDo st a)):=by
 have HF:=ι hf
 obtain⟨kd,pp,qq,nn,bb,bad⟩:=a
 have hbox:Hid (Below w.heap.size w (w.alloc (.cells #[.int .i64 kd,.string pp,.string qq,.int .i64 nn,.slice p1 n1 c1,.slice p2 n2 c2] 41))):=ι (a0b (Below.refl _ _) _)
 have HV:Hid (fDo st ⟨kd,pp,qq,nn,bb,bad⟩=if kd=0 then makeV st pp 1 else if kd=1 then makeV st pp 2 else if kd=2 then writeFV st pp nn bb else if kd=3 then appendV st pp bb else if kd=4 then truncV st pp nn else if kd=5 then renameV st pp qq else if kd=6 then unlinkV st pp else (0,st)):=ι rfl
 have hpz:=ha.p
 have hqz:=ha.q
 have hnw:=ha.n
 have hbl:=ha.bl
 have hbb:=ha.bb
 have hrl:n1=bb.length:=ha.rd.len
 simp only at hpz hqz hnw hbl hbb
 rw[← hrl] at hbl
 have R1:Hid (Rd (w.alloc (.cells #[.int .i64 kd,.string pp,.string qq,.int .i64 nn,.slice p1 n1 c1,.slice p2 n2 c2] 41)) 1 (.slice p1 n1 c1) n1 (bb.map (Value.int .u8))):=ι (by have:=ha.rd.later hbox.out;simp only at this;rw[← hrl] at this;exact this)
 have IN1:=ι hin
 have F1:=ι (C.later HF.out hbox.out)
 have M1:=ι (hm.later hbox.out)
 generalize hW:w.alloc (.cells #[.int .i64 kd,.string pp,.string qq,.int .i64 nn,.slice p1 n1 c1,.slice p2 n2 c2] 41)=W at *
 simp only at h7
 clear hf hm ha hin hrl
 by_cases h0:kd=0
 ·subst h0
  have HC:=ι (C.create W F f st k pp F1.out hg hk M1.out (by omega))
  rw[HV.out.trans (if_pos rfl)]
  clear HV
  subst hW
  go_enter Tryz.func22,Tryz.ntmps22
  go_wp2_with (go_at_call 51;refine HC.out.mono ?_;rintro e w2 hd;have D2:=ι (a3e C hbox.out hd);obtain⟨rfl,_⟩:=hd)
  go_ret
  exact D2.out
 have k0:(kd == 0)=false:=beq_eq_false_iff_ne.2 h0
 have HV:=ι (HV.out.trans (if_neg h0))
 by_cases h1:kd=1
 ·subst h1
  have HC:=ι (C.mkdir W F f st k pp F1.out hg hk M1.out (by omega))
  rw[HV.out.trans (if_pos rfl)]
  clear HV h0
  subst hW
  go_enter Tryz.func22,Tryz.ntmps22
  go_wp2_with (go_at_call 77;refine HC.out.mono ?_;rintro e w2 hd;have D2:=ι (a3e C hbox.out hd);obtain⟨rfl,_⟩:=hd)
  go_ret
  exact D2.out
 have k1:(kd == 1)=false:=beq_eq_false_iff_ne.2 h1
 have HV:=ι (HV.out.trans (if_neg h1))
 by_cases h2:kd=2
 ·subst h2
  have HC:=ι (C.write W F f st k pp nn p1 n1 c1 bb F1.out hg hk M1.out (by omega) hnw R1.out IN1.out hbl hbb)
  rw[HV.out.trans (if_pos rfl)]
  clear HV h0 h1
  subst hW
  go_enter Tryz.func22,Tryz.ntmps22
  go_wp2_with (go_at_call 52;refine HC.out.mono ?_;rintro e w2 hd;have D2:=ι (a3e C hbox.out hd);obtain⟨rfl,_⟩:=hd)
  go_ret
  exact D2.out
 have k2:(kd == 2)=false:=beq_eq_false_iff_ne.2 h2
 have HV:=ι (HV.out.trans (if_neg h2))
 by_cases h3:kd=3
 ·subst h3
  have HC:=ι (C.append W F f st k pp p1 n1 c1 bb F1.out hg hk M1.out (by omega) R1.out IN1.out hbl hbb)
  rw[HV.out.trans (if_pos rfl)]
  clear HV h0 h1 h2
  subst hW
  go_enter Tryz.func22,Tryz.ntmps22
  go_wp2_with (go_at_call 78;refine HC.out.mono ?_;rintro e w2 hd;have D2:=ι (a3e C hbox.out hd);obtain⟨rfl,_⟩:=hd)
  go_ret
  exact D2.out
 have k3:(kd == 3)=false:=beq_eq_false_iff_ne.2 h3
 have HV:=ι (HV.out.trans (if_neg h3))
 by_cases h4:kd=4
 ·subst h4
  have HC:=ι (C.trunc W F f st k pp nn F1.out hg hk M1.out (by omega) hnw)
  rw[HV.out.trans (if_pos rfl)]
  clear HV h0 h1 h2 h3
  subst hW
  go_enter Tryz.func22,Tryz.ntmps22
  go_wp2_with (go_at_call 79;refine HC.out.mono ?_;rintro e w2 hd;have D2:=ι (a3e C hbox.out hd);obtain⟨rfl,_⟩:=hd)
  go_ret
  exact D2.out
 have k4:(kd == 4)=false:=beq_eq_false_iff_ne.2 h4
 have HV:=ι (HV.out.trans (if_neg h4))
 by_cases h5:kd=5
 ·subst h5
  have HC:=ι (C.rename W F f st k pp qq F1.out hg hk M1.out (by omega) (by omega))
  rw[HV.out.trans (if_pos rfl)]
  clear HV h0 h1 h2 h3 h4
  subst hW
  go_enter Tryz.func22,Tryz.ntmps22
  go_wp2_with (go_at_call 32;refine HC.out.mono ?_;rintro e w2 hd;have D2:=ι (a3e C hbox.out hd);obtain⟨rfl,_⟩:=hd)
  go_ret
  exact D2.out
 have k5:(kd == 5)=false:=beq_eq_false_iff_ne.2 h5
 have HV:=ι (HV.out.trans (if_neg h5))
 by_cases h6:kd=6
 ·subst h6
  have HC:=ι (C.unlink W F f st k pp F1.out hg hk M1.out (by omega))
  rw[HV.out.trans (if_pos rfl)]
  clear HV h0 h1 h2 h3 h4 h5
  subst hW
  go_enter Tryz.func22,Tryz.ntmps22
  go_wp2_with (go_at_call 55;refine HC.out.mono ?_;rintro e w2 hd;have D2:=ι (a3e C hbox.out hd);obtain⟨rfl,_⟩:=hd)
  go_ret
  exact D2.out
 have k6:(kd == 6)=false:=beq_eq_false_iff_ne.2 h6
 have HV:=ι (HV.out.trans (if_neg h6))
 rw[HV.out]
 have k7:(kd == 7)=false:=beq_eq_false_iff_ne.2 h7
 clear HV h0 h1 h2 h3 h4 h5 h6 h7
 subst hW
 go_enter Tryz.func22,Tryz.ntmps22
 go_wp2_with fail
 go_ret
 exact c3r C HF.out hbox.out _
end fs
namespace fs
set_option maxRecDepth 100000
open Go.ChangeShapes Go.WideShapes Go.ChangeAt Go.RowKit
open rows
open sec
open dsk (St Wr barrier)
open ly
open pa
open lk
open al
theorem a2e{st:St}{k m:Nat}(h:st.good k)(hm:k≤m):st.good m :=
 ⟨h.ss,h.n1,h.ws,h.es,Nat.le_trans h.wn hm,Nat.le_trans h.ln hm,h.bn,⟨h.ep.1,by have:=h.ep.2;omega⟩,⟨h.asked.1,by have:=h.asked.2;omega⟩⟩
theorem a7u{st:St}{k:Nat}(h:st.good k)(ws:List Wr)(hw:∀x∈ws,Sec x.s)(hl:ws.length≤5):(doR st ws).2.good (k+10):=a2e (a8o hw h) (by omega)
theorem b6v{st:St}{k:Nat}(h:st.good k):(barrier st).2.good (k+1):=by
 unfold barrier
 split
 ·exact⟨h.ss,h.n1,h.ws,h.es,by have:=h.wn;show st.wait.length≤k+1;omega,by have:=h.ln;show st.log.length≤k+1;omega,h.bn,⟨h.ep.1,by have:=h.ep.2;show st.ep≤((k+1:Nat):Int);omega⟩,⟨by have:=h.asked.1;show 0≤st.asked+1;omega,by have:=h.asked.2;show st.asked+1≤((k+1:Nat):Int);omega⟩⟩
 ·refine⟨h.ss,h.n1,h.ws,fun e he => ?_,by have:=h.wn;show st.wait.length≤k+1;omega,by have:=h.ln;simp;omega,h.bn,⟨by have:=h.ep.1;show 0≤st.ep+1;omega,by have:=h.ep.2;show st.ep+1≤((k+1:Nat):Int);omega⟩,⟨by have:=h.asked.1;show 0≤st.asked+1;omega,by have:=h.asked.2;show st.asked+1≤((k+1:Nat):Int);omega⟩⟩
  rcases List.mem_append.1 he with he|he
  ·exact h.es e he
  ·rw[List.mem_singleton.1 he];exact⟨by show Sec dsk.w0.s;exact a0p,by simp⟩
theorem c2m{st:St}{k:Nat}(h:st.good k)(x y:Wr)(hx:Sec x.s)(hy:Sec y.s):(moveR st x y).2.good (k+10):=by
 have h1:(doR st [x]).2.good (k+1):=a8o (ws:=[x]) (fun z hz=>by rw[List.mem_singleton.1 hz];exact hx) h
 have h2:=b6v h1
 have h3:(doR (barrier (doR st [x]).2).2 [y]).2.good (k+1+1+1):=a8o (ws:=[y]) (fun z hz=>by rw[List.mem_singleton.1 hz];exact hy) h2
 unfold moveR
 split
 ·exact a2e h1 (by omega)
 ·split
  ·exact a2e h2 (by omega)
  ·exact a2e h3 (by omega)
theorem b1n{st:St}{k:Nat}(h:st.good k)(s:ByteArray)(kind:Int):(makeV st s kind).2.good (k+10):=by
 have h0:=a2e h (show k≤k+10 by omega)
 unfold makeV
 split
 ·exact h0
 ·split
  ·exact h0
  ·split
   ·exact a7u h _ (fun x hx=>by
     rcases List.mem_cons.1 hx with rfl|hx
     ·exact a3p rfl
     ·rw[List.mem_singleton.1 hx];exact a1x _) (by simp)
   ·exact h0
theorem c3p{st:St}{k:Nat}(h:st.good k)(s:ByteArray)(z:Int):(truncV st s z).2.good (k+10):=by
 have h0:=a2e h (show k≤k+10 by omega)
 have hs:=a3t h
 unfold truncV
 split
 ·exact h0
 ·split
  ·exact h0
  ·split
   ·exact h0
   ·rename_i hz _
    refine a7u h _ (fun x hx=>by
     rw[List.mem_singleton.1 hx]
     refine a3p ?_
     have h4:=a2j hs s
     have hn:need z.toNat≤4:=by
      by_cases he:(fileV (nowL st) s).2.2=0
      ·have h1:=(a6b hs s he).1
       have h2:=b6z (ss:=nowL st) (fileV (nowL st) s).1
       rw[← h1] at h2
       exact a5i (by omega)
      ·rename_i hne _
       exact absurd he (by assumption)
     show (cutB (fileV (nowL st) s).2.1.b (need z.toNat)).length=4
     unfold cutB
     rw[List.length_append,List.length_take,List.length_replicate,h4];omega) (by simp)
theorem b8w{st:St}{k:Nat}(h:st.good k)(s:ByteArray):(unlinkV st s).2.good (k+10):=by
 have h0:=a2e h (show k≤k+10 by omega)
 unfold unlinkV
 split
 ·exact h0
 ·split
  ·exact h0
  ·split
   ·exact h0
   ·exact a7u h _ (fun x hx=>by rw[List.mem_singleton.1 hx];exact a1x _) (by simp)
theorem b8d{st:St}{k:Nat}(h:st.good k)(s u:ByteArray):(renameV st s u).2.good (k+10):=by
 have h0:=a2e h (show k≤k+10 by omega)
 unfold renameV
 simp only
 repeat' split
 all_goals first
  | exact h0
  | exact c2m h _ _ (a1x _) (a1x _)
  | exact a7u h _ (fun x hx=>by rw[List.mem_singleton.1 hx];exact a1x _) (by simp)
theorem c2a{L:List (List Int)}{n:Int}{y:Ino}{had off:Nat}{b:List Int}:(blksW L n y had off b 4).length≤4:=by
 unfold blksW
 rw[List.length_map]
 exact Nat.le_trans (List.length_filter_le ..) (by simp)
theorem a7c{st:St}{k:Nat}(h:st.good k)(s:ByteArray)(off:Int)(b:List Int)(hb:∀z∈b,0≤z∧z<256):(writeFV st s off b).2.good (k+10):=by
 have h0:=a2e h (show k≤k+10 by omega)
 have hs:=a3t h
 unfold writeFV
 simp only
 split
 ·exact h0
 ·split
  ·exact h0
  ·split
   ·exact h0
   ·split
    ·exact h0
    ·rename_i g1 g2 g3 g4
     refine a7u h _ (fun x hx => ?_) ?_
     ·rcases List.mem_append.1 hx with hx|hx
      ·unfold blksW at hx
       obtain⟨i,_,rfl⟩:=List.mem_map.1 hx
       refine c9p ?_ hb _ _
       split
       ·exact b2h hs _
       ·exact a0p
      ·split at hx
       ·cases hx
       ·rw[List.mem_singleton.1 hx]
        refine a3p ?_
        have he:(fileV (nowL st) s).2.2=0:=Decidable.not_not.1 g1
        have h1:=(a6b hs s he).1
        have h2:=b6z (ss:=nowL st) (fileV (nowL st) s).1
        rw[← h1] at h2
        have h4:=a2j hs s
        have hB:blkB (nowL st) (((need (max (fileV (nowL st) s).2.1.size (off+b.length)).toNat:Nat):Int)-(need (fileV (nowL st) s).2.1.size.toNat:Nat))=true:=by simpa using g4
        have hn1:=a5i (z:=(max (fileV (nowL st) s).2.1.size (off+b.length)).toNat) (by omega)
        have hB2:=hB
        rw[blkB,decide_eq_true_eq] at hB2
        show ((fileV (nowL st) s).2.1.b.take (need (fileV (nowL st) s).2.1.size.toNat)++blkL (nowL st) _++(fileV (nowL st) s).2.1.b.drop (need (fileV (nowL st) s).2.1.size.toNat+(blkL (nowL st) _).length)).length=4
        rw[blkL,if_pos hB,List.length_append,List.length_append,List.length_take,List.length_drop,a3a,List.length_take,h4]
        omega
     ·rw[List.length_append]
      have:=c2a (L:=nowL st) (n:=(fileV (nowL st) s).1) (y:=grownI (fileV (nowL st) s).2.1 off.toNat b.length (blkL (nowL st) (((need (max (fileV (nowL st) s).2.1.size (off+b.length)).toNat:Nat):Int)-(need (fileV (nowL st) s).2.1.size.toNat:Nat)))) (had:=need (fileV (nowL st) s).2.1.size.toNat) (off:=off.toNat) (b:=b)
      split<;>simp<;>omega
theorem b5w{st:St}{k:Nat}(h:st.good k)(s:ByteArray)(b:List Int)(hb:∀z∈b,0≤z∧z<256):(appendV st s b).2.good (k+10):=by
 unfold appendV
 split
 ·exact a2e h (by omega)
 ·exact a7c h s _ b hb
theorem d1k{st:St}{k:Nat}(h:st.good k)(a:FAct)(hb:∀z∈a.b,0≤z∧z<256):(fDo st a).2.good (k+10):=by
 unfold fDo
 repeat' split
 all_goals first
  | exact b1n h _ _
  | exact a7c h _ _ _ hb
  | exact b5w h _ _ hb
  | exact c3p h _ _
  | exact b8d h _ _
  | exact b8w h _
  | exact a2e h (by omega)
structure AX where
 a:FAct
 p1:Option Addr
 n1:Nat
 c1:Nat
 p2:Option Addr
 n2:Nat
 c2:Nat
abbrev AX.c(x:AX):List Value:=[.int .i64 x.a.kind,.string x.a.p,.string x.a.q,.int .i64 x.a.n,.slice x.p1 x.n1 x.c1,.slice x.p2 x.n2 x.c2]
theorem c1s:(Tryz.prog.info? 41).map (·.size)=some 6:=by kernel_rfl
end fs
namespace fs
set_option maxRecDepth 100000
open Go.ChangeShapes Go.WideShapes Go.ChangeAt Go.RowKit
open rows
open sec
open dsk (wf64)
open ly
open pa
open lk
open al
structure AX.ok (W:World) (x:AX):Prop where
 kind:wf64 x.a.kind
 n:wf64 x.a.n
 p:x.a.p.size≤maxLen
 q:x.a.q.size≤maxLen
 bl:x.a.b.length=x.n1
 bm:x.n1≤maxLen
 bb:∀z∈x.a.b,0≤z∧z<256
 rd:Rd W 1 (.slice x.p1 x.n1 x.c1) x.n1 (x.a.b.map (Value.int .u8))
 fm:x.n2≤maxLen
 bad:Rd W 1 (.slice x.p2 x.n2 x.c2) x.n2 (i64s x.a.bad)
 bw:∀z∈x.a.bad,wf64 z
theorem cellsActF:Tryz.prog.cellsOf 41=6:=by kernel_rfl
theorem b4d:Tryz.prog.underlying 41=some (.struct (Tryz.prog.fieldsOf 41)):=by kernel_rfl
theorem b9a:(Tryz.prog.fieldsOf 41).toList.map (fun f=>(f.type,f.offset))=[(3,0),(9,1),(9,2),(3,3),(38,4),(39,5)]:=by kernel_rfl
theorem b4f:Tryz.prog.underlying 3=some (.int .i64):=by kernel_rfl
theorem c4w:Tryz.prog.underlying 5=some (.int .u8):=by kernel_rfl
theorem a9z:Tryz.prog.underlying 9=some .string:=by kernel_rfl
theorem c8j:Tryz.prog.underlying 38=some (.slice 5):=by kernel_rfl
theorem und_isF:Tryz.prog.underlying 39=some (.slice 3):=by kernel_rfl
theorem c6i:Tryz.prog.underlying 23=some (.slice 41):=by kernel_rfl
theorem cellsIntF:Tryz.prog.cellsOf 3=1:=by kernel_rfl
theorem cellsU8F:Tryz.prog.cellsOf 5=1:=by kernel_rfl
theorem cellsStrF:Tryz.prog.cellsOf 9=1:=by kernel_rfl
theorem cellsBsF:Tryz.prog.cellsOf 38=1:=by kernel_rfl
theorem cellsIsF:Tryz.prog.cellsOf 39=1:=by kernel_rfl
theorem wf_u8F{n:Int}(h:(Lit.int .u8 n).wf=true):0≤n∧n<256:=by
 have:0≤n∧n≤255:=by simpa [Lit.wf,IntKind.min,IntKind.max,IntKind.signed,IntKind.bits] using h
 omega
theorem a4a{α:Type}(cs:List α)(n m:Nat):(cs.drop n).take m++cs.drop (n+m)=cs.drop n:=by
 rw[← List.drop_drop,List.take_append_drop]
theorem c8w(l:List Int):(l.map fun a=>[Value.int .u8 a]).flatten=l.map (Value.int .u8):=by
 induction l with
 | nil=>rfl
 | cons a t ih=>simp at ih ⊢;exact ih
theorem c7z(l:List Int):(l.map fun a=>[Value.int .i64 a]).flatten=i64s l:=by
 induction l with
 | nil=>rfl
 | cons a t ih=>simp[i64s] at ih ⊢;exact ih
section
variable {H:Type} {enc:TypeId×Value→H} {W:World} {base:Nat} {spare:Nat→Bool} {held:Bool}
theorem b9q{T:TypeId}{fs:Array Field}(ht:Tryz.prog.underlying T=some (.struct fs)){L:List (TypeId×Nat)}(hL:fs.toList.map (fun f=>(f.type,f.offset))=L){fuel:Nat}{cs:List Value}{x:DataW H×List MemPlace}
  (h:DataW.trod enc Tryz.prog W base spare held fuel T cs=some x):cs.length=Tryz.prog.cellsOf T∧∀(i:Nat) (ty:TypeId) (off:Nat),L[i]? = some (ty,off)→∃n y,DataW.trod enc Tryz.prog W base spare held n ty ((cs.drop off).take (Tryz.prog.cellsOf ty))=some y:=by
 obtain⟨xs,n,_,_,hl,hx,hf⟩:=DataW.trod_struct ht h
 refine⟨hl,fun i ty off hi => ?_⟩
 rw[← hL,List.getElem?_map] at hi
 cases hq:fs[i]? with
 | none=>simp[hq] at hi
 | some f =>
  have h1:(f.type,f.offset)=(ty,off):=by simpa [hq] using hi
  have h2:=hf i f hq
  have hix:i<xs.length:=by rw[hx];exact(Array.getElem?_eq_some_iff.1 hq).1
  rw[List.getElem?_eq_getElem hix] at h2
  cases h1
  exact⟨n,_,h2⟩
theorem b3o{n:Nat}{cs:List Value}{x:DataW H×List MemPlace}(h:DataW.trod enc Tryz.prog W base spare held n 41 cs=some x):∃a:AX,a.ok W∧cs=a.c:=by
 obtain⟨hl,hf⟩:=b9q b4d b9a h
 rw[cellsActF] at hl
 obtain⟨_,_,h0⟩:=hf 0 _ _ rfl
 obtain⟨_,_,h1⟩:=hf 1 _ _ rfl
 obtain⟨_,_,h2⟩:=hf 2 _ _ rfl
 obtain⟨_,_,h3⟩:=hf 3 _ _ rfl
 obtain⟨_,_,h4⟩:=hf 4 _ _ rfl
 obtain⟨_,_,h5⟩:=hf 5 _ _ rfl
 rw[cellsIntF] at h0 h3
 rw[cellsStrF] at h1 h2
 rw[cellsBsF] at h4
 rw[cellsIsF] at h5
 obtain⟨kd,e0,_,wkd⟩:=DataW.trod_int b4f h0
 obtain⟨s,e1,_,ws⟩:=DataW.trod_string a9z h1
 obtain⟨u,e2,_,wu⟩:=DataW.trod_string a9z h2
 obtain⟨z,e3,_,wz⟩:=DataW.trod_int b4f h3
 obtain⟨p4,l4,c4,bs,e4,hg4,hl4,hr4,hm4⟩:=open_slice (fun a:Int=>[Value.int .u8 a]) (by decide) c8j cellsU8F (fun a:Int=>0≤a∧a<256) (fun _ _=>rfl) (fun _ _ _ h=>by
  obtain⟨a,ha,_,wa⟩:=DataW.trod_int c4w h
  exact⟨a,wf_u8F wa,ha⟩) h4
 obtain⟨p5,l5,c5,zs,e5,hg5,hl5,hr5,hm5⟩:=open_slice (fun a:Int=>[Value.int .i64 a]) (by decide) und_isF cellsIntF wf64 (fun _ _=>rfl) (fun _ _ _ h=>by
  obtain⟨a,ha,_,wa⟩:=DataW.trod_int b4f h
  exact⟨a,wa,ha⟩) h5
 rw[c8w] at hr4
 rw[c7z] at hr5
 refine⟨⟨⟨kd,s,u,z,bs,zs⟩,p4,l4,c4,p5,l5,c5⟩,⟨wkd,wz,ws,wu,hl4,hm4,hg4,hr4,hm5,hr5,hg5⟩,?_⟩
 have q0:=a4a cs 0 1
 have q1:=a4a cs 1 1
 have q2:=a4a cs 2 1
 have q3:=a4a cs 3 1
 have q4:=a4a cs 4 1
 have q5:=a4a cs 5 1
 rw[e0] at q0
 rw[e1] at q1
 rw[e2] at q2
 rw[e3] at q3
 rw[e4] at q4
 rw[e5,List.drop_of_length_le (i:=5+1) (by omega),List.append_nil] at q5
 simp only[Nat.reduceAdd] at q0 q1 q2 q3 q4
 rw[List.drop_zero,← q1,← q2,← q3,← q4,← q5] at q0
 rw[← q0]
 rfl
theorem b3t{p:Option Addr}{len cap:Nat}{d:DataW H}{ps:List MemPlace}
  (h:DataW.Trod enc Tryz.prog W 0 (fun _=>true) true 23 (.slice p len cap) d ps):∃l:List AX,(∀a∈l,a.ok W)∧l.length=len∧Rd W 6 (.slice p len cap) len ((l.map AX.c).flatten)∧len≤maxLen:=by
 obtain⟨fuel,hf⟩:=h
 obtain⟨p',len',cap',l,hcs,hg,hl,hr,hm⟩:=open_slice AX.c (by decide) c6i cellsActF (fun a=>a.ok W) (fun a ha=>rfl) (fun _ _ _ h=>b3o h) hf
 simp[Value.cells] at hcs
 obtain⟨rfl,rfl,rfl⟩:=hcs
 exact⟨l,hg,hl,hr,hm⟩
end
def AX.light(x:AX):Prop:=x.a.p.size≤100∧x.a.q.size≤100∧x.n1≤300∧x.n2≤30
theorem AX.actIn{W:World}{x:AX}(h:x.ok W)(hl:x.light):ActIn W x.a (.slice x.p1 x.n1 x.c1) (.slice x.p2 x.n2 x.c2) :=
 ⟨h.kind,h.n,hl.1,hl.2.1,by rw[h.bl];exact hl.2.2.1,h.bb,by rw[h.bl];exact h.rd⟩
def FLightPost(n m:Nat)(l:List AX)(w:World)(e:Ending)(w':World):Prop:=∃b:Bool,e = .returned (.bool b)∧w=w'∧(b=true→n≤m∧∀a∈l,a.light)
theorem d0x{w:World}{x:AX}{b o:Nat}(hr:w.rangeAt b o x.c):w.cell? ⟨b,o+1,none⟩=some (.string x.a.p)∧w.cell? ⟨b,o+2,none⟩=some (.string x.a.q)∧w.cell? ⟨b,o+4,none⟩=some (.slice x.p1 x.n1 x.c1)∧w.cell? ⟨b,o+5,none⟩=some (.slice x.p2 x.n2 x.c2) :=
 ⟨hr 1 _ rfl,hr 2 _ rfl,hr 4 _ rfl,hr 5 _ rfl⟩
set_option maxHeartbeats 1600000 in
theorem c3u{W:World}(p:Option Addr)(n c m:Nat)(l:List AX)(w:World)(hm0:m≤99)(hw:Below W.heap.size W w)(hg:∀a∈l,a.ok W)(hr:Rd W 6 (.slice p n c) n ((l.map AX.c).flatten))(hm:n≤maxLen) :
  Calls Tryz.prog 7 #[.slice p n c,.int .i64 (m:Int)] w (FLightPost n m l w):=by
 have hle:∀a∈l,a.c.length=6:=fun a ha=>rfl
 have HZ:Hid (l.length=n):=ι (dsk.Rd.count AX.c hr hle (by decide))
 have HR:=ι hr
 have HLE:=ι hle
 have HG:=ι hg
 have hm2:(n:Int)≤9223372036854775807:=by unfold maxLen at hm;omega
 clear hr hle hg
 go_enter Tryz.func7,Tryz.ntmps7
 go_wp2
 go_loop [5] (fun iv=>∃(j:Nat),j≤n∧j≤100∧Hid (∀i (h:i<l.length),i<j→l[i].light)∧iv = .int .i64 (j:Int)) (fun iv=>n-(intOf iv).toNat)
 case atStart=>exact⟨0,by omega,by omega,ι (fun _ _ h=>by omega),rfl⟩
 case round =>
  obtain⟨j,hj,hj2,HL,rfl⟩:=hrel
  by_cases ha:j<n
  ·have ha1:(j:Int)<n:=by omega
   by_cases hb:j<100
   ·have hb1:decide ((j:Int)<100)=true:=by simp;omega
    have hjl:j<l.length:=by rw[HZ.out];exact ha
    obtain⟨b1,o1,rfl,hc1,hm1,hh1,hl1,HR1⟩:=dsk.Rd.chunk AX.c HR.out HLE.out (by decide) ha
    have hok:=HG.out _ (List.getElem_mem hjl)
    obtain⟨hP,hQ,hB,hF⟩:=d0x (Rd.rangeLater (HR1 j hjl) hh1 hw)
    have HLL:Hid (l[j].light→∀i (h:i<l.length),i<j+1→l[i].light):=ι (fun hq i h hi=>by
     rcases Nat.lt_or_ge i j with h1|h1
     ·exact HL.out i h h1
     ·obtain rfl:i=j:=by omega
      exact hq)
    obtain⟨x,hx⟩:∃x,l[j]=x:=⟨_,rfl⟩
    rw[hx] at hP hQ hB hF hok
    have HX:=ι hx
    clear hx HR1 hl1
    obtain⟨⟨kd,s,u,z,bs,zs⟩,p1,n1,c1,p2,n2,c2⟩:=x
    have m1:s.size≤maxLen:=hok.p
    have m2:u.size≤maxLen:=hok.q
    have m3:n1≤maxLen:=hok.bm
    have m4:n2≤maxLen:=hok.fm
    clear hok
    unfold maxLen at m1 m2 m3 m4
    simp only[] at hP hQ hB hF
    by_cases h1:s.size≤100
    ·have d1:decide ((100:Int)<s.size)=false:=by simp;omega
     by_cases h2:u.size≤100
     ·have d2:decide ((100:Int)<u.size)=false:=by simp;omega
      by_cases h3:n1≤300
      ·have d3:decide ((300:Int)<n1)=false:=by simp;omega
       by_cases h4:n2≤30
       ·have d4:decide ((30:Int)<n2)=false:=by simp;omega
        go_wp2_with fail
        go_round
        case rel=>exact⟨j+1,by omega,by omega,ι (HLL.out (by rw[HX.out];exact⟨h1,h2,h3,h4⟩)),by go_num⟩
        case measure=>simp[intOf];omega
       ·have d4:decide ((30:Int)<n2)=true:=by simp;omega
        go_wp2_with fail
        go_ret
        exact⟨false,rfl,rfl,by simp⟩
      ·have d3:decide ((300:Int)<n1)=true:=by simp;omega
       go_wp2_with fail
       go_ret
       exact⟨false,rfl,rfl,by simp⟩
     ·have d2:decide ((100:Int)<u.size)=true:=by simp;omega
      go_wp2_with fail
      go_ret
      exact⟨false,rfl,rfl,by simp⟩
    ·have d1:decide ((100:Int)<s.size)=true:=by simp;omega
     go_wp2_with fail
     go_ret
     exact⟨false,rfl,rfl,by simp⟩
   ·have hb1:decide ((j:Int)<100)=false:=by simp;omega
    have hn:decide ((n:Int)≤m)=false:=by simp;omega
    have hn2:decide (n≤m)=false:=by simp;omega
    go_wp2_with fail
    go_ret
    exact⟨false,rfl,rfl,by simp⟩
  ·by_cases hn:n≤m
   ·have hn1:decide ((n:Int)≤m)=true:=by simp;omega
    have hn2:decide (n≤m)=true:=by simp;omega
    go_wp2_with fail
    go_ret
    exact⟨true,rfl,rfl,fun _=>⟨hn,fun a ham=>by
     obtain⟨i,hi,rfl⟩:=List.getElem_of_mem ham
     exact HL.out i hi (by have:=HZ.out;omega)⟩⟩
   ·have hn1:decide ((n:Int)≤m)=false:=by simp;omega
    have hn2:decide (n≤m)=false:=by simp;omega
    go_wp2_with fail
    go_ret
    exact⟨false,rfl,rfl,by simp⟩
end fs
namespace fs
set_option maxRecDepth 100000
open Go.ChangeShapes Go.WideShapes Go.ChangeAt Go.RowKit
open rows
open sec
open dsk (grow St CA st0)
open ly
open pa
open lk
open al
structure SfsHas (FI:Value→World→(Nat→Prop)→Value→dsk.St→Prop):Prop where
 mount:∀(w:World) (F:Nat→Prop) (d:Value) (st:dsk.St) (k:Nat),CA w F d st→st.good k→k≤880→mountV st=0→Calls Tryz.prog 11 #[d] w fun e w'=>∃ad,e = .returned (.tuple #[.pointer (some ad),.int .i64 0])∧FI d w' (grow F w w') (.pointer (some ad)) st∧Below w.heap.size w w'
 disk:∀(d:Value) (w:World) (F:Nat→Prop) (f:Value) (st:dsk.St) (k:Nat),FI d w F f st→st.good k→k≤880→Calls Tryz.prog 30 #[f] w fun e w'=>e = .returned d∧w'=w
 code:∀(d:Value) (w:World) (F:Nat→Prop) (f:Value) (st:dsk.St),FI d w F f st→CA w F d st
theorem b3q:mountsB emptyImg=true:=by kernel_rfl
theorem b3w(ss:List (List Int)):nowL (st0 ss)=ss:=rfl
theorem a4s{ss:List (List Int)}(hs:Secs ss)(hl:ss.length≤65):(st0 ss).good 0 :=
 ⟨hs,hl,fun x hx=>(by cases hx),fun x hx=>(by cases hx),Nat.le_refl _,Nat.le_refl _,Nat.zero_le _,⟨Int.le_refl _,Int.le_refl _⟩,⟨Int.le_refl _,Int.le_refl _⟩⟩
theorem b8p:mountV (st0 emptyImg)=0:=by
 unfold mountV
 rw[b3w,b3q,if_neg (show ¬(st0 emptyImg).safe.length=0 by show ¬emptyImg.length=0;rw[a3q];decide),if_pos rfl]
end fs
namespace fs
set_option maxRecDepth 100000
open Go.ChangeShapes Go.WideShapes Go.ChangeAt Go.RowKit
open rows
open sec
open dsk (St st0)
open ly
open pa
open lk
open al
abbrev txA:ByteArray:={ data := #[47,97] }
abbrev txB:ByteArray:={ data := #[47,98] }
abbrev txC:ByteArray:={ data := #[47,99] }
def stA:St:=(makeV (st0 emptyImg) txA 1).2
def stB:St:=(writeFV stA txA 0 [120,121]).2
theorem c6w:(makeV (st0 emptyImg) txA 1).1=0:=by decide +kernel
theorem d0z:(writeFV stA txA 0 [120,121]).1=0:=by decide +kernel
theorem kn_read:readV (nowL stB) txA=([120,121],0):=by decide +kernel
theorem d0q:(lookV (nowL stB) (bys txA)).2=0:=by decide +kernel
theorem kn_not:(lookV (nowL stB) (bys txB)).2≠0:=by decide +kernel
theorem c9l:(makeV stB txA 1).1=5:=by decide +kernel
theorem c5f:(unlinkV (makeV stB txA 1).2 txC).1=4:=by decide +kernel
end fs
namespace fs
set_option maxRecDepth 100000
open Go.ChangeShapes Go.WideShapes Go.ChangeAt Go.RowKit
open rows
open sec
open dsk (Wr.ok Wr.c Wr.c_len wf64 St Wr RefAt RefIs RefDone wrsC InS a0d a0g)
open ly
open pa
open lk
open al
def mixB(b:List Int)(had:Nat)(f:List Int)(i:Nat):List Int:=b.take had++f.take i++b.drop (had+i)
theorem c0w{b:List Int}(h:b.length=4){had i:Nat}{f:List Int}(hi:i≤f.length)(h4:had+f.length≤4):(mixB b had f i).length=4:=by
 simp[mixB,h];omega
theorem c6z(b:List Int)(had:Nat)(f:List Int):mixB b had f 0=b:=by simp[mixB]
theorem d1n(b:List Int)(had:Nat)(f:List Int):mixB b had f f.length=b.take had++f++b.drop (had+f.length):=by simp[mixB]
theorem c8t{b:List Int}(h:b.length=4){had i:Nat}{f:List Int}(hi:i<f.length)(h4:had+f.length≤4):(mixB b had f i).set (had+i) (f.getD i 0)=mixB b had f (i+1):=by
 unfold mixB
 have h1:(b.take had).length=had:=by rw[List.length_take];omega
 have h2:(b.take had++f.take i).length=had+i:=by rw[List.length_append,h1,List.length_take];omega
 rw[List.set_append_right _ _ (by omega),h2,Nat.sub_self]
 have h3:b.drop (had+i)=b.getD (had+i) 0::b.drop (had+(i+1)):=by
  rw[List.drop_eq_getElem_cons (show had+i<b.length by omega),Nat.add_assoc];simp[List.getD,show had+i<b.length by omega]
 rw[h3,List.set_cons_zero,List.take_succ_eq_append_getElem hi]
 simp only[List.append_assoc,List.cons_append,List.nil_append,List.getD,List.getElem?_eq_getElem hi,Option.getD_some]
def putU(old:List Int)(off:Nat)(b:List Int)(i j:Nat):List Int:=(List.range 32).map fun q=>if q<j∧off≤32 * i+q∧32 * i+q<off+b.length then b.getD (32 * i+q-off) 0 else old.getD q 0
theorem d0i(old:List Int)(off:Nat)(b:List Int)(i j:Nat):(putU old off b i j).length=32:=by simp[putU]
theorem c5o{old:List Int}(h:old.length=32)(off:Nat)(b:List Int)(i:Nat):putU old off b i 0=old:=by
 unfold putU
 apply List.ext_getElem
 ·simp[h]
 ·intro q h1 h2
  simp[List.getD,h2]
theorem c9f(old:List Int)(off:Nat)(b:List Int)(i:Nat):putU old off b i 32=putL old off b i:=by
 unfold putU putL
 apply List.map_congr_left
 intro q hq
 have:=List.mem_range.1 hq
 by_cases e:off≤32 * i+q∧32 * i+q<off+b.length
 ·rw[if_pos ⟨this,e⟩,if_pos e]
 ·rw[if_neg (fun h=>e h.2),if_neg e]
theorem c6k{old:List Int}{off:Nat}{b:List Int}{i j:Nat}(h:¬(off≤32 * i+j∧32 * i+j<off+b.length)):putU old off b i (j+1)=putU old off b i j:=by
 unfold putU
 apply List.map_congr_left
 intro q hq
 by_cases e:q=j
 ·subst e
  rw[if_neg (fun hh=>h hh.2),if_neg (fun hh=>h hh.2)]
 ·by_cases e2:q<j∧off≤32 * i+q∧32 * i+q<off+b.length
  ·rw[if_pos e2,if_pos ⟨by omega,e2.2⟩]
  ·rw[if_neg e2,if_neg (fun hh=>e2 ⟨by omega,hh.2⟩)]
theorem d0e{old:List Int}{off:Nat}{b:List Int}{i j:Nat}(hj:j<32)(h:off≤32 * i+j∧32 * i+j<off+b.length):(putU old off b i j).set j (b.getD (32 * i+j-off) 0)=putU old off b i (j+1):=by
 unfold putU
 apply List.ext_getElem
 ·simp
 ·intro q h1 h2
  simp only[List.length_map,List.length_range] at h2
  rw[List.getElem_set]
  simp only[List.getElem_map,List.getElem_range]
  by_cases e:j=q
  ·subst e
   rw[if_pos rfl,if_pos ⟨by omega,h⟩]
  ·rw[if_neg e]
   by_cases e2:q<j∧off≤32 * i+q∧32 * i+q<off+b.length
   ·rw[if_pos e2,if_pos ⟨by omega,e2.2⟩]
   ·rw[if_neg e2,if_neg (fun hh=>e2 ⟨by omega,hh.2⟩)]
def hitU(off m i j:Nat):Bool:=decide (0<m∧off<32 * i+j∧32 * i<off+m∧0<j)
theorem c5t(off m i:Nat):hitU off m i 0=false:=decide_eq_false (by omega)
theorem d1g(off m i:Nat):hitU off m i 32=hitB off m i:=by unfold hitU hitB;exact decide_eq_decide.2 (by omega)
theorem c9j{off m i j:Nat}(h:off≤32 * i+j∧32 * i+j<off+m):hitU off m i (j+1)=true:=decide_eq_true (by omega)
theorem c5q{off m i j:Nat}(h:¬(off≤32 * i+j∧32 * i+j<off+m)):hitU off m i (j+1)=hitU off m i j:=by unfold hitU;exact decide_eq_decide.2 (by omega)
def oneW(L:List (List Int))(n:Int)(y:Ino)(had off:Nat)(b:List Int)(i:Nat):Wr:=⟨40+y.b.getD i 0,putL (if i<had then L.getD (40+y.b.getD i 0).toNat zero32 else zero32) off b i,1,n,0⟩
theorem b5u{L:List (List Int)}{n:Int}{y:Ino}{had off:Nat}{b:List Int}{i:Nat}(h:hitB off b.length i=true):blksW L n y had off b (i+1)=blksW L n y had off b i++[oneW L n y had off b i]:=by
 unfold blksW
 rw[List.range_succ,List.filter_append,List.map_append]
 simp[h,oneW]
theorem c0x{L:List (List Int)}{n:Int}{y:Ino}{had off:Nat}{b:List Int}{i:Nat}(h:hitB off b.length i=false):blksW L n y had off b (i+1)=blksW L n y had off b i:=by
 unfold blksW
 rw[List.range_succ,List.filter_append,List.map_append]
 simp[h]
theorem c8u{L:List (List Int)}{n:Int}{y:Ino}{had off:Nat}{b:List Int}(i:Nat):(blksW L n y had off b i).length≤i:=by
 unfold blksW
 rw[List.length_map]
 exact Nat.le_trans (List.length_filter_le ..) (by simp)
theorem rd_inF{w:World}{sz n:Nat}{v:Value}{cs:List Value}(h:Rd w sz v n cs):InS (fun b=>b<w.heap.size) v:=fun a m c hv hm=>by
 rcases h with⟨p,cap,h1,_⟩|⟨b,off,cap,h1,_,_,_,h2,_⟩
 ·rw[hv] at h1
  cases h1
  omega
 ·rw[hv] at h1
  cases h1
  exact h2
theorem c7o{w:World}{g:Nat}{x:Ino}(h:AtI w g x):g<w.heap.size:=(Array.getElem?_eq_some_iff.1 h).1
theorem b5y{old:List Int}(h:Sec old){b:List Int}(hb:∀z∈b,0≤z∧z<256)(off i:Nat):Sec (putL old off b i):=by
 refine⟨by simp[putL],fun z hz => ?_⟩
 unfold putL at hz
 obtain⟨j,hj,rfl⟩:=List.mem_map.1 hz
 split
 ·rename_i hin
  have hl:32 * i+j-off<b.length:=by omega
  simp only[List.getD,List.getElem?_eq_getElem hl,Option.getD_some]
  exact hb _ (List.getElem_mem hl)
 ·exact a1c h j
theorem d0y{L:List (List Int)}{n:Int}{y:Ino}{had o:Nat}{b:List Int}{i:Nat}(hs:Secs L)(hy:∀j,0≤y.b.getD j 0∧y.b.getD j 0≤24)(hb:∀z∈b,0≤z∧z<256)(h1:0≤n)(h2:n<16):∀z∈blksW L n y had o b i,z.ok:=by
 intro z hz
 unfold blksW at hz
 obtain⟨j,hj,rfl⟩:=List.mem_map.1 hz
 have hyj:=hy j
 refine⟨?_,a0h (by show 0≤40+y.b.getD j 0∧40+y.b.getD j 0<256;omega),a0h (by show (0:Int)≤1∧(1:Int)<256;decide),a0h (by show 0≤n∧n<256;omega),a0h (by show (0:Int)≤0∧(0:Int)<256;decide)⟩
 refine b5y ?_ hb _ _
 generalize (40+y.b.getD j 0).toNat=p
 split
 ·by_cases hp:p<L.length
  ·simp only[List.getD,List.getElem?_eq_getElem hp,Option.getD_some]
   exact hs _ (List.getElem_mem hp)
  ·simp only[List.getD,List.getElem?_eq_none (Nat.le_of_not_lt hp),Option.getD_none]
   exact a0p
 ·exact a0p
theorem atSet{w:World}{g j:Nat}{s:List Int}(h:At w g s)(z:Int):At (w.setCell ⟨g,j,none⟩ (.int .u8 z)) g (s.set j z):=by
 have:=a0g (i:=j) h (.int .u8 z)
 rw[At,this]
 simp[u8s,List.map_set]
set_option maxRecDepth 100000 in
set_option maxHeartbeats 16000000 in
theorem b2o(S:Nat→Prop)(g:Nat)(st:St)(w:World)(k:Nat)(s:ByteArray)(off:Int)(p:Option Addr)(m c:Nat)(b:List Int)(h:RefIs w S g st)(hg:st.good k)(hk:k+10≤900)(h65:st.safe.length=65)(hsz:s.size≤100000)(ho:wf64 off)(hb0:Rd w 1 (.slice p m c) m (b.map (Value.int .u8)))(hm:m≤300)(hbb:∀x∈b,0≤x∧x<256) :
  Calls Tryz.prog 16 #[.pointer (some ⟨g,0,none⟩),.string s,.int .i64 off,.slice p m c] w (RefDone S g w (writeFV st s off b)):=by
 have HR:=ι h
 have HN:=ι (a5m h hg (by omega))
 have hsec:=a3t hg
 have hn1:=hg.n1
 have HF:=ι fun q c w' (hr:Rd w' 32 (.slice q st.safe.length c) st.safe.length (cellsOf (nowL st)))=>a7i q st.safe.length c (nowL st) w' hr hsec (by omega) s hsz
 have HBK:=ι fun q c w' (hr:Rd w' 32 (.slice q st.safe.length c) st.safe.length (cellsOf (nowL st))) z hz=>d1s q st.safe.length c (nowL st) w' hr hsec (by omega) z hz
 have H4:=ι (a2j hsec s)
 have hfi:=a6b hsec s
 have hff:=fun hh=>a5k hsec (fileV (nowL st) s).1 hh
 have hok:=a7l hsec (fileV (nowL st) s).1
 have HDO:=ι fun ws p m c w1 (hb:Below w.heap.size w w1) (hm:m≤10) (hr:Rd w1 36 (.slice p m c) m (wrsC ws)) hin (hok:∀x∈ws,x.ok)=>b4v S g st ws p m c w1 (a0u h hb) k hg (by omega) (by omega) hr hin hok
 have HSEC:=ι hsec
 have HB0:=ι hb0
 have HBB:=ι hbb
 have hbl:b.length=m:=by have:=hb0.cells;rw[List.length_map] at this;omega
 have HGW:Hid (g<w.heap.size):=ι (by obtain⟨vs,vw,vl,vb,h⟩:=h;exact dsk.RefAt.lt h)
 obtain⟨V,hV⟩:∃V,writeFV st s off b=V:=⟨_,rfl⟩
 rw[hV]
 unfold writeFV at hV
 simp only at hV
 generalize hFE:fileV (nowL st) s=FV at *
 obtain⟨n,x,er⟩:=FV
 unfold fileT at HF
 simp only at hV HF H4 hfi hff hok
 have HLL:Hid ((nowL st).length=st.safe.length):=ι (by rw[nowL,a7v _ _ _ (Nat.le_refl _)])
 generalize nowL st=L at *
 generalize st.safe.length=sl at *
 obtain⟨o1,o2⟩:=rows.wf_i64 ho
 have H65:=ι h65
 clear h hg hk hsz hsec hFE hb0 hbb ho h65
 have hmi:(m:Int)≤300:=by omega
 by_cases he:er=0
 case neg =>
  rw[if_pos he] at hV
  subst hV
  have heb:(er != 0)=true:=by simpa using he
  clear hfi hff hok
  go_enter Tryz.func16,Tryz.ntmps16
  go_wp2_with (first|(go_at_call 24;refine HN.out.mono ?_;rintro e w1 ⟨q,c,rfl,hr,hb⟩;have R1:=ι hr;have B1:=ι hb;clear hr hb)|(go_at_call 68;refine(HF.out _ _ _ R1.out).mono ?_;rintro e w2 ⟨rfl,hb⟩;have B2:=ι (a0a B1.out hb);clear hb)|(refine a0f rfl (.tmp 11) (.tmp 31) rfl rfl w2.heap.size x ino0 rfl rfl H4.out rfl (a0r w2) ?_;intro w3 hA hB _;have B3:=ι (a0a B2.out ((a0b (Below.refl _ w2) _).trans hB));clear hA hB))
  go_ret
  exact a0n HR.out B3.out
 subst he
 rw[if_neg (by simp)] at hV
 obtain⟨hx1,hx2,hx3,hx4⟩:=hfi rfl
 rw[← hx1] at hx2 hff hok
 obtain⟨hs0,hs1,hsb⟩:=hff hx2
 have HXF:Hid (InoFine x):=ι (by rw[hx1];exact a7m HSEC.out n)
 clear hfi hff hx1
 go_enter Tryz.func16,Tryz.ntmps16
 go_upto_region 5 with(first|(go_at_call 24;refine HN.out.mono ?_;rintro e w1 ⟨q,c1,rfl,hr,hb⟩;have R1:=ι hr;have B1:=ι hb;clear hr hb)|(go_at_call 68;refine(HF.out _ _ _ R1.out).mono ?_;rintro e w2 ⟨rfl,hb⟩;have B2:=ι (a0a B1.out hb);have R2:=ι (R1.out.later hb);have INL:=ι (rd_inF R2.out);clear hb)|(refine a0f rfl (.tmp 11) (.tmp 31) rfl rfl w2.heap.size x ino0 rfl rfl H4.out rfl (a0r w2) ?_;intro w3 hA hB _;have hb3:=(a0b (Below.refl _ w2) _).trans hB;have B3:=ι (a0a B2.out hb3);have R3:=ι (R2.out.later hb3);have A3:=ι hA;clear hA hB hb3))
 have cS:=A3.out.cell1
 clear HN HF R1 R2 B1
 by_cases hz0:off<0
 ·rw[if_pos (Or.inl hz0)] at hV
  subst hV
  go_wp2_with fail
  go_ret
  exact a0n HR.out B3.out
 by_cases hz1:x.size<off
 ·rw[if_pos (Or.inr hz1)] at hV
  subst hV
  have hzz:0≤off:=by omega
  go_wp2_with fail
  go_ret
  exact a0n HR.out B3.out
 rw[if_neg (by omega)] at hV
 obtain⟨o,rfl⟩:=Int.eq_ofNat_of_zero_le (show 0≤off by omega)
 have ho128:o≤128:=by omega
 go_upto_region 7 with fail
 by_cases hr0:128-(o:Int)<(m:Int)
 ·rw[hbl,if_pos hr0] at hV
  subst hV
  go_wp2_with fail
  go_ret
  exact a0n HR.out B3.out
 rw[hbl,if_neg hr0] at hV
 have hxz:x.size=(x.size.toNat:Int):=by omega
 obtain⟨xs,hxs⟩:∃xs,x.size.toNat=xs:=⟨_,rfl⟩
 rw[hxs] at hxz
 obtain⟨ys,hys⟩:∃ys,max xs (o+m)=ys:=⟨_,rfl⟩
 have hymax:max x.size ((o:Int)+(m:Int))=(ys:Int):=by omega
 rw[hymax,Int.toNat_natCast,Int.toNat_natCast,hxs] at hV
 have hys128:ys≤128:=by omega
 have hxs128:xs≤128:=by omega
 have hxy:xs≤ys:=by omega
 go_upto_region 10 with(first|(refine a0s rfl (.tmp 11) rfl w2.heap.size rfl x H4.out A3.out ?_)|(refine a0f rfl (.tmp 13) (.tmp 49) rfl rfl w3.heap.size x ino0 rfl rfl H4.out rfl (a0r w3) ?_;intro w4 hA hB _;have hb4:=(a0b (Below.refl _ w3) _).trans hB;have hb34:=ι hb4;have B4:=ι (a0a B3.out hb4);have R4:=ι (R3.out.later hb4);have A4:=ι (A3.out.later hb4);have Y4:=ι hA;clear hA hB hb4))
 have cS4:=A4.out.cell1
 have fY:=a0d Y4.out 1
 have cY:=Y4.out.cell1
 rw[hxz] at cS4 cY
 go_upto_region 11 with fail
 have hmx:max (xs:Int) ((o:Int)+(m:Int))=(ys:Int):=by omega
 rw[hmx]
 have hg23:Hid (w2.heap.size<w3.heap.size):=ι (c7o A3.out)
 have HGY:Hid (w.heap.size≤w3.heap.size):=ι B3.out.size
 have Y5:=ι (AtI.setS Y4.out (ys:Int))
 have hb35:=ι (hb34.out.setCell (p:=⟨w3.heap.size,1,none⟩) (Nat.le_refl _) (.int .i64 (ys:Int)))
 have B5:=ι (a0a B3.out hb35.out)
 have A5:=ι (A3.out.later hb35.out)
 have R5:=ι (R3.out.later hb35.out)
 have cS5:=A5.out.cell1
 have cY5:=Y5.out.cell1
 rw[hxz] at cS5
 simp only at cY5
 have hw53:Hid (w3.heap.size<(w4.setCell ⟨w3.heap.size,1,none⟩ (.int .i64 (ys:Int))).heap.size):=ι (c7o Y5.out)
 generalize w4.setCell ⟨w3.heap.size,1,none⟩ (.int .i64 (ys:Int))=w5 at *
 generalize w3.heap.size=gy at *
 generalize w2.heap.size=gx at *
 have HXH:Hid (∀j,j<need xs→1≤x.b.getD j 0):=ι (fun j hj=>by
  have h1:=(hsb (j * 32) (by unfold need at hj;omega)).1
  rwa [show j * 32 / 32=j by omega] at h1)
 have HXS:Hid (xs≤ys):=ι hxy
 have HNW:Hid (∀j,32 * j<ys→j<need ys):=ι (fun j hj=>by unfold need;omega)
 have HYO:Hid (o+m≤ys):=ι (by omega)
 clear hsb
 have HGR:Hid (∀f,grownI x o m f=⟨x.kind,(ys:Int),mixB x.b (need xs) f f.length⟩):=ι fun f=>by rw[grownI,d1n,hxs,show (max x.size ((o+m:Nat):Int))=(ys:Int) by omega]
 have HN1:=ι fun w'=>a4r xs w' hxs128
 have HN2:=ι fun w'=>a4r ys w' hys128
 have hn1:=a5i hxs128
 have hn2:=a5i hys128
 have hn12:need xs≤need ys:=by unfold need;omega
 generalize need xs=had at *
 generalize need ys=nw at *
 have hhi:(had:Int)≤4:=by omega
 have hnwi:(nw:Int)≤4:=by omega
 clear A3 B3 R3 A4 B4 R4 Y4 cS cS4 cY fY hb34 hb35 hymax hmx hxs hys hz0 hz1 hr0
 go_upto_region 12 with(go_at_call 69;refine(HN1.out _).mono ?_;rintro e w6 ⟨rfl,hw⟩;obtain rfl:w5=w6:=hw)
 have HBz:=ι fun w' hr=>HBK.out q c1 w' hr ((nw:Int)-(had:Int)) (WalkArith.wf_i64 (by omega))
 have HBD:Hid (blkB L ((nw:Int)-(had:Int))=true→blkL L ((nw:Int)-(had:Int))=ofNats ((frB L).take (nw-had))∧(blkL L ((nw:Int)-(had:Int))).length=nw-had):=ι (fun hB=>by
  have e:blkL L ((nw:Int)-(had:Int))=ofNats ((frB L).take (nw-had)):=by rw[blkL,if_pos hB,show ((nw:Int)-(had:Int)).toNat=nw-had by omega]
  refine⟨e,?_⟩
  rw[blkB,decide_eq_true_eq] at hB
  rw[e,a3a,List.length_take];omega)
 generalize blkL L ((nw:Int)-(had:Int))=FL at *
 generalize blkB L ((nw:Int)-(had:Int))=okb at *
 have HVV:=ι hV
 clear hV
 go_upto_region 13 with(first|(go_at_call 69;refine(HN2.out _).mono ?_;rintro e w6 ⟨rfl,hw⟩;obtain rfl:w5=w6:=hw)|(go_at_call 70;refine(HBz.out _ R5.out).mono ?_;rintro e w7 ⟨q7,m7,k7,rfl,hm7,hr7,hin7,hb7⟩;have IN7:=ι hin7;have B7:=ι (a0a B5.out hb7);have A7:=ι (A5.out.later hb7);have Y7:=ι (Y5.out.later hb7);have R7:=ι (R5.out.later hb7);have F7:=ι hr7;have M7:=ι hm7;clear hb7 hr7 hm7 hin7))
 cases okb with
 | false =>
  have hV:=HVV.out
  rw[if_pos rfl] at hV
  subst hV
  go_wp2_with fail
  go_ret
  exact a0n HR.out B7.out
 | true =>
  obtain⟨hFL,hFLl⟩:=HBD.out rfl
  have hV:=HVV.out
  rw[if_neg (by decide),HGR.out] at hV
  obtain⟨fc,hfc⟩:∃fc,FL.length=fc:=⟨_,rfl⟩
  rw[hfc] at hV hFLl
  obtain rfl:m7=fc:=by rw[M7.out,hfc]
  have hfn:m7+had≤4:=by omega
  have hfni:(m7:Int)≤4:=by omega
  have HFV:Hid (∀z∈FL,1≤z∧z≤24):=ι (fun z hz=>by
   rw[hFL,ofNats] at hz
   obtain⟨c0,hc0,rfl⟩:=List.mem_map.1 hz
   obtain⟨h1,h2⟩:=(b8k L 25 c0).1 (List.mem_of_mem_take hc0)
   have h3:c0≠0:=fun e=>by rw[e,used0] at h2;cases h2
   omega)
  have HFC:=ι hfc
  clear HBD HVV HBK HBz HGR M7 hFL hFLl
  go_wp2_with fail
  go_loopw [17] (fun iv wr=>∃i:Nat,i≤m7∧iv = .int .i64 (i:Int)∧Hid (AtI wr gy ⟨x.kind,(ys:Int),mixB x.b had FL i⟩)∧Hid (AtI wr gx x)∧Hid (Rd wr 32 (.slice q sl c1) sl (cellsOf L))∧Hid (Rd wr 1 (.slice q7 m7 k7) m7 (i64s FL))∧Hid (Below w.heap.size w wr)) (fun iv _=>m7-(intOf iv).toNat)
  case atStart=>exact⟨0,by omega,rfl,ι (by rw[c6z];exact Y7.out),A7,R7,F7,B7⟩
  case round =>
   obtain⟨i,hi,rfl,HY,HAx,HRL,HRF,HB⟩:=hrel
   clear Y7 A7 R7 F7 B7
   by_cases hlt:i<m7
   ·have hlti:(i:Int)<(m7:Int):=by omega
    obtain⟨b7,o7,rfl,hk1,hk2,hbl7,_,hcf⟩:=Rd.at HRF.out hlt
    have cf:=hcf i hlt
    have hml:(mixB x.b had FL i).length=4:=c0w H4.out (by rw[HFC.out];omega) (by rw[HFC.out];omega)
    have hnx:=c8t (had:=had) H4.out (i:=i) (f:=FL) (by rw[HFC.out];exact hlt) (by rw[HFC.out];omega)
    obtain⟨z,hz⟩:∃z,FL.getD i 0=z:=⟨_,rfl⟩
    rw[hz] at cf hnx
    have cc:=HY.out.cellb (i:=had+i) (by rw[hml];omega)
    have ff:=a0d HY.out (2+(had+i))
    have hwr:IntKind.i64.wrap ((had:Int)+(i:Int))=((had+i:Nat):Int):=by
     simp[IntKind.wrap,IntKind.signed,IntKind.bits]
     omega
    have hai:((had+i:Nat):Int)<4:=by omega
    have Yn:=ι (AtI.setB (j:=had+i) HY.out z)
    have An:Hid (AtI (wr.setCell ⟨gy,2+(had+i),none⟩ (.int .i64 z)) gx x):=ι (HAx.out.setOther (by have:=hg23.out;omega) _)
    have Rn:Hid (Rd (wr.setCell ⟨gy,2+(had+i),none⟩ (.int .i64 z)) 32 (.slice q sl c1) sl (cellsOf L)):=ι (dsk.Rd.set HRL.out (INL.out.mono fun b hb=>by have:=hg23.out;show b≠gy;omega))
    have Fn:Hid (Rd (wr.setCell ⟨gy,2+(had+i),none⟩ (.int .i64 z)) 1 (.slice (some ⟨b7,o7,none⟩) m7 k7) m7 (i64s FL)):=ι (dsk.Rd.set HRF.out (IN7.out.mono fun b hb=>by have:=hw53.out;show b≠gy;omega))
    have Bn:Hid (Below w.heap.size w (wr.setCell ⟨gy,2+(had+i),none⟩ (.int .i64 z))):=ι (HB.out.setCell (p:=⟨gy,2+(had+i),none⟩) (HGY.out) _)
    have HNX:=ι hnx
    clear hcf hml hz hbl7 hnx
    go_wp2_with fail
    go_roundw
    case rel=>exact⟨i+1,by omega,by go_num,ι (by rw[← HNX.out];exact Yn.out),An,Rn,Fn,Bn⟩
    case measure=>simp[intOf];omega
   ·obtain rfl:i=m7:=by omega
    have hyl:(mixB x.b had FL i).length=4:=c0w H4.out (by rw[HFC.out];omega) (by rw[HFC.out];omega)
    have hym:∀z∈mixB x.b had FL i,0≤z∧z≤24:=fun z hz=>by
     unfold mixB at hz
     rcases List.mem_append.1 hz with hz|hz
     ·rcases List.mem_append.1 hz with hz|hz
      ·exact HXF.out.b z (List.mem_of_mem_take hz)
      ·have:=HFV.out z (List.mem_of_mem_take hz);omega
     ·exact HXF.out.b z (List.mem_of_mem_drop hz)
    have HYB:Hid (∀j,0≤(mixB x.b had FL i).getD j 0∧(mixB x.b had FL i).getD j 0≤24):=ι (fun j=>by
     by_cases hj:j<(mixB x.b had FL i).length
     ·simp only[List.getD,List.getElem?_eq_getElem hj,Option.getD_some]
      exact hym _ (List.getElem_mem hj)
     ·simp only[List.getD,List.getElem?_eq_none (Nat.le_of_not_lt hj),Option.getD_none];omega)
    have HYH:Hid (∀j,j<had→1≤(mixB x.b had FL i).getD j 0):=ι (fun j hj=>by
     have h1:(x.b.take had).length=had:=by rw[List.length_take,H4.out];omega
     have h2:=HXH.out j hj
     rw[mixB,List.getD,List.getElem?_append_left (by rw[List.length_append,h1];omega),List.getElem?_append_left (by omega),List.getElem?_take,if_pos hj]
     exact h2)
    have HYK:Hid (⟨x.kind,(ys:Int),mixB x.b had FL i⟩:Ino).ok:=ι ⟨hyl,by show wf64 x.kind;rw[hx2];exact a0h (by omega),b9t ys (by omega),fun z hz=>by have:=hym z hz;exact a0h (by omega)⟩
    have HYB2:Hid (∀j,0≤(⟨x.kind,(ys:Int),mixB x.b had FL i⟩:Ino).b.getD j 0∧(⟨x.kind,(ys:Int),mixB x.b had FL i⟩:Ino).b.getD j 0≤24):=HYB
    have HYH2:Hid (∀j,j<had→1≤(⟨x.kind,(ys:Int),mixB x.b had FL i⟩:Ino).b.getD j 0):=HYH
    clear hyl hym HYB HYH
    generalize (⟨x.kind,(ys:Int),mixB x.b had FL i⟩:Ino)=y at *
    have HL65:Hid (L.length=65):=ι (by rw[HLL.out];exact H65.out)
    have HR0:=ι (HB0.out.later HB.out)
    obtain⟨W2,hW2⟩:∃W2,wr=W2:=⟨_,rfl⟩
    rw[hW2] at HY HAx HRL HB HR0
    rw[hW2]
    clear hW2 HRF IN7 HFV HFC HXF HXH HN1 HN2 A5 B5 R5 Y5 hlt
    have HYV:=ι hV
    clear hV
    go_wp2_with fail
    go_loopw [18,19,20,21,22,23] (fun wv iv _ _ _ _ wr=>∃(i mm:Nat) (q8:Option Addr) (k8:Nat),i≤4∧mm≤4∧iv = .int .i64 (i:Int)∧wv = .slice q8 mm k8∧Hid (mm=(blksW L n y had o b i).length)∧Hid (Own wr W2.heap.size 99 36 (.slice q8 mm k8) mm (wrsC (blksW L n y had o b i)))∧Hid (Below W2.heap.size W2 wr)) (fun _ iv _ _ _ _ _=>4-(intOf iv).toNat)
    case atStart=>exact⟨0,0,none,0,by omega,by omega,rfl,rfl,ι rfl,ι (a2n _ _ _ _),ι (Below.refl _ _)⟩
    case round =>
     obtain⟨i,mm,q8,k8,hi,hmm,rfl,rfl,HM,HO,HB8⟩:=hrel
     by_cases hlt:i<4
     ·have hlti:(i:Int)<4:=by omega
      go_upto_if 95 with(refine a0j rfl (.tmp 20) (.tmp 92) rfl rfl wr.heap.size zero32 zero32 rfl (congrArg Value.agg a0x) (by decide) (by decide) (a1a wr) ?_;intro w8 hA hB' _;have S8:=ι hA;have B8:=ι ((a0b (Below.refl wr.heap.size wr) _).trans hB');clear hA hB')
      have B28:Hid (Below W2.heap.size W2 w8):=ι (HB8.out.trans (B8.out.mono HB8.out.size))
      have HY8:=ι (HY.out.later B28.out)
      have hyb:=HYB2.out i
      have HYi:=ι (HY8.out.cellb (i:=i) (by rw[HYK.out.four];exact hlt))
      have hgs:∃gs,wr.heap.size=gs:=⟨_,rfl⟩
      obtain⟨gs,hgs⟩:=hgs
      have HGS:Hid (W2.heap.size≤gs):=ι (by rw[← hgs];exact HB8.out.size)
      rw[hgs] at S8 B8
      rw[hgs]
      obtain⟨sO,hsO⟩:∃sO,(if i<had then L.getD (40+y.b.getD i 0).toNat zero32 else zero32)=sO:=⟨_,rfl⟩
      have HOW:=ι hsO
      clear hsO
      go_cut [] from 93 to 104 (fun wc=>At wc gs sO∧Sec sO∧Below gs wr wc)
      case first =>
       by_cases hih:i<had
       ·have hihi:(i:Int)<(had:Int):=by omega
        have h1:=HYH2.out i hih
        obtain⟨bm,hbm⟩:∃bm:Nat,y.b.getD i 0=(bm:Int)+1:=⟨(y.b.getD i 0).toNat-1,by omega⟩
        have cc:=HYi.out
        rw[hbm] at cc hyb
        have hbm24:bm<24:=by omega
        obtain⟨bL,oL,rfl,_,_,hbL,hll,hrg⟩:=b0e (HRL.out.later B28.out) HSEC.out (j:=41+bm) (by rw[H65.out];omega)
        have hLl:41+bm<L.length:=by rw[HL65.out];omega
        have hs1:=HOW.out
        rw[if_pos hih,hbm,show (40+((bm:Int)+1)).toNat=41+bm by omega,show L.getD (41+bm) zero32=L[41+bm] by simp[List.getD,hLl]] at hs1
        have HSL:=ι (hrg (41+bm) hLl)
        have hS:=HSEC.out L[41+bm] (List.getElem_mem hLl)
        rw[hs1] at HSL hS
        have HSO:=ι hS
        have hsl41:((41+bm:Nat):Int)<(sl:Int):=by rw[H65.out];omega
        clear hrg hll hbL hS hs1 h1 hLl
        go_wp2_with (first|(refine b4q rfl (.tmp 103) rfl bL (oL+(41+bm) * 32) rfl sO HSO.out.1 HSL.out ?_)|(refine a0j rfl (.tmp 20) (.tmp 104) rfl rfl gs sO zero32 rfl rfl HSO.out.1 (by decide) S8.out ?_;intro w9 hA hB' _;have S9:=ι hA;have B9:=ι (B8.out.trans hB');clear hA hB'))
        go_meet
        case rel=>exact⟨S9.out,HSO.out,B9.out⟩
       ·have hihi:¬(i:Int)<(had:Int):=by omega
        have hs1:=HOW.out
        rw[if_neg hih] at hs1
        have HSO:=ι hs1
        clear hs1
        go_wp2_with fail
        go_meet
        case rel=>exact⟨by rw[← HSO.out];exact S8.out,by rw[← HSO.out];exact a0p,B8.out⟩
      case rest =>
       obtain⟨hs9,hso,hb9⟩:=hcut
       have S9:=ι hs9
       have HSO:=ι hso
       have B9:=ι hb9
       clear hs9 hso hb9 S8 B8 HYi B28 HY8
       go_wp2_with fail
       go_loopw [21,22,23] (fun tv jv _ wl=>∃(j:Nat) (hh:Bool),j≤32∧jv = .int .i64 (j:Int)∧tv = .bool hh∧Hid (hh=hitU o m i j)∧Hid (At wl gs (putU sO o b i j))∧Hid (Below gs wr wl)) (fun _ jv _ _=>32-(intOf jv).toNat)
       case atStart=>exact⟨0,false,by omega,rfl,rfl,ι (c5t _ _ _).symm,ι (by rw[c5o HSO.out.1];exact S9.out),B9⟩
       case round =>
        obtain⟨j,hh,hj,rfl,rfl,HH,HS,HBl⟩:=hrel
        by_cases hlt3:j<32
        ·have hltj:(j:Int)<32:=by omega
         by_cases hin:o≤32 * i+j∧32 * i+j<o+m
         ·obtain⟨t,ht⟩:∃t,32 * i+j-o=t:=⟨_,rfl⟩
          have htm:t<m:=by omega
          have hA:(o:Int)≤32 * (i:Int)+(j:Int):=by omega
          have hB:32 * (i:Int)+(j:Int)-(o:Int)<(m:Int):=by omega
          have HRl:=ι (HR0.out.later (HB8.out.trans (HBl.out.mono HGS.out)))
          obtain⟨bb,ob,rfl,hk1,hk2,_,_,hcf⟩:=Rd.at HRl.out htm
          have cf:=hcf t htm
          obtain⟨z,hz⟩:∃z,b.getD t 0=z:=⟨_,rfl⟩
          have HZ:=ι hz
          rw[hz,← ht] at cf
          have HPL:Hid (j<(putU sO o b i j).length):=ι (by rw[d0i];exact hlt3)
          have cc:=HS.out.cell HPL.out
          have ff:=a0d HS.out j
          obtain⟨cz,hcz⟩:∃cz,(putU sO o b i j)[j]'HPL.out=cz:=⟨_,rfl⟩
          rw[hcz] at cc
          have Sn:Hid (At (wr.setCell ⟨gs,j,none⟩ (.int .u8 z)) gs (putU sO o b i (j+1))):=ι (by
           have:=atSet (j:=j) HS.out z
           rw[← HZ.out,← ht,d0e hlt3 ⟨hin.1,by rw[hbl];exact hin.2⟩,ht,HZ.out] at this
           exact this)
          have Bn:=ι (HBl.out.setCell (p:=⟨gs,j,none⟩) (Nat.le_refl gs) (.int .u8 z))
          have HT:Hid (hitU o m i (j+1)=true):=ι (c9j hin)
          clear hcf hz hcz ht
          go_wp2_with fail
          go_roundw
          case rel=>exact⟨j+1,true,by omega,by go_num,rfl,ι HT.out.symm,Sn,Bn⟩
          case measure=>simp[intOf];omega
         ·have HT:Hid (hitU o m i (j+1)=hitU o m i j):=ι (c5q hin)
          have Sn:Hid (At wr gs (putU sO o b i (j+1))):=ι (by rw[c6k (by rw[hbl];exact hin)];exact HS.out)
          by_cases hA:(o:Int)≤32 * (i:Int)+(j:Int)
          ·have hB:¬32 * (i:Int)+(j:Int)-(o:Int)<(m:Int):=by omega
           go_wp2_with fail
           go_roundw
           case rel=>exact⟨j+1,hh,by omega,by go_num,rfl,ι (HH.out.trans HT.out.symm),Sn,HBl⟩
           case measure=>simp[intOf];omega
          ·go_wp2_with fail
           go_roundw
           case rel=>exact⟨j+1,hh,by omega,by go_num,rfl,ι (HH.out.trans HT.out.symm),Sn,HBl⟩
           case measure=>simp[intOf];omega
        ·obtain rfl:j=32:=by omega
         have HHB:Hid (hh=hitB o m i):=ι (HH.out.trans (d1g _ _ _))
         have SN:Hid (At wr gs (putL sO o b i)):=ι (by rw[← c9f];exact HS.out)
         have BW:Hid (Below W2.heap.size W2 wr):=ι (HB8.out.trans (HBl.out.mono HGS.out))
         clear HH HS S9 B9
         cases hh with
         | false =>
          go_wp2_with fail
          go_roundw
          case rel=>exact⟨i+1,mm,q8,k8,by omega,hmm,by go_num,rfl,ι (by rw[c0x (by rw[hbl];exact HHB.out.symm)];exact HM.out),ι (by rw[c0x (by rw[hbl];exact HHB.out.symm)];exact dsk.a0o HO.out (by rw[hgs];exact HBl.out)),BW⟩
          case measure=>simp[intOf];omega
         | true =>
          have hyc:=(HY.out.later BW.out).cellb (i:=i) (by rw[HYK.out.four];exact hlt)
          have hyb9:=HYB2.out i
          obtain⟨yb,hyb2⟩:∃yb,y.b.getD i 0=yb:=⟨_,rfl⟩
          have hps:=b5y HSO.out HBB.out o i
          have HONE:Hid (oneW L n y had o b i=⟨40+yb,putL sO o b i,1,n,0⟩):=ι (by unfold oneW;rw[HOW.out,hyb2])
          rw[hyb2] at hyc hyb9
          obtain⟨hyb0,hyb1⟩:=hyb9
          have HYC:=ι hyc
          generalize putL sO o b i=sN at *
          have HPS:=ι hps
          have HLO:=ι (dsk.a0o HO.out (show Below _ _ wr.drew from(show Below _ _ wr by rw[hgs];exact HBl.out).drew))
          have HNQ:Hid (∀x,(Value.slice q8 mm k8).ownBlock=some x→W2.heap.size≤x∧x<gs):=ι fun x hx=>by
           have:=dsk.a2f HO.out hx
           rwa [hgs] at this
          have hgsz:Hid (gs<wr.heap.size):=ι (Array.getElem?_eq_some_iff.1 SN.out).1
          have hgyW:Hid (gy<W2.heap.size):=ι (c7o HY.out)
          have HNC:Hid (∀v,dsk.Touch (fun x=>(Value.slice q8 mm k8).ownBlock=some x) wr.drew v→v.cell? ⟨gy,2+i,none⟩=some (.int .i64 yb)):=ι fun v hv =>
           (hv.cell (p:=⟨gy,2+i,none⟩) (by have h8:=BW.out.size;have h9:=hgyW.out;show gy<wr.heap.size;omega) (fun hh=>by have h8:W2.heap.size≤gy:=(HNQ.out _ hh).1;have h9:=hgyW.out;omega)).trans HYC.out
          have HSA:Hid (∀v,dsk.Touch (fun x=>(Value.slice q8 mm k8).ownBlock=some x) wr.drew v→At v gs sN):=ι fun v hv=>(hv.block _ hgsz.out (fun hh=>by have h8:=(HNQ.out _ hh).2;omega)).trans SN.out
          have HWS:Hid (W2.heap.size≤wr.heap.size):=ι BW.out.size
          have HM4:Hid (mm≤i):=ι (by rw[HM.out];exact c8u i)
          have HWP:Hid (IntKind.i64.wrap (IntKind.i64.wrap (41+yb)-1)=40+yb):=ι (by
           have h1:IntKind.i64.wrap (41+yb)=41+yb:=by
            simp[IntKind.wrap,IntKind.signed,IntKind.bits]
            omega
           have h2:IntKind.i64.wrap (40+yb)=40+yb:=by
            simp[IntKind.wrap,IntKind.signed,IntKind.bits]
            omega
           rw[h1,show 41+yb-1=40+yb by omega,h2])
          clear hyb2 hyc hps SN hyb HYC
          go_upto_region 33 with fail
          have h0:=dsk.Touch.refl (fun x=>(Value.slice q8 mm k8).ownBlock=some x) wr.drew
          have b0:Below wr.drew.heap.size wr.drew wr.drew:=Below.refl _ _
          refine wp_region_held_drew (S:=dsk.Touch (fun x=>(Value.slice q8 mm k8).ownBlock=some x) wr.drew) (by kernel_rfl) h0 (fun hH0 => ?_)
          refine tk 0 rfl ?_
          refine tk 1 rfl ?_
          refine tk 2 rfl ?_
          refine tk 3 rfl ?_
          refine tkv 4 rfl (dsk.a0l (by rfl) 3 _ Tryz.underlying3 rfl _ rfl gy (2+i) rfl (.int .i64 yb) (fun w' hw=>HNC.out w' hw)) ?_
          refine tk 5 rfl ?_
          refine tk 6 rfl ?_
          refine tkv 7 rfl (a3v (by rfl) _ rfl gs 0 rfl sN HPS.out.1 (fun w' hw=>(HSA.out w' hw).range)) ?_
          refine tk 8 rfl ?_
          refine tk 9 rfl ?_
          refine tkv 10 rfl (dsk.a3s (by rfl) 99 #[(0,Operand.tmp 136),(1,Operand.tmp 137),(2,Operand.tmp 139)] rfl [(0,.int .i64 (IntKind.i64.wrap (IntKind.i64.wrap (41+yb)-1))),(1,.agg (u8s sN).toArray),(2,.agg #[.int .i64 1,.int .i64 n])] rfl _ (a7s (IntKind.i64.wrap (IntKind.i64.wrap (41+yb)-1)) 1 n sN HPS.out)) ?_
          refine rd 11 rfl (fun K hK => ?_)
          refine dsk.a3k dsk.elem_wrs (by decide) (by rfl) (.tmp 140) rfl (Wr.c (⟨IntKind.i64.wrap (IntKind.i64.wrap (41+yb)-1),sN,1,n,0⟩:Wr)) rfl (Wr.c_len HPS.out) ?_
          have h1:dsk.Touch (fun x=>(Value.slice q8 mm k8).ownBlock=some x) wr.drew (wr.drew.alloc (.cells (Wr.c (⟨IntKind.i64.wrap (IntKind.i64.wrap (41+yb)-1),sN,1,n,0⟩:Wr)).toArray 99)):=(h0).alloc _
          have RL:=dsk.a1r wr.drew 99 36 (Wr.c (⟨IntKind.i64.wrap (IntKind.i64.wrap (41+yb)-1),sN,1,n,0⟩:Wr)) (Wr.c_len HPS.out)
          have HO7:=ι (dsk.a0o (w:=wr.drew) HLO.out (a0b b0 (.cells (Wr.c (⟨IntKind.i64.wrap (IntKind.i64.wrap (41+yb)-1),sN,1,n,0⟩:Wr)).toArray 99)))
          have BX:=ι (a0b b0 (.cells (Wr.c (⟨IntKind.i64.wrap (IntKind.i64.wrap (41+yb)-1),sN,1,n,0⟩:Wr)).toArray 99))
          refine hK.out _ _ ?_ (fun hHeld => ?_)
          ·exact h1
          clear hK K
          try simp only[Act.put,List.setIfInBounds_toArray,List.set_cons_zero,List.set_cons_succ]
          refine rd 12 rfl (fun K hK => ?_)
          refine dsk.a2b dsk.elem_wrs (by rfl) (.tmp 130) (.tmp 141) rfl W2.heap.size (.slice q8 mm k8) mm _ rfl HO7.out _ 1 (Wr.c (⟨IntKind.i64.wrap (IntKind.i64.wrap (41+yb)-1),sN,1,n,0⟩:Wr)) rfl RL (dsk.a3i (⟨IntKind.i64.wrap (IntKind.i64.wrap (41+yb)-1),sN,1,n,0⟩:Wr)) (by have:=HM4.out;omega) (by have h8:=BX.out.size;exact Nat.le_trans HWS.out h8) ?_
          intro pa ca w7 ho7 hb7 ht7
          have HO8:=ι ho7
          have BY:=ι hb7
          have h2:=(h1).trans ht7
          clear ho7
          dsimp only
          refine hK.out _ _ ?_ (fun hHeld => ?_)
          ·exact h2
          clear hK K
          try simp only[Act.put,List.setIfInBounds_toArray,List.set_cons_zero,List.set_cons_succ]
          refine tk 13 rfl ?_
          refine wpAnyH_done (by kernel_rfl) ?_ _
          have HOX:Hid (rows.Own w7 W2.heap.size 99 36 (.slice pa (mm+1) ca) (mm+1) (wrsC (blksW L n y had o b (i+1)))):=ι (by rw[b5u (by rw[hbl];exact HHB.out.symm),dsk.b7c,HONE.out,← HWP.out];exact HO8.out)
          have BZ:Hid (Below W2.heap.size W2 w7):=ι ((BW.out.trans (((Below.refl _ wr).drew.mono HWS.out).trans (BX.out.mono HWS.out))).trans BY.out)
          clear HO8
          go_wp2_with fail
          go_roundw
          case rel=>exact⟨i+1,mm+1,pa,ca,by omega,by have:=HM4.out;omega,by go_num,rfl,ι (by rw[b5u (by rw[hbl];exact HHB.out.symm),List.length_append,← HM.out];rfl),HOX,BZ⟩
          case measure=>simp[intOf];omega
     ·obtain rfl:i=4:=by omega
      have B9:=ι (HB.out.trans (HB8.out.mono HB.out.size))
      have HYe:=ι (HY.out.later HB8.out)
      have HXe:=ι (HAx.out.later HB8.out)
      have HM4:=ι hmm
      have HGG:Hid (g<W2.heap.size):=ι (Nat.lt_of_lt_of_le HGW.out HB.out.size)
      have HOKS:=ι (d0y (n:=n) (had:=had) (o:=o) (i:=4) HSEC.out HYB2.out HBB.out hx3 hx4)
      have HWZ:=ι HB8.out.size
      have hEQ:=fun w'=>b4s w' HYK.out.four H4.out
      have HV:=HYV.out
      generalize blksW L n y had o b 4=bw at *
      by_cases hyx:y=x
      ·rw[if_pos hyx,List.append_nil] at HV
       subst HV
       rw[decide_eq_true hyx] at hEQ
       have HD:=ι (HDO.out bw q8 mm k8 wr B9.out (by omega) (rows.Own.rd HO.out) (fun a n1 c2 hv _=>by cases hv;have h8:=(dsk.a2f HO.out (k:=a.block) rfl).1;have h9:=HGG.out;show a.block≠g;omega) HOKS.out)
       clear hyx HYV HO HM
       go_wp2_with (first|(refine a0s rfl (.tmp 13) rfl gy rfl y HYK.out.four HYe.out ?_)|(refine a0s rfl (.tmp 11) rfl gx rfl x H4.out HXe.out ?_)|(go_at_call 66;refine HD.out.mono ?_;rintro e w9 hd9;have D9:=ι (a1o B9.out hd9);obtain⟨rfl,_⟩:=hd9))
       go_ret
       exact D9.out
      ·rw[if_neg hyx] at HV
       rw[decide_eq_false hyx] at hEQ
       have HOI:=ι fun w'=>b4r n (by omega) y HYK.out 2 n w'
       rw[show (⟨1+n,inoV y,2,n,0⟩:Wr)=wIno n y from rfl] at HOI
       have OX:=ι (a8p (n:=n) (x:=y) (by omega) HYK.out.four)
       generalize wIno n y=X at *
       subst HV
       have HD2:=ι fun pa ca wa (ho:rows.Own wa W2.heap.size 99 36 (.slice pa (mm+1) ca) (mm+1) (wrsC bw++X.c)) (hb:Below w.heap.size w wa)=>HDO.out (bw++[X]) pa (mm+1) ca wa hb (by omega) (by rw[dsk.b7c];exact rows.Own.rd ho) (fun a n1 c2 hv _=>by cases hv;have h8:=(dsk.a2f ho (k:=a.block) rfl).1;have h9:=HGG.out;show a.block≠g;omega) (fun z hz=>by
        rcases List.mem_append.1 hz with hz|hz
        ·exact HOKS.out z hz
        ·rw[List.mem_singleton.1 hz];exact OX.out)
       clear hyx HYV HM HDO
       go_wp2_with (first|(refine a0s rfl (.tmp 13) rfl gy rfl y HYK.out.four HYe.out ?_)|(refine a0s rfl (.tmp 11) rfl gx rfl x H4.out HXe.out ?_)|(go_at_call 65;refine(HOI.out _).mono ?_;rintro e w7 ⟨rfl,hb⟩;have B7:=ι hb;clear hb)|(refine dsk.a0q dsk.elem_wrs (by decide) rfl (.tmp 151) rfl X.c rfl (Wr.c_len OX.out.1) ?_)|(at_builtin;refine a5s dsk.elem_wrs rfl (.tmp 146) (.tmp 152) rfl W2.heap.size (.slice q8 mm k8) mm _ rfl (dsk.a0o HO.out (a0b B7.out (.cells X.c.toArray 99))) _ 1 X.c rfl (dsk.a1r w7 99 36 X.c (Wr.c_len OX.out.1)) (dsk.a3i X) (by have:=HM4.out;omega) (Nat.le_trans HWZ.out (a0b B7.out (.cells X.c.toArray 99)).size) ?_;intro pa ca wa ho hba;have HOA:=ι ho;have BA:=ι (B9.out.trans (((a0b B7.out (.cells X.c.toArray 99)).mono B9.out.size).trans (hba.mono HB.out.size)));clear ho hba)|(go_at_call 66;refine(HD2.out _ _ _ HOA.out BA.out).mono ?_;rintro e w9 hd9;have D9:=ι (a1o BA.out hd9);obtain⟨rfl,_⟩:=hd9))
       go_ret
       exact D9.out
end fs
namespace fs
set_option maxRecDepth 100000
open Go.ChangeShapes Go.WideShapes Go.ChangeAt Go.RowKit
open rows
open sec
open dsk (St Wr Wr.c Wr.c_len barrier RefIs RefAt RefDone grow a0q elem_wrs)
open ly
open pa
open lk
open al
theorem a4d{S:Nat→Prop}{g:Nat}{w w1:World}{st1:St}{r:Int×St}{e:Ending}{w':World}(h1:RefIs w1 (grow S w w1) g st1)(ht:dsk.Touch (· = g) w w1)(h:RefDone (grow S w w1) g w1 r e w'):RefDone S g w r e w':=by
 obtain⟨e1,e2,e3⟩:=h
 refine⟨e1,a4y e2 fun b hb => ?_,ht.trans e3⟩
 have z1:=ht.size
 have z2:w1.heap.size≤w'.heap.size:=e3.size
 rcases hb with(hb|hb)|hb
 ·exact Or.inl hb
 ·exact Or.inr ⟨hb.1,by omega⟩
 ·exact Or.inr ⟨by have:w1.heap.size≤b:=hb.1;omega,hb.2⟩
theorem b3z(o:Option Nat):∃z b,optV o = .tuple #[.int .i64 z,.bool b]:=by
 cases o
 ·exact⟨_,_,rfl⟩
 ·exact⟨_,_,rfl⟩
theorem a5z{st:St}{k:Nat}(h:st.good k):(barrier st).2.good (k+1):=by
 unfold barrier
 split
 ·exact⟨h.ss,h.n1,h.ws,h.es,by have:=h.wn;show st.wait.length≤k+1;omega,by have:=h.ln;show st.log.length≤k+1;omega,h.bn,⟨h.ep.1,by have:=h.ep.2;show st.ep≤((k+1:Nat):Int);omega⟩,⟨by have:=h.asked.1;show 0≤st.asked+1;omega,by have:=h.asked.2;show st.asked+1≤((k+1:Nat):Int);omega⟩⟩
 ·refine⟨h.ss,h.n1,h.ws,fun e he => ?_,by have:=h.wn;show st.wait.length≤k+1;omega,by have:=h.ln;simp;omega,h.bn,⟨by have:=h.ep.1;show 0≤st.ep+1;omega,by have:=h.ep.2;show st.ep+1≤((k+1:Nat):Int);omega⟩,⟨by have:=h.asked.1;show 0≤st.asked+1;omega,by have:=h.asked.2;show st.asked+1≤((k+1:Nat):Int);omega⟩⟩
  rcases List.mem_append.1 he with he|he
  ·exact h.es e he
  ·rw[List.mem_singleton.1 he];exact⟨a0p,by simp⟩
set_option maxRecDepth 100000 in
set_option maxHeartbeats 60000000 in
theorem b8b(S:Nat→Prop)(g:Nat)(st:St)(w:World)(h:RefIs w S g st)(k:Nat)(hg:st.good k)(hk:k+20≤900)(s t:ByteArray)(hsz:s.size≤100000)(htz:t.size≤100000) :
  Calls Tryz.prog 19 #[.pointer (some ⟨g,0,none⟩),.string s,.string t] w (RefDone S g w (renameV st s t)):=by
 have HR:=ι h
 have HPS:=ι fun w=>a8j s w hsz
 have HPT:=ι fun w=>a8j t w htz
 have HN:=ι fun w1 (hb:Below w.heap.size w w1)=>a5m (a0u h hb) hg (by omega)
 have hsec:=a3t hg
 have hn1:=hg.n1
 have HLS:=ι fun q c w' (hr:Rd w' 32 (.slice q st.safe.length c) st.safe.length (cellsOf (nowL st)))=>a6s q st.safe.length c (nowL st) w' hr hsec (by omega) s hsz
 have HLT:=ι fun q c w' (hr:Rd w' 32 (.slice q st.safe.length c) st.safe.length (cellsOf (nowL st)))=>a6s q st.safe.length c (nowL st) w' hr hsec (by omega) t htz
 have hpa:=a3b hsec s
 have hpb:=a3b hsec t
 have hnb:=a6k (nowL st) t
 have HE:=ι fun(i:Int) (hi:0≤i∧i<24) q c w' (hr:Rd w' 32 (.slice q st.safe.length c) st.safe.length (cellsOf (nowL st)))=>a4q q st.safe.length c (nowL st) w' hr hsec (by omega) i (a0h (by omega))
 have HI:=ι fun(i:Int) (hi:0≤i∧i≤255) q c w' (hr:Rd w' 32 (.slice q st.safe.length c) st.safe.length (cellsOf (nowL st)))=>a5o q st.safe.length c (nowL st) w' hr hsec (by omega) i (a0h (by omega))
 have H4:=fun i=>a1m hsec i
 have HF:=fun i=>a3x hsec i
 have HSL:=ι fun q c w' (hr:Rd w' 32 (.slice q st.safe.length c) st.safe.length (cellsOf (nowL st)))=>c0v q st.safe.length c (nowL st) w' hr hsec (by omega)
 have HDE:=ι fun w=>c0b s t w hsz htz
 obtain⟨V,hV⟩:∃V,renameV st s t=V:=⟨_,rfl⟩
 rw[hV]
 unfold renameV at hV
 dsimp only at hV
 have HG:=ι hg
 clear hg
 generalize nowL st=L at *
 generalize st.safe.length=n at *
 obtain⟨e1,he1⟩:∃e,errP (bys s)=e:=⟨_,rfl⟩
 obtain⟨e2,he2⟩:∃e,errP (bys t)=e:=⟨_,rfl⟩
 rw[he1] at hV HPS
 rw[he2] at hV HPT
 go_enter Tryz.func19,Tryz.ntmps19
 go_upto_region 2 with(go_at_call 71;refine(HPS.out _).mono ?_;rintro e w1 ⟨rfl,hb⟩;have B1:=ι (hb);clear hb)
 by_cases hc1:e1=0
 ·rw[if_neg (fun hh=>hh hc1)] at hV
  subst hc1
  go_upto_region 5 with(go_at_call 71;refine(HPT.out _).mono ?_;rintro e w2 ⟨rfl,hb⟩;have B2:=ι (a0a B1.out hb);clear hb)
  by_cases hc2:e2=0
  ·rw[if_neg (fun hh=>hh hc2)] at hV
   subst hc2
   obtain⟨Pa,hPa⟩:∃P,placeV L s=P:=⟨_,rfl⟩
   rw[hPa] at hV HLS hpa
   obtain⟨a,ea⟩:=Pa
   simp only at hV HLS hpa
   go_upto_region 9 with(first|(go_at_call 24;refine(HN.out _ B2.out).mono ?_;rintro e w3 ⟨q,c,rfl,hr,hb⟩;have R3:=ι hr;have B3:=ι (a0a B2.out hb);clear hr hb)|(go_at_call 62;refine(HLS.out _ _ _ R3.out).mono ?_;rintro e w4 ⟨rfl,hb⟩;have B4:=ι (a0a B3.out hb);have R4:=ι (R3.out.later hb);clear hb)|(refine a1d rfl (.tmp 14) (.tmp 50) rfl rfl w4.heap.size a spot0 rfl rfl (a3d w4) ?_;intro w5 hA hB;have hb:=(a0b (Below.refl _ w4) _).trans hB;have B5:=ι (a0a B4.out hb);have R5:=ι (R4.out.later hb);have SA5:=ι hA;clear hA hB hb))
   by_cases hc3:ea=0
   ·rw[if_neg (fun hh=>hh hc3)] at hV
    subst hc3
    have a3:=SA5.out.cell3
    cases hais:a.is with
    | false =>
     rw[hais,if_pos rfl] at hV
     rw[hais] at a3
     subst hV
     go_wp2_with fail
     go_ret
     exact a0n HR.out B5.out
    | true =>
     rw[hais,if_neg (by decide)] at hV
     rw[hais] at a3
     obtain⟨Pb,hPb⟩:∃P,placeV L t=P:=⟨_,rfl⟩
     rw[hPb] at hV HLT hpb hnb
     obtain⟨b,eb⟩:=Pb
     simp only at hV HLT hpb hnb
     go_upto_region 14 with(first|(go_at_call 62;refine(HLT.out _ _ _ R5.out).mono ?_;rintro e w6 ⟨rfl,hb⟩;have B6:=ι (a0a B5.out hb);have R6:=ι (R5.out.later hb);have SA6:=ι (SA5.out.later hb);clear hb)|(refine a1d rfl (.tmp 16) (.tmp 62) rfl rfl w6.heap.size b spot0 rfl rfl (a3d w6) ?_;intro w7 hA hB;have hb:=(a0b (Below.refl _ w6) _).trans hB;have B7:=ι (a0a B6.out hb);have R7:=ι (R6.out.later hb);have SA7:=ι (SA6.out.later hb);have SB7:=ι hA;clear hA hB hb))
     clear a3
     by_cases hc4:eb=0
     ·rw[if_neg (fun hh=>hh hc4)] at hV
      subst hc4
      have hf3:=fieldE3 (entAt L a.k)
      have htf:=HF a.k
      have HEa:=ι (HE.out a.k ⟨hpa.2.2.1,hpa.2.2.2⟩)
      obtain⟨tg,htg⟩:∃tg,(entAt L a.k).target=tg:=⟨_,rfl⟩
      rw[htg] at hf3 htf hV
      have HIa:=ι (HI.out tg ⟨htf.2.2.1,htf.2.2.2⟩)
      have hf1:=fieldI0 (inoAt L tg) (H4 tg)
      obtain⟨kd,hkd⟩:∃kd,(inoAt L tg).kind=kd:=⟨_,rfl⟩
      rw[hkd] at hf1 hV
      have hf4:=fieldE3 (entAt L b.k)
      have htb:=HF b.k
      have HEb:=ι (HE.out b.k ⟨hpb.2.2.1,hpb.2.2.2⟩)
      obtain⟨tb,htbE⟩:∃tb,(entAt L b.k).target=tb:=⟨_,rfl⟩
      rw[htbE] at hf4 htb hV
      have HIb:=ι (HI.out tb ⟨htb.2.2.1,htb.2.2.2⟩)
      have hf5:=fieldI0 (inoAt L tb) (H4 tb)
      obtain⟨kb,hkb⟩:∃kb,(inoAt L tb).kind=kb:=⟨_,rfl⟩
      rw[hkb] at hf5 hV
      generalize aggE (entAt L a.k)=xa at HEa hf3
      generalize aggI (inoAt L tg)=ya at HIa hf1
      generalize aggE (entAt L b.k)=xb at HEb hf4
      generalize aggI (inoAt L tb)=yb at HIb hf5
      have a2:=SA7.out.cell2
      have b2:=SB7.out.cell2
      have b3:=SB7.out.cell3
      clear htg hkd htbE hkb HE HI HF H4 hPa hPb
      have HGL:Hid (g<w.heap.size):=ι (by obtain⟨vs,vw,vl,vb,h⟩:=h;exact dsk.RefAt.lt h)
      by_cases hst:s=t
      ·have hsb:(s.toList == t.toList)=true:=by rw[hst];simp
       rw[if_pos (Or.inl hst)] at hV
       subst hV
       clear hst
       go_wp2_with fail
       go_ret
       exact a0n HR.out B7.out
      ·have hsb:(s.toList == t.toList)=false:=by
        rw[beq_eq_false_iff_ne]
        intro e
        exact hst (b4k e)
       cases hbis:b.is with
       | false =>
        rw[hbis] at b3
        rw[hbis,if_neg (by simp[hst])] at hV
        clear hst
        by_cases hk2:kd=2
        ·subst hk2
         cases hdp:deeperB s t with
         | true =>
          rw[hdp,if_pos ⟨by simp,rfl⟩] at hV
          rw[hdp] at HDE
          subst hV
          go_wp2_with (first|(go_at_call 72;(with_reducible refine(HEa.out _ _ _ R7.out).mono ?_);rintro e w8 ⟨rfl,hb⟩;have B8:=ι (a0a B7.out hb);have R8:=ι (R7.out.later hb);have SA8:=ι (SA7.out.later hb);have SB8:=ι (SB7.out.later hb);clear hb)|(go_at_call 73;(with_reducible refine(HIa.out _ _ _ R8.out).mono ?_);rintro e w9 ⟨rfl,hb⟩;have B9:=ι (a0a B8.out hb);have R9:=ι (R8.out.later hb);have SA9:=ι (SA8.out.later hb);have SB9:=ι (SB8.out.later hb);have g0:=SB9.out.cell0;have g1:=SB9.out.cell1;clear hb)|(go_at_call 74;(with_reducible refine(HDE.out _).mono ?_);rintro e wA ⟨rfl,hb⟩;have BA:=ι (a0a B9.out hb);have RA:=ι (R9.out.later hb);have SAA:=ι (SA9.out.later hb);have SBA:=ι (SB9.out.later hb);have k0:=SBA.out.cell0;have k1:=SBA.out.cell1;clear hb))
          go_ret
          exact a0n HR.out BA.out
         | false =>
          rw[hdp,if_neg (by simp)] at hV
          rw[hdp] at HDE
          rw[if_neg (by decide)] at hV
          by_cases hdd:a.dir=b.dir
          ·rw[if_pos hdd] at hV
           obtain⟨zk,bk,hzk⟩:=b3z (frE L)
           rw[hzk] at HSL
           clear hzk
           have okx:=a2x (k:=a.k) (f:=b.dir) (x:=⟨true,b.dir,b.name,tg⟩) (by omega) (by omega)
           have HOx:=ι fun w'=>a3n a.k (by omega) ⟨true,b.dir,b.name,tg⟩ ⟨a0h (by show 0≤b.dir∧b.dir<256;omega),a0h (by show 0≤tg∧tg<256;omega),by show b.name.size≤maxLen;unfold maxLen;omega⟩ b.dir w'
           have HDx:=ι fun w1 hb=>a8h HR.out HG.out (by omega) _ okx w1 hb
           generalize wEnt a.k ⟨true,b.dir,b.name,tg⟩ b.dir=x1 at *
           have OX:=ι okx
           subst hV
           have hdb:(a.dir == b.dir)=true:=by rw[hdd];simp
           clear okx hdd
           go_wp2_with (first|(go_at_call 72;(with_reducible refine(HEa.out _ _ _ R7.out).mono ?_);rintro e w8 ⟨rfl,hb⟩;have B8:=ι (a0a B7.out hb);have R8:=ι (R7.out.later hb);have SA8:=ι (SA7.out.later hb);have SB8:=ι (SB7.out.later hb);clear hb)|(go_at_call 73;(with_reducible refine(HIa.out _ _ _ R8.out).mono ?_);rintro e w9 ⟨rfl,hb⟩;have B9:=ι (a0a B8.out hb);have R9:=ι (R8.out.later hb);have SA9:=ι (SA8.out.later hb);have SB9:=ι (SB8.out.later hb);have g0:=SB9.out.cell0;have g1:=SB9.out.cell1;clear hb)|(go_at_call 74;(with_reducible refine(HDE.out _).mono ?_);rintro e wA ⟨rfl,hb⟩;have BA:=ι (a0a B9.out hb);have RA:=ι (R9.out.later hb);have SAA:=ι (SA9.out.later hb);have SBA:=ι (SB9.out.later hb);have k0:=SBA.out.cell0;have k1:=SBA.out.cell1;clear hb)|(go_at_call 64;refine(HSL.out _ _ _ (RA.out.later (a0b (Below.refl _ _) _))).mono ?_;rintro e wB ⟨rfl,hb⟩;have hbW:=a0a (a0b (Below.refl wA.heap.size wA) _) hb;have BB:=ι (a0a BA.out hbW);have RB:=ι (RA.out.later hbW);have SAB:=ι (SAA.out.later hbW);have SBB:=ι (SBA.out.later hbW);have XB:=ι (show AtE wB wA.heap.size ⟨true,b.dir,b.name,tg⟩ from(a1f wA ⟨true,b.dir,b.name,tg⟩).later hb);have d0:=SAB.out.cell0;have d2:=SAB.out.cell2;have e0:=SBB.out.cell0;have e2:=SBB.out.cell2;have e3:=SBB.out.cell3;rw[hbis] at e3;clear hb hbW)|(refine a0t rfl (.tmp 20) rfl wA.heap.size rfl ⟨true,b.dir,b.name,tg⟩ XB.out ?_)|(go_at_call 67;refine(HOx.out _).mono ?_;rintro e wC ⟨rfl,hb⟩;have BC:=ι (a0a BB.out hb);clear hb)|(refine a0q elem_wrs (by decide) rfl (.tmp 136) rfl x1.c rfl (Wr.c_len OX.out.1) ?_)|(go_at_call 66;refine(HDx.out wC BC.out).mono ?_;rintro e wD hd;have DD:=ι (a1o (a0b BC.out _) hd);obtain⟨rfl,_⟩:=hd))
           go_ret
           exact DD.out
          ·rw[if_neg hdd] at hV
           have hdb:(a.dir == b.dir)=false:=beq_eq_false_iff_ne.2 hdd
           cases hfe:frE L with
           | none =>
            rw[hfe] at hV HSL
            rw[a2h] at HSL
            simp only at hV
            subst hV
            go_wp2_with (first|(go_at_call 72;(with_reducible refine(HEa.out _ _ _ R7.out).mono ?_);rintro e w8 ⟨rfl,hb⟩;have B8:=ι (a0a B7.out hb);have R8:=ι (R7.out.later hb);have SA8:=ι (SA7.out.later hb);have SB8:=ι (SB7.out.later hb);clear hb)|(go_at_call 73;(with_reducible refine(HIa.out _ _ _ R8.out).mono ?_);rintro e w9 ⟨rfl,hb⟩;have B9:=ι (a0a B8.out hb);have R9:=ι (R8.out.later hb);have SA9:=ι (SA8.out.later hb);have SB9:=ι (SB8.out.later hb);have g0:=SB9.out.cell0;have g1:=SB9.out.cell1;clear hb)|(go_at_call 74;(with_reducible refine(HDE.out _).mono ?_);rintro e wA ⟨rfl,hb⟩;have BA:=ι (a0a B9.out hb);have RA:=ι (R9.out.later hb);have SAA:=ι (SA9.out.later hb);have SBA:=ι (SB9.out.later hb);have k0:=SBA.out.cell0;have k1:=SBA.out.cell1;clear hb)|(go_at_call 64;refine(HSL.out _ _ _ (RA.out.later (a0b (Below.refl _ _) _))).mono ?_;rintro e wB ⟨rfl,hb⟩;have hbW:=a0a (a0b (Below.refl wA.heap.size wA) _) hb;have BB:=ι (a0a BA.out hbW);have RB:=ι (RA.out.later hbW);have SAB:=ι (SAA.out.later hbW);have SBB:=ι (SBA.out.later hbW);have XB:=ι (show AtE wB wA.heap.size ⟨true,b.dir,b.name,tg⟩ from(a1f wA ⟨true,b.dir,b.name,tg⟩).later hb);have d0:=SAB.out.cell0;have d2:=SAB.out.cell2;have e0:=SBB.out.cell0;have e2:=SBB.out.cell2;have e3:=SBB.out.cell3;rw[hbis] at e3;clear hb hbW))
            go_ret
            exact a0n HR.out BB.out
           | some kk =>
            rw[hfe] at hV HSL
            rw[a2i] at HSL
            have hkk24:kk<24:=(a2z hfe).1
            simp only at hV
            have okx:=a2x (k:=(kk:Int)) (f:=b.dir) (x:=⟨true,b.dir,b.name,tg⟩) (by omega) (by omega)
            have oky:=a2x (k:=a.k) (f:=a.dir) (x:=ent0) (by omega) (by omega)
            have HOx:=ι fun w'=>a3n (kk:Int) (by omega) ⟨true,b.dir,b.name,tg⟩ ⟨a0h (by show 0≤b.dir∧b.dir<256;omega),a0h (by show 0≤tg∧tg<256;omega),by show b.name.size≤maxLen;unfold maxLen;omega⟩ b.dir w'
            have HOy:=ι fun w'=>a3n a.k (by omega) ent0 a8w a.dir w'
            have HDx:=ι fun w1 hb=>a8h HR.out HG.out (by omega) _ okx w1 hb
            have hgd:=a8o (ws:=[wEnt (kk:Int) ⟨true,b.dir,b.name,tg⟩ b.dir]) (fun y hy=>by rw[List.mem_singleton.1 hy];exact okx.1) HG.out
            generalize wEnt (kk:Int) ⟨true,b.dir,b.name,tg⟩ b.dir=x1 at *
            generalize wEnt a.k ent0 a.dir=y1 at *
            have OX:=ι okx
            have OY:=ι oky
            unfold moveR at hV
            obtain⟨r1,hr1⟩:∃r,doR st [x1]=r:=⟨_,rfl⟩
            rw[hr1] at hV HDx hgd
            obtain⟨q1,s1⟩:=r1
            simp only at hV hgd
            have HG1:=ι hgd
            clear okx oky hr1 hgd
            have HV:=ι hV
            clear hV
            go_upto_region 34 with(first|(go_at_call 72;(with_reducible refine(HEa.out _ _ _ R7.out).mono ?_);rintro e w8 ⟨rfl,hb⟩;have B8:=ι (a0a B7.out hb);have R8:=ι (R7.out.later hb);have SA8:=ι (SA7.out.later hb);have SB8:=ι (SB7.out.later hb);clear hb)|(go_at_call 73;(with_reducible refine(HIa.out _ _ _ R8.out).mono ?_);rintro e w9 ⟨rfl,hb⟩;have B9:=ι (a0a B8.out hb);have R9:=ι (R8.out.later hb);have SA9:=ι (SA8.out.later hb);have SB9:=ι (SB8.out.later hb);have g0:=SB9.out.cell0;have g1:=SB9.out.cell1;clear hb)|(go_at_call 74;(with_reducible refine(HDE.out _).mono ?_);rintro e wA ⟨rfl,hb⟩;have BA:=ι (a0a B9.out hb);have RA:=ι (R9.out.later hb);have SAA:=ι (SA9.out.later hb);have SBA:=ι (SB9.out.later hb);have k0:=SBA.out.cell0;have k1:=SBA.out.cell1;clear hb)|(go_at_call 64;refine(HSL.out _ _ _ (RA.out.later (a0b (Below.refl _ _) _))).mono ?_;rintro e wB ⟨rfl,hb⟩;have hbW:=a0a (a0b (Below.refl wA.heap.size wA) _) hb;have BB:=ι (a0a BA.out hbW);have RB:=ι (RA.out.later hbW);have SAB:=ι (SAA.out.later hbW);have SBB:=ι (SBA.out.later hbW);have XB:=ι (show AtE wB wA.heap.size ⟨true,b.dir,b.name,tg⟩ from(a1f wA ⟨true,b.dir,b.name,tg⟩).later hb);have d0:=SAB.out.cell0;have d2:=SAB.out.cell2;have e0:=SBB.out.cell0;have e2:=SBB.out.cell2;have e3:=SBB.out.cell3;rw[hbis] at e3;clear hb hbW)|(refine a0t rfl (.tmp 20) rfl wA.heap.size rfl ⟨true,b.dir,b.name,tg⟩ XB.out ?_)|(go_at_call 67;refine(HOx.out _).mono ?_;rintro e wC ⟨rfl,hb⟩;have BC:=ι (a0a BB.out hb);have SAC:=ι (SAB.out.later hb);clear hb)|(refine a0q elem_wrs (by decide) rfl (.tmp 146) rfl x1.c rfl (Wr.c_len OX.out.1) ?_)|(go_at_call 66;refine(HDx.out wC BC.out).mono ?_;rintro e wD hd;have DD:=ι (a1o (a0b BC.out _) hd);have SAD:=ι (show AtS wD w4.heap.size a from(hd.2.2.block _ (Nat.lt_trans (Array.getElem?_eq_some_iff.1 SAC.out).1 (by rw[World.size_alloc];omega)) (fun e=>by have:=B4.out.size;have:=HGL.out;omega)).trans (SAC.out.later (a0b (Below.refl _ _) _)));obtain⟨rfl,_⟩:=hd))
            have hV:=HV.out
            clear HV
            by_cases hq1:q1=0
            ·rw[if_neg (fun hh=>hh hq1)] at hV
             subst hq1
             have hbar:=a5z HG1.out
             have HBA:=ι (dsk.rbarrier (grow S w wD) g s1 wD DD.out.2.1 (HG1.out.fine (by simp;omega)).few)
             obtain⟨r2,hr2⟩:∃r,barrier s1=r:=⟨_,rfl⟩
             rw[hr2] at hV hbar HBA
             obtain⟨q2,s2⟩:=r2
             simp only at hV hbar
             have HG2:=ι hbar
             clear hr2 hbar
             have HV:=ι hV
             clear hV
             go_upto_region 37 with(go_at_call 75;refine HBA.out.mono ?_;rintro e wE hd;have DE:=ι (a4d DD.out.2.1 DD.out.2.2 hd);have SAE:=ι (show AtS wE w4.heap.size a from(hd.2.2.block _ (Array.getElem?_eq_some_iff.1 SAD.out).1 (fun e=>by have:=B4.out.size;have:=HGL.out;omega)).trans SAD.out);obtain⟨rfl,_⟩:=hd;have m0:=SAE.out.cell0;have m2:=SAE.out.cell2)
             have hV:=HV.out
             clear HV
             by_cases hq2:q2=0
             ·rw[if_neg (fun hh=>hh hq2)] at hV
              subst hq2
              have HDy:=ι fun w1 hb=>a8h DE.out.2.1 HG2.out (by simp;omega) y1 OY.out w1 hb
              subst hV
              go_wp2_with (first|(go_at_call 67;refine(HOy.out _).mono ?_;rintro e wF ⟨rfl,hb⟩;have BF:=ι hb;clear hb)|(refine a0q elem_wrs (by decide) rfl (.tmp 163) rfl y1.c rfl (Wr.c_len OY.out.1) ?_)|(go_at_call 66;refine(HDy.out wF BF.out).mono ?_;rintro e wG hd;have DG:=ι (a4d DE.out.2.1 DE.out.2.2 (a1o (a0b BF.out _) hd));obtain⟨rfl,_⟩:=hd))
              go_ret
              exact DG.out
             ·rw[if_pos hq2] at hV
              subst hV
              have hqb:(q2 != 0)=true:=by simpa using hq2
              go_wp2_with fail
              go_ret
              exact DE.out
            ·rw[if_pos hq1] at hV
             subst hV
             have hqb:(q1 != 0)=true:=by simpa using hq1
             go_wp2_with fail
             go_ret
             exact DD.out
        ·have hkf:(kd == 2)=false:=beq_eq_false_iff_ne.2 hk2
         rw[if_neg (by simp[hk2])] at hV
         rw[if_neg (by decide)] at hV
         by_cases hdd:a.dir=b.dir
         ·rw[if_pos hdd] at hV
          obtain⟨zk,bk,hzk⟩:=b3z (frE L)
          rw[hzk] at HSL
          clear hzk
          have okx:=a2x (k:=a.k) (f:=b.dir) (x:=⟨true,b.dir,b.name,tg⟩) (by omega) (by omega)
          have HOx:=ι fun w'=>a3n a.k (by omega) ⟨true,b.dir,b.name,tg⟩ ⟨a0h (by show 0≤b.dir∧b.dir<256;omega),a0h (by show 0≤tg∧tg<256;omega),by show b.name.size≤maxLen;unfold maxLen;omega⟩ b.dir w'
          have HDx:=ι fun w1 hb=>a8h HR.out HG.out (by omega) _ okx w1 hb
          generalize wEnt a.k ⟨true,b.dir,b.name,tg⟩ b.dir=x1 at *
          have OX:=ι okx
          subst hV
          have hdb:(a.dir == b.dir)=true:=by rw[hdd];simp
          clear okx hdd
          go_wp2_with (first|(go_at_call 72;(with_reducible refine(HEa.out _ _ _ R7.out).mono ?_);rintro e w8 ⟨rfl,hb⟩;have B8:=ι (a0a B7.out hb);have R8:=ι (R7.out.later hb);have SA8:=ι (SA7.out.later hb);have SB8:=ι (SB7.out.later hb);clear hb)|(go_at_call 73;(with_reducible refine(HIa.out _ _ _ R8.out).mono ?_);rintro e w9 ⟨rfl,hb⟩;have B9:=ι (a0a B8.out hb);have R9:=ι (R8.out.later hb);have SA9:=ι (SA8.out.later hb);have SB9:=ι (SB8.out.later hb);have g0:=SB9.out.cell0;have g1:=SB9.out.cell1;clear hb)|(go_at_call 64;refine(HSL.out _ _ _ (R9.out.later (a0b (Below.refl _ _) _))).mono ?_;rintro e wB ⟨rfl,hb⟩;have hbW:=a0a (a0b (Below.refl w9.heap.size w9) _) hb;have BB:=ι (a0a B9.out hbW);have RB:=ι (R9.out.later hbW);have SAB:=ι (SA9.out.later hbW);have SBB:=ι (SB9.out.later hbW);have XB:=ι (show AtE wB w9.heap.size ⟨true,b.dir,b.name,tg⟩ from(a1f w9 ⟨true,b.dir,b.name,tg⟩).later hb);have d0:=SAB.out.cell0;have d2:=SAB.out.cell2;have e0:=SBB.out.cell0;have e2:=SBB.out.cell2;have e3:=SBB.out.cell3;rw[hbis] at e3;clear hb hbW)|(refine a0t rfl (.tmp 20) rfl w9.heap.size rfl ⟨true,b.dir,b.name,tg⟩ XB.out ?_)|(go_at_call 67;refine(HOx.out _).mono ?_;rintro e wC ⟨rfl,hb⟩;have BC:=ι (a0a BB.out hb);clear hb)|(refine a0q elem_wrs (by decide) rfl (.tmp 136) rfl x1.c rfl (Wr.c_len OX.out.1) ?_)|(go_at_call 66;refine(HDx.out wC BC.out).mono ?_;rintro e wD hd;have DD:=ι (a1o (a0b BC.out _) hd);obtain⟨rfl,_⟩:=hd))
          go_ret
          exact DD.out
         ·rw[if_neg hdd] at hV
          have hdb:(a.dir == b.dir)=false:=beq_eq_false_iff_ne.2 hdd
          cases hfe:frE L with
          | none =>
           rw[hfe] at hV HSL
           rw[a2h] at HSL
           simp only at hV
           subst hV
           go_wp2_with (first|(go_at_call 72;(with_reducible refine(HEa.out _ _ _ R7.out).mono ?_);rintro e w8 ⟨rfl,hb⟩;have B8:=ι (a0a B7.out hb);have R8:=ι (R7.out.later hb);have SA8:=ι (SA7.out.later hb);have SB8:=ι (SB7.out.later hb);clear hb)|(go_at_call 73;(with_reducible refine(HIa.out _ _ _ R8.out).mono ?_);rintro e w9 ⟨rfl,hb⟩;have B9:=ι (a0a B8.out hb);have R9:=ι (R8.out.later hb);have SA9:=ι (SA8.out.later hb);have SB9:=ι (SB8.out.later hb);have g0:=SB9.out.cell0;have g1:=SB9.out.cell1;clear hb)|(go_at_call 64;refine(HSL.out _ _ _ (R9.out.later (a0b (Below.refl _ _) _))).mono ?_;rintro e wB ⟨rfl,hb⟩;have hbW:=a0a (a0b (Below.refl w9.heap.size w9) _) hb;have BB:=ι (a0a B9.out hbW);have RB:=ι (R9.out.later hbW);have SAB:=ι (SA9.out.later hbW);have SBB:=ι (SB9.out.later hbW);have XB:=ι (show AtE wB w9.heap.size ⟨true,b.dir,b.name,tg⟩ from(a1f w9 ⟨true,b.dir,b.name,tg⟩).later hb);have d0:=SAB.out.cell0;have d2:=SAB.out.cell2;have e0:=SBB.out.cell0;have e2:=SBB.out.cell2;have e3:=SBB.out.cell3;rw[hbis] at e3;clear hb hbW))
           go_ret
           exact a0n HR.out BB.out
          | some kk =>
           rw[hfe] at hV HSL
           rw[a2i] at HSL
           have hkk24:kk<24:=(a2z hfe).1
           simp only at hV
           have okx:=a2x (k:=(kk:Int)) (f:=b.dir) (x:=⟨true,b.dir,b.name,tg⟩) (by omega) (by omega)
           have oky:=a2x (k:=a.k) (f:=a.dir) (x:=ent0) (by omega) (by omega)
           have HOx:=ι fun w'=>a3n (kk:Int) (by omega) ⟨true,b.dir,b.name,tg⟩ ⟨a0h (by show 0≤b.dir∧b.dir<256;omega),a0h (by show 0≤tg∧tg<256;omega),by show b.name.size≤maxLen;unfold maxLen;omega⟩ b.dir w'
           have HOy:=ι fun w'=>a3n a.k (by omega) ent0 a8w a.dir w'
           have HDx:=ι fun w1 hb=>a8h HR.out HG.out (by omega) _ okx w1 hb
           have hgd:=a8o (ws:=[wEnt (kk:Int) ⟨true,b.dir,b.name,tg⟩ b.dir]) (fun y hy=>by rw[List.mem_singleton.1 hy];exact okx.1) HG.out
           generalize wEnt (kk:Int) ⟨true,b.dir,b.name,tg⟩ b.dir=x1 at *
           generalize wEnt a.k ent0 a.dir=y1 at *
           have OX:=ι okx
           have OY:=ι oky
           unfold moveR at hV
           obtain⟨r1,hr1⟩:∃r,doR st [x1]=r:=⟨_,rfl⟩
           rw[hr1] at hV HDx hgd
           obtain⟨q1,s1⟩:=r1
           simp only at hV hgd
           have HG1:=ι hgd
           clear okx oky hr1 hgd
           have HV:=ι hV
           clear hV
           go_upto_region 34 with(first|(go_at_call 72;(with_reducible refine(HEa.out _ _ _ R7.out).mono ?_);rintro e w8 ⟨rfl,hb⟩;have B8:=ι (a0a B7.out hb);have R8:=ι (R7.out.later hb);have SA8:=ι (SA7.out.later hb);have SB8:=ι (SB7.out.later hb);clear hb)|(go_at_call 73;(with_reducible refine(HIa.out _ _ _ R8.out).mono ?_);rintro e w9 ⟨rfl,hb⟩;have B9:=ι (a0a B8.out hb);have R9:=ι (R8.out.later hb);have SA9:=ι (SA8.out.later hb);have SB9:=ι (SB8.out.later hb);have g0:=SB9.out.cell0;have g1:=SB9.out.cell1;clear hb)|(go_at_call 64;refine(HSL.out _ _ _ (R9.out.later (a0b (Below.refl _ _) _))).mono ?_;rintro e wB ⟨rfl,hb⟩;have hbW:=a0a (a0b (Below.refl w9.heap.size w9) _) hb;have BB:=ι (a0a B9.out hbW);have RB:=ι (R9.out.later hbW);have SAB:=ι (SA9.out.later hbW);have SBB:=ι (SB9.out.later hbW);have XB:=ι (show AtE wB w9.heap.size ⟨true,b.dir,b.name,tg⟩ from(a1f w9 ⟨true,b.dir,b.name,tg⟩).later hb);have d0:=SAB.out.cell0;have d2:=SAB.out.cell2;have e0:=SBB.out.cell0;have e2:=SBB.out.cell2;have e3:=SBB.out.cell3;rw[hbis] at e3;clear hb hbW)|(refine a0t rfl (.tmp 20) rfl w9.heap.size rfl ⟨true,b.dir,b.name,tg⟩ XB.out ?_)|(go_at_call 67;refine(HOx.out _).mono ?_;rintro e wC ⟨rfl,hb⟩;have BC:=ι (a0a BB.out hb);have SAC:=ι (SAB.out.later hb);clear hb)|(refine a0q elem_wrs (by decide) rfl (.tmp 146) rfl x1.c rfl (Wr.c_len OX.out.1) ?_)|(go_at_call 66;refine(HDx.out wC BC.out).mono ?_;rintro e wD hd;have DD:=ι (a1o (a0b BC.out _) hd);have SAD:=ι (show AtS wD w4.heap.size a from(hd.2.2.block _ (Nat.lt_trans (Array.getElem?_eq_some_iff.1 SAC.out).1 (by rw[World.size_alloc];omega)) (fun e=>by have:=B4.out.size;have:=HGL.out;omega)).trans (SAC.out.later (a0b (Below.refl _ _) _)));obtain⟨rfl,_⟩:=hd))
           have hV:=HV.out
           clear HV
           by_cases hq1:q1=0
           ·rw[if_neg (fun hh=>hh hq1)] at hV
            subst hq1
            have hbar:=a5z HG1.out
            have HBA:=ι (dsk.rbarrier (grow S w wD) g s1 wD DD.out.2.1 (HG1.out.fine (by simp;omega)).few)
            obtain⟨r2,hr2⟩:∃r,barrier s1=r:=⟨_,rfl⟩
            rw[hr2] at hV hbar HBA
            obtain⟨q2,s2⟩:=r2
            simp only at hV hbar
            have HG2:=ι hbar
            clear hr2 hbar
            have HV:=ι hV
            clear hV
            go_upto_region 37 with(go_at_call 75;refine HBA.out.mono ?_;rintro e wE hd;have DE:=ι (a4d DD.out.2.1 DD.out.2.2 hd);have SAE:=ι (show AtS wE w4.heap.size a from(hd.2.2.block _ (Array.getElem?_eq_some_iff.1 SAD.out).1 (fun e=>by have:=B4.out.size;have:=HGL.out;omega)).trans SAD.out);obtain⟨rfl,_⟩:=hd;have m0:=SAE.out.cell0;have m2:=SAE.out.cell2)
            have hV:=HV.out
            clear HV
            by_cases hq2:q2=0
            ·rw[if_neg (fun hh=>hh hq2)] at hV
             subst hq2
             have HDy:=ι fun w1 hb=>a8h DE.out.2.1 HG2.out (by simp;omega) y1 OY.out w1 hb
             subst hV
             go_wp2_with (first|(go_at_call 67;refine(HOy.out _).mono ?_;rintro e wF ⟨rfl,hb⟩;have BF:=ι hb;clear hb)|(refine a0q elem_wrs (by decide) rfl (.tmp 163) rfl y1.c rfl (Wr.c_len OY.out.1) ?_)|(go_at_call 66;refine(HDy.out wF BF.out).mono ?_;rintro e wG hd;have DG:=ι (a4d DE.out.2.1 DE.out.2.2 (a1o (a0b BF.out _) hd));obtain⟨rfl,_⟩:=hd))
             go_ret
             exact DG.out
            ·rw[if_pos hq2] at hV
             subst hV
             have hqb:(q2 != 0)=true:=by simpa using hq2
             go_wp2_with fail
             go_ret
             exact DE.out
           ·rw[if_pos hq1] at hV
            subst hV
            have hqb:(q1 != 0)=true:=by simpa using hq1
            go_wp2_with fail
            go_ret
            exact DD.out
       | true =>
        rw[hbis] at b3
        by_cases hkk:b.k=a.k
        ·have hkb:(b.k == a.k)=true:=by rw[hkk];simp
         rw[if_pos (Or.inr ⟨hbis,hkk⟩)] at hV
         subst hV
         clear hst hkk
         go_wp2_with fail
         go_ret
         exact a0n HR.out B7.out
        ·have hkb:(b.k == a.k)=false:=beq_eq_false_iff_ne.2 hkk
         rw[if_neg (by simp[hst,hkk]),hbis] at hV
         clear hst
         by_cases hk2:kd=2
         ·subst hk2
          cases hdp:deeperB s t with
          | true =>
           rw[hdp,if_pos ⟨by simp,rfl⟩] at hV
           rw[hdp] at HDE
           subst hV
           go_wp2_with (first|(go_at_call 72;(with_reducible refine(HEa.out _ _ _ R7.out).mono ?_);rintro e w8 ⟨rfl,hb⟩;have B8:=ι (a0a B7.out hb);have R8:=ι (R7.out.later hb);have SA8:=ι (SA7.out.later hb);have SB8:=ι (SB7.out.later hb);clear hb)|(go_at_call 73;(with_reducible refine(HIa.out _ _ _ R8.out).mono ?_);rintro e w9 ⟨rfl,hb⟩;have B9:=ι (a0a B8.out hb);have R9:=ι (R8.out.later hb);have SA9:=ι (SA8.out.later hb);have SB9:=ι (SB8.out.later hb);have g0:=SB9.out.cell0;have g1:=SB9.out.cell1;clear hb)|(go_at_call 74;(with_reducible refine(HDE.out _).mono ?_);rintro e wA ⟨rfl,hb⟩;have BA:=ι (a0a B9.out hb);have RA:=ι (R9.out.later hb);have SAA:=ι (SA9.out.later hb);have SBA:=ι (SB9.out.later hb);have k0:=SBA.out.cell0;have k1:=SBA.out.cell1;clear hb))
           go_ret
           exact a0n HR.out BA.out
          | false =>
           rw[hdp,if_neg (by simp)] at hV
           rw[hdp] at HDE
           rw[if_pos rfl,if_pos (Or.inl (by simp))] at hV
           subst hV
           obtain⟨zk,bk,hzk⟩:=b3z (frE L)
           rw[hzk] at HSL
           clear hzk
           go_wp2_with (first|(go_at_call 72;(with_reducible refine(HEa.out _ _ _ R7.out).mono ?_);rintro e w8 ⟨rfl,hb⟩;have B8:=ι (a0a B7.out hb);have R8:=ι (R7.out.later hb);have SA8:=ι (SA7.out.later hb);have SB8:=ι (SB7.out.later hb);clear hb)|(go_at_call 73;(with_reducible refine(HIa.out _ _ _ R8.out).mono ?_);rintro e w9 ⟨rfl,hb⟩;have B9:=ι (a0a B8.out hb);have R9:=ι (R8.out.later hb);have SA9:=ι (SA8.out.later hb);have SB9:=ι (SB8.out.later hb);have g0:=SB9.out.cell0;have g1:=SB9.out.cell1;clear hb)|(go_at_call 74;(with_reducible refine(HDE.out _).mono ?_);rintro e wA ⟨rfl,hb⟩;have BA:=ι (a0a B9.out hb);have RA:=ι (R9.out.later hb);have SAA:=ι (SA9.out.later hb);have SBA:=ι (SB9.out.later hb);have k0:=SBA.out.cell0;have k1:=SBA.out.cell1;clear hb)|(go_at_call 64;refine(HSL.out _ _ _ (RA.out.later (a0b (Below.refl _ _) _))).mono ?_;rintro e wB ⟨rfl,hb⟩;have hbW:=a0a (a0b (Below.refl wA.heap.size wA) _) hb;have BB:=ι (a0a BA.out hbW);have RB:=ι (RA.out.later hbW);have SAB:=ι (SAA.out.later hbW);have SBB:=ι (SBA.out.later hbW);have XB:=ι (show AtE wB wA.heap.size ⟨true,b.dir,b.name,tg⟩ from(a1f wA ⟨true,b.dir,b.name,tg⟩).later hb);have d0:=SAB.out.cell0;have d2:=SAB.out.cell2;have e0:=SBB.out.cell0;have e2:=SBB.out.cell2;have e3:=SBB.out.cell3;rw[hbis] at e3;clear hb hbW)|(go_at_call 72;(with_reducible refine(HEb.out _ _ _ RB.out).mono ?_);rintro e wG ⟨rfl,hb⟩;have BG:=ι (a0a BB.out hb);have RG:=ι (RB.out.later hb);have SAG:=ι (SAB.out.later hb);have SBG:=ι (SBB.out.later hb);have XG:=ι (XB.out.later hb);clear hb))
           go_ret
           exact a0n HR.out BG.out
         ·have hkf:(kd == 2)=false:=beq_eq_false_iff_ne.2 hk2
          rw[if_neg (by simp[hk2])] at hV
          rw[if_pos rfl] at hV
          obtain⟨zk,bk,hzk⟩:=b3z (frE L)
          rw[hzk] at HSL
          clear hzk
          by_cases hkb2:kb=2
          ·rw[if_pos (Or.inr hkb2)] at hV
           subst hV
           subst hkb2
           go_wp2_with (first|(go_at_call 72;(with_reducible refine(HEa.out _ _ _ R7.out).mono ?_);rintro e w8 ⟨rfl,hb⟩;have B8:=ι (a0a B7.out hb);have R8:=ι (R7.out.later hb);have SA8:=ι (SA7.out.later hb);have SB8:=ι (SB7.out.later hb);clear hb)|(go_at_call 73;(with_reducible refine(HIa.out _ _ _ R8.out).mono ?_);rintro e w9 ⟨rfl,hb⟩;have B9:=ι (a0a B8.out hb);have R9:=ι (R8.out.later hb);have SA9:=ι (SA8.out.later hb);have SB9:=ι (SB8.out.later hb);have g0:=SB9.out.cell0;have g1:=SB9.out.cell1;clear hb)|(go_at_call 64;refine(HSL.out _ _ _ (R9.out.later (a0b (Below.refl _ _) _))).mono ?_;rintro e wB ⟨rfl,hb⟩;have hbW:=a0a (a0b (Below.refl w9.heap.size w9) _) hb;have BB:=ι (a0a B9.out hbW);have RB:=ι (R9.out.later hbW);have SAB:=ι (SA9.out.later hbW);have SBB:=ι (SB9.out.later hbW);have XB:=ι (show AtE wB w9.heap.size ⟨true,b.dir,b.name,tg⟩ from(a1f w9 ⟨true,b.dir,b.name,tg⟩).later hb);have d0:=SAB.out.cell0;have d2:=SAB.out.cell2;have e0:=SBB.out.cell0;have e2:=SBB.out.cell2;have e3:=SBB.out.cell3;rw[hbis] at e3;clear hb hbW)|(go_at_call 72;(with_reducible refine(HEb.out _ _ _ RB.out).mono ?_);rintro e wG ⟨rfl,hb⟩;have BG:=ι (a0a BB.out hb);have RG:=ι (RB.out.later hb);have SAG:=ι (SAB.out.later hb);have SBG:=ι (SBB.out.later hb);have XG:=ι (XB.out.later hb);clear hb)|(go_at_call 73;(with_reducible refine(HIb.out _ _ _ RG.out).mono ?_);(rintro e wH ⟨rfl,hb⟩;have BH:=ι (a0a BG.out hb);have SAH:=ι (SAG.out.later hb);have SBH:=ι (SBG.out.later hb);have XH:=ι (XG.out.later hb);have f0:=SBH.out.cell0;have f2:=SBH.out.cell2;clear hb)))
           go_ret
           exact a0n HR.out BH.out
          ·have hkbf:(kb == 2)=false:=beq_eq_false_iff_ne.2 hkb2
           rw[if_neg (by simp[hk2,hkb2])] at hV
           have okx:=a2x (k:=b.k) (f:=b.dir) (x:=⟨true,b.dir,b.name,tg⟩) (by omega) (by omega)
           have oky:=a2x (k:=a.k) (f:=a.dir) (x:=ent0) (by omega) (by omega)
           have HOx:=ι fun w'=>a3n b.k (by omega) ⟨true,b.dir,b.name,tg⟩ ⟨a0h (by show 0≤b.dir∧b.dir<256;omega),a0h (by show 0≤tg∧tg<256;omega),by show b.name.size≤maxLen;unfold maxLen;omega⟩ b.dir w'
           have HOy:=ι fun w'=>a3n a.k (by omega) ent0 a8w a.dir w'
           have HDx:=ι fun w1 hb=>a8h HR.out HG.out (by omega) _ okx w1 hb
           have hgd:=a8o (ws:=[wEnt b.k ⟨true,b.dir,b.name,tg⟩ b.dir]) (fun y hy=>by rw[List.mem_singleton.1 hy];exact okx.1) HG.out
           generalize wEnt b.k ⟨true,b.dir,b.name,tg⟩ b.dir=x1 at *
           generalize wEnt a.k ent0 a.dir=y1 at *
           have OX:=ι okx
           have OY:=ι oky
           unfold moveR at hV
           obtain⟨r1,hr1⟩:∃r,doR st [x1]=r:=⟨_,rfl⟩
           rw[hr1] at hV HDx hgd
           obtain⟨q1,s1⟩:=r1
           simp only at hV hgd
           have HG1:=ι hgd
           clear okx oky hr1 hgd
           have HV:=ι hV
           clear hV
           go_upto_region 34 with(first|(go_at_call 72;(with_reducible refine(HEa.out _ _ _ R7.out).mono ?_);rintro e w8 ⟨rfl,hb⟩;have B8:=ι (a0a B7.out hb);have R8:=ι (R7.out.later hb);have SA8:=ι (SA7.out.later hb);have SB8:=ι (SB7.out.later hb);clear hb)|(go_at_call 73;(with_reducible refine(HIa.out _ _ _ R8.out).mono ?_);rintro e w9 ⟨rfl,hb⟩;have B9:=ι (a0a B8.out hb);have R9:=ι (R8.out.later hb);have SA9:=ι (SA8.out.later hb);have SB9:=ι (SB8.out.later hb);have g0:=SB9.out.cell0;have g1:=SB9.out.cell1;clear hb)|(go_at_call 64;refine(HSL.out _ _ _ (R9.out.later (a0b (Below.refl _ _) _))).mono ?_;rintro e wB ⟨rfl,hb⟩;have hbW:=a0a (a0b (Below.refl w9.heap.size w9) _) hb;have BB:=ι (a0a B9.out hbW);have RB:=ι (R9.out.later hbW);have SAB:=ι (SA9.out.later hbW);have SBB:=ι (SB9.out.later hbW);have XB:=ι (show AtE wB w9.heap.size ⟨true,b.dir,b.name,tg⟩ from(a1f w9 ⟨true,b.dir,b.name,tg⟩).later hb);have d0:=SAB.out.cell0;have d2:=SAB.out.cell2;have e0:=SBB.out.cell0;have e2:=SBB.out.cell2;have e3:=SBB.out.cell3;rw[hbis] at e3;clear hb hbW)|(go_at_call 72;(with_reducible refine(HEb.out _ _ _ RB.out).mono ?_);rintro e wG ⟨rfl,hb⟩;have BG:=ι (a0a BB.out hb);have RG:=ι (RB.out.later hb);have SAG:=ι (SAB.out.later hb);have SBG:=ι (SBB.out.later hb);have XG:=ι (XB.out.later hb);clear hb)|(go_at_call 73;(with_reducible refine(HIb.out _ _ _ RG.out).mono ?_);(rintro e wH ⟨rfl,hb⟩;have BH:=ι (a0a BG.out hb);have SAH:=ι (SAG.out.later hb);have SBH:=ι (SBG.out.later hb);have XH:=ι (XG.out.later hb);have f0:=SBH.out.cell0;have f2:=SBH.out.cell2;clear hb))|(refine a0t rfl (.tmp 20) rfl w9.heap.size rfl ⟨true,b.dir,b.name,tg⟩ XH.out ?_)|(go_at_call 67;refine(HOx.out _).mono ?_;rintro e wC ⟨rfl,hb⟩;have BC:=ι (a0a BH.out hb);have SAC:=ι (SAH.out.later hb);clear hb)|(refine a0q elem_wrs (by decide) rfl (.tmp 146) rfl x1.c rfl (Wr.c_len OX.out.1) ?_)|(go_at_call 66;refine(HDx.out wC BC.out).mono ?_;rintro e wD hd;have DD:=ι (a1o (a0b BC.out _) hd);have SAD:=ι (show AtS wD w4.heap.size a from(hd.2.2.block _ (Nat.lt_trans (Array.getElem?_eq_some_iff.1 SAC.out).1 (by rw[World.size_alloc];omega)) (fun e=>by have:=B4.out.size;have:=HGL.out;omega)).trans (SAC.out.later (a0b (Below.refl _ _) _)));obtain⟨rfl,_⟩:=hd))
           have hV:=HV.out
           clear HV
           by_cases hq1:q1=0
           ·rw[if_neg (fun hh=>hh hq1)] at hV
            subst hq1
            have hbar:=a5z HG1.out
            have HBA:=ι (dsk.rbarrier (grow S w wD) g s1 wD DD.out.2.1 (HG1.out.fine (by simp;omega)).few)
            obtain⟨r2,hr2⟩:∃r,barrier s1=r:=⟨_,rfl⟩
            rw[hr2] at hV hbar HBA
            obtain⟨q2,s2⟩:=r2
            simp only at hV hbar
            have HG2:=ι hbar
            clear hr2 hbar
            have HV:=ι hV
            clear hV
            go_upto_region 37 with(go_at_call 75;refine HBA.out.mono ?_;rintro e wE hd;have DE:=ι (a4d DD.out.2.1 DD.out.2.2 hd);have SAE:=ι (show AtS wE w4.heap.size a from(hd.2.2.block _ (Array.getElem?_eq_some_iff.1 SAD.out).1 (fun e=>by have:=B4.out.size;have:=HGL.out;omega)).trans SAD.out);obtain⟨rfl,_⟩:=hd;have m0:=SAE.out.cell0;have m2:=SAE.out.cell2)
            have hV:=HV.out
            clear HV
            by_cases hq2:q2=0
            ·rw[if_neg (fun hh=>hh hq2)] at hV
             subst hq2
             have HDy:=ι fun w1 hb=>a8h DE.out.2.1 HG2.out (by simp;omega) y1 OY.out w1 hb
             subst hV
             go_wp2_with (first|(go_at_call 67;refine(HOy.out _).mono ?_;rintro e wF ⟨rfl,hb⟩;have BF:=ι hb;clear hb)|(refine a0q elem_wrs (by decide) rfl (.tmp 163) rfl y1.c rfl (Wr.c_len OY.out.1) ?_)|(go_at_call 66;refine(HDy.out wF BF.out).mono ?_;rintro e wG hd;have DG:=ι (a4d DE.out.2.1 DE.out.2.2 (a1o (a0b BF.out _) hd));obtain⟨rfl,_⟩:=hd))
             go_ret
             exact DG.out
            ·rw[if_pos hq2] at hV
             subst hV
             have hqb:(q2 != 0)=true:=by simpa using hq2
             go_wp2_with fail
             go_ret
             exact DE.out
           ·rw[if_pos hq1] at hV
            subst hV
            have hqb:(q1 != 0)=true:=by simpa using hq1
            go_wp2_with fail
            go_ret
            exact DD.out
     ·rw[if_pos hc4] at hV
      subst hV
      have heb:(eb != 0)=true:=by simpa using hc4
      go_wp2_with fail
      go_ret
      exact a0n HR.out B7.out
   ·rw[if_pos hc3] at hV
    subst hV
    have heb:(ea != 0)=true:=by simpa using hc3
    go_wp2_with fail
    go_ret
    exact a0n HR.out B5.out
  ·rw[if_pos hc2] at hV
   subst hV
   have heb:(e2 != 0)=true:=by simpa using hc2
   go_wp2_with fail
   go_ret
   exact a0n HR.out B2.out
 ·rw[if_pos hc1] at hV
  subst hV
  have heb:(e1 != 0)=true:=by simpa using hc1
  go_wp2_with fail
  go_ret
  exact a0n HR.out B1.out
end fs
end Go.Proofs.YtiaapfijbidgnaaGreatDoor
