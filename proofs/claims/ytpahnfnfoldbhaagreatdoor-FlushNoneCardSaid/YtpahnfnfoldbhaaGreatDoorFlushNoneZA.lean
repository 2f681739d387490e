/- What FlushNone wants, part 27. -/
import Derived.Test.YtpahnfnfoldbhaaGreatDoorFlushNoneN
import Derived.Test.YtpahnfnfoldbhaaGreatDoorFlushNoneQ
import Derived.Test.YtpahnfnfoldbhaaGreatDoorFlushNoneZ
import Derived.Lib.SliceRun
set_option linter.unusedVariables false
set_option linter.unusedSimpArgs false
namespace Go.Proofs.YtpahnfnfoldbhaaGreatDoor
namespace fs
set_option maxRecDepth 100000
open Go.ChangeShapes Go.WideShapes Go.ChangeAt Go.RowKit
open rows
open sec
open dsk (wf64 frozen_row build_one St Wr.ok Wr.c ld_cell)
open ly
open pa
open lk
open al
theorem clrs_ino {w : World} {g : Nat} {x : Ino} (h : AtI w g x) (hx : x.b.length = 4) {nd : Nat} (hnd : nd ≤ 4) : AtI (w.setCells g (2 + nd) (List.replicate (4 - nd) (.int .i64 0))) g ⟨x.kind, x.size, cutB x.b nd⟩ := by
 obtain ⟨kd, sz, bl⟩ := x
 obtain ⟨b0, b1, b2, b3, rfl⟩ := list_four hx
 have e : nd = 0 ∨ nd = 1 ∨ nd = 2 ∨ nd = 3 ∨ nd = 4 := by omega
 rcases e with rfl | rfl | rfl | rfl | rfl
 ·exact AtI.setB (j := 3) (AtI.setB (j := 2) (AtI.setB (j := 1) (AtI.setB (j := 0) h 0) 0) 0) 0
 ·exact AtI.setB (j := 3) (AtI.setB (j := 2) (AtI.setB (j := 1) h 0) 0) 0
 ·exact AtI.setB (j := 3) (AtI.setB (j := 2) h 0) 0
 ·exact AtI.setB (j := 3) h 0
 ·exact h
theorem clrs_below {B g : Nat} : ∀ (l : List Value) (o : Nat) {a w : World}, Below B a w → B ≤ g → Below B a (w.setCells g o l)
 | [], _, _, _, h, _ => h
 | v :: r, o, a, w, h, hg => clrs_below r (o + 1) (h.setCell (p := ⟨g, o, none⟩) hg v) hg
theorem clear_ino {ops : Array Oper} {rest : List Oper} {o : Oper} {a : Act} {w : World} {Q : Exit → Act → World → Prop} (hgd : o.guard = none) (s : Operand) (ho : o.op = .call { callee := .builtin .clear, args := #[s], argTypes := #[39] })
  (g nd : Nat) (x : Ino) (hx : x.b.length = 4) (hnd : nd ≤ 4) (ad : Addr) (n c : Nat) (hs : a.eval s = .slice (some ad) n c) (hn : n = 4 - nd) (had : 0 < n → ad = ⟨g, 2 + nd, none⟩) (hA : AtI w g x)
  (h : ∀ w', AtI w' g ⟨x.kind, x.size, cutB x.b nd⟩ → Below g w w' → wpList Tryz.prog ops Q rest (a.put o.dst (.tuple #[])) w') : wpList Tryz.prog ops Q (o :: rest) a w := by
 have hrun : ∀ ty, (Builtin.clear_ #[39] ty #[.slice (some ad) n c]).run Tryz.prog w = .ok (.tuple #[]) (w.setCells g (2 + nd) (List.replicate (4 - nd) (.int .i64 0))) := by
  intro ty
  by_cases h0 : n = 0
  ·have e : 4 - nd = 0 := by omega
   subst h0
   rw [e]
   simp [Builtin.clear_, run_underlying Tryz.underlying39, World.setCells]
  ·rw [had (by omega), ← hn]
   exact Go.Lib.run_clear_slice w _ _ ty (.int .i64 0) Tryz.underlying39 (fun w => by kernel_rfl) rfl rfl g (2 + nd) n c (by omega) (fun j hj => by
    have := hA.cellb (i := nd + j) (by rw [hx]; omega)
    rw [show 2 + nd + j = 2 + (nd + j) by omega, this]
    rfl) (fun j hj => frozen_row hA _)
 refine wpList_plain hgd fun K hK => ?_
 unfold Oper.wp
 simp [execOp, ho, resolve, invoke, builtin, hs, hrun, Result.andThen]
 exact hK _ _ (h _ (clrs_ino hA hx hnd) (clrs_below _ _ (Below.refl g w) (Nat.le_refl g)))
set_option maxRecDepth 100000 in
set_option maxHeartbeats 3200000 in
theorem funlink (G : Nat → Prop) (g : Nat) (d : Value) (st : St) (w : World) (hGl : ∀ b, G b → b < w.heap.size) (h : FsAt w G g d st) (k : Nat) (hg : st.good k) (hk : k + 20 ≤ 900) (hm : Mx w) (s : ByteArray) (hsz : s.size ≤ 100000) :
  Calls Tryz.prog 58 #[.pointer (some ⟨g, 0, none⟩), .string s] w (PDone G g d w (unlinkV st s)) := by
 have HR := Lib.hid h
 have HK := h.known hg (by omega)
 have hsec := HK.dk.secs.1
 have HLo := Lib.hid (flocate w g d (nowL st) s HK hm hsz)
 have hpf := place_fine hsec s
 have HP1 := Lib.hid fun x b (hx : x.ok) w1 (hb : Below w.heap.size w w1) => perf_one hGl h hg hk x b hx w1 hb
 have HKx := Lib.hid HK
 obtain ⟨V, hV⟩ : ∃ V, unlinkV st s = V := ⟨_, rfl⟩
 rw [hV]
 unfold unlinkV at hV
 have htf := ent_fine hsec (placeV (nowL st) s).1.k
 generalize placeV (nowL st) s = P at *
 obtain ⟨sp, er⟩ := P
 simp only at hV HLo hpf htf
 obtain ⟨sd, sn, sk, si⟩ := sp
 simp only at hV hpf htf
 change Hid (Calls _ _ _ _ fun e w' => e = Ending.returned (.tuple #[aggP ⟨sd, sn, si, sk, if si then (entAt (nowL st) sk).target else 0⟩, .int .i64 er]) ∧ _) at HLo
 generalize htg : (entAt (nowL st) sk).target = tg at *
 clear htg
 have HFo := Lib.hid fun w' (hb : Below w.heap.size w w') => fisfolder w' g d (nowL st) tg (HK.later hb) (wf_byte (by omega))
 have HLi := Lib.hid fun w' (hb : Below w.heap.size w w') => list_any w' d (nowL st) tg (HK.later hb).dk
 have HFB := Lib.hid fun l (h : IsList (nowL st) tg l) => list_full h
 generalize fullB (nowL st) tg = fb at *
 obtain ⟨kd, hkd⟩ : ∃ kd, (inoAt (nowL st) tg).kind = kd := ⟨_, rfl⟩
 rw [hkd] at hV HFo
 have HC := Lib.hid fun w' => fclearStep sk (by omega) sd w'
 have okW := wEnt_ok (k := sk) (f := sd) (x := ent0) (by omega) (by omega)
 have HPF := Lib.hid fun w1 hb => HP1.out _ false okW w1 hb
 rw [run_one] at HPF
 generalize wEnt sk ent0 sd = x1 at *
 have OX := Lib.hid okW
 generalize nowL st = L at *
 clear h hg hk hm hsz hsec hGl HK HP1 okW hkd
 by_cases he : er = 0
 ·subst he
  rw [if_neg (by simp)] at hV
  cases si with
  | false =>
   rw [if_pos rfl] at hV
   subst hV
   clear HPF
   go_enter Tryz.func58, Tryz.ntmps58
   go_wp2_with (first | (go_at_call 95; refine HLo.out.mono ?_; rintro e w1 ⟨rfl, hb⟩; have B1 := Lib.hid hb; clear hb) | (refine store_plc rfl (.tmp 5) (.tmp 11) rfl rfl w1.heap.size ⟨sd, sn, false, sk, 0⟩ plc0 rfl rfl (atP_lit w1) ?_; intro w2 hA hB; have B2 := Lib.hid (below_trans B1.out ((below_alloc (Below.refl _ w1) _).trans hB)); have c2 : w2.cell? ⟨w1.heap.size, 2, none⟩ = some (.bool false) := hA.cell2; clear hA hB))
   go_ret
   exact pdone_same HR.out B2.out
  | true =>
   rw [if_neg (by decide)] at hV
   change Hid (Calls _ _ _ _ fun e w' => e = Ending.returned (.tuple #[aggP ⟨sd, sn, true, sk, tg⟩, .int .i64 0]) ∧ _) at HLo
   have HU : Hid (∀ (A : Prop), A → A) := Lib.hid fun _ h => h
   by_cases hk2 : kd = 2
   ·subst hk2
    have HF2 : Hid (∀ w', Below w.heap.size w w' → Calls Tryz.prog 96 #[.pointer (some ⟨g, 0, none⟩), .int .i64 tg] w' fun e w'' => e = .returned (.bool true) ∧ Below w'.heap.size w' w'') := Lib.hid fun w' hb => HFo.out w' hb
    clear HFo
    go_enter Tryz.func58, Tryz.ntmps58
    go_upto_region 6 with (first | (go_at_call 95; refine HLo.out.mono ?_; rintro e w1 ⟨rfl, hb⟩; have B1 := Lib.hid hb; clear hb) | (refine store_plc rfl (.tmp 5) (.tmp 11) rfl rfl w1.heap.size ⟨sd, sn, true, sk, tg⟩ plc0 rfl rfl (atP_lit w1) ?_; intro w2 hA hB; have B2 := Lib.hid (below_trans B1.out ((below_alloc (Below.refl _ w1) _).trans hB)); have c2 : w2.cell? ⟨w1.heap.size, 2, none⟩ = some (.bool true) := hA.cell2; have P2 := Lib.hid hA; clear hA hB))
    clear c2
    have D2 := Lib.hid (HKx.out.later B2.out).row
    have HPd := Lib.hid fun v (hv : Below w2.drew.heap.size w2.drew v) => (AtP.later (w := w2.drew) P2.out hv)
    have HDd := Lib.hid fun v (hv : Below w2.drew.heap.size w2.drew v) => (FR.later (w := w2.drew) D2.out hv).disk
    have hBd : Hid (∀ v, Below w2.drew.heap.size w2.drew v → Below w.heap.size w v) := Lib.hid fun v hv => below_trans B2.out (((Below.refl w2.heap.size w2).drew).trans hv)
    have h0 : Below w2.drew.heap.size w2.drew w2.drew := Below.refl _ _
    refine wp_region_held_drew (S := Below w2.drew.heap.size w2.drew) (by kernel_rfl) h0 (fun hH0 => ?_)
    refine wpAnyH_take (i := 0) (oi := { dst := some 19, op := Op.move (Operand.tmp 0), type := 33, pos := "sfs.go:187", after := #[], guard := none }) (v := ?_) rfl (by kernel_rfl) (by kernel_rfl) (by kernel_rfl) (fun _ _ _ h => h) (Or.inl ⟨by rfl, ?_⟩) (by assumption) ?_
    rotate_left
    ·(intro w' hSw; go_simp; try with_reducible rfl)
    try simp only [Act.put, List.setIfInBounds_toArray, List.set_cons_zero, List.set_cons_succ]
    refine wpAnyH_take (i := 1) (oi := { dst := some 20, op := Op.fieldAddr 156 (Operand.tmp 5) 4, type := 0, pos := "sfs.go:187", after := #[], guard := none }) (v := ?_) rfl (by kernel_rfl) (by kernel_rfl) (by kernel_rfl) (fun _ _ _ h => h) (Or.inl ⟨by rfl, ?_⟩) (by assumption) ?_
    rotate_left
    ·(intro w' hSw; go_simp; try with_reducible rfl)
    try simp only [Act.put, List.setIfInBounds_toArray, List.set_cons_zero, List.set_cons_succ]
    refine' wpAnyH_take (i := 2) (oi := { dst := some 21, op := Op.load 3 (Operand.tmp 20), type := 3, pos := "sfs.go:187", after := #[{ on := 1, ground := Ground.data }], guard := none }) (v := _) rfl (by kernel_rfl) (by kernel_rfl) (by kernel_rfl) (fun _ _ _ h => h) (ld_cell (by rfl) 3 _ Tryz.underlying3 rfl _ rfl w1.heap.size 4 rfl (.int .i64 tg) (fun w' hw => (HPd.out w' hw).cell4)) (by assumption) ?_
    try simp only [Act.put, List.setIfInBounds_toArray, List.set_cons_zero, List.set_cons_succ]
    refine wpAnyH_ready (rs := [3]) (by kernel_rfl) (by simp) ?_
    refine AllReadyH.cons (o := { dst := some 22, op := Op.call { callee := Callee.value (Operand.func 96), args := #[Operand.tmp 19, Operand.tmp 21], argTypes := #[33, 3] }, type := 4, pos := "sfs.go:187", after := #[{ on := 0, ground := Ground.data }, { on := 2, ground := Ground.data }], guard := none }) rfl (fun K hK => ?_) AllReadyH.nil
    go_simp
    refine (HF2.out _ (hBd.out _ h0)).mono ?_
    rintro e v1 ⟨rfl, hv1⟩
    have h1 := h0.trans (hv1.mono h0.size)
    dsimp only
    refine hK.out _ _ ?_ (fun hHeld => ?_)
    ·exact h1
    clear hK K
    try simp only [Act.put, List.setIfInBounds_toArray, List.set_cons_zero, List.set_cons_succ]
    refine wpAnyH_take (i := 4) (oi := { dst := some 23, op := Op.move (Operand.tmp 22), type := 4, pos := "sfs.go:187", after := #[{ on := 3, ground := Ground.data }, { on := 3, ground := Ground.chain }], guard := none }) (v := ?_) rfl (by kernel_rfl) (by kernel_rfl) (by kernel_rfl) (fun _ _ _ h => h) (Or.inl ⟨by rfl, ?_⟩) (by assumption) ?_
    rotate_left
    ·(intro w' hSw; go_simp; try with_reducible rfl)
    try simp only [Act.put, List.setIfInBounds_toArray, List.set_cons_zero, List.set_cons_succ]
    refine wpAnyH_take (i := 5) (oi := { dst := some 24, op := Op.move (Operand.tmp 0), type := 33, pos := "sfs.go:187", after := #[{ on := 4, ground := Ground.guard }], guard := some (4, true) }) (v := ?_) rfl (by kernel_rfl) (by kernel_rfl) (by kernel_rfl) (fun _ _ _ h => h) (Or.inl ⟨by rfl, ?_⟩) (by assumption) ?_
    rotate_left
    ·(intro w' hSw; go_simp; try with_reducible rfl)
    try simp only [Act.put, List.setIfInBounds_toArray, List.set_cons_zero, List.set_cons_succ]
    refine wpAnyH_take (i := 6) (oi := { dst := some 25, op := Op.nilCheck (Operand.tmp 24), type := 0, pos := "sfs.go:187", after := #[{ on := 5, ground := Ground.data }, { on := 4, ground := Ground.guard }], guard := some (4, true) }) (v := ?_) rfl (by kernel_rfl) (by kernel_rfl) (by kernel_rfl) (fun _ _ _ h => h) (Or.inl ⟨by rfl, ?_⟩) (by assumption) ?_
    rotate_left
    ·(intro w' hSw; go_simp; try with_reducible rfl)
    try simp only [Act.put, List.setIfInBounds_toArray, List.set_cons_zero, List.set_cons_succ]
    refine wpAnyH_take (i := 7) (oi := { dst := some 26, op := Op.fieldAddr 77 (Operand.tmp 25) 1, type := 0, pos := "sfs.go:187", after := #[{ on := 6, ground := Ground.data }, { on := 4, ground := Ground.guard }], guard := some (4, true) }) (v := ?_) rfl (by kernel_rfl) (by kernel_rfl) (by kernel_rfl) (fun _ _ _ h => h) (Or.inl ⟨by rfl, ?_⟩) (by assumption) ?_
    rotate_left
    ·(intro w' hSw; go_simp; try with_reducible rfl)
    try simp only [Act.put, List.setIfInBounds_toArray, List.set_cons_zero, List.set_cons_succ]
    refine' wpAnyH_take (i := 8) (oi := { dst := some 27, op := Op.load 26 (Operand.tmp 26), type := 26, pos := "sfs.go:187", after := #[{ on := 7, ground := Ground.data }, { on := 4, ground := Ground.guard }], guard := some (4, true) }) (v := _) rfl (by kernel_rfl) (by kernel_rfl) (by kernel_rfl) (fun _ _ _ h => h) (ld_cell (by rfl) 26 _ Tryz.underlying26 rfl _ rfl g 1 rfl _ (fun w' hw => HDd.out w' hw)) (by assumption) ?_
    try simp only [Act.put, List.setIfInBounds_toArray, List.set_cons_zero, List.set_cons_succ]
    refine wpAnyH_take (i := 9) (oi := { dst := some 28, op := Op.fieldAddr 156 (Operand.tmp 5) 4, type := 0, pos := "sfs.go:187", after := #[{ on := 4, ground := Ground.guard }], guard := some (4, true) }) (v := ?_) rfl (by kernel_rfl) (by kernel_rfl) (by kernel_rfl) (fun _ _ _ h => h) (Or.inl ⟨by rfl, ?_⟩) (by assumption) ?_
    rotate_left
    ·(intro w' hSw; go_simp; try with_reducible rfl)
    try simp only [Act.put, List.setIfInBounds_toArray, List.set_cons_zero, List.set_cons_succ]
    refine' wpAnyH_take (i := 10) (oi := { dst := some 29, op := Op.load 3 (Operand.tmp 28), type := 3, pos := "sfs.go:187", after := #[{ on := 9, ground := Ground.data }, { on := 4, ground := Ground.guard }], guard := some (4, true) }) (v := _) rfl (by kernel_rfl) (by kernel_rfl) (by kernel_rfl) (fun _ _ _ h => h) (ld_cell (by rfl) 3 _ Tryz.underlying3 rfl _ rfl w1.heap.size 4 rfl (.int .i64 tg) (fun w' hw => (HPd.out w' hw).cell4)) (by assumption) ?_
    try simp only [Act.put, List.setIfInBounds_toArray, List.set_cons_zero, List.set_cons_succ]
    refine wpAnyH_ready (rs := [11]) (by kernel_rfl) (by simp) ?_
    refine AllReadyH.cons (o := { dst := some 30, op := Op.call { callee := Callee.value (Operand.func 128), args := #[Operand.tmp 27, Operand.tmp 29], argTypes := #[26, 3] }, type := 94, pos := "sfs.go:187", after := #[{ on := 8, ground := Ground.data }, { on := 10, ground := Ground.data }, { on := 4, ground := Ground.chain }, { on := 4, ground := Ground.guard }], guard := some (4, true) }) rfl (fun K hK => ?_) AllReadyH.nil
    go_simp
    refine (HLi.out _ (hBd.out _ h1)).mono ?_
    rintro e v2 ⟨lx, q, m, kq, hL, rfl, hm, hr, hv2⟩
    have h2 := h1.trans (hv2.mono h1.size)
    subst hm
    dsimp only
    refine hK.out _ _ ?_ (fun hHeld => ?_)
    ·exact h2
    clear hK K
    try simp only [Act.put, List.setIfInBounds_toArray, List.set_cons_zero, List.set_cons_succ]
    refine wpAnyH_take (i := 12) (oi := { dst := some 31, op := Op.call { callee := Callee.builtin Builtin.len, args := #[Operand.tmp 30], argTypes := #[94] }, type := 3, pos := "sfs.go:187", after := #[{ on := 11, ground := Ground.data }, { on := 4, ground := Ground.guard }], guard := some (4, true) }) (v := ?_) rfl (by kernel_rfl) (by kernel_rfl) (by kernel_rfl) (fun _ _ _ h => h) (Or.inl ⟨by rfl, ?_⟩) (by assumption) ?_
    rotate_left
    ·(intro w' hSw; go_simp; try with_reducible rfl)
    try simp only [Act.put, List.setIfInBounds_toArray, List.set_cons_zero, List.set_cons_succ]
    refine wpAnyH_take (i := 13) (oi := { dst := some 32, op := Op.binOp BinOp.gtr 3 (Operand.tmp 31) (Operand.const (Value.int IntKind.i64 0)) 3, type := 4, pos := "sfs.go:187", after := #[{ on := 12, ground := Ground.data }, { on := 4, ground := Ground.guard }], guard := some (4, true) }) (v := ?_) rfl (by kernel_rfl) (by kernel_rfl) (by kernel_rfl) (fun _ _ _ h => h) (Or.inl ⟨by rfl, ?_⟩) (by assumption) ?_
    rotate_left
    ·(intro w' hSw; go_simp; try with_reducible rfl)
    try simp only [Act.put, List.setIfInBounds_toArray, List.set_cons_zero, List.set_cons_succ]
    refine wpAnyH_take (i := 14) (oi := { dst := some 33, op := Op.pick (Operand.tmp 23) (Operand.tmp 32) (Operand.const (Value.bool false)), type := 4, pos := "sfs.go:187", after := #[{ on := 4, ground := Ground.data }, { on := 13, ground := Ground.data }], guard := none }) (v := ?_) rfl (by kernel_rfl) (by kernel_rfl) (by kernel_rfl) (fun _ _ _ h => h) (Or.inl ⟨by rfl, ?_⟩) (by assumption) ?_
    rotate_left
    ·(intro w' hSw; go_simp; try with_reducible rfl)
    try simp only [Act.put, List.setIfInBounds_toArray, List.set_cons_zero, List.set_cons_succ]
    refine wpAnyH_done (by kernel_rfl) ?_ _
    have hdec0 := HFB.out _ hL
    have hdec : decide (0 < lx.length) = fb := by rw [← hdec0]; exact decide_eq_decide.2 (by omega)
    clear hdec0 HFB
    have P5 := HPd.out _ h2
    have c0 : _ = some (Value.int .i64 sd) := P5.cell0
    have c3 : _ = some (Value.int .i64 sk) := P5.cell3
    have B5 := Lib.hid (hBd.out _ h2)
    clear P5
    cases fb with
    | true =>
     rw [if_pos (by simp)] at hV
     have hpl : 0 < lx.length := by simpa using hdec
     subst hV
     clear HPF
     go_wp2_with fail
     go_ret
     exact pdone_same HR.out B5.out
    | false =>
     rw [if_neg (by simp)] at hV
     rw [hV] at HPF
     have hpl : ¬ 0 < lx.length := by simpa using hdec
     clear hV
     go_wp2_with (first | (go_at_call 130; refine (HC.out _).mono ?_; rintro e w6 ⟨rfl, hb⟩; have B6 := Lib.hid (below_trans B5.out hb); clear hb) | (refine build_one elem_sts (by decide) rfl (.tmp 39) rfl (stC x1 false) rfl (stC_len OX.out.1) ?_) | (go_at_call 129; refine (HPF.out w6 B6.out).mono ?_; rintro e w8 ⟨hd8, _⟩; have D8 := Lib.hid hd8; obtain ⟨rfl, _⟩ := hd8))
     go_ret
     exact D8.out
   ·rw [if_neg (fun hh => hk2 hh.1)] at hV
    have HF2 : Hid (∀ w', Below w.heap.size w w' → Calls Tryz.prog 96 #[.pointer (some ⟨g, 0, none⟩), .int .i64 tg] w' fun e w'' => e = .returned (.bool false) ∧ Below w'.heap.size w' w'') := Lib.hid fun w' hb => by
     have h := HFo.out w' hb
     rw [decide_eq_false hk2] at h
     exact h
    rw [hV] at HPF
    clear HFo hV
    go_enter Tryz.func58, Tryz.ntmps58
    go_upto_region 6 with (first | (go_at_call 95; refine HLo.out.mono ?_; rintro e w1 ⟨rfl, hb⟩; have B1 := Lib.hid hb; clear hb) | (refine store_plc rfl (.tmp 5) (.tmp 11) rfl rfl w1.heap.size ⟨sd, sn, true, sk, tg⟩ plc0 rfl rfl (atP_lit w1) ?_; intro w2 hA hB; have B2 := Lib.hid (below_trans B1.out ((below_alloc (Below.refl _ w1) _).trans hB)); have c2 : w2.cell? ⟨w1.heap.size, 2, none⟩ = some (.bool true) := hA.cell2; have P2 := Lib.hid hA; clear hA hB))
    clear c2
    have HPd := Lib.hid fun v (hv : Below w2.drew.heap.size w2.drew v) => (AtP.later (w := w2.drew) P2.out hv)
    have hBd : Hid (∀ v, Below w2.drew.heap.size w2.drew v → Below w.heap.size w v) := Lib.hid fun v hv => below_trans B2.out (((Below.refl w2.heap.size w2).drew).trans hv)
    have h0 : Below w2.drew.heap.size w2.drew w2.drew := Below.refl _ _
    refine wp_region_held_drew (S := Below w2.drew.heap.size w2.drew) (by kernel_rfl) h0 (fun hH0 => ?_)
    refine wpAnyH_take (i := 0) (oi := { dst := some 19, op := Op.move (Operand.tmp 0), type := 33, pos := "sfs.go:187", after := #[], guard := none }) (v := ?_) rfl (by kernel_rfl) (by kernel_rfl) (by kernel_rfl) (fun _ _ _ h => h) (Or.inl ⟨by rfl, ?_⟩) (by assumption) ?_
    rotate_left
    ·(intro w' hSw; go_simp; try with_reducible rfl)
    try simp only [Act.put, List.setIfInBounds_toArray, List.set_cons_zero, List.set_cons_succ]
    refine wpAnyH_take (i := 1) (oi := { dst := some 20, op := Op.fieldAddr 156 (Operand.tmp 5) 4, type := 0, pos := "sfs.go:187", after := #[], guard := none }) (v := ?_) rfl (by kernel_rfl) (by kernel_rfl) (by kernel_rfl) (fun _ _ _ h => h) (Or.inl ⟨by rfl, ?_⟩) (by assumption) ?_
    rotate_left
    ·(intro w' hSw; go_simp; try with_reducible rfl)
    try simp only [Act.put, List.setIfInBounds_toArray, List.set_cons_zero, List.set_cons_succ]
    refine' wpAnyH_take (i := 2) (oi := { dst := some 21, op := Op.load 3 (Operand.tmp 20), type := 3, pos := "sfs.go:187", after := #[{ on := 1, ground := Ground.data }], guard := none }) (v := _) rfl (by kernel_rfl) (by kernel_rfl) (by kernel_rfl) (fun _ _ _ h => h) (ld_cell (by rfl) 3 _ Tryz.underlying3 rfl _ rfl w1.heap.size 4 rfl (.int .i64 tg) (fun w' hw => (HPd.out w' hw).cell4)) (by assumption) ?_
    try simp only [Act.put, List.setIfInBounds_toArray, List.set_cons_zero, List.set_cons_succ]
    refine wpAnyH_ready (rs := [3]) (by kernel_rfl) (by simp) ?_
    refine AllReadyH.cons (o := { dst := some 22, op := Op.call { callee := Callee.value (Operand.func 96), args := #[Operand.tmp 19, Operand.tmp 21], argTypes := #[33, 3] }, type := 4, pos := "sfs.go:187", after := #[{ on := 0, ground := Ground.data }, { on := 2, ground := Ground.data }], guard := none }) rfl (fun K hK => ?_) AllReadyH.nil
    go_simp
    refine (HF2.out _ (hBd.out _ h0)).mono ?_
    rintro e v1 ⟨rfl, hv1⟩
    have h1 := h0.trans (hv1.mono h0.size)
    dsimp only
    refine hK.out _ _ ?_ (fun hHeld => ?_)
    ·exact h1
    clear hK K
    try simp only [Act.put, List.setIfInBounds_toArray, List.set_cons_zero, List.set_cons_succ]
    refine wpAnyH_take (i := 4) (oi := { dst := some 23, op := Op.move (Operand.tmp 22), type := 4, pos := "sfs.go:187", after := #[{ on := 3, ground := Ground.data }, { on := 3, ground := Ground.chain }], guard := none }) (v := ?_) rfl (by kernel_rfl) (by kernel_rfl) (by kernel_rfl) (fun _ _ _ h => h) (Or.inl ⟨by rfl, ?_⟩) (by assumption) ?_
    rotate_left
    ·(intro w' hSw; go_simp; try with_reducible rfl)
    try simp only [Act.put, List.setIfInBounds_toArray, List.set_cons_zero, List.set_cons_succ]
    refine wpAnyH_take (i := 5) (oi := { dst := some 24, op := Op.move (Operand.tmp 0), type := 33, pos := "sfs.go:187", after := #[{ on := 4, ground := Ground.guard }], guard := some (4, true) }) (v := undef) rfl (by kernel_rfl) (by kernel_rfl) (by kernel_rfl) (fun _ _ _ h => h) (Or.inr ⟨by rfl, rfl⟩) (by assumption) ?_
    try simp only [Act.put, List.setIfInBounds_toArray, List.set_cons_zero, List.set_cons_succ]
    refine wpAnyH_take (i := 6) (oi := { dst := some 25, op := Op.nilCheck (Operand.tmp 24), type := 0, pos := "sfs.go:187", after := #[{ on := 5, ground := Ground.data }, { on := 4, ground := Ground.guard }], guard := some (4, true) }) (v := undef) rfl (by kernel_rfl) (by kernel_rfl) (by kernel_rfl) (fun _ _ _ h => h) (Or.inr ⟨by rfl, rfl⟩) (by assumption) ?_
    try simp only [Act.put, List.setIfInBounds_toArray, List.set_cons_zero, List.set_cons_succ]
    refine wpAnyH_take (i := 7) (oi := { dst := some 26, op := Op.fieldAddr 77 (Operand.tmp 25) 1, type := 0, pos := "sfs.go:187", after := #[{ on := 6, ground := Ground.data }, { on := 4, ground := Ground.guard }], guard := some (4, true) }) (v := undef) rfl (by kernel_rfl) (by kernel_rfl) (by kernel_rfl) (fun _ _ _ h => h) (Or.inr ⟨by rfl, rfl⟩) (by assumption) ?_
    try simp only [Act.put, List.setIfInBounds_toArray, List.set_cons_zero, List.set_cons_succ]
    refine wpAnyH_take (i := 8) (oi := { dst := some 27, op := Op.load 26 (Operand.tmp 26), type := 26, pos := "sfs.go:187", after := #[{ on := 7, ground := Ground.data }, { on := 4, ground := Ground.guard }], guard := some (4, true) }) (v := undef) rfl (by kernel_rfl) (by kernel_rfl) (by kernel_rfl) (fun _ _ _ h => h) (Or.inr ⟨by rfl, rfl⟩) (by assumption) ?_
    try simp only [Act.put, List.setIfInBounds_toArray, List.set_cons_zero, List.set_cons_succ]
    refine wpAnyH_take (i := 9) (oi := { dst := some 28, op := Op.fieldAddr 156 (Operand.tmp 5) 4, type := 0, pos := "sfs.go:187", after := #[{ on := 4, ground := Ground.guard }], guard := some (4, true) }) (v := undef) rfl (by kernel_rfl) (by kernel_rfl) (by kernel_rfl) (fun _ _ _ h => h) (Or.inr ⟨by rfl, rfl⟩) (by assumption) ?_
    try simp only [Act.put, List.setIfInBounds_toArray, List.set_cons_zero, List.set_cons_succ]
    refine wpAnyH_take (i := 10) (oi := { dst := some 29, op := Op.load 3 (Operand.tmp 28), type := 3, pos := "sfs.go:187", after := #[{ on := 9, ground := Ground.data }, { on := 4, ground := Ground.guard }], guard := some (4, true) }) (v := undef) rfl (by kernel_rfl) (by kernel_rfl) (by kernel_rfl) (fun _ _ _ h => h) (Or.inr ⟨by rfl, rfl⟩) (by assumption) ?_
    try simp only [Act.put, List.setIfInBounds_toArray, List.set_cons_zero, List.set_cons_succ]
    refine wpAnyH_take (i := 11) (oi := { dst := some 30, op := Op.call { callee := Callee.value (Operand.func 128), args := #[Operand.tmp 27, Operand.tmp 29], argTypes := #[26, 3] }, type := 94, pos := "sfs.go:187", after := #[{ on := 8, ground := Ground.data }, { on := 10, ground := Ground.data }, { on := 4, ground := Ground.chain }, { on := 4, ground := Ground.guard }], guard := some (4, true) }) (v := undef) rfl (by kernel_rfl) (by kernel_rfl) (by kernel_rfl) (fun _ _ _ h => h) (Or.inr ⟨by rfl, rfl⟩) (by assumption) ?_
    try simp only [Act.put, List.setIfInBounds_toArray, List.set_cons_zero, List.set_cons_succ]
    refine wpAnyH_take (i := 12) (oi := { dst := some 31, op := Op.call { callee := Callee.builtin Builtin.len, args := #[Operand.tmp 30], argTypes := #[94] }, type := 3, pos := "sfs.go:187", after := #[{ on := 11, ground := Ground.data }, { on := 4, ground := Ground.guard }], guard := some (4, true) }) (v := undef) rfl (by kernel_rfl) (by kernel_rfl) (by kernel_rfl) (fun _ _ _ h => h) (Or.inr ⟨by rfl, rfl⟩) (by assumption) ?_
    try simp only [Act.put, List.setIfInBounds_toArray, List.set_cons_zero, List.set_cons_succ]
    refine wpAnyH_take (i := 13) (oi := { dst := some 32, op := Op.binOp BinOp.gtr 3 (Operand.tmp 31) (Operand.const (Value.int IntKind.i64 0)) 3, type := 4, pos := "sfs.go:187", after := #[{ on := 12, ground := Ground.data }, { on := 4, ground := Ground.guard }], guard := some (4, true) }) (v := undef) rfl (by kernel_rfl) (by kernel_rfl) (by kernel_rfl) (fun _ _ _ h => h) (Or.inr ⟨by rfl, rfl⟩) (by assumption) ?_
    try simp only [Act.put, List.setIfInBounds_toArray, List.set_cons_zero, List.set_cons_succ]
    refine wpAnyH_take (i := 14) (oi := { dst := some 33, op := Op.pick (Operand.tmp 23) (Operand.tmp 32) (Operand.const (Value.bool false)), type := 4, pos := "sfs.go:187", after := #[{ on := 4, ground := Ground.data }, { on := 13, ground := Ground.data }], guard := none }) (v := ?_) rfl (by kernel_rfl) (by kernel_rfl) (by kernel_rfl) (fun _ _ _ h => h) (Or.inl ⟨by rfl, ?_⟩) (by assumption) ?_
    rotate_left
    ·(intro w' hSw; go_simp; try with_reducible rfl)
    try simp only [Act.put, List.setIfInBounds_toArray, List.set_cons_zero, List.set_cons_succ]
    refine wpAnyH_done (by kernel_rfl) ?_ _
    have P5 := HPd.out _ h1
    have c0 : _ = some (Value.int .i64 sd) := P5.cell0
    have c3 : _ = some (Value.int .i64 sk) := P5.cell3
    have B5 := Lib.hid (hBd.out _ h1)
    clear P5
    go_wp2_with (first | (go_at_call 130; refine (HC.out _).mono ?_; rintro e w6 ⟨rfl, hb⟩; have B6 := Lib.hid (below_trans B5.out hb); clear hb) | (refine build_one elem_sts (by decide) rfl (.tmp 39) rfl (stC x1 false) rfl (stC_len OX.out.1) ?_) | (go_at_call 129; refine (HPF.out w6 B6.out).mono ?_; rintro e w8 ⟨hd8, _⟩; have D8 := Lib.hid hd8; obtain ⟨rfl, _⟩ := hd8))
    go_ret
    exact D8.out
 ·rw [if_pos he] at hV
  subst hV
  have heb : (er != 0) = true := by simpa using he
  generalize (if si = true then tg else 0) = t5 at *
  go_enter Tryz.func58, Tryz.ntmps58
  go_wp2_with (first | (go_at_call 95; refine HLo.out.mono ?_; rintro e w1 ⟨rfl, hb⟩; have B1 := Lib.hid hb; clear hb) | (refine store_plc rfl (.tmp 5) (.tmp 11) rfl rfl w1.heap.size ⟨sd, sn, si, sk, t5⟩ plc0 rfl rfl (atP_lit w1) ?_; intro w2 hA hB; have B2 := Lib.hid (below_trans B1.out ((below_alloc (Below.refl _ w1) _).trans hB)); clear hA hB))
  go_ret
  exact pdone_same HR.out B2.out
set_option maxRecDepth 100000 in
set_option maxHeartbeats 3200000 in
theorem ftrunc (G : Nat → Prop) (g : Nat) (d : Value) (st : St) (w : World) (hGl : ∀ b, G b → b < w.heap.size) (h : FsAt w G g d st) (k : Nat) (hg : st.good k) (hk : k + 20 ≤ 900) (hm : Mx w) (s : ByteArray) (hsz : s.size ≤ 100000) (z : Int) (hz : wf64 z) :
  Calls Tryz.prog 81 #[.pointer (some ⟨g, 0, none⟩), .string s, .int .i64 z] w (PDone G g d w (truncV st s z)) := by
 have HR := Lib.hid h
 have HK := h.known hg (by omega)
 have hsec := HK.dk.secs.1
 have HF := Lib.hid (ffile w g d (nowL st) s HK hm hsz)
 have H4 := Lib.hid (file_four hsec s)
 have hfi := file_is hsec s
 have hff := fun hh => ino_file hsec (fileV (nowL st) s).1 hh
 have hok := ino_okAt hsec (fileV (nowL st) s).1
 have HP1 := Lib.hid fun x b (hx : x.ok) w1 (hb : Below w.heap.size w w1) => perf_one hGl h hg hk x b hx w1 hb
 obtain ⟨V, hV⟩ : ∃ V, truncV st s z = V := ⟨_, rfl⟩
 rw [hV]
 unfold truncV at hV
 generalize hFE : fileV (nowL st) s = F at *
 obtain ⟨n, x, er⟩ := F
 unfold fileT at HF
 simp only at hV HF H4 hfi hff hok
 generalize nowL st = L at *
 clear h hg hk hsz hsec hFE HK hGl hm
 by_cases he : er = 0
 ·subst he
  rw [if_neg (by simp)] at hV
  obtain ⟨hx1, hx2, hx3, hx4⟩ := hfi rfl
  rw [← hx1] at hx2 hff hok
  obtain ⟨hs0, hs1, _⟩ := hff hx2
  obtain ⟨i1, i2⟩ := rows.wf_i64 hz
  clear hfi hff hx1
  by_cases hz0 : z < 0
  ·rw [if_pos (Or.inl hz0)] at hV
   subst hV
   clear hok
   go_enter Tryz.func81, Tryz.ntmps81
   go_wp2_with (first | (go_at_call 90; refine HF.out.mono ?_; rintro e w1 ⟨rfl, hb⟩; have B1 := Lib.hid hb; clear hb) | (refine store_ino rfl (.tmp 8) (.tmp 15) rfl rfl w1.heap.size x ino0 rfl rfl H4.out rfl (atI_lit w1) ?_; intro w2 hA hB _; have B2 := Lib.hid (below_trans B1.out ((below_alloc (Below.refl _ w1) _).trans hB)); have c1 := hA.cell1; clear hA hB))
   go_ret
   exact pdone_same HR.out B2.out
  by_cases hz1 : x.size < z
  ·rw [if_pos (Or.inr hz1)] at hV
   subst hV
   clear hok
   have hzz : 0 ≤ z := by omega
   go_enter Tryz.func81, Tryz.ntmps81
   go_wp2_with (first | (go_at_call 90; refine HF.out.mono ?_; rintro e w1 ⟨rfl, hb⟩; have B1 := Lib.hid hb; clear hb) | (refine store_ino rfl (.tmp 8) (.tmp 15) rfl rfl w1.heap.size x ino0 rfl rfl H4.out rfl (atI_lit w1) ?_; intro w2 hA hB _; have B2 := Lib.hid (below_trans B1.out ((below_alloc (Below.refl _ w1) _).trans hB)); have c1 := hA.cell1; clear hA hB))
   go_ret
   exact pdone_same HR.out B2.out
  rw [if_neg (by omega)] at hV
  by_cases hze : z = x.size
  ·rw [if_pos hze] at hV
   subst hV
   have hzb : (z == x.size) = true := by rw [hze]; simp
   have hzz : 0 ≤ z := by omega
   have hzy : z ≤ x.size := by omega
   clear hok hze
   go_enter Tryz.func81, Tryz.ntmps81
   go_wp2_with (first | (go_at_call 90; refine HF.out.mono ?_; rintro e w1 ⟨rfl, hb⟩; have B1 := Lib.hid hb; clear hb) | (refine store_ino rfl (.tmp 8) (.tmp 15) rfl rfl w1.heap.size x ino0 rfl rfl H4.out rfl (atI_lit w1) ?_; intro w2 hA hB _; have B2 := Lib.hid (below_trans B1.out ((below_alloc (Below.refl _ w1) _).trans hB)); have c1 := hA.cell1; clear hA hB))
   go_ret
   exact pdone_same HR.out B2.out
  ·rw [if_neg hze] at hV
   have hzb : (z == x.size) = false := beq_eq_false_iff_ne.2 hze
   have hzz : 0 ≤ z := by omega
   have hzy : z ≤ x.size := by omega
   obtain ⟨m, rfl⟩ : ∃ m : Nat, z = (m : Int) := ⟨z.toNat, by omega⟩
   have hm128 : m ≤ 128 := by omega
   rw [Int.toNat_natCast] at hV
   have hnd : need m ≤ 4 := by unfold need; omega
   have HNE := Lib.hid fun w' => frequired m (by omega) w'
   obtain ⟨nd, hndE⟩ : ∃ nd, need m = nd := ⟨_, rfl⟩
   rw [hndE] at hV hnd HNE
   have okN := cut_ok hok (z := (m : Int)) (wf64_of m (by omega)) nd hnd
   have okW := wIno_ok (n := n) (x := ⟨x.kind, (m : Int), cutB x.b nd⟩) (by omega) okN.four
   have HOI := Lib.hid fun w' => finodeStep n (by omega) ⟨x.kind, (m : Int), cutB x.b nd⟩ okN w'
   have HPF := Lib.hid fun w1 hb => HP1.out _ false okW w1 hb
   rw [run_one, hV] at HPF
   have OW := Lib.hid okW
   have ON := Lib.hid okN
   generalize wIno n ⟨x.kind, (m : Int), cutB x.b nd⟩ = wr' at *
   have hndi : (nd : Int) ≤ 4 := by omega
   clear hok hze HP1 okN okW hndE hV
   go_enter Tryz.func81, Tryz.ntmps81
   go_upto_region 9 with (first | (go_at_call 90; refine HF.out.mono ?_; rintro e w1 ⟨rfl, hb⟩; have B1 := Lib.hid hb; clear hb) | (refine store_ino rfl (.tmp 8) (.tmp 15) rfl rfl w1.heap.size x ino0 rfl rfl H4.out rfl (atI_lit w1) ?_; intro w2 hA hB _; have B2 := Lib.hid (below_trans B1.out ((below_alloc (Below.refl _ w1) _).trans hB)); have A2 := Lib.hid hA; have c1 := hA.cell1; have f1 := frozen_row hA 1; clear hA hB))
   have A3 := Lib.hid (AtI.setS A2.out (m : Int))
   have B3 : Hid (Below w.heap.size w (w2.setCell ⟨w1.heap.size, 1, none⟩ (.int .i64 (m : Int)))) := Lib.hid (B2.out.setCell (p := ⟨w1.heap.size, 1, none⟩) B1.out.size _)
   generalize w2.setCell ⟨w1.heap.size, 1, none⟩ (.int .i64 (m : Int)) = w3 at *
   have A3 : Hid (AtI w3 w1.heap.size ⟨x.kind, (m : Int), x.b⟩) := Lib.hid A3.out
   clear c1 f1 A2 B2
   have HY : Hid (∀ w', AtI w' w1.heap.size ⟨x.kind, (m : Int), cutB x.b nd⟩ → AtI w' w1.heap.size ⟨x.kind, (m : Int), cutB x.b nd⟩) := Lib.hid fun _ h => h
   obtain ⟨y, hy⟩ : ∃ y : Ino, (⟨x.kind, (m : Int), cutB x.b nd⟩ : Ino) = y := ⟨_, rfl⟩
   have HYE := Lib.hid hy
   rw [hy] at HOI ON HY
   clear hy
   go_wp2_with (first | (go_at_call 91; refine (HNE.out _).mono ?_; rintro e w5 ⟨rfl, rfl⟩) | (refine clear_ino rfl (.tmp 37) rfl w1.heap.size nd ⟨x.kind, (m : Int), x.b⟩ H4.out hnd _ _ _ rfl (by simp) (fun hp => (by have hne : ¬ (4 = nd) := (by omega); simp [hne])) A3.out ?_; intro w4 hA hB; have A4 : Hid (AtI w4 w1.heap.size y) := Lib.hid (by rw [← HYE.out]; exact hA); have B4 := Lib.hid (B3.out.trans (hB.mono B1.out.size)); clear hA hB) | (refine load_ino rfl (.tmp 8) rfl w1.heap.size rfl y ON.out.four A4.out ?_) | (go_at_call 147; refine (HOI.out _).mono ?_; rintro e w7 ⟨rfl, hb⟩; have B7 := Lib.hid (below_trans B4.out hb); clear hb) | (refine build_one elem_sts (by decide) rfl (.tmp 41) rfl (stC wr' false) rfl (stC_len OW.out.1) ?_) | (go_at_call 129; refine (HPF.out w7 B7.out).mono ?_; rintro e w8 ⟨hd8, _⟩; have D8 := Lib.hid hd8; obtain ⟨rfl, _⟩ := hd8))
   all_goals (go_ret; exact D8.out)
 ·rw [if_pos he] at hV
  subst hV
  have heb : (er != 0) = true := by simpa using he
  clear hfi hff hok
  go_enter Tryz.func81, Tryz.ntmps81
  go_wp2_with (first | (go_at_call 90; refine HF.out.mono ?_; rintro e w1 ⟨rfl, hb⟩; have B1 := Lib.hid hb; clear hb) | (refine store_ino rfl (.tmp 8) (.tmp 15) rfl rfl w1.heap.size x ino0 rfl rfl H4.out rfl (atI_lit w1) ?_; intro w2 hA hB _; have B2 := Lib.hid (below_trans B1.out ((below_alloc (Below.refl _ w1) _).trans hB)); clear hA hB))
  go_ret
  exact pdone_same HR.out B2.out
end fs
namespace fs
set_option maxRecDepth 100000
open Go.ChangeShapes Go.WideShapes Go.ChangeAt Go.RowKit
open rows
open sec
open dsk (wf64 frozen_row grow size_alloc Wr.ok Wr.c ld_cell)
open ly
open pa
open lk
open al
theorem copied_ino (x : Ino) (has : Nat) (fl : List Int) : (x.c.take (2 + has) ++ i64s fl ++ x.c.drop (2 + has + (i64s fl).length)) = (⟨x.kind, x.size, x.b.take has ++ fl ++ x.b.drop (has + fl.length)⟩ : Ino).c := by
 have e1 : 2 + has = has + 1 + 1 := by omega
 have e2 : 2 + has + (i64s fl).length = has + fl.length + 1 + 1 := by simp [i64s]; omega
 rw [e2, e1]
 simp [Ino.c, i64s, List.map_append, List.map_take, List.map_drop]
theorem copy_ino {ops : Array Oper} {rest : List Oper} {o : Oper} {a : Act} {w : World} {Q : Exit → Act → World → Prop} (hgd : o.guard = none) (p s : Operand) (ho : o.op = .call { callee := .builtin .copy, args := #[p, s], argTypes := #[39, 39] })
  (g has : Nat) (x : Ino) (hx : x.b.length = 4) (fl : List Int) (hl : has + fl.length ≤ 4) (ad : Addr) (n c : Nat) (hd : a.eval p = .slice (some ad) n c) (hn : n = 4 - has) (had : 0 < n → ad = ⟨g, 2 + has, none⟩)
  (q : Option Addr) (mm kk : Nat) (hs : a.eval s = .slice q mm kk) (hr : Rd w 1 (.slice q mm kk) mm (i64s fl)) (hA : AtI w g x)
  (h : ∀ w' v, AtI w' g ⟨x.kind, x.size, x.b.take has ++ fl ++ x.b.drop (has + fl.length)⟩ → Below g w w' → dsk.Touch (fun k => k = g) w w' → wpList Tryz.prog ops Q rest (a.put o.dst v) w') : wpList Tryz.prog ops Q (o :: rest) a w := by
 have hmm : fl.length = mm := by have := hr.cells; simpa [i64s] using this
 by_cases h0 : mm = 0
 ·have hf : fl = [] := List.eq_nil_of_length_eq_zero (by omega)
  have hrun : ∀ ty, (Builtin.copy_ #[39, 39] ty #[.slice (some ad) n c, .slice q mm kk]).run Tryz.prog w = .ok (goInt 0) w := fun ty =>
   run_copy_none (P := Tryz.prog) w _ _ ty 3 (some ad) q n c mm kk Tryz.underlying39 (by kernel_rfl) (by rw [h0]; exact Nat.zero_min n)
  refine wpList_plain hgd fun K hK => ?_
  unfold Oper.wp
  simp [execOp, ho, resolve, invoke, builtin, hd, hs, hrun, Result.andThen]
  refine hK _ _ (h _ _ ?_ (Below.refl _ _) (dsk.Touch.refl _ _))
  rw [hf]
  have e : x.b.take has ++ [] ++ x.b.drop (has + ([] : List Int).length) = x.b := by simp
  rw [e]
  exact hA
 ·rcases hr with ⟨p', cap', h1, h2, _⟩ | ⟨b, off, cap', h1, h2, h3, h4, h5, h6, h7⟩
  ·exact absurd h2 h0
  ·cases h1
   have hfl : (i64s fl).length = fl.length := by simp [i64s]
   have hrun : ∀ ty, (Builtin.copy_ #[39, 39] ty #[.slice (some ad) n c, .slice (some ⟨b, off, none⟩) mm kk]).run Tryz.prog w = .ok (goInt (i64s fl).length) (w.setRow g (x.c.take (2 + has) ++ i64s fl ++ x.c.drop (2 + has + (i64s fl).length)).toArray) := fun ty => by
    rw [had (by omega)]
    exact run_copy_row (P := Tryz.prog) w _ _ ty 3 g (2 + has) n c ⟨b, off, none⟩ mm kk x.c.toArray 122 (i64s fl) Tryz.underlying39 (by kernel_rfl) hA (by rw [hfl, hmm]; exact (Nat.min_eq_left (by omega)).symm) (fun j u hj => by
     have := h7 j u hj
     rw [Addr.add_mid]
     exact this) (by rw [hfl]; simp [ino_len hx]; omega) (one_ints .i64 fl)
   refine wpList_plain hgd fun K hK => ?_
   unfold Oper.wp
   simp [execOp, ho, resolve, invoke, builtin, hd, hs, hrun, Result.andThen]
   refine hK _ _ (h _ _ ?_ ((Below.refl g w).trans ⟨rfl, rfl, rfl, by simp [World.setRow], fun k hk => setRow_other w g k _ (by omega)⟩) (dsk.touch_setRow w g _))
   rw [← List.append_assoc, copied_ino]
   exact setRow_heap w g _ _ _ _ hA
def growV (L : List (List Int)) (x : Ino) (m : Nat) : Ino × Bool :=
 if (m : Int) ≤ x.size then (x, true)
 else if blkB L ((need m : Nat) - (need x.size.toNat : Nat) : Int) then (⟨x.kind, m, x.b.take (need x.size.toNat) ++ blkL L ((need m : Nat) - (need x.size.toNat : Nat) : Int) ++ x.b.drop (need x.size.toNat + (blkL L ((need m : Nat) - (need x.size.toNat : Nat) : Int)).length)⟩, true)
 else (x, false)
theorem blkL_len {L : List (List Int)} {z : Int} (h : blkB L z = true) : ((blkL L z).length : Int) = z := by
 rw [blkL, if_pos h, ofNats_len, List.length_take]
 rw [blkB, decide_eq_true_eq] at h
 omega
theorem growV_four {L : List (List Int)} {x : Ino} {m : Nat} (hx : x.b.length = 4) (hm : m ≤ 128) (h0 : 0 ≤ x.size) : (growV L x m).1.b.length = 4 := by
 unfold growV
 split
 ·exact hx
 ·split
  ·rename_i h1 h2
   have hl := blkL_len h2
   have hn : need m ≤ 4 := by unfold need; omega
   simp [hx]
   omega
  ·exact hx
set_option maxRecDepth 100000 in
set_option maxHeartbeats 3200000 in
theorem fgrow (w : World) (g : Nat) (d : Value) (L : List (List Int)) (x : Ino) (hx : x.b.length = 4) (hs0 : 0 ≤ x.size) (hs1 : x.size ≤ 128) (m : Nat) (hm : m ≤ 128) (h : FK w g d L) :
  Calls Tryz.prog 177 #[.pointer (some ⟨g, 0, none⟩), aggI x, .int .i64 (m : Int)] w fun e w' => e = .returned (.tuple #[aggI (growV L x m).1, .bool (growV L x m).2]) ∧ Below w.heap.size w w' := by
 have HK := Lib.hid h
 have H4 := Lib.hid hx
 have HV4 := Lib.hid (growV_four (L := L) hx hm hs0)
 obtain ⟨zn, hzn⟩ := Int.eq_ofNat_of_zero_le hs0
 have HBK := Lib.hid fun z (hz : wf64 z) w' (hb : Below w.heap.size w w') => cblocks_any w' d L z (HK.out.later hb).dk hz
 have HNM := Lib.hid fun w' => frequired m (by omega) w'
 have HNZ := Lib.hid fun w' => frequired zn (by omega) w'
 obtain ⟨V, hV⟩ : ∃ V, growV L x m = V := ⟨_, rfl⟩
 rw [hV]
 rw [hV] at HV4
 unfold growV at hV
 rw [hzn, Int.toNat_natCast] at hV
 have hnm : need m ≤ 4 := by unfold need; omega
 have hnz : need zn ≤ 4 := by unfold need; omega
 have hle : zn ≤ m → need zn ≤ need m := by intro h; unfold need; omega
 generalize need m = nm at *
 generalize need zn = nz at *
 obtain ⟨W, hW⟩ : ∃ W, (w.alloc (.cells x.c.toArray 122)).alloc (.cells #[.int .i64 0, .int .i64 0, .int .i64 0, .int .i64 0, .int .i64 0, .int .i64 0] 122) = W := ⟨_, rfl⟩
 have A0 : Hid (AtI W w.heap.size x) := Lib.hid (by rw [← hW]; exact (atI_new w x).later (below_alloc (Below.refl _ _) _))
 have R0 : Hid (AtI W (w.heap.size + 1) ino0) := Lib.hid (by rw [← hW]; have := atI_lit (w.alloc (.cells x.c.toArray 122)); rw [World.size_alloc] at this; exact this)
 have B0 : Hid (Below w.heap.size w W) := Lib.hid (by rw [← hW]; exact below_alloc (below_alloc (Below.refl _ _) _) _)
 have hsW : Hid (W.heap.size = w.heap.size + 2) := Lib.hid (by rw [← hW]; simp [World.size_alloc])
 have c1 := A0.out.cell1
 rw [hzn] at c1
 have HZ := Lib.hid hzn
 clear h hs0 hs1 hx
 by_cases hsm : (m : Int) ≤ (zn : Int)
 ·rw [if_pos hsm] at hV
  subst hV
  have hmz : m ≤ zn := by omega
  clear hzn
  go_enter Tryz.func177, Tryz.ntmps177
  go_upto_region 1 with fail
  try rw [hW]
  clear hW
  go_wp2_with (first | (refine load_ino rfl (.tmp 4) rfl w.heap.size rfl x H4.out A0.out ?_) | (refine store_ino rfl (.tmp 6) (.tmp 15) rfl rfl (w.heap.size + 1) x ino0 rfl rfl H4.out rfl R0.out ?_; intro w5 hA hB _; have A5 := Lib.hid hA; have B5 := Lib.hid (B0.out.trans (hB.mono (show w.heap.size ≤ w.heap.size + 1 by omega))); clear hA hB))
  exact ret_ino2 rfl (w.heap.size + 1) x (.bool true) rfl rfl H4.out A5.out rfl ⟨rfl, B5.out⟩
 ·rw [if_neg hsm] at hV
  have hmz : ¬ m ≤ zn := by omega
  have hnn := hle (by omega)
  have HWR : IntKind.i64.wrap ((nm : Int) - (nz : Int)) = (nm : Int) - (nz : Int) := IntWalk.i64_in _ (by omega)
  have HBZ := Lib.hid fun w' (hb : Below w.heap.size w w') => HBK.out ((nm : Int) - (nz : Int)) (WalkArith.wf_i64 (by omega)) w' hb
  have HLN := Lib.hid fun hb => blkL_len (L := L) (z := (nm : Int) - (nz : Int)) hb
  generalize blkB L ((nm : Int) - (nz : Int)) = bb at *
  generalize blkL L ((nm : Int) - (nz : Int)) = fl at *
  clear HBK hle hzn
  go_enter Tryz.func177, Tryz.ntmps177
  go_upto_region 1 with fail
  try rw [hW]
  clear hW
  go_upto_region 4 with (go_at_call 91; refine (HNZ.out _).mono ?_; rintro e w1 ⟨rfl, hw1⟩; obtain rfl := hw1)
  clear c1
  have D0 := Lib.hid (HK.out.later B0.out).row
  have HDd := Lib.hid fun v (hv : Below W.drew.heap.size W.drew v) => (FR.later (w := W.drew) D0.out hv).disk
  have hBd : Hid (∀ v, Below W.drew.heap.size W.drew v → Below w.heap.size w v) := Lib.hid fun v hv => below_trans B0.out (((Below.refl W.heap.size W).drew).trans hv)
  have h0 : Below W.drew.heap.size W.drew W.drew := Below.refl _ _
  refine wp_region_held_drew (S := Below W.drew.heap.size W.drew) (by kernel_rfl) h0 (fun hH0 => ?_)
  refine wpAnyH_take (i := 0) (oi := { dst := some 20, op := Op.move (Operand.tmp 0), type := 33, pos := "bytes.go:69", after := #[], guard := none }) (v := ?_) rfl (by kernel_rfl) (by kernel_rfl) (by kernel_rfl) (fun _ _ _ h => h) (Or.inl ⟨by rfl, ?_⟩) (by assumption) ?_
  rotate_left
  ·(intro w' hSw; go_simp; try with_reducible rfl)
  try simp only [Act.put, List.setIfInBounds_toArray, List.set_cons_zero, List.set_cons_succ]
  refine wpAnyH_take (i := 1) (oi := { dst := some 21, op := Op.nilCheck (Operand.tmp 20), type := 0, pos := "bytes.go:69", after := #[{ on := 0, ground := Ground.data }], guard := none }) (v := ?_) rfl (by kernel_rfl) (by kernel_rfl) (by kernel_rfl) (fun _ _ _ h => h) (Or.inl ⟨by rfl, ?_⟩) (by assumption) ?_
  rotate_left
  ·(intro w' hSw; go_simp; try with_reducible rfl)
  try simp only [Act.put, List.setIfInBounds_toArray, List.set_cons_zero, List.set_cons_succ]
  refine wpAnyH_take (i := 2) (oi := { dst := some 22, op := Op.fieldAddr 77 (Operand.tmp 21) 1, type := 0, pos := "bytes.go:69", after := #[{ on := 1, ground := Ground.data }], guard := none }) (v := ?_) rfl (by kernel_rfl) (by kernel_rfl) (by kernel_rfl) (fun _ _ _ h => h) (Or.inl ⟨by rfl, ?_⟩) (by assumption) ?_
  rotate_left
  ·(intro w' hSw; go_simp; try with_reducible rfl)
  try simp only [Act.put, List.setIfInBounds_toArray, List.set_cons_zero, List.set_cons_succ]
  refine' wpAnyH_take (i := 3) (oi := { dst := some 23, op := Op.load 26 (Operand.tmp 22), type := 26, pos := "bytes.go:69", after := #[{ on := 2, ground := Ground.data }], guard := none }) (v := _) rfl (by kernel_rfl) (by kernel_rfl) (by kernel_rfl) (fun _ _ _ h => h) (ld_cell (by rfl) 26 _ Tryz.underlying26 rfl _ rfl g 1 rfl _ (fun w' hw => HDd.out w' hw)) (by assumption) ?_
  try simp only [Act.put, List.setIfInBounds_toArray, List.set_cons_zero, List.set_cons_succ]
  refine wpAnyH_take (i := 4) (oi := { dst := some 24, op := Op.move (Operand.tmp 2), type := 3, pos := "bytes.go:69", after := #[], guard := none }) (v := ?_) rfl (by kernel_rfl) (by kernel_rfl) (by kernel_rfl) (fun _ _ _ h => h) (Or.inl ⟨by rfl, ?_⟩) (by assumption) ?_
  rotate_left
  ·(intro w' hSw; go_simp; try with_reducible rfl)
  try simp only [Act.put, List.setIfInBounds_toArray, List.set_cons_zero, List.set_cons_succ]
  refine wpAnyH_take (i := 6) (oi := { dst := some 26, op := Op.move (Operand.tmp 8), type := 3, pos := "bytes.go:69", after := #[], guard := none }) (v := ?_) rfl (by kernel_rfl) (by kernel_rfl) (by kernel_rfl) (fun _ _ _ h => h) (Or.inl ⟨by rfl, ?_⟩) (by assumption) ?_
  rotate_left
  ·(intro w' hSw; go_simp; try with_reducible rfl)
  try simp only [Act.put, List.setIfInBounds_toArray, List.set_cons_zero, List.set_cons_succ]
  refine wpAnyH_ready (rs := [5]) (by kernel_rfl) (by simp) ?_
  refine AllReadyH.cons (o := { dst := some 25, op := Op.call { callee := Callee.value (Operand.func 91), args := #[Operand.tmp 24], argTypes := #[3] }, type := 3, pos := "bytes.go:69", after := #[{ on := 4, ground := Ground.data }], guard := none }) rfl (fun K hK => ?_) AllReadyH.nil
  go_simp
  refine (HNM.out _).mono ?_
  rintro e v1 ⟨rfl, hv1⟩
  obtain rfl := hv1
  have h1 := h0
  dsimp only
  refine hK.out _ _ ?_ (fun hHeld => ?_)
  ·exact h1
  clear hK K
  try simp only [Act.put, List.setIfInBounds_toArray, List.set_cons_zero, List.set_cons_succ]
  refine wpAnyH_take (i := 7) (oi := { dst := some 27, op := Op.binOp BinOp.sub 3 (Operand.tmp 25) (Operand.tmp 26) 3, type := 3, pos := "bytes.go:69", after := #[{ on := 5, ground := Ground.data }, { on := 6, ground := Ground.data }], guard := none }) (v := ?_) rfl (by kernel_rfl) (by kernel_rfl) (by kernel_rfl) (fun _ _ _ h => h) (Or.inl ⟨by rfl, ?_⟩) (by assumption) ?_
  rotate_left
  ·(intro w' hSw; go_simp; try with_reducible rfl)
  try simp only [Act.put, List.setIfInBounds_toArray, List.set_cons_zero, List.set_cons_succ]
  refine wpAnyH_ready (rs := [8]) (by kernel_rfl) (by simp) ?_
  refine AllReadyH.cons (o := { dst := some 28, op := Op.call { callee := Callee.value (Operand.func 208), args := #[Operand.tmp 23, Operand.tmp 27], argTypes := #[26, 3] }, type := 130, pos := "bytes.go:69", after := #[{ on := 3, ground := Ground.data }, { on := 7, ground := Ground.data }, { on := 5, ground := Ground.chain }], guard := none }) rfl (fun K hK => ?_) AllReadyH.nil
  go_simp
  refine (HBZ.out _ (hBd.out _ h1)).mono ?_
  rintro e v2 ⟨q, mm, kk, rfl, hmm, hr, hv2⟩
  have h2 := h1.trans (hv2.mono h1.size)
  have RF := Lib.hid hr
  have VV := Lib.hid h2
  clear hr
  dsimp only
  refine hK.out _ _ ?_ (fun hHeld => ?_)
  ·exact h2
  clear hK K
  try simp only [Act.put, List.setIfInBounds_toArray, List.set_cons_zero, List.set_cons_succ]
  refine wpAnyH_take (i := 9) (oi := { dst := some 19, op := Op.move (Operand.tmp 28), type := 130, pos := "bytes.go:69", after := #[{ on := 8, ground := Ground.data }], guard := none }) (v := ?_) rfl (by kernel_rfl) (by kernel_rfl) (by kernel_rfl) (fun _ _ _ h => h) (Or.inl ⟨by rfl, ?_⟩) (by assumption) ?_
  rotate_left
  ·(intro w' hSw; go_simp; try with_reducible rfl)
  try simp only [Act.put, List.setIfInBounds_toArray, List.set_cons_zero, List.set_cons_succ]
  refine wpAnyH_take (i := 10) (oi := { dst := some 29, op := Op.extract (Operand.tmp 19) 0, type := 39, pos := "bytes.go:69", after := #[{ on := 9, ground := Ground.data }], guard := none }) (v := ?_) rfl (by kernel_rfl) (by kernel_rfl) (by kernel_rfl) (fun _ _ _ h => h) (Or.inl ⟨by rfl, ?_⟩) (by assumption) ?_
  rotate_left
  ·(intro w' hSw; go_simp; try with_reducible rfl)
  try simp only [Act.put, List.setIfInBounds_toArray, List.set_cons_zero, List.set_cons_succ]
  refine wpAnyH_take (i := 11) (oi := { dst := some 30, op := Op.extract (Operand.tmp 19) 1, type := 4, pos := "bytes.go:69", after := #[{ on := 9, ground := Ground.data }, { on := 12, ground := Ground.gcOnly Departure.lateStores }], guard := none }) (v := ?_) rfl (by kernel_rfl) (by kernel_rfl) (by kernel_rfl) (fun _ _ _ h => h) (Or.inl ⟨by rfl, ?_⟩) (by assumption) ?_
  rotate_left
  ·(intro w' hSw; go_simp; try with_reducible rfl)
  try simp only [Act.put, List.setIfInBounds_toArray, List.set_cons_zero, List.set_cons_succ]
  refine wpAnyH_take (i := 12) (oi := { dst := some 9, op := Op.assign (Operand.tmp 29), type := 39, pos := "bytes.go:69", after := #[{ on := 10, ground := Ground.data }, { on := 8, ground := Ground.chain }, { on := 0, ground := Ground.phase }, { on := 1, ground := Ground.phase }, { on := 2, ground := Ground.phase }, { on := 3, ground := Ground.phase }, { on := 4, ground := Ground.phase }, { on := 5, ground := Ground.phase }, { on := 6, ground := Ground.phase }, { on := 7, ground := Ground.phase }, { on := 8, ground := Ground.phase }, { on := 9, ground := Ground.phase }, { on := 10, ground := Ground.phase }, { on := 11, ground := Ground.textOnly Departure.lateStores }], guard := none }) (v := ?_) rfl (by kernel_rfl) (by kernel_rfl) (by kernel_rfl) (fun _ _ _ h => h) (Or.inl ⟨by rfl, ?_⟩) (by assumption) ?_
  rotate_left
  ·(intro w' hSw; go_simp; try with_reducible rfl)
  try simp only [Act.put, List.setIfInBounds_toArray, List.set_cons_zero, List.set_cons_succ]
  refine wpAnyH_take (i := 13) (oi := { dst := some 10, op := Op.assign (Operand.tmp 30), type := 4, pos := "bytes.go:69", after := #[{ on := 11, ground := Ground.data }, { on := 12, ground := Ground.chain }, { on := 0, ground := Ground.phase }, { on := 1, ground := Ground.phase }, { on := 2, ground := Ground.phase }, { on := 3, ground := Ground.phase }, { on := 4, ground := Ground.phase }, { on := 5, ground := Ground.phase }, { on := 6, ground := Ground.phase }, { on := 7, ground := Ground.phase }, { on := 8, ground := Ground.phase }, { on := 9, ground := Ground.phase }, { on := 10, ground := Ground.phase }, { on := 11, ground := Ground.phase }, { on := 12, ground := Ground.phase }], guard := none }) (v := ?_) rfl (by kernel_rfl) (by kernel_rfl) (by kernel_rfl) (fun _ _ _ h => h) (Or.inl ⟨by rfl, ?_⟩) (by assumption) ?_
  rotate_left
  ·(intro w' hSw; go_simp; try with_reducible rfl)
  try simp only [Act.put, List.setIfInBounds_toArray, List.set_cons_zero, List.set_cons_succ]
  refine wpAnyH_done (by kernel_rfl) ?_ _
  have A2 : Hid (AtI _ w.heap.size x) := Lib.hid (AtI.later (w := W.drew) A0.out h2)
  have R2 : Hid (AtI _ (w.heap.size + 1) ino0) := Lib.hid (AtI.later (w := W.drew) R0.out h2)
  have B2 := Lib.hid (hBd.out _ h2)
  cases bb with
  | false =>
   rw [if_neg (by decide)] at hV
   subst hV
   go_wp2_with (first | (refine load_ino rfl (.tmp 4) rfl w.heap.size rfl x H4.out A2.out ?_) | (refine store_ino rfl (.tmp 6) (.tmp 33) rfl rfl (w.heap.size + 1) x ino0 rfl rfl H4.out rfl R2.out ?_; intro w5 hA hB _; have A5 := Lib.hid hA; have B5 := Lib.hid (B2.out.trans (hB.mono (show w.heap.size ≤ w.heap.size + 1 by omega))); clear hA hB))
   exact ret_ino2 rfl (w.heap.size + 1) x (.bool false) rfl rfl H4.out A5.out rfl ⟨rfl, B5.out⟩
  | true =>
   rw [if_pos rfl] at hV
   have hll := HLN.out rfl
   have hll2 : nz + fl.length ≤ 4 := by omega
   have hnzi : (nz : Int) ≤ 4 := by omega
   subst hmm
   obtain ⟨y, hy⟩ : ∃ y : Ino, (⟨x.kind, (m : Int), x.b.take nz ++ fl ++ x.b.drop (nz + fl.length)⟩ : Ino) = y := ⟨_, rfl⟩
   have HYE := Lib.hid hy
   rw [hy] at hV
   subst hV
   clear hy hll
   go_upto_region 8 with (first | (refine copy_ino rfl (.tmp 36) (.tmp 37) rfl w.heap.size nz x H4.out fl hll2 _ _ _ rfl (by simp) (fun hp => (by have hne : ¬ (4 = nz) := (by omega); simp [hne])) q _ kk rfl RF.out A2.out ?_; intro w3 v3 hA hB hT; have A3 := Lib.hid hA; have R3 : Hid (AtI w3 (w.heap.size + 1) ino0) := Lib.hid ((hT.block _ (Array.getElem?_eq_some_iff.1 R2.out).1 (by omega)).trans R2.out); have B3 := Lib.hid (B2.out.trans hB); clear hA hB hT))
   all_goals
    have c3 := A3.out.cell1
    have f3 := frozen_row A3.out 1
    go_upto_region 9 with fail
    have A4 : Hid (AtI (w3.setCell ⟨w.heap.size, 1, none⟩ (.int .i64 (m : Int))) w.heap.size y) := Lib.hid (by rw [← HYE.out]; exact AtI.setS A3.out (m : Int))
    have R4 := Lib.hid (R3.out.setOther (g := w.heap.size) (j := 1) (by omega) (.int .i64 (m : Int)))
    have B4 := Lib.hid (B3.out.setCell (p := ⟨w.heap.size, 1, none⟩) (Nat.le_refl _) (.int .i64 (m : Int)))
    generalize w3.setCell ⟨w.heap.size, 1, none⟩ (.int .i64 (m : Int)) = w4 at *
    clear c3 f3
    go_wp2_with (first | (refine load_ino rfl (.tmp 4) rfl w.heap.size rfl y HV4.out A4.out ?_) | (refine store_ino rfl (.tmp 6) (.tmp 41) rfl rfl (w.heap.size + 1) y ino0 rfl rfl HV4.out rfl R4.out ?_; intro w5 hA hB _; have A5 := Lib.hid hA; have B5 := Lib.hid (B4.out.trans (hB.mono (show w.heap.size ≤ w.heap.size + 1 by omega))); clear hA hB))
    all_goals exact ret_ino2 rfl (w.heap.size + 1) y (.bool true) rfl rfl HV4.out A5.out rfl ⟨rfl, B5.out⟩
end fs
namespace fs
set_option maxRecDepth 100000
open Go.ChangeShapes Go.WideShapes Go.ChangeAt Go.RowKit
open rows
open sec
open dsk (Wr)
open ly
open pa
open lk
open al
def stepF (L : List (List Int)) (n : Int) (ob nb : List Int) (off : Nat) (b : List Int) (i : Nat) : Wr := ⟨40 + nb.getD i 0, putL (contV L (ob.getD i 0)) off b i, 1, n, 0⟩
theorem putL_secs {old : List Int} (ho : Sec old) {b : List Int} (hb : ∀ x ∈ b, 0 ≤ x ∧ x < 256) (off i : Nat) : Sec (putL old off b i) := by
 refine ⟨by simp [putL], fun x hx => ?_⟩
 obtain ⟨j, hj, rfl⟩ := List.mem_map.1 hx
 split
 ·rename_i h
  have hl : 32 * i + j - off < b.length := by omega
  simp only [List.getD, List.getElem?_eq_getElem hl, Option.getD_some]
  exact hb _ (List.getElem_mem hl)
 ·exact sec_getD ho j
theorem put_part {old : List Int} (ho : old.length = 32) {b : List Int} {off k o i a pl : Nat} (hk : k < b.length) (hoo : o = off + k) (hi : i = o / 32) (ha : a = o % 32) (h0 : k = 0 ∨ a = 0) (hpl : pl = min (b.length - k) (32 - a)) :
  splice old a ((b.drop k).take pl) = putL old off b i := by
 have hpl1 : pl ≤ 32 - a := by omega
 have hpl2 : pl ≤ b.length - k := by omega
 have ha32 : a < 32 := by omega
 have hl : ((b.drop k).take pl).length = pl := by simp; omega
 have htl : (old.take a).length = a := by rw [List.length_take, ho]; omega
 unfold splice
 rw [hl]
 apply List.ext_getElem?
 intro j
 by_cases hj : j < 32
 ·have hr : (putL old off b i)[j]? = some (if off ≤ 32 * i + j ∧ 32 * i + j < off + b.length then b.getD (32 * i + j - off) 0 else old.getD j 0) := by simp [putL, hj]
  rw [hr]
  have hoj : old[j]? = some (old.getD j 0) := by simp [List.getD, show j < old.length by omega]
  by_cases h1 : j < a
  ·rw [List.getElem?_append_left (by rw [htl]; omega), List.getElem?_take_of_lt h1, hoj, if_neg (by omega)]
  ·by_cases h2 : j < a + pl
   ·rw [List.getElem?_append_right (by rw [htl]; omega), htl, List.getElem?_append_left (by rw [hl]; omega), List.getElem?_take_of_lt (by omega), List.getElem?_drop, if_pos (by omega)]
    have e : k + (j - a) = 32 * i + j - off := by omega
    rw [e]
    simp only [List.getD, List.getElem?_eq_getElem (show 32 * i + j - off < b.length by omega), Option.getD_some]
   ·rw [List.getElem?_append_right (by rw [htl]; omega), htl, List.getElem?_append_right (by rw [hl]; omega), hl, List.getElem?_drop, show a + pl + (j - a - pl) = j by omega, hoj, if_neg (by omega)]
 ·rw [List.getElem?_eq_none (by rw [List.length_append, List.length_append, htl, hl, List.length_drop, ho]; omega), List.getElem?_eq_none (by simp [putL]; omega)]
theorem hit_range {off m i0 t : Nat} (hom : off + m ≤ 128) (hi : i0 = off / 32) (h1 : 0 < t → 32 * (i0 + t - 1) < off + m) (h2 : m ≤ 32 * (i0 + t) - off) (h3 : 0 < m → 0 < t) (h4 : m = 0 → t = 0) : (List.range 4).filter (hitB off m) = List.range' i0 t := by
 have key : ∀ (p : Nat → Bool), i0 + t ≤ 4 → (∀ i, i < 4 → p i = (decide (i0 ≤ i) && decide (i < i0 + t))) → (List.range 4).filter p = List.range' i0 t := by
  intro p hle hp
  have p0 := hp 0 (by omega)
  have p1 := hp 1 (by omega)
  have p2 := hp 2 (by omega)
  have p3 := hp 3 (by omega)
  have e : List.range 4 = [0, 1, 2, 3] := rfl
  rw [e]
  have e1 : i0 = 0 ∨ i0 = 1 ∨ i0 = 2 ∨ i0 = 3 ∨ i0 = 4 := by omega
  have e2 : t = 0 ∨ t = 1 ∨ t = 2 ∨ t = 3 ∨ t = 4 := by omega
  clear h1 h2 h3 h4 hi hp hom
  rcases e1 with rfl | rfl | rfl | rfl | rfl <;> rcases e2 with rfl | rfl | rfl | rfl | rfl <;> first | (exfalso; omega) | (simp only [List.filter, p0, p1, p2, p3]; rfl)
 by_cases hm : m = 0
 ·have ht := h4 hm
  subst hm ht
  rw [List.range'_zero, List.filter_eq_nil_iff]
  intro i _
  simp [hitB]
 ·have ht := h3 (by omega)
  have h5 := h1 ht
  refine key _ (by omega) fun i hi4 => ?_
  unfold hitB
  rw [← Bool.decide_and]
  exact decide_eq_decide.2 (by omega)
theorem cont_had {L : List (List Int)} {x y : Ino} {had i : Nat} (h1 : i < had → 1 ≤ x.b.getD i 0 ∧ y.b.getD i 0 = x.b.getD i 0) (h2 : ¬ i < had → x.b.getD i 0 = 0) : contV L (x.b.getD i 0) = if i < had then L.getD (40 + y.b.getD i 0).toNat zero32 else zero32 := by
 by_cases h : i < had
 ·obtain ⟨h3, h4⟩ := h1 h
  rw [if_pos h, h4]
  generalize x.b.getD i 0 = z at *
  rw [contV, if_neg (by omega), secAt]
  split
  ·rfl
  ·rename_i hh
   have : L.length ≤ (40 + z).toNat := by omega
   simp only [List.getD, List.getElem?_eq_none this, Option.getD_none]
 ·rw [if_neg h, h2 h]
  rfl
end fs
namespace fs
set_option maxRecDepth 100000
open Go.ChangeShapes Go.WideShapes Go.ChangeAt Go.RowKit
open rows
open sec
open dsk (cell_row size_alloc step_build_one step_ap2 Wr Wr.c ld_cell rd_laid)
open ly
open pa
open lk
open al
def AtA (w : World) (g : Nat) (l : List Int) : Prop := w.heap[g]? = some (.cells (i64s l).toArray 120 (0, 0))
theorem AtA.lt {w : World} {g : Nat} {l : List Int} (h : AtA w g l) : g < w.heap.size := (Array.getElem?_eq_some_iff.1 h).1
theorem AtA.later {w w' : World} {g : Nat} {l : List Int} (h : AtA w g l) (k : Below w.heap.size w w') : AtA w' g l := (k.block g h.lt).trans h
theorem AtA.below {w w' : World} {g B : Nat} {l : List Int} (h : AtA w g l) (k : Below B w w') (hg : g < B) : AtA w' g l := (k.block g hg).trans h
theorem AtA.cell {w : World} {g : Nat} {l : List Int} (h : AtA w g l) {i : Nat} (hi : i < l.length) : w.cell? ⟨g, i, none⟩ = some (.int .i64 (l.getD i 0)) :=
 cell_row h _ _ (by simp [i64s, List.getD, hi])
theorem atA_new (w : World) (l : List Int) : AtA (w.alloc (.cells (i64s l).toArray 120)) w.heap.size l := heap_alloc_new _ _
theorem stsC_snoc (l : List (Wr × Bool)) (x : Wr × Bool) : stsC (l ++ [x]) = stsC l ++ pstC x := by simp [stsC]
theorem own_lower {w : World} {B B' : Nat} {e : TypeId} {sz n : Nat} {v : Value} {cs : List Value} (h : rows.Own w B e sz v n cs) (hB : B' ≤ B) : rows.Own w B' e sz v n cs := by
 refine ⟨h.1, ?_⟩
 rcases h.2 with h2 | ⟨g, cap, cur, hv, h3, h4, h5⟩
 ·exact Or.inl h2
 ·exact Or.inr ⟨g, cap, cur, hv, Nat.le_trans hB h3, h4, h5⟩
theorem rd_pre1 {w : World} {sz r c pl : Nat} {p : Option Addr} {cs : List Value} (h : Rd w sz (.slice p r c) r cs) (hs : sz = 1) (hl : pl ≤ r) (h0 : 0 < pl) : Rd w sz (.slice p pl c) pl (cs.take pl) := by
 subst hs
 rcases h with ⟨_, _, _, h1, _⟩ | ⟨b, off, cap, h1, h2, h3, h4, h5, h6, h7⟩
 ·omega
 ·cases h1
  refine Or.inr ⟨b, off, c, rfl, h0, by omega, h4, h5, by rw [List.length_take]; omega, fun j u hj => h7 j u ?_⟩
  rw [List.getElem?_take] at hj
  split at hj
  ·exact hj
  ·cases hj
theorem rd_rest {w : World} {r c pl : Nat} {p : Option Addr} {cs : List Value} (h : Rd w 1 (.slice p r c) r cs) (hl : pl ≤ r) (h0 : 0 < pl) : ∀ p2, (p2 = if c = pl then p else p.map fun x => x.add pl) → Rd w 1 (.slice p2 (r - pl) (c - pl)) (r - pl) (cs.drop pl) := by
 intro p2 hp2
 rcases h with ⟨_, _, _, h1, _⟩ | ⟨b, off, cap, h1, h2, h3, h4, h5, h6, h7⟩
 ·omega
 ·cases h1
  by_cases hrp : r - pl = 0
  ·rw [hrp]
   refine Or.inl ⟨p2, c - pl, rfl, rfl, List.drop_of_length_le (by omega), fun hn => ?_⟩
   rw [hp2] at hn
   split at hn
   ·cases hn
   ·cases hn
  ·rw [if_neg (by omega)] at hp2
   subst hp2
   refine Or.inr ⟨b, off + pl, c - pl, by simp [Addr.add_mid], by omega, by omega, by omega, h5, by rw [List.length_drop]; omega, fun j u hj => ?_⟩
   rw [List.getElem?_drop] at hj
   rw [Nat.add_assoc]
   exact h7 _ u hj
def fillL (L : List (List Int)) (n : Int) (ob nb : List Int) (off : Nat) (b : List Int) (is : List Nat) : List (Wr × Bool) := is.map fun i => (stepF L n ob nb off b i, false)
theorem fillL_succ (L : List (List Int)) (n : Int) (ob nb : List Int) (off : Nat) (b : List Int) (i0 t : Nat) : stsC (fillL L n ob nb off b (List.range' i0 (t + 1))) = stsC (fillL L n ob nb off b (List.range' i0 t)) ++ stC (stepF L n ob nb off b (i0 + t)) false := by
 rw [List.range'_concat, Nat.one_mul, fillL, List.map_append, List.map_cons, List.map_nil, stsC_snoc]
 rfl
set_option maxRecDepth 100000 in
set_option maxHeartbeats 6400000 in
theorem ffill (w : World) (g : Nat) (d : Value) (L : List (List Int)) (h : FK w g d L) (n : Int) (ob nb : List Int) (ho4 : ob.length = 4) (hn4 : nb.length = 4) (hob : ∀ i, 0 ≤ ob.getD i 0 ∧ ob.getD i 0 ≤ 200) (hnb : ∀ i, 0 ≤ nb.getD i 0 ∧ nb.getD i 0 ≤ 200) (off m : Nat) (p : Option Addr) (c : Nat) (b : List Int) (hb : Rd w 1 (.slice p m c) m (u8s b)) (hbb : ∀ x ∈ b, 0 ≤ x ∧ x < 256) (hom : off + m ≤ 128) :
  Calls Tryz.prog 178 #[.pointer (some ⟨g, 0, none⟩), .int .i64 n, .agg (i64s ob).toArray, .agg (i64s nb).toArray, .int .i64 (off : Int), .slice p m c] w fun e w' => ∃ q k c', e = .returned (.slice q k c') ∧ k = ((List.range 4).filter (hitB off m)).length ∧ rows.Own w' w.heap.size 188 37 (.slice q k c') k (stsC (fillL L n ob nb off b ((List.range 4).filter (hitB off m)))) ∧ Below w.heap.size w w' := by
 have HK := Lib.hid h
 have hbl : b.length = m := by have := hb.cells; simpa [u8s] using this
 have HB := Lib.hid hb
 have HBB := Lib.hid hbb
 have HBL := Lib.hid hbl
 have HO4 := Lib.hid ho4
 have HN4 := Lib.hid hn4
 have HOB := Lib.hid hob
 have HNB := Lib.hid hnb
 have HS := Lib.hid h.dk.secs.1
 have hom' := hom
 obtain ⟨W, hW⟩ : ∃ W, (w.alloc (.cells (i64s ob).toArray 120)).alloc (.cells (i64s nb).toArray 120) = W := ⟨_, rfl⟩
 have A0 : Hid (AtA W w.heap.size ob) := Lib.hid (by rw [← hW]; exact (atA_new w ob).later (below_alloc (Below.refl _ _) _))
 have N0 : Hid (AtA W (w.heap.size + 1) nb) := Lib.hid (by rw [← hW]; have := atA_new (w.alloc (.cells (i64s ob).toArray 120)) nb; rw [World.size_alloc] at this; exact this)
 have B0 : Hid (Below w.heap.size w W) := Lib.hid (by rw [← hW]; exact below_alloc (below_alloc (Below.refl _ _) _) _)
 have hsW : Hid (W.heap.size = w.heap.size + 2) := Lib.hid (by rw [← hW]; simp [World.size_alloc])
 clear h hb hbb ho4 hn4 hob hnb hbl
 obtain ⟨HL, hHL⟩ : ∃ HL, (List.range 4).filter (hitB off m) = HL := ⟨_, rfl⟩
 rw [hHL]
 have HHL := Lib.hid hHL
 clear hHL
 go_enter Tryz.func178, Tryz.ntmps178
 go_upto_region 1 with fail
 try rw [hW]
 clear hW
 go_wp2_with fail
 go_loopw [4, 5, 13, 14, 15, 16, 17, 18] (fun ov bv sv _ _ _ _ _ wr => ∃ (t k o r : Nat) (p' : Option Addr) (c' : Nat) (q : Option Addr) (kc : Nat), k = min m (32 * (off / 32 + t) - off) ∧ o = off + k ∧ r = m - k ∧ (0 < t → 32 * (off / 32 + t - 1) < off + m) ∧ (0 < k → 0 < t) ∧ (m = 0 → t = 0) ∧ ov = .int .i64 (o : Int) ∧ bv = .slice p' r c' ∧ sv = .slice q t kc ∧ Hid (Rd w 1 (.slice p' r c') r (u8s (b.drop k))) ∧ Hid (rows.Own wr (w.heap.size + 2) 188 37 (.slice q t kc) t (stsC (fillL L n ob nb off b (List.range' (off / 32) t)))) ∧ Hid (Below (w.heap.size + 2) W wr)) (fun _ bv _ _ _ _ _ _ _ => (match bv with | .slice _ n _ => n | _ => 0))
 case atStart => exact ⟨0, 0, off, m, p, c, none, 0, by omega, by omega, by omega, (fun h => by omega), (fun h => by omega), (fun _ => rfl), rfl, rfl, rfl, Lib.hid (by simpa using HB.out), Lib.hid (by simp [fillL, stsC]; exact own_nil _ _ _ _), Lib.hid (Below.refl _ _)⟩
 case round =>
  obtain ⟨t, k, o, r, p', c', q, kc, hk, ho, hr, h1, h2, h3, rfl, rfl, rfl, HR, HO, HBw⟩ := hrel
  have HBB0 := Lib.hid (B0.out.trans (HBw.out.mono (show w.heap.size ≤ w.heap.size + 2 by omega)))
  by_cases hr0 : 0 < r
  ·have hr0i : (0 : Int) < r := by omega
   have hkm : k < m := by omega
   have hk2 : k = 32 * (off / 32 + t) - off := by omega
   obtain ⟨i, hi⟩ : ∃ i, i = o / 32 := ⟨_, rfl⟩
   obtain ⟨a, ha⟩ : ∃ a, a = o % 32 := ⟨_, rfl⟩
   have hit : i = off / 32 + t := by omega
   have hi4 : i < 4 := by omega
   have ha32 : a < 32 := by omega
   have hk0 : k = 0 ∨ a = 0 := by omega
   have hq1 : (o : Int) / 32 = (i : Int) := by omega
   have hq2 : (o : Int) % 32 = (a : Int) := by omega
   obtain ⟨pl, hpl⟩ : ∃ pl, pl = min (b.length - k) (32 - a) := ⟨_, rfl⟩
   have HPP := Lib.hid fun old (ho' : old.length = 32) => put_part (old := old) (b := b) (off := off) (k := k) (o := o) (i := i) (a := a) (pl := pl) ho' (by rw [HBL.out]; exact hkm) ho hi ha hk0 hpl
   rw [HBL.out] at hpl
   have hmin : min (r : Int) (32 - (a : Int)) = (pl : Int) := by omega
   have hmin2 : min (32 - (a : Int)) (r : Int) = (pl : Int) := by omega
   have hplr : (pl : Int) ≤ (r : Int) := by omega
   have hpl0 : 0 < pl := by omega
   have hrc : r ≤ c' := by
    rcases HR.out with ⟨_, _, _, h0, _⟩ | ⟨_, _, _, h1, _, h3, _⟩
    ·omega
    ·cases h1; exact h3
   have hplc : (pl : Int) ≤ (c' : Int) := by omega
   have HKE := Lib.hid hk
   have HOE := Lib.hid ho
   have HRE := Lib.hid hr
   have HIE := Lib.hid hit
   have HAE := Lib.hid ha
   have HPE := Lib.hid hpl
   have HIO := Lib.hid hi
   have HH1 := Lib.hid h1
   clear h1 h2 h3 hk0 hk2 hk ho hr hit ha hpl hi hrc
   have hi4i : (i : Int) < 4 := by omega
   have AW := Lib.hid (A0.out.below HBw.out (show w.heap.size < w.heap.size + 2 by omega))
   have NW := Lib.hid (N0.out.below HBw.out (show w.heap.size + 1 < w.heap.size + 2 by omega))
   have cob := AW.out.cell (i := i) (by rw [HO4.out]; exact hi4)
   have hobi := HOB.out i
   have hnbi := HNB.out i
   have HCO := Lib.hid fun w' (hb : Below w.heap.size w w') => fcontent w' g d L (ob.getD i 0) (HK.out.later hb) hobi
   have HSC := Lib.hid (contV_sec HS.out (ob.getD i 0))
   have HPP2 := Lib.hid (HPP.out (contV L (ob.getD i 0)) HSC.out.1)
   have HPS := Lib.hid (putL_secs HSC.out HBB.out off i)
   have HXE : Hid (stepF L n ob nb off b i = ⟨40 + nb.getD i 0, putL (contV L (ob.getD i 0)) off b i, 1, n, 0⟩) := Lib.hid rfl
   have HFS := Lib.hid (fillL_succ L n ob nb off b (off / 32) t)
   rw [← HIE.out] at HFS
   generalize stepF L n ob nb off b i = X at *
   generalize putL (contV L (ob.getD i 0)) off b i = s at *
   generalize contV L (ob.getD i 0) = cs at *
   generalize ob.getD i 0 = obi at *
   generalize hnn : nb.getD i 0 = nbi at *
   have HBS := Lib.hid fun w' => fblockStep n nbi hnbi s HPS.out w'
   rw [← HXE.out] at HBS
   have HXS : Hid (Sec X.s) := Lib.hid (by rw [HXE.out]; exact HPS.out)
   have cnb0 := NW.out.cell (i := i) (by rw [HN4.out]; exact hi4)
   rw [hnn] at cnb0
   have CNB := Lib.hid cnb0
   have HPUT := Lib.hid fun w' (hb : Below w.heap.size w w') => put_yes cs ((b.drop k).take pl) a pl c' p' w' HSC.out (by
    have := rd_pre1 (pl := pl) (HR.out.later hb) rfl (by have := HPE.out; omega) hpl0
    simpa [u8s, List.map_take] using this) (by have := HPE.out; omega)
   rw [HPP2.out] at HPUT
   clear HPP HPP2 cnb0 hnn
   go_upto_region 6 with (first
    | (go_at_call 92; refine (HCO.out _ HBB0.out).mono ?_; rintro e w4 ⟨rfl, hb⟩; have B4 := Lib.hid hb; have BB4 := Lib.hid (below_trans HBB0.out hb); clear hb)
    | (go_at_call 209; refine (HPUT.out _ BB4.out).mono ?_; rintro e w5 ⟨rfl, hb⟩; have B5 := Lib.hid (below_trans B4.out hb); clear hb)
    | (refine store_at rfl (.tmp 17) (.tmp 42) rfl rfl w5.heap.size s zero32 rfl rfl HPS.out.1 (by decide) (at_lit w5) ?_; intro w6 hA hB _; have hb := (below_alloc (Below.refl _ w5) _).trans hB; have B6 := Lib.hid (below_trans B5.out hb); have S6 := Lib.hid hA; clear hA hB hb))
   clear cob
   have hz6 : wr.heap.size ≤ w5.heap.size := B5.out.size
   have HO6 := Lib.hid (own_later HO.out B6.out)
   have hwz : w.heap.size + 2 ≤ wr.heap.size := by have h1 := HBw.out.size; rw [hsW.out] at h1; exact h1
   have HNQ : Hid (∀ x, (Value.slice q t kc).ownBlock = some x → w.heap.size + 2 ≤ x ∧ x < wr.heap.size) := Lib.hid fun x hx => dsk.own_blk HO.out hx
   have HNC : Hid (∀ v, dsk.Touch (fun x => (Value.slice q t kc).ownBlock = some x) w6.drew v → v.cell? ⟨w.heap.size + 1, i, none⟩ = some (.int .i64 nbi)) := Lib.hid fun v hv => by
    have e1 : w6.drew.cell? ⟨w.heap.size + 1, i, none⟩ = some (.int .i64 nbi) := (B6.out.cell (p := ⟨w.heap.size + 1, i, none⟩) (by show w.heap.size + 1 < wr.heap.size; omega)).trans CNB.out
    exact (hv.cell (p := ⟨w.heap.size + 1, i, none⟩) (by have := B6.out.size; show w.heap.size + 1 < w6.heap.size; omega) (fun hh => by have := HNQ.out _ hh; have h9 : w.heap.size + 2 ≤ w.heap.size + 1 := this.1; omega)).trans e1
   have HSA : Hid (∀ v, dsk.Touch (fun x => (Value.slice q t kc).ownBlock = some x) w6.drew v → At v w5.heap.size s) := Lib.hid fun v hv => (hv.block _ (Array.getElem?_eq_some_iff.1 S6.out).1 (fun hh => by have := HNQ.out _ hh; omega)).trans S6.out
   have h0 := dsk.Touch.refl (fun x => (Value.slice q t kc).ownBlock = some x) w6.drew
   have b0 : Below w6.drew.heap.size w6.drew w6.drew := Below.refl _ _
   refine wp_region_held_drew (S := dsk.Touch (fun x => (Value.slice q t kc).ownBlock = some x) w6.drew) (by kernel_rfl) h0 (fun hH0 => ?_)
   refine wpAnyH_take (i := 0) (oi := { dst := some 44, op := Op.move (Operand.tmp 13), type := 239, pos := "bytes.go:91", after := #[], guard := none }) (v := ?_) rfl (by kernel_rfl) (by kernel_rfl) (by kernel_rfl) (fun _ _ _ h => h) (Or.inl ⟨by rfl, ?_⟩) (by assumption) ?_
   rotate_left
   ·(intro w' hSw; go_simp; try with_reducible rfl)
   try simp only [Act.put, List.setIfInBounds_toArray, List.set_cons_zero, List.set_cons_succ]
   refine wpAnyH_take (i := 1) (oi := { dst := some 45, op := Op.move (Operand.tmp 1), type := 3, pos := "bytes.go:91", after := #[], guard := none }) (v := ?_) rfl (by kernel_rfl) (by kernel_rfl) (by kernel_rfl) (fun _ _ _ h => h) (Or.inl ⟨by rfl, ?_⟩) (by assumption) ?_
   rotate_left
   ·(intro w' hSw; go_simp; try with_reducible rfl)
   try simp only [Act.put, List.setIfInBounds_toArray, List.set_cons_zero, List.set_cons_succ]
   refine wpAnyH_take (i := 2) (oi := { dst := some 46, op := Op.move (Operand.tmp 14), type := 3, pos := "bytes.go:91", after := #[], guard := none }) (v := ?_) rfl (by kernel_rfl) (by kernel_rfl) (by kernel_rfl) (fun _ _ _ h => h) (Or.inl ⟨by rfl, ?_⟩) (by assumption) ?_
   rotate_left
   ·(intro w' hSw; go_simp; try with_reducible rfl)
   try simp only [Act.put, List.setIfInBounds_toArray, List.set_cons_zero, List.set_cons_succ]
   refine wpAnyH_take (i := 3) (oi := { dst := some 47, op := Op.indexAddr 120 (Operand.tmp 9) (Operand.tmp 46), type := 0, pos := "bytes.go:91", after := #[{ on := 2, ground := Ground.data }], guard := none }) (v := ?_) rfl (by kernel_rfl) (by kernel_rfl) (by kernel_rfl) (fun _ _ _ h => h) (Or.inl ⟨by rfl, ?_⟩) (by assumption) ?_
   rotate_left
   ·(intro w' hSw; go_simp; try with_reducible rfl)
   try simp only [Act.put, List.setIfInBounds_toArray, List.set_cons_zero, List.set_cons_succ]
   refine' wpAnyH_take (i := 4) (oi := { dst := some 48, op := Op.load 3 (Operand.tmp 47), type := 3, pos := "bytes.go:91", after := #[{ on := 3, ground := Ground.data }], guard := none }) (v := _) rfl (by kernel_rfl) (by kernel_rfl) (by kernel_rfl) (fun _ _ _ h => h) (ld_cell (by rfl) 3 _ Tryz.underlying3 rfl _ rfl (w.heap.size + 1) i rfl (.int .i64 nbi) (fun w' hw => HNC.out w' hw)) (by assumption) ?_
   try simp only [Act.put, List.setIfInBounds_toArray, List.set_cons_zero, List.set_cons_succ]
   refine' wpAnyH_take (i := 5) (oi := { dst := some 49, op := Op.load 84 (Operand.tmp 17), type := 84, pos := "bytes.go:91", after := #[], guard := none }) (v := _) rfl (by kernel_rfl) (by kernel_rfl) (by kernel_rfl) (fun _ _ _ h => h) (ld_sec (by rfl) _ rfl w5.heap.size 0 rfl s HPS.out.1 (fun w' hw => (HSA.out w' hw).range)) (by assumption) ?_
   try simp only [Act.put, List.setIfInBounds_toArray, List.set_cons_zero, List.set_cons_succ]
   refine wpAnyH_ready (rs := [6]) (by kernel_rfl) (by simp) ?_
   refine AllReadyH.cons (o := { dst := some 50, op := Op.call { callee := Callee.value (Operand.func 210), args := #[Operand.tmp 45, Operand.tmp 48, Operand.tmp 49], argTypes := #[3, 3, 84] }, type := 188, pos := "bytes.go:91", after := #[{ on := 1, ground := Ground.data }, { on := 4, ground := Ground.data }, { on := 5, ground := Ground.data }], guard := none }) rfl (fun K hK => ?_) AllReadyH.nil
   go_simp
   refine (HBS.out _).mono ?_
   rintro e v1 ⟨rfl, hv1⟩
   have b1 := b0.trans (hv1.mono b0.size)
   have h1 := dsk.Touch.of_below (S := fun x => (Value.slice q t kc).ownBlock = some x) b1
   dsimp only
   refine hK.out _ _ ?_ (fun hHeld => ?_)
   ·exact h1
   clear hK K
   try simp only [Act.put, List.setIfInBounds_toArray, List.set_cons_zero, List.set_cons_succ]
   refine wpAnyH_ready (rs := [7]) (by kernel_rfl) (by simp) ?_
   refine AllReadyH.cons (o := { dst := some 51, op := Op.buildSlice 239 1 #[(0, Operand.tmp 50)], type := 239, pos := "bytes.go:91", after := #[{ on := 6, ground := Ground.data }], guard := none }) rfl (fun K hK => ?_) AllReadyH.nil
   refine step_build_one elem_sts (by decide) (by rfl) (.tmp 50) rfl (stC X false) rfl (stC_len HXS.out) ?_
   have h2 : dsk.Touch (fun x => (Value.slice q t kc).ownBlock = some x) w6.drew (v1.alloc (.cells (stC X false).toArray 188)) := (h1).alloc _
   have RL := rd_laid v1 188 37 (stC X false) (stC_len HXS.out)
   have HO7 := Lib.hid (own_later (w := w6.drew) HO6.out (below_alloc b1 (.cells (stC X false).toArray 188)))
   have BX := Lib.hid (below_alloc b1 (.cells (stC X false).toArray 188))
   refine hK.out _ _ ?_ (fun hHeld => ?_)
   ·exact h2
   clear hK K
   try simp only [Act.put, List.setIfInBounds_toArray, List.set_cons_zero, List.set_cons_succ]
   refine wpAnyH_ready (rs := [8]) (by kernel_rfl) (by simp) ?_
   refine AllReadyH.cons (o := { dst := some 52, op := Op.call { callee := Callee.builtin Builtin.append, args := #[Operand.tmp 44, Operand.tmp 51], argTypes := #[239, 239] }, type := 239, pos := "bytes.go:91", after := #[{ on := 0, ground := Ground.data }, { on := 7, ground := Ground.data }, { on := 6, ground := Ground.chain }], guard := none }) rfl (fun K hK => ?_) AllReadyH.nil
   refine step_ap2 elem_sts (by rfl) (.tmp 44) (.tmp 51) rfl (w.heap.size + 2) (.slice q t kc) t _ rfl HO7.out _ 1 (stC X false) rfl RL (st_ones X false) (by have := HIE.out; omega) (by have h8 := BX.out.size; have h9 : wr.heap.size ≤ w6.heap.size := B6.out.size; exact Nat.le_trans hwz (Nat.le_trans h9 h8)) ?_
   intro pa ca w7 ho7 hb7 ht7
   have HO8 := Lib.hid ho7
   have BY := Lib.hid hb7
   have h3 := (h2).trans ht7
   clear ho7
   dsimp only
   refine hK.out _ _ ?_ (fun hHeld => ?_)
   ·exact h3
   clear hK K
   try simp only [Act.put, List.setIfInBounds_toArray, List.set_cons_zero, List.set_cons_succ]
   refine wpAnyH_take (i := 9) (oi := { dst := some 13, op := Op.assign (Operand.tmp 52), type := 239, pos := "bytes.go:91", after := #[{ on := 8, ground := Ground.data }, { on := 8, ground := Ground.chain }, { on := 0, ground := Ground.phase }, { on := 1, ground := Ground.phase }, { on := 2, ground := Ground.phase }, { on := 3, ground := Ground.phase }, { on := 4, ground := Ground.phase }, { on := 5, ground := Ground.phase }, { on := 6, ground := Ground.phase }, { on := 7, ground := Ground.phase }, { on := 8, ground := Ground.phase }], guard := none }) (v := ?_) rfl (by kernel_rfl) (by kernel_rfl) (by kernel_rfl) (fun _ _ _ h => h) (Or.inl ⟨by rfl, ?_⟩) (by assumption) ?_
   rotate_left
   ·(intro w' hSw; go_simp; try with_reducible rfl)
   try simp only [Act.put, List.setIfInBounds_toArray, List.set_cons_zero, List.set_cons_succ]
   refine wpAnyH_done (by kernel_rfl) ?_ _
   have HOX : Hid (rows.Own w7 (w.heap.size + 2) 188 37 (.slice pa (t + 1) ca) (t + 1) (stsC (fillL L n ob nb off b (List.range' (off / 32) (t + 1))))) := Lib.hid (by rw [HFS.out]; exact HO8.out)
   have BZ : Hid (Below (w.heap.size + 2) W w7) := Lib.hid (HBw.out.trans (((B6.out.mono hwz).trans (((Below.refl (w.heap.size + 2) w6).drew).trans (BX.out.mono (by have h9 : wr.heap.size ≤ w6.heap.size := B6.out.size; exact Nat.le_trans hwz h9)))).trans BY.out))
   have HRR := Lib.hid (rd_rest HR.out (pl := pl) (by omega) hpl0)
   clear HO8 HFS
   go_wp2_with fail
   all_goals
    go_roundw
    case rel => exact ⟨t + 1, k + pl, o + pl, r - pl, _, _, pa, ca, by have := HKE.out; have := HPE.out; have := HRE.out; have := HOE.out; have := HIE.out; have := HAE.out; have := HIO.out; omega, by have := HOE.out; omega, by have := HRE.out; omega, by intro _; have := HKE.out; have := HRE.out; have := HPE.out; omega, by intro _; omega, by intro hm; have := HRE.out; omega, by go_num, rfl, rfl, Lib.hid (by have := HRR.out _ (by first | rfl | simp_all); rw [← List.drop_drop]; simpa [u8s, List.map_drop] using this), HOX, BZ⟩
    case measure => simp; omega
  ·have hr0i : ¬ (0 : Int) < r := by omega
   have HEQ : Hid (HL = List.range' (off / 32) t) := Lib.hid (HHL.out.symm.trans (hit_range hom' rfl h1 (by omega) (fun h => h2 (by omega)) h3))
   have HO9 : Hid (rows.Own wr w.heap.size 188 37 (.slice q t kc) t (stsC (fillL L n ob nb off b (List.range' (off / 32) t)))) := Lib.hid (own_lower HO.out (by omega))
   clear hk ho hr h1 h2 h3
   go_wp2_with fail
   go_ret
   rw [HEQ.out]
   exact ⟨q, t, kc, rfl, by simp, HO9.out, HBB0.out⟩
end fs
namespace fs
set_option maxRecDepth 100000
open Go.ChangeShapes Go.WideShapes Go.ChangeAt Go.RowKit
open rows
open sec
open dsk (grow St)
open ly
open pa
open lk
open al
def putV (st : St) (L : List (List Int)) (n : Int) (x : Ino) (off : Int) (b : List Int) : Int × St :=
 if off < 0 ∨ x.size < off then (1, st)
 else if 128 - off < (b.length : Int) then (2, st)
 else
  let w := ((need (max x.size (off + b.length)).toNat : Nat) : Int) - (need x.size.toNat : Nat)
  if blkB L w = false then (2, st)
  else
   let y := grownI x off.toNat b.length (blkL L w)
   doR st (blksW L n y (need x.size.toNat) off.toNat b 4 ++ if y = x then [] else [wIno n y])
theorem writeFV_put (st : St) (s : ByteArray) (off : Int) (b : List Int) : writeFV st s off b = if (fileV (nowL st) s).2.2 ≠ 0 then ((fileV (nowL st) s).2.2, st) else putV st (nowL st) (fileV (nowL st) s).1 (fileV (nowL st) s).2.1 off b := rfl
theorem frU_in (ss : List (List Int)) : ∀ b, ∀ z ∈ frU ss b, 1 ≤ z ∧ z < b
 | 0, z, hz => by simp [frU] at hz
 | b + 1, z, hz => by
  rw [frU] at hz
  split at hz
  ·have := frU_in ss b z hz; omega
  ·rename_i hu
   rcases List.mem_append.1 hz with hz | hz
   ·have := frU_in ss b z hz; omega
   ·rw [List.mem_singleton.1 hz]
    have : b ≠ 0 := fun e => hu (by subst e; simp [used0])
    omega
theorem blkL_in {L : List (List Int)} {w z : Int} (h : z ∈ blkL L w) : 1 ≤ z ∧ z ≤ 24 := by
 unfold blkL at h
 split at h
 ·obtain ⟨n, hn, rfl⟩ := List.mem_map.1 h
  have := frU_in L 25 n (List.mem_of_mem_take hn)
  omega
 ·cases h
theorem file_blk {L : List (List Int)} {n : Int} (hk : (inoAt L n).kind = 1) : 0 ≤ (inoAt L n).size ∧ (inoAt L n).size ≤ 128 ∧ ∀ i, i < 4 → (i < need (inoAt L n).size.toNat → 1 ≤ (inoAt L n).b.getD i 0 ∧ (inoAt L n).b.getD i 0 ≤ 24) ∧ (¬ i < need (inoAt L n).size.toNat → (inoAt L n).b.getD i 0 = 0) := by
 have h := ino_rightI (ss := L) n
 generalize inoAt L n = x at *
 rw [rightI_file hk, Bool.and_eq_true, Bool.and_eq_true, decide_eq_true_eq, decide_eq_true_eq] at h
 refine ⟨h.1.1, h.1.2, fun i hi => ?_⟩
 have hb := blks_at h.2 i hi
 constructor
 ·intro hl
  rw [blkOk_used hl] at hb
  simp only [Bool.and_eq_true, decide_eq_true_eq] at hb
  exact hb.1
 ·intro hl
  rw [blkOk_free hl, beq_iff_eq] at hb
  exact hb
theorem grow_put {L : List (List Int)} {x : Ino} {o m : Nat} (hx : x.b.length = 4) (h0 : 0 ≤ x.size) : (growV L x (o + m)).2 = blkB L (((need (max x.size ((o : Int) + (m : Nat))).toNat : Nat) : Int) - (need x.size.toNat : Nat)) ∧
  (blkB L (((need (max x.size ((o : Int) + (m : Nat))).toNat : Nat) : Int) - (need x.size.toNat : Nat)) = true → (growV L x (o + m)).1 = grownI x o m (blkL L (((need (max x.size ((o : Int) + (m : Nat))).toNat : Nat) : Int) - (need x.size.toNat : Nat)))) := by
 unfold growV grownI
 by_cases h : ((o + m : Nat) : Int) ≤ x.size
 ·rw [if_pos h]
  have e : max x.size ((o : Int) + (m : Nat)) = x.size := by omega
  have e2 : max x.size ((o + m : Nat) : Int) = x.size := by omega
  rw [e, e2, Int.sub_self]
  have hb : blkB L 0 = true := by rw [blkB, decide_eq_true_eq]; omega
  have hl : blkL L 0 = [] := List.eq_nil_of_length_eq_zero (by have := blkL_len hb; omega)
  rw [hb, hl]
  refine ⟨rfl, fun _ => ?_⟩
  obtain ⟨kd, sz, bl⟩ := x
  simp
 ·rw [if_neg h]
  have e : max x.size ((o : Int) + (m : Nat)) = ((o + m : Nat) : Int) := by omega
  have e2 : max x.size ((o + m : Nat) : Int) = ((o + m : Nat) : Int) := by omega
  rw [e, e2, Int.toNat_natCast]
  generalize hz : ((need (o + m) : Nat) : Int) - (need x.size.toNat : Nat) = z
  cases hb : blkB L z with
  | false => exact ⟨rfl, fun h => by cases h⟩
  | true => exact ⟨rfl, fun _ => rfl⟩
theorem grown_blk {L : List (List Int)} {x : Ino} (hx : x.b.length = 4) (hb : ∀ i, i < 4 → 0 ≤ x.b.getD i 0 ∧ x.b.getD i 0 ≤ 24) (had : Nat) (w : Int) (hl : had + (blkL L w).length ≤ 4) : (x.b.take had ++ blkL L w ++ x.b.drop (had + (blkL L w).length)).length = 4 ∧ (∀ z ∈ (x.b.take had ++ blkL L w ++ x.b.drop (had + (blkL L w).length)), 0 ≤ z ∧ z ≤ 24) ∧ (∀ i, i < had → (x.b.take had ++ blkL L w ++ x.b.drop (had + (blkL L w).length)).getD i 0 = x.b.getD i 0) := by
 have hxm : ∀ z ∈ x.b, 0 ≤ z ∧ z ≤ 24 := fun z hz => by
  obtain ⟨i, hi, rfl⟩ := List.mem_iff_getElem.1 hz
  have := hb i (by omega)
  simpa [List.getD, hi] using this
 refine ⟨by simp [hx]; omega, fun z hz => ?_, fun i hi => ?_⟩
 ·rcases List.mem_append.1 hz with hz | hz
  ·rcases List.mem_append.1 hz with hz | hz
   ·exact hxm z (List.mem_of_mem_take hz)
   ·have := blkL_in hz; omega
  ·exact hxm z (List.mem_of_mem_drop hz)
 ·simp only [List.getD]
  rw [List.append_assoc, List.getElem?_append_left (by rw [List.length_take]; omega), List.getElem?_take_of_lt hi]
theorem fill_writes {L : List (List Int)} (n : Int) {x y : Ino} {had off : Nat} {b : List Int} (h1 : ∀ i, i < 4 → i < had → 1 ≤ x.b.getD i 0 ∧ y.b.getD i 0 = x.b.getD i 0) (h2 : ∀ i, i < 4 → ¬ i < had → x.b.getD i 0 = 0) : fillL L n x.b y.b off b ((List.range 4).filter (hitB off b.length)) = (blksW L n y had off b 4).map fun z => (z, false) := by
 unfold fillL blksW
 rw [List.map_map]
 refine List.map_congr_left fun i hi => ?_
 have hi4 : i < 4 := List.mem_range.1 (List.mem_filter.1 hi).1
 have hc := cont_had (L := L) (x := x) (y := y) (had := had) (i := i) (h1 i hi4) (h2 i hi4)
 simp only [Function.comp, stepF, hc]
theorem getD_bound {l : List Int} (h : ∀ z ∈ l, 0 ≤ z ∧ z ≤ 24) (i : Nat) : 0 ≤ l.getD i 0 ∧ l.getD i 0 ≤ 200 := by
 by_cases hi : i < l.length
 ·have := h _ (List.getElem_mem hi)
  simp only [List.getD, List.getElem?_eq_getElem hi, Option.getD_some]
  omega
 ·simp only [List.getD, List.getElem?_eq_none (Nat.le_of_not_lt hi), Option.getD_none]
  omega
end fs
namespace fs
set_option maxRecDepth 100000
open Go.ChangeShapes Go.WideShapes Go.ChangeAt Go.RowKit
open rows
open sec
open dsk (wf64 build_one St Wr Wr.ok Wr.c rd_laid)
open ly
open pa
open lk
open al
theorem perf_many {G : Nat → Prop} {g : Nat} {d : Value} {st : St} {w : World} (hGl : ∀ b, G b → b < w.heap.size) (h : FsAt w G g d st) {k : Nat} (hg : st.good k) (hk : k + 20 ≤ 900) (xs : List (Wr × Bool)) (q : Option Addr) (kq c' : Nat) (w1 : World) (hb : Below w.heap.size w w1) (B : Nat) (hB : w.heap.size ≤ B) (ho : rows.Own w1 B 188 37 (.slice q kq c') kq (stsC xs)) (hm : kq ≤ 10) (hok : ∀ x ∈ xs, x.1.ok) :
  Calls Tryz.prog 129 #[.pointer (some ⟨g, 0, none⟩), .slice q kq c'] w1 (PDone G g d w (runV st xs)) :=
 (fperform G g d st xs q kq c' w1 (h.later hb) k hg (by omega) hm ho.rd (fun a m c hv hm hh => by
  have h1 := hGl _ hh
  have h2 := dsk.own_inS ho a m c hv hm
  have h3 : B ≤ a.block := h2.1
  omega) hok).mono fun e w' hd => pdone_from h.row.lt h.apart hb hd
theorem stepF_ok {L : List (List Int)} (hs : Secs L) {n : Int} (hn : 0 ≤ n ∧ n < 16) {ob nb : List Int} (hnb : ∀ i, 0 ≤ nb.getD i 0 ∧ nb.getD i 0 ≤ 200) {b : List Int} (hbb : ∀ x ∈ b, 0 ≤ x ∧ x < 256) (off i : Nat) : (stepF L n ob nb off b i).ok := by
 have h := hnb i
 exact ⟨putL_secs (contV_sec hs _) hbb off i, wf_byte (by show 0 ≤ 40 + nb.getD i 0 ∧ 40 + nb.getD i 0 < 256; omega), wf_byte (by show (0 : Int) ≤ 1 ∧ (1 : Int) < 256; omega), wf_byte (by show 0 ≤ n ∧ n < 256; omega), wf_byte (by show (0 : Int) ≤ 0 ∧ (0 : Int) < 256; omega)⟩
set_option maxRecDepth 100000 in
set_option maxHeartbeats 6400000 in
theorem fput (G : Nat → Prop) (g : Nat) (d : Value) (st : St) (w : World) (hGl : ∀ b, G b → b < w.heap.size) (h : FsAt w G g d st) (k : Nat) (hg : st.good k) (hk : k + 20 ≤ 900) (n : Int) (hn : 0 ≤ n ∧ n < 16) (x : Ino) (hxe : x = inoAt (nowL st) n) (hkd : (inoAt (nowL st) n).kind = 1) (off : Int) (ho : wf64 off) (p : Option Addr) (m c : Nat) (b : List Int) (hb : Rd w 1 (.slice p m c) m (b.map (Value.int .u8))) (hm : m ≤ 300) (hbb : ∀ x ∈ b, 0 ≤ x ∧ x < 256) :
  Calls Tryz.prog 127 #[.pointer (some ⟨g, 0, none⟩), .int .i64 n, aggI x, .int .i64 off, .slice p m c] w (PDone G g d w (putV st (nowL st) n x off b)) := by
 have HR := Lib.hid h
 have HK := h.known hg (by omega)
 have HKx := Lib.hid HK
 have hsec := HK.dk.secs.1
 have HPM := Lib.hid fun xs q kq c' w1 (hb : Below w.heap.size w w1) B (hB : w.heap.size ≤ B) (ho : rows.Own w1 B 188 37 (.slice q kq c') kq (stsC xs)) (hm : kq ≤ 10) (hok : ∀ x ∈ xs, x.1.ok) => perf_many hGl h hg hk xs q kq c' w1 hb B hB ho hm hok
 obtain ⟨f0, f1, f2⟩ := file_blk hkd
 have hok := ino_okAt hsec n
 rw [← hxe] at f0 f1 f2 hok
 have H4 := Lib.hid hok.four
 have hbl : b.length = m := by have := hb.cells; rw [List.length_map] at this; omega
 have HB0 := Lib.hid hb
 have HBB := Lib.hid hbb
 have HS := Lib.hid hsec
 obtain ⟨o1, o2⟩ := rows.wf_i64 ho
 obtain ⟨V, hV⟩ : ∃ V, putV st (nowL st) n x off b = V := ⟨_, rfl⟩
 rw [hV]
 unfold putV at hV
 generalize nowL st = L at *
 have A0 : Hid (AtI (w.alloc (.cells x.c.toArray 122)) w.heap.size x) := Lib.hid (atI_new w x)
 have B0 : Hid (Below w.heap.size w (w.alloc (.cells x.c.toArray 122))) := Lib.hid (below_alloc (Below.refl _ _) _)
 obtain ⟨W, hW⟩ : ∃ W, w.alloc (.cells x.c.toArray 122) = W := ⟨_, rfl⟩
 rw [hW] at A0 B0
 have c1 := A0.out.cell1
 have hmi : (m : Int) ≤ 300 := by omega
 clear h hg hk hGl HK hsec hb hbb ho hkd hxe
 by_cases hz0 : off < 0
 ·rw [if_pos (Or.inl hz0)] at hV
  subst hV
  clear HPM hok
  go_enter Tryz.func127, Tryz.ntmps127
  go_upto_region 1 with fail
  try rw [hW]
  clear hW
  go_wp2_with fail
  go_ret
  exact pdone_same HR.out B0.out
 by_cases hz1 : x.size < off
 ·rw [if_pos (Or.inr hz1)] at hV
  subst hV
  have hzz : 0 ≤ off := by omega
  clear HPM hok
  go_enter Tryz.func127, Tryz.ntmps127
  go_upto_region 1 with fail
  try rw [hW]
  clear hW
  go_wp2_with fail
  go_ret
  exact pdone_same HR.out B0.out
 rw [if_neg (by omega)] at hV
 obtain ⟨o, rfl⟩ := Int.eq_ofNat_of_zero_le (show 0 ≤ off by omega)
 have ho128 : o ≤ 128 := by omega
 have hzz : (0 : Int) ≤ o := by omega
 have hzy : (o : Int) ≤ x.size := by omega
 by_cases hr0 : 128 - (o : Int) < (m : Int)
 ·rw [hbl, if_pos hr0] at hV
  subst hV
  have hov : (128 : Int) < (o : Int) + (m : Int) := by omega
  clear HPM hok
  go_enter Tryz.func127, Tryz.ntmps127
  go_upto_region 1 with fail
  try rw [hW]
  clear hW
  go_wp2_with fail
  go_ret
  exact pdone_same HR.out B0.out
 rw [hbl, if_neg hr0] at hV
 have hom : o + m ≤ 128 := by omega
 have hov : ¬ (128 : Int) < (o : Int) + (m : Int) := by omega
 have HGR := Lib.hid fun w' (hb : Below w.heap.size w w') => fgrow w' g d L x H4.out f0 f1 (o + m) hom (HKx.out.later hb)
 obtain ⟨g1, g2⟩ := grow_put (L := L) (o := o) (m := m) H4.out f0
 have hb24 : ∀ i, i < 4 → 0 ≤ x.b.getD i 0 ∧ x.b.getD i 0 ≤ 24 := fun i hi => by
  have := f2 i hi
  by_cases hh : i < need x.size.toNat
  ·have := this.1 hh; omega
  ·have := this.2 hh; omega
 dsimp only at hV
 have hnd : need (max x.size ((o : Int) + (m : Nat))).toNat ≤ 4 ∧ need x.size.toNat ≤ need (max x.size ((o : Int) + (m : Nat))).toNat := by unfold need; omega
 have hfl := fun hb => blkL_len (L := L) (z := ((need (max x.size ((o : Int) + (m : Nat))).toNat : Nat) : Int) - (need x.size.toNat : Nat)) hb
 generalize hz : ((need (max x.size ((o : Int) + (m : Nat))).toNat : Nat) : Int) - (need x.size.toNat : Nat) = z at *
 generalize hgv : growV L x (o + m) = gv at *
 obtain ⟨y, yb⟩ := gv
 simp only at g1 g2 HGR
 subst g1
 rw [show (((o + m : Nat)) : Int) = (o : Int) + (m : Int) by omega] at HGR
 cases hbb : blkB L z with
 | false =>
  rw [hbb, if_pos rfl] at hV
  subst hV
  rw [hbb] at HGR
  have HY4 : Hid (y.b.length = 4) := Lib.hid (by have := growV_four (L := L) (m := o + m) H4.out hom f0; rw [hgv] at this; exact this)
  clear HPM hok g2 f2 hb24 hfl hz hgv
  go_enter Tryz.func127, Tryz.ntmps127
  go_upto_region 1 with fail
  try rw [hW]
  clear hW
  go_wp2_with (first | (refine load_ino rfl (.tmp 7) rfl w.heap.size rfl x H4.out A0.out ?_) | (go_at_call 177; refine (HGR.out _ B0.out).mono ?_; rintro e w2 ⟨rfl, hb⟩; have B2 := Lib.hid (below_trans B0.out hb); clear hb) | (refine store_ino rfl (.tmp 11) (.tmp 35) rfl rfl w2.heap.size y ino0 rfl rfl HY4.out rfl (atI_lit w2) ?_; intro w3 hA hB _; have B3 := Lib.hid (below_trans B2.out ((below_alloc (Below.refl _ w2) _).trans hB)); clear hA hB))
  go_ret
  exact pdone_same HR.out B3.out
 | true =>
  rw [hbb, if_neg (by decide), Int.toNat_natCast] at hV
  rw [hbb] at HGR
  have hy := g2 hbb
  have hlf := hfl hbb
  rw [← hy] at hV
  obtain ⟨q1, q2, q3⟩ := grown_blk (L := L) H4.out hb24 (need x.size.toNat) z (by omega)
  have hyb : y.b = x.b.take (need x.size.toNat) ++ blkL L z ++ x.b.drop (need x.size.toNat + (blkL L z).length) := by rw [hy]; rfl
  have hyk : y.kind = x.kind := by rw [hy]; rfl
  have hys : y.size = max x.size ((o + m : Nat) : Int) := by rw [hy]; rfl
  rw [← hyb] at q1 q2 q3
  have okY : y.ok := ⟨q1, by rw [hyk]; exact hok.kind, by rw [hys]; exact WalkArith.wf_i64 (by omega), fun zz hzz => wf_byte (by have := q2 zz hzz; omega)⟩
  have HY4 := Lib.hid q1
  have HOK := Lib.hid okY
  have HNB := Lib.hid (getD_bound q2)
  have HOB : Hid (∀ i, 0 ≤ x.b.getD i 0 ∧ x.b.getD i 0 ≤ 200) := Lib.hid fun i => by
   by_cases hi : i < 4
   ·have := hb24 i hi; omega
   ·simp only [List.getD, List.getElem?_eq_none (show x.b.length ≤ i by rw [H4.out]; omega), Option.getD_none]; omega
  have HFW := Lib.hid (fill_writes (L := L) n (x := x) (y := y) (had := need x.size.toNat) (off := o) (b := b) (fun i hi4 hi => ⟨((f2 i hi4).1 hi).1, q3 i hi⟩) (fun i hi4 hi => (f2 i hi4).2 hi))
  rw [hbl] at HFW
  have HFI := Lib.hid fun w' (hb : Below w.heap.size w w') => ffill w' g d L (HKx.out.later hb) n x.b y.b H4.out q1 HOB.out HNB.out o m p c b (HB0.out.later hb) HBB.out hom
  have HOS := Lib.hid fun i => stepF_ok (L := L) HS.out hn (ob := x.b) (nb := y.b) HNB.out HBB.out o i
  have okI := wIno_ok (n := n) (x := y) (by omega) q1
  have HIS := Lib.hid fun w' => finodeStep n (by omega) y okY w'
  have HOF : Hid (∀ xx ∈ fillL L n x.b y.b o b ((List.range 4).filter (hitB o m)), xx.1.ok) := Lib.hid fun xx hx => by
   obtain ⟨i, _, rfl⟩ := List.mem_map.1 hx
   exact HOS.out i
  have HLE : Hid (((List.range 4).filter (hitB o m)).length ≤ 4) := Lib.hid (by have := List.length_filter_le (hitB o m) (List.range 4); simpa using this)
  have HI := Lib.hid okI
  generalize blksW L n y (need x.size.toNat) o b 4 = bw at *
  generalize (List.range 4).filter (hitB o m) = hl at *
  generalize hfx : fillL L n x.b y.b o b hl = FX at *
  generalize hwi : wIno n y = wi at *
  have hEQ := fun w' => eqIn_ino w' q1 H4.out
  have hguard := guard_ino
  obtain ⟨yx, hyx⟩ : ∃ yx, decide (y = x) = yx := ⟨_, rfl⟩
  rw [hyx] at hEQ
  clear okI okY hok q2 q3 hyb hyk hys hy hlf g2 f2 hb24 hfl hz hgv hwi hfx q1
  go_enter Tryz.func127, Tryz.ntmps127
  go_upto_region 1 with fail
  try rw [hW]
  clear hW
  go_upto_region 9 with (first | (refine load_ino rfl (.tmp 7) rfl w.heap.size rfl x H4.out A0.out ?_) | (go_at_call 177; refine (HGR.out _ B0.out).mono ?_; rintro e w2 ⟨rfl, hb⟩; have B2 := Lib.hid (below_trans B0.out hb); have A2 := Lib.hid (A0.out.later hb); clear hb) | (refine store_ino rfl (.tmp 11) (.tmp 35) rfl rfl w2.heap.size y ino0 rfl rfl HY4.out rfl (atI_lit w2) ?_; intro w3 hA hB _; have hb3 := (below_alloc (Below.refl _ w2) _).trans hB; have B3 := Lib.hid (below_trans B2.out hb3); have A3 := Lib.hid (A2.out.later hb3); have Y3 := Lib.hid hA; clear hA hB hb3) | (refine load_four (by rfl) (.tmp 41) rfl w.heap.size rfl x H4.out A3.out ?_) | (refine load_four (by rfl) (.tmp 43) rfl w2.heap.size rfl y HY4.out Y3.out ?_) | (go_at_call 178; refine (HFI.out _ B3.out).mono ?_; rintro e w4 ⟨q, kq, c', rfl, hkq, hown, hb⟩; have B4 := Lib.hid (below_trans B3.out hb); have A4 := Lib.hid (A3.out.later hb); have Y4 := Lib.hid (Y3.out.later hb); have O4 := Lib.hid hown; have KQ := Lib.hid hkq; have b4 := Lib.hid hb; clear hb hown hkq))
  clear c1
  have hkq4 : kq ≤ 4 := by have := KQ.out; have := HLE.out; omega
  cases yx with
  | true =>
   have hyx2 : y = x := of_decide_eq_true hyx
   rw [if_pos hyx2, List.append_nil] at hV
   have HPF := Lib.hid (HPM.out FX q kq c' w4 B4.out _ B3.out.size O4.out (by omega) HOF.out)
   rw [HFW.out, run_plain, hV] at HPF
   clear hyx hyx2 HPM
   go_wp2_with (first | (refine load_ino rfl (.tmp 11) rfl w2.heap.size rfl y HY4.out Y4.out ?_) | (refine load_ino rfl (.tmp 7) rfl w.heap.size rfl x H4.out A4.out ?_) | (go_at_call 129; refine HPF.out.mono ?_; rintro e w8 hd8; have D8 := Lib.hid hd8; obtain ⟨rfl, _⟩ := hd8))
   go_ret
   exact D8.out
  | false =>
   have hyx2 : ¬ y = x := of_decide_eq_false hyx
   rw [if_neg hyx2] at hV
   have HPF := Lib.hid fun q5 c5 w7 hb ho => HPM.out (FX ++ [(wi, false)]) q5 (kq + 1) c5 w7 hb w3.heap.size B3.out.size ho (by omega) (fun xx hx => by
    rcases List.mem_append.1 hx with hx | hx
    ·exact HOF.out xx hx
    ·rw [List.mem_singleton.1 hx]; exact HI.out)
   rw [HFW.out, show (bw.map fun z => (z, false)) ++ [(wi, false)] = (bw ++ [wi]).map (fun z => (z, false)) by simp, run_plain, hV] at HPF
   clear hyx hyx2 HPM
   go_wp2_with (first
    | (refine load_ino rfl (.tmp 11) rfl w2.heap.size rfl y HY4.out Y4.out ?_)
    | (refine load_ino rfl (.tmp 7) rfl w.heap.size rfl x H4.out A4.out ?_)
    | (go_at_call 147; refine (HIS.out _).mono ?_; rintro e w5 ⟨rfl, hb⟩; have B5 := Lib.hid (below_trans B4.out hb); have O5 := Lib.hid (own_later O4.out hb); have b5 := Lib.hid hb; clear hb)
    | (refine build_one elem_sts (by decide) rfl (.tmp 54) rfl (stC wi false) rfl (stC_len HI.out.1) ?_)
    | (at_builtin; refine ap_rd elem_sts rfl (.tmp 51) (.tmp 55) rfl w3.heap.size _ kq _ rfl (O5.out.alloc _) _ 1 (stC wi false) rfl (rd_laid _ 188 37 (stC wi false) (stC_len HI.out.1)) (st_ones wi false) (by omega) (by have h5 := b5.out.size; have h4 := b4.out.size; simp; omega) ?_; intro pa ca w7 ho7 hb7; have O7 : Hid (rows.Own w7 w3.heap.size 188 37 (.slice pa (kq + 1) ca) (kq + 1) (stsC ((bw ++ [wi]).map fun z => (z, false)))) := Lib.hid (by rw [List.map_append, List.map_cons, List.map_nil, stsC_snoc, ← HFW.out]; exact ho7); have B7 := Lib.hid ((below_alloc B5.out _).trans (hb7.mono B3.out.size)); clear ho7 hb7)
    | (go_at_call 129; refine (HPF.out pa ca w7 B7.out O7.out).mono ?_; rintro e w8 hd8; have D8 := Lib.hid hd8; obtain ⟨rfl, _⟩ := hd8))
   go_ret
   exact D8.out
set_option maxRecDepth 100000 in
theorem fwrite (G : Nat → Prop) (g : Nat) (d : Value) (st : St) (w : World) (hGl : ∀ b, G b → b < w.heap.size) (h : FsAt w G g d st) (k : Nat) (hg : st.good k) (hk : k + 20 ≤ 900) (hmx : Mx w) (s : ByteArray) (hsz : s.size ≤ 100000) (off : Int) (ho : wf64 off) (p : Option Addr) (m c : Nat) (b : List Int) (hb : Rd w 1 (.slice p m c) m (b.map (Value.int .u8))) (hm : m ≤ 300) (hbb : ∀ x ∈ b, 0 ≤ x ∧ x < 256) :
  Calls Tryz.prog 55 #[.pointer (some ⟨g, 0, none⟩), .string s, .int .i64 off, .slice p m c] w (PDone G g d w (writeFV st s off b)) := by
 have HR := Lib.hid h
 have HK := h.known hg (by omega)
 have hsec := HK.dk.secs.1
 have HF := Lib.hid (ffile w g d (nowL st) s HK hmx hsz)
 have H4 := Lib.hid (file_four hsec s)
 have hfi := file_is hsec s
 rw [writeFV_put]
 have HPT := Lib.hid fun w1 (hb1 : Below w.heap.size w w1) (he : (fileV (nowL st) s).2.2 = 0) => (fput G g d st w1 (fun b hG => Nat.lt_of_lt_of_le (hGl b hG) hb1.size) (h.later hb1) k hg hk (fileV (nowL st) s).1 (hfi he).2.2 (fileV (nowL st) s).2.1 (hfi he).1 (hfi he).2.1 off ho p m c b (hb.later hb1) hm hbb).mono fun e w' hd => pdone_from h.row.lt h.apart hb1 hd
 generalize nowL st = L at *
 generalize fileV L s = F at *
 obtain ⟨n, x, er⟩ := F
 unfold fileT at HF
 simp only at HF H4 HPT
 clear h hg hk hsz hsec HK hGl hmx hb hbb ho hfi
 by_cases he : er = 0
 ·subst he
  have HPX := Lib.hid fun w1 hb1 => HPT.out w1 hb1 rfl
  simp only [ne_eq, not_true_eq_false, if_false]
  generalize putV st L n x off b = V at *
  clear HPT
  go_enter Tryz.func55, Tryz.ntmps55
  go_wp2_with (first | (go_at_call 90; refine HF.out.mono ?_; rintro e w1 ⟨rfl, hb⟩; have B1 := Lib.hid hb; clear hb) | (refine store_ino rfl (.tmp 10) (.tmp 17) rfl rfl w1.heap.size x ino0 rfl rfl H4.out rfl (atI_lit w1) ?_; intro w2 hA hB _; have B2 := Lib.hid (below_trans B1.out ((below_alloc (Below.refl _ w1) _).trans hB)); have A2 := Lib.hid hA; clear hA hB) | (refine load_ino rfl (.tmp 10) rfl w1.heap.size rfl x H4.out A2.out ?_) | (go_at_call 127; refine (HPX.out _ B2.out).mono ?_; rintro e w8 hd8; have D8 := Lib.hid hd8; obtain ⟨rfl, _⟩ := hd8))
  go_ret
  exact D8.out
 ·rw [if_pos he]
  have heb : (er != 0) = true := by simpa using he
  clear HPT
  go_enter Tryz.func55, Tryz.ntmps55
  go_wp2_with (first | (go_at_call 90; refine HF.out.mono ?_; rintro e w1 ⟨rfl, hb⟩; have B1 := Lib.hid hb; clear hb) | (refine store_ino rfl (.tmp 10) (.tmp 17) rfl rfl w1.heap.size x ino0 rfl rfl H4.out rfl (atI_lit w1) ?_; intro w2 hA hB _; have B2 := Lib.hid (below_trans B1.out ((below_alloc (Below.refl _ w1) _).trans hB)); clear hA hB))
  go_ret
  exact pdone_same HR.out B2.out
set_option maxRecDepth 100000 in
theorem fappend (G : Nat → Prop) (g : Nat) (d : Value) (st : St) (w : World) (hGl : ∀ b, G b → b < w.heap.size) (h : FsAt w G g d st) (k : Nat) (hg : st.good k) (hk : k + 20 ≤ 900) (hmx : Mx w) (s : ByteArray) (hsz : s.size ≤ 100000) (p : Option Addr) (m c : Nat) (b : List Int) (hb : Rd w 1 (.slice p m c) m (b.map (Value.int .u8))) (hm : m ≤ 300) (hbb : ∀ x ∈ b, 0 ≤ x ∧ x < 256) :
  Calls Tryz.prog 80 #[.pointer (some ⟨g, 0, none⟩), .string s, .slice p m c] w (PDone G g d w (appendV st s b)) := by
 have HR := Lib.hid h
 have HK := h.known hg (by omega)
 have hsec := HK.dk.secs.1
 have HF := Lib.hid (ffile w g d (nowL st) s HK hmx hsz)
 have H4 := Lib.hid (file_four hsec s)
 have hfi := file_is hsec s
 have hff := fun hh => ino_file hsec (fileV (nowL st) s).1 hh
 have HPT := Lib.hid fun w1 (hb1 : Below w.heap.size w w1) (he : (fileV (nowL st) s).2.2 = 0) => (fput G g d st w1 (fun b hG => Nat.lt_of_lt_of_le (hGl b hG) hb1.size) (h.later hb1) k hg hk (fileV (nowL st) s).1 (hfi he).2.2 (fileV (nowL st) s).2.1 (hfi he).1 (hfi he).2.1 (fileV (nowL st) s).2.1.size (WalkArith.wf_i64 (by have h1 := (hfi he).2.1; have h2 := hff h1; rw [(hfi he).1]; omega)) p m c b (hb.later hb1) hm hbb).mono fun e w' hd => pdone_from h.row.lt h.apart hb1 hd
 have HAV : appendV st s b = if (fileV (nowL st) s).2.2 ≠ 0 then ((fileV (nowL st) s).2.2, st) else putV st (nowL st) (fileV (nowL st) s).1 (fileV (nowL st) s).2.1 (fileV (nowL st) s).2.1.size b := by
  unfold appendV
  split
  ·rfl
  ·rename_i hh
   rw [writeFV_put, if_neg hh]
 rw [HAV]
 generalize nowL st = L at *
 generalize fileV L s = F at *
 obtain ⟨n, x, er⟩ := F
 unfold fileT at HF
 simp only at HF H4 HPT
 clear h hg hk hsz hsec HK hGl hmx hb hbb hfi hff HAV
 by_cases he : er = 0
 ·subst he
  have HPX := Lib.hid fun w1 hb1 => HPT.out w1 hb1 rfl
  simp only [ne_eq, not_true_eq_false, if_false]
  generalize putV st L n x x.size b = V at *
  clear HPT
  go_enter Tryz.func80, Tryz.ntmps80
  go_wp2_with (first | (go_at_call 90; refine HF.out.mono ?_; rintro e w1 ⟨rfl, hb⟩; have B1 := Lib.hid hb; clear hb) | (refine store_ino rfl (.tmp 8) (.tmp 15) rfl rfl w1.heap.size x ino0 rfl rfl H4.out rfl (atI_lit w1) ?_; intro w2 hA hB _; have B2 := Lib.hid (below_trans B1.out ((below_alloc (Below.refl _ w1) _).trans hB)); have A2 := Lib.hid hA; have c1 := hA.cell1; clear hA hB) | (refine load_ino rfl (.tmp 8) rfl w1.heap.size rfl x H4.out A2.out ?_) | (go_at_call 127; refine (HPX.out _ B2.out).mono ?_; rintro e w8 hd8; have D8 := Lib.hid hd8; obtain ⟨rfl, _⟩ := hd8))
  go_ret
  exact D8.out
 ·rw [if_pos he]
  have heb : (er != 0) = true := by simpa using he
  clear HPT
  go_enter Tryz.func80, Tryz.ntmps80
  go_wp2_with (first | (go_at_call 90; refine HF.out.mono ?_; rintro e w1 ⟨rfl, hb⟩; have B1 := Lib.hid hb; clear hb) | (refine store_ino rfl (.tmp 8) (.tmp 15) rfl rfl w1.heap.size x ino0 rfl rfl H4.out rfl (atI_lit w1) ?_; intro w2 hA hB _; have B2 := Lib.hid (below_trans B1.out ((below_alloc (Below.refl _ w1) _).trans hB)); clear hA hB))
  go_ret
  exact pdone_same HR.out B2.out
end fs
namespace fs
set_option maxRecDepth 100000
open Go.ChangeShapes Go.WideShapes Go.ChangeAt Go.RowKit
open rows
open sec
open dsk (size_alloc build_one St Wr.ok Wr.c w0 ld_cell)
open ly
open pa
open lk
open al
def moveV (st : St) (L : List (List Int)) (a b : Plc) : Int × St :=
 if b.is = true then
  if (inoAt L a.tg).kind = 2 ∨ (inoAt L b.tg).kind = 2 then (5, st)
  else moveR st (wEnt b.k ⟨true, b.dir, b.name, a.tg⟩ b.dir) (wEnt a.k ent0 a.dir)
 else if a.dir = b.dir then doR st [wEnt a.k ⟨true, b.dir, b.name, a.tg⟩ b.dir]
 else match frE L with
  | none => (2, st)
  | some k => moveR st (wEnt (k : Int) ⟨true, b.dir, b.name, a.tg⟩ b.dir) (wEnt a.k ent0 a.dir)
structure Plc.fine (x : Plc) : Prop where
 d0 : 0 ≤ x.dir
 d1 : x.dir ≤ 255
 k0 : 0 ≤ x.k
 k1 : x.k < 24
 t0 : 0 ≤ x.tg
 t1 : x.tg ≤ 255
 nm : x.name.size ≤ maxLen
set_option maxRecDepth 100000 in
set_option maxHeartbeats 6400000 in
theorem fmove (G : Nat → Prop) (g : Nat) (d : Value) (st : St) (w : World) (hGl : ∀ b, G b → b < w.heap.size) (h : FsAt w G g d st) (k : Nat) (hg : st.good k) (hk : k + 20 ≤ 900) (a b : Plc) (ha : a.fine) (hb : b.fine) :
  Calls Tryz.prog 98 #[.pointer (some ⟨g, 0, none⟩), aggP a, aggP b] w (PDone G g d w (moveV st (nowL st) a b)) := by
 have HR := Lib.hid h
 have HK := h.known hg (by omega)
 have HKx := Lib.hid HK
 have HGl := Lib.hid hGl
 have HP1 := Lib.hid fun x b (hx : x.ok) w1 (hb : Below w.heap.size w w1) => perf_one hGl h hg hk x b hx w1 hb
 have HP2 := Lib.hid fun x y b c (hx : x.ok) (hy : y.ok) w1 (hb : Below w.heap.size w w1) => perf_two hGl h hg hk x y b c hx hy w1 hb
 have HSl := Lib.hid fun w' (hb : Below w.heap.size w w') => cslot_any w' d (nowL st) (HK.later hb).dk
 have HEN := Lib.hid fun w' => fentry b a.tg w'
 have HC := Lib.hid fun w' => fclearStep a.k (by have := ha.k0; have := ha.k1; omega) a.dir w'
 have okC := wEnt_ok (k := a.k) (f := a.dir) (x := ent0) (by have := ha.k0; have := ha.k1; omega) ⟨ha.d0, ha.d1⟩
 have HLT := Lib.hid fun w' => flater (wEnt a.k ent0 a.dir) okC.1 false w'
 have okT : (⟨true, b.dir, b.name, a.tg⟩ : Ent).ok := ⟨wf_byte (by have := hb.d0; have := hb.d1; show 0 ≤ b.dir ∧ b.dir < 256; omega), wf_byte (by have := ha.t0; have := ha.t1; show 0 ≤ a.tg ∧ a.tg < 256; omega), hb.nm⟩
 have HE := Lib.hid fun (n : Int) (hn : 0 ≤ n ∧ n ≤ 200) w' => fentryStep n hn ⟨true, b.dir, b.name, a.tg⟩ okT w'
 have okE := fun (n : Int) (hn : 0 ≤ n ∧ n ≤ 200) => wEnt_ok (k := n) (f := b.dir) (x := ⟨true, b.dir, b.name, a.tg⟩) hn ⟨hb.d0, hb.d1⟩
 have HFA := Lib.hid fun w' (hb' : Below w.heap.size w w') => fisfolder w' g d (nowL st) a.tg (HK.later hb') (wf_byte (by have := ha.t0; have := ha.t1; omega))
 have HFB := Lib.hid fun w' (hb' : Below w.heap.size w w') => fisfolder w' g d (nowL st) b.tg (HK.later hb') (wf_byte (by have := hb.t0; have := hb.t1; omega))
 have hfe : ∀ n, frE (nowL st) = some n → n < 24 := fun n hn => (upto_some hn).1
 obtain ⟨V, hV⟩ : ∃ V, moveV st (nowL st) a b = V := ⟨_, rfl⟩
 rw [hV]
 unfold moveV at hV
 generalize hcl : wEnt a.k ent0 a.dir = cl at *
 clear hcl
 have HCL := Lib.hid okC
 generalize hxx : (⟨true, b.dir, b.name, a.tg⟩ : Ent) = x at *
 have hxp : x.parent = b.dir := by rw [← hxx]
 clear hxx
 rw [hxp] at HE
 generalize (inoAt (nowL st) a.tg).kind = ka at *
 generalize (inoAt (nowL st) b.tg).kind = kb at *
 generalize frE (nowL st) = fe at *
 generalize nowL st = L at *
 have hak := And.intro ha.k0 ha.k1
 have hbk := And.intro hb.k0 hb.k1
 have hW : ∃ W, (w.alloc (.cells a.c 156)).alloc (.cells b.c 156) = W := ⟨_, rfl⟩
 obtain ⟨W, hW⟩ := hW
 have B0 : Hid (Below w.heap.size w W) := Lib.hid (by rw [← hW]; exact below_alloc (below_alloc (Below.refl _ _) _) _)
 have PA0 : Hid (AtP W w.heap.size a) := Lib.hid (by rw [← hW]; exact (atP_new w a).later (below_alloc (Below.refl _ _) _))
 have PB0 : Hid (AtP W (w.heap.size + 1) b) := Lib.hid (by rw [← hW]; have := atP_new (w.alloc (.cells a.c 156)) b; rw [World.size_alloc] at this; exact this)
 have ca4 := PA0.out.cell4
 clear h hg hk hGl HK ha hb okC okT hxp
 cases hbi : b.is with
 | true =>
  rw [hbi, if_pos rfl] at hV
  by_cases hka : ka = 2
  ·rw [if_pos (Or.inl hka)] at hV
   subst hV
   have HA2 : Hid (∀ w', Below w.heap.size w w' → Calls Tryz.prog 96 #[.pointer (some ⟨g, 0, none⟩), .int .i64 a.tg] w' fun e w'' => e = .returned (.bool true) ∧ Below w'.heap.size w' w'') := Lib.hid fun w' hb => by
      have h := HFA.out w' hb
      rw [decide_eq_true hka] at h
      exact h
   clear HFA HFB HP1 HP2 okE
   go_enter Tryz.func98, Tryz.ntmps98
   go_upto_region 1 with fail
   try rw [hW]
   clear hW
   go_wp2_with (first
   | (go_at_call 151; refine (HEN.out _).mono ?_; rintro e w1 ⟨rfl, hb⟩; have B1 := Lib.hid (below_trans B0.out hb); have PA1 := Lib.hid (PA0.out.later hb); have PB1 := Lib.hid (PB0.out.later hb); clear hb)
   | (refine load_plc rfl (.tmp 5) rfl (w.heap.size + 1) rfl b PB0.out ?_)
   | (refine store_ent rfl (.tmp 7) (.tmp 14) rfl rfl w1.heap.size x ent0 rfl rfl (atE_lit w1) ?_; intro w2 hA hB _; have hb := (below_alloc (Below.refl _ w1) _).trans hB; have B2 := Lib.hid (below_trans B1.out hb); have PA2 := Lib.hid (PA1.out.later hb); have PB2 := Lib.hid (PB1.out.later hb); have E2 := Lib.hid hA; have ca3 := PA2.out.cell3; have ca0 := PA2.out.cell0; clear hA hB hb)
   | (go_at_call 130; refine (HC.out _).mono ?_; rintro e w3 ⟨rfl, hb⟩; have B3 := Lib.hid (below_trans B2.out hb); have PA3 := Lib.hid (PA2.out.later hb); have PB3 := Lib.hid (PB2.out.later hb); have E3 := Lib.hid (E2.out.later hb); clear hb)
   | (go_at_call 152; refine (HLT.out _).mono ?_; rintro e w4 ⟨rfl, hb⟩; have B4 := Lib.hid (below_trans B3.out hb); have PA4 := Lib.hid (PA3.out.later hb); have PB4 := Lib.hid (PB3.out.later hb); have E4 := Lib.hid (E3.out.later hb); clear hb)
   | (refine store_st rfl (.tmp 8) (.tmp 20) rfl rfl w4.heap.size cl w0 true false rfl rfl HCL.out.1 sec_zero (atSt_lit w4) ?_; intro w5 hA hB; have hb := (below_alloc (Below.refl _ w4) _).trans hB; have B5 := Lib.hid (below_trans B4.out hb); have PA5 := Lib.hid (PA4.out.later hb); have PB5 := Lib.hid (PB4.out.later hb); have E5 := Lib.hid (E4.out.later hb); have S5 := Lib.hid hA; have cb2 := PB5.out.cell2; rw [hbi] at cb2; have cc4 := PA5.out.cell4; have cd4 := PB5.out.cell4; have cc3 := PA5.out.cell3; have cc0 := PA5.out.cell0; have cd0 := PB5.out.cell0; have dd := (HKx.out.later B5.out).row.disk; clear hA hB hb)
   | (go_at_call 96; with_reducible refine (HA2.out _ B5.out).mono ?_; rintro e w6 ⟨rfl, hb⟩; have B6 := Lib.hid (below_trans B5.out hb); have PA6 := Lib.hid (PA5.out.later hb); have PB6 := Lib.hid (PB5.out.later hb); have E6 := Lib.hid (E5.out.later hb); have S6 := Lib.hid (S5.out.later hb); have ce4 := PB6.out.cell4; clear hb))
   go_ret
   exact pdone_same HR.out B6.out
  ·by_cases hkb : kb = 2
   ·rw [if_pos (Or.inr hkb)] at hV
    subst hV
    have HA2 : Hid (∀ w', Below w.heap.size w w' → Calls Tryz.prog 96 #[.pointer (some ⟨g, 0, none⟩), .int .i64 a.tg] w' fun e w'' => e = .returned (.bool false) ∧ Below w'.heap.size w' w'') := Lib.hid fun w' hb => by
       have h := HFA.out w' hb
       rw [decide_eq_false hka] at h
       exact h
    have HB2 : Hid (∀ w', Below w.heap.size w w' → Calls Tryz.prog 96 #[.pointer (some ⟨g, 0, none⟩), .int .i64 b.tg] w' fun e w'' => e = .returned (.bool true) ∧ Below w'.heap.size w' w'') := Lib.hid fun w' hb => by
       have h := HFB.out w' hb
       rw [decide_eq_true hkb] at h
       exact h
    clear HFA HFB HP1 HP2 okE
    go_enter Tryz.func98, Tryz.ntmps98
    go_upto_region 1 with fail
    try rw [hW]
    clear hW
    go_wp2_with (first
    | (go_at_call 151; refine (HEN.out _).mono ?_; rintro e w1 ⟨rfl, hb⟩; have B1 := Lib.hid (below_trans B0.out hb); have PA1 := Lib.hid (PA0.out.later hb); have PB1 := Lib.hid (PB0.out.later hb); clear hb)
    | (refine load_plc rfl (.tmp 5) rfl (w.heap.size + 1) rfl b PB0.out ?_)
    | (refine store_ent rfl (.tmp 7) (.tmp 14) rfl rfl w1.heap.size x ent0 rfl rfl (atE_lit w1) ?_; intro w2 hA hB _; have hb := (below_alloc (Below.refl _ w1) _).trans hB; have B2 := Lib.hid (below_trans B1.out hb); have PA2 := Lib.hid (PA1.out.later hb); have PB2 := Lib.hid (PB1.out.later hb); have E2 := Lib.hid hA; have ca3 := PA2.out.cell3; have ca0 := PA2.out.cell0; clear hA hB hb)
    | (go_at_call 130; refine (HC.out _).mono ?_; rintro e w3 ⟨rfl, hb⟩; have B3 := Lib.hid (below_trans B2.out hb); have PA3 := Lib.hid (PA2.out.later hb); have PB3 := Lib.hid (PB2.out.later hb); have E3 := Lib.hid (E2.out.later hb); clear hb)
    | (go_at_call 152; refine (HLT.out _).mono ?_; rintro e w4 ⟨rfl, hb⟩; have B4 := Lib.hid (below_trans B3.out hb); have PA4 := Lib.hid (PA3.out.later hb); have PB4 := Lib.hid (PB3.out.later hb); have E4 := Lib.hid (E3.out.later hb); clear hb)
    | (refine store_st rfl (.tmp 8) (.tmp 20) rfl rfl w4.heap.size cl w0 true false rfl rfl HCL.out.1 sec_zero (atSt_lit w4) ?_; intro w5 hA hB; have hb := (below_alloc (Below.refl _ w4) _).trans hB; have B5 := Lib.hid (below_trans B4.out hb); have PA5 := Lib.hid (PA4.out.later hb); have PB5 := Lib.hid (PB4.out.later hb); have E5 := Lib.hid (E4.out.later hb); have S5 := Lib.hid hA; have cb2 := PB5.out.cell2; rw [hbi] at cb2; have cc4 := PA5.out.cell4; have cd4 := PB5.out.cell4; have cc3 := PA5.out.cell3; have cc0 := PA5.out.cell0; have cd0 := PB5.out.cell0; have dd := (HKx.out.later B5.out).row.disk; clear hA hB hb)
    | (go_at_call 96; with_reducible refine (HA2.out _ B5.out).mono ?_; rintro e w6 ⟨rfl, hb⟩; have B6 := Lib.hid (below_trans B5.out hb); have PA6 := Lib.hid (PA5.out.later hb); have PB6 := Lib.hid (PB5.out.later hb); have E6 := Lib.hid (E5.out.later hb); have S6 := Lib.hid (S5.out.later hb); have ce4 := PB6.out.cell4; clear hb)
    | (go_at_call 96; with_reducible refine (HB2.out _ B6.out).mono ?_; rintro e w7 ⟨rfl, hb⟩; have B7 := Lib.hid (below_trans B6.out hb); have PA7 := Lib.hid (PA6.out.later hb); have PB7 := Lib.hid (PB6.out.later hb); have E7 := Lib.hid (E6.out.later hb); have S7 := Lib.hid (S6.out.later hb); clear hb))
    go_ret
    exact pdone_same HR.out B7.out
   ·rw [if_neg (fun hh => hh.elim hka hkb)] at hV
    have HA2 : Hid (∀ w', Below w.heap.size w w' → Calls Tryz.prog 96 #[.pointer (some ⟨g, 0, none⟩), .int .i64 a.tg] w' fun e w'' => e = .returned (.bool false) ∧ Below w'.heap.size w' w'') := Lib.hid fun w' hb => by
       have h := HFA.out w' hb
       rw [decide_eq_false hka] at h
       exact h
    have HB2 : Hid (∀ w', Below w.heap.size w w' → Calls Tryz.prog 96 #[.pointer (some ⟨g, 0, none⟩), .int .i64 b.tg] w' fun e w'' => e = .returned (.bool false) ∧ Below w'.heap.size w' w'') := Lib.hid fun w' hb => by
       have h := HFB.out w' hb
       rw [decide_eq_false hkb] at h
       exact h
    have HE1 := Lib.hid fun w' => HE.out b.k (by omega) w'
    have okY := okE b.k (by omega)
    have HPF := Lib.hid fun w1 hb => HP2.out _ _ false true okY HCL.out w1 hb
    rw [run_move, hV] at HPF
    generalize wEnt b.k x b.dir = y at *
    have OY := Lib.hid okY
    clear HFA HFB HP1 HP2 okE okY hV
    go_enter Tryz.func98, Tryz.ntmps98
    go_upto_region 1 with fail
    try rw [hW]
    clear hW
    go_upto_region 6 with (first
    | (go_at_call 151; refine (HEN.out _).mono ?_; rintro e w1 ⟨rfl, hb⟩; have B1 := Lib.hid (below_trans B0.out hb); have PA1 := Lib.hid (PA0.out.later hb); have PB1 := Lib.hid (PB0.out.later hb); clear hb)
    | (refine load_plc rfl (.tmp 5) rfl (w.heap.size + 1) rfl b PB0.out ?_)
    | (refine store_ent rfl (.tmp 7) (.tmp 14) rfl rfl w1.heap.size x ent0 rfl rfl (atE_lit w1) ?_; intro w2 hA hB _; have hb := (below_alloc (Below.refl _ w1) _).trans hB; have B2 := Lib.hid (below_trans B1.out hb); have PA2 := Lib.hid (PA1.out.later hb); have PB2 := Lib.hid (PB1.out.later hb); have E2 := Lib.hid hA; have ca3 := PA2.out.cell3; have ca0 := PA2.out.cell0; clear hA hB hb)
    | (go_at_call 130; refine (HC.out _).mono ?_; rintro e w3 ⟨rfl, hb⟩; have B3 := Lib.hid (below_trans B2.out hb); have PA3 := Lib.hid (PA2.out.later hb); have PB3 := Lib.hid (PB2.out.later hb); have E3 := Lib.hid (E2.out.later hb); clear hb)
    | (go_at_call 152; refine (HLT.out _).mono ?_; rintro e w4 ⟨rfl, hb⟩; have B4 := Lib.hid (below_trans B3.out hb); have PA4 := Lib.hid (PA3.out.later hb); have PB4 := Lib.hid (PB3.out.later hb); have E4 := Lib.hid (E3.out.later hb); clear hb)
    | (refine store_st rfl (.tmp 8) (.tmp 20) rfl rfl w4.heap.size cl w0 true false rfl rfl HCL.out.1 sec_zero (atSt_lit w4) ?_; intro w5 hA hB; have hb := (below_alloc (Below.refl _ w4) _).trans hB; have B5 := Lib.hid (below_trans B4.out hb); have PA5 := Lib.hid (PA4.out.later hb); have PB5 := Lib.hid (PB4.out.later hb); have E5 := Lib.hid (E4.out.later hb); have S5 := Lib.hid hA; have cb2 := PB5.out.cell2; rw [hbi] at cb2; have cc4 := PA5.out.cell4; have cd4 := PB5.out.cell4; have cc3 := PA5.out.cell3; have cc0 := PA5.out.cell0; have cd0 := PB5.out.cell0; have dd := (HKx.out.later B5.out).row.disk; clear hA hB hb)
    | (go_at_call 96; with_reducible refine (HA2.out _ B5.out).mono ?_; rintro e w6 ⟨rfl, hb⟩; have B6 := Lib.hid (below_trans B5.out hb); have PA6 := Lib.hid (PA5.out.later hb); have PB6 := Lib.hid (PB5.out.later hb); have E6 := Lib.hid (E5.out.later hb); have S6 := Lib.hid (S5.out.later hb); have ce4 := PB6.out.cell4; clear hb)
    | (go_at_call 96; with_reducible refine (HB2.out _ B6.out).mono ?_; rintro e w7 ⟨rfl, hb⟩; have B7 := Lib.hid (below_trans B6.out hb); have PA7 := Lib.hid (PA6.out.later hb); have PB7 := Lib.hid (PB6.out.later hb); have E7 := Lib.hid (E6.out.later hb); have S7 := Lib.hid (S6.out.later hb); clear hb))
    clear ca4 ca3 ca0 cb2 cc4 cd4 cc3 cc0 cd0 ce4 dd
    have hNB : ∀ q, w.heap.size ≤ q → ¬ G q := fun q hq hh => by have := HGl.out _ hh; omega
    have HBd : Hid (∀ v, Below w7.drew.heap.size w7.drew v → Below w.heap.size w v) := Lib.hid fun v hv => below_trans B7.out (((Below.refl w7.heap.size w7).drew).trans hv)
    have HPB := Lib.hid fun v (hv : dsk.Touch G w7.drew v) => (AtP.touch (w := w7.drew) PB7.out hv (hNB _ (by omega)))
    have HTE := Lib.hid fun v (hv : dsk.Touch G w7.drew v) => (show AtE v w1.heap.size x from (hv.block _ (Array.getElem?_eq_some_iff.1 E7.out).1 (hNB _ B1.out.size)).trans E7.out)
    have HTS := Lib.hid fun v (hv : dsk.Touch G w7.drew v) => (show AtSt v w4.heap.size cl true from (hv.block _ S7.out.lt (hNB _ B4.out.size)).trans S7.out)
    have h0 := dsk.Touch.refl G w7.drew
    have b0 : Below w7.drew.heap.size w7.drew w7.drew := Below.refl _ _
    refine wp_region_held_drew (S := dsk.Touch G w7.drew) (by kernel_rfl) h0 (fun hH0 => ?_)
    refine wpAnyH_take (i := 0) (oi := { dst := some 33, op := Op.move (Operand.tmp 0), type := 33, pos := "sfs.go:166", after := #[], guard := none }) (v := ?_) rfl (by kernel_rfl) (by kernel_rfl) (by kernel_rfl) (fun _ _ _ h => h) (Or.inl ⟨by rfl, ?_⟩) (by assumption) ?_
    rotate_left
    ·(intro w' hSw; go_simp; try with_reducible rfl)
    try simp only [Act.put, List.setIfInBounds_toArray, List.set_cons_zero, List.set_cons_succ]
    refine wpAnyH_take (i := 1) (oi := { dst := some 34, op := Op.fieldAddr 156 (Operand.tmp 5) 3, type := 0, pos := "sfs.go:166", after := #[], guard := none }) (v := ?_) rfl (by kernel_rfl) (by kernel_rfl) (by kernel_rfl) (fun _ _ _ h => h) (Or.inl ⟨by rfl, ?_⟩) (by assumption) ?_
    rotate_left
    ·(intro w' hSw; go_simp; try with_reducible rfl)
    try simp only [Act.put, List.setIfInBounds_toArray, List.set_cons_zero, List.set_cons_succ]
    refine' wpAnyH_take (i := 2) (oi := { dst := some 35, op := Op.load 3 (Operand.tmp 34), type := 3, pos := "sfs.go:166", after := #[{ on := 1, ground := Ground.data }], guard := none }) (v := _) rfl (by kernel_rfl) (by kernel_rfl) (by kernel_rfl) (fun _ _ _ h => h) (ld_cell (by rfl) 3 _ Tryz.underlying3 rfl _ rfl (w.heap.size + 1) 3 rfl (.int .i64 b.k) (fun w' hw => (HPB.out w' hw).cell3)) (by assumption) ?_
    try simp only [Act.put, List.setIfInBounds_toArray, List.set_cons_zero, List.set_cons_succ]
    refine' wpAnyH_take (i := 3) (oi := { dst := some 36, op := Op.load 126 (Operand.tmp 7), type := 126, pos := "sfs.go:166", after := #[], guard := none }) (v := _) rfl (by kernel_rfl) (by kernel_rfl) (by kernel_rfl) (fun _ _ _ h => h) (ld_ent (by rfl) (.tmp 7) rfl w1.heap.size rfl x (fun w' hw => HTE.out w' hw)) (by assumption) ?_
    try simp only [Act.put, List.setIfInBounds_toArray, List.set_cons_zero, List.set_cons_succ]
    refine' wpAnyH_take (i := 5) (oi := { dst := some 38, op := Op.load 188 (Operand.tmp 8), type := 188, pos := "sfs.go:166", after := #[], guard := none }) (v := _) rfl (by kernel_rfl) (by kernel_rfl) (by kernel_rfl) (fun _ _ _ h => h) (ld_st (by rfl) _ rfl w4.heap.size 0 rfl cl true HCL.out.1 (fun w' hw => (HTS.out w' hw).range)) (by assumption) ?_
    try simp only [Act.put, List.setIfInBounds_toArray, List.set_cons_zero, List.set_cons_succ]
    refine wpAnyH_ready (rs := [4]) (by kernel_rfl) (by simp) ?_
    refine AllReadyH.cons (o := { dst := some 37, op := Op.call { callee := Callee.value (Operand.func 153), args := #[Operand.tmp 35, Operand.tmp 36], argTypes := #[3, 126] }, type := 188, pos := "sfs.go:166", after := #[{ on := 2, ground := Ground.data }, { on := 3, ground := Ground.data }], guard := none }) rfl (fun K hK => ?_) AllReadyH.nil
    go_simp
    refine (HE1.out _).mono ?_
    rintro e v1 ⟨rfl, hv1⟩
    have b1 := b0.trans (hv1.mono b0.size)
    have h1 := dsk.Touch.of_below (S := G) b1
    dsimp only
    refine hK.out _ _ ?_ (fun hHeld => ?_)
    ·exact h1
    clear hK K
    try simp only [Act.put, List.setIfInBounds_toArray, List.set_cons_zero, List.set_cons_succ]
    refine wpAnyH_ready (rs := [6]) (by kernel_rfl) (by simp) ?_
    refine AllReadyH.cons (o := { dst := some 39, op := Op.buildSlice 239 2 #[(0, Operand.tmp 37), (1, Operand.tmp 38)], type := 239, pos := "sfs.go:166", after := #[{ on := 4, ground := Ground.data }, { on := 5, ground := Ground.data }], guard := none }) rfl (fun K hK => ?_) AllReadyH.nil
    refine step_two_st (by rfl) (.tmp 37) (.tmp 38) rfl y cl false true OY.out.1 HCL.out.1 rfl rfl ?_
    have h2 : dsk.Touch G w7.drew (v1.alloc (.cells (stC y false ++ stC cl true).toArray 188)) := (h1).alloc _
    refine hK.out _ _ ?_ (fun hHeld => ?_)
    ·exact h2
    clear hK K
    try simp only [Act.put, List.setIfInBounds_toArray, List.set_cons_zero, List.set_cons_succ]
    refine wpAnyH_ready (rs := [7]) (by kernel_rfl) (by simp) ?_
    refine AllReadyH.cons (o := { dst := some 40, op := Op.call { callee := Callee.value (Operand.func 129), args := #[Operand.tmp 33, Operand.tmp 39], argTypes := #[33, 239] }, type := 27, pos := "sfs.go:166", after := #[{ on := 0, ground := Ground.data }, { on := 6, ground := Ground.data }, { on := 4, ground := Ground.chain }], guard := none }) rfl (fun K hK => ?_) AllReadyH.nil
    go_simp
    refine (HPF.out v1 (HBd.out _ b1)).mono ?_
    rintro e v3 ⟨hd3, ht3⟩
    have DD := Lib.hid hd3
    have h3 := (h2).trans ht3
    obtain ⟨rfl, _⟩ := hd3
    dsimp only
    refine hK.out _ _ ?_ (fun hHeld => ?_)
    ·exact h3
    clear hK K
    try simp only [Act.put, List.setIfInBounds_toArray, List.set_cons_zero, List.set_cons_succ]
    refine wpAnyH_take (i := 8) (oi := { dst := some 6, op := Op.assign (Operand.tmp 40), type := 27, pos := "sfs.go:166", after := #[{ on := 7, ground := Ground.data }, { on := 7, ground := Ground.chain }, { on := 0, ground := Ground.phase }, { on := 1, ground := Ground.phase }, { on := 2, ground := Ground.phase }, { on := 3, ground := Ground.phase }, { on := 4, ground := Ground.phase }, { on := 5, ground := Ground.phase }, { on := 6, ground := Ground.phase }, { on := 7, ground := Ground.phase }], guard := none }) (v := ?_) rfl (by kernel_rfl) (by kernel_rfl) (by kernel_rfl) (fun _ _ _ h => h) (Or.inl ⟨by rfl, ?_⟩) (by assumption) ?_
    rotate_left
    ·(intro w' hSw; go_simp; try with_reducible rfl)
    try simp only [Act.put, List.setIfInBounds_toArray, List.set_cons_zero, List.set_cons_succ]
    refine wpAnyH_done (by kernel_rfl) ?_ _
    go_wp2_with fail
    go_ret
    exact DD.out
 | false =>
  rw [hbi, if_neg (by decide)] at hV
  clear HFA HFB
  by_cases hdd : a.dir = b.dir
  ·rw [if_pos hdd] at hV
   have hdb : (a.dir == b.dir) = true := by rw [hdd]; simp
   have HE1 := Lib.hid fun w' => HE.out a.k (by omega) w'
   have okY := okE a.k (by omega)
   have HPF := Lib.hid fun w1 hb => HP1.out _ false okY w1 hb
   rw [run_one, hV] at HPF
   generalize wEnt a.k x b.dir = y at *
   have OY := Lib.hid okY
   clear HP1 HP2 okE okY hV hdd
   go_enter Tryz.func98, Tryz.ntmps98
   go_upto_region 1 with fail
   try rw [hW]
   clear hW
   go_wp2_with (first
   | (go_at_call 151; refine (HEN.out _).mono ?_; rintro e w1 ⟨rfl, hb⟩; have B1 := Lib.hid (below_trans B0.out hb); have PA1 := Lib.hid (PA0.out.later hb); have PB1 := Lib.hid (PB0.out.later hb); clear hb)
   | (refine load_plc rfl (.tmp 5) rfl (w.heap.size + 1) rfl b PB0.out ?_)
   | (refine store_ent rfl (.tmp 7) (.tmp 14) rfl rfl w1.heap.size x ent0 rfl rfl (atE_lit w1) ?_; intro w2 hA hB _; have hb := (below_alloc (Below.refl _ w1) _).trans hB; have B2 := Lib.hid (below_trans B1.out hb); have PA2 := Lib.hid (PA1.out.later hb); have PB2 := Lib.hid (PB1.out.later hb); have E2 := Lib.hid hA; have ca3 := PA2.out.cell3; have ca0 := PA2.out.cell0; clear hA hB hb)
   | (go_at_call 130; refine (HC.out _).mono ?_; rintro e w3 ⟨rfl, hb⟩; have B3 := Lib.hid (below_trans B2.out hb); have PA3 := Lib.hid (PA2.out.later hb); have PB3 := Lib.hid (PB2.out.later hb); have E3 := Lib.hid (E2.out.later hb); clear hb)
   | (go_at_call 152; refine (HLT.out _).mono ?_; rintro e w4 ⟨rfl, hb⟩; have B4 := Lib.hid (below_trans B3.out hb); have PA4 := Lib.hid (PA3.out.later hb); have PB4 := Lib.hid (PB3.out.later hb); have E4 := Lib.hid (E3.out.later hb); clear hb)
   | (refine store_st rfl (.tmp 8) (.tmp 20) rfl rfl w4.heap.size cl w0 true false rfl rfl HCL.out.1 sec_zero (atSt_lit w4) ?_; intro w5 hA hB; have hb := (below_alloc (Below.refl _ w4) _).trans hB; have B5 := Lib.hid (below_trans B4.out hb); have PA5 := Lib.hid (PA4.out.later hb); have PB5 := Lib.hid (PB4.out.later hb); have E5 := Lib.hid (E4.out.later hb); have S5 := Lib.hid hA; have cb2 := PB5.out.cell2; rw [hbi] at cb2; have cc4 := PA5.out.cell4; have cd4 := PB5.out.cell4; have cc3 := PA5.out.cell3; have cc0 := PA5.out.cell0; have cd0 := PB5.out.cell0; have dd := (HKx.out.later B5.out).row.disk; clear hA hB hb)
   | (refine load_ent rfl (.tmp 7) rfl w1.heap.size rfl x E5.out ?_)
   | (go_at_call 153; refine (HE1.out _).mono ?_; rintro e w6 ⟨rfl, hb⟩; have B6 := Lib.hid (below_trans B5.out hb); clear hb)
   | (refine build_one elem_sts (by decide) rfl (.tmp 50) rfl (stC y false) rfl (stC_len OY.out.1) ?_)
   | (go_at_call 129; refine (HPF.out w6 B6.out).mono ?_; rintro e w8 ⟨hd8, _⟩; have D8 := Lib.hid hd8; obtain ⟨rfl, _⟩ := hd8))
   go_ret
   exact D8.out
  ·rw [if_neg hdd] at hV
   have hdb : (a.dir == b.dir) = false := beq_eq_false_iff_ne.2 hdd
   cases fe with
   | none =>
    have hV2 : V = (2, st) := by rw [← hV]
    subst hV2
    rw [optV_none] at HSl
    clear hV HP1 HP2 okE hdd
    go_enter Tryz.func98, Tryz.ntmps98
    go_upto_region 1 with fail
    try rw [hW]
    clear hW
    go_wp2_with (first
    | (go_at_call 151; refine (HEN.out _).mono ?_; rintro e w1 ⟨rfl, hb⟩; have B1 := Lib.hid (below_trans B0.out hb); have PA1 := Lib.hid (PA0.out.later hb); have PB1 := Lib.hid (PB0.out.later hb); clear hb)
    | (refine load_plc rfl (.tmp 5) rfl (w.heap.size + 1) rfl b PB0.out ?_)
    | (refine store_ent rfl (.tmp 7) (.tmp 14) rfl rfl w1.heap.size x ent0 rfl rfl (atE_lit w1) ?_; intro w2 hA hB _; have hb := (below_alloc (Below.refl _ w1) _).trans hB; have B2 := Lib.hid (below_trans B1.out hb); have PA2 := Lib.hid (PA1.out.later hb); have PB2 := Lib.hid (PB1.out.later hb); have E2 := Lib.hid hA; have ca3 := PA2.out.cell3; have ca0 := PA2.out.cell0; clear hA hB hb)
    | (go_at_call 130; refine (HC.out _).mono ?_; rintro e w3 ⟨rfl, hb⟩; have B3 := Lib.hid (below_trans B2.out hb); have PA3 := Lib.hid (PA2.out.later hb); have PB3 := Lib.hid (PB2.out.later hb); have E3 := Lib.hid (E2.out.later hb); clear hb)
    | (go_at_call 152; refine (HLT.out _).mono ?_; rintro e w4 ⟨rfl, hb⟩; have B4 := Lib.hid (below_trans B3.out hb); have PA4 := Lib.hid (PA3.out.later hb); have PB4 := Lib.hid (PB3.out.later hb); have E4 := Lib.hid (E3.out.later hb); clear hb)
    | (refine store_st rfl (.tmp 8) (.tmp 20) rfl rfl w4.heap.size cl w0 true false rfl rfl HCL.out.1 sec_zero (atSt_lit w4) ?_; intro w5 hA hB; have hb := (below_alloc (Below.refl _ w4) _).trans hB; have B5 := Lib.hid (below_trans B4.out hb); have PA5 := Lib.hid (PA4.out.later hb); have PB5 := Lib.hid (PB4.out.later hb); have E5 := Lib.hid (E4.out.later hb); have S5 := Lib.hid hA; have cb2 := PB5.out.cell2; rw [hbi] at cb2; have cc4 := PA5.out.cell4; have cd4 := PB5.out.cell4; have cc3 := PA5.out.cell3; have cc0 := PA5.out.cell0; have cd0 := PB5.out.cell0; have dd := (HKx.out.later B5.out).row.disk; clear hA hB hb)
    | (go_at_call 154; refine (HSl.out _ B5.out).mono ?_; rintro e w6 ⟨rfl, hb⟩; have B6 := Lib.hid (below_trans B5.out hb); clear hb))
    go_ret
    exact pdone_same HR.out B6.out
   | some ke =>
    rw [optV_some] at HSl
    have hk24 := hfe ke rfl
    have HE1 := Lib.hid fun w' => HE.out (ke : Int) (by omega) w'
    have okY := okE (ke : Int) (by omega)
    have HPF := Lib.hid fun w1 hb => HP2.out _ _ false true okY HCL.out w1 hb
    simp only at hV
    rw [run_move, hV] at HPF
    generalize wEnt (ke : Int) x b.dir = y at *
    have OY := Lib.hid okY
    clear HP1 HP2 okE okY hV hdd hfe
    go_enter Tryz.func98, Tryz.ntmps98
    go_upto_region 1 with fail
    try rw [hW]
    clear hW
    go_upto_region 12 with (first
    | (go_at_call 151; refine (HEN.out _).mono ?_; rintro e w1 ⟨rfl, hb⟩; have B1 := Lib.hid (below_trans B0.out hb); have PA1 := Lib.hid (PA0.out.later hb); have PB1 := Lib.hid (PB0.out.later hb); clear hb)
    | (refine load_plc rfl (.tmp 5) rfl (w.heap.size + 1) rfl b PB0.out ?_)
    | (refine store_ent rfl (.tmp 7) (.tmp 14) rfl rfl w1.heap.size x ent0 rfl rfl (atE_lit w1) ?_; intro w2 hA hB _; have hb := (below_alloc (Below.refl _ w1) _).trans hB; have B2 := Lib.hid (below_trans B1.out hb); have PA2 := Lib.hid (PA1.out.later hb); have PB2 := Lib.hid (PB1.out.later hb); have E2 := Lib.hid hA; have ca3 := PA2.out.cell3; have ca0 := PA2.out.cell0; clear hA hB hb)
    | (go_at_call 130; refine (HC.out _).mono ?_; rintro e w3 ⟨rfl, hb⟩; have B3 := Lib.hid (below_trans B2.out hb); have PA3 := Lib.hid (PA2.out.later hb); have PB3 := Lib.hid (PB2.out.later hb); have E3 := Lib.hid (E2.out.later hb); clear hb)
    | (go_at_call 152; refine (HLT.out _).mono ?_; rintro e w4 ⟨rfl, hb⟩; have B4 := Lib.hid (below_trans B3.out hb); have PA4 := Lib.hid (PA3.out.later hb); have PB4 := Lib.hid (PB3.out.later hb); have E4 := Lib.hid (E3.out.later hb); clear hb)
    | (refine store_st rfl (.tmp 8) (.tmp 20) rfl rfl w4.heap.size cl w0 true false rfl rfl HCL.out.1 sec_zero (atSt_lit w4) ?_; intro w5 hA hB; have hb := (below_alloc (Below.refl _ w4) _).trans hB; have B5 := Lib.hid (below_trans B4.out hb); have PA5 := Lib.hid (PA4.out.later hb); have PB5 := Lib.hid (PB4.out.later hb); have E5 := Lib.hid (E4.out.later hb); have S5 := Lib.hid hA; have cb2 := PB5.out.cell2; rw [hbi] at cb2; have cc4 := PA5.out.cell4; have cd4 := PB5.out.cell4; have cc3 := PA5.out.cell3; have cc0 := PA5.out.cell0; have cd0 := PB5.out.cell0; have dd := (HKx.out.later B5.out).row.disk; clear hA hB hb)
    | (go_at_call 154; refine (HSl.out _ B5.out).mono ?_; rintro e w6 ⟨rfl, hb⟩; have B6 := Lib.hid (below_trans B5.out hb); have PA6 := Lib.hid (PA5.out.later hb); have PB6 := Lib.hid (PB5.out.later hb); have E6 := Lib.hid (E5.out.later hb); have S6 := Lib.hid (S5.out.later hb); clear hb))
    clear ca4 ca3 ca0 cb2 cc4 cd4 cc3 cc0 cd0 dd
    have hNB : ∀ q, w.heap.size ≤ q → ¬ G q := fun q hq hh => by have := HGl.out _ hh; omega
    have HBd : Hid (∀ v, Below w6.drew.heap.size w6.drew v → Below w.heap.size w v) := Lib.hid fun v hv => below_trans B6.out (((Below.refl w6.heap.size w6).drew).trans hv)
    have HPB := Lib.hid fun v (hv : dsk.Touch G w6.drew v) => (AtP.touch (w := w6.drew) PB6.out hv (hNB _ (by omega)))
    have HTE := Lib.hid fun v (hv : dsk.Touch G w6.drew v) => (show AtE v w1.heap.size x from (hv.block _ (Array.getElem?_eq_some_iff.1 E6.out).1 (hNB _ B1.out.size)).trans E6.out)
    have HTS := Lib.hid fun v (hv : dsk.Touch G w6.drew v) => (show AtSt v w4.heap.size cl true from (hv.block _ S6.out.lt (hNB _ B4.out.size)).trans S6.out)
    have h0 := dsk.Touch.refl G w6.drew
    have b0 : Below w6.drew.heap.size w6.drew w6.drew := Below.refl _ _
    refine wp_region_held_drew (S := dsk.Touch G w6.drew) (by kernel_rfl) h0 (fun hH0 => ?_)
    refine wpAnyH_take (i := 0) (oi := { dst := some 63, op := Op.move (Operand.tmp 0), type := 33, pos := "sfs.go:175", after := #[], guard := none }) (v := ?_) rfl (by kernel_rfl) (by kernel_rfl) (by kernel_rfl) (fun _ _ _ h => h) (Or.inl ⟨by rfl, ?_⟩) (by assumption) ?_
    rotate_left
    ·(intro w' hSw; go_simp; try with_reducible rfl)
    try simp only [Act.put, List.setIfInBounds_toArray, List.set_cons_zero, List.set_cons_succ]
    refine wpAnyH_take (i := 1) (oi := { dst := some 64, op := Op.move (Operand.tmp 9), type := 3, pos := "sfs.go:175", after := #[], guard := none }) (v := ?_) rfl (by kernel_rfl) (by kernel_rfl) (by kernel_rfl) (fun _ _ _ h => h) (Or.inl ⟨by rfl, ?_⟩) (by assumption) ?_
    rotate_left
    ·(intro w' hSw; go_simp; try with_reducible rfl)
    try simp only [Act.put, List.setIfInBounds_toArray, List.set_cons_zero, List.set_cons_succ]
    refine' wpAnyH_take (i := 2) (oi := { dst := some 65, op := Op.load 126 (Operand.tmp 7), type := 126, pos := "sfs.go:175", after := #[], guard := none }) (v := _) rfl (by kernel_rfl) (by kernel_rfl) (by kernel_rfl) (fun _ _ _ h => h) (ld_ent (by rfl) (.tmp 7) rfl w1.heap.size rfl x (fun w' hw => HTE.out w' hw)) (by assumption) ?_
    try simp only [Act.put, List.setIfInBounds_toArray, List.set_cons_zero, List.set_cons_succ]
    refine' wpAnyH_take (i := 4) (oi := { dst := some 67, op := Op.load 188 (Operand.tmp 8), type := 188, pos := "sfs.go:175", after := #[], guard := none }) (v := _) rfl (by kernel_rfl) (by kernel_rfl) (by kernel_rfl) (fun _ _ _ h => h) (ld_st (by rfl) _ rfl w4.heap.size 0 rfl cl true HCL.out.1 (fun w' hw => (HTS.out w' hw).range)) (by assumption) ?_
    try simp only [Act.put, List.setIfInBounds_toArray, List.set_cons_zero, List.set_cons_succ]
    refine wpAnyH_ready (rs := [3]) (by kernel_rfl) (by simp) ?_
    refine AllReadyH.cons (o := { dst := some 66, op := Op.call { callee := Callee.value (Operand.func 153), args := #[Operand.tmp 64, Operand.tmp 65], argTypes := #[3, 126] }, type := 188, pos := "sfs.go:175", after := #[{ on := 1, ground := Ground.data }, { on := 2, ground := Ground.data }], guard := none }) rfl (fun K hK => ?_) AllReadyH.nil
    go_simp
    refine (HE1.out _).mono ?_
    rintro e v1 ⟨rfl, hv1⟩
    have b1 := b0.trans (hv1.mono b0.size)
    have h1 := dsk.Touch.of_below (S := G) b1
    dsimp only
    refine hK.out _ _ ?_ (fun hHeld => ?_)
    ·exact h1
    clear hK K
    try simp only [Act.put, List.setIfInBounds_toArray, List.set_cons_zero, List.set_cons_succ]
    refine wpAnyH_ready (rs := [5]) (by kernel_rfl) (by simp) ?_
    refine AllReadyH.cons (o := { dst := some 68, op := Op.buildSlice 239 2 #[(0, Operand.tmp 66), (1, Operand.tmp 67)], type := 239, pos := "sfs.go:175", after := #[{ on := 3, ground := Ground.data }, { on := 4, ground := Ground.data }], guard := none }) rfl (fun K hK => ?_) AllReadyH.nil
    refine step_two_st (by rfl) (.tmp 66) (.tmp 67) rfl y cl false true OY.out.1 HCL.out.1 rfl rfl ?_
    have h2 : dsk.Touch G w6.drew (v1.alloc (.cells (stC y false ++ stC cl true).toArray 188)) := (h1).alloc _
    refine hK.out _ _ ?_ (fun hHeld => ?_)
    ·exact h2
    clear hK K
    try simp only [Act.put, List.setIfInBounds_toArray, List.set_cons_zero, List.set_cons_succ]
    refine wpAnyH_ready (rs := [6]) (by kernel_rfl) (by simp) ?_
    refine AllReadyH.cons (o := { dst := some 69, op := Op.call { callee := Callee.value (Operand.func 129), args := #[Operand.tmp 63, Operand.tmp 68], argTypes := #[33, 239] }, type := 27, pos := "sfs.go:175", after := #[{ on := 0, ground := Ground.data }, { on := 5, ground := Ground.data }, { on := 3, ground := Ground.chain }], guard := none }) rfl (fun K hK => ?_) AllReadyH.nil
    go_simp
    refine (HPF.out v1 (HBd.out _ b1)).mono ?_
    rintro e v3 ⟨hd3, ht3⟩
    have DD := Lib.hid hd3
    have h3 := (h2).trans ht3
    obtain ⟨rfl, _⟩ := hd3
    dsimp only
    refine hK.out _ _ ?_ (fun hHeld => ?_)
    ·exact h3
    clear hK K
    try simp only [Act.put, List.setIfInBounds_toArray, List.set_cons_zero, List.set_cons_succ]
    refine wpAnyH_take (i := 7) (oi := { dst := some 6, op := Op.assign (Operand.tmp 69), type := 27, pos := "sfs.go:175", after := #[{ on := 6, ground := Ground.data }, { on := 6, ground := Ground.chain }, { on := 0, ground := Ground.phase }, { on := 1, ground := Ground.phase }, { on := 2, ground := Ground.phase }, { on := 3, ground := Ground.phase }, { on := 4, ground := Ground.phase }, { on := 5, ground := Ground.phase }, { on := 6, ground := Ground.phase }], guard := none }) (v := ?_) rfl (by kernel_rfl) (by kernel_rfl) (by kernel_rfl) (fun _ _ _ h => h) (Or.inl ⟨by rfl, ?_⟩) (by assumption) ?_
    rotate_left
    ·(intro w' hSw; go_simp; try with_reducible rfl)
    try simp only [Act.put, List.setIfInBounds_toArray, List.set_cons_zero, List.set_cons_succ]
    refine wpAnyH_done (by kernel_rfl) ?_ _
    go_wp2_with fail
    go_ret
    exact DD.out
end fs
namespace fs
set_option maxRecDepth 100000
open Go.ChangeShapes Go.WideShapes Go.ChangeAt Go.RowKit
open rows
open sec
open dsk (St Wr.ok)
open ly
open pa
open lk
open al
theorem errP_split {l : List Int} (h : errP l = 0) : ∃ n ns, splitL l = some (n :: ns) := by
 unfold errP at h
 split at h
 ·exact ⟨_, _, ‹_›⟩
 ·cases h
 ·cases h
theorem deeper_is {s t : ByteArray} (hs : errP (bys s) = 0) (ht : errP (bys t) = 0) (hne : s ≠ t) : deeperB s t = decide ((nms (bys s)).length < (nms (bys t)).length) := by
 obtain ⟨n, ns, es⟩ := errP_split hs
 obtain ⟨m, ms, et⟩ := errP_split ht
 unfold deeperB
 have hn1 : nms (bys s) = n :: ns := by rw [nms, es]; rfl
 have hn2 : nms (bys t) = m :: ms := by rw [nms, et]; rfl
 have hu : underB (bys t) (bys s) = (decide ((n :: ns).length ≤ (m :: ms).length) && decide ((m :: ms).take (n :: ns).length = n :: ns)) := by rw [underB, et, es]
 rw [hn1, hn2, hu]
 by_cases h : (n :: ns).length < (m :: ms).length
 ·rw [decide_eq_true h, Bool.or_true]
 ·rw [decide_eq_false h, Bool.or_false, Bool.and_eq_false_iff]
  by_cases h2 : (n :: ns).length ≤ (m :: ms).length
  ·right
   refine decide_eq_false fun h3 => hne ?_
   rw [List.take_of_length_le (by omega)] at h3
   rw [h3, ← es] at et
   have j1 := (join_split es).1
   have j2 := (join_split (et.trans es)).1
   exact bys_inj (j1.symm.trans j2)
  ·left
   exact decide_eq_false h2
theorem idx0 (s t : ByteArray) (w : World) : (Instr.index 154 (.agg #[.string s, .string t]) (.int .i64 0)).run Tryz.prog w = .ok (.string s) w := by kernel_rfl
theorem idx1 (s t : ByteArray) (w : World) : (Instr.index 154 (.agg #[.string s, .string t]) (.int .i64 1)).run Tryz.prog w = .ok (.string t) w := by kernel_rfl
theorem plc_fine {L : List (List Int)} (hs : Secs L) (s : ByteArray) : (plcOf L (placeV L s).1).fine := by
 have h1 := place_fine hs s
 have h2 := place_name L s
 have h3 := ent_fine hs (placeV L s).1.k
 refine ⟨h1.1, h1.2.1, h1.2.2.1, h1.2.2.2, ?_, ?_, by show (placeV L s).1.name.size ≤ maxLen; unfold maxLen; omega⟩
 ·show 0 ≤ (if (placeV L s).1.is then (entAt L (placeV L s).1.k).target else 0)
  split <;> omega
 ·show (if (placeV L s).1.is then (entAt L (placeV L s).1.k).target else 0) ≤ 255
  split <;> omega
theorem rename_move (st : St) (L : List (List Int)) (a b : Spot) (ha : a.is = true) :
  (if b.is = true then
   if decide ((inoAt L (entAt L a.k).target).kind = 2) = true ∨ (inoAt L (entAt L b.k).target).kind = 2 then ((5 : Int), st)
   else moveR st (wEnt b.k ⟨true, b.dir, b.name, (entAt L a.k).target⟩ b.dir) (wEnt a.k ent0 a.dir)
  else if a.dir = b.dir then doR st [wEnt a.k ⟨true, b.dir, b.name, (entAt L a.k).target⟩ b.dir]
  else match frE L with
   | none => (2, st)
   | some k => moveR st (wEnt (k : Int) ⟨true, b.dir, b.name, (entAt L a.k).target⟩ b.dir) (wEnt a.k ent0 a.dir)) = moveV st L (plcOf L a) (plcOf L b) := by
 unfold moveV plcOf
 simp only [ha, if_true, decide_eq_true_eq]
 by_cases hb : b.is = true
 ·simp only [hb, if_true]
 ·simp only [hb, Bool.false_eq_true, if_false]
  all_goals
   by_cases hd : a.dir = b.dir
   ·rw [if_pos hd, if_pos hd]
   ·rw [if_neg hd, if_neg hd]
    cases frE L <;> rfl
set_option maxRecDepth 100000 in
set_option maxHeartbeats 6400000 in
theorem frename (G : Nat → Prop) (g : Nat) (d : Value) (st : St) (w : World) (hGl : ∀ b, G b → b < w.heap.size) (h : FsAt w G g d st) (k : Nat) (hg : st.good k) (hk : k + 20 ≤ 900) (hm : Mx w) (s t : ByteArray) (hsz : s.size ≤ 100000) (htz : t.size ≤ 100000) :
  Calls Tryz.prog 33 #[.pointer (some ⟨g, 0, none⟩), .string s, .string t] w (PDone G g d w (renameV st s t)) := by
 have HR := Lib.hid h
 have HK := h.known hg (by omega)
 have hsec := HK.dk.secs.1
 have HGL := h.row.lt
 have HM := Lib.hid (fmade g w h.row.self)
 have HPS := Lib.hid fun w' (hb : Below w.heap.size w w') => parent_is s w' (hm.later hb) hsz
 have HPT := Lib.hid fun w' (hb : Below w.heap.size w w') => parent_is t w' (hm.later hb) htz
 have HLS := Lib.hid fun w' (hb : Below w.heap.size w w') => flocate w' g d (nowL st) s (HK.later hb) (hm.later hb) hsz
 have HLT := Lib.hid fun w' (hb : Below w.heap.size w w') => flocate w' g d (nowL st) t (HK.later hb) (hm.later hb) htz
 have HDS := Lib.hid fun w' (hb : Below w.heap.size w w') => fdepth s w' (hm.later hb) hsz
 have HDT := Lib.hid fun w' (hb : Below w.heap.size w w') => fdepth t w' (hm.later hb) htz
 have fa := plc_fine hsec s
 have fb := plc_fine hsec t
 have HMV := Lib.hid fun w1 (hb : Below w.heap.size w w1) => (fmove G g d st w1 (fun b hG => Nat.lt_of_lt_of_le (hGl b hG) hb.size) (h.later hb) k hg hk _ _ fa fb).mono fun e w' hd => pdone_from h.row.lt h.apart hb hd
 have HFO := Lib.hid fun w' (hb : Below w.heap.size w w') => fisfolder w' g d (nowL st) (plcOf (nowL st) (placeV (nowL st) s).1).tg (HK.later hb) (wf_byte (by have := fa.t0; have := fa.t1; omega))
 have HDE := Lib.hid fun h1 h2 h3 => deeper_is (s := s) (t := t) h1 h2 h3
 have HRM := Lib.hid fun ha => rename_move st (nowL st) (placeV (nowL st) s).1 (placeV (nowL st) t).1 ha
 have HST := Lib.hid (fun (e : s = t) => congrArg (placeV (nowL st)) e)
 obtain ⟨V, hV⟩ : ∃ V, renameV st s t = V := ⟨_, rfl⟩
 rw [hV]
 unfold renameV at hV
 dsimp only at hV
 generalize errP (bys s) = es at *
 generalize errP (bys t) = et at *
 generalize (nms (bys s)).length = ns at *
 generalize (nms (bys t)).length = nt at *
 have HI0 := idx0 s t
 have HI1 := idx1 s t
 have hkd : (inoAt (nowL st) (plcOf (nowL st) (placeV (nowL st) s).1).tg).kind = (inoAt (nowL st) (plcOf (nowL st) (placeV (nowL st) s).1).tg).kind := rfl
 have HTG : Hid ((placeV (nowL st) s).1.is = true → (plcOf (nowL st) (placeV (nowL st) s).1).tg = (entAt (nowL st) (placeV (nowL st) s).1.k).target) := Lib.hid fun hi => by
  show (if (placeV (nowL st) s).1.is then (entAt (nowL st) (placeV (nowL st) s).1.k).target else 0) = _
  rw [if_pos hi]
 have HAf : Hid ((plcOf (nowL st) (placeV (nowL st) s).1).is = (placeV (nowL st) s).1.is ∧ (plcOf (nowL st) (placeV (nowL st) s).1).k = (placeV (nowL st) s).1.k) := Lib.hid ⟨rfl, rfl⟩
 have HBf : Hid ((plcOf (nowL st) (placeV (nowL st) t).1).is = (placeV (nowL st) t).1.is ∧ (plcOf (nowL st) (placeV (nowL st) t).1).k = (placeV (nowL st) t).1.k) := Lib.hid ⟨rfl, rfl⟩
 generalize plcOf (nowL st) (placeV (nowL st) s).1 = pa at *
 generalize plcOf (nowL st) (placeV (nowL st) t).1 = pb at *
 generalize placeV (nowL st) s = P at *
 generalize placeV (nowL st) t = Q at *
 obtain ⟨sa, ea⟩ := P
 obtain ⟨sb, eb⟩ := Q
 simp only at HLS HLT HRM HTG HAf HBf hV
 have HVV := Lib.hid hV
 clear h hg hk hm hsz htz hsec fa fb hGl hkd hV HK
 go_enter Tryz.func33, Tryz.ntmps33
 go_wp2_with (go_at_call 89; refine HM.out.mono ?_; rintro e wm ⟨rfl, hwm⟩; obtain rfl := hwm)
 go_loopw [8, 9, 10, 11, 21] (fun _ _ _ _ iv wr => ∃ i : Nat, i ≤ 2 ∧ iv = .int .i64 (i : Int) ∧ Hid (0 < i → es = 0) ∧ Hid (1 < i → et = 0) ∧ Hid (Below w.heap.size w wr)) (fun _ _ _ _ iv _ => 2 - (intOf iv).toNat)
 case atStart => exact ⟨0, by omega, rfl, Lib.hid (fun h => by omega), Lib.hid (fun h => by omega), Lib.hid (Below.refl _ _)⟩
 case round =>
  obtain ⟨i, hi, rfl, HES, HET, HB⟩ := hrel
  by_cases h0 : i = 0
  ·subst h0
   by_cases he : es = 0
   ·subst he
    go_wp2_with (go_at_call 94; refine (HPS.out _ HB.out).mono ?_; rintro e w2 ⟨rfl, hb⟩; have B2 := Lib.hid (below_trans HB.out hb); clear hb)
    go_roundw
    case rel => exact ⟨1, by omega, by go_num, Lib.hid (by simp), Lib.hid (fun h => by omega), B2⟩
    case measure => simp [intOf]
   ·have hne : (es != 0) = true := by simpa using he
    have hV2 : Hid (V = (es, st)) := Lib.hid (by rw [← HVV.out, if_pos he])
    go_wp2_with (go_at_call 94; refine (HPS.out _ HB.out).mono ?_; rintro e w2 ⟨rfl, hb⟩; have B2 := Lib.hid (below_trans HB.out hb); clear hb)
    go_ret
    rw [hV2.out]
    exact pdone_same HR.out B2.out
  by_cases h1 : i = 1
  ·subst h1
   have hes := HES.out (by omega)
   by_cases he : et = 0
   ·subst he
    go_wp2_with (go_at_call 94; refine (HPT.out _ HB.out).mono ?_; rintro e w2 ⟨rfl, hb⟩; have B2 := Lib.hid (below_trans HB.out hb); clear hb)
    go_roundw
    case rel => exact ⟨2, by omega, by go_num, Lib.hid (fun _ => hes), Lib.hid (by simp), B2⟩
    case measure => simp [intOf]
   ·have hne : (et != 0) = true := by simpa using he
    have hV2 : Hid (V = (et, st)) := Lib.hid (by rw [← HVV.out, if_neg (fun h => h hes), if_pos he])
    go_wp2_with (go_at_call 94; refine (HPT.out _ HB.out).mono ?_; rintro e w2 ⟨rfl, hb⟩; have B2 := Lib.hid (below_trans HB.out hb); clear hb)
    go_ret
    rw [hV2.out]
    exact pdone_same HR.out B2.out
  obtain rfl : i = 2 := by omega
  have hes := HES.out (by omega)
  have het := HET.out (by omega)
  have HDE2 := Lib.hid (HDE.out hes het)
  have HV3 := HVV.out
  rw [if_neg (fun h => h hes), if_neg (fun h => h het)] at HV3
  have HV3 := Lib.hid HV3
  clear HVV HDE HI0 HI1 HES HET hes het
  go_upto_region 11 with (first
   | (go_at_call 95; refine (HLS.out _ HB.out).mono ?_; rintro e w2 ⟨rfl, hb⟩; have B2 := Lib.hid (below_trans HB.out hb); clear hb)
   | (refine store_plc rfl (.tmp 12) (.tmp 38) rfl rfl w2.heap.size pa plc0 rfl rfl (atP_lit w2) ?_; intro w3 hA hB; have hb := (below_alloc (Below.refl _ w2) _).trans hB; have B3 := Lib.hid (below_trans B2.out hb); have A3 := Lib.hid hA; clear hA hB hb))
  by_cases hea : ea = 0
  case neg =>
   have hne : (ea != 0) = true := by simpa using hea
   have hV2 : Hid (V = (ea, st)) := Lib.hid (by rw [← HV3.out, if_pos hea])
   go_wp2_with fail
   go_ret
   rw [hV2.out]
   exact pdone_same HR.out B3.out
  subst hea
  have HV4 := HV3.out
  rw [if_neg (by simp)] at HV4
  have HV4 := Lib.hid HV4
  clear HV3
  have hca := A3.out.cell2
  cases hai : sa.is with
  | false =>
   rw [HAf.out.1, hai] at hca
   have hV2 : Hid (V = (4, st)) := Lib.hid (by rw [← HV4.out, if_pos hai])
   go_wp2_with fail
   go_ret
   rw [hV2.out]
   exact pdone_same HR.out B3.out
  | true =>
  rw [HAf.out.1, hai] at hca
  have HV5 := HV4.out
  rw [if_neg (by rw [hai]; decide)] at HV5
  have HV5 := Lib.hid HV5
  clear HV4
  go_upto_region 16 with (first
   | (go_at_call 95; refine (HLT.out _ B3.out).mono ?_; rintro e w4 ⟨rfl, hb⟩; have B4 := Lib.hid (below_trans B3.out hb); have A4 := Lib.hid (A3.out.later hb); clear hb)
   | (refine store_plc rfl (.tmp 14) (.tmp 50) rfl rfl w4.heap.size pb plc0 rfl rfl (atP_lit w4) ?_; intro w5 hA hB; have hb := (below_alloc (Below.refl _ w4) _).trans hB; have B5 := Lib.hid (below_trans B4.out hb); have A5 := Lib.hid (A4.out.later hb); have Q5 := Lib.hid hA; clear hA hB hb))
  clear hca
  by_cases heb : eb = 0
  case neg =>
   have hne : (eb != 0) = true := by simpa using heb
   have hV2 : Hid (V = (eb, st)) := Lib.hid (by rw [← HV5.out, if_pos heb])
   go_wp2_with fail
   go_ret
   rw [hV2.out]
   exact pdone_same HR.out B5.out
  subst heb
  have HV6 := HV5.out
  rw [if_neg (by simp)] at HV6
  have HV6 := Lib.hid HV6
  clear HV5
  have ca3 := A5.out.cell3
  have cb3 := Q5.out.cell3
  have cb2 := Q5.out.cell2
  rw [HAf.out.2] at ca3
  rw [HBf.out.2] at cb3
  rw [HBf.out.1] at cb2
  by_cases hsame : sb.is = true ∧ sb.k = sa.k
  ·have hV2 : Hid (V = (0, st)) := Lib.hid (by rw [← HV6.out, if_pos (Or.inr hsame)])
   obtain ⟨hs1, hs2⟩ := hsame
   rw [hs1] at cb2
   have hkk : (sb.k == sa.k) = true := by rw [hs2]; simp
   clear hs2
   go_wp2_with fail
   go_ret
   rw [hV2.out]
   exact pdone_same HR.out B5.out
  have hnst : s ≠ t := fun e => hsame (by
   have := HST.out e
   have h2 : sa = sb := congrArg Prod.fst this
   rw [← h2]
   exact ⟨hai, rfl⟩)
  have HV7 := HV6.out
  rw [if_neg (fun hh => hh.elim hnst hsame), HDE2.out hnst] at HV7
  have HV7 := Lib.hid HV7
  have HRX := Lib.hid (HRM.out hai)
  have HTX := Lib.hid (HTG.out hai)
  clear HV6 HDE2 HRM HTG HST
  obtain ⟨kd, hkd⟩ : ∃ kd, (inoAt (nowL st) (entAt (nowL st) sa.k).target).kind = kd := ⟨_, rfl⟩
  rw [HTX.out, hkd] at HFO
  have ca4 := A5.out.cell4
  rw [HTX.out] at ca4
  rw [hkd] at HV7
  have HMX : Hid (∀ w1, Below w.heap.size w w1 → Calls Tryz.prog 98 #[.pointer (some ⟨g, 0, none⟩), aggP pa, aggP pb] w1 (PDone G g d w (moveV st (nowL st) pa pb))) := Lib.hid HMV.out
  have HRY := HRX.out
  rw [hkd] at HRY
  have HRY := Lib.hid HRY
  generalize (entAt (nowL st) sa.k).target = tg at *
  clear HTX HMV HRX hkd hnst
  have hb3 : sb.is = false ∨ (sb.is = true ∧ (sb.k == sa.k) = false) := by
   cases hx : sb.is with
   | false => exact Or.inl rfl
   | true => exact Or.inr ⟨rfl, beq_eq_false_iff_ne.2 fun e => hsame ⟨hx, e⟩⟩
  clear hsame
  by_cases hk2 : kd = 2
  ·have HF2 : Hid (∀ w', Below w.heap.size w w' → Calls Tryz.prog 96 #[.pointer (some ⟨g, 0, none⟩), .int .i64 tg] w' fun e w'' => e = .returned (.bool true) ∧ Below w'.heap.size w' w'') := Lib.hid fun w' hb => by
    have h := HFO.out w' hb
    rw [decide_eq_true hk2] at h
    exact h
   clear HFO
   by_cases hdp : ns < nt
   ·have hV2 : Hid (V = (1, st)) := Lib.hid (by rw [← HV7.out, if_pos ⟨decide_eq_true hk2, decide_eq_true hdp⟩])
    have hdpi : (ns : Int) < nt := by omega
    clear HV7 HRY HMX
    rcases hb3 with hb3 | ⟨hb3, hb4⟩
    ·rw [hb3] at cb2
     clear hb3
     go_wp2_with (first
      | (go_at_call 96; refine (HF2.out _ B5.out).mono ?_; rintro e w6 ⟨rfl, hb⟩; have B6 := Lib.hid (below_trans B5.out hb); clear hb)
      | (go_at_call 97; with_reducible refine (HDT.out _ B6.out).mono ?_; rintro e w7 ⟨rfl, hb⟩; have B7 := Lib.hid (below_trans B6.out hb); clear hb)
      | (go_at_call 97; with_reducible refine (HDS.out _ B7.out).mono ?_; rintro e w8 ⟨rfl, hb⟩; have B8 := Lib.hid (below_trans B7.out hb); clear hb))
     go_ret
     rw [hV2.out]
     exact pdone_same HR.out B8.out
    ·rw [hb3] at cb2
     clear hb3
     go_wp2_with (first
      | (go_at_call 96; refine (HF2.out _ B5.out).mono ?_; rintro e w6 ⟨rfl, hb⟩; have B6 := Lib.hid (below_trans B5.out hb); clear hb)
      | (go_at_call 97; with_reducible refine (HDT.out _ B6.out).mono ?_; rintro e w7 ⟨rfl, hb⟩; have B7 := Lib.hid (below_trans B6.out hb); clear hb)
      | (go_at_call 97; with_reducible refine (HDS.out _ B7.out).mono ?_; rintro e w8 ⟨rfl, hb⟩; have B8 := Lib.hid (below_trans B7.out hb); clear hb))
     go_ret
     rw [hV2.out]
     exact pdone_same HR.out B8.out
   ·have hV2 : Hid (moveV st (nowL st) pa pb = V) := Lib.hid (by
     have h8 := HV7.out
     rw [if_neg (fun hh => hdp (of_decide_eq_true hh.2))] at h8
     exact HRY.out.symm.trans h8)
    rw [hV2.out] at HMX
    have hdpi : ¬ (ns : Int) < nt := by omega
    clear HV7 HRY
    rcases hb3 with hb3 | ⟨hb3, hb4⟩
    ·rw [hb3] at cb2
     clear hb3
     go_wp2_with (first
      | (go_at_call 96; refine (HF2.out _ B5.out).mono ?_; rintro e w6 ⟨rfl, hb⟩; have B6 := Lib.hid (below_trans B5.out hb); have A6 := Lib.hid (A5.out.later hb); have Q6 := Lib.hid (Q5.out.later hb); clear hb)
      | (go_at_call 97; with_reducible refine (HDT.out _ B6.out).mono ?_; rintro e w7 ⟨rfl, hb⟩; have B7 := Lib.hid (below_trans B6.out hb); have A7 := Lib.hid (A6.out.later hb); have Q7 := Lib.hid (Q6.out.later hb); clear hb)
      | (go_at_call 97; with_reducible refine (HDS.out _ B7.out).mono ?_; rintro e w8 ⟨rfl, hb⟩; have B8 := Lib.hid (below_trans B7.out hb); have A8 := Lib.hid (A7.out.later hb); have Q8 := Lib.hid (Q7.out.later hb); clear hb)
      | (refine load_plc rfl (.tmp 12) rfl w2.heap.size rfl pa A8.out ?_) | (refine load_plc rfl (.tmp 14) rfl w4.heap.size rfl pb Q8.out ?_)
      | (go_at_call 98; refine (HMX.out _ B8.out).mono ?_; rintro e w9 hd; have DD := Lib.hid hd; obtain ⟨rfl, _⟩ := hd))
     go_ret
     exact DD.out
    ·rw [hb3] at cb2
     clear hb3
     go_wp2_with (first
      | (go_at_call 96; refine (HF2.out _ B5.out).mono ?_; rintro e w6 ⟨rfl, hb⟩; have B6 := Lib.hid (below_trans B5.out hb); have A6 := Lib.hid (A5.out.later hb); have Q6 := Lib.hid (Q5.out.later hb); clear hb)
      | (go_at_call 97; with_reducible refine (HDT.out _ B6.out).mono ?_; rintro e w7 ⟨rfl, hb⟩; have B7 := Lib.hid (below_trans B6.out hb); have A7 := Lib.hid (A6.out.later hb); have Q7 := Lib.hid (Q6.out.later hb); clear hb)
      | (go_at_call 97; with_reducible refine (HDS.out _ B7.out).mono ?_; rintro e w8 ⟨rfl, hb⟩; have B8 := Lib.hid (below_trans B7.out hb); have A8 := Lib.hid (A7.out.later hb); have Q8 := Lib.hid (Q7.out.later hb); clear hb)
      | (refine load_plc rfl (.tmp 12) rfl w2.heap.size rfl pa A8.out ?_) | (refine load_plc rfl (.tmp 14) rfl w4.heap.size rfl pb Q8.out ?_)
      | (go_at_call 98; refine (HMX.out _ B8.out).mono ?_; rintro e w9 hd; have DD := Lib.hid hd; obtain ⟨rfl, _⟩ := hd))
     go_ret
     exact DD.out
  ·have HF2 : Hid (∀ w', Below w.heap.size w w' → Calls Tryz.prog 96 #[.pointer (some ⟨g, 0, none⟩), .int .i64 tg] w' fun e w'' => e = .returned (.bool false) ∧ Below w'.heap.size w' w'') := Lib.hid fun w' hb => by
    have h := HFO.out w' hb
    rw [decide_eq_false hk2] at h
    exact h
   have hV2 : Hid (moveV st (nowL st) pa pb = V) := Lib.hid (by
    have h8 := HV7.out
    rw [if_neg (fun hh => hk2 (of_decide_eq_true hh.1))] at h8
    exact HRY.out.symm.trans h8)
   rw [hV2.out] at HMX
   clear HFO HV7 HRY
   rcases hb3 with hb3 | ⟨hb3, hb4⟩
   ·rw [hb3] at cb2
    clear hb3
    go_wp2_with (first
     | (go_at_call 96; refine (HF2.out _ B5.out).mono ?_; rintro e w6 ⟨rfl, hb⟩; have B6 := Lib.hid (below_trans B5.out hb); have A6 := Lib.hid (A5.out.later hb); have Q6 := Lib.hid (Q5.out.later hb); clear hb)
     | (refine load_plc rfl (.tmp 12) rfl w2.heap.size rfl pa A6.out ?_) | (refine load_plc rfl (.tmp 14) rfl w4.heap.size rfl pb Q6.out ?_)
     | (go_at_call 98; refine (HMX.out _ B6.out).mono ?_; rintro e w9 hd; have DD := Lib.hid hd; obtain ⟨rfl, _⟩ := hd))
    go_ret
    exact DD.out
   ·rw [hb3] at cb2
    clear hb3
    go_wp2_with (first
     | (go_at_call 96; refine (HF2.out _ B5.out).mono ?_; rintro e w6 ⟨rfl, hb⟩; have B6 := Lib.hid (below_trans B5.out hb); have A6 := Lib.hid (A5.out.later hb); have Q6 := Lib.hid (Q5.out.later hb); clear hb)
     | (refine load_plc rfl (.tmp 12) rfl w2.heap.size rfl pa A6.out ?_) | (refine load_plc rfl (.tmp 14) rfl w4.heap.size rfl pb Q6.out ?_)
     | (go_at_call 98; refine (HMX.out _ B6.out).mono ?_; rintro e w9 hd; have DD := Lib.hid hd; obtain ⟨rfl, _⟩ := hd))
    go_ret
    exact DD.out
end fs
end Go.Proofs.YtpahnfnfoldbhaaGreatDoor
