/- synced: what was synced is safe, or a later one of its sector is. -/
import Derived.Test.YteobhljkjgocdaaDskPlays
import Derived.Test.YteobhljkjgocdaaDcSettle
namespace Go.Proofs.Yteobhljkjgocdaa.dsk
open Go.ChangeShapes Go.WideShapes Go.ChangeAt Go.RowKit
open Go.Proofs.Yteobhljkjgocdaa.rows
open Go.Proofs.Yteobhljkjgocdaa.sec
set_option linter.unusedVariables false
set_option linter.unusedSimpArgs false

/-- a sector that some write was settled into holds the last such write -/
theorem out_last (mk : Wr → Bool) (safe : List (List Int)) : ∀ (ws : List Wr), (∀ x ∈ ws, 0 ≤ x.pos ∧ x.pos < (safe.length : Int)) → ∀ (i : Nat) (hi : i < ws.length), mk ws[i] = true → ∃ k, ∃ hk : k < ws.length, i ≤ k ∧ ws[k].pos = ws[i].pos ∧ (outOf mk ws safe)[ws[i].pos.toNat]? = some ws[k].s := by
  suffices key : ∀ (n : Nat) (ws : List Wr), ws.length = n → (∀ x ∈ ws, 0 ≤ x.pos ∧ x.pos < (safe.length : Int)) → ∀ (i : Nat) (hi : i < ws.length), mk ws[i] = true → ∃ k, ∃ hk : k < ws.length, i ≤ k ∧ ws[k].pos = ws[i].pos ∧ (outOf mk ws safe)[ws[i].pos.toNat]? = some ws[k].s from fun ws => key _ ws rfl
  intro n
  induction n with
  | zero => intro ws hn _ i hi; omega
  | succ n ih =>
    intro ws hn
    obtain ⟨l, x, rfl⟩ : ∃ l x, ws = l ++ [x] := ⟨ws.dropLast, ws.getLast (by intro e; subst e; cases hn), (List.dropLast_concat_getLast _).symm⟩
    have hl : l.length = n := by simpa using hn
    intro hpos i hi hm
    have hx := hpos x (by simp)
    have hpl : ∀ y ∈ l, 0 ≤ y.pos ∧ y.pos < (safe.length : Int) := fun y hy => hpos y (List.mem_append_left _ hy)
    have eo : outOf mk (l ++ [x]) safe = outStep mk (outOf mk l safe) x := by unfold outOf; rw [List.foldl_append]; rfl
    have hol : (outOf mk l safe).length = safe.length := outOf_len _ _ _
    have glast : ∀ h : n < (l ++ [x]).length, (l ++ [x])[n] = x := by intro h; subst hl; simp
    rw [eo]
    by_cases hin : i = n
    · subst hin
      have e := glast (by simp; omega)
      refine ⟨i, hi, Nat.le_refl _, rfl, ?_⟩
      rw [e] at hm ⊢
      rw [outStep, if_pos hm, List.getElem?_set]
      simp; omega
    · have hil : i < l.length := by omega
      have eg : (l ++ [x])[i] = l[i] := List.getElem_append_left hil
      rw [eg] at hm ⊢
      obtain ⟨k, hk, h1, h2, h3⟩ := ih l hl hpl i hil hm
      have hi0 := hpl _ (List.getElem_mem hil)
      by_cases hs : mk x = true ∧ x.pos = l[i].pos
      · have e := glast (by simp; omega)
        refine ⟨n, by omega, by omega, by rw [e]; exact hs.2, ?_⟩
        rw [e, outStep, if_pos hs.1, hs.2, List.getElem?_set]
        simp; omega
      · have hkl : k < l.length := by omega
        have ek : (l ++ [x])[k] = l[k] := List.getElem_append_left hkl
        refine ⟨k, by omega, h1, by rw [ek]; exact h2, ?_⟩
        rw [ek, outStep]
        split
        · rename_i hmx
          have hne : x.pos ≠ l[i].pos := fun e => hs ⟨hmx, e⟩
          rw [List.getElem?_set, if_neg (by omega)]
          exact h3
        · exact h3
/-- one write that had one of the tags -/
def SyncOk (ws : List Wr) (ts : List (Int × Int)) (safe : List (List Int)) : Prop := ∀ i (hi : i < ws.length), hasT ts ws[i] = true → ∃ k, ∃ hk : k < ws.length, i ≤ k ∧ ws[k].pos = ws[i].pos ∧ safe[ws[i].pos.toNat]? = some ws[k].s
theorem syncOk (safe : List (List Int)) (ws : List Wr) (ts : List (Int × Int)) (hpos : ∀ x ∈ ws, 0 ≤ x.pos ∧ x.pos < (safe.length : Int)) : SyncOk ws ts (settle safe ws ts).1 := fun i hi ht => by
  refine out_last (madeB ts (topOf ts ws)) safe ws hpos i hi ?_
  unfold madeB
  rw [ht]; rfl
theorem info_tag2 : (Try.prog.info? 37).map (·.size) = some 2 := by kernel_rfl
theorem ld_tagC {ops : Array Oper} {S : World → Prop} {op : Oper} {a : Act} (hw : Region.wanted op (yielded ops a.tmps) = true) (x : Operand) (ho : op.op = .load 37 x)
    (b o : Nat) (hx : a.eval x = .pointer (some ⟨b, o, none⟩)) (y : Int × Int) (hS : ∀ w, S w → w.rangeAt b o (tagC y)) : YieldsIf Try.prog ops S op (.agg (tagC y).toArray) a :=
  yieldsIf_load_mid hw _ x ho b o hx (tagC y) _ hS und_tag rfl (by rw [info_tag2]; rfl)
theorem eql_ints {ops : Array Oper} {S : World → Prop} {op : Oper} {a : Act} (hw : Region.wanted op (yielded ops a.tmps) = true) (x y : Operand) (r : TypeId) (ho : op.op = .binOp .eql 3 x y r) (p q : Int) (hx : a.eval x = .int .i64 p) (hy : a.eval y = .int .i64 q) (b : Bool) (h : decide (p = q) = b) : YieldsIf Try.prog ops S op (.bool b) a :=
  .inl ⟨hw, fun w _ => by
    have hu := und_int
    subst h
    unfold execOp
    simp only [ho, hx, hy]
    go_simp
    rw [Bool.eq_iff_iff, beq_iff_eq, decide_eq_true_iff]⟩
set_option maxRecDepth 100000 in
set_option maxHeartbeats 3200000 in
theorem synced_true {CA : World → (Nat → Prop) → Value → St → Prop} (T : DiskTells CA) (w : World) (F : Nat → Prop) (d : Value) (st : St) (hc : CA w F d st) (hf : st.fine) (pw : Option Addr) (m cw : Nat) (ws : List Wr) (hw : Rd w 36 (.slice pw m cw) m (wrsC ws)) (hs : ∀ x ∈ ws, Sec x.s) (hpos : ∀ x ∈ ws, 0 ≤ x.pos ∧ x.pos < (st.safe.length : Int))
    (pt : Option Addr) (q ct : Nat) (ts : List (Int × Int)) (ht : Rd w 2 (.slice pt q ct) q (tagsC ts)) (hm : m ≤ 900) (hq : q ≤ 50) (hok : SyncOk ws ts st.safe) :
    Calls Try.prog 25 #[d, .slice pw m cw, .slice pt q ct] w fun e w' => e = .returned (.bool true) ∧ Below w.heap.size w w' := by
  have HSF := Lib.hid (T.safe w F d st hc hf)
  have HWC := Lib.hid fun x hx => Wr.c_len (hs x hx)
  have HML := Lib.hid (Rd.count Wr.c hw (fun x hx => Wr.c_len (hs x hx)) (by decide))
  have HQL := Lib.hid (Rd.count tagC ht (fun x _ => rfl) (by decide))
  have HW := Lib.hid hw
  have HT := Lib.hid ht
  have HS := Lib.hid hs
  have HP := Lib.hid hpos
  have HOK := Lib.hid hok
  have HSS := Lib.hid hf.few.ss
  have hn := hf.n1
  have hm1 : (m : Int) ≤ 900 := by omega
  have hq1 : (q : Int) ≤ 50 := by omega
  obtain ⟨n, hnn⟩ : ∃ n, st.safe.length = n := ⟨_, rfl⟩
  rw [hnn] at HSF hn HP
  have HN := Lib.hid hnn
  have hn1 : (n : Int) ≤ 65 := by omega
  have HGT := guard_tag
  have HGS := guard_sec
  clear hc hf hw hs hpos ht hok hnn
  go_enter Try.func25, Try.ntmps25
  go_wp2_with (go_at_call 17; refine HSF.out.mono ?_; rintro e w1 ⟨p1, c1, rfl, hr1, hb1⟩; have HR1 := Lib.hid hr1; have HB1 := Lib.hid hb1; clear hr1 hb1)
  go_loopw [8] (fun iv wr => ∃ (i : Nat), i ≤ m ∧ iv = .int .i64 (i : Int) ∧ Hid (Below w1.heap.size w1 wr)) (fun iv _ => m - (intOf iv).toNat)
  case atStart => exact ⟨0, by omega, rfl, Lib.hid (Below.refl _ _)⟩
  case round =>
    obtain ⟨i, hi, rfl, HB⟩ := hrel
    by_cases ha : i < m
    · have ha1 : (i:Int) < m := by omega
      have hil : i < ws.length := by rw [HML.out]; exact ha
      have HBA := Lib.hid (below_trans HB1.out HB.out)
      obtain ⟨wi, hwi⟩ : ∃ x, x = wr := ⟨_, rfl⟩
      subst hwi
      go_wp2_with fail
      go_loopw [9, 11] (fun ov jv wr => ∃ (j : Nat) (ob : Bool), j ≤ q ∧ jv = .int .i64 (j : Int) ∧ ov = .bool ob ∧ Hid (decide ((ws[i].kind, ws[i].id) ∈ ts.take j) = ob) ∧ Hid (Below wi.heap.size wi wr)) (fun _ jv _ => q - (intOf jv).toNat)
      case atStart => exact ⟨0, false, by omega, rfl, rfl, Lib.hid (by simp), Lib.hid (Below.refl _ _)⟩
      case round =>
        obtain ⟨j, ob, hj, rfl, rfl, HO, HBJ⟩ := hrel
        by_cases hb : j < q
        · have hb1 : (j:Int) < q := by omega
          have hjl : j < ts.length := by rw [HQL.out]; exact hb
          cases ob with
          | true =>
            go_wp2_with fail
            go_region
            go_wp2_with fail
            refine ⟨⟨j + 1, true, by omega, by go_num, rfl, Lib.hid (decide_eq_true ?_), Lib.hid HBJ.out.drew⟩, by simp [intOf]; omega⟩
            exact (tmem_take_succ hjl _).2 (Or.inl (of_decide_eq_true HO.out))
          | false =>
            obtain ⟨b1, o1, rfl, hc1, hm1', hh1, _, HR3⟩ := Rd.chunk tagC (HT.out.later (below_trans HBA.out HBJ.out)) (fun x _ => rfl) (by decide) hb
            have hr3 := HR3 j hjl
            obtain ⟨b2, o2, rfl, hc2, hm2', hh2, _, HR2⟩ := Rd.chunk Wr.c (HW.out.later (below_trans HBA.out HBJ.out)) HWC.out (by decide) ha
            obtain ⟨_, _, h33, h34, _⟩ := wr_parts (HS.out _ (List.getElem_mem hil)) (HR2 i hil)
            have HMS := Lib.hid (tmem_take_succ hjl (ws[i].kind, ws[i].id))
            have HON := Lib.hid (of_decide_eq_false HO.out)
            clear HR3 HR2 HO
            obtain ⟨k, hk⟩ : ∃ k, ws[i].kind = k := ⟨_, rfl⟩
            obtain ⟨id, hid⟩ : ∃ k, ws[i].id = k := ⟨_, rfl⟩
            rw [hk] at h33
            rw [hid] at h34
            rw [hk, hid] at HMS HON
            have HK := Lib.hid (show (ws[i].kind, ws[i].id) = (k, id) by rw [hk, hid])
            clear hk hid
            have HTJ := Lib.hid (show ts[j] = (ts[j].1, ts[j].2) from rfl)
            obtain ⟨x1, hx1⟩ : ∃ x, ts[j].1 = x := ⟨_, rfl⟩
            obtain ⟨x2, hx2⟩ : ∃ x, ts[j].2 = x := ⟨_, rfl⟩
            have HR3 : Hid (wr.rangeAt b1 (o1 + j * 2) (tagC (x1, x2))) := Lib.hid (by rw [← hx1, ← hx2]; exact hr3)
            rw [hx1, hx2] at HTJ
            have H33 := Lib.hid h33
            have H34 := Lib.hid h34
            have HR34 : Hid (wr.rangeAt b2 (o2 + i * 36 + 33) (tagC (k, id))) := Lib.hid (by
              intro u v hv
              match u, hv with
              | 0, hv => cases hv; exact H33.out
              | 1, hv => cases hv; exact H34.out
              | u + 2, hv => simp [tagC] at hv)
            clear hr3 h33 h34 hx1 hx2
            obtain ⟨qb, hqb⟩ : ∃ qb, (x1 == k && x2 == id) = qb := ⟨_, rfl⟩
            have HEQ : Hid (∀ w, (Op.equalIn 10000 37 (.agg (tagC (x1, x2)).toArray) (.agg (tagC (k, id)).toArray)).run Try.prog w = .ok qb w) := Lib.hid fun w => by rw [← hqb]; exact eqIn_tag w x1 x2 k id
            have HQB := Lib.hid hqb
            clear hqb
            have hHH1 : b1 < wr.heap.size := hh1
            have HNN : Hid (decide ((ws[i].kind, ws[i].id) ∈ ts.take (j + 1)) = qb) := Lib.hid (by
              rw [HK.out, ← HQB.out, Bool.eq_iff_iff, decide_eq_true_iff, HMS.out, Bool.and_eq_true, beq_iff_eq, beq_iff_eq, HTJ.out, Prod.mk.injEq]
              exact ⟨fun h => by rcases h with h | h; exact absurd h HON.out; exact ⟨h.1.symm, h.2.symm⟩, fun h => Or.inr ⟨h.1.symm, h.2.symm⟩⟩)
            clear HMS HON HK HQB HTJ
            go_wp2_with fail
            have h0 := Below.refl wr.drew.heap.size wr.drew
            refine wp_region_held_drew (S := ext wr.drew) (by kernel_rfl) (Below.refl _ _) (fun hH0 => ?_)
            refine wpAnyH_take (i := 0) (oi := { dst := some 27, op := Op.move (Operand.tmp 9), type := 4, pos := "law.go:128", after := #[], guard := none }) (v := ?_) rfl (by kernel_rfl) (by kernel_rfl) (by kernel_rfl) (fun _ _ _ h => h) (Or.inl ⟨by rfl, ?_⟩) (by assumption) ?_
            rotate_left
            · (intro w' hSw; go_simp; try with_reducible rfl)
            try simp only [Act.put, List.setIfInBounds_toArray, List.set_cons_zero, List.set_cons_succ]
            refine wpAnyH_take (i := 1) (oi := { dst := some 28, op := Op.move (Operand.tmp 27), type := 4, pos := "law.go:128", after := #[{ on := 0, ground := Ground.data }], guard := none }) (v := ?_) rfl (by kernel_rfl) (by kernel_rfl) (by kernel_rfl) (fun _ _ _ h => h) (Or.inl ⟨by rfl, ?_⟩) (by assumption) ?_
            rotate_left
            · (intro w' hSw; go_simp; try with_reducible rfl)
            try simp only [Act.put, List.setIfInBounds_toArray, List.set_cons_zero, List.set_cons_succ]
            refine wpAnyH_take (i := 2) (oi := { dst := some 29, op := Op.move (Operand.tmp 2), type := 38, pos := "law.go:128", after := #[{ on := 1, ground := Ground.guard }], guard := some (1, false) }) (v := ?_) rfl (by kernel_rfl) (by kernel_rfl) (by kernel_rfl) (fun _ _ _ h => h) (Or.inl ⟨by rfl, ?_⟩) (by assumption) ?_
            rotate_left
            · (intro w' hSw; go_simp; try with_reducible rfl)
            try simp only [Act.put, List.setIfInBounds_toArray, List.set_cons_zero, List.set_cons_succ]
            refine wpAnyH_take (i := 3) (oi := { dst := some 30, op := Op.move (Operand.tmp 11), type := 3, pos := "law.go:128", after := #[{ on := 1, ground := Ground.guard }], guard := some (1, false) }) (v := ?_) rfl (by kernel_rfl) (by kernel_rfl) (by kernel_rfl) (fun _ _ _ h => h) (Or.inl ⟨by rfl, ?_⟩) (by assumption) ?_
            rotate_left
            · (intro w' hSw; go_simp; try with_reducible rfl)
            try simp only [Act.put, List.setIfInBounds_toArray, List.set_cons_zero, List.set_cons_succ]
            refine wpAnyH_take (i := 4) (oi := { dst := some 31, op := Op.indexAddr 38 (Operand.tmp 29) (Operand.tmp 30), type := 0, pos := "law.go:128", after := #[{ on := 2, ground := Ground.data }, { on := 3, ground := Ground.data }, { on := 1, ground := Ground.guard }], guard := some (1, false) }) (v := ?_) rfl (by kernel_rfl) (by kernel_rfl) (by kernel_rfl) (fun _ _ _ h => h) (Or.inl ⟨by rfl, ?_⟩) (by assumption) ?_
            rotate_left
            · (intro w' hSw; go_simp; try with_reducible rfl)
            try simp only [Act.put, List.setIfInBounds_toArray, List.set_cons_zero, List.set_cons_succ]
            refine' wpAnyH_take (i := 5) (oi := { dst := some 32, op := Op.load 37 (Operand.tmp 31), type := 37, pos := "law.go:128", after := #[{ on := 4, ground := Ground.data }, { on := 1, ground := Ground.guard }], guard := some (1, false) }) (v := _) rfl (by kernel_rfl) (by kernel_rfl) (by kernel_rfl) (fun _ _ _ h => h) (ld_tagC (by rfl) _ rfl b1 (o1 + j * 2) rfl (x1, x2) (fun w' hw => Rd.rangeLater HR3.out hh1 (below_drew hw))) (by assumption) ?_
            try simp only [Act.put, List.setIfInBounds_toArray, List.set_cons_zero, List.set_cons_succ]
            refine wpAnyH_take (i := 6) (oi := { dst := some 33, op := Op.move (Operand.tmp 1), type := 50, pos := "law.go:128", after := #[{ on := 1, ground := Ground.guard }], guard := some (1, false) }) (v := ?_) rfl (by kernel_rfl) (by kernel_rfl) (by kernel_rfl) (fun _ _ _ h => h) (Or.inl ⟨by rfl, ?_⟩) (by assumption) ?_
            rotate_left
            · (intro w' hSw; go_simp; try with_reducible rfl)
            try simp only [Act.put, List.setIfInBounds_toArray, List.set_cons_zero, List.set_cons_succ]
            refine wpAnyH_take (i := 7) (oi := { dst := some 34, op := Op.move (Operand.tmp 8), type := 3, pos := "law.go:128", after := #[{ on := 1, ground := Ground.guard }], guard := some (1, false) }) (v := ?_) rfl (by kernel_rfl) (by kernel_rfl) (by kernel_rfl) (fun _ _ _ h => h) (Or.inl ⟨by rfl, ?_⟩) (by assumption) ?_
            rotate_left
            · (intro w' hSw; go_simp; try with_reducible rfl)
            try simp only [Act.put, List.setIfInBounds_toArray, List.set_cons_zero, List.set_cons_succ]
            refine wpAnyH_take (i := 8) (oi := { dst := some 35, op := Op.indexAddr 50 (Operand.tmp 33) (Operand.tmp 34), type := 0, pos := "law.go:128", after := #[{ on := 6, ground := Ground.data }, { on := 7, ground := Ground.data }, { on := 1, ground := Ground.guard }], guard := some (1, false) }) (v := ?_) rfl (by kernel_rfl) (by kernel_rfl) (by kernel_rfl) (fun _ _ _ h => h) (Or.inl ⟨by rfl, ?_⟩) (by assumption) ?_
            rotate_left
            · (intro w' hSw; go_simp; try with_reducible rfl)
            try simp only [Act.put, List.setIfInBounds_toArray, List.set_cons_zero, List.set_cons_succ]
            refine wpAnyH_take (i := 9) (oi := { dst := some 36, op := Op.fieldAddr 74 (Operand.tmp 35) 2, type := 0, pos := "law.go:128", after := #[{ on := 8, ground := Ground.data }, { on := 1, ground := Ground.guard }], guard := some (1, false) }) (v := ?_) rfl (by kernel_rfl) (by kernel_rfl) (by kernel_rfl) (fun _ _ _ h => h) (Or.inl ⟨by rfl, ?_⟩) (by assumption) ?_
            rotate_left
            · (intro w' hSw; go_simp; try with_reducible rfl)
            try simp only [Act.put, List.setIfInBounds_toArray, List.set_cons_zero, List.set_cons_succ]
            refine' wpAnyH_take (i := 10) (oi := { dst := some 37, op := Op.load 37 (Operand.tmp 36), type := 37, pos := "law.go:128", after := #[{ on := 9, ground := Ground.data }, { on := 1, ground := Ground.guard }], guard := some (1, false) }) (v := _) rfl (by kernel_rfl) (by kernel_rfl) (by kernel_rfl) (fun _ _ _ h => h) (ld_tagC (by rfl) _ rfl b2 (o2 + i * 36 + 33) rfl (k, id) (fun w' hw => Rd.rangeLater HR34.out hh2 (below_drew hw))) (by assumption) ?_
            try simp only [Act.put, List.setIfInBounds_toArray, List.set_cons_zero, List.set_cons_succ]
            refine' wpAnyH_take (i := 11) (oi := { dst := some 38, op := Op.binOp BinOp.eql 37 (Operand.tmp 32) (Operand.tmp 37) 37, type := 4, pos := "law.go:128", after := #[{ on := 5, ground := Ground.data }, { on := 10, ground := Ground.data }, { on := 1, ground := Ground.guard }], guard := some (1, false) }) (v := _) rfl (by kernel_rfl) (by kernel_rfl) (by kernel_rfl) (fun _ _ _ h => h) (eql_yields (by rfl) 37 _ _ _ rfl (tagC (x1, x2)).toArray (tagC (k, id)).toArray (by rfl) (by rfl) HGT qb HEQ.out) (by assumption) ?_
            try simp only [Act.put, List.setIfInBounds_toArray, List.set_cons_zero, List.set_cons_succ]
            refine wpAnyH_take (i := 12) (oi := { dst := some 39, op := Op.pick (Operand.tmp 28) (Operand.const (Value.bool true)) (Operand.tmp 38), type := 4, pos := "law.go:128", after := #[{ on := 1, ground := Ground.data }, { on := 11, ground := Ground.data }], guard := none }) (v := ?_) rfl (by kernel_rfl) (by kernel_rfl) (by kernel_rfl) (fun _ _ _ h => h) (Or.inl ⟨by rfl, ?_⟩) (by assumption) ?_
            rotate_left
            · (intro w' hSw; go_simp; try with_reducible rfl)
            try simp only [Act.put, List.setIfInBounds_toArray, List.set_cons_zero, List.set_cons_succ]
            refine wpAnyH_take (i := 13) (oi := { dst := some 9, op := Op.assign (Operand.tmp 39), type := 4, pos := "law.go:128", after := #[{ on := 12, ground := Ground.data }, { on := 1, ground := Ground.chain }, { on := 0, ground := Ground.phase }, { on := 1, ground := Ground.phase }, { on := 2, ground := Ground.phase }, { on := 3, ground := Ground.phase }, { on := 4, ground := Ground.phase }, { on := 5, ground := Ground.phase }, { on := 6, ground := Ground.phase }, { on := 7, ground := Ground.phase }, { on := 8, ground := Ground.phase }, { on := 9, ground := Ground.phase }, { on := 10, ground := Ground.phase }, { on := 11, ground := Ground.phase }, { on := 12, ground := Ground.phase }], guard := none }) (v := ?_) rfl (by kernel_rfl) (by kernel_rfl) (by kernel_rfl) (fun _ _ _ h => h) (Or.inl ⟨by rfl, ?_⟩) (by assumption) ?_
            rotate_left
            · (intro w' hSw; go_simp; try with_reducible rfl)
            try simp only [Act.put, List.setIfInBounds_toArray, List.set_cons_zero, List.set_cons_succ]
            refine wpAnyH_done (by kernel_rfl) ?_ _
            clear hH0
            go_wp2_with fail
            exact ⟨⟨j + 1, qb, by omega, by go_num, rfl, HNN, Lib.hid HBJ.out.drew⟩, by simp [intOf]; omega⟩
        · obtain rfl : j = q := by omega
          have HOF : Hid (hasT ts ws[i] = ob) := Lib.hid (by have h := HO.out; rwa [List.take_of_length_le (by rw [HQL.out]; omega)] at h)
          clear HO
          obtain ⟨wj, hwj⟩ : ∃ x, x = wr := ⟨_, rfl⟩
          subst hwj
          go_wp2_with fail
          have HBK := Lib.hid (below_trans HBA.out HBJ.out)
          have hpx := HP.out _ (List.getElem_mem hil)
          obtain ⟨kp, hkp⟩ : ∃ kp : Nat, ws[i].pos = (kp : Int) := ⟨ws[i].pos.toNat, by omega⟩
          have hkn : kp < n := by omega
          have HKP := Lib.hid hkp
          obtain ⟨b1, o1, rfl, hc1, hm1', hh1, _, HR3⟩ := Rd.chunk u8s (j := kp) (by have := HR1.out; rw [cellsOf_map] at this; exact this) (fun x hx => by rw [u8s_len, (HSS.out x hx).1]) (by decide) hkn
          have hks : kp < st.safe.length := by rw [HN.out]; exact hkn
          have HSK := Lib.hid (HR3 kp hks)
          have HSQ := Lib.hid (HSS.out _ (List.getElem_mem hks))
          have HGK : Hid (st.safe[kp]? = some st.safe[kp]) := Lib.hid (List.getElem?_eq_getElem hks)
          obtain ⟨b2, o2, rfl, hc2, hm2', hh2, _, HR2⟩ := Rd.chunk Wr.c (HW.out.later HBA.out) HWC.out (by decide) ha
          have HRW := Lib.hid HR2
          clear HR3 HR2 hpx hkp
          generalize st.safe[kp] = sk at *
          have hwi : b1 < wi.heap.size := Nat.lt_of_lt_of_le hh1 HB.out.size
          go_loopw [10, 12] (fun ov kv wr => ∃ (k : Nat) (ok : Bool), i ≤ k ∧ k ≤ m ∧ kv = .int .i64 (k : Int) ∧ ov = .bool ok ∧ Hid (∀ k', i ≤ k' → k' < k → ∀ h : k' < ws.length, ws[k'].pos = ws[i].pos → ws[k'].s = sk → ok = true) ∧ Hid (Below wi.heap.size wi wr)) (fun _ kv _ => m - (intOf kv).toNat)
          case atStart => exact ⟨i, false, by omega, by omega, rfl, rfl, Lib.hid (fun k' h1 h2 => by omega), HBJ⟩
          case round =>
            obtain ⟨k, ok, hik, hkm, rfl, rfl, HKO, HBL⟩ := hrel
            by_cases hlm : k < m ∧ ob = true
            · obtain ⟨hk1, rfl⟩ := hlm
              have hk1' : (k:Int) < m := by omega
              have hkl : k < ws.length := by rw [HML.out]; exact hk1
              have HRI := Lib.hid (Rd.rangeLater (HRW.out i hil) hh2 HBL.out)
              have HRK := Lib.hid (Rd.rangeLater (HRW.out k hkl) hh2 HBL.out)
              have HRS := Lib.hid (Rd.rangeLater (Rd.rangeLater HSK.out hh1 HB.out) hwi HBL.out)
              have hSK := HS.out _ (List.getElem_mem hkl)
              obtain ⟨e0, eS, _, _, _⟩ := wr_parts hSK HRK.out
              obtain ⟨f0, _, _, _, _⟩ := wr_parts (HS.out _ (List.getElem_mem hil)) HRI.out
              rw [HKP.out] at f0
              have hwl : b2 < wr.heap.size := Nat.lt_of_lt_of_le hh2 HBL.out.size
              have hsl : b1 < wr.heap.size := Nat.lt_of_lt_of_le hwi HBL.out.size
              have E0 := Lib.hid e0
              have ES := Lib.hid eS
              have F0 := Lib.hid f0
              have HSKC := Lib.hid hSK
              clear e0 eS f0 hSK
              cases ok with
              | true =>
                go_wp2_with fail
                have h0 := Below.refl wr.drew.heap.size wr.drew
                refine wp_region_held_drew (S := ext wr.drew) (by kernel_rfl) (Below.refl _ _) (fun hH0 => ?_)
                refine wpAnyH_take (i := 0) (oi := { dst := some 50, op := Op.move (Operand.tmp 10), type := 4, pos := "law.go:131", after := #[], guard := none }) (v := ?_) rfl (by kernel_rfl) (by kernel_rfl) (by kernel_rfl) (fun _ _ _ h => h) (Or.inl ⟨by rfl, ?_⟩) (by assumption) ?_
                rotate_left
                · (intro w' hSw; go_simp; try with_reducible rfl)
                try simp only [Act.put, List.setIfInBounds_toArray, List.set_cons_zero, List.set_cons_succ]
                refine wpAnyH_take (i := 1) (oi := { dst := some 51, op := Op.move (Operand.tmp 50), type := 4, pos := "law.go:131", after := #[{ on := 0, ground := Ground.data }], guard := none }) (v := ?_) rfl (by kernel_rfl) (by kernel_rfl) (by kernel_rfl) (fun _ _ _ h => h) (Or.inl ⟨by rfl, ?_⟩) (by assumption) ?_
                rotate_left
                · (intro w' hSw; go_simp; try with_reducible rfl)
                try simp only [Act.put, List.setIfInBounds_toArray, List.set_cons_zero, List.set_cons_succ]
                refine wpAnyH_take (i := 2) (oi := { dst := some 52, op := Op.move (Operand.tmp 1), type := 50, pos := "law.go:131", after := #[{ on := 1, ground := Ground.guard }], guard := some (1, false) }) (v := undef) rfl (by kernel_rfl) (by kernel_rfl) (by kernel_rfl) (fun _ _ _ h => h) (Or.inr ⟨by rfl, rfl⟩) (by assumption) ?_
                try simp only [Act.put, List.setIfInBounds_toArray, List.set_cons_zero, List.set_cons_succ]
                refine wpAnyH_take (i := 3) (oi := { dst := some 53, op := Op.move (Operand.tmp 12), type := 3, pos := "law.go:131", after := #[{ on := 1, ground := Ground.guard }], guard := some (1, false) }) (v := undef) rfl (by kernel_rfl) (by kernel_rfl) (by kernel_rfl) (fun _ _ _ h => h) (Or.inr ⟨by rfl, rfl⟩) (by assumption) ?_
                try simp only [Act.put, List.setIfInBounds_toArray, List.set_cons_zero, List.set_cons_succ]
                refine wpAnyH_take (i := 4) (oi := { dst := some 54, op := Op.indexAddr 50 (Operand.tmp 52) (Operand.tmp 53), type := 0, pos := "law.go:131", after := #[{ on := 2, ground := Ground.data }, { on := 3, ground := Ground.data }, { on := 1, ground := Ground.guard }], guard := some (1, false) }) (v := undef) rfl (by kernel_rfl) (by kernel_rfl) (by kernel_rfl) (fun _ _ _ h => h) (Or.inr ⟨by rfl, rfl⟩) (by assumption) ?_
                try simp only [Act.put, List.setIfInBounds_toArray, List.set_cons_zero, List.set_cons_succ]
                refine wpAnyH_take (i := 5) (oi := { dst := some 55, op := Op.fieldAddr 74 (Operand.tmp 54) 0, type := 0, pos := "law.go:131", after := #[{ on := 4, ground := Ground.data }, { on := 1, ground := Ground.guard }], guard := some (1, false) }) (v := undef) rfl (by kernel_rfl) (by kernel_rfl) (by kernel_rfl) (fun _ _ _ h => h) (Or.inr ⟨by rfl, rfl⟩) (by assumption) ?_
                try simp only [Act.put, List.setIfInBounds_toArray, List.set_cons_zero, List.set_cons_succ]
                refine wpAnyH_take (i := 6) (oi := { dst := some 56, op := Op.load 3 (Operand.tmp 55), type := 3, pos := "law.go:131", after := #[{ on := 5, ground := Ground.data }, { on := 1, ground := Ground.guard }], guard := some (1, false) }) (v := undef) rfl (by kernel_rfl) (by kernel_rfl) (by kernel_rfl) (fun _ _ _ h => h) (Or.inr ⟨by rfl, rfl⟩) (by assumption) ?_
                try simp only [Act.put, List.setIfInBounds_toArray, List.set_cons_zero, List.set_cons_succ]
                refine wpAnyH_take (i := 7) (oi := { dst := some 57, op := Op.move (Operand.tmp 1), type := 50, pos := "law.go:131", after := #[{ on := 1, ground := Ground.guard }], guard := some (1, false) }) (v := undef) rfl (by kernel_rfl) (by kernel_rfl) (by kernel_rfl) (fun _ _ _ h => h) (Or.inr ⟨by rfl, rfl⟩) (by assumption) ?_
                try simp only [Act.put, List.setIfInBounds_toArray, List.set_cons_zero, List.set_cons_succ]
                refine wpAnyH_take (i := 8) (oi := { dst := some 58, op := Op.move (Operand.tmp 8), type := 3, pos := "law.go:131", after := #[{ on := 1, ground := Ground.guard }], guard := some (1, false) }) (v := undef) rfl (by kernel_rfl) (by kernel_rfl) (by kernel_rfl) (fun _ _ _ h => h) (Or.inr ⟨by rfl, rfl⟩) (by assumption) ?_
                try simp only [Act.put, List.setIfInBounds_toArray, List.set_cons_zero, List.set_cons_succ]
                refine wpAnyH_take (i := 9) (oi := { dst := some 59, op := Op.indexAddr 50 (Operand.tmp 57) (Operand.tmp 58), type := 0, pos := "law.go:131", after := #[{ on := 7, ground := Ground.data }, { on := 8, ground := Ground.data }, { on := 1, ground := Ground.guard }], guard := some (1, false) }) (v := undef) rfl (by kernel_rfl) (by kernel_rfl) (by kernel_rfl) (fun _ _ _ h => h) (Or.inr ⟨by rfl, rfl⟩) (by assumption) ?_
                try simp only [Act.put, List.setIfInBounds_toArray, List.set_cons_zero, List.set_cons_succ]
                refine wpAnyH_take (i := 10) (oi := { dst := some 60, op := Op.fieldAddr 74 (Operand.tmp 59) 0, type := 0, pos := "law.go:131", after := #[{ on := 9, ground := Ground.data }, { on := 1, ground := Ground.guard }], guard := some (1, false) }) (v := undef) rfl (by kernel_rfl) (by kernel_rfl) (by kernel_rfl) (fun _ _ _ h => h) (Or.inr ⟨by rfl, rfl⟩) (by assumption) ?_
                try simp only [Act.put, List.setIfInBounds_toArray, List.set_cons_zero, List.set_cons_succ]
                refine wpAnyH_take (i := 11) (oi := { dst := some 61, op := Op.load 3 (Operand.tmp 60), type := 3, pos := "law.go:131", after := #[{ on := 10, ground := Ground.data }, { on := 1, ground := Ground.guard }], guard := some (1, false) }) (v := undef) rfl (by kernel_rfl) (by kernel_rfl) (by kernel_rfl) (fun _ _ _ h => h) (Or.inr ⟨by rfl, rfl⟩) (by assumption) ?_
                try simp only [Act.put, List.setIfInBounds_toArray, List.set_cons_zero, List.set_cons_succ]
                refine wpAnyH_take (i := 12) (oi := { dst := some 62, op := Op.binOp BinOp.eql 3 (Operand.tmp 56) (Operand.tmp 61) 3, type := 4, pos := "law.go:131", after := #[{ on := 6, ground := Ground.data }, { on := 11, ground := Ground.data }, { on := 1, ground := Ground.guard }], guard := some (1, false) }) (v := undef) rfl (by kernel_rfl) (by kernel_rfl) (by kernel_rfl) (fun _ _ _ h => h) (Or.inr ⟨by rfl, rfl⟩) (by assumption) ?_
                try simp only [Act.put, List.setIfInBounds_toArray, List.set_cons_zero, List.set_cons_succ]
                refine wpAnyH_take (i := 13) (oi := { dst := some 63, op := Op.move (Operand.tmp 62), type := 4, pos := "law.go:131", after := #[{ on := 12, ground := Ground.data }, { on := 1, ground := Ground.chain }, { on := 1, ground := Ground.guard }], guard := some (1, false) }) (v := undef) rfl (by kernel_rfl) (by kernel_rfl) (by kernel_rfl) (fun _ _ _ h => h) (Or.inr ⟨by rfl, rfl⟩) (by assumption) ?_
                try simp only [Act.put, List.setIfInBounds_toArray, List.set_cons_zero, List.set_cons_succ]
                refine wpAnyH_take (i := 14) (oi := { dst := some 64, op := Op.move (Operand.tmp 7), type := 22, pos := "law.go:131", after := #[{ on := 13, ground := Ground.guard }], guard := some (13, true) }) (v := undef) rfl (by kernel_rfl) (by kernel_rfl) (by kernel_rfl) (fun _ _ _ h => h) (Or.inr ⟨by rfl, rfl⟩) (by assumption) ?_
                try simp only [Act.put, List.setIfInBounds_toArray, List.set_cons_zero, List.set_cons_succ]
                refine wpAnyH_take (i := 15) (oi := { dst := some 65, op := Op.move (Operand.tmp 1), type := 50, pos := "law.go:131", after := #[{ on := 13, ground := Ground.guard }], guard := some (13, true) }) (v := undef) rfl (by kernel_rfl) (by kernel_rfl) (by kernel_rfl) (fun _ _ _ h => h) (Or.inr ⟨by rfl, rfl⟩) (by assumption) ?_
                try simp only [Act.put, List.setIfInBounds_toArray, List.set_cons_zero, List.set_cons_succ]
                refine wpAnyH_take (i := 16) (oi := { dst := some 66, op := Op.move (Operand.tmp 8), type := 3, pos := "law.go:131", after := #[{ on := 13, ground := Ground.guard }], guard := some (13, true) }) (v := undef) rfl (by kernel_rfl) (by kernel_rfl) (by kernel_rfl) (fun _ _ _ h => h) (Or.inr ⟨by rfl, rfl⟩) (by assumption) ?_
                try simp only [Act.put, List.setIfInBounds_toArray, List.set_cons_zero, List.set_cons_succ]
                refine wpAnyH_take (i := 17) (oi := { dst := some 67, op := Op.indexAddr 50 (Operand.tmp 65) (Operand.tmp 66), type := 0, pos := "law.go:131", after := #[{ on := 15, ground := Ground.data }, { on := 16, ground := Ground.data }, { on := 13, ground := Ground.guard }], guard := some (13, true) }) (v := undef) rfl (by kernel_rfl) (by kernel_rfl) (by kernel_rfl) (fun _ _ _ h => h) (Or.inr ⟨by rfl, rfl⟩) (by assumption) ?_
                try simp only [Act.put, List.setIfInBounds_toArray, List.set_cons_zero, List.set_cons_succ]
                refine wpAnyH_take (i := 18) (oi := { dst := some 68, op := Op.fieldAddr 74 (Operand.tmp 67) 0, type := 0, pos := "law.go:131", after := #[{ on := 17, ground := Ground.data }, { on := 13, ground := Ground.guard }], guard := some (13, true) }) (v := undef) rfl (by kernel_rfl) (by kernel_rfl) (by kernel_rfl) (fun _ _ _ h => h) (Or.inr ⟨by rfl, rfl⟩) (by assumption) ?_
                try simp only [Act.put, List.setIfInBounds_toArray, List.set_cons_zero, List.set_cons_succ]
                refine wpAnyH_take (i := 19) (oi := { dst := some 69, op := Op.load 3 (Operand.tmp 68), type := 3, pos := "law.go:131", after := #[{ on := 18, ground := Ground.data }, { on := 13, ground := Ground.guard }], guard := some (13, true) }) (v := undef) rfl (by kernel_rfl) (by kernel_rfl) (by kernel_rfl) (fun _ _ _ h => h) (Or.inr ⟨by rfl, rfl⟩) (by assumption) ?_
                try simp only [Act.put, List.setIfInBounds_toArray, List.set_cons_zero, List.set_cons_succ]
                refine wpAnyH_take (i := 20) (oi := { dst := some 70, op := Op.indexAddr 22 (Operand.tmp 64) (Operand.tmp 69), type := 0, pos := "law.go:131", after := #[{ on := 14, ground := Ground.data }, { on := 19, ground := Ground.data }, { on := 13, ground := Ground.guard }], guard := some (13, true) }) (v := undef) rfl (by kernel_rfl) (by kernel_rfl) (by kernel_rfl) (fun _ _ _ h => h) (Or.inr ⟨by rfl, rfl⟩) (by assumption) ?_
                try simp only [Act.put, List.setIfInBounds_toArray, List.set_cons_zero, List.set_cons_succ]
                refine wpAnyH_take (i := 21) (oi := { dst := some 71, op := Op.load 35 (Operand.tmp 70), type := 35, pos := "law.go:131", after := #[{ on := 20, ground := Ground.data }, { on := 13, ground := Ground.guard }], guard := some (13, true) }) (v := undef) rfl (by kernel_rfl) (by kernel_rfl) (by kernel_rfl) (fun _ _ _ h => h) (Or.inr ⟨by rfl, rfl⟩) (by assumption) ?_
                try simp only [Act.put, List.setIfInBounds_toArray, List.set_cons_zero, List.set_cons_succ]
                refine wpAnyH_take (i := 22) (oi := { dst := some 72, op := Op.move (Operand.tmp 1), type := 50, pos := "law.go:131", after := #[{ on := 13, ground := Ground.guard }], guard := some (13, true) }) (v := undef) rfl (by kernel_rfl) (by kernel_rfl) (by kernel_rfl) (fun _ _ _ h => h) (Or.inr ⟨by rfl, rfl⟩) (by assumption) ?_
                try simp only [Act.put, List.setIfInBounds_toArray, List.set_cons_zero, List.set_cons_succ]
                refine wpAnyH_take (i := 23) (oi := { dst := some 73, op := Op.move (Operand.tmp 12), type := 3, pos := "law.go:131", after := #[{ on := 13, ground := Ground.guard }], guard := some (13, true) }) (v := undef) rfl (by kernel_rfl) (by kernel_rfl) (by kernel_rfl) (fun _ _ _ h => h) (Or.inr ⟨by rfl, rfl⟩) (by assumption) ?_
                try simp only [Act.put, List.setIfInBounds_toArray, List.set_cons_zero, List.set_cons_succ]
                refine wpAnyH_take (i := 24) (oi := { dst := some 74, op := Op.indexAddr 50 (Operand.tmp 72) (Operand.tmp 73), type := 0, pos := "law.go:131", after := #[{ on := 22, ground := Ground.data }, { on := 23, ground := Ground.data }, { on := 13, ground := Ground.guard }], guard := some (13, true) }) (v := undef) rfl (by kernel_rfl) (by kernel_rfl) (by kernel_rfl) (fun _ _ _ h => h) (Or.inr ⟨by rfl, rfl⟩) (by assumption) ?_
                try simp only [Act.put, List.setIfInBounds_toArray, List.set_cons_zero, List.set_cons_succ]
                refine wpAnyH_take (i := 25) (oi := { dst := some 75, op := Op.fieldAddr 74 (Operand.tmp 74) 1, type := 0, pos := "law.go:131", after := #[{ on := 24, ground := Ground.data }, { on := 13, ground := Ground.guard }], guard := some (13, true) }) (v := undef) rfl (by kernel_rfl) (by kernel_rfl) (by kernel_rfl) (fun _ _ _ h => h) (Or.inr ⟨by rfl, rfl⟩) (by assumption) ?_
                try simp only [Act.put, List.setIfInBounds_toArray, List.set_cons_zero, List.set_cons_succ]
                refine wpAnyH_take (i := 26) (oi := { dst := some 76, op := Op.load 35 (Operand.tmp 75), type := 35, pos := "law.go:131", after := #[{ on := 25, ground := Ground.data }, { on := 13, ground := Ground.guard }], guard := some (13, true) }) (v := undef) rfl (by kernel_rfl) (by kernel_rfl) (by kernel_rfl) (fun _ _ _ h => h) (Or.inr ⟨by rfl, rfl⟩) (by assumption) ?_
                try simp only [Act.put, List.setIfInBounds_toArray, List.set_cons_zero, List.set_cons_succ]
                refine wpAnyH_take (i := 27) (oi := { dst := some 77, op := Op.binOp BinOp.eql 35 (Operand.tmp 71) (Operand.tmp 76) 35, type := 4, pos := "law.go:131", after := #[{ on := 21, ground := Ground.data }, { on := 26, ground := Ground.data }, { on := 13, ground := Ground.guard }], guard := some (13, true) }) (v := undef) rfl (by kernel_rfl) (by kernel_rfl) (by kernel_rfl) (fun _ _ _ h => h) (Or.inr ⟨by rfl, rfl⟩) (by assumption) ?_
                try simp only [Act.put, List.setIfInBounds_toArray, List.set_cons_zero, List.set_cons_succ]
                refine wpAnyH_take (i := 28) (oi := { dst := some 78, op := Op.pick (Operand.tmp 63) (Operand.tmp 77) (Operand.const (Value.bool false)), type := 4, pos := "law.go:131", after := #[{ on := 13, ground := Ground.data }, { on := 27, ground := Ground.data }, { on := 1, ground := Ground.guard }], guard := some (1, false) }) (v := undef) rfl (by kernel_rfl) (by kernel_rfl) (by kernel_rfl) (fun _ _ _ h => h) (Or.inr ⟨by rfl, rfl⟩) (by assumption) ?_
                try simp only [Act.put, List.setIfInBounds_toArray, List.set_cons_zero, List.set_cons_succ]
                refine wpAnyH_take (i := 29) (oi := { dst := some 79, op := Op.pick (Operand.tmp 51) (Operand.const (Value.bool true)) (Operand.tmp 78), type := 4, pos := "law.go:131", after := #[{ on := 1, ground := Ground.data }, { on := 28, ground := Ground.data }], guard := none }) (v := ?_) rfl (by kernel_rfl) (by kernel_rfl) (by kernel_rfl) (fun _ _ _ h => h) (Or.inl ⟨by rfl, ?_⟩) (by assumption) ?_
                rotate_left
                · (intro w' hSw; go_simp; try with_reducible rfl)
                try simp only [Act.put, List.setIfInBounds_toArray, List.set_cons_zero, List.set_cons_succ]
                refine wpAnyH_take (i := 30) (oi := { dst := some 10, op := Op.assign (Operand.tmp 79), type := 4, pos := "law.go:131", after := #[{ on := 29, ground := Ground.data }, { on := 13, ground := Ground.chain }, { on := 0, ground := Ground.phase }, { on := 1, ground := Ground.phase }, { on := 2, ground := Ground.phase }, { on := 3, ground := Ground.phase }, { on := 4, ground := Ground.phase }, { on := 5, ground := Ground.phase }, { on := 6, ground := Ground.phase }, { on := 7, ground := Ground.phase }, { on := 8, ground := Ground.phase }, { on := 9, ground := Ground.phase }, { on := 10, ground := Ground.phase }, { on := 11, ground := Ground.phase }, { on := 12, ground := Ground.phase }, { on := 13, ground := Ground.phase }, { on := 14, ground := Ground.phase }, { on := 15, ground := Ground.phase }, { on := 16, ground := Ground.phase }, { on := 17, ground := Ground.phase }, { on := 18, ground := Ground.phase }, { on := 19, ground := Ground.phase }, { on := 20, ground := Ground.phase }, { on := 21, ground := Ground.phase }, { on := 22, ground := Ground.phase }, { on := 23, ground := Ground.phase }, { on := 24, ground := Ground.phase }, { on := 25, ground := Ground.phase }, { on := 26, ground := Ground.phase }, { on := 27, ground := Ground.phase }, { on := 28, ground := Ground.phase }, { on := 29, ground := Ground.phase }], guard := none }) (v := ?_) rfl (by kernel_rfl) (by kernel_rfl) (by kernel_rfl) (fun _ _ _ h => h) (Or.inl ⟨by rfl, ?_⟩) (by assumption) ?_
                rotate_left
                · (intro w' hSw; go_simp; try with_reducible rfl)
                try simp only [Act.put, List.setIfInBounds_toArray, List.set_cons_zero, List.set_cons_succ]
                refine wpAnyH_done (by kernel_rfl) ?_ _
                clear hH0
                go_wp2_with fail
                exact ⟨⟨k + 1, true, by omega, by omega, by go_num, rfl, Lib.hid (fun k' _ _ _ _ _ => rfl), Lib.hid HBL.out.drew⟩, by simp [intOf]; omega⟩
              | false =>
                by_cases hpp : ws[k].pos = ws[i].pos
                · have hpk : ws[k].pos = (kp : Int) := by rw [hpp, HKP.out]
                  rw [hpk] at E0
                  obtain ⟨qb, hqb⟩ : ∃ qb, decide (sk = ws[k].s) = qb := ⟨_, rfl⟩
                  have HEQ : Hid (∀ w, (Op.equalIn 10000 35 (.agg (u8s sk).toArray) (.agg (u8s ws[k].s).toArray)).run Try.prog w = .ok qb w) := Lib.hid fun w => by rw [eqIn_sec w HSQ.out HSKC.out, hqb]
                  have HKN : Hid (∀ k', i ≤ k' → k' < k + 1 → ∀ h : k' < ws.length, ws[k'].pos = ws[i].pos → ws[k'].s = sk → qb = true) := Lib.hid fun k' h1 h2 h3 h4 h5 => by
                    by_cases e : k' = k
                    · subst e; rw [← hqb]; exact decide_eq_true h5.symm
                    · exact absurd (HKO.out k' h1 (by omega) h3 h4 h5) (by decide)
                  have hkn' : (kp : Int) < n := by omega
                  clear hqb hpk hpp HKO
                  go_wp2_with fail
                  have h0 := Below.refl wr.drew.heap.size wr.drew
                  refine wp_region_held_drew (S := ext wr.drew) (by kernel_rfl) (Below.refl _ _) (fun hH0 => ?_)
                  refine wpAnyH_take (i := 0) (oi := { dst := some 50, op := Op.move (Operand.tmp 10), type := 4, pos := "law.go:131", after := #[], guard := none }) (v := ?_) rfl (by kernel_rfl) (by kernel_rfl) (by kernel_rfl) (fun _ _ _ h => h) (Or.inl ⟨by rfl, ?_⟩) (by assumption) ?_
                  rotate_left
                  · (intro w' hSw; go_simp; try with_reducible rfl)
                  try simp only [Act.put, List.setIfInBounds_toArray, List.set_cons_zero, List.set_cons_succ]
                  refine wpAnyH_take (i := 1) (oi := { dst := some 51, op := Op.move (Operand.tmp 50), type := 4, pos := "law.go:131", after := #[{ on := 0, ground := Ground.data }], guard := none }) (v := ?_) rfl (by kernel_rfl) (by kernel_rfl) (by kernel_rfl) (fun _ _ _ h => h) (Or.inl ⟨by rfl, ?_⟩) (by assumption) ?_
                  rotate_left
                  · (intro w' hSw; go_simp; try with_reducible rfl)
                  try simp only [Act.put, List.setIfInBounds_toArray, List.set_cons_zero, List.set_cons_succ]
                  refine wpAnyH_take (i := 2) (oi := { dst := some 52, op := Op.move (Operand.tmp 1), type := 50, pos := "law.go:131", after := #[{ on := 1, ground := Ground.guard }], guard := some (1, false) }) (v := ?_) rfl (by kernel_rfl) (by kernel_rfl) (by kernel_rfl) (fun _ _ _ h => h) (Or.inl ⟨by rfl, ?_⟩) (by assumption) ?_
                  rotate_left
                  · (intro w' hSw; go_simp; try with_reducible rfl)
                  try simp only [Act.put, List.setIfInBounds_toArray, List.set_cons_zero, List.set_cons_succ]
                  refine wpAnyH_take (i := 3) (oi := { dst := some 53, op := Op.move (Operand.tmp 12), type := 3, pos := "law.go:131", after := #[{ on := 1, ground := Ground.guard }], guard := some (1, false) }) (v := ?_) rfl (by kernel_rfl) (by kernel_rfl) (by kernel_rfl) (fun _ _ _ h => h) (Or.inl ⟨by rfl, ?_⟩) (by assumption) ?_
                  rotate_left
                  · (intro w' hSw; go_simp; try with_reducible rfl)
                  try simp only [Act.put, List.setIfInBounds_toArray, List.set_cons_zero, List.set_cons_succ]
                  refine wpAnyH_take (i := 4) (oi := { dst := some 54, op := Op.indexAddr 50 (Operand.tmp 52) (Operand.tmp 53), type := 0, pos := "law.go:131", after := #[{ on := 2, ground := Ground.data }, { on := 3, ground := Ground.data }, { on := 1, ground := Ground.guard }], guard := some (1, false) }) (v := ?_) rfl (by kernel_rfl) (by kernel_rfl) (by kernel_rfl) (fun _ _ _ h => h) (Or.inl ⟨by rfl, ?_⟩) (by assumption) ?_
                  rotate_left
                  · (intro w' hSw; go_simp; try with_reducible rfl)
                  try simp only [Act.put, List.setIfInBounds_toArray, List.set_cons_zero, List.set_cons_succ]
                  refine wpAnyH_take (i := 5) (oi := { dst := some 55, op := Op.fieldAddr 74 (Operand.tmp 54) 0, type := 0, pos := "law.go:131", after := #[{ on := 4, ground := Ground.data }, { on := 1, ground := Ground.guard }], guard := some (1, false) }) (v := ?_) rfl (by kernel_rfl) (by kernel_rfl) (by kernel_rfl) (fun _ _ _ h => h) (Or.inl ⟨by rfl, ?_⟩) (by assumption) ?_
                  rotate_left
                  · (intro w' hSw; go_simp; try with_reducible rfl)
                  try simp only [Act.put, List.setIfInBounds_toArray, List.set_cons_zero, List.set_cons_succ]
                  refine' wpAnyH_take (i := 6) (oi := { dst := some 56, op := Op.load 3 (Operand.tmp 55), type := 3, pos := "law.go:131", after := #[{ on := 5, ground := Ground.data }, { on := 1, ground := Ground.guard }], guard := some (1, false) }) (v := _) rfl (by kernel_rfl) (by kernel_rfl) (by kernel_rfl) (fun _ _ _ h => h) (ld_cell (by rfl) 3 _ und_int rfl _ rfl b2 (o2 + k * 36) rfl (.int .i64 (kp : Int)) (fun w' hw => ((below_drew hw).cell (p := ⟨b2, o2 + k * 36, none⟩) hwl).trans E0.out)) (by assumption) ?_
                  try simp only [Act.put, List.setIfInBounds_toArray, List.set_cons_zero, List.set_cons_succ]
                  refine wpAnyH_take (i := 7) (oi := { dst := some 57, op := Op.move (Operand.tmp 1), type := 50, pos := "law.go:131", after := #[{ on := 1, ground := Ground.guard }], guard := some (1, false) }) (v := ?_) rfl (by kernel_rfl) (by kernel_rfl) (by kernel_rfl) (fun _ _ _ h => h) (Or.inl ⟨by rfl, ?_⟩) (by assumption) ?_
                  rotate_left
                  · (intro w' hSw; go_simp; try with_reducible rfl)
                  try simp only [Act.put, List.setIfInBounds_toArray, List.set_cons_zero, List.set_cons_succ]
                  refine wpAnyH_take (i := 8) (oi := { dst := some 58, op := Op.move (Operand.tmp 8), type := 3, pos := "law.go:131", after := #[{ on := 1, ground := Ground.guard }], guard := some (1, false) }) (v := ?_) rfl (by kernel_rfl) (by kernel_rfl) (by kernel_rfl) (fun _ _ _ h => h) (Or.inl ⟨by rfl, ?_⟩) (by assumption) ?_
                  rotate_left
                  · (intro w' hSw; go_simp; try with_reducible rfl)
                  try simp only [Act.put, List.setIfInBounds_toArray, List.set_cons_zero, List.set_cons_succ]
                  refine wpAnyH_take (i := 9) (oi := { dst := some 59, op := Op.indexAddr 50 (Operand.tmp 57) (Operand.tmp 58), type := 0, pos := "law.go:131", after := #[{ on := 7, ground := Ground.data }, { on := 8, ground := Ground.data }, { on := 1, ground := Ground.guard }], guard := some (1, false) }) (v := ?_) rfl (by kernel_rfl) (by kernel_rfl) (by kernel_rfl) (fun _ _ _ h => h) (Or.inl ⟨by rfl, ?_⟩) (by assumption) ?_
                  rotate_left
                  · (intro w' hSw; go_simp; try with_reducible rfl)
                  try simp only [Act.put, List.setIfInBounds_toArray, List.set_cons_zero, List.set_cons_succ]
                  refine wpAnyH_take (i := 10) (oi := { dst := some 60, op := Op.fieldAddr 74 (Operand.tmp 59) 0, type := 0, pos := "law.go:131", after := #[{ on := 9, ground := Ground.data }, { on := 1, ground := Ground.guard }], guard := some (1, false) }) (v := ?_) rfl (by kernel_rfl) (by kernel_rfl) (by kernel_rfl) (fun _ _ _ h => h) (Or.inl ⟨by rfl, ?_⟩) (by assumption) ?_
                  rotate_left
                  · (intro w' hSw; go_simp; try with_reducible rfl)
                  try simp only [Act.put, List.setIfInBounds_toArray, List.set_cons_zero, List.set_cons_succ]
                  refine' wpAnyH_take (i := 11) (oi := { dst := some 61, op := Op.load 3 (Operand.tmp 60), type := 3, pos := "law.go:131", after := #[{ on := 10, ground := Ground.data }, { on := 1, ground := Ground.guard }], guard := some (1, false) }) (v := _) rfl (by kernel_rfl) (by kernel_rfl) (by kernel_rfl) (fun _ _ _ h => h) (ld_cell (by rfl) 3 _ und_int rfl _ rfl b2 (o2 + i * 36) rfl (.int .i64 (kp : Int)) (fun w' hw => ((below_drew hw).cell (p := ⟨b2, o2 + i * 36, none⟩) hwl).trans F0.out)) (by assumption) ?_
                  try simp only [Act.put, List.setIfInBounds_toArray, List.set_cons_zero, List.set_cons_succ]
                  refine wpAnyH_take (i := 12) (oi := { dst := some 62, op := Op.binOp BinOp.eql 3 (Operand.tmp 56) (Operand.tmp 61) 3, type := 4, pos := "law.go:131", after := #[{ on := 6, ground := Ground.data }, { on := 11, ground := Ground.data }, { on := 1, ground := Ground.guard }], guard := some (1, false) }) (v := ?_) rfl (by kernel_rfl) (by kernel_rfl) (by kernel_rfl) (fun _ _ _ h => h) (Or.inl ⟨by rfl, ?_⟩) (by assumption) ?_
                  rotate_left
                  · (intro w' hSw; go_simp; try with_reducible rfl)
                  try simp only [Act.put, List.setIfInBounds_toArray, List.set_cons_zero, List.set_cons_succ]
                  refine wpAnyH_take (i := 13) (oi := { dst := some 63, op := Op.move (Operand.tmp 62), type := 4, pos := "law.go:131", after := #[{ on := 12, ground := Ground.data }, { on := 1, ground := Ground.chain }, { on := 1, ground := Ground.guard }], guard := some (1, false) }) (v := ?_) rfl (by kernel_rfl) (by kernel_rfl) (by kernel_rfl) (fun _ _ _ h => h) (Or.inl ⟨by rfl, ?_⟩) (by assumption) ?_
                  rotate_left
                  · (intro w' hSw; go_simp; try with_reducible rfl)
                  try simp only [Act.put, List.setIfInBounds_toArray, List.set_cons_zero, List.set_cons_succ]
                  refine wpAnyH_take (i := 14) (oi := { dst := some 64, op := Op.move (Operand.tmp 7), type := 22, pos := "law.go:131", after := #[{ on := 13, ground := Ground.guard }], guard := some (13, true) }) (v := ?_) rfl (by kernel_rfl) (by kernel_rfl) (by kernel_rfl) (fun _ _ _ h => h) (Or.inl ⟨by rfl, ?_⟩) (by assumption) ?_
                  rotate_left
                  · (intro w' hSw; go_simp; try with_reducible rfl)
                  try simp only [Act.put, List.setIfInBounds_toArray, List.set_cons_zero, List.set_cons_succ]
                  refine wpAnyH_take (i := 15) (oi := { dst := some 65, op := Op.move (Operand.tmp 1), type := 50, pos := "law.go:131", after := #[{ on := 13, ground := Ground.guard }], guard := some (13, true) }) (v := ?_) rfl (by kernel_rfl) (by kernel_rfl) (by kernel_rfl) (fun _ _ _ h => h) (Or.inl ⟨by rfl, ?_⟩) (by assumption) ?_
                  rotate_left
                  · (intro w' hSw; go_simp; try with_reducible rfl)
                  try simp only [Act.put, List.setIfInBounds_toArray, List.set_cons_zero, List.set_cons_succ]
                  refine wpAnyH_take (i := 16) (oi := { dst := some 66, op := Op.move (Operand.tmp 8), type := 3, pos := "law.go:131", after := #[{ on := 13, ground := Ground.guard }], guard := some (13, true) }) (v := ?_) rfl (by kernel_rfl) (by kernel_rfl) (by kernel_rfl) (fun _ _ _ h => h) (Or.inl ⟨by rfl, ?_⟩) (by assumption) ?_
                  rotate_left
                  · (intro w' hSw; go_simp; try with_reducible rfl)
                  try simp only [Act.put, List.setIfInBounds_toArray, List.set_cons_zero, List.set_cons_succ]
                  refine wpAnyH_take (i := 17) (oi := { dst := some 67, op := Op.indexAddr 50 (Operand.tmp 65) (Operand.tmp 66), type := 0, pos := "law.go:131", after := #[{ on := 15, ground := Ground.data }, { on := 16, ground := Ground.data }, { on := 13, ground := Ground.guard }], guard := some (13, true) }) (v := ?_) rfl (by kernel_rfl) (by kernel_rfl) (by kernel_rfl) (fun _ _ _ h => h) (Or.inl ⟨by rfl, ?_⟩) (by assumption) ?_
                  rotate_left
                  · (intro w' hSw; go_simp; try with_reducible rfl)
                  try simp only [Act.put, List.setIfInBounds_toArray, List.set_cons_zero, List.set_cons_succ]
                  refine wpAnyH_take (i := 18) (oi := { dst := some 68, op := Op.fieldAddr 74 (Operand.tmp 67) 0, type := 0, pos := "law.go:131", after := #[{ on := 17, ground := Ground.data }, { on := 13, ground := Ground.guard }], guard := some (13, true) }) (v := ?_) rfl (by kernel_rfl) (by kernel_rfl) (by kernel_rfl) (fun _ _ _ h => h) (Or.inl ⟨by rfl, ?_⟩) (by assumption) ?_
                  rotate_left
                  · (intro w' hSw; go_simp; try with_reducible rfl)
                  try simp only [Act.put, List.setIfInBounds_toArray, List.set_cons_zero, List.set_cons_succ]
                  refine' wpAnyH_take (i := 19) (oi := { dst := some 69, op := Op.load 3 (Operand.tmp 68), type := 3, pos := "law.go:131", after := #[{ on := 18, ground := Ground.data }, { on := 13, ground := Ground.guard }], guard := some (13, true) }) (v := _) rfl (by kernel_rfl) (by kernel_rfl) (by kernel_rfl) (fun _ _ _ h => h) (ld_cell (by rfl) 3 _ und_int rfl _ rfl b2 (o2 + i * 36) rfl (.int .i64 (kp : Int)) (fun w' hw => ((below_drew hw).cell (p := ⟨b2, o2 + i * 36, none⟩) hwl).trans F0.out)) (by assumption) ?_
                  try simp only [Act.put, List.setIfInBounds_toArray, List.set_cons_zero, List.set_cons_succ]
                  refine wpAnyH_take (i := 20) (oi := { dst := some 70, op := Op.indexAddr 22 (Operand.tmp 64) (Operand.tmp 69), type := 0, pos := "law.go:131", after := #[{ on := 14, ground := Ground.data }, { on := 19, ground := Ground.data }, { on := 13, ground := Ground.guard }], guard := some (13, true) }) (v := ?_) rfl (by kernel_rfl) (by kernel_rfl) (by kernel_rfl) (fun _ _ _ h => h) (Or.inl ⟨by rfl, ?_⟩) (by assumption) ?_
                  rotate_left
                  · (intro w' hSw; go_simp; try with_reducible rfl)
                  try simp only [Act.put, List.setIfInBounds_toArray, List.set_cons_zero, List.set_cons_succ]
                  refine' wpAnyH_take (i := 21) (oi := { dst := some 71, op := Op.load 35 (Operand.tmp 70), type := 35, pos := "law.go:131", after := #[{ on := 20, ground := Ground.data }, { on := 13, ground := Ground.guard }], guard := some (13, true) }) (v := _) rfl (by kernel_rfl) (by kernel_rfl) (by kernel_rfl) (fun _ _ _ h => h) (ld_sec (by rfl) _ rfl b1 (o1 + kp * 32) rfl sk HSQ.out.1 (fun w' hw => Rd.rangeLater HRS.out hsl (below_drew hw))) (by assumption) ?_
                  try simp only [Act.put, List.setIfInBounds_toArray, List.set_cons_zero, List.set_cons_succ]
                  refine wpAnyH_take (i := 22) (oi := { dst := some 72, op := Op.move (Operand.tmp 1), type := 50, pos := "law.go:131", after := #[{ on := 13, ground := Ground.guard }], guard := some (13, true) }) (v := ?_) rfl (by kernel_rfl) (by kernel_rfl) (by kernel_rfl) (fun _ _ _ h => h) (Or.inl ⟨by rfl, ?_⟩) (by assumption) ?_
                  rotate_left
                  · (intro w' hSw; go_simp; try with_reducible rfl)
                  try simp only [Act.put, List.setIfInBounds_toArray, List.set_cons_zero, List.set_cons_succ]
                  refine wpAnyH_take (i := 23) (oi := { dst := some 73, op := Op.move (Operand.tmp 12), type := 3, pos := "law.go:131", after := #[{ on := 13, ground := Ground.guard }], guard := some (13, true) }) (v := ?_) rfl (by kernel_rfl) (by kernel_rfl) (by kernel_rfl) (fun _ _ _ h => h) (Or.inl ⟨by rfl, ?_⟩) (by assumption) ?_
                  rotate_left
                  · (intro w' hSw; go_simp; try with_reducible rfl)
                  try simp only [Act.put, List.setIfInBounds_toArray, List.set_cons_zero, List.set_cons_succ]
                  refine wpAnyH_take (i := 24) (oi := { dst := some 74, op := Op.indexAddr 50 (Operand.tmp 72) (Operand.tmp 73), type := 0, pos := "law.go:131", after := #[{ on := 22, ground := Ground.data }, { on := 23, ground := Ground.data }, { on := 13, ground := Ground.guard }], guard := some (13, true) }) (v := ?_) rfl (by kernel_rfl) (by kernel_rfl) (by kernel_rfl) (fun _ _ _ h => h) (Or.inl ⟨by rfl, ?_⟩) (by assumption) ?_
                  rotate_left
                  · (intro w' hSw; go_simp; try with_reducible rfl)
                  try simp only [Act.put, List.setIfInBounds_toArray, List.set_cons_zero, List.set_cons_succ]
                  refine wpAnyH_take (i := 25) (oi := { dst := some 75, op := Op.fieldAddr 74 (Operand.tmp 74) 1, type := 0, pos := "law.go:131", after := #[{ on := 24, ground := Ground.data }, { on := 13, ground := Ground.guard }], guard := some (13, true) }) (v := ?_) rfl (by kernel_rfl) (by kernel_rfl) (by kernel_rfl) (fun _ _ _ h => h) (Or.inl ⟨by rfl, ?_⟩) (by assumption) ?_
                  rotate_left
                  · (intro w' hSw; go_simp; try with_reducible rfl)
                  try simp only [Act.put, List.setIfInBounds_toArray, List.set_cons_zero, List.set_cons_succ]
                  refine' wpAnyH_take (i := 26) (oi := { dst := some 76, op := Op.load 35 (Operand.tmp 75), type := 35, pos := "law.go:131", after := #[{ on := 25, ground := Ground.data }, { on := 13, ground := Ground.guard }], guard := some (13, true) }) (v := _) rfl (by kernel_rfl) (by kernel_rfl) (by kernel_rfl) (fun _ _ _ h => h) (ld_sec (by rfl) _ rfl b2 (o2 + k * 36 + 1) rfl ws[k].s HSKC.out.1 (fun w' hw => Rd.rangeLater ES.out hwl (below_drew hw))) (by assumption) ?_
                  try simp only [Act.put, List.setIfInBounds_toArray, List.set_cons_zero, List.set_cons_succ]
                  refine' wpAnyH_take (i := 27) (oi := { dst := some 77, op := Op.binOp BinOp.eql 35 (Operand.tmp 71) (Operand.tmp 76) 35, type := 4, pos := "law.go:131", after := #[{ on := 21, ground := Ground.data }, { on := 26, ground := Ground.data }, { on := 13, ground := Ground.guard }], guard := some (13, true) }) (v := _) rfl (by kernel_rfl) (by kernel_rfl) (by kernel_rfl) (fun _ _ _ h => h) (eql_yields (by rfl) 35 _ _ _ rfl (u8s sk).toArray (u8s ws[k].s).toArray (by rfl) (by rfl) HGS qb HEQ.out) (by assumption) ?_
                  try simp only [Act.put, List.setIfInBounds_toArray, List.set_cons_zero, List.set_cons_succ]
                  refine wpAnyH_take (i := 28) (oi := { dst := some 78, op := Op.pick (Operand.tmp 63) (Operand.tmp 77) (Operand.const (Value.bool false)), type := 4, pos := "law.go:131", after := #[{ on := 13, ground := Ground.data }, { on := 27, ground := Ground.data }, { on := 1, ground := Ground.guard }], guard := some (1, false) }) (v := ?_) rfl (by kernel_rfl) (by kernel_rfl) (by kernel_rfl) (fun _ _ _ h => h) (Or.inl ⟨by rfl, ?_⟩) (by assumption) ?_
                  rotate_left
                  · (intro w' hSw; go_simp; try with_reducible rfl)
                  try simp only [Act.put, List.setIfInBounds_toArray, List.set_cons_zero, List.set_cons_succ]
                  refine wpAnyH_take (i := 29) (oi := { dst := some 79, op := Op.pick (Operand.tmp 51) (Operand.const (Value.bool true)) (Operand.tmp 78), type := 4, pos := "law.go:131", after := #[{ on := 1, ground := Ground.data }, { on := 28, ground := Ground.data }], guard := none }) (v := ?_) rfl (by kernel_rfl) (by kernel_rfl) (by kernel_rfl) (fun _ _ _ h => h) (Or.inl ⟨by rfl, ?_⟩) (by assumption) ?_
                  rotate_left
                  · (intro w' hSw; go_simp; try with_reducible rfl)
                  try simp only [Act.put, List.setIfInBounds_toArray, List.set_cons_zero, List.set_cons_succ]
                  refine wpAnyH_take (i := 30) (oi := { dst := some 10, op := Op.assign (Operand.tmp 79), type := 4, pos := "law.go:131", after := #[{ on := 29, ground := Ground.data }, { on := 13, ground := Ground.chain }, { on := 0, ground := Ground.phase }, { on := 1, ground := Ground.phase }, { on := 2, ground := Ground.phase }, { on := 3, ground := Ground.phase }, { on := 4, ground := Ground.phase }, { on := 5, ground := Ground.phase }, { on := 6, ground := Ground.phase }, { on := 7, ground := Ground.phase }, { on := 8, ground := Ground.phase }, { on := 9, ground := Ground.phase }, { on := 10, ground := Ground.phase }, { on := 11, ground := Ground.phase }, { on := 12, ground := Ground.phase }, { on := 13, ground := Ground.phase }, { on := 14, ground := Ground.phase }, { on := 15, ground := Ground.phase }, { on := 16, ground := Ground.phase }, { on := 17, ground := Ground.phase }, { on := 18, ground := Ground.phase }, { on := 19, ground := Ground.phase }, { on := 20, ground := Ground.phase }, { on := 21, ground := Ground.phase }, { on := 22, ground := Ground.phase }, { on := 23, ground := Ground.phase }, { on := 24, ground := Ground.phase }, { on := 25, ground := Ground.phase }, { on := 26, ground := Ground.phase }, { on := 27, ground := Ground.phase }, { on := 28, ground := Ground.phase }, { on := 29, ground := Ground.phase }], guard := none }) (v := ?_) rfl (by kernel_rfl) (by kernel_rfl) (by kernel_rfl) (fun _ _ _ h => h) (Or.inl ⟨by rfl, ?_⟩) (by assumption) ?_
                  rotate_left
                  · (intro w' hSw; go_simp; try with_reducible rfl)
                  try simp only [Act.put, List.setIfInBounds_toArray, List.set_cons_zero, List.set_cons_succ]
                  refine wpAnyH_done (by kernel_rfl) ?_ _
                  clear hH0
                  go_wp2_with fail
                  exact ⟨⟨k + 1, qb, by omega, by omega, by go_num, rfl, HKN, Lib.hid HBL.out.drew⟩, by simp [intOf]; omega⟩
                · have HKN : Hid (∀ k', i ≤ k' → k' < k + 1 → ∀ h : k' < ws.length, ws[k'].pos = ws[i].pos → ws[k'].s = sk → false = true) := Lib.hid fun k' h1 h2 h3 h4 h5 => by
                    by_cases e : k' = k
                    · subst e; exact absurd h4 hpp
                    · exact HKO.out k' h1 (by omega) h3 h4 h5
                  have hpk : decide (ws[k].pos = (kp : Int)) = false := decide_eq_false (by rw [← HKP.out]; exact hpp)
                  generalize ws[k].pos = pk at E0 hpk
                  clear HKO hpp
                  go_wp2_with fail
                  have h0 := Below.refl wr.drew.heap.size wr.drew
                  refine wp_region_held_drew (S := ext wr.drew) (by kernel_rfl) (Below.refl _ _) (fun hH0 => ?_)
                  refine wpAnyH_take (i := 0) (oi := { dst := some 50, op := Op.move (Operand.tmp 10), type := 4, pos := "law.go:131", after := #[], guard := none }) (v := ?_) rfl (by kernel_rfl) (by kernel_rfl) (by kernel_rfl) (fun _ _ _ h => h) (Or.inl ⟨by rfl, ?_⟩) (by assumption) ?_
                  rotate_left
                  · (intro w' hSw; go_simp; try with_reducible rfl)
                  try simp only [Act.put, List.setIfInBounds_toArray, List.set_cons_zero, List.set_cons_succ]
                  refine wpAnyH_take (i := 1) (oi := { dst := some 51, op := Op.move (Operand.tmp 50), type := 4, pos := "law.go:131", after := #[{ on := 0, ground := Ground.data }], guard := none }) (v := ?_) rfl (by kernel_rfl) (by kernel_rfl) (by kernel_rfl) (fun _ _ _ h => h) (Or.inl ⟨by rfl, ?_⟩) (by assumption) ?_
                  rotate_left
                  · (intro w' hSw; go_simp; try with_reducible rfl)
                  try simp only [Act.put, List.setIfInBounds_toArray, List.set_cons_zero, List.set_cons_succ]
                  refine wpAnyH_take (i := 2) (oi := { dst := some 52, op := Op.move (Operand.tmp 1), type := 50, pos := "law.go:131", after := #[{ on := 1, ground := Ground.guard }], guard := some (1, false) }) (v := ?_) rfl (by kernel_rfl) (by kernel_rfl) (by kernel_rfl) (fun _ _ _ h => h) (Or.inl ⟨by rfl, ?_⟩) (by assumption) ?_
                  rotate_left
                  · (intro w' hSw; go_simp; try with_reducible rfl)
                  try simp only [Act.put, List.setIfInBounds_toArray, List.set_cons_zero, List.set_cons_succ]
                  refine wpAnyH_take (i := 3) (oi := { dst := some 53, op := Op.move (Operand.tmp 12), type := 3, pos := "law.go:131", after := #[{ on := 1, ground := Ground.guard }], guard := some (1, false) }) (v := ?_) rfl (by kernel_rfl) (by kernel_rfl) (by kernel_rfl) (fun _ _ _ h => h) (Or.inl ⟨by rfl, ?_⟩) (by assumption) ?_
                  rotate_left
                  · (intro w' hSw; go_simp; try with_reducible rfl)
                  try simp only [Act.put, List.setIfInBounds_toArray, List.set_cons_zero, List.set_cons_succ]
                  refine wpAnyH_take (i := 4) (oi := { dst := some 54, op := Op.indexAddr 50 (Operand.tmp 52) (Operand.tmp 53), type := 0, pos := "law.go:131", after := #[{ on := 2, ground := Ground.data }, { on := 3, ground := Ground.data }, { on := 1, ground := Ground.guard }], guard := some (1, false) }) (v := ?_) rfl (by kernel_rfl) (by kernel_rfl) (by kernel_rfl) (fun _ _ _ h => h) (Or.inl ⟨by rfl, ?_⟩) (by assumption) ?_
                  rotate_left
                  · (intro w' hSw; go_simp; try with_reducible rfl)
                  try simp only [Act.put, List.setIfInBounds_toArray, List.set_cons_zero, List.set_cons_succ]
                  refine wpAnyH_take (i := 5) (oi := { dst := some 55, op := Op.fieldAddr 74 (Operand.tmp 54) 0, type := 0, pos := "law.go:131", after := #[{ on := 4, ground := Ground.data }, { on := 1, ground := Ground.guard }], guard := some (1, false) }) (v := ?_) rfl (by kernel_rfl) (by kernel_rfl) (by kernel_rfl) (fun _ _ _ h => h) (Or.inl ⟨by rfl, ?_⟩) (by assumption) ?_
                  rotate_left
                  · (intro w' hSw; go_simp; try with_reducible rfl)
                  try simp only [Act.put, List.setIfInBounds_toArray, List.set_cons_zero, List.set_cons_succ]
                  refine' wpAnyH_take (i := 6) (oi := { dst := some 56, op := Op.load 3 (Operand.tmp 55), type := 3, pos := "law.go:131", after := #[{ on := 5, ground := Ground.data }, { on := 1, ground := Ground.guard }], guard := some (1, false) }) (v := _) rfl (by kernel_rfl) (by kernel_rfl) (by kernel_rfl) (fun _ _ _ h => h) (ld_cell (by rfl) 3 _ und_int rfl _ rfl b2 (o2 + k * 36) rfl (.int .i64 pk) (fun w' hw => ((below_drew hw).cell (p := ⟨b2, o2 + k * 36, none⟩) hwl).trans E0.out)) (by assumption) ?_
                  try simp only [Act.put, List.setIfInBounds_toArray, List.set_cons_zero, List.set_cons_succ]
                  refine wpAnyH_take (i := 7) (oi := { dst := some 57, op := Op.move (Operand.tmp 1), type := 50, pos := "law.go:131", after := #[{ on := 1, ground := Ground.guard }], guard := some (1, false) }) (v := ?_) rfl (by kernel_rfl) (by kernel_rfl) (by kernel_rfl) (fun _ _ _ h => h) (Or.inl ⟨by rfl, ?_⟩) (by assumption) ?_
                  rotate_left
                  · (intro w' hSw; go_simp; try with_reducible rfl)
                  try simp only [Act.put, List.setIfInBounds_toArray, List.set_cons_zero, List.set_cons_succ]
                  refine wpAnyH_take (i := 8) (oi := { dst := some 58, op := Op.move (Operand.tmp 8), type := 3, pos := "law.go:131", after := #[{ on := 1, ground := Ground.guard }], guard := some (1, false) }) (v := ?_) rfl (by kernel_rfl) (by kernel_rfl) (by kernel_rfl) (fun _ _ _ h => h) (Or.inl ⟨by rfl, ?_⟩) (by assumption) ?_
                  rotate_left
                  · (intro w' hSw; go_simp; try with_reducible rfl)
                  try simp only [Act.put, List.setIfInBounds_toArray, List.set_cons_zero, List.set_cons_succ]
                  refine wpAnyH_take (i := 9) (oi := { dst := some 59, op := Op.indexAddr 50 (Operand.tmp 57) (Operand.tmp 58), type := 0, pos := "law.go:131", after := #[{ on := 7, ground := Ground.data }, { on := 8, ground := Ground.data }, { on := 1, ground := Ground.guard }], guard := some (1, false) }) (v := ?_) rfl (by kernel_rfl) (by kernel_rfl) (by kernel_rfl) (fun _ _ _ h => h) (Or.inl ⟨by rfl, ?_⟩) (by assumption) ?_
                  rotate_left
                  · (intro w' hSw; go_simp; try with_reducible rfl)
                  try simp only [Act.put, List.setIfInBounds_toArray, List.set_cons_zero, List.set_cons_succ]
                  refine wpAnyH_take (i := 10) (oi := { dst := some 60, op := Op.fieldAddr 74 (Operand.tmp 59) 0, type := 0, pos := "law.go:131", after := #[{ on := 9, ground := Ground.data }, { on := 1, ground := Ground.guard }], guard := some (1, false) }) (v := ?_) rfl (by kernel_rfl) (by kernel_rfl) (by kernel_rfl) (fun _ _ _ h => h) (Or.inl ⟨by rfl, ?_⟩) (by assumption) ?_
                  rotate_left
                  · (intro w' hSw; go_simp; try with_reducible rfl)
                  try simp only [Act.put, List.setIfInBounds_toArray, List.set_cons_zero, List.set_cons_succ]
                  refine' wpAnyH_take (i := 11) (oi := { dst := some 61, op := Op.load 3 (Operand.tmp 60), type := 3, pos := "law.go:131", after := #[{ on := 10, ground := Ground.data }, { on := 1, ground := Ground.guard }], guard := some (1, false) }) (v := _) rfl (by kernel_rfl) (by kernel_rfl) (by kernel_rfl) (fun _ _ _ h => h) (ld_cell (by rfl) 3 _ und_int rfl _ rfl b2 (o2 + i * 36) rfl (.int .i64 (kp : Int)) (fun w' hw => ((below_drew hw).cell (p := ⟨b2, o2 + i * 36, none⟩) hwl).trans F0.out)) (by assumption) ?_
                  try simp only [Act.put, List.setIfInBounds_toArray, List.set_cons_zero, List.set_cons_succ]
                  refine' wpAnyH_take (i := 12) (oi := { dst := some 62, op := Op.binOp BinOp.eql 3 (Operand.tmp 56) (Operand.tmp 61) 3, type := 4, pos := "law.go:131", after := #[{ on := 6, ground := Ground.data }, { on := 11, ground := Ground.data }, { on := 1, ground := Ground.guard }], guard := some (1, false) }) (v := _) rfl (by kernel_rfl) (by kernel_rfl) (by kernel_rfl) (fun _ _ _ h => h) (eql_ints (by rfl) _ _ _ rfl pk (kp : Int) (by rfl) (by rfl) false hpk) (by assumption) ?_
                  try simp only [Act.put, List.setIfInBounds_toArray, List.set_cons_zero, List.set_cons_succ]
                  refine wpAnyH_take (i := 13) (oi := { dst := some 63, op := Op.move (Operand.tmp 62), type := 4, pos := "law.go:131", after := #[{ on := 12, ground := Ground.data }, { on := 1, ground := Ground.chain }, { on := 1, ground := Ground.guard }], guard := some (1, false) }) (v := ?_) rfl (by kernel_rfl) (by kernel_rfl) (by kernel_rfl) (fun _ _ _ h => h) (Or.inl ⟨by rfl, ?_⟩) (by assumption) ?_
                  rotate_left
                  · (intro w' hSw; go_simp; try with_reducible rfl)
                  try simp only [Act.put, List.setIfInBounds_toArray, List.set_cons_zero, List.set_cons_succ]
                  refine wpAnyH_take (i := 14) (oi := { dst := some 64, op := Op.move (Operand.tmp 7), type := 22, pos := "law.go:131", after := #[{ on := 13, ground := Ground.guard }], guard := some (13, true) }) (v := undef) rfl (by kernel_rfl) (by kernel_rfl) (by kernel_rfl) (fun _ _ _ h => h) (Or.inr ⟨by rfl, rfl⟩) (by assumption) ?_
                  try simp only [Act.put, List.setIfInBounds_toArray, List.set_cons_zero, List.set_cons_succ]
                  refine wpAnyH_take (i := 15) (oi := { dst := some 65, op := Op.move (Operand.tmp 1), type := 50, pos := "law.go:131", after := #[{ on := 13, ground := Ground.guard }], guard := some (13, true) }) (v := undef) rfl (by kernel_rfl) (by kernel_rfl) (by kernel_rfl) (fun _ _ _ h => h) (Or.inr ⟨by rfl, rfl⟩) (by assumption) ?_
                  try simp only [Act.put, List.setIfInBounds_toArray, List.set_cons_zero, List.set_cons_succ]
                  refine wpAnyH_take (i := 16) (oi := { dst := some 66, op := Op.move (Operand.tmp 8), type := 3, pos := "law.go:131", after := #[{ on := 13, ground := Ground.guard }], guard := some (13, true) }) (v := undef) rfl (by kernel_rfl) (by kernel_rfl) (by kernel_rfl) (fun _ _ _ h => h) (Or.inr ⟨by rfl, rfl⟩) (by assumption) ?_
                  try simp only [Act.put, List.setIfInBounds_toArray, List.set_cons_zero, List.set_cons_succ]
                  refine wpAnyH_take (i := 17) (oi := { dst := some 67, op := Op.indexAddr 50 (Operand.tmp 65) (Operand.tmp 66), type := 0, pos := "law.go:131", after := #[{ on := 15, ground := Ground.data }, { on := 16, ground := Ground.data }, { on := 13, ground := Ground.guard }], guard := some (13, true) }) (v := undef) rfl (by kernel_rfl) (by kernel_rfl) (by kernel_rfl) (fun _ _ _ h => h) (Or.inr ⟨by rfl, rfl⟩) (by assumption) ?_
                  try simp only [Act.put, List.setIfInBounds_toArray, List.set_cons_zero, List.set_cons_succ]
                  refine wpAnyH_take (i := 18) (oi := { dst := some 68, op := Op.fieldAddr 74 (Operand.tmp 67) 0, type := 0, pos := "law.go:131", after := #[{ on := 17, ground := Ground.data }, { on := 13, ground := Ground.guard }], guard := some (13, true) }) (v := undef) rfl (by kernel_rfl) (by kernel_rfl) (by kernel_rfl) (fun _ _ _ h => h) (Or.inr ⟨by rfl, rfl⟩) (by assumption) ?_
                  try simp only [Act.put, List.setIfInBounds_toArray, List.set_cons_zero, List.set_cons_succ]
                  refine wpAnyH_take (i := 19) (oi := { dst := some 69, op := Op.load 3 (Operand.tmp 68), type := 3, pos := "law.go:131", after := #[{ on := 18, ground := Ground.data }, { on := 13, ground := Ground.guard }], guard := some (13, true) }) (v := undef) rfl (by kernel_rfl) (by kernel_rfl) (by kernel_rfl) (fun _ _ _ h => h) (Or.inr ⟨by rfl, rfl⟩) (by assumption) ?_
                  try simp only [Act.put, List.setIfInBounds_toArray, List.set_cons_zero, List.set_cons_succ]
                  refine wpAnyH_take (i := 20) (oi := { dst := some 70, op := Op.indexAddr 22 (Operand.tmp 64) (Operand.tmp 69), type := 0, pos := "law.go:131", after := #[{ on := 14, ground := Ground.data }, { on := 19, ground := Ground.data }, { on := 13, ground := Ground.guard }], guard := some (13, true) }) (v := undef) rfl (by kernel_rfl) (by kernel_rfl) (by kernel_rfl) (fun _ _ _ h => h) (Or.inr ⟨by rfl, rfl⟩) (by assumption) ?_
                  try simp only [Act.put, List.setIfInBounds_toArray, List.set_cons_zero, List.set_cons_succ]
                  refine wpAnyH_take (i := 21) (oi := { dst := some 71, op := Op.load 35 (Operand.tmp 70), type := 35, pos := "law.go:131", after := #[{ on := 20, ground := Ground.data }, { on := 13, ground := Ground.guard }], guard := some (13, true) }) (v := undef) rfl (by kernel_rfl) (by kernel_rfl) (by kernel_rfl) (fun _ _ _ h => h) (Or.inr ⟨by rfl, rfl⟩) (by assumption) ?_
                  try simp only [Act.put, List.setIfInBounds_toArray, List.set_cons_zero, List.set_cons_succ]
                  refine wpAnyH_take (i := 22) (oi := { dst := some 72, op := Op.move (Operand.tmp 1), type := 50, pos := "law.go:131", after := #[{ on := 13, ground := Ground.guard }], guard := some (13, true) }) (v := undef) rfl (by kernel_rfl) (by kernel_rfl) (by kernel_rfl) (fun _ _ _ h => h) (Or.inr ⟨by rfl, rfl⟩) (by assumption) ?_
                  try simp only [Act.put, List.setIfInBounds_toArray, List.set_cons_zero, List.set_cons_succ]
                  refine wpAnyH_take (i := 23) (oi := { dst := some 73, op := Op.move (Operand.tmp 12), type := 3, pos := "law.go:131", after := #[{ on := 13, ground := Ground.guard }], guard := some (13, true) }) (v := undef) rfl (by kernel_rfl) (by kernel_rfl) (by kernel_rfl) (fun _ _ _ h => h) (Or.inr ⟨by rfl, rfl⟩) (by assumption) ?_
                  try simp only [Act.put, List.setIfInBounds_toArray, List.set_cons_zero, List.set_cons_succ]
                  refine wpAnyH_take (i := 24) (oi := { dst := some 74, op := Op.indexAddr 50 (Operand.tmp 72) (Operand.tmp 73), type := 0, pos := "law.go:131", after := #[{ on := 22, ground := Ground.data }, { on := 23, ground := Ground.data }, { on := 13, ground := Ground.guard }], guard := some (13, true) }) (v := undef) rfl (by kernel_rfl) (by kernel_rfl) (by kernel_rfl) (fun _ _ _ h => h) (Or.inr ⟨by rfl, rfl⟩) (by assumption) ?_
                  try simp only [Act.put, List.setIfInBounds_toArray, List.set_cons_zero, List.set_cons_succ]
                  refine wpAnyH_take (i := 25) (oi := { dst := some 75, op := Op.fieldAddr 74 (Operand.tmp 74) 1, type := 0, pos := "law.go:131", after := #[{ on := 24, ground := Ground.data }, { on := 13, ground := Ground.guard }], guard := some (13, true) }) (v := undef) rfl (by kernel_rfl) (by kernel_rfl) (by kernel_rfl) (fun _ _ _ h => h) (Or.inr ⟨by rfl, rfl⟩) (by assumption) ?_
                  try simp only [Act.put, List.setIfInBounds_toArray, List.set_cons_zero, List.set_cons_succ]
                  refine wpAnyH_take (i := 26) (oi := { dst := some 76, op := Op.load 35 (Operand.tmp 75), type := 35, pos := "law.go:131", after := #[{ on := 25, ground := Ground.data }, { on := 13, ground := Ground.guard }], guard := some (13, true) }) (v := undef) rfl (by kernel_rfl) (by kernel_rfl) (by kernel_rfl) (fun _ _ _ h => h) (Or.inr ⟨by rfl, rfl⟩) (by assumption) ?_
                  try simp only [Act.put, List.setIfInBounds_toArray, List.set_cons_zero, List.set_cons_succ]
                  refine wpAnyH_take (i := 27) (oi := { dst := some 77, op := Op.binOp BinOp.eql 35 (Operand.tmp 71) (Operand.tmp 76) 35, type := 4, pos := "law.go:131", after := #[{ on := 21, ground := Ground.data }, { on := 26, ground := Ground.data }, { on := 13, ground := Ground.guard }], guard := some (13, true) }) (v := undef) rfl (by kernel_rfl) (by kernel_rfl) (by kernel_rfl) (fun _ _ _ h => h) (Or.inr ⟨by rfl, rfl⟩) (by assumption) ?_
                  try simp only [Act.put, List.setIfInBounds_toArray, List.set_cons_zero, List.set_cons_succ]
                  refine wpAnyH_take (i := 28) (oi := { dst := some 78, op := Op.pick (Operand.tmp 63) (Operand.tmp 77) (Operand.const (Value.bool false)), type := 4, pos := "law.go:131", after := #[{ on := 13, ground := Ground.data }, { on := 27, ground := Ground.data }, { on := 1, ground := Ground.guard }], guard := some (1, false) }) (v := ?_) rfl (by kernel_rfl) (by kernel_rfl) (by kernel_rfl) (fun _ _ _ h => h) (Or.inl ⟨by rfl, ?_⟩) (by assumption) ?_
                  rotate_left
                  · (intro w' hSw; go_simp; try with_reducible rfl)
                  try simp only [Act.put, List.setIfInBounds_toArray, List.set_cons_zero, List.set_cons_succ]
                  refine wpAnyH_take (i := 29) (oi := { dst := some 79, op := Op.pick (Operand.tmp 51) (Operand.const (Value.bool true)) (Operand.tmp 78), type := 4, pos := "law.go:131", after := #[{ on := 1, ground := Ground.data }, { on := 28, ground := Ground.data }], guard := none }) (v := ?_) rfl (by kernel_rfl) (by kernel_rfl) (by kernel_rfl) (fun _ _ _ h => h) (Or.inl ⟨by rfl, ?_⟩) (by assumption) ?_
                  rotate_left
                  · (intro w' hSw; go_simp; try with_reducible rfl)
                  try simp only [Act.put, List.setIfInBounds_toArray, List.set_cons_zero, List.set_cons_succ]
                  refine wpAnyH_take (i := 30) (oi := { dst := some 10, op := Op.assign (Operand.tmp 79), type := 4, pos := "law.go:131", after := #[{ on := 29, ground := Ground.data }, { on := 13, ground := Ground.chain }, { on := 0, ground := Ground.phase }, { on := 1, ground := Ground.phase }, { on := 2, ground := Ground.phase }, { on := 3, ground := Ground.phase }, { on := 4, ground := Ground.phase }, { on := 5, ground := Ground.phase }, { on := 6, ground := Ground.phase }, { on := 7, ground := Ground.phase }, { on := 8, ground := Ground.phase }, { on := 9, ground := Ground.phase }, { on := 10, ground := Ground.phase }, { on := 11, ground := Ground.phase }, { on := 12, ground := Ground.phase }, { on := 13, ground := Ground.phase }, { on := 14, ground := Ground.phase }, { on := 15, ground := Ground.phase }, { on := 16, ground := Ground.phase }, { on := 17, ground := Ground.phase }, { on := 18, ground := Ground.phase }, { on := 19, ground := Ground.phase }, { on := 20, ground := Ground.phase }, { on := 21, ground := Ground.phase }, { on := 22, ground := Ground.phase }, { on := 23, ground := Ground.phase }, { on := 24, ground := Ground.phase }, { on := 25, ground := Ground.phase }, { on := 26, ground := Ground.phase }, { on := 27, ground := Ground.phase }, { on := 28, ground := Ground.phase }, { on := 29, ground := Ground.phase }], guard := none }) (v := ?_) rfl (by kernel_rfl) (by kernel_rfl) (by kernel_rfl) (fun _ _ _ h => h) (Or.inl ⟨by rfl, ?_⟩) (by assumption) ?_
                  rotate_left
                  · (intro w' hSw; go_simp; try with_reducible rfl)
                  try simp only [Act.put, List.setIfInBounds_toArray, List.set_cons_zero, List.set_cons_succ]
                  refine wpAnyH_done (by kernel_rfl) ?_ _
                  clear hH0
                  go_wp2_with fail
                  exact ⟨⟨k + 1, false, by omega, by omega, by go_num, rfl, HKN, Lib.hid HBL.out.drew⟩, by simp [intOf]; omega⟩
            · have hend : ∀ k', i ≤ k' → k' < m → ob = true → k' < k := fun k' h1 h2 h3 => by
                by_cases e : k < m
                · exact absurd ⟨e, h3⟩ hlm
                · omega
              have hfin : ob = true → ok = true := fun h => by
                obtain ⟨k', hk', h1, h2, h3⟩ := HOK.out i hil (by rw [HOF.out]; exact h)
                rw [HKP.out, Int.toNat_natCast, HGK.out] at h3
                exact HKO.out k' h1 (hend k' h1 (by rw [← HML.out]; exact hk') h) hk' h2 (Option.some.inj h3).symm
              have HFIN := Lib.hid hfin
              clear hend hfin
              have HOUT := Lib.hid (below_trans HB.out HBL.out)
              cases ob with
              | false =>
                by_cases hk1 : k < m
                · have hk1' : (k:Int) < m := by omega
                  go_wp2_with fail
                  exact ⟨⟨i + 1, by omega, by go_num, HOUT⟩, by simp [intOf]; omega⟩
                · obtain rfl : k = m := by omega
                  go_wp2_with fail
                  exact ⟨⟨i + 1, by omega, by go_num, HOUT⟩, by simp [intOf]; omega⟩
              | true =>
                have hok : ok = true := HFIN.out rfl
                subst hok
                obtain rfl : k = m := by
                  by_cases e : k < m
                  · exact absurd ⟨e, rfl⟩ hlm
                  · omega
                go_wp2_with fail
                exact ⟨⟨i + 1, by omega, by go_num, HOUT⟩, by simp [intOf]; omega⟩
    · obtain rfl : i = m := by omega
      go_wp2_with fail
      go_ret
      exact ⟨rfl, below_trans HB1.out HB.out⟩
end Go.Proofs.Yteobhljkjgocdaa.dsk
