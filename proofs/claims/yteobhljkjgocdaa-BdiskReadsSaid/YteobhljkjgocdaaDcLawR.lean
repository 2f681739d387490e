/- BdiskReads' walk, over the code's disk. -/
import Derived.Test.YteobhljkjgocdaaDcReadsMath
namespace Go.Proofs.Yteobhljkjgocdaa.dsk
open Go.ChangeShapes Go.WideShapes Go.ChangeAt Go.RowKit
open Go.Proofs.Yteobhljkjgocdaa.rows
open Go.Proofs.Yteobhljkjgocdaa.sec
set_option linter.unusedVariables false
set_option linter.unusedSimpArgs false

theorem load_mid_g {ops : Array Oper} {rest : List Oper} {o : Oper} {a : Act} {w : World} {Q : Exit → Act → World → Prop} (hw : Region.wanted o (yielded ops a.tmps) = true) (x : Operand) (ho : o.op = .load 35 x)
    (b off : Nat) (hx : a.eval x = .pointer (some ⟨b, off, none⟩)) (s : List Int) (hs : s.length = 32) (hg : w.rangeAt b off (u8s s))
    (h : wpList Try.prog ops Q rest (a.put o.dst (agg s)) w) : wpList Try.prog ops Q (o :: rest) a w :=
  wpList_step fun K hK => by
    rw [if_pos hw]
    exact wp_load_mid 35 x ho b off hx (u8s s) _ hg Try.underlying35 rfl (by rw [info_sec]; simp [u8s, hs]) (hK _ _ h)
/-- what holds at the head of the round over the acts -/
structure RAt (W : World) (n k : Nat) (gl : Nat) (ad : Addr) (w : World) (F : Nat → Prop) (st : St) : Prop where
  code : CA w F (.pointer (some ad)) st
  state : RState n k st
  inF : ∀ b, F b → W.heap.size ≤ b ∧ b < w.heap.size ∧ b ≠ gl
  last : LastAt w gl (lastOfSt st)
  below : Below W.heap.size W w
  gl0 : W.heap.size ≤ gl
theorem RAt.later {W : World} {n k gl : Nat} {ad : Addr} {w w' : World} {F : Nat → Prop} {st : St} (h : RAt W n k gl ad w F st) (hb : Below w.heap.size w w') : RAt W n k gl ad w' F st :=
  ⟨diskIs.kept _ _ _ _ _ h.code (Keeps.of_below hb), h.state, fun b hF => by have := h.inF b hF; have := hb.size; omega, row_later h.last hb h.last.lt, below_trans h.below hb, h.gl0⟩
/-- a call on the disk -/
theorem RAt.done {W : World} {n k gl : Nat} {ad : Addr} {w w' : World} {F : Nat → Prop} {st st' : St} (h : RAt W n k gl ad w F st) (hc : CA w' (grow F w w') (.pointer (some ad)) st') (ht : Touch F w w') (hs : RState n (k + 1) st') (hl : lastOfSt st' = lastOfSt st) : RAt W n (k + 1) gl ad w' (grow F w w') st' := by
  have hz := ht.size
  have hgl := h.last.lt
  refine ⟨hc, hs, fun b hF => ?_, ?_, h.below.trans (ht.below h.below.size fun i hi => (h.inF i hi).1), h.gl0⟩
  · rcases hF with hF | hF
    · have := h.inF b hF; omega
    · have := h.below.size; omega
  · rw [hl]
    exact (ht.block gl hgl (fun hF => (h.inF gl hF).2.2 rfl)).trans h.last
theorem RAt.more {W : World} {n k gl : Nat} {ad : Addr} {w : World} {F : Nat → Prop} {st : St} (h : RAt W n k gl ad w F st) : RAt W n (k + 1) gl ad w F st :=
  ⟨h.code, ⟨h.state.good.more, h.state.bad, h.state.len⟩, h.inF, h.last, h.below, h.gl0⟩
theorem RAt.fine {W : World} {n k gl : Nat} {ad : Addr} {w : World} {F : Nat → Prop} {st : St} (h : RAt W n k gl ad w F st) (hk : k ≤ 900) : st.fine := h.state.good.fine hk
/-- the array has turned with what is read -/
theorem RAt.noted {W : World} {n k gl : Nat} {ad : Addr} {w w' w2 : World} {F : Nat → Prop} {st st' : St} (h : RAt W n k gl ad w F st) (hc : CA w' (grow F w w') (.pointer (some ad)) st') (ht : Touch F w w') (hs : RState n (k + 1) st') (hl : LastAt w2 gl (lastOfSt st')) (h2 : Touch (· = gl) w' w2) : RAt W n (k + 1) gl ad w2 (grow F w w') st' := by
  have hz := ht.size
  have hz2 := h2.size
  have hgl := h.last.lt
  have hno : ∀ b, grow F w w' b → b ≠ gl := fun b hF => by
    rcases hF with hF | hF
    · exact (h.inF b hF).2.2
    · omega
  refine ⟨diskIs.kept _ _ _ _ _ hc (h2.keeps fun b hb e => hno b hb e), hs, fun b hF => ⟨?_, ?_, hno b hF⟩, hl, (h.below.trans (ht.below h.below.size fun i hi => (h.inF i hi).1)).trans (h2.below (by have := h.below.size; omega) fun i hi => by rw [hi]; exact h.gl0), h.gl0⟩
  · rcases hF with hF | hF
    · exact (h.inF b hF).1
    · have := h.below.size; omega
  · rcases hF with hF | hF
    · have := (h.inF b hF).2.1; omega
    · omega
set_option maxRecDepth 100000 in
set_option maxHeartbeats 16000000 in
theorem walkBdiskReads (n0 : Int) (hn0 : wf64 n0) (p : Option Addr) (m c : Nat) (l : List Act0) (W : World) (h2 : Rd W 38 (.slice p m c) m ((l.map Act0.c).flatten)) (hm : m ≤ maxLen) (hok : ∀ a ∈ l, a.ok W) :
    Calls Try.prog 4 #[.int .i64 n0, .slice p m c] W fun e w' => e = .returned (.bool true) ∧ Below W.heap.size W w' := by
  have H2 := Lib.hid h2
  have HOK := Lib.hid hok
  have HLI := Lib.hid (light_any p m c l W (Below.refl _ _) hok h2 hm)
  have hq1 := fun p w => null_eq und_pd p w
  have hm1 : (m : Int) ≤ 9223372036854775807 := by unfold maxLen at hm; omega
  have hx0 := wf_i64 hn0
  have HN0 := Lib.hid hn0
  clear h2 hok hn0
  go_enter Try.func4, Try.ntmps4
  go_wp2_with fail
  refine HLI.out.mono ?_
  rintro e w1 ⟨b, rfl, rfl, hb⟩
  clear HLI
  cases b with
  | false =>
    go_wp2_with (go_at_call 6; refine (cknows _).mono ?_; rintro e w1 ⟨rfl, hb1⟩)
    go_ret
    exact ⟨rfl, hb1⟩
  | true =>
    obtain ⟨hm60, hli⟩ := hb rfl
    have HLI := Lib.hid hli
    clear hb hli
    go_wp2_with fail
    refine (cknows _).mono ?_
    rintro e w1 ⟨rfl, hb1⟩
    have HB1 := Lib.hid hb1
    clear hb1
    by_cases h65 : 1 ≤ n0 ∧ n0 ≤ 65
    · obtain ⟨n, rfl⟩ : ∃ n : Nat, n0 = (n : Int) := ⟨n0.toNat, by omega⟩
      have HNY := Lib.hid (cnew_yes w1 n (by omega) (by omega))
      have hn1 : (1 : Int) ≤ n := h65.1
      have hn65 : (n : Int) ≤ 65 := h65.2
      have hz := zero_last
      go_wp2_with (go_at_call 23; refine HNY.out.mono ?_; rintro e w2 ⟨ad, rfl, hc2, hb2⟩; have HC2 := Lib.hid hc2; have HB2 := Lib.hid hb2; clear hc2 hb2)
      have s1 := HB1.out.size
      have s2 := HB2.out.size
      have HRA0 : Hid (RAt W n 0 w2.heap.size ad (w2.alloc (.cells (cellsOf z65).toArray 61)) (fun b => w1.heap.size ≤ b ∧ b < w2.heap.size) (st0 (List.replicate n zero32))) := Lib.hid (by
        have hal := below_alloc (Below.refl w2.heap.size w2) (.cells (cellsOf z65).toArray 61)
        refine ⟨diskIs.kept _ _ _ _ _ HC2.out (Keeps.of_below hal), ⟨⟨secs_zero n, by show (List.replicate n zero32).length ≤ 65; rw [List.length_replicate]; omega, fun x hx => (by cases hx), fun x hx => (by cases hx), Nat.le_refl _, Nat.le_refl _, Nat.zero_le _, ⟨Int.le_refl _, Int.le_refl _⟩, ⟨Int.le_refl _, Int.le_refl _⟩⟩, rfl, List.length_replicate⟩, fun b hb => ⟨by omega, by rw [size_alloc]; omega, by omega⟩, ?_, below_trans (below_trans HB1.out HB2.out) hal, by omega⟩
        have e : lastOfSt (st0 (List.replicate n zero32)) = z65 := by
          show List.replicate n zero32 ++ List.replicate (65 - (List.replicate n zero32).length) zero32 = List.replicate 65 zero32
          rw [List.length_replicate, List.replicate_append_replicate]
          congr 1; omega
        rw [e]
        exact heap_alloc_new _ _)
      have HLL := Lib.hid (Rd.count Act0.c H2.out (fun x hx => Act0.c_len (HOK.out x hx)) (by decide))
      clear hz HC2 HNY HB1 HB2 s1 s2 h65
      generalize w2.alloc (.cells (cellsOf z65).toArray 61) = W3 at *
      generalize w2.heap.size = gl at *
      generalize (fun b => w1.heap.size ≤ b ∧ b < w2.heap.size) = F0 at *
      generalize st0 (List.replicate n zero32) = stz at *
      have hm60' : (m : Int) ≤ 60 := by omega
      go_loopw [8] (fun iv wr => ∃ (i : Nat) (F : Nat → Prop) (st : St), i ≤ m ∧ iv = .int .i64 (i : Int) ∧ Hid (RAt W n i gl ad wr F st)) (fun iv _ => m - (intOf iv).toNat)
      case atStart => exact ⟨0, _, _, by omega, rfl, HRA0⟩
      case round =>
        clear HRA0
        obtain ⟨i, F, st, hi, rfl, HRA⟩ := hrel
        by_cases him : i < m
        · have him1 : (i:Int) < m := by omega
          have hil : i < l.length := by rw [HLL.out]; exact him
          obtain ⟨b2, o2, rfl, hcc2, hcm2, hb2, _, HR2⟩ := Rd.chunk Act0.c H2.out (fun x hx => Act0.c_len (HOK.out x hx)) (by decide) him
          have hmem := List.getElem_mem hil
          have HAO := Lib.hid (HOK.out _ hmem)
          have HAL := Lib.hid (HLI.out _ hmem)
          have HWR := Lib.hid (Rd.rangeLater (HR2 i hil) hb2 HRA.out.below)
          generalize l[i] = a at *
          clear HR2 hmem
          have HAC := Lib.hid (Act0.c_len HAO.out)
          have hfi := HRA.out.fine (by omega)
          have hw4 := HRA.out.below.size
          rcases (show ((0 ≤ a.kind ∧ a.kind < 2) ∧ (0 ≤ a.pos ∧ a.pos < (n : Int))) ∨ ((0 ≤ a.kind ∧ a.kind < 2) ∧ ¬ (0 ≤ a.pos ∧ a.pos < (n : Int))) ∨ a.kind = 3 ∨ a.kind = 2 ∨ (a.kind < 0) ∨ (2 ≤ a.kind ∧ a.kind ≠ 2 ∧ a.kind ≠ 3) by omega) with ⟨h01, hin⟩ | ⟨h01, hin⟩ | h3 | h2k | hk0 | hk9
          · skip
            -- a write that is taken
            have d3 : (a.kind == 3) = false := beq_eq_false_iff_ne.2 (by omega)
            have d2 : (a.kind == 2) = false := beq_eq_false_iff_ne.2 (by omega)
            have dk1 : decide (a.kind < 2) = true := by simp; omega
            have dk2 : decide (0 ≤ a.kind) = true := by simp; omega
            go_wp2_with (first | (refine load_act rfl (.tmp 52) rfl b2 (o2 + i * 38) rfl a HAC.out HWR.out ?_) | (refine store_act rfl _ _ rfl rfl wr.heap.size a act0 rfl rfl HAO.out rfl (boxed_new wr) ?_; intro w4 hx4 hb4; have HX4 := Lib.hid hx4; have HRA4 := Lib.hid (HRA.out.later ((below_alloc (Below.refl _ wr) _).trans hb4)); have s4 := hb4.size; clear hx4 hb4; have ck := (act_parts HAO.out HX4.out.range).1; obtain ⟨cp, cS, cT, cvt, _⟩ := box_parts HAO.out HX4.out; have c34 : w4.cell? ⟨wr.heap.size, 34, none⟩ = some (.int .i64 a.k) := cT 0 _ rfl; have c35 : w4.cell? ⟨wr.heap.size, 35, none⟩ = some (.int .i64 a.id) := cT 1 _ rfl) | (refine load_mid_g (by rfl) (.tmp 66) rfl wr.heap.size 2 rfl a.s HAO.out.sec.1 cS ?_))
            have hno : ¬ F wr.heap.size := fun hF => by have := (HRA.out.inF _ hF).2.1; omega
            obtain ⟨hwe, hws, hwl⟩ := rstate_write HRA4.out.state a HAO.out hin
            have hwr := cwrite w4 F (.pointer (some ad)) st a.pos a.s a.k a.id HRA4.out.code (HRA4.out.fine (by omega)) HAO.out.pos HAO.out.sec HAO.out.k HAO.out.id
            unfold CodeDone at hwr
            rw [show (writeR st a.pos a.s a.k a.id).1 = 0 by rw [hwe]] at hwr
            refine hwr.mono ?_
            rintro e w5 ⟨rfl, hc5, ht5⟩
            have HX5 := Lib.hid (HX4.out.touch ht5 hno)
            have HL5 : Hid (LastAt w5 gl (lastOfSt st)) := Lib.hid (row_touch HRA4.out.last ht5 (fun hF => (HRA4.out.inF gl hF).2.2 rfl))
            obtain ⟨kp, hkp⟩ : ∃ kp : Nat, a.pos = (kp : Int) := ⟨a.pos.toNat, by omega⟩
            obtain ⟨cp5, cS5, _, _, _⟩ := box_parts HAO.out HX5.out
            rw [show a.pos.toNat = kp by omega] at hwl
            rw [hkp] at cp5 cp
            have hk65 : (kp : Int) < 65 := by omega
            have HC5 := Lib.hid hc5
            have HT5 := Lib.hid ht5
            have HWS := Lib.hid hws
            have HWL := Lib.hid hwl
            have hgw : wr.heap.size ≠ gl := by have := HRA.out.last.lt; omega
            have hss := lastOfSt_secs HRA4.out.state (by omega)
            have hsl := lastOfSt_len HRA4.out.state (by omega)
            clear hc5 ht5 hwr hwe hws hwl cS cT cvt c34 c35 cp ck hno
            go_wp2_with (first | (go_at_call 9; refine (num_any _ _).mono ?_; rintro e wz ⟨rfl, rfl⟩) | (refine load_mid rfl (.tmp 76) rfl wr.heap.size 2 rfl a.s HAO.out.sec.1 cS5 ?_) | (refine store_last rfl _ _ rfl rfl gl kp rfl a.s rfl HAO.out.sec (lastOfSt st) hss (by omega) HL5.out ?_; intro w6 hl6 ht6; have HL6 := Lib.hid hl6; have HT6 := Lib.hid ht6; have ck6 := (act_parts HAO.out (HX5.out.touch ht6 hgw).range).1; clear hl6 ht6))
            have HRQ : Hid (RAt W n (i + 1) gl ad w6 (grow F w4 w5) (writeR st a.pos a.s a.k a.id).2) := Lib.hid (HRA4.out.noted HC5.out HT5.out HWS.out (by rw [HWL.out]; exact HL6.out) HT6.out)
            obtain ⟨wq, hwq⟩ : ∃ x, x = w6 := ⟨_, rfl⟩
            obtain ⟨Fq, hFq⟩ : ∃ x, x = grow F w4 w5 := ⟨_, rfl⟩
            obtain ⟨stq, hstq⟩ : ∃ x, x = (writeR st a.pos a.s a.k a.id).2 := ⟨_, rfl⟩
            rw [← hFq, ← hstq] at HRQ
            clear hFq hstq
            subst hwq
            go_loopw [11] (fun kv wr => ∃ (k : Nat), k ≤ n ∧ kv = .int .i64 (k : Int) ∧ Hid (Below wq.heap.size wq wr)) (fun kv _ => n - (intOf kv).toNat)
            case atStart => exact ⟨0, by omega, rfl, Lib.hid (Below.refl _ _)⟩
            case round =>
              obtain ⟨k, hk, rfl, HBK⟩ := hrel
              by_cases hkn : k < n
              · have hkn1 : (k:Int) < n := by omega
                have hk65 : (k:Int) < 65 := by omega
                have HRK := Lib.hid (HRQ.out.later HBK.out)
                have hlk : k < stq.safe.length := by rw [HRK.out.state.len]; exact hkn
                have hrd : readR stq (k : Int) = .tuple #[agg (readOf stq k), .int .i64 0] := by
                  unfold readR
                  rw [if_pos ⟨by omega, by omega⟩, Int.toNat_natCast]
                have hcr := cread wr Fq (.pointer (some ad)) stq (k : Int) HRK.out.code (HRK.out.fine (by omega)) (WalkArith.wf_i64 (by omega))
                rw [hrd] at hcr
                have HCR := Lib.hid hcr
                have hat := lastOfSt_at HRK.out.state (by omega) hkn
                have hll := lastOfSt_len HRK.out.state (by omega)
                have hls := lastOfSt_secs HRK.out.state (by omega)
                have hat2 : (lastOfSt stq)[k]'(by omega) = readOf stq k := Option.some.inj ((List.getElem?_eq_getElem _).symm.trans hat)
                have hrs : Sec (readOf stq k) := by rw [← hat2]; exact hls _ (List.getElem_mem _)
                have hrg := HRK.out.last.range hls (k := k) (by omega)
                rw [hat2] at hrg
                have HRG := Lib.hid hrg
                have HRS := Lib.hid hrs
                have hgl := HRK.out.last.lt
                have HSG := guard_sec
                have HEQ : Hid (∀ w, (Op.equalIn 10000 35 (.agg (u8s (readOf stq k)).toArray) (.agg (u8s (readOf stq k)).toArray)).run Try.prog w = .ok true w) := Lib.hid fun w => by rw [eqIn_sec w hrs hrs, decide_eq_true rfl]
                clear hrd hcr hat hll hls hat2 hrs hrg
                generalize readOf stq k = sk at *
                go_wp2_with (first | (go_at_call 26; refine HCR.out.mono ?_; rintro e w6 ⟨rfl, hb6⟩; have HB6 := Lib.hid hb6; clear hb6) | (refine store_at rfl (.tmp 12) (.tmp 108) rfl rfl w6.heap.size sk zero32 rfl rfl HRS.out.1 (by decide) (at_lit w6) ?_; intro w7 hA7 hB7 hK7; have A7 := Lib.hid hA7; have HB7 := Lib.hid ((below_alloc (Below.refl _ w6) _).trans hB7); clear hA7 hB7 hK7))
                have s6 := HB6.out.size
                have hl7 : w6.heap.size < w7.heap.size := (Array.getElem?_eq_some_iff.1 A7.out).1
                have HB67 := Lib.hid (below_trans HB6.out HB7.out)
                have HR7 := Lib.hid (Rd.rangeLater HRG.out hgl HB67.out)
                have hgl7 : gl < w7.heap.size := Nat.lt_of_lt_of_le hgl HB67.out.size
                have h0 := Below.refl w7.drew.heap.size w7.drew
                refine wp_region_held_drew (S := ext w7.drew) (by kernel_rfl) (Below.refl _ _) (fun hH0 => ?_)
                refine wpAnyH_take (i := 0) (oi := { dst := some 110, op := Op.move (Operand.tmp 13), type := 27, pos := "law.go:114", after := #[], guard := none }) (v := ?_) rfl (by kernel_rfl) (by kernel_rfl) (by kernel_rfl) (fun _ _ _ h => h) (Or.inl ⟨by rfl, ?_⟩) (by assumption) ?_
                rotate_left
                · (intro w' hSw; go_simp; try with_reducible rfl)
                try simp only [Act.put, List.setIfInBounds_toArray, List.set_cons_zero, List.set_cons_succ]
                -- 1
                refine wpAnyH_ready (rs := [1]) (by kernel_rfl) (by simp) ?_
                refine AllReadyH.cons (o := { dst := some 111, op := Op.call { callee := Callee.value (Operand.func 9), args := #[Operand.tmp 110], argTypes := #[27] }, type := 3, pos := "law.go:114", after := #[{ on := 0, ground := Ground.data }], guard := none }) rfl (fun K hK => ?_) AllReadyH.nil
                go_simp
                refine (num_any 0 _).mono ?_
                rintro e v ⟨rfl, rfl⟩
                have h1 := h0
                dsimp only
                refine hK.out _ _ ?_ (fun hHeld => ?_)
                · exact h0
                clear hK K
                try simp only [Act.put, List.setIfInBounds_toArray, List.set_cons_zero, List.set_cons_succ]
                refine wpAnyH_take (i := 2) (oi := { dst := some 112, op := Op.binOp BinOp.neq 3 (Operand.tmp 111) (Operand.const (Value.int IntKind.i64 0)) 3, type := 4, pos := "law.go:114", after := #[{ on := 1, ground := Ground.data }], guard := none }) (v := ?_) rfl (by kernel_rfl) (by kernel_rfl) (by kernel_rfl) (fun _ _ _ h => h) (Or.inl ⟨by rfl, ?_⟩) (by assumption) ?_
                rotate_left
                · (intro w' hSw; go_simp; try with_reducible rfl)
                try simp only [Act.put, List.setIfInBounds_toArray, List.set_cons_zero, List.set_cons_succ]
                refine wpAnyH_take (i := 3) (oi := { dst := some 113, op := Op.move (Operand.tmp 112), type := 4, pos := "law.go:114", after := #[{ on := 2, ground := Ground.data }, { on := 1, ground := Ground.chain }], guard := none }) (v := ?_) rfl (by kernel_rfl) (by kernel_rfl) (by kernel_rfl) (fun _ _ _ h => h) (Or.inl ⟨by rfl, ?_⟩) (by assumption) ?_
                rotate_left
                · (intro w' hSw; go_simp; try with_reducible rfl)
                try simp only [Act.put, List.setIfInBounds_toArray, List.set_cons_zero, List.set_cons_succ]
                refine' wpAnyH_take (i := 4) (oi := { dst := some 114, op := Op.load 35 (Operand.tmp 12), type := 35, pos := "law.go:114", after := #[{ on := 3, ground := Ground.guard }], guard := some (3, false) }) (v := _) rfl (by kernel_rfl) (by kernel_rfl) (by kernel_rfl) (fun _ _ _ h => h) (ld_sec (by rfl) _ rfl w6.heap.size 0 rfl sk HRS.out.1 (fun w' hw => At.range (row_later A7.out (below_drew hw) hl7))) (by assumption) ?_
                try simp only [Act.put, List.setIfInBounds_toArray, List.set_cons_zero, List.set_cons_succ]
                refine wpAnyH_take (i := 5) (oi := { dst := some 115, op := Op.move (Operand.tmp 11), type := 3, pos := "law.go:114", after := #[{ on := 3, ground := Ground.guard }], guard := some (3, false) }) (v := ?_) rfl (by kernel_rfl) (by kernel_rfl) (by kernel_rfl) (fun _ _ _ h => h) (Or.inl ⟨by rfl, ?_⟩) (by assumption) ?_
                rotate_left
                · (intro w' hSw; go_simp; try with_reducible rfl)
                try simp only [Act.put, List.setIfInBounds_toArray, List.set_cons_zero, List.set_cons_succ]
                refine wpAnyH_take (i := 6) (oi := { dst := some 116, op := Op.indexAddr 61 (Operand.tmp 7) (Operand.tmp 115), type := 0, pos := "law.go:114", after := #[{ on := 5, ground := Ground.data }, { on := 3, ground := Ground.guard }], guard := some (3, false) }) (v := ?_) rfl (by kernel_rfl) (by kernel_rfl) (by kernel_rfl) (fun _ _ _ h => h) (Or.inl ⟨by rfl, ?_⟩) (by assumption) ?_
                rotate_left
                · (intro w' hSw; go_simp; try with_reducible rfl)
                try simp only [Act.put, List.setIfInBounds_toArray, List.set_cons_zero, List.set_cons_succ]
                refine' wpAnyH_take (i := 7) (oi := { dst := some 117, op := Op.load 35 (Operand.tmp 116), type := 35, pos := "law.go:114", after := #[{ on := 6, ground := Ground.data }, { on := 3, ground := Ground.guard }], guard := some (3, false) }) (v := _) rfl (by kernel_rfl) (by kernel_rfl) (by kernel_rfl) (fun _ _ _ h => h) (ld_sec (by rfl) _ rfl gl (k * 32) rfl sk HRS.out.1 (fun w' hw => Rd.rangeLater HR7.out hgl7 (below_drew hw))) (by assumption) ?_
                try simp only [Act.put, List.setIfInBounds_toArray, List.set_cons_zero, List.set_cons_succ]
                refine' wpAnyH_take (i := 8) (oi := { dst := some 118, op := Op.binOp BinOp.neq 35 (Operand.tmp 114) (Operand.tmp 117) 35, type := 4, pos := "law.go:114", after := #[{ on := 4, ground := Ground.data }, { on := 7, ground := Ground.data }, { on := 3, ground := Ground.guard }], guard := some (3, false) }) (v := _) rfl (by kernel_rfl) (by kernel_rfl) (by kernel_rfl) (fun _ _ _ h => h) (neq_yields (by rfl) 35 _ _ _ rfl (u8s sk).toArray (u8s sk).toArray (by rfl) (by rfl) HSG true HEQ.out) (by assumption) ?_
                try simp only [Act.put, List.setIfInBounds_toArray, List.set_cons_zero, List.set_cons_succ]
                refine wpAnyH_take (i := 9) (oi := { dst := some 119, op := Op.pick (Operand.tmp 113) (Operand.const (Value.bool true)) (Operand.tmp 118), type := 4, pos := "law.go:114", after := #[{ on := 3, ground := Ground.data }, { on := 8, ground := Ground.data }], guard := none }) (v := ?_) rfl (by kernel_rfl) (by kernel_rfl) (by kernel_rfl) (fun _ _ _ h => h) (Or.inl ⟨by rfl, ?_⟩) (by assumption) ?_
                rotate_left
                · (intro w' hSw; go_simp; try with_reducible rfl)
                try simp only [Act.put, List.setIfInBounds_toArray, List.set_cons_zero, List.set_cons_succ]
                refine wpAnyH_done (by kernel_rfl) ?_ _
                have HLAST := Lib.hid (below_drew h1)
                clear hHeld hH0
                go_wp2_with fail
                exact ⟨⟨k + 1, by omega, by go_num, Lib.hid (below_trans (below_trans HBK.out HB67.out) HLAST.out)⟩, by simp [intOf]; omega⟩
              · obtain rfl : k = n := by omega
                go_wp2_with fail
                exact ⟨⟨i + 1, Fq, stq, by omega, by go_num, Lib.hid (HRQ.out.later HBK.out)⟩, by simp [intOf]; omega⟩
          · skip
            -- a write that is refused
            have d3 : (a.kind == 3) = false := beq_eq_false_iff_ne.2 (by omega)
            have d2 : (a.kind == 2) = false := beq_eq_false_iff_ne.2 (by omega)
            have dk1 : decide (a.kind < 2) = true := by simp; omega
            have dk2 : decide (0 ≤ a.kind) = true := by simp; omega
            go_wp2_with (first | (refine load_act rfl (.tmp 52) rfl b2 (o2 + i * 38) rfl a HAC.out HWR.out ?_) | (refine store_act rfl _ _ rfl rfl wr.heap.size a act0 rfl rfl HAO.out rfl (boxed_new wr) ?_; intro w4 hx4 hb4; have HX4 := Lib.hid hx4; have HRA4 := Lib.hid (HRA.out.later ((below_alloc (Below.refl _ wr) _).trans hb4)); have s4 := hb4.size; clear hx4 hb4; have ck := (act_parts HAO.out HX4.out.range).1; obtain ⟨cp, cS, cT, cvt, _⟩ := box_parts HAO.out HX4.out; have c34 : w4.cell? ⟨wr.heap.size, 34, none⟩ = some (.int .i64 a.k) := cT 0 _ rfl; have c35 : w4.cell? ⟨wr.heap.size, 35, none⟩ = some (.int .i64 a.id) := cT 1 _ rfl) | (refine load_mid_g (by rfl) (.tmp 66) rfl wr.heap.size 2 rfl a.s HAO.out.sec.1 cS ?_))
            have hno : ¬ F wr.heap.size := fun hF => by have := (HRA.out.inF _ hF).2.1; omega
            obtain ⟨hwe, hws, hwl⟩ := rstate_out HRA4.out.state a HAO.out hin
            have hwr := cwrite w4 F (.pointer (some ad)) st a.pos a.s a.k a.id HRA4.out.code (HRA4.out.fine (by omega)) HAO.out.pos HAO.out.sec HAO.out.k HAO.out.id
            unfold CodeDone at hwr
            rw [hwe] at hwr
            refine hwr.mono ?_
            rintro e w5 ⟨rfl, hc5, ht5⟩
            have ck5 := (act_parts HAO.out (HX4.out.touch ht5 hno).range).1
            have HRQ : Hid (RAt W n (i + 1) gl ad w5 (grow F w4 w5) st.asked1) := Lib.hid (HRA4.out.done hc5 ht5 hws hwl)
            clear hc5 ht5 hwr hwe hws hwl cS cT cvt c34 c35 cp ck hno
            go_wp2_with (go_at_call 9; refine (num_any _ _).mono ?_; rintro e wz ⟨rfl, rfl⟩)
            obtain ⟨wq, hwq⟩ : ∃ x, x = w5 := ⟨_, rfl⟩
            obtain ⟨Fq, hFq⟩ : ∃ x, x = grow F w4 w5 := ⟨_, rfl⟩
            obtain ⟨stq, hstq⟩ : ∃ x, x = st.asked1 := ⟨_, rfl⟩
            rw [← hFq, ← hstq] at HRQ
            clear hFq hstq
            subst hwq
            go_loopw [11] (fun kv wr => ∃ (k : Nat), k ≤ n ∧ kv = .int .i64 (k : Int) ∧ Hid (Below wq.heap.size wq wr)) (fun kv _ => n - (intOf kv).toNat)
            case atStart => exact ⟨0, by omega, rfl, Lib.hid (Below.refl _ _)⟩
            case round =>
              obtain ⟨k, hk, rfl, HBK⟩ := hrel
              by_cases hkn : k < n
              · have hkn1 : (k:Int) < n := by omega
                have hk65 : (k:Int) < 65 := by omega
                have HRK := Lib.hid (HRQ.out.later HBK.out)
                have hlk : k < stq.safe.length := by rw [HRK.out.state.len]; exact hkn
                have hrd : readR stq (k : Int) = .tuple #[agg (readOf stq k), .int .i64 0] := by
                  unfold readR
                  rw [if_pos ⟨by omega, by omega⟩, Int.toNat_natCast]
                have hcr := cread wr Fq (.pointer (some ad)) stq (k : Int) HRK.out.code (HRK.out.fine (by omega)) (WalkArith.wf_i64 (by omega))
                rw [hrd] at hcr
                have HCR := Lib.hid hcr
                have hat := lastOfSt_at HRK.out.state (by omega) hkn
                have hll := lastOfSt_len HRK.out.state (by omega)
                have hls := lastOfSt_secs HRK.out.state (by omega)
                have hat2 : (lastOfSt stq)[k]'(by omega) = readOf stq k := Option.some.inj ((List.getElem?_eq_getElem _).symm.trans hat)
                have hrs : Sec (readOf stq k) := by rw [← hat2]; exact hls _ (List.getElem_mem _)
                have hrg := HRK.out.last.range hls (k := k) (by omega)
                rw [hat2] at hrg
                have HRG := Lib.hid hrg
                have HRS := Lib.hid hrs
                have hgl := HRK.out.last.lt
                have HSG := guard_sec
                have HEQ : Hid (∀ w, (Op.equalIn 10000 35 (.agg (u8s (readOf stq k)).toArray) (.agg (u8s (readOf stq k)).toArray)).run Try.prog w = .ok true w) := Lib.hid fun w => by rw [eqIn_sec w hrs hrs, decide_eq_true rfl]
                clear hrd hcr hat hll hls hat2 hrs hrg
                generalize readOf stq k = sk at *
                go_wp2_with (first | (go_at_call 26; refine HCR.out.mono ?_; rintro e w6 ⟨rfl, hb6⟩; have HB6 := Lib.hid hb6; clear hb6) | (refine store_at rfl (.tmp 12) (.tmp 108) rfl rfl w6.heap.size sk zero32 rfl rfl HRS.out.1 (by decide) (at_lit w6) ?_; intro w7 hA7 hB7 hK7; have A7 := Lib.hid hA7; have HB7 := Lib.hid ((below_alloc (Below.refl _ w6) _).trans hB7); clear hA7 hB7 hK7))
                have s6 := HB6.out.size
                have hl7 : w6.heap.size < w7.heap.size := (Array.getElem?_eq_some_iff.1 A7.out).1
                have HB67 := Lib.hid (below_trans HB6.out HB7.out)
                have HR7 := Lib.hid (Rd.rangeLater HRG.out hgl HB67.out)
                have hgl7 : gl < w7.heap.size := Nat.lt_of_lt_of_le hgl HB67.out.size
                have h0 := Below.refl w7.drew.heap.size w7.drew
                refine wp_region_held_drew (S := ext w7.drew) (by kernel_rfl) (Below.refl _ _) (fun hH0 => ?_)
                refine wpAnyH_take (i := 0) (oi := { dst := some 110, op := Op.move (Operand.tmp 13), type := 27, pos := "law.go:114", after := #[], guard := none }) (v := ?_) rfl (by kernel_rfl) (by kernel_rfl) (by kernel_rfl) (fun _ _ _ h => h) (Or.inl ⟨by rfl, ?_⟩) (by assumption) ?_
                rotate_left
                · (intro w' hSw; go_simp; try with_reducible rfl)
                try simp only [Act.put, List.setIfInBounds_toArray, List.set_cons_zero, List.set_cons_succ]
                -- 1
                refine wpAnyH_ready (rs := [1]) (by kernel_rfl) (by simp) ?_
                refine AllReadyH.cons (o := { dst := some 111, op := Op.call { callee := Callee.value (Operand.func 9), args := #[Operand.tmp 110], argTypes := #[27] }, type := 3, pos := "law.go:114", after := #[{ on := 0, ground := Ground.data }], guard := none }) rfl (fun K hK => ?_) AllReadyH.nil
                go_simp
                refine (num_any 0 _).mono ?_
                rintro e v ⟨rfl, rfl⟩
                have h1 := h0
                dsimp only
                refine hK.out _ _ ?_ (fun hHeld => ?_)
                · exact h0
                clear hK K
                try simp only [Act.put, List.setIfInBounds_toArray, List.set_cons_zero, List.set_cons_succ]
                refine wpAnyH_take (i := 2) (oi := { dst := some 112, op := Op.binOp BinOp.neq 3 (Operand.tmp 111) (Operand.const (Value.int IntKind.i64 0)) 3, type := 4, pos := "law.go:114", after := #[{ on := 1, ground := Ground.data }], guard := none }) (v := ?_) rfl (by kernel_rfl) (by kernel_rfl) (by kernel_rfl) (fun _ _ _ h => h) (Or.inl ⟨by rfl, ?_⟩) (by assumption) ?_
                rotate_left
                · (intro w' hSw; go_simp; try with_reducible rfl)
                try simp only [Act.put, List.setIfInBounds_toArray, List.set_cons_zero, List.set_cons_succ]
                refine wpAnyH_take (i := 3) (oi := { dst := some 113, op := Op.move (Operand.tmp 112), type := 4, pos := "law.go:114", after := #[{ on := 2, ground := Ground.data }, { on := 1, ground := Ground.chain }], guard := none }) (v := ?_) rfl (by kernel_rfl) (by kernel_rfl) (by kernel_rfl) (fun _ _ _ h => h) (Or.inl ⟨by rfl, ?_⟩) (by assumption) ?_
                rotate_left
                · (intro w' hSw; go_simp; try with_reducible rfl)
                try simp only [Act.put, List.setIfInBounds_toArray, List.set_cons_zero, List.set_cons_succ]
                refine' wpAnyH_take (i := 4) (oi := { dst := some 114, op := Op.load 35 (Operand.tmp 12), type := 35, pos := "law.go:114", after := #[{ on := 3, ground := Ground.guard }], guard := some (3, false) }) (v := _) rfl (by kernel_rfl) (by kernel_rfl) (by kernel_rfl) (fun _ _ _ h => h) (ld_sec (by rfl) _ rfl w6.heap.size 0 rfl sk HRS.out.1 (fun w' hw => At.range (row_later A7.out (below_drew hw) hl7))) (by assumption) ?_
                try simp only [Act.put, List.setIfInBounds_toArray, List.set_cons_zero, List.set_cons_succ]
                refine wpAnyH_take (i := 5) (oi := { dst := some 115, op := Op.move (Operand.tmp 11), type := 3, pos := "law.go:114", after := #[{ on := 3, ground := Ground.guard }], guard := some (3, false) }) (v := ?_) rfl (by kernel_rfl) (by kernel_rfl) (by kernel_rfl) (fun _ _ _ h => h) (Or.inl ⟨by rfl, ?_⟩) (by assumption) ?_
                rotate_left
                · (intro w' hSw; go_simp; try with_reducible rfl)
                try simp only [Act.put, List.setIfInBounds_toArray, List.set_cons_zero, List.set_cons_succ]
                refine wpAnyH_take (i := 6) (oi := { dst := some 116, op := Op.indexAddr 61 (Operand.tmp 7) (Operand.tmp 115), type := 0, pos := "law.go:114", after := #[{ on := 5, ground := Ground.data }, { on := 3, ground := Ground.guard }], guard := some (3, false) }) (v := ?_) rfl (by kernel_rfl) (by kernel_rfl) (by kernel_rfl) (fun _ _ _ h => h) (Or.inl ⟨by rfl, ?_⟩) (by assumption) ?_
                rotate_left
                · (intro w' hSw; go_simp; try with_reducible rfl)
                try simp only [Act.put, List.setIfInBounds_toArray, List.set_cons_zero, List.set_cons_succ]
                refine' wpAnyH_take (i := 7) (oi := { dst := some 117, op := Op.load 35 (Operand.tmp 116), type := 35, pos := "law.go:114", after := #[{ on := 6, ground := Ground.data }, { on := 3, ground := Ground.guard }], guard := some (3, false) }) (v := _) rfl (by kernel_rfl) (by kernel_rfl) (by kernel_rfl) (fun _ _ _ h => h) (ld_sec (by rfl) _ rfl gl (k * 32) rfl sk HRS.out.1 (fun w' hw => Rd.rangeLater HR7.out hgl7 (below_drew hw))) (by assumption) ?_
                try simp only [Act.put, List.setIfInBounds_toArray, List.set_cons_zero, List.set_cons_succ]
                refine' wpAnyH_take (i := 8) (oi := { dst := some 118, op := Op.binOp BinOp.neq 35 (Operand.tmp 114) (Operand.tmp 117) 35, type := 4, pos := "law.go:114", after := #[{ on := 4, ground := Ground.data }, { on := 7, ground := Ground.data }, { on := 3, ground := Ground.guard }], guard := some (3, false) }) (v := _) rfl (by kernel_rfl) (by kernel_rfl) (by kernel_rfl) (fun _ _ _ h => h) (neq_yields (by rfl) 35 _ _ _ rfl (u8s sk).toArray (u8s sk).toArray (by rfl) (by rfl) HSG true HEQ.out) (by assumption) ?_
                try simp only [Act.put, List.setIfInBounds_toArray, List.set_cons_zero, List.set_cons_succ]
                refine wpAnyH_take (i := 9) (oi := { dst := some 119, op := Op.pick (Operand.tmp 113) (Operand.const (Value.bool true)) (Operand.tmp 118), type := 4, pos := "law.go:114", after := #[{ on := 3, ground := Ground.data }, { on := 8, ground := Ground.data }], guard := none }) (v := ?_) rfl (by kernel_rfl) (by kernel_rfl) (by kernel_rfl) (fun _ _ _ h => h) (Or.inl ⟨by rfl, ?_⟩) (by assumption) ?_
                rotate_left
                · (intro w' hSw; go_simp; try with_reducible rfl)
                try simp only [Act.put, List.setIfInBounds_toArray, List.set_cons_zero, List.set_cons_succ]
                refine wpAnyH_done (by kernel_rfl) ?_ _
                have HLAST := Lib.hid (below_drew h1)
                clear hHeld hH0
                go_wp2_with fail
                exact ⟨⟨k + 1, by omega, by go_num, Lib.hid (below_trans (below_trans HBK.out HB67.out) HLAST.out)⟩, by simp [intOf]; omega⟩
              · obtain rfl : k = n := by omega
                go_wp2_with fail
                exact ⟨⟨i + 1, Fq, stq, by omega, by go_num, Lib.hid (HRQ.out.later HBK.out)⟩, by simp [intOf]; omega⟩
          · skip
            -- a barrier
            have d3 : (a.kind == 3) = true := beq_iff_eq.2 h3
            have d2 : (a.kind == 2) = false := beq_eq_false_iff_ne.2 (by omega)
            have dk1 : decide (a.kind < 2) = false := by simp; omega
            go_wp2_with (first | (refine load_act rfl (.tmp 52) rfl b2 (o2 + i * 38) rfl a HAC.out HWR.out ?_) | (refine store_act rfl _ _ rfl rfl wr.heap.size a act0 rfl rfl HAO.out rfl (boxed_new wr) ?_; intro w4 hx4 hb4; have HX4 := Lib.hid hx4; have HRA4 := Lib.hid (HRA.out.later ((below_alloc (Below.refl _ wr) _).trans hb4)); have s4 := hb4.size; clear hx4 hb4; have ck := (act_parts HAO.out HX4.out.range).1; obtain ⟨cp, cS, cT, cvt, _⟩ := box_parts HAO.out HX4.out; have c34 : w4.cell? ⟨wr.heap.size, 34, none⟩ = some (.int .i64 a.k) := cT 0 _ rfl; have c35 : w4.cell? ⟨wr.heap.size, 35, none⟩ = some (.int .i64 a.id) := cT 1 _ rfl))
            have hno : ¬ F wr.heap.size := fun hF => by have := (HRA.out.inF _ hF).2.1; omega
            refine (cbarrier w4 F (.pointer (some ad)) st HRA4.out.code (HRA4.out.fine (by omega))).mono ?_
            rintro e w5 ⟨rfl, hc5, ht5⟩
            have ck5 := (act_parts HAO.out (HX4.out.touch ht5 hno).range).1
            have hbs := rstate_bar HRA4.out.state w4
            have HRQ : Hid (RAt W n (i + 1) gl ad w5 (grow F w4 w5) (barrier st).2) := Lib.hid (HRA4.out.done hc5 ht5 hbs.1 hbs.2)
            clear hc5 ht5 hbs cS cT cvt c34 c35 cp ck hno
            go_wp2_with fail
            obtain ⟨wq, hwq⟩ : ∃ x, x = w5 := ⟨_, rfl⟩
            obtain ⟨Fq, hFq⟩ : ∃ x, x = grow F w4 w5 := ⟨_, rfl⟩
            obtain ⟨stq, hstq⟩ : ∃ x, x = (barrier st).2 := ⟨_, rfl⟩
            rw [← hFq, ← hstq] at HRQ
            clear hFq hstq
            subst hwq
            go_loopw [11] (fun kv wr => ∃ (k : Nat), k ≤ n ∧ kv = .int .i64 (k : Int) ∧ Hid (Below wq.heap.size wq wr)) (fun kv _ => n - (intOf kv).toNat)
            case atStart => exact ⟨0, by omega, rfl, Lib.hid (Below.refl _ _)⟩
            case round =>
              obtain ⟨k, hk, rfl, HBK⟩ := hrel
              by_cases hkn : k < n
              · have hkn1 : (k:Int) < n := by omega
                have hk65 : (k:Int) < 65 := by omega
                have HRK := Lib.hid (HRQ.out.later HBK.out)
                have hlk : k < stq.safe.length := by rw [HRK.out.state.len]; exact hkn
                have hrd : readR stq (k : Int) = .tuple #[agg (readOf stq k), .int .i64 0] := by
                  unfold readR
                  rw [if_pos ⟨by omega, by omega⟩, Int.toNat_natCast]
                have hcr := cread wr Fq (.pointer (some ad)) stq (k : Int) HRK.out.code (HRK.out.fine (by omega)) (WalkArith.wf_i64 (by omega))
                rw [hrd] at hcr
                have HCR := Lib.hid hcr
                have hat := lastOfSt_at HRK.out.state (by omega) hkn
                have hll := lastOfSt_len HRK.out.state (by omega)
                have hls := lastOfSt_secs HRK.out.state (by omega)
                have hat2 : (lastOfSt stq)[k]'(by omega) = readOf stq k := Option.some.inj ((List.getElem?_eq_getElem _).symm.trans hat)
                have hrs : Sec (readOf stq k) := by rw [← hat2]; exact hls _ (List.getElem_mem _)
                have hrg := HRK.out.last.range hls (k := k) (by omega)
                rw [hat2] at hrg
                have HRG := Lib.hid hrg
                have HRS := Lib.hid hrs
                have hgl := HRK.out.last.lt
                have HSG := guard_sec
                have HEQ : Hid (∀ w, (Op.equalIn 10000 35 (.agg (u8s (readOf stq k)).toArray) (.agg (u8s (readOf stq k)).toArray)).run Try.prog w = .ok true w) := Lib.hid fun w => by rw [eqIn_sec w hrs hrs, decide_eq_true rfl]
                clear hrd hcr hat hll hls hat2 hrs hrg
                generalize readOf stq k = sk at *
                go_wp2_with (first | (go_at_call 26; refine HCR.out.mono ?_; rintro e w6 ⟨rfl, hb6⟩; have HB6 := Lib.hid hb6; clear hb6) | (refine store_at rfl (.tmp 12) (.tmp 108) rfl rfl w6.heap.size sk zero32 rfl rfl HRS.out.1 (by decide) (at_lit w6) ?_; intro w7 hA7 hB7 hK7; have A7 := Lib.hid hA7; have HB7 := Lib.hid ((below_alloc (Below.refl _ w6) _).trans hB7); clear hA7 hB7 hK7))
                have s6 := HB6.out.size
                have hl7 : w6.heap.size < w7.heap.size := (Array.getElem?_eq_some_iff.1 A7.out).1
                have HB67 := Lib.hid (below_trans HB6.out HB7.out)
                have HR7 := Lib.hid (Rd.rangeLater HRG.out hgl HB67.out)
                have hgl7 : gl < w7.heap.size := Nat.lt_of_lt_of_le hgl HB67.out.size
                have h0 := Below.refl w7.drew.heap.size w7.drew
                refine wp_region_held_drew (S := ext w7.drew) (by kernel_rfl) (Below.refl _ _) (fun hH0 => ?_)
                refine wpAnyH_take (i := 0) (oi := { dst := some 110, op := Op.move (Operand.tmp 13), type := 27, pos := "law.go:114", after := #[], guard := none }) (v := ?_) rfl (by kernel_rfl) (by kernel_rfl) (by kernel_rfl) (fun _ _ _ h => h) (Or.inl ⟨by rfl, ?_⟩) (by assumption) ?_
                rotate_left
                · (intro w' hSw; go_simp; try with_reducible rfl)
                try simp only [Act.put, List.setIfInBounds_toArray, List.set_cons_zero, List.set_cons_succ]
                -- 1
                refine wpAnyH_ready (rs := [1]) (by kernel_rfl) (by simp) ?_
                refine AllReadyH.cons (o := { dst := some 111, op := Op.call { callee := Callee.value (Operand.func 9), args := #[Operand.tmp 110], argTypes := #[27] }, type := 3, pos := "law.go:114", after := #[{ on := 0, ground := Ground.data }], guard := none }) rfl (fun K hK => ?_) AllReadyH.nil
                go_simp
                refine (num_any 0 _).mono ?_
                rintro e v ⟨rfl, rfl⟩
                have h1 := h0
                dsimp only
                refine hK.out _ _ ?_ (fun hHeld => ?_)
                · exact h0
                clear hK K
                try simp only [Act.put, List.setIfInBounds_toArray, List.set_cons_zero, List.set_cons_succ]
                refine wpAnyH_take (i := 2) (oi := { dst := some 112, op := Op.binOp BinOp.neq 3 (Operand.tmp 111) (Operand.const (Value.int IntKind.i64 0)) 3, type := 4, pos := "law.go:114", after := #[{ on := 1, ground := Ground.data }], guard := none }) (v := ?_) rfl (by kernel_rfl) (by kernel_rfl) (by kernel_rfl) (fun _ _ _ h => h) (Or.inl ⟨by rfl, ?_⟩) (by assumption) ?_
                rotate_left
                · (intro w' hSw; go_simp; try with_reducible rfl)
                try simp only [Act.put, List.setIfInBounds_toArray, List.set_cons_zero, List.set_cons_succ]
                refine wpAnyH_take (i := 3) (oi := { dst := some 113, op := Op.move (Operand.tmp 112), type := 4, pos := "law.go:114", after := #[{ on := 2, ground := Ground.data }, { on := 1, ground := Ground.chain }], guard := none }) (v := ?_) rfl (by kernel_rfl) (by kernel_rfl) (by kernel_rfl) (fun _ _ _ h => h) (Or.inl ⟨by rfl, ?_⟩) (by assumption) ?_
                rotate_left
                · (intro w' hSw; go_simp; try with_reducible rfl)
                try simp only [Act.put, List.setIfInBounds_toArray, List.set_cons_zero, List.set_cons_succ]
                refine' wpAnyH_take (i := 4) (oi := { dst := some 114, op := Op.load 35 (Operand.tmp 12), type := 35, pos := "law.go:114", after := #[{ on := 3, ground := Ground.guard }], guard := some (3, false) }) (v := _) rfl (by kernel_rfl) (by kernel_rfl) (by kernel_rfl) (fun _ _ _ h => h) (ld_sec (by rfl) _ rfl w6.heap.size 0 rfl sk HRS.out.1 (fun w' hw => At.range (row_later A7.out (below_drew hw) hl7))) (by assumption) ?_
                try simp only [Act.put, List.setIfInBounds_toArray, List.set_cons_zero, List.set_cons_succ]
                refine wpAnyH_take (i := 5) (oi := { dst := some 115, op := Op.move (Operand.tmp 11), type := 3, pos := "law.go:114", after := #[{ on := 3, ground := Ground.guard }], guard := some (3, false) }) (v := ?_) rfl (by kernel_rfl) (by kernel_rfl) (by kernel_rfl) (fun _ _ _ h => h) (Or.inl ⟨by rfl, ?_⟩) (by assumption) ?_
                rotate_left
                · (intro w' hSw; go_simp; try with_reducible rfl)
                try simp only [Act.put, List.setIfInBounds_toArray, List.set_cons_zero, List.set_cons_succ]
                refine wpAnyH_take (i := 6) (oi := { dst := some 116, op := Op.indexAddr 61 (Operand.tmp 7) (Operand.tmp 115), type := 0, pos := "law.go:114", after := #[{ on := 5, ground := Ground.data }, { on := 3, ground := Ground.guard }], guard := some (3, false) }) (v := ?_) rfl (by kernel_rfl) (by kernel_rfl) (by kernel_rfl) (fun _ _ _ h => h) (Or.inl ⟨by rfl, ?_⟩) (by assumption) ?_
                rotate_left
                · (intro w' hSw; go_simp; try with_reducible rfl)
                try simp only [Act.put, List.setIfInBounds_toArray, List.set_cons_zero, List.set_cons_succ]
                refine' wpAnyH_take (i := 7) (oi := { dst := some 117, op := Op.load 35 (Operand.tmp 116), type := 35, pos := "law.go:114", after := #[{ on := 6, ground := Ground.data }, { on := 3, ground := Ground.guard }], guard := some (3, false) }) (v := _) rfl (by kernel_rfl) (by kernel_rfl) (by kernel_rfl) (fun _ _ _ h => h) (ld_sec (by rfl) _ rfl gl (k * 32) rfl sk HRS.out.1 (fun w' hw => Rd.rangeLater HR7.out hgl7 (below_drew hw))) (by assumption) ?_
                try simp only [Act.put, List.setIfInBounds_toArray, List.set_cons_zero, List.set_cons_succ]
                refine' wpAnyH_take (i := 8) (oi := { dst := some 118, op := Op.binOp BinOp.neq 35 (Operand.tmp 114) (Operand.tmp 117) 35, type := 4, pos := "law.go:114", after := #[{ on := 4, ground := Ground.data }, { on := 7, ground := Ground.data }, { on := 3, ground := Ground.guard }], guard := some (3, false) }) (v := _) rfl (by kernel_rfl) (by kernel_rfl) (by kernel_rfl) (fun _ _ _ h => h) (neq_yields (by rfl) 35 _ _ _ rfl (u8s sk).toArray (u8s sk).toArray (by rfl) (by rfl) HSG true HEQ.out) (by assumption) ?_
                try simp only [Act.put, List.setIfInBounds_toArray, List.set_cons_zero, List.set_cons_succ]
                refine wpAnyH_take (i := 9) (oi := { dst := some 119, op := Op.pick (Operand.tmp 113) (Operand.const (Value.bool true)) (Operand.tmp 118), type := 4, pos := "law.go:114", after := #[{ on := 3, ground := Ground.data }, { on := 8, ground := Ground.data }], guard := none }) (v := ?_) rfl (by kernel_rfl) (by kernel_rfl) (by kernel_rfl) (fun _ _ _ h => h) (Or.inl ⟨by rfl, ?_⟩) (by assumption) ?_
                rotate_left
                · (intro w' hSw; go_simp; try with_reducible rfl)
                try simp only [Act.put, List.setIfInBounds_toArray, List.set_cons_zero, List.set_cons_succ]
                refine wpAnyH_done (by kernel_rfl) ?_ _
                have HLAST := Lib.hid (below_drew h1)
                clear hHeld hH0
                go_wp2_with fail
                exact ⟨⟨k + 1, by omega, by go_num, Lib.hid (below_trans (below_trans HBK.out HB67.out) HLAST.out)⟩, by simp [intOf]; omega⟩
              · obtain rfl : k = n := by omega
                go_wp2_with fail
                exact ⟨⟨i + 1, Fq, stq, by omega, by go_num, Lib.hid (HRQ.out.later HBK.out)⟩, by simp [intOf]; omega⟩
          · skip
            -- a sync
            have d3 : (a.kind == 3) = false := beq_eq_false_iff_ne.2 (by omega)
            have d2 : (a.kind == 2) = true := beq_iff_eq.2 h2k
            have dk1 : decide (a.kind < 2) = false := by simp; omega
            go_wp2_with (first | (refine load_act rfl (.tmp 52) rfl b2 (o2 + i * 38) rfl a HAC.out HWR.out ?_) | (refine store_act rfl _ _ rfl rfl wr.heap.size a act0 rfl rfl HAO.out rfl (boxed_new wr) ?_; intro w4 hx4 hb4; have HX4 := Lib.hid hx4; have HRA4 := Lib.hid (HRA.out.later ((below_alloc (Below.refl _ wr) _).trans hb4)); have s4 := hb4.size; clear hx4 hb4; have ck := (act_parts HAO.out HX4.out.range).1; obtain ⟨cp, cS, cT, cvt, _⟩ := box_parts HAO.out HX4.out; have c34 : w4.cell? ⟨wr.heap.size, 34, none⟩ = some (.int .i64 a.k) := cT 0 _ rfl; have c35 : w4.cell? ⟨wr.heap.size, 35, none⟩ = some (.int .i64 a.id) := cT 1 _ rfl))
            have hno : ¬ F wr.heap.size := fun hF => by have := (HRA.out.inF _ hF).2.1; omega
            have hf4 := HRA4.out.fine (by omega)
            refine (cwaitingO w4 F (.pointer (some ad)) st HRA4.out.code hf4).mono ?_
            rintro e w5 ⟨pw, cw, rfl, ho5, hb5⟩
            obtain ⟨pt, ct, hvt, hrt⟩ := HAO.out.ts
            have HX5 : Hid (Boxed wr.heap.size a w5) := Lib.hid (row_later HX4.out hb5 (Array.getElem?_eq_some_iff.1 HX4.out).1)
            have HRA5 := Lib.hid (HRA4.out.later hb5)
            have cvt5 := (box_parts HAO.out HX5.out).2.2.2.1
            rw [hvt] at cvt5 hrt
            have HO5 := Lib.hid ho5
            have hrt5 := hrt.later HRA5.out.below
            have hti : InS (fun b => ¬ F b) (.slice pt a.ts.length ct) := fun x y z e hy hF => by
              have h1 := (HRA.out.inF _ hF).1
              rcases hrt with ⟨p', cap', e1, e2, _⟩ | ⟨b, off, cap', e1, _, _, _, hlt, _⟩
              · rw [e1] at e; cases e; omega
              · rw [e1] at e; cases e; exact absurd hlt (Nat.not_lt.2 h1)
            have HSY := Lib.hid (csync w5 F (.pointer (some ad)) st pt a.ts.length ct a.ts HRA5.out.code hf4 hrt5 hti HAL.out.1 HAO.out.tswf)
            have HRT5 := Lib.hid hrt5
            have HTI := Lib.hid hti
            obtain ⟨hss, hsl, hsf⟩ := rstate_sync HRA5.out.state (by omega) a HAO.out HAL.out
            have HSS := Lib.hid hss
            have HSL := Lib.hid hsl
            have HSF := Lib.hid hsf
            have hq50 := HAL.out.1
            have hs5 := hb5.size
            clear ho5 hrt5 hrt hti hss hsl hsf cS cT cvt c34 c35 cp ck hb5
            go_wp2_with fail
            refine HSY.out.mono ?_
            rintro e w6 ⟨rfl, hc6, ht6⟩
            have HC6 := Lib.hid hc6
            have HT6 := Lib.hid ht6
            have HX6 := Lib.hid (HX5.out.touch ht6 hno)
            have cvt6 := (box_parts HAO.out HX6.out).2.2.2.1
            rw [hvt] at cvt6
            clear hc6 ht6
            go_wp2_with fail
            have HRA6 := Lib.hid (HRA5.out.done HC6.out HT6.out HSS.out HSL.out)
            have hwt6 : Rd w6 36 (.slice pw st.wait.length cw) st.wait.length (wrsC st.wait) := Rd.kept (S := fun b => w4.heap.size ≤ b) HO5.out.rd ((own_inS HO5.out).mono fun b hb => hb.1) (HT6.out.keeps fun b hb hF => by have := (HRA4.out.inF b hF).2.1; omega)
            have htg6 : Rd w6 2 (.slice pt a.ts.length ct) a.ts.length (tagsC a.ts) := Rd.kept HRT5.out HTI.out (HT6.out.keeps fun b hb hF => hb hF)
            have hlen6 : (syncR st a.ts).2.safe.length = st.safe.length := by rw [HSF.out]; exact outOf_len _ _ _
            have HSO := Lib.hid (synced_true diskTells w6 _ (.pointer (some ad)) (syncR st a.ts).2 HRA6.out.code (HRA6.out.fine (by omega)) pw st.wait.length cw st.wait hwt6 hf4.few.ws (fun x hx => by rw [hlen6]; exact hf4.pos x hx) pt a.ts.length ct a.ts htg6 hf4.few.wn hq50 (by rw [HSF.out]; exact syncOk st.safe st.wait a.ts hf4.pos))
            clear hwt6 htg6 hlen6 HSY
            refine HSO.out.mono ?_
            rintro e w7 ⟨rfl, hb7⟩
            have HRQ : Hid (RAt W n (i + 1) gl ad w7 (grow F w5 w6) (syncR st a.ts).2) := Lib.hid (HRA6.out.later hb7)
            clear hb7 hno HSO
            go_wp2_with fail
            obtain ⟨wq, hwq⟩ : ∃ x, x = w7 := ⟨_, rfl⟩
            obtain ⟨Fq, hFq⟩ : ∃ x, x = grow F w5 w6 := ⟨_, rfl⟩
            obtain ⟨stq, hstq⟩ : ∃ x, x = (syncR st a.ts).2 := ⟨_, rfl⟩
            rw [← hFq, ← hstq] at HRQ
            clear hFq hstq
            subst hwq
            go_loopw [11] (fun kv wr => ∃ (k : Nat), k ≤ n ∧ kv = .int .i64 (k : Int) ∧ Hid (Below wq.heap.size wq wr)) (fun kv _ => n - (intOf kv).toNat)
            case atStart => exact ⟨0, by omega, rfl, Lib.hid (Below.refl _ _)⟩
            case round =>
              obtain ⟨k, hk, rfl, HBK⟩ := hrel
              by_cases hkn : k < n
              · have hkn1 : (k:Int) < n := by omega
                have hk65 : (k:Int) < 65 := by omega
                have HRK := Lib.hid (HRQ.out.later HBK.out)
                have hlk : k < stq.safe.length := by rw [HRK.out.state.len]; exact hkn
                have hrd : readR stq (k : Int) = .tuple #[agg (readOf stq k), .int .i64 0] := by
                  unfold readR
                  rw [if_pos ⟨by omega, by omega⟩, Int.toNat_natCast]
                have hcr := cread wr Fq (.pointer (some ad)) stq (k : Int) HRK.out.code (HRK.out.fine (by omega)) (WalkArith.wf_i64 (by omega))
                rw [hrd] at hcr
                have HCR := Lib.hid hcr
                have hat := lastOfSt_at HRK.out.state (by omega) hkn
                have hll := lastOfSt_len HRK.out.state (by omega)
                have hls := lastOfSt_secs HRK.out.state (by omega)
                have hat2 : (lastOfSt stq)[k]'(by omega) = readOf stq k := Option.some.inj ((List.getElem?_eq_getElem _).symm.trans hat)
                have hrs : Sec (readOf stq k) := by rw [← hat2]; exact hls _ (List.getElem_mem _)
                have hrg := HRK.out.last.range hls (k := k) (by omega)
                rw [hat2] at hrg
                have HRG := Lib.hid hrg
                have HRS := Lib.hid hrs
                have hgl := HRK.out.last.lt
                have HSG := guard_sec
                have HEQ : Hid (∀ w, (Op.equalIn 10000 35 (.agg (u8s (readOf stq k)).toArray) (.agg (u8s (readOf stq k)).toArray)).run Try.prog w = .ok true w) := Lib.hid fun w => by rw [eqIn_sec w hrs hrs, decide_eq_true rfl]
                clear hrd hcr hat hll hls hat2 hrs hrg
                generalize readOf stq k = sk at *
                go_wp2_with (first | (go_at_call 26; refine HCR.out.mono ?_; rintro e w6 ⟨rfl, hb6⟩; have HB6 := Lib.hid hb6; clear hb6) | (refine store_at rfl (.tmp 12) (.tmp 108) rfl rfl w6.heap.size sk zero32 rfl rfl HRS.out.1 (by decide) (at_lit w6) ?_; intro w7 hA7 hB7 hK7; have A7 := Lib.hid hA7; have HB7 := Lib.hid ((below_alloc (Below.refl _ w6) _).trans hB7); clear hA7 hB7 hK7))
                have s6 := HB6.out.size
                have hl7 : w6.heap.size < w7.heap.size := (Array.getElem?_eq_some_iff.1 A7.out).1
                have HB67 := Lib.hid (below_trans HB6.out HB7.out)
                have HR7 := Lib.hid (Rd.rangeLater HRG.out hgl HB67.out)
                have hgl7 : gl < w7.heap.size := Nat.lt_of_lt_of_le hgl HB67.out.size
                have h0 := Below.refl w7.drew.heap.size w7.drew
                refine wp_region_held_drew (S := ext w7.drew) (by kernel_rfl) (Below.refl _ _) (fun hH0 => ?_)
                refine wpAnyH_take (i := 0) (oi := { dst := some 110, op := Op.move (Operand.tmp 13), type := 27, pos := "law.go:114", after := #[], guard := none }) (v := ?_) rfl (by kernel_rfl) (by kernel_rfl) (by kernel_rfl) (fun _ _ _ h => h) (Or.inl ⟨by rfl, ?_⟩) (by assumption) ?_
                rotate_left
                · (intro w' hSw; go_simp; try with_reducible rfl)
                try simp only [Act.put, List.setIfInBounds_toArray, List.set_cons_zero, List.set_cons_succ]
                -- 1
                refine wpAnyH_ready (rs := [1]) (by kernel_rfl) (by simp) ?_
                refine AllReadyH.cons (o := { dst := some 111, op := Op.call { callee := Callee.value (Operand.func 9), args := #[Operand.tmp 110], argTypes := #[27] }, type := 3, pos := "law.go:114", after := #[{ on := 0, ground := Ground.data }], guard := none }) rfl (fun K hK => ?_) AllReadyH.nil
                go_simp
                refine (num_any 0 _).mono ?_
                rintro e v ⟨rfl, rfl⟩
                have h1 := h0
                dsimp only
                refine hK.out _ _ ?_ (fun hHeld => ?_)
                · exact h0
                clear hK K
                try simp only [Act.put, List.setIfInBounds_toArray, List.set_cons_zero, List.set_cons_succ]
                refine wpAnyH_take (i := 2) (oi := { dst := some 112, op := Op.binOp BinOp.neq 3 (Operand.tmp 111) (Operand.const (Value.int IntKind.i64 0)) 3, type := 4, pos := "law.go:114", after := #[{ on := 1, ground := Ground.data }], guard := none }) (v := ?_) rfl (by kernel_rfl) (by kernel_rfl) (by kernel_rfl) (fun _ _ _ h => h) (Or.inl ⟨by rfl, ?_⟩) (by assumption) ?_
                rotate_left
                · (intro w' hSw; go_simp; try with_reducible rfl)
                try simp only [Act.put, List.setIfInBounds_toArray, List.set_cons_zero, List.set_cons_succ]
                refine wpAnyH_take (i := 3) (oi := { dst := some 113, op := Op.move (Operand.tmp 112), type := 4, pos := "law.go:114", after := #[{ on := 2, ground := Ground.data }, { on := 1, ground := Ground.chain }], guard := none }) (v := ?_) rfl (by kernel_rfl) (by kernel_rfl) (by kernel_rfl) (fun _ _ _ h => h) (Or.inl ⟨by rfl, ?_⟩) (by assumption) ?_
                rotate_left
                · (intro w' hSw; go_simp; try with_reducible rfl)
                try simp only [Act.put, List.setIfInBounds_toArray, List.set_cons_zero, List.set_cons_succ]
                refine' wpAnyH_take (i := 4) (oi := { dst := some 114, op := Op.load 35 (Operand.tmp 12), type := 35, pos := "law.go:114", after := #[{ on := 3, ground := Ground.guard }], guard := some (3, false) }) (v := _) rfl (by kernel_rfl) (by kernel_rfl) (by kernel_rfl) (fun _ _ _ h => h) (ld_sec (by rfl) _ rfl w6.heap.size 0 rfl sk HRS.out.1 (fun w' hw => At.range (row_later A7.out (below_drew hw) hl7))) (by assumption) ?_
                try simp only [Act.put, List.setIfInBounds_toArray, List.set_cons_zero, List.set_cons_succ]
                refine wpAnyH_take (i := 5) (oi := { dst := some 115, op := Op.move (Operand.tmp 11), type := 3, pos := "law.go:114", after := #[{ on := 3, ground := Ground.guard }], guard := some (3, false) }) (v := ?_) rfl (by kernel_rfl) (by kernel_rfl) (by kernel_rfl) (fun _ _ _ h => h) (Or.inl ⟨by rfl, ?_⟩) (by assumption) ?_
                rotate_left
                · (intro w' hSw; go_simp; try with_reducible rfl)
                try simp only [Act.put, List.setIfInBounds_toArray, List.set_cons_zero, List.set_cons_succ]
                refine wpAnyH_take (i := 6) (oi := { dst := some 116, op := Op.indexAddr 61 (Operand.tmp 7) (Operand.tmp 115), type := 0, pos := "law.go:114", after := #[{ on := 5, ground := Ground.data }, { on := 3, ground := Ground.guard }], guard := some (3, false) }) (v := ?_) rfl (by kernel_rfl) (by kernel_rfl) (by kernel_rfl) (fun _ _ _ h => h) (Or.inl ⟨by rfl, ?_⟩) (by assumption) ?_
                rotate_left
                · (intro w' hSw; go_simp; try with_reducible rfl)
                try simp only [Act.put, List.setIfInBounds_toArray, List.set_cons_zero, List.set_cons_succ]
                refine' wpAnyH_take (i := 7) (oi := { dst := some 117, op := Op.load 35 (Operand.tmp 116), type := 35, pos := "law.go:114", after := #[{ on := 6, ground := Ground.data }, { on := 3, ground := Ground.guard }], guard := some (3, false) }) (v := _) rfl (by kernel_rfl) (by kernel_rfl) (by kernel_rfl) (fun _ _ _ h => h) (ld_sec (by rfl) _ rfl gl (k * 32) rfl sk HRS.out.1 (fun w' hw => Rd.rangeLater HR7.out hgl7 (below_drew hw))) (by assumption) ?_
                try simp only [Act.put, List.setIfInBounds_toArray, List.set_cons_zero, List.set_cons_succ]
                refine' wpAnyH_take (i := 8) (oi := { dst := some 118, op := Op.binOp BinOp.neq 35 (Operand.tmp 114) (Operand.tmp 117) 35, type := 4, pos := "law.go:114", after := #[{ on := 4, ground := Ground.data }, { on := 7, ground := Ground.data }, { on := 3, ground := Ground.guard }], guard := some (3, false) }) (v := _) rfl (by kernel_rfl) (by kernel_rfl) (by kernel_rfl) (fun _ _ _ h => h) (neq_yields (by rfl) 35 _ _ _ rfl (u8s sk).toArray (u8s sk).toArray (by rfl) (by rfl) HSG true HEQ.out) (by assumption) ?_
                try simp only [Act.put, List.setIfInBounds_toArray, List.set_cons_zero, List.set_cons_succ]
                refine wpAnyH_take (i := 9) (oi := { dst := some 119, op := Op.pick (Operand.tmp 113) (Operand.const (Value.bool true)) (Operand.tmp 118), type := 4, pos := "law.go:114", after := #[{ on := 3, ground := Ground.data }, { on := 8, ground := Ground.data }], guard := none }) (v := ?_) rfl (by kernel_rfl) (by kernel_rfl) (by kernel_rfl) (fun _ _ _ h => h) (Or.inl ⟨by rfl, ?_⟩) (by assumption) ?_
                rotate_left
                · (intro w' hSw; go_simp; try with_reducible rfl)
                try simp only [Act.put, List.setIfInBounds_toArray, List.set_cons_zero, List.set_cons_succ]
                refine wpAnyH_done (by kernel_rfl) ?_ _
                have HLAST := Lib.hid (below_drew h1)
                clear hHeld hH0
                go_wp2_with fail
                exact ⟨⟨k + 1, by omega, by go_num, Lib.hid (below_trans (below_trans HBK.out HB67.out) HLAST.out)⟩, by simp [intOf]; omega⟩
              · obtain rfl : k = n := by omega
                go_wp2_with fail
                exact ⟨⟨i + 1, Fq, stq, by omega, by go_num, Lib.hid (HRQ.out.later HBK.out)⟩, by simp [intOf]; omega⟩
          · skip
            -- a kind below 0
            have d3 : (a.kind == 3) = false := beq_eq_false_iff_ne.2 (by omega)
            have d2 : (a.kind == 2) = false := beq_eq_false_iff_ne.2 (by omega)
            have dk1 : decide (a.kind < 2) = true := by simp; omega
            have dk2 : decide (0 ≤ a.kind) = false := by simp; omega
            go_wp2_with (first | (refine load_act rfl (.tmp 52) rfl b2 (o2 + i * 38) rfl a HAC.out HWR.out ?_) | (refine store_act rfl _ _ rfl rfl wr.heap.size a act0 rfl rfl HAO.out rfl (boxed_new wr) ?_; intro w4 hx4 hb4; have HX4 := Lib.hid hx4; have HRA4 := Lib.hid (HRA.out.later ((below_alloc (Below.refl _ wr) _).trans hb4)); have s4 := hb4.size; clear hx4 hb4; have ck := (act_parts HAO.out HX4.out.range).1; obtain ⟨cp, cS, cT, cvt, _⟩ := box_parts HAO.out HX4.out; have c34 : w4.cell? ⟨wr.heap.size, 34, none⟩ = some (.int .i64 a.k) := cT 0 _ rfl; have c35 : w4.cell? ⟨wr.heap.size, 35, none⟩ = some (.int .i64 a.id) := cT 1 _ rfl))
            have HRQ : Hid (RAt W n (i + 1) gl ad w4 F st) := Lib.hid HRA4.out.more
            obtain ⟨wq, hwq⟩ : ∃ x, x = w4 := ⟨_, rfl⟩
            obtain ⟨Fq, hFq⟩ : ∃ x, x = F := ⟨_, rfl⟩
            obtain ⟨stq, hstq⟩ : ∃ x, x = st := ⟨_, rfl⟩
            rw [← hFq, ← hstq] at HRQ
            clear hFq hstq
            subst hwq
            go_loopw [11] (fun kv wr => ∃ (k : Nat), k ≤ n ∧ kv = .int .i64 (k : Int) ∧ Hid (Below wq.heap.size wq wr)) (fun kv _ => n - (intOf kv).toNat)
            case atStart => exact ⟨0, by omega, rfl, Lib.hid (Below.refl _ _)⟩
            case round =>
              obtain ⟨k, hk, rfl, HBK⟩ := hrel
              by_cases hkn : k < n
              · have hkn1 : (k:Int) < n := by omega
                have hk65 : (k:Int) < 65 := by omega
                have HRK := Lib.hid (HRQ.out.later HBK.out)
                have hlk : k < stq.safe.length := by rw [HRK.out.state.len]; exact hkn
                have hrd : readR stq (k : Int) = .tuple #[agg (readOf stq k), .int .i64 0] := by
                  unfold readR
                  rw [if_pos ⟨by omega, by omega⟩, Int.toNat_natCast]
                have hcr := cread wr Fq (.pointer (some ad)) stq (k : Int) HRK.out.code (HRK.out.fine (by omega)) (WalkArith.wf_i64 (by omega))
                rw [hrd] at hcr
                have HCR := Lib.hid hcr
                have hat := lastOfSt_at HRK.out.state (by omega) hkn
                have hll := lastOfSt_len HRK.out.state (by omega)
                have hls := lastOfSt_secs HRK.out.state (by omega)
                have hat2 : (lastOfSt stq)[k]'(by omega) = readOf stq k := Option.some.inj ((List.getElem?_eq_getElem _).symm.trans hat)
                have hrs : Sec (readOf stq k) := by rw [← hat2]; exact hls _ (List.getElem_mem _)
                have hrg := HRK.out.last.range hls (k := k) (by omega)
                rw [hat2] at hrg
                have HRG := Lib.hid hrg
                have HRS := Lib.hid hrs
                have hgl := HRK.out.last.lt
                have HSG := guard_sec
                have HEQ : Hid (∀ w, (Op.equalIn 10000 35 (.agg (u8s (readOf stq k)).toArray) (.agg (u8s (readOf stq k)).toArray)).run Try.prog w = .ok true w) := Lib.hid fun w => by rw [eqIn_sec w hrs hrs, decide_eq_true rfl]
                clear hrd hcr hat hll hls hat2 hrs hrg
                generalize readOf stq k = sk at *
                go_wp2_with (first | (go_at_call 26; refine HCR.out.mono ?_; rintro e w6 ⟨rfl, hb6⟩; have HB6 := Lib.hid hb6; clear hb6) | (refine store_at rfl (.tmp 12) (.tmp 108) rfl rfl w6.heap.size sk zero32 rfl rfl HRS.out.1 (by decide) (at_lit w6) ?_; intro w7 hA7 hB7 hK7; have A7 := Lib.hid hA7; have HB7 := Lib.hid ((below_alloc (Below.refl _ w6) _).trans hB7); clear hA7 hB7 hK7))
                have s6 := HB6.out.size
                have hl7 : w6.heap.size < w7.heap.size := (Array.getElem?_eq_some_iff.1 A7.out).1
                have HB67 := Lib.hid (below_trans HB6.out HB7.out)
                have HR7 := Lib.hid (Rd.rangeLater HRG.out hgl HB67.out)
                have hgl7 : gl < w7.heap.size := Nat.lt_of_lt_of_le hgl HB67.out.size
                have h0 := Below.refl w7.drew.heap.size w7.drew
                refine wp_region_held_drew (S := ext w7.drew) (by kernel_rfl) (Below.refl _ _) (fun hH0 => ?_)
                refine wpAnyH_take (i := 0) (oi := { dst := some 110, op := Op.move (Operand.tmp 13), type := 27, pos := "law.go:114", after := #[], guard := none }) (v := ?_) rfl (by kernel_rfl) (by kernel_rfl) (by kernel_rfl) (fun _ _ _ h => h) (Or.inl ⟨by rfl, ?_⟩) (by assumption) ?_
                rotate_left
                · (intro w' hSw; go_simp; try with_reducible rfl)
                try simp only [Act.put, List.setIfInBounds_toArray, List.set_cons_zero, List.set_cons_succ]
                -- 1
                refine wpAnyH_ready (rs := [1]) (by kernel_rfl) (by simp) ?_
                refine AllReadyH.cons (o := { dst := some 111, op := Op.call { callee := Callee.value (Operand.func 9), args := #[Operand.tmp 110], argTypes := #[27] }, type := 3, pos := "law.go:114", after := #[{ on := 0, ground := Ground.data }], guard := none }) rfl (fun K hK => ?_) AllReadyH.nil
                go_simp
                refine (num_any 0 _).mono ?_
                rintro e v ⟨rfl, rfl⟩
                have h1 := h0
                dsimp only
                refine hK.out _ _ ?_ (fun hHeld => ?_)
                · exact h0
                clear hK K
                try simp only [Act.put, List.setIfInBounds_toArray, List.set_cons_zero, List.set_cons_succ]
                refine wpAnyH_take (i := 2) (oi := { dst := some 112, op := Op.binOp BinOp.neq 3 (Operand.tmp 111) (Operand.const (Value.int IntKind.i64 0)) 3, type := 4, pos := "law.go:114", after := #[{ on := 1, ground := Ground.data }], guard := none }) (v := ?_) rfl (by kernel_rfl) (by kernel_rfl) (by kernel_rfl) (fun _ _ _ h => h) (Or.inl ⟨by rfl, ?_⟩) (by assumption) ?_
                rotate_left
                · (intro w' hSw; go_simp; try with_reducible rfl)
                try simp only [Act.put, List.setIfInBounds_toArray, List.set_cons_zero, List.set_cons_succ]
                refine wpAnyH_take (i := 3) (oi := { dst := some 113, op := Op.move (Operand.tmp 112), type := 4, pos := "law.go:114", after := #[{ on := 2, ground := Ground.data }, { on := 1, ground := Ground.chain }], guard := none }) (v := ?_) rfl (by kernel_rfl) (by kernel_rfl) (by kernel_rfl) (fun _ _ _ h => h) (Or.inl ⟨by rfl, ?_⟩) (by assumption) ?_
                rotate_left
                · (intro w' hSw; go_simp; try with_reducible rfl)
                try simp only [Act.put, List.setIfInBounds_toArray, List.set_cons_zero, List.set_cons_succ]
                refine' wpAnyH_take (i := 4) (oi := { dst := some 114, op := Op.load 35 (Operand.tmp 12), type := 35, pos := "law.go:114", after := #[{ on := 3, ground := Ground.guard }], guard := some (3, false) }) (v := _) rfl (by kernel_rfl) (by kernel_rfl) (by kernel_rfl) (fun _ _ _ h => h) (ld_sec (by rfl) _ rfl w6.heap.size 0 rfl sk HRS.out.1 (fun w' hw => At.range (row_later A7.out (below_drew hw) hl7))) (by assumption) ?_
                try simp only [Act.put, List.setIfInBounds_toArray, List.set_cons_zero, List.set_cons_succ]
                refine wpAnyH_take (i := 5) (oi := { dst := some 115, op := Op.move (Operand.tmp 11), type := 3, pos := "law.go:114", after := #[{ on := 3, ground := Ground.guard }], guard := some (3, false) }) (v := ?_) rfl (by kernel_rfl) (by kernel_rfl) (by kernel_rfl) (fun _ _ _ h => h) (Or.inl ⟨by rfl, ?_⟩) (by assumption) ?_
                rotate_left
                · (intro w' hSw; go_simp; try with_reducible rfl)
                try simp only [Act.put, List.setIfInBounds_toArray, List.set_cons_zero, List.set_cons_succ]
                refine wpAnyH_take (i := 6) (oi := { dst := some 116, op := Op.indexAddr 61 (Operand.tmp 7) (Operand.tmp 115), type := 0, pos := "law.go:114", after := #[{ on := 5, ground := Ground.data }, { on := 3, ground := Ground.guard }], guard := some (3, false) }) (v := ?_) rfl (by kernel_rfl) (by kernel_rfl) (by kernel_rfl) (fun _ _ _ h => h) (Or.inl ⟨by rfl, ?_⟩) (by assumption) ?_
                rotate_left
                · (intro w' hSw; go_simp; try with_reducible rfl)
                try simp only [Act.put, List.setIfInBounds_toArray, List.set_cons_zero, List.set_cons_succ]
                refine' wpAnyH_take (i := 7) (oi := { dst := some 117, op := Op.load 35 (Operand.tmp 116), type := 35, pos := "law.go:114", after := #[{ on := 6, ground := Ground.data }, { on := 3, ground := Ground.guard }], guard := some (3, false) }) (v := _) rfl (by kernel_rfl) (by kernel_rfl) (by kernel_rfl) (fun _ _ _ h => h) (ld_sec (by rfl) _ rfl gl (k * 32) rfl sk HRS.out.1 (fun w' hw => Rd.rangeLater HR7.out hgl7 (below_drew hw))) (by assumption) ?_
                try simp only [Act.put, List.setIfInBounds_toArray, List.set_cons_zero, List.set_cons_succ]
                refine' wpAnyH_take (i := 8) (oi := { dst := some 118, op := Op.binOp BinOp.neq 35 (Operand.tmp 114) (Operand.tmp 117) 35, type := 4, pos := "law.go:114", after := #[{ on := 4, ground := Ground.data }, { on := 7, ground := Ground.data }, { on := 3, ground := Ground.guard }], guard := some (3, false) }) (v := _) rfl (by kernel_rfl) (by kernel_rfl) (by kernel_rfl) (fun _ _ _ h => h) (neq_yields (by rfl) 35 _ _ _ rfl (u8s sk).toArray (u8s sk).toArray (by rfl) (by rfl) HSG true HEQ.out) (by assumption) ?_
                try simp only [Act.put, List.setIfInBounds_toArray, List.set_cons_zero, List.set_cons_succ]
                refine wpAnyH_take (i := 9) (oi := { dst := some 119, op := Op.pick (Operand.tmp 113) (Operand.const (Value.bool true)) (Operand.tmp 118), type := 4, pos := "law.go:114", after := #[{ on := 3, ground := Ground.data }, { on := 8, ground := Ground.data }], guard := none }) (v := ?_) rfl (by kernel_rfl) (by kernel_rfl) (by kernel_rfl) (fun _ _ _ h => h) (Or.inl ⟨by rfl, ?_⟩) (by assumption) ?_
                rotate_left
                · (intro w' hSw; go_simp; try with_reducible rfl)
                try simp only [Act.put, List.setIfInBounds_toArray, List.set_cons_zero, List.set_cons_succ]
                refine wpAnyH_done (by kernel_rfl) ?_ _
                have HLAST := Lib.hid (below_drew h1)
                clear hHeld hH0
                go_wp2_with fail
                exact ⟨⟨k + 1, by omega, by go_num, Lib.hid (below_trans (below_trans HBK.out HB67.out) HLAST.out)⟩, by simp [intOf]; omega⟩
              · obtain rfl : k = n := by omega
                go_wp2_with fail
                exact ⟨⟨i + 1, Fq, stq, by omega, by go_num, Lib.hid (HRQ.out.later HBK.out)⟩, by simp [intOf]; omega⟩
          · skip
            -- another kind
            have d3 : (a.kind == 3) = false := beq_eq_false_iff_ne.2 (by omega)
            have d2 : (a.kind == 2) = false := beq_eq_false_iff_ne.2 (by omega)
            have dk1 : decide (a.kind < 2) = false := by simp; omega
            go_wp2_with (first | (refine load_act rfl (.tmp 52) rfl b2 (o2 + i * 38) rfl a HAC.out HWR.out ?_) | (refine store_act rfl _ _ rfl rfl wr.heap.size a act0 rfl rfl HAO.out rfl (boxed_new wr) ?_; intro w4 hx4 hb4; have HX4 := Lib.hid hx4; have HRA4 := Lib.hid (HRA.out.later ((below_alloc (Below.refl _ wr) _).trans hb4)); have s4 := hb4.size; clear hx4 hb4; have ck := (act_parts HAO.out HX4.out.range).1; obtain ⟨cp, cS, cT, cvt, _⟩ := box_parts HAO.out HX4.out; have c34 : w4.cell? ⟨wr.heap.size, 34, none⟩ = some (.int .i64 a.k) := cT 0 _ rfl; have c35 : w4.cell? ⟨wr.heap.size, 35, none⟩ = some (.int .i64 a.id) := cT 1 _ rfl))
            have HRQ : Hid (RAt W n (i + 1) gl ad w4 F st) := Lib.hid HRA4.out.more
            obtain ⟨wq, hwq⟩ : ∃ x, x = w4 := ⟨_, rfl⟩
            obtain ⟨Fq, hFq⟩ : ∃ x, x = F := ⟨_, rfl⟩
            obtain ⟨stq, hstq⟩ : ∃ x, x = st := ⟨_, rfl⟩
            rw [← hFq, ← hstq] at HRQ
            clear hFq hstq
            subst hwq
            go_loopw [11] (fun kv wr => ∃ (k : Nat), k ≤ n ∧ kv = .int .i64 (k : Int) ∧ Hid (Below wq.heap.size wq wr)) (fun kv _ => n - (intOf kv).toNat)
            case atStart => exact ⟨0, by omega, rfl, Lib.hid (Below.refl _ _)⟩
            case round =>
              obtain ⟨k, hk, rfl, HBK⟩ := hrel
              by_cases hkn : k < n
              · have hkn1 : (k:Int) < n := by omega
                have hk65 : (k:Int) < 65 := by omega
                have HRK := Lib.hid (HRQ.out.later HBK.out)
                have hlk : k < stq.safe.length := by rw [HRK.out.state.len]; exact hkn
                have hrd : readR stq (k : Int) = .tuple #[agg (readOf stq k), .int .i64 0] := by
                  unfold readR
                  rw [if_pos ⟨by omega, by omega⟩, Int.toNat_natCast]
                have hcr := cread wr Fq (.pointer (some ad)) stq (k : Int) HRK.out.code (HRK.out.fine (by omega)) (WalkArith.wf_i64 (by omega))
                rw [hrd] at hcr
                have HCR := Lib.hid hcr
                have hat := lastOfSt_at HRK.out.state (by omega) hkn
                have hll := lastOfSt_len HRK.out.state (by omega)
                have hls := lastOfSt_secs HRK.out.state (by omega)
                have hat2 : (lastOfSt stq)[k]'(by omega) = readOf stq k := Option.some.inj ((List.getElem?_eq_getElem _).symm.trans hat)
                have hrs : Sec (readOf stq k) := by rw [← hat2]; exact hls _ (List.getElem_mem _)
                have hrg := HRK.out.last.range hls (k := k) (by omega)
                rw [hat2] at hrg
                have HRG := Lib.hid hrg
                have HRS := Lib.hid hrs
                have hgl := HRK.out.last.lt
                have HSG := guard_sec
                have HEQ : Hid (∀ w, (Op.equalIn 10000 35 (.agg (u8s (readOf stq k)).toArray) (.agg (u8s (readOf stq k)).toArray)).run Try.prog w = .ok true w) := Lib.hid fun w => by rw [eqIn_sec w hrs hrs, decide_eq_true rfl]
                clear hrd hcr hat hll hls hat2 hrs hrg
                generalize readOf stq k = sk at *
                go_wp2_with (first | (go_at_call 26; refine HCR.out.mono ?_; rintro e w6 ⟨rfl, hb6⟩; have HB6 := Lib.hid hb6; clear hb6) | (refine store_at rfl (.tmp 12) (.tmp 108) rfl rfl w6.heap.size sk zero32 rfl rfl HRS.out.1 (by decide) (at_lit w6) ?_; intro w7 hA7 hB7 hK7; have A7 := Lib.hid hA7; have HB7 := Lib.hid ((below_alloc (Below.refl _ w6) _).trans hB7); clear hA7 hB7 hK7))
                have s6 := HB6.out.size
                have hl7 : w6.heap.size < w7.heap.size := (Array.getElem?_eq_some_iff.1 A7.out).1
                have HB67 := Lib.hid (below_trans HB6.out HB7.out)
                have HR7 := Lib.hid (Rd.rangeLater HRG.out hgl HB67.out)
                have hgl7 : gl < w7.heap.size := Nat.lt_of_lt_of_le hgl HB67.out.size
                have h0 := Below.refl w7.drew.heap.size w7.drew
                refine wp_region_held_drew (S := ext w7.drew) (by kernel_rfl) (Below.refl _ _) (fun hH0 => ?_)
                refine wpAnyH_take (i := 0) (oi := { dst := some 110, op := Op.move (Operand.tmp 13), type := 27, pos := "law.go:114", after := #[], guard := none }) (v := ?_) rfl (by kernel_rfl) (by kernel_rfl) (by kernel_rfl) (fun _ _ _ h => h) (Or.inl ⟨by rfl, ?_⟩) (by assumption) ?_
                rotate_left
                · (intro w' hSw; go_simp; try with_reducible rfl)
                try simp only [Act.put, List.setIfInBounds_toArray, List.set_cons_zero, List.set_cons_succ]
                -- 1
                refine wpAnyH_ready (rs := [1]) (by kernel_rfl) (by simp) ?_
                refine AllReadyH.cons (o := { dst := some 111, op := Op.call { callee := Callee.value (Operand.func 9), args := #[Operand.tmp 110], argTypes := #[27] }, type := 3, pos := "law.go:114", after := #[{ on := 0, ground := Ground.data }], guard := none }) rfl (fun K hK => ?_) AllReadyH.nil
                go_simp
                refine (num_any 0 _).mono ?_
                rintro e v ⟨rfl, rfl⟩
                have h1 := h0
                dsimp only
                refine hK.out _ _ ?_ (fun hHeld => ?_)
                · exact h0
                clear hK K
                try simp only [Act.put, List.setIfInBounds_toArray, List.set_cons_zero, List.set_cons_succ]
                refine wpAnyH_take (i := 2) (oi := { dst := some 112, op := Op.binOp BinOp.neq 3 (Operand.tmp 111) (Operand.const (Value.int IntKind.i64 0)) 3, type := 4, pos := "law.go:114", after := #[{ on := 1, ground := Ground.data }], guard := none }) (v := ?_) rfl (by kernel_rfl) (by kernel_rfl) (by kernel_rfl) (fun _ _ _ h => h) (Or.inl ⟨by rfl, ?_⟩) (by assumption) ?_
                rotate_left
                · (intro w' hSw; go_simp; try with_reducible rfl)
                try simp only [Act.put, List.setIfInBounds_toArray, List.set_cons_zero, List.set_cons_succ]
                refine wpAnyH_take (i := 3) (oi := { dst := some 113, op := Op.move (Operand.tmp 112), type := 4, pos := "law.go:114", after := #[{ on := 2, ground := Ground.data }, { on := 1, ground := Ground.chain }], guard := none }) (v := ?_) rfl (by kernel_rfl) (by kernel_rfl) (by kernel_rfl) (fun _ _ _ h => h) (Or.inl ⟨by rfl, ?_⟩) (by assumption) ?_
                rotate_left
                · (intro w' hSw; go_simp; try with_reducible rfl)
                try simp only [Act.put, List.setIfInBounds_toArray, List.set_cons_zero, List.set_cons_succ]
                refine' wpAnyH_take (i := 4) (oi := { dst := some 114, op := Op.load 35 (Operand.tmp 12), type := 35, pos := "law.go:114", after := #[{ on := 3, ground := Ground.guard }], guard := some (3, false) }) (v := _) rfl (by kernel_rfl) (by kernel_rfl) (by kernel_rfl) (fun _ _ _ h => h) (ld_sec (by rfl) _ rfl w6.heap.size 0 rfl sk HRS.out.1 (fun w' hw => At.range (row_later A7.out (below_drew hw) hl7))) (by assumption) ?_
                try simp only [Act.put, List.setIfInBounds_toArray, List.set_cons_zero, List.set_cons_succ]
                refine wpAnyH_take (i := 5) (oi := { dst := some 115, op := Op.move (Operand.tmp 11), type := 3, pos := "law.go:114", after := #[{ on := 3, ground := Ground.guard }], guard := some (3, false) }) (v := ?_) rfl (by kernel_rfl) (by kernel_rfl) (by kernel_rfl) (fun _ _ _ h => h) (Or.inl ⟨by rfl, ?_⟩) (by assumption) ?_
                rotate_left
                · (intro w' hSw; go_simp; try with_reducible rfl)
                try simp only [Act.put, List.setIfInBounds_toArray, List.set_cons_zero, List.set_cons_succ]
                refine wpAnyH_take (i := 6) (oi := { dst := some 116, op := Op.indexAddr 61 (Operand.tmp 7) (Operand.tmp 115), type := 0, pos := "law.go:114", after := #[{ on := 5, ground := Ground.data }, { on := 3, ground := Ground.guard }], guard := some (3, false) }) (v := ?_) rfl (by kernel_rfl) (by kernel_rfl) (by kernel_rfl) (fun _ _ _ h => h) (Or.inl ⟨by rfl, ?_⟩) (by assumption) ?_
                rotate_left
                · (intro w' hSw; go_simp; try with_reducible rfl)
                try simp only [Act.put, List.setIfInBounds_toArray, List.set_cons_zero, List.set_cons_succ]
                refine' wpAnyH_take (i := 7) (oi := { dst := some 117, op := Op.load 35 (Operand.tmp 116), type := 35, pos := "law.go:114", after := #[{ on := 6, ground := Ground.data }, { on := 3, ground := Ground.guard }], guard := some (3, false) }) (v := _) rfl (by kernel_rfl) (by kernel_rfl) (by kernel_rfl) (fun _ _ _ h => h) (ld_sec (by rfl) _ rfl gl (k * 32) rfl sk HRS.out.1 (fun w' hw => Rd.rangeLater HR7.out hgl7 (below_drew hw))) (by assumption) ?_
                try simp only [Act.put, List.setIfInBounds_toArray, List.set_cons_zero, List.set_cons_succ]
                refine' wpAnyH_take (i := 8) (oi := { dst := some 118, op := Op.binOp BinOp.neq 35 (Operand.tmp 114) (Operand.tmp 117) 35, type := 4, pos := "law.go:114", after := #[{ on := 4, ground := Ground.data }, { on := 7, ground := Ground.data }, { on := 3, ground := Ground.guard }], guard := some (3, false) }) (v := _) rfl (by kernel_rfl) (by kernel_rfl) (by kernel_rfl) (fun _ _ _ h => h) (neq_yields (by rfl) 35 _ _ _ rfl (u8s sk).toArray (u8s sk).toArray (by rfl) (by rfl) HSG true HEQ.out) (by assumption) ?_
                try simp only [Act.put, List.setIfInBounds_toArray, List.set_cons_zero, List.set_cons_succ]
                refine wpAnyH_take (i := 9) (oi := { dst := some 119, op := Op.pick (Operand.tmp 113) (Operand.const (Value.bool true)) (Operand.tmp 118), type := 4, pos := "law.go:114", after := #[{ on := 3, ground := Ground.data }, { on := 8, ground := Ground.data }], guard := none }) (v := ?_) rfl (by kernel_rfl) (by kernel_rfl) (by kernel_rfl) (fun _ _ _ h => h) (Or.inl ⟨by rfl, ?_⟩) (by assumption) ?_
                rotate_left
                · (intro w' hSw; go_simp; try with_reducible rfl)
                try simp only [Act.put, List.setIfInBounds_toArray, List.set_cons_zero, List.set_cons_succ]
                refine wpAnyH_done (by kernel_rfl) ?_ _
                have HLAST := Lib.hid (below_drew h1)
                clear hHeld hH0
                go_wp2_with fail
                exact ⟨⟨k + 1, by omega, by go_num, Lib.hid (below_trans (below_trans HBK.out HB67.out) HLAST.out)⟩, by simp [intOf]; omega⟩
              · obtain rfl : k = n := by omega
                go_wp2_with fail
                exact ⟨⟨i + 1, Fq, stq, by omega, by go_num, Lib.hid (HRQ.out.later HBK.out)⟩, by simp [intOf]; omega⟩
        · obtain rfl : i = m := by omega
          go_wp2_with fail
          go_ret
          exact ⟨rfl, HRA.out.below⟩
    · have HNN := Lib.hid (cnew_no w1 n0 HN0.out (by omega))
      by_cases hlt : n0 < 1
      · go_wp2_with (first | (go_at_call 23; refine HNN.out.mono ?_; rintro e w2 ⟨rfl, hb2⟩; have HB2 := Lib.hid hb2; clear hb2) | (go_at_call 9; refine (num_any _ _).mono ?_; rintro e wz ⟨rfl, rfl⟩) | (go_at_call 24; refine (nobody_true _).mono ?_; rintro e w3 ⟨rfl, hb3⟩; have HB3 := Lib.hid hb3; clear hb3))
        go_ret
        exact ⟨rfl, below_trans (below_trans HB1.out HB2.out) HB3.out⟩
      · have hgt : (65 : Int) < n0 := by omega
        have hge : (1 : Int) ≤ n0 := by omega
        go_wp2_with (first | (go_at_call 23; refine HNN.out.mono ?_; rintro e w2 ⟨rfl, hb2⟩; have HB2 := Lib.hid hb2; clear hb2) | (go_at_call 9; refine (num_any _ _).mono ?_; rintro e wz ⟨rfl, rfl⟩) | (go_at_call 24; refine (nobody_true _).mono ?_; rintro e w3 ⟨rfl, hb3⟩; have HB3 := Lib.hid hb3; clear hb3))
        go_ret
        exact ⟨rfl, below_trans (below_trans HB1.out HB2.out) HB3.out⟩
end Go.Proofs.Yteobhljkjgocdaa.dsk
