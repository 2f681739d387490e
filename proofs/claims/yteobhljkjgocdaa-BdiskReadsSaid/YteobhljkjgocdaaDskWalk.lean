/- BdiskPlays' walk. -/
import Derived.Test.YteobhljkjgocdaaDskDrop
import Derived.LaidEqlPtr
namespace Go.Proofs.Yteobhljkjgocdaa.dsk
open Go.ChangeShapes Go.WideShapes Go.ChangeAt Go.RowKit
open Go.Proofs.Yteobhljkjgocdaa.rows
open Go.Proofs.Yteobhljkjgocdaa.sec
set_option linter.unusedVariables false
set_option linter.unusedSimpArgs false

theorem und_pd : Try.prog.underlying 26 = some (.pointer 70) := by kernel_rfl
theorem und_pr : Try.prog.underlying 30 = some (.pointer 53) := by kernel_rfl
theorem null_eq {t e : TypeId} (hu : Try.prog.underlying t = some (.pointer e)) (p : Option Addr) (w : World) : (binOp .eql t (.pointer p) (.pointer none)).run Try.prog w = .ok (.bool p.isNone) w := by
  have h : ∀ d : Nat, (Op.equalIn (d + 1) t (.pointer p) (.pointer none)).run Try.prog w = .ok p.isNone w := fun d => by
    cases p <;> simp [Op.equalIn, run_underlying hu]
  simp only [binOp]
  simp [Op.equal, Op.maxDepth, h 9999]
theorem null_neq {t e : TypeId} (hu : Try.prog.underlying t = some (.pointer e)) (p : Option Addr) (w : World) : (binOp .neq t (.pointer p) (.pointer none)).run Try.prog w = .ok (.bool (!p.isNone)) w := by
  have h : ∀ d : Nat, (Op.equalIn (d + 1) t (.pointer p) (.pointer none)).run Try.prog w = .ok p.isNone w := fun d => by
    cases p <;> simp [Op.equalIn, run_underlying hu]
  simp only [binOp]
  simp [Op.equal, Op.maxDepth, h 9999]
theorem rd_two (w : World) (a b : Int) : Rd (w.alloc (.cells #[.int .i64 a, .int .i64 b] 3)) 1 (.slice (some ⟨w.heap.size, 0, none⟩) 2 2) 2 (i64s [a, b]) := by
  have h : Own (w.alloc (.cells #[.int .i64 a, .int .i64 b] 3)) 0 3 1 (.slice (some ⟨w.heap.size, 0, none⟩) 2 2) 2 (i64s [a, b]) :=
    ⟨rfl, Or.inr ⟨w.heap.size, 2, _, rfl, Nat.zero_le _, heap_alloc_new _ _, Nat.le_refl _, by decide, rfl, rfl⟩⟩
  exact h.rd
theorem info_act : (Try.prog.info? 41).map (·.size) = some 38 := by kernel_rfl
theorem ld_act {ops : Array Oper} {S : World → Prop} {op : Oper} {a : Act} (hw : Region.wanted op (yielded ops a.tmps) = true) (x : Operand) (ho : op.op = .load 41 x)
    (b o : Nat) (hx : a.eval x = .pointer (some ⟨b, o, none⟩)) (y : Act0) (hs : y.c.length = 38) (hS : ∀ w, S w → w.rangeAt b o y.c) : YieldsIf Try.prog ops S op (.agg y.c.toArray) a :=
  yieldsIf_load_mid hw _ x ho b o hx y.c _ hS und_act rfl (by rw [info_act]; simp [hs])
theorem rd_slice {w : World} {sz n : Nat} {v : Value} {cs : List Value} (h : Rd w sz v n cs) : ∃ p c, v = .slice p n c := by
  rcases h with ⟨p, cap, rfl, rfl, _⟩ | ⟨b, off, cap, rfl, _⟩
  · exact ⟨p, cap, rfl⟩
  · exact ⟨_, cap, rfl⟩
theorem St.good.le {k j : Nat} {st : St} (h : st.good k) (hk : k ≤ j) : st.good j :=
  ⟨h.ss, h.n1, h.ws, h.es, by have := h.wn; omega, by have := h.ln; omega, h.bn, ⟨h.ep.1, by have := h.ep.2; omega⟩, ⟨h.asked.1, by have := h.asked.2; omega⟩⟩
set_option maxRecDepth 100000 in
set_option maxHeartbeats 6400000 in
theorem walkPlays {CA : World → (Nat → Prop) → Value → St → Prop} (D : DiskIs CA) (T : DiskTells CA) (HKN : ∀ w, Calls Try.prog 6 #[] w fun e w' => e = .returned (.bool true) ∧ Below w.heap.size w w')
    (p : Option Addr) (n c : Nat) (ss : List (List Int)) (p2 : Option Addr) (m c2 : Nat) (l : List Act0) (W : World) (h1 : Rd W 32 (.slice p n c) n (cellsOf ss)) (hn : n ≤ maxLen) (hs : Secs ss) (h2 : Rd W 38 (.slice p2 m c2) m ((l.map Act0.c).flatten)) (hm : m ≤ maxLen) (hok : ∀ a ∈ l, a.ok W) :
    Calls Try.prog 3 #[.slice p n c, .slice p2 m c2] W fun e w' => e = .returned (.bool true) ∧ Below W.heap.size W w' := by
  have H1 := Lib.hid h1
  have H2 := Lib.hid h2
  have HS := Lib.hid hs
  have HOK := Lib.hid hok
  have HD := Lib.hid D
  have HT := Lib.hid T
  have HK := Lib.hid HKN
  have HLI := Lib.hid fun w hw => light_any p2 m c2 l w hw hok h2 hm
  have hq1 := fun p w => null_eq und_pd p w
  have hq2 := fun p w => null_eq und_pr p w
  have hq3 := fun p w => null_neq und_pr p w
  have hn1 : (n : Int) ≤ 9223372036854775807 := by unfold maxLen at hn; omega
  have hm1 : (m : Int) ≤ 9223372036854775807 := by unfold maxLen at hm; omega
  clear h1 h2 hs hok D T HKN
  by_cases hn2 : n ≤ 200
  · have dn : decide ((200 : Int) < n) = false := by simp; omega
    go_enter Try.func3, Try.ntmps3
    go_wp2_with fail
    refine (HLI.out W (Below.refl _ _)).mono ?_
    rintro e w1 ⟨b, rfl, rfl, hb⟩
    clear HLI
    cases b with
    | false =>
      go_wp2_with (go_at_call 6; refine (HK.out _).mono ?_; rintro e w1 ⟨rfl, hb1⟩)
      go_ret
      exact ⟨rfl, hb1⟩
    | true =>
      obtain ⟨hm60, hli⟩ := hb rfl
      have HLI := Lib.hid hli
      clear hb hli
      go_wp2_with fail
      refine (HK.out _).mono ?_
      rintro e w1 ⟨rfl, hb1⟩
      have HB1 := Lib.hid hb1
      clear hb1 dn
      by_cases h65 : 1 ≤ n ∧ n ≤ 65
      · have HFR := Lib.hid (HT.out.from_yes w1 p n c ss HS.out (H1.out.later HB1.out) h65.1 h65.2)
        have HRF := Lib.hid fun w2 (hb : Below w1.heap.size w1 w2) => rfrom_yes p n c ss w2 HS.out (H1.out.later (below_trans HB1.out hb)) h65.1 h65.2
        go_wp2_with (first | (go_at_call 7; refine HFR.out.mono ?_; rintro e w2 ⟨ad, rfl, hc2, hb2⟩; have HC2 := Lib.hid hc2; have HB2 := Lib.hid hb2; clear hc2 hb2) | (go_at_call 8; refine (HRF.out w2 HB2.out).mono ?_; rintro e w3 ⟨g, gs, rfl, hgs, hg, hne, hrows, hrow, hb3⟩; have HRW := Lib.hid hrows; have HRO := Lib.hid hrow; have HB3 := Lib.hid hb3; clear hrows hrow hb3) | (go_at_call 9; refine (num_any _ _).mono ?_; rintro e wz ⟨rfl, rfl⟩))
        have s2 := HB2.out.size
        have s3 := HB3.out.size
        have hsl : ss.length = n := by have := H1.out.cells; rw [cellsOf_len HS.out] at this; omega
        have hgl : g < w3.heap.size := (Array.getElem?_eq_some_iff.1 HRO.out).1
        have hgsl : gs < w3.heap.size := (Array.getElem?_eq_some_iff.1 HRW.out).1
        have hrw := rows_rd HRW.out HS.out (by unfold maxLen; omega)
        rw [hsl] at hrw
        have HB13 : Hid (Below W.heap.size W w3) := Lib.hid (below_trans (below_trans HB1.out HB2.out) HB3.out)
        have s1 := HB1.out.size
        have HBO : Hid (Both CA W.heap.size w3 (fun b => w1.heap.size ≤ b ∧ b < w2.heap.size) (fun b => w2.heap.size ≤ b ∧ b < w3.heap.size) (.pointer (some ad)) g (st0 ss)) := Lib.hid (by
          refine ⟨HD.out.kept _ _ _ _ _ HC2.out (Keeps.of_below HB3.out), ⟨_, _, _, _, HRO.out, ⟨hg, hgl⟩, ?_, ?_, rd_nil _ _, inS_nil _, ⟨[], rfl, rd_nil _ _, inS_nil _, fun i hi => absurd hi (Nat.not_lt_zero _)⟩, rd_nil _ _, inS_nil _⟩, fun k hk hk2 => by omega, fun k hk => by omega, fun k hk => by omega⟩
          · show Rd w3 32 _ ss.length (cellsOf ss)
            rw [hsl]
            exact hrw
          · intro a n' c' e hn'
            cases e
            exact ⟨⟨hgs, hgsl⟩, hne⟩)
        have HGO : Hid ((st0 ss).good 0) := Lib.hid ⟨HS.out, by show ss.length ≤ 65; omega, fun x hx => (by cases hx), fun x hx => (by cases hx), Nat.le_refl _, Nat.le_refl _, Nat.zero_le _, ⟨Int.le_refl _, Int.le_refl _⟩, ⟨Int.le_refl _, Int.le_refl _⟩⟩
        have hll : l.length = m := Rd.count Act0.c H2.out (fun x hx => Act0.c_len (HOK.out x hx)) (by decide)
        have HLL := Lib.hid hll
        clear hrw hsl HRW HRO HC2 HB2 HB3 HFR HRF hgs hg hne s2 s3 hll HB1
        go_loopw [5, 9] (fun dv iv wr => ∃ (k : Nat) (ad : Addr) (F G : Nat → Prop) (st : St), k ≤ m ∧ iv = .int .i64 (k : Int) ∧ dv = .pointer (some ad) ∧ Hid (Both CA W.heap.size wr F G dv g st) ∧ Hid (st.good (5 * k)) ∧ Hid (Below W.heap.size W wr)) (fun _ iv _ => m - (intOf iv).toNat)
        case atStart => exact ⟨0, ad, _, _, _, by omega, rfl, rfl, HBO, HGO, HB13⟩
        case round =>
          clear HBO HGO HB13
          obtain ⟨k, ad1, F, G, st, hk, rfl, rfl, HBO, HGO, HBW⟩ := hrel
          by_cases hkm : k < m
          · have hkm1 : (k:Int) < m := by omega
            have hkl : k < l.length := by rw [HLL.out]; exact hkm
            have hm60' : (m:Int) ≤ 60 := by omega
            obtain ⟨b2, o2, rfl, hcc2, hcm2, hb2, _, HR2⟩ := Rd.chunk Act0.c H2.out (fun x hx => Act0.c_len (HOK.out x hx)) (by decide) hkm
            have hmem := List.getElem_mem hkl
            have HAO := Lib.hid (HOK.out _ hmem)
            have HAL := Lib.hid (HLI.out _ hmem)
            have HAR := Lib.hid (HR2 k hkl)
            have HWR := Lib.hid (Rd.rangeLater (HR2 k hkl) hb2 HBW.out)
            generalize l[k] = a at *
            have ck := (act_parts HAO.out HWR.out).1
            clear HR2 hmem
            by_cases h6 : a.kind = 6
            rw [h6] at ck
            have HCL := Lib.hid (HT.out.clone wr F _ st HBO.out.code (HGO.out.fine (by omega)))
            go_wp2_with (go_at_call 10; refine HCL.out.mono ?_; rintro e w4 ⟨ad2, rfl, hc4, hb4⟩; have HC4 := Lib.hid hc4; have HB4 := Lib.hid hb4; clear hc4 hb4)
            have hwB := HBW.out.size
            have s4 := HB4.out.size
            have HTH := Lib.hid (three_start HD.out HBO.out hwB HC4.out HB4.out)
            have HBW4 : Hid (Below W.heap.size W w4) := Lib.hid (below_trans HBW.out HB4.out)
            have g1 := good_bar HGO.out w4
            have g2 := good_nine g1 w4
            have g3 := good_sync0 g2 w4
            have f0 := HGO.out.fine (by omega)
            have f1 := g1.fine (by omega)
            have f2 := g2.fine (by omega)
            have f3 := g3.fine (by omega)
            have HF1 := Lib.hid f1
            have HF2 := Lib.hid f2
            have HF3 := Lib.hid f3
            clear g1 g2 g3 f1 f2 f3 HC4 HB4 HCL
            generalize (fun b => wr.heap.size ≤ b ∧ b < w4.heap.size) = F1 at *
            refine (HD.out.barrier w4 F _ st HTH.out.old f0).mono ?_
            rintro e w5 ⟨rfl, hc5, ht5⟩
            have HT5 := Lib.hid (three_next HD.out HTH.out (by omega) hc5 ht5)
            have HBW5 : Hid (Below W.heap.size W w5) := Lib.hid (HBW4.out.trans (ht5.below (by omega) fun i hi => (HTH.out.in0 i hi).1))
            have s5 := ht5.size
            clear hc5 ht5 HTH f0
            generalize grow F w4 w5 = F5 at *
            have HWW := Lib.hid (HD.out.write w5 F5 _ _ 0 s9 0 0 HT5.out.old HF1.out wf0 sec_s9 wf0 wf0)
            go_wp2_with (first | (refine wpList_buildTo rfl 35 #[(0, .const (.int .u8 9))] rfl (some 67) rfl (u8s s9).toArray (by kernel_rfl) ?_))
            refine HWW.out.mono ?_
            rintro e w6 ⟨rfl, hc6, ht6⟩
            have HT6 := Lib.hid (three_next HD.out HT5.out (by omega) hc6 ht6)
            have HBW6 : Hid (Below W.heap.size W w6) := Lib.hid (HBW5.out.trans (ht6.below (by omega) fun i hi => (HT5.out.in0 i hi).1))
            have s6 := ht6.size
            clear hc6 ht6 HT5 HWW
            generalize grow F5 w5 w6 = F6 at *
            have HT6a := Lib.hid (three_later HD.out HT6.out (below_alloc (Below.refl _ w6) (.cells (tagC (0, 0)).toArray 37)))
            have HBW6a : Hid (Below W.heap.size W (w6.alloc (.cells (tagC (0, 0)).toArray 37))) := Lib.hid (below_alloc HBW6.out _)
            have HSY := Lib.hid (HD.out.sync (w6.alloc (.cells (tagC (0, 0)).toArray 37)) F6 _ _ (some ⟨w6.heap.size, 0, none⟩) 1 1 [(0, 0)] HT6a.out.old HF2.out (by have := rd_laid w6 37 2 (tagC (0, 0)) rfl; exact this) (fun a n c e _ hF => by cases e; have := (HT6.out.in0 _ hF).2; exact Nat.lt_irrefl _ this) (by decide) (fun t ht => by rw [List.mem_singleton.1 ht]; exact ⟨wf0, wf0⟩))
            have s6a : W.heap.size ≤ (w6.alloc (.cells (tagC (0, 0)).toArray 37)).heap.size := by rw [size_alloc]; omega
            go_wp2_with (first | (refine build_one elem_tags (by decide) rfl (.tmp 71) rfl (tagC (0, 0)) rfl rfl ?_))
            refine HSY.out.mono ?_
            rintro e w7 ⟨rfl, hc7, ht7⟩
            have HT7 := Lib.hid (three_next HD.out HT6a.out s6a hc7 ht7)
            have HBW7 : Hid (Below W.heap.size W w7) := Lib.hid (HBW6a.out.trans (ht7.below s6a fun i hi => (HT6a.out.in0 i hi).1))
            have s7 := HBW7.out.size
            clear hc7 ht7 HT6 HSY HT6a
            generalize grow F6 (w6.alloc (.cells (tagC (0, 0)).toArray 37)) w7 = F7 at *
            go_wp2_with fail
            have HT7a := Lib.hid (three_later HD.out HT7.out (below_alloc (Below.refl _ w7) (.cells #[.int .i64 0, .int .i64 1] 3)))
            have HBW7a : Hid (Below W.heap.size W (w7.alloc (.cells #[.int .i64 0, .int .i64 1] 3))) := Lib.hid (below_alloc HBW7.out _)
            have s7a : W.heap.size ≤ (w7.alloc (.cells #[.int .i64 0, .int .i64 1] 3)).heap.size := by rw [size_alloc]; omega
            refine (HD.out.fail (w7.alloc (.cells #[.int .i64 0, .int .i64 1] 3)) F7 _ _ (some ⟨w7.heap.size, 0, none⟩) 2 2 [0, 1] HT7a.out.old HF3.out (rd_two w7 0 1) (fun a n c e _ hF => by cases e; have := (HT7.out.in0 _ hF).2; exact Nat.lt_irrefl _ this) (by decide) (fun t ht => by
              simp only [List.mem_cons, List.not_mem_nil, or_false] at ht
              rcases ht with h | h <;> subst h <;> exact WalkArith.wf_i64 (by omega))).mono ?_
            rintro e w8 ⟨rfl, hc8, ht8⟩
            have HBO8 := Lib.hid (three_next HD.out HT7a.out s7a hc8 ht8).both
            have HBW8 : Hid (Below W.heap.size W w8) := Lib.hid (HBW7a.out.trans (ht8.below s7a fun i hi => (HT7a.out.in0 i hi).1))
            clear hc8 ht8 HT7 HT7a HBW7a HBW7 HBW6a HBW6 HBW5 HBW4 HF1 HF2 HF3 HBO HBW HWR ck s4 s5 s6 s6a s7 s7a hwB
            go_wp2_with fail
            obtain ⟨wq, hwq⟩ : ∃ x, x = w8 := ⟨_, rfl⟩
            obtain ⟨Fq, hFq⟩ : ∃ x, x = F1 := ⟨_, rfl⟩
            obtain ⟨adq, hadq⟩ : ∃ x, x = ad2 := ⟨_, rfl⟩
            subst hwq hFq hadq
            have HBOq := HBO8
            have HBWq := HBW8
            clear HBO8 HBW8
            rotate_left
            have dk : decide (a.kind = 6) = false := by simpa using h6
            go_wp2_with fail
            obtain ⟨wq, hwq⟩ : ∃ x, x = wr := ⟨_, rfl⟩
            obtain ⟨Fq, hFq⟩ : ∃ x, x = F := ⟨_, rfl⟩
            obtain ⟨adq, hadq⟩ : ∃ x, x = ad1 := ⟨_, rfl⟩
            subst hwq hFq hadq
            have HBOq := HBO
            have HBWq := HBW
            clear HBO HBW HWR ck
            all_goals
              have HGN := Lib.hid (good_next HGO.out a HAO.out HAL.out)
              have hst : Hid ((nextSt st a).good (5 * (k + 1))) := Lib.hid (HGN.out.le (by omega))
              have hwB := HBWq.out.size
              have HSA := Lib.hid (step_any HD.out (both_later HD.out HBOq.out (Below.refl _ wq).drew) hwB (HGO.out.fine (by omega)) a HAO.out HAL.out (Nat.le_refl _) HBWq.out.drew)
              have h0 : Below W.heap.size wq.drew wq.drew := Below.refl _ _
              refine wp_region_held_drew (S := fun w' => Below W.heap.size wq.drew w') (by kernel_rfl) (Below.refl _ _) (fun hH0 => ?_)
              refine wpAnyH_take (i := 0) (oi := { dst := some 78, op := Op.move (Operand.tmp 5), type := 26, pos := "law.go:81", after := #[], guard := none }) (v := ?_) rfl (by kernel_rfl) (by kernel_rfl) (by kernel_rfl) (fun _ _ _ h => h) (Or.inl ⟨by rfl, ?_⟩) (by assumption) ?_
              rotate_left
              · (intro w' hSw; go_simp; try with_reducible rfl)
              try simp only [Act.put, List.setIfInBounds_toArray, List.set_cons_zero, List.set_cons_succ]
              refine wpAnyH_take (i := 1) (oi := { dst := some 79, op := Op.move (Operand.tmp 7), type := 30, pos := "law.go:81", after := #[], guard := none }) (v := ?_) rfl (by kernel_rfl) (by kernel_rfl) (by kernel_rfl) (fun _ _ _ h => h) (Or.inl ⟨by rfl, ?_⟩) (by assumption) ?_
              rotate_left
              · (intro w' hSw; go_simp; try with_reducible rfl)
              try simp only [Act.put, List.setIfInBounds_toArray, List.set_cons_zero, List.set_cons_succ]
              refine wpAnyH_take (i := 2) (oi := { dst := some 80, op := Op.move (Operand.tmp 1), type := 23, pos := "law.go:81", after := #[], guard := none }) (v := ?_) rfl (by kernel_rfl) (by kernel_rfl) (by kernel_rfl) (fun _ _ _ h => h) (Or.inl ⟨by rfl, ?_⟩) (by assumption) ?_
              rotate_left
              · (intro w' hSw; go_simp; try with_reducible rfl)
              try simp only [Act.put, List.setIfInBounds_toArray, List.set_cons_zero, List.set_cons_succ]
              refine wpAnyH_take (i := 3) (oi := { dst := some 81, op := Op.move (Operand.tmp 9), type := 3, pos := "law.go:81", after := #[], guard := none }) (v := ?_) rfl (by kernel_rfl) (by kernel_rfl) (by kernel_rfl) (fun _ _ _ h => h) (Or.inl ⟨by rfl, ?_⟩) (by assumption) ?_
              rotate_left
              · (intro w' hSw; go_simp; try with_reducible rfl)
              try simp only [Act.put, List.setIfInBounds_toArray, List.set_cons_zero, List.set_cons_succ]
              refine wpAnyH_take (i := 4) (oi := { dst := some 82, op := Op.indexAddr 23 (Operand.tmp 80) (Operand.tmp 81), type := 0, pos := "law.go:81", after := #[{ on := 2, ground := Ground.data }, { on := 3, ground := Ground.data }], guard := none }) (v := ?_) rfl (by kernel_rfl) (by kernel_rfl) (by kernel_rfl) (fun _ _ _ h => h) (Or.inl ⟨by rfl, ?_⟩) (by assumption) ?_
              rotate_left
              · (intro w' hSw; go_simp; try with_reducible rfl)
              try simp only [Act.put, List.setIfInBounds_toArray, List.set_cons_zero, List.set_cons_succ]
              refine' wpAnyH_take (i := 5) (oi := { dst := some 83, op := Op.load 41 (Operand.tmp 82), type := 41, pos := "law.go:81", after := #[{ on := 4, ground := Ground.data }], guard := none }) (v := _) rfl (by kernel_rfl) (by kernel_rfl) (by kernel_rfl) (fun _ _ _ h => h) (ld_act (by rfl) _ rfl b2 (o2 + k * 38) rfl a (Act0.c_len HAO.out) (fun w' hw => Rd.rangeLater HAR.out hb2 (HBWq.out.drew.trans hw))) (by assumption) ?_
              try simp only [Act.put, List.setIfInBounds_toArray, List.set_cons_zero, List.set_cons_succ]
              -- 6
              refine wpAnyH_ready (rs := [6]) (by kernel_rfl) (by simp) ?_
              refine AllReadyH.cons (o := { dst := some 84, op := Op.call { callee := Callee.value (Operand.func 15), args := #[Operand.tmp 78, Operand.tmp 79, Operand.tmp 83], argTypes := #[26, 30, 41] }, type := 4, pos := "law.go:81", after := #[{ on := 0, ground := Ground.data }, { on := 1, ground := Ground.data }, { on := 5, ground := Ground.data }], guard := none }) rfl (fun K hK => ?_) AllReadyH.nil
              go_simp
              refine HSA.out.mono ?_
              rintro e v6 ⟨rfl, F6, G6, hbo6, hb6⟩
              have HB6 := Lib.hid hb6
              dsimp only
              refine hK.out _ _ ?_ (fun hHeld => ?_)
              · exact hb6
              clear hK K
              obtain ⟨st6, hst6⟩ : ∃ x, x = nextSt st a := ⟨_, rfl⟩
              rw [← hst6] at hbo6 hst
              clear hst6
              have HG6 := Lib.hid hbo6.inG
              have HF6 := Lib.hid hbo6.inF
              have HBO6 := Lib.hid hbo6
              obtain ⟨vs6, vw6, vl6, vb6, hra⟩ := hbo6.ref
              obtain ⟨ps6, cs6, hps6⟩ := rd_slice hra.safe
              obtain ⟨pw6, cw6, hpw6⟩ := rd_slice hra.wait
              obtain ⟨es6, hes6⟩ := hra.log
              obtain ⟨pl6, cl6, hpl6⟩ := rd_slice hes6.cells
              subst hps6 hpw6 hpl6
              have HRA := Lib.hid hra
              have HES6 := Lib.hid hes6
              have hg6 := hra.lt
              have HFI := Lib.hid (hst.out.fine (by omega))
              have C0 := Lib.hid (cell_row hra.row 0 _ rfl)
              have C1 := Lib.hid (cell_row hra.row 1 _ rfl)
              have C2 := Lib.hid (cell_row hra.row 2 _ rfl)
              have C3 := Lib.hid (cell_row hra.row 3 _ rfl)
              clear hHeld hra hes6 hbo6 HSA
              refine held_more (S' := fun w' => Below v6.heap.size v6 w') (fun w' hw => HB6.out.trans (hw.mono (by have := HB6.out.size; have := HBWq.out.size; have : wq.drew.heap.size = wq.heap.size := rfl; omega))) _ _ _ _ ?_
              have hHeld6 : Below v6.heap.size v6 v6 := Below.refl _ _
              have h1 : Below v6.heap.size v6 v6 := Below.refl _ _
              try simp only [Act.put, List.setIfInBounds_toArray, List.set_cons_zero, List.set_cons_succ]
              refine wpAnyH_take (i := 7) (oi := { dst := some 85, op := Op.unOp UnOp.not 4 (Operand.tmp 84), type := 4, pos := "law.go:81", after := #[{ on := 6, ground := Ground.data }], guard := none }) (v := ?_) rfl (by kernel_rfl) (by kernel_rfl) (by kernel_rfl) (fun _ _ _ h => h) (Or.inl ⟨by rfl, ?_⟩) (by assumption) ?_
              rotate_left
              · (intro w' hSw; go_simp; try with_reducible rfl)
              try simp only [Act.put, List.setIfInBounds_toArray, List.set_cons_zero, List.set_cons_succ]
              refine wpAnyH_take (i := 8) (oi := { dst := some 86, op := Op.move (Operand.tmp 85), type := 4, pos := "law.go:81", after := #[{ on := 7, ground := Ground.data }, { on := 6, ground := Ground.chain }], guard := none }) (v := ?_) rfl (by kernel_rfl) (by kernel_rfl) (by kernel_rfl) (fun _ _ _ h => h) (Or.inl ⟨by rfl, ?_⟩) (by assumption) ?_
              rotate_left
              · (intro w' hSw; go_simp; try with_reducible rfl)
              try simp only [Act.put, List.setIfInBounds_toArray, List.set_cons_zero, List.set_cons_succ]
              refine wpAnyH_take (i := 9) (oi := { dst := some 87, op := Op.move (Operand.tmp 5), type := 26, pos := "law.go:81", after := #[{ on := 8, ground := Ground.guard }], guard := some (8, false) }) (v := ?_) rfl (by kernel_rfl) (by kernel_rfl) (by kernel_rfl) (fun _ _ _ h => h) (Or.inl ⟨by rfl, ?_⟩) (by assumption) ?_
              rotate_left
              · (intro w' hSw; go_simp; try with_reducible rfl)
              try simp only [Act.put, List.setIfInBounds_toArray, List.set_cons_zero, List.set_cons_succ]
              refine wpAnyH_take (i := 11) (oi := { dst := some 89, op := Op.move (Operand.tmp 7), type := 30, pos := "law.go:81", after := #[{ on := 8, ground := Ground.guard }], guard := some (8, false) }) (v := ?_) rfl (by kernel_rfl) (by kernel_rfl) (by kernel_rfl) (fun _ _ _ h => h) (Or.inl ⟨by rfl, ?_⟩) (by assumption) ?_
              rotate_left
              · (intro w' hSw; go_simp; try with_reducible rfl)
              try simp only [Act.put, List.setIfInBounds_toArray, List.set_cons_zero, List.set_cons_succ]
              refine wpAnyH_take (i := 12) (oi := { dst := some 90, op := Op.nilCheck (Operand.tmp 89), type := 0, pos := "law.go:81", after := #[{ on := 11, ground := Ground.data }, { on := 8, ground := Ground.guard }], guard := some (8, false) }) (v := ?_) rfl (by kernel_rfl) (by kernel_rfl) (by kernel_rfl) (fun _ _ _ h => h) (Or.inl ⟨by rfl, ?_⟩) (by assumption) ?_
              rotate_left
              · (intro w' hSw; go_simp; try with_reducible rfl)
              try simp only [Act.put, List.setIfInBounds_toArray, List.set_cons_zero, List.set_cons_succ]
              refine wpAnyH_take (i := 13) (oi := { dst := some 91, op := Op.fieldAddr 53 (Operand.tmp 90) 0, type := 0, pos := "law.go:81", after := #[{ on := 12, ground := Ground.data }, { on := 8, ground := Ground.guard }], guard := some (8, false) }) (v := ?_) rfl (by kernel_rfl) (by kernel_rfl) (by kernel_rfl) (fun _ _ _ h => h) (Or.inl ⟨by rfl, ?_⟩) (by assumption) ?_
              rotate_left
              · (intro w' hSw; go_simp; try with_reducible rfl)
              try simp only [Act.put, List.setIfInBounds_toArray, List.set_cons_zero, List.set_cons_succ]
              refine' wpAnyH_take (i := 14) (oi := { dst := some 92, op := Op.load 22 (Operand.tmp 91), type := 22, pos := "law.go:81", after := #[{ on := 13, ground := Ground.data }, { on := 8, ground := Ground.guard }], guard := some (8, false) }) (v := _) rfl (by kernel_rfl) (by kernel_rfl) (by kernel_rfl) (fun _ _ _ h => h) (ld_cell (by rfl) 22 _ und_secs rfl _ rfl g 0 rfl (.slice ps6 st6.safe.length cs6) (fun w' hw => (hw.cell (p := ⟨g, 0, none⟩) hg6).trans C0.out)) (by assumption) ?_
              try simp only [Act.put, List.setIfInBounds_toArray, List.set_cons_zero, List.set_cons_succ]
              -- 10
              refine wpAnyH_ready (rs := [10]) (by kernel_rfl) (by simp) ?_
              refine AllReadyH.cons (o := { dst := some 88, op := Op.call { callee := Callee.value (Operand.func 17), args := #[Operand.tmp 87], argTypes := #[26] }, type := 22, pos := "law.go:81", after := #[{ on := 9, ground := Ground.data }, { on := 8, ground := Ground.chain }, { on := 8, ground := Ground.guard }], guard := some (8, false) }) rfl (fun K hK => ?_) AllReadyH.nil
              go_simp
              refine (HT.out.safe _ F6 _ st6 (HD.out.kept _ _ _ _ _ HBO6.out.code (Keeps.of_below h1)) HFI.out).mono ?_
              rintro e v10 ⟨p10, c10, rfl, hr10, hb10⟩
              have HR10 := Lib.hid hr10
              have h2 := below_trans h1 hb10
              clear hr10 hb10
              dsimp only
              refine hK.out _ _ ?_ (fun hHeld => ?_)
              · exact h2
              clear hK K
              try simp only [Act.put, List.setIfInBounds_toArray, List.set_cons_zero, List.set_cons_succ]
              -- 15
              refine wpAnyH_ready (rs := [15]) (by kernel_rfl) (by simp) ?_
              refine AllReadyH.cons (o := { dst := some 93, op := Op.call { callee := Callee.value (Operand.func 16), args := #[Operand.tmp 88, Operand.tmp 92], argTypes := #[22, 22] }, type := 4, pos := "law.go:81", after := #[{ on := 10, ground := Ground.data }, { on := 14, ground := Ground.data }, { on := 10, ground := Ground.chain }, { on := 8, ground := Ground.guard }], guard := some (8, false) }) rfl (fun K hK => ?_) AllReadyH.nil
              go_simp
              refine (same_any p10 ps6 _ c10 cs6 st6.safe _ HFI.out.few.ss HR10.out (HRA.out.safe.later h2) (by have := HFI.out.n1; omega)).mono ?_
              rintro e v15 ⟨rfl, hb15⟩
              have h3 := below_trans h2 hb15
              clear hb15
              dsimp only
              refine hK.out _ _ ?_ (fun hHeld => ?_)
              · exact h3
              clear hK K
              try simp only [Act.put, List.setIfInBounds_toArray, List.set_cons_zero, List.set_cons_succ]
              refine wpAnyH_take (i := 16) (oi := { dst := some 94, op := Op.unOp UnOp.not 4 (Operand.tmp 93), type := 4, pos := "law.go:81", after := #[{ on := 15, ground := Ground.data }, { on := 8, ground := Ground.guard }], guard := some (8, false) }) (v := ?_) rfl (by kernel_rfl) (by kernel_rfl) (by kernel_rfl) (fun _ _ _ h => h) (Or.inl ⟨by rfl, ?_⟩) (by assumption) ?_
              rotate_left
              · (intro w' hSw; go_simp; try with_reducible rfl)
              try simp only [Act.put, List.setIfInBounds_toArray, List.set_cons_zero, List.set_cons_succ]
              refine wpAnyH_take (i := 17) (oi := { dst := some 95, op := Op.pick (Operand.tmp 86) (Operand.const (Value.bool true)) (Operand.tmp 94), type := 4, pos := "law.go:81", after := #[{ on := 8, ground := Ground.data }, { on := 16, ground := Ground.data }], guard := none }) (v := ?_) rfl (by kernel_rfl) (by kernel_rfl) (by kernel_rfl) (fun _ _ _ h => h) (Or.inl ⟨by rfl, ?_⟩) (by assumption) ?_
              rotate_left
              · (intro w' hSw; go_simp; try with_reducible rfl)
              try simp only [Act.put, List.setIfInBounds_toArray, List.set_cons_zero, List.set_cons_succ]
              refine wpAnyH_take (i := 18) (oi := { dst := some 96, op := Op.move (Operand.tmp 95), type := 4, pos := "law.go:81", after := #[{ on := 17, ground := Ground.data }, { on := 15, ground := Ground.chain }], guard := none }) (v := ?_) rfl (by kernel_rfl) (by kernel_rfl) (by kernel_rfl) (fun _ _ _ h => h) (Or.inl ⟨by rfl, ?_⟩) (by assumption) ?_
              rotate_left
              · (intro w' hSw; go_simp; try with_reducible rfl)
              try simp only [Act.put, List.setIfInBounds_toArray, List.set_cons_zero, List.set_cons_succ]
              refine wpAnyH_take (i := 19) (oi := { dst := some 97, op := Op.move (Operand.tmp 5), type := 26, pos := "law.go:81", after := #[{ on := 18, ground := Ground.guard }], guard := some (18, false) }) (v := ?_) rfl (by kernel_rfl) (by kernel_rfl) (by kernel_rfl) (fun _ _ _ h => h) (Or.inl ⟨by rfl, ?_⟩) (by assumption) ?_
              rotate_left
              · (intro w' hSw; go_simp; try with_reducible rfl)
              try simp only [Act.put, List.setIfInBounds_toArray, List.set_cons_zero, List.set_cons_succ]
              refine wpAnyH_take (i := 21) (oi := { dst := some 99, op := Op.move (Operand.tmp 7), type := 30, pos := "law.go:81", after := #[{ on := 18, ground := Ground.guard }], guard := some (18, false) }) (v := ?_) rfl (by kernel_rfl) (by kernel_rfl) (by kernel_rfl) (fun _ _ _ h => h) (Or.inl ⟨by rfl, ?_⟩) (by assumption) ?_
              rotate_left
              · (intro w' hSw; go_simp; try with_reducible rfl)
              try simp only [Act.put, List.setIfInBounds_toArray, List.set_cons_zero, List.set_cons_succ]
              refine wpAnyH_take (i := 22) (oi := { dst := some 100, op := Op.nilCheck (Operand.tmp 99), type := 0, pos := "law.go:81", after := #[{ on := 21, ground := Ground.data }, { on := 18, ground := Ground.guard }], guard := some (18, false) }) (v := ?_) rfl (by kernel_rfl) (by kernel_rfl) (by kernel_rfl) (fun _ _ _ h => h) (Or.inl ⟨by rfl, ?_⟩) (by assumption) ?_
              rotate_left
              · (intro w' hSw; go_simp; try with_reducible rfl)
              try simp only [Act.put, List.setIfInBounds_toArray, List.set_cons_zero, List.set_cons_succ]
              refine wpAnyH_take (i := 23) (oi := { dst := some 101, op := Op.fieldAddr 53 (Operand.tmp 100) 1, type := 0, pos := "law.go:81", after := #[{ on := 22, ground := Ground.data }, { on := 18, ground := Ground.guard }], guard := some (18, false) }) (v := ?_) rfl (by kernel_rfl) (by kernel_rfl) (by kernel_rfl) (fun _ _ _ h => h) (Or.inl ⟨by rfl, ?_⟩) (by assumption) ?_
              rotate_left
              · (intro w' hSw; go_simp; try with_reducible rfl)
              try simp only [Act.put, List.setIfInBounds_toArray, List.set_cons_zero, List.set_cons_succ]
              refine' wpAnyH_take (i := 24) (oi := { dst := some 102, op := Op.load 50 (Operand.tmp 101), type := 50, pos := "law.go:81", after := #[{ on := 23, ground := Ground.data }, { on := 18, ground := Ground.guard }], guard := some (18, false) }) (v := _) rfl (by kernel_rfl) (by kernel_rfl) (by kernel_rfl) (fun _ _ _ h => h) (ld_cell (by rfl) 50 _ und_wrs rfl _ rfl g 1 rfl (.slice pw6 st6.wait.length cw6) (fun w' hw => (hw.cell (p := ⟨g, 1, none⟩) hg6).trans C1.out)) (by assumption) ?_
              try simp only [Act.put, List.setIfInBounds_toArray, List.set_cons_zero, List.set_cons_succ]
              -- 20
              refine wpAnyH_ready (rs := [20]) (by kernel_rfl) (by simp) ?_
              refine AllReadyH.cons (o := { dst := some 98, op := Op.call { callee := Callee.value (Operand.func 19), args := #[Operand.tmp 97], argTypes := #[26] }, type := 50, pos := "law.go:81", after := #[{ on := 19, ground := Ground.data }, { on := 18, ground := Ground.chain }, { on := 18, ground := Ground.guard }], guard := some (18, false) }) rfl (fun K hK => ?_) AllReadyH.nil
              go_simp
              refine (HT.out.waiting _ F6 _ st6 (HD.out.kept _ _ _ _ _ HBO6.out.code (Keeps.of_below h3)) HFI.out).mono ?_
              rintro e v20 ⟨p20, c20, rfl, hr20, hb20⟩
              have HR20 := Lib.hid hr20
              have h4 := below_trans h3 hb20
              clear hr20 hb20
              dsimp only
              refine hK.out _ _ ?_ (fun hHeld => ?_)
              · exact h4
              clear hK K
              try simp only [Act.put, List.setIfInBounds_toArray, List.set_cons_zero, List.set_cons_succ]
              -- 25
              refine wpAnyH_ready (rs := [25]) (by kernel_rfl) (by simp) ?_
              refine AllReadyH.cons (o := { dst := some 103, op := Op.call { callee := Callee.value (Operand.func 18), args := #[Operand.tmp 98, Operand.tmp 102], argTypes := #[50, 50] }, type := 4, pos := "law.go:81", after := #[{ on := 20, ground := Ground.data }, { on := 24, ground := Ground.data }, { on := 20, ground := Ground.chain }, { on := 18, ground := Ground.guard }], guard := some (18, false) }) rfl (fun K hK => ?_) AllReadyH.nil
              go_simp
              refine (writes_same p20 pw6 _ c20 cw6 st6.wait _ HFI.out.few.ws HR20.out (HRA.out.wait.later h4) (by have := HFI.out.few.wn; omega)).mono ?_
              rintro e v25 ⟨rfl, k25, rfl⟩
              have h5 := blw_drewN h4 k25
              dsimp only
              refine hK.out _ _ ?_ (fun hHeld => ?_)
              · exact h5
              clear hK K
              try simp only [Act.put, List.setIfInBounds_toArray, List.set_cons_zero, List.set_cons_succ]
              refine wpAnyH_take (i := 26) (oi := { dst := some 104, op := Op.unOp UnOp.not 4 (Operand.tmp 103), type := 4, pos := "law.go:81", after := #[{ on := 25, ground := Ground.data }, { on := 18, ground := Ground.guard }], guard := some (18, false) }) (v := ?_) rfl (by kernel_rfl) (by kernel_rfl) (by kernel_rfl) (fun _ _ _ h => h) (Or.inl ⟨by rfl, ?_⟩) (by assumption) ?_
              rotate_left
              · (intro w' hSw; go_simp; try with_reducible rfl)
              try simp only [Act.put, List.setIfInBounds_toArray, List.set_cons_zero, List.set_cons_succ]
              refine wpAnyH_take (i := 27) (oi := { dst := some 105, op := Op.pick (Operand.tmp 96) (Operand.const (Value.bool true)) (Operand.tmp 104), type := 4, pos := "law.go:81", after := #[{ on := 18, ground := Ground.data }, { on := 26, ground := Ground.data }], guard := none }) (v := ?_) rfl (by kernel_rfl) (by kernel_rfl) (by kernel_rfl) (fun _ _ _ h => h) (Or.inl ⟨by rfl, ?_⟩) (by assumption) ?_
              rotate_left
              · (intro w' hSw; go_simp; try with_reducible rfl)
              try simp only [Act.put, List.setIfInBounds_toArray, List.set_cons_zero, List.set_cons_succ]
              refine wpAnyH_take (i := 28) (oi := { dst := some 106, op := Op.move (Operand.tmp 105), type := 4, pos := "law.go:81", after := #[{ on := 27, ground := Ground.data }, { on := 25, ground := Ground.chain }], guard := none }) (v := ?_) rfl (by kernel_rfl) (by kernel_rfl) (by kernel_rfl) (fun _ _ _ h => h) (Or.inl ⟨by rfl, ?_⟩) (by assumption) ?_
              rotate_left
              · (intro w' hSw; go_simp; try with_reducible rfl)
              try simp only [Act.put, List.setIfInBounds_toArray, List.set_cons_zero, List.set_cons_succ]
              refine wpAnyH_take (i := 29) (oi := { dst := some 107, op := Op.move (Operand.tmp 5), type := 26, pos := "law.go:81", after := #[{ on := 28, ground := Ground.guard }], guard := some (28, false) }) (v := ?_) rfl (by kernel_rfl) (by kernel_rfl) (by kernel_rfl) (fun _ _ _ h => h) (Or.inl ⟨by rfl, ?_⟩) (by assumption) ?_
              rotate_left
              · (intro w' hSw; go_simp; try with_reducible rfl)
              try simp only [Act.put, List.setIfInBounds_toArray, List.set_cons_zero, List.set_cons_succ]
              refine wpAnyH_take (i := 31) (oi := { dst := some 109, op := Op.move (Operand.tmp 7), type := 30, pos := "law.go:81", after := #[{ on := 28, ground := Ground.guard }], guard := some (28, false) }) (v := ?_) rfl (by kernel_rfl) (by kernel_rfl) (by kernel_rfl) (fun _ _ _ h => h) (Or.inl ⟨by rfl, ?_⟩) (by assumption) ?_
              rotate_left
              · (intro w' hSw; go_simp; try with_reducible rfl)
              try simp only [Act.put, List.setIfInBounds_toArray, List.set_cons_zero, List.set_cons_succ]
              refine wpAnyH_take (i := 32) (oi := { dst := some 110, op := Op.nilCheck (Operand.tmp 109), type := 0, pos := "law.go:81", after := #[{ on := 31, ground := Ground.data }, { on := 28, ground := Ground.guard }], guard := some (28, false) }) (v := ?_) rfl (by kernel_rfl) (by kernel_rfl) (by kernel_rfl) (fun _ _ _ h => h) (Or.inl ⟨by rfl, ?_⟩) (by assumption) ?_
              rotate_left
              · (intro w' hSw; go_simp; try with_reducible rfl)
              try simp only [Act.put, List.setIfInBounds_toArray, List.set_cons_zero, List.set_cons_succ]
              refine wpAnyH_take (i := 33) (oi := { dst := some 111, op := Op.fieldAddr 53 (Operand.tmp 110) 3, type := 0, pos := "law.go:81", after := #[{ on := 32, ground := Ground.data }, { on := 28, ground := Ground.guard }], guard := some (28, false) }) (v := ?_) rfl (by kernel_rfl) (by kernel_rfl) (by kernel_rfl) (fun _ _ _ h => h) (Or.inl ⟨by rfl, ?_⟩) (by assumption) ?_
              rotate_left
              · (intro w' hSw; go_simp; try with_reducible rfl)
              try simp only [Act.put, List.setIfInBounds_toArray, List.set_cons_zero, List.set_cons_succ]
              refine' wpAnyH_take (i := 34) (oi := { dst := some 112, op := Op.load 51 (Operand.tmp 111), type := 51, pos := "law.go:81", after := #[{ on := 33, ground := Ground.data }, { on := 28, ground := Ground.guard }], guard := some (28, false) }) (v := _) rfl (by kernel_rfl) (by kernel_rfl) (by kernel_rfl) (fun _ _ _ h => h) (ld_cell (by rfl) 51 _ und_evsl rfl _ rfl g 3 rfl (.slice pl6 st6.log.length cl6) (fun w' hw => (hw.cell (p := ⟨g, 3, none⟩) hg6).trans C3.out)) (by assumption) ?_
              try simp only [Act.put, List.setIfInBounds_toArray, List.set_cons_zero, List.set_cons_succ]
              -- 30
              refine wpAnyH_ready (rs := [30]) (by kernel_rfl) (by simp) ?_
              refine AllReadyH.cons (o := { dst := some 108, op := Op.call { callee := Callee.value (Operand.func 21), args := #[Operand.tmp 107], argTypes := #[26] }, type := 51, pos := "law.go:81", after := #[{ on := 29, ground := Ground.data }, { on := 28, ground := Ground.chain }, { on := 28, ground := Ground.guard }], guard := some (28, false) }) rfl (fun K hK => ?_) AllReadyH.nil
              go_simp
              refine (HT.out.log _ F6 _ st6 (HD.out.kept _ _ _ _ _ HBO6.out.code (Keeps.of_below h5)) HFI.out).mono ?_
              rintro e v30 ⟨p30, c30, es30, rfl, hr30, hb30⟩
              have HR30 := Lib.hid hr30
              have h6 := below_trans h5 hb30
              clear hr30 hb30
              dsimp only
              refine hK.out _ _ ?_ (fun hHeld => ?_)
              · exact h6
              clear hK K
              try simp only [Act.put, List.setIfInBounds_toArray, List.set_cons_zero, List.set_cons_succ]
              -- 35
              refine wpAnyH_ready (rs := [35]) (by kernel_rfl) (by simp) ?_
              refine AllReadyH.cons (o := { dst := some 113, op := Op.call { callee := Callee.value (Operand.func 20), args := #[Operand.tmp 108, Operand.tmp 112], argTypes := #[51, 51] }, type := 4, pos := "law.go:81", after := #[{ on := 30, ground := Ground.data }, { on := 34, ground := Ground.data }, { on := 30, ground := Ground.chain }, { on := 28, ground := Ground.guard }], guard := some (28, false) }) rfl (fun K hK => ?_) AllReadyH.nil
              go_simp
              refine (events_same _ _ p30 pl6 _ c30 cl6 st6.log es30 es6 _ HFI.out.few.es HFI.out.few.ts HR30.out (evs_kept HES6.out (Keeps.of_below h6) (fun b hb => hb)) (by have := HFI.out.few.ln; omega)).mono ?_
              rintro e v35 ⟨rfl, k35, rfl⟩
              have h7 := blw_drewN h6 k35
              dsimp only
              refine hK.out _ _ ?_ (fun hHeld => ?_)
              · exact h7
              clear hK K
              try simp only [Act.put, List.setIfInBounds_toArray, List.set_cons_zero, List.set_cons_succ]
              refine wpAnyH_take (i := 36) (oi := { dst := some 114, op := Op.unOp UnOp.not 4 (Operand.tmp 113), type := 4, pos := "law.go:81", after := #[{ on := 35, ground := Ground.data }, { on := 28, ground := Ground.guard }], guard := some (28, false) }) (v := ?_) rfl (by kernel_rfl) (by kernel_rfl) (by kernel_rfl) (fun _ _ _ h => h) (Or.inl ⟨by rfl, ?_⟩) (by assumption) ?_
              rotate_left
              · (intro w' hSw; go_simp; try with_reducible rfl)
              try simp only [Act.put, List.setIfInBounds_toArray, List.set_cons_zero, List.set_cons_succ]
              refine wpAnyH_take (i := 37) (oi := { dst := some 115, op := Op.pick (Operand.tmp 106) (Operand.const (Value.bool true)) (Operand.tmp 114), type := 4, pos := "law.go:81", after := #[{ on := 28, ground := Ground.data }, { on := 36, ground := Ground.data }], guard := none }) (v := ?_) rfl (by kernel_rfl) (by kernel_rfl) (by kernel_rfl) (fun _ _ _ h => h) (Or.inl ⟨by rfl, ?_⟩) (by assumption) ?_
              rotate_left
              · (intro w' hSw; go_simp; try with_reducible rfl)
              try simp only [Act.put, List.setIfInBounds_toArray, List.set_cons_zero, List.set_cons_succ]
              refine wpAnyH_take (i := 38) (oi := { dst := some 116, op := Op.move (Operand.tmp 115), type := 4, pos := "law.go:81", after := #[{ on := 37, ground := Ground.data }, { on := 35, ground := Ground.chain }], guard := none }) (v := ?_) rfl (by kernel_rfl) (by kernel_rfl) (by kernel_rfl) (fun _ _ _ h => h) (Or.inl ⟨by rfl, ?_⟩) (by assumption) ?_
              rotate_left
              · (intro w' hSw; go_simp; try with_reducible rfl)
              try simp only [Act.put, List.setIfInBounds_toArray, List.set_cons_zero, List.set_cons_succ]
              refine wpAnyH_take (i := 39) (oi := { dst := some 117, op := Op.move (Operand.tmp 5), type := 26, pos := "law.go:81", after := #[{ on := 38, ground := Ground.guard }], guard := some (38, false) }) (v := ?_) rfl (by kernel_rfl) (by kernel_rfl) (by kernel_rfl) (fun _ _ _ h => h) (Or.inl ⟨by rfl, ?_⟩) (by assumption) ?_
              rotate_left
              · (intro w' hSw; go_simp; try with_reducible rfl)
              try simp only [Act.put, List.setIfInBounds_toArray, List.set_cons_zero, List.set_cons_succ]
              refine wpAnyH_take (i := 41) (oi := { dst := some 119, op := Op.move (Operand.tmp 7), type := 30, pos := "law.go:81", after := #[{ on := 38, ground := Ground.guard }], guard := some (38, false) }) (v := ?_) rfl (by kernel_rfl) (by kernel_rfl) (by kernel_rfl) (fun _ _ _ h => h) (Or.inl ⟨by rfl, ?_⟩) (by assumption) ?_
              rotate_left
              · (intro w' hSw; go_simp; try with_reducible rfl)
              try simp only [Act.put, List.setIfInBounds_toArray, List.set_cons_zero, List.set_cons_succ]
              refine wpAnyH_take (i := 42) (oi := { dst := some 120, op := Op.nilCheck (Operand.tmp 119), type := 0, pos := "law.go:81", after := #[{ on := 41, ground := Ground.data }, { on := 38, ground := Ground.guard }], guard := some (38, false) }) (v := ?_) rfl (by kernel_rfl) (by kernel_rfl) (by kernel_rfl) (fun _ _ _ h => h) (Or.inl ⟨by rfl, ?_⟩) (by assumption) ?_
              rotate_left
              · (intro w' hSw; go_simp; try with_reducible rfl)
              try simp only [Act.put, List.setIfInBounds_toArray, List.set_cons_zero, List.set_cons_succ]
              refine wpAnyH_take (i := 43) (oi := { dst := some 121, op := Op.fieldAddr 53 (Operand.tmp 120) 2, type := 0, pos := "law.go:81", after := #[{ on := 42, ground := Ground.data }, { on := 38, ground := Ground.guard }], guard := some (38, false) }) (v := ?_) rfl (by kernel_rfl) (by kernel_rfl) (by kernel_rfl) (fun _ _ _ h => h) (Or.inl ⟨by rfl, ?_⟩) (by assumption) ?_
              rotate_left
              · (intro w' hSw; go_simp; try with_reducible rfl)
              try simp only [Act.put, List.setIfInBounds_toArray, List.set_cons_zero, List.set_cons_succ]
              refine' wpAnyH_take (i := 44) (oi := { dst := some 122, op := Op.load 3 (Operand.tmp 121), type := 3, pos := "law.go:81", after := #[{ on := 43, ground := Ground.data }, { on := 38, ground := Ground.guard }], guard := some (38, false) }) (v := _) rfl (by kernel_rfl) (by kernel_rfl) (by kernel_rfl) (fun _ _ _ h => h) (ld_cell (by rfl) 3 _ und_int rfl _ rfl g 2 rfl (.int .i64 st6.ep) (fun w' hw => (hw.cell (p := ⟨g, 2, none⟩) hg6).trans C2.out)) (by assumption) ?_
              try simp only [Act.put, List.setIfInBounds_toArray, List.set_cons_zero, List.set_cons_succ]
              -- 40
              refine wpAnyH_ready (rs := [40]) (by kernel_rfl) (by simp) ?_
              refine AllReadyH.cons (o := { dst := some 118, op := Op.call { callee := Callee.value (Operand.func 22), args := #[Operand.tmp 117], argTypes := #[26] }, type := 3, pos := "law.go:81", after := #[{ on := 39, ground := Ground.data }, { on := 38, ground := Ground.chain }, { on := 38, ground := Ground.guard }], guard := some (38, false) }) rfl (fun K hK => ?_) AllReadyH.nil
              go_simp
              refine (HT.out.epoch _ F6 _ st6 (HD.out.kept _ _ _ _ _ HBO6.out.code (Keeps.of_below h7)) HFI.out).mono ?_
              rintro e v40 ⟨rfl, hb40⟩
              have h8 := below_trans h7 hb40
              clear hb40
              dsimp only
              refine hK.out _ _ ?_ (fun hHeld => ?_)
              · exact h8
              clear hK K
              try simp only [Act.put, List.setIfInBounds_toArray, List.set_cons_zero, List.set_cons_succ]
              refine wpAnyH_take (i := 45) (oi := { dst := some 123, op := Op.binOp BinOp.neq 3 (Operand.tmp 118) (Operand.tmp 122) 3, type := 4, pos := "law.go:81", after := #[{ on := 40, ground := Ground.data }, { on := 44, ground := Ground.data }, { on := 38, ground := Ground.guard }], guard := some (38, false) }) (v := ?_) rfl (by kernel_rfl) (by kernel_rfl) (by kernel_rfl) (fun _ _ _ h => h) (Or.inl ⟨by rfl, ?_⟩) (by assumption) ?_
              rotate_left
              · (intro w' hSw; go_simp; try with_reducible rfl)
              try simp only [Act.put, List.setIfInBounds_toArray, List.set_cons_zero, List.set_cons_succ]
              refine wpAnyH_take (i := 46) (oi := { dst := some 124, op := Op.pick (Operand.tmp 116) (Operand.const (Value.bool true)) (Operand.tmp 123), type := 4, pos := "law.go:81", after := #[{ on := 38, ground := Ground.data }, { on := 45, ground := Ground.data }], guard := none }) (v := ?_) rfl (by kernel_rfl) (by kernel_rfl) (by kernel_rfl) (fun _ _ _ h => h) (Or.inl ⟨by rfl, ?_⟩) (by assumption) ?_
              rotate_left
              · (intro w' hSw; go_simp; try with_reducible rfl)
              try simp only [Act.put, List.setIfInBounds_toArray, List.set_cons_zero, List.set_cons_succ]
              refine wpAnyH_done (by kernel_rfl) ?_ _
              have HLAST := Lib.hid h8
              clear hHeld hH0
              have HBE : Hid (Below W.heap.size W v40) := Lib.hid ((HBWq.out.drew.trans HB6.out).trans (HLAST.out.mono (by have := HB6.out.size; have : wq.drew.heap.size = wq.heap.size := rfl; omega)))
              have HBOE := Lib.hid (both_later HD.out HBO6.out HLAST.out)
              go_wp2_with fail
              exact ⟨⟨k + 1, adq, F6, G6, st6, by omega, by go_num, rfl, HBOE, hst, HBE⟩, by simp [intOf]; omega⟩
          · obtain rfl : k = m := by omega
            go_wp2_with fail
            go_ret
            exact ⟨rfl, HBW.out⟩
      · have HFR := Lib.hid (HT.out.from_no w1 p n c hn2 (by omega))
        have HRF := Lib.hid fun w2 => rfrom_no p n c w2 hn2 (by omega)
        go_wp2_with (first | (go_at_call 7; refine HFR.out.mono ?_; rintro e w2 ⟨rfl, hb2⟩; have HB2 := Lib.hid hb2; clear hb2) | (go_at_call 8; refine (HRF.out w2).mono ?_; rintro e w3 ⟨rfl, hb3⟩; have HB3 := Lib.hid hb3; clear hb3) | (go_at_call 9; refine (num_any _ _).mono ?_; rintro e wz ⟨rfl, rfl⟩))
        have HB13 : Hid (Below W.heap.size W w3) := Lib.hid (below_trans (below_trans HB1.out HB2.out) HB3.out)
        go_loopw [9] (fun iv wr => iv = .int .i64 0 ∧ Hid (Below W.heap.size W wr)) (fun _ _ => 0)
        case atStart => exact ⟨rfl, HB13⟩
        case round =>
          obtain ⟨rfl, HBW⟩ := hrel
          by_cases hm0 : 0 < m
          · have hm01 : (0 : Int) < (m : Int) := by omega
            go_wp2_with fail
            go_ret
            exact ⟨rfl, HBW.out⟩
          · have hm01 : ¬ (0 : Int) < (m : Int) := by omega
            go_wp2_with fail
            go_ret
            exact ⟨rfl, HBW.out⟩
  · have dn : decide ((200 : Int) < n) = true := by simp; omega
    go_enter Try.func3, Try.ntmps3
    go_wp2_with (go_at_call 6; refine (HK.out _).mono ?_; rintro e w1 ⟨rfl, hb1⟩)
    go_ret
    exact ⟨rfl, hb1⟩
end Go.Proofs.Yteobhljkjgocdaa.dsk
