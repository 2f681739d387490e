/- What the code's Image gives. -/
import Derived.Test.YtpnepooobmbfbaaCrImgM
namespace Go.Proofs.Ytpnepooobmbfbaa.dsk
set_option maxRecDepth 100000
open Go.ChangeShapes Go.WideShapes Go.ChangeAt Go.RowKit
open Go.Proofs.Ytpnepooobmbfbaa.rows
open Go.Proofs.Ytpnepooobmbfbaa.sec
open Go.Proofs.Ytpnepooobmbfbaa.cho (IntsIn allowed_any rallowed_any fate_of rfate_any)
open Go.Proofs.Ytpnepooobmbfbaa.choMath
set_option linter.unusedVariables false
set_option linter.unusedSimpArgs false

theorem any_upto {α : Type} (f : α → Bool) (l : List α) {j : Nat} (h : j < l.length) (h0 : (l.take j).any f = false) : (l.take (j + 1)).any f = f l[j] := by
  rw [List.take_succ_eq_append_getElem h, List.any_append, h0]; simp
theorem any_of_take {α : Type} (f : α → Bool) (l : List α) (j : Nat) (h : (l.take j).any f = true) : l.any f = true := by
  rw [List.any_eq_true] at h ⊢
  obtain ⟨x, hx, hf⟩ := h
  exact ⟨x, List.mem_of_mem_take hx, hf⟩
def missV (bx : Nat) : Value := .func (.func 41) #[] #[.pointer (some ⟨bx, 0, none⟩)]
set_option maxRecDepth 100000 in
set_option maxHeartbeats 1600000 in
theorem cindex (bx : Nat) (ps : Option Addr) (n cs : Nat) (vw : Value) (p : Option Addr) (m c : Nat) (ws : List Wr) (w : World) (hb : w.heap[bx]? = some (.cells #[.slice ps n cs, vw] 28 (0, 0))) (hs : ∀ x ∈ ws, Sec x.s) (hn : n ≤ 1000)
    (h : Rd w 36 (.slice p m c) m (wrsC ws)) (hm : m ≤ 1000) :
    Calls Try.prog 67 #[.slice p m c, missV bx] w fun e w' => (∃ r : Int, e = .returned (.int .i64 r) ∧ decide (0 ≤ r) = ws.any (missB n)) ∧ Below w.heap.size w w' := by
  have HR := Lib.hid h
  have HWC := Lib.hid fun x hx => Wr.c_len (hs x hx)
  have hml : ws.length = m := Rd.count Wr.c h (fun x hx => Wr.c_len (hs x hx)) (by decide)
  have HML := Lib.hid hml
  have HS := Lib.hid hs
  have HB := Lib.hid hb
  have hbl : bx < w.heap.size := (Array.getElem?_eq_some_iff.1 hb).1
  have hm1 : (m : Int) ≤ 1000 := by omega
  clear h hml hs hb
  unfold missV
  go_enter Try.func67, Try.ntmps67
  go_wp2
  go_loopw [8] (fun iv wr => ∃ (j : Nat), j ≤ m ∧ iv = .int .i64 (j : Int) ∧ Hid ((ws.take j).any (missB n) = false) ∧ Below w.heap.size w wr) (fun iv _ => m - (intOf iv).toNat)
  case atStart => exact ⟨0, by omega, rfl, Lib.hid rfl, Below.refl _ _⟩
  case round =>
    obtain ⟨j, hj, rfl, HA, hbr⟩ := hrel
    by_cases ha : j < m
    · have ha1 : (j:Int) < m := by omega
      have hjl : j < ws.length := by rw [HML.out]; exact ha
      obtain ⟨b1, o1, rfl, hc1, hmm1, hh1, hl1, HR1⟩ := Rd.chunk Wr.c HR.out HWC.out (by decide) ha
      have HRG := Lib.hid (Rd.rangeLater (HR1 j hjl) hh1 hbr)
      have HSX := Lib.hid (HS.out _ (List.getElem_mem hjl))
      have HAN := Lib.hid (any_upto (missB n) ws hjl HA.out)
      have HCM := Lib.hid (cmissing bx ps n cs vw ws[j] wr (row_later HB.out hbr hbl) HSX.out hn)
      generalize ws[j] = x at *
      clear HR1 hl1
      cases hq : missB n x
      all_goals (rw [hq] at HCM HAN; clear hq)
      · go_wp2_with (first | (refine load_wr rfl (.tmp 14) rfl b1 (o1 + j * 36) rfl x HSX.out HRG.out ?_) | (go_at_call 41; refine HCM.out.mono ?_; rintro e w2 ⟨rfl, hb2⟩))
        go_roundw
        case rel => exact ⟨j + 1, by omega, by go_num, HAN, below_trans hbr hb2⟩
        case measure => simp [intOf]; omega
      · go_wp2_with (first | (refine load_wr rfl (.tmp 14) rfl b1 (o1 + j * 36) rfl x HSX.out HRG.out ?_) | (go_at_call 41; refine HCM.out.mono ?_; rintro e w2 ⟨rfl, hb2⟩))
        go_ret
        exact ⟨⟨(j : Int), rfl, by rw [any_of_take _ _ _ HAN.out]; simp⟩, below_trans hbr hb2⟩
    · obtain rfl : m = j := by omega
      have HAE : Hid (ws.any (missB n) = false) := Lib.hid (by have h := HA.out; rwa [List.take_of_length_le (by rw [HML.out]; omega)] at h)
      go_wp2_with fail
      go_ret
      exact ⟨⟨-1, rfl, by rw [HAE.out]; rfl⟩, hbr⟩
theorem ccontains (bx : Nat) (ps : Option Addr) (n cs : Nat) (vw : Value) (p : Option Addr) (m c : Nat) (ws : List Wr) (w : World) (hb : w.heap[bx]? = some (.cells #[.slice ps n cs, vw] 28 (0, 0))) (hs : ∀ x ∈ ws, Sec x.s) (hn : n ≤ 1000)
    (h : Rd w 36 (.slice p m c) m (wrsC ws)) (hm : m ≤ 1000) :
    Calls Try.prog 43 #[.slice p m c, missV bx] w fun e w' => e = .returned (.bool (ws.any (missB n))) ∧ Below w.heap.size w w' := by
  have HI := Lib.hid (cindex bx ps n cs vw p m c ws w hb hs hn h hm)
  clear hb hs h
  unfold missV at *
  go_enter Try.func43, Try.ntmps43
  go_wp2_with (go_at_call 67; refine HI.out.mono ?_; rintro e w2 ⟨⟨r, rfl, hr⟩, hb2⟩; have HR := Lib.hid hr; clear hr)
  go_ret
  exact ⟨ret_bool HR.out, hb2⟩
theorem store_own {ops : Array Oper} {rest : List Oper} {o : Oper} {a : Act} {w : World} {Q : Exit → Act → World → Prop} (hgd : o.guard = none) (x y : Operand) (ho : o.op = .store 62 x y) (hd : o.dst = none)
    (B g i n c : Nat) (hx : a.eval x = .pointer (some ⟨g, i * 32, none⟩)) (s : List Int) (hy : a.eval y = .agg (u8s s).toArray) (hl : Sec s) (ss : List (List Int)) (hs : Secs ss) (hi : i < ss.length) (hg : Own w B 62 32 (.slice (some ⟨g, 0, none⟩) n c) n (cellsOf ss))
    (h : ∀ w', Own w' B 62 32 (.slice (some ⟨g, 0, none⟩) n c) n (cellsOf (ss.set i s)) → Touch (· = g) w w' → wpList Try.prog ops Q rest a w') : wpList Try.prog ops Q (o :: rest) a w :=
  wpList_plain hgd fun K hK => by
    have hw : Region.wanted o (yielded ops a.tmps) = true := by simp [Region.wanted, hgd]
    have := step_store_own (Q := Q) (F := False) (K := K) hw x y ho B g i n c hx s hy hl ss hs hi hg (fun w' h1 h2 => by rw [hd]; exact hK _ _ (h w' h1 h2))
    rwa [if_pos hw] at this
def imgIn (w : World) (ps : Option Addr) (n cs : Nat) (pw : Option Addr) (m cw : Nat) (ss : List (List Int)) (ws : List Wr) : Prop :=
  Rd w 32 (.slice ps n cs) n (cellsOf ss) ∧ Secs ss ∧ ss.length = n ∧ n ≤ 1000 ∧ Rd w 36 (.slice pw m cw) m (wrsC ws) ∧ (∀ x ∈ ws, Sec x.s) ∧ m ≤ 1000
set_option maxRecDepth 100000 in
set_option maxHeartbeats 3200000 in
theorem cimage (c : Nat) (ps : Option Addr) (n cs : Nat) (pw : Option Addr) (m cw : Nat) (ss : List (List Int)) (ws : List Wr) (w : World) (hc : c < 18446744073709551616) (hi : imgIn w ps n cs pw m cw ss ws) :
    Calls Try.prog 14 #[stV ps n cs pw m cw, .int .u64 (c : Int)] w (ImgDone c ss ws n w) := by
  obtain ⟨h, hss, hsl, hn, hw, hws, hm⟩ := hi
  have HR := Lib.hid h
  have HW := Lib.hid hw
  have HWC := Lib.hid fun x hx => Wr.c_len (hws x hx)
  have hml : ws.length = m := Rd.count Wr.c hw (fun x hx => Wr.c_len (hws x hx)) (by decide)
  have HML := Lib.hid hml
  have HSS := Lib.hid hss
  have HSL := Lib.hid hsl
  have HS := Lib.hid hws
  have HC := Lib.hid hc
  have hm1 : (m : Int) ≤ 1000 := by omega
  have hn1 : (n : Int) ≤ 1000 := by omega
  have HAL := Lib.hid fun w' (hb : Below w.heap.size w w') => callowed c ps n cs pw m cw ws w' hc hws (hw.later hb) hm
  obtain ⟨a, ha⟩ : ∃ a, alB c (eps ws) = a := ⟨_, rfl⟩
  obtain ⟨b, hb⟩ : ∃ b, ws.any (missB n) = b := ⟨_, rfl⟩
  have HAA := Lib.hid ha
  have HBB := Lib.hid hb
  have HIO : Hid (imgOk c ws n = (a && !b)) := Lib.hid (by rw [imgOk, ha, hb])
  rw [ha] at HAL
  clear h hw hml hss hsl hws hc ha hb
  have HB1 : Hid (Below w.heap.size w (w.alloc (.cells #[.slice ps n cs, .slice pw m cw] 28))) := Lib.hid (below_alloc (Below.refl _ _) _)
  have HROW : Hid (∀ w2, Below (w.alloc (.cells #[.slice ps n cs, .slice pw m cw] 28)).heap.size (w.alloc (.cells #[.slice ps n cs, .slice pw m cw] 28)) w2 → w2.heap[w.heap.size]? = some (.cells #[.slice ps n cs, .slice pw m cw] 28 (0, 0)) ∧ Below w.heap.size w w2) := Lib.hid (fun w2 hb2 =>
    ⟨row_later (heap_alloc_new _ _) hb2 (by rw [size_alloc]; omega), (below_alloc (Below.refl _ w) _).trans (hb2.mono (by rw [size_alloc]; omega))⟩)
  have HCT := Lib.hid fun w2 (hrow : w2.heap[w.heap.size]? = some (.cells #[.slice ps n cs, .slice pw m cw] 28 (0, 0))) (hb2 : Below w.heap.size w w2) => ccontains w.heap.size ps n cs (.slice pw m cw) pw m cw ws w2 hrow HS.out hn (HW.out.later hb2) hm
  rw [HBB.out] at HCT
  unfold missV at HCT
  unfold stV at *
  cases a with
  | false =>
    go_enter Try.func14, Try.ntmps14
    go_wp2_with (go_at_call 17; refine (HAL.out _ HB1.out).mono ?_; rintro e w2 ⟨rfl, hb2⟩)
    go_ret2
    exact ⟨(HROW.out _ hb2).2, Or.inl ⟨HIO.out, rfl⟩⟩
  | true =>
    cases b with
    | true =>
      go_enter Try.func14, Try.ntmps14
      go_wp2_with (first | (go_at_call 17; refine (HAL.out _ HB1.out).mono ?_; rintro e w2 ⟨rfl, hb2⟩; have HRW := Lib.hid (HROW.out w2 hb2); clear hb2; have cc1 := cell_row HRW.out.1 1 _ rfl) | (go_at_call 43; refine (HCT.out _ HRW.out.1 HRW.out.2).mono ?_; rintro e w3 ⟨rfl, hb3⟩))
      go_ret2
      exact ⟨below_trans HRW.out.2 hb3, Or.inl ⟨HIO.out, rfl⟩⟩
    | false =>
      have HMS : Hid (∀ x ∈ ws, missB n x = false) := Lib.hid (fun x hx => by
        have := HBB.out
        rw [List.any_eq_false] at this
        simpa using this x hx)
      have HCS := Lib.hid fun w3 (hb3 : Below w.heap.size w w3) => clone_secs ps n cs (cellsOf ss) w3 (HR.out.later hb3) (one_ints .u8 _) hn
      go_enter Try.func14, Try.ntmps14
      go_wp2_with (first | (go_at_call 17; refine (HAL.out _ HB1.out).mono ?_; rintro e w2 ⟨rfl, hb2⟩; have HRW := Lib.hid (HROW.out w2 hb2); clear hb2; have cc1 := cell_row HRW.out.1 1 _ rfl) | (go_at_call 43; refine (HCT.out _ HRW.out.1 HRW.out.2).mono ?_; rintro e w3 ⟨rfl, hb3⟩; have hbw3 := below_trans HRW.out.2 hb3; have HRW3 := Lib.hid (row_later HRW.out.1 hb3 (Array.getElem?_eq_some_iff.1 HRW.out.1).1); have cd0 := cell_row HRW3.out 0 _ rfl; clear hb3) | (go_at_call 36; refine (HCS.out _ hbw3).mono ?_; rintro e w4 ⟨p4, c4, rfl, ho4, hb4⟩; have HO4 := Lib.hid ho4; have hbw4 := below_trans hbw3 hb4; have HRW4 := Lib.hid (row_later HRW3.out hb4 (Array.getElem?_eq_some_iff.1 HRW3.out).1); have ce1 := cell_row HRW4.out 1 _ rfl; have HS34 := Lib.hid hbw3.size; clear ho4 hb4))
      have hbs34 := HS34.out
      have HO0 : Hid (Own w4 w.heap.size 62 32 (.slice p4 n c4) n (cellsOf (imgUpto c ws ss 0))) := Lib.hid (own_base HO4.out hbs34)
      have hp4 : ∀ g, p4 = some ⟨g, 0, none⟩ → w.heap.size < g ∧ g < w4.heap.size := fun g hg => by
        subst hg
        have := own_block HO4.out
        have := (Array.getElem?_eq_some_iff.1 HRW3.out).1
        omega
      have HP4 := Lib.hid hp4
      clear HO4 hp4 HRW HRW3 hbw3 HS34 hbs34 cd0 cc1 HCT HAL HCS HROW HB1
      go_loopw [27] (fun iv wr => ∃ (j : Nat), j ≤ m ∧ iv = .int .i64 (j : Int) ∧ Hid (Own wr w.heap.size 62 32 (.slice p4 n c4) n (cellsOf (imgUpto c ws ss j))) ∧ Below w.heap.size w wr) (fun iv _ => m - (intOf iv).toNat)
      case atStart => exact ⟨0, by omega, rfl, HO0, hbw4⟩
      case round =>
        clear HO0 hbw4
        obtain ⟨j, hj, rfl, HO, hbr⟩ := hrel
        by_cases ha : j < m
        · have ha1 : (j:Int) < m := by omega
          have hjl : j < ws.length := by rw [HML.out]; exact ha
          obtain ⟨b1, o1, rfl, hc1, hmm1, hh1, hl1, HR1⟩ := Rd.chunk Wr.c HW.out HWC.out (by decide) ha
          have HRG := Lib.hid (Rd.rangeLater (HR1 j hjl) hh1 hbr)
          have HSX := Lib.hid (HS.out _ (List.getElem_mem hjl))
          have HIS := Lib.hid (imgUpto_snoc c ws ss j hjl)
          have HIC := Lib.hid (imgUpto_secs c ws ss HSS.out HS.out j fun k hk _ => by rw [HSL.out]; exact HMS.out _ (List.getElem_mem hk))
          have HIL : Hid ((imgUpto c ws ss j).length = n) := Lib.hid (by rw [imgUpto_len, HSL.out])
          have hmx := HMS.out _ (List.getElem_mem hjl)
          rw [missB, Bool.not_eq_false', decide_eq_true_eq] at hmx
          generalize ws[j] = x at *
          obtain ⟨kp, hkp⟩ := Int.eq_ofNat_of_zero_le hmx.1
          have hkn : kp < n := by have := hmx.2; omega
          have hkn1 : (kp : Int) < n := by omega
          have HKP := Lib.hid hkp
          obtain ⟨g, hg⟩ := own_some HO.out (by omega)
          subst hg
          have hgg := HP4.out g rfl
          have hgl := (own_block HO.out).2
          obtain ⟨d, hd⟩ : ∃ d, fate c (j : Int) = d := ⟨_, rfl⟩
          have HFT := Lib.hid fun w' => fate_of c (j : Int) d w' HC.out hd
          have hst : imgStep c (imgUpto c ws ss j) j x = if d = 1 then (imgUpto c ws ss j).set kp x.s else if d = 2 then (imgUpto c ws ss j).set kp (tornOf ((imgUpto c ws ss j).getD kp []) x.s) else imgUpto c ws ss j := by
            rw [imgStep, hd, hkp]; rfl
          have HST := Lib.hid hst
          clear HR1 hl1 hmx hkp hst hd
          by_cases h1 : d = 1
          · have HST1 : Hid (imgUpto c ws ss (j + 1) = (imgUpto c ws ss j).set kp x.s) := Lib.hid (by rw [HIS.out, HST.out, if_pos h1])
            subst h1
            clear HST
            go_wp2_with (first | (refine load_wr rfl (.tmp 30) rfl b1 (o1 + j * 36) rfl x HSX.out HRG.out ?_) | (refine store_wr rfl _ _ rfl rfl wr.heap.size x w0 rfl rfl HSX.out sec_zero (atW_new wr) ?_; intro w5 hx5 hb5; have hb5r := (below_alloc (Below.refl _ wr) _).trans hb5; have HO5 := Lib.hid (own_later HO.out hb5r); have hb5w := below_trans hbr hb5r; obtain ⟨cx0, rx1, _⟩ := AtW.parts hx5 HSX.out; rw [HKP.out] at cx0; have HX1 := Lib.hid rx1; have HLT5 := Lib.hid (Array.getElem?_eq_some_iff.1 hx5).1; clear hb5 hb5r rx1 hx5) | (go_at_call 44; refine (HFT.out _).mono ?_; rintro e w6 ⟨rfl, rfl⟩) | (refine load_mid rfl (.tmp 40) rfl wr.heap.size 1 rfl x.s HSX.out.1 HX1.out ?_) | (refine store_own rfl _ _ rfl rfl w.heap.size g kp n c4 rfl x.s rfl HSX.out _ HIC.out (by rw [HIL.out]; exact hkn) HO5.out ?_; intro w7 ho7 ht7; have HO7 := Lib.hid ho7; have hb7 := hb5w.trans (ht7.below hb5w.size (fun k hk => by rw [hk]; omega)); clear ho7 ht7))
            refine ⟨⟨j + 1, by omega, by go_num, Lib.hid (by rw [HST1.out]; exact HO7.out), hb7⟩, by simp [intOf]; omega⟩
          · by_cases h2 : d = 2
            · have HST1 : Hid (imgUpto c ws ss (j + 1) = (imgUpto c ws ss j).set kp (tornOf ((imgUpto c ws ss j).getD kp []) x.s)) := Lib.hid (by rw [HIS.out, HST.out, if_neg h1, if_pos h2])
              have hold := secs_getD HIC.out (i := kp) (by rw [HIL.out]; exact hkn)
              obtain ⟨old, hoe⟩ : ∃ old, (imgUpto c ws ss j).getD kp [] = old := ⟨_, rfl⟩
              rw [hoe] at HST1 hold
              have HOE := Lib.hid hoe
              have HOLD := Lib.hid hold
              subst h2
              clear HST h1 hoe hold
              go_wp2_with (first | (refine load_wr rfl (.tmp 30) rfl b1 (o1 + j * 36) rfl x HSX.out HRG.out ?_) | (refine store_wr rfl _ _ rfl rfl wr.heap.size x w0 rfl rfl HSX.out sec_zero (atW_new wr) ?_; intro w5 hx5 hb5; have hb5r := (below_alloc (Below.refl _ wr) _).trans hb5; have HO5 := Lib.hid (own_later HO.out hb5r); have hb5w := below_trans hbr hb5r; obtain ⟨cx0, rx1, _⟩ := AtW.parts hx5 HSX.out; rw [HKP.out] at cx0; have HX1 := Lib.hid rx1; have HLT5 := Lib.hid (Array.getElem?_eq_some_iff.1 hx5).1; clear hb5 hb5r rx1 hx5) | (go_at_call 44; refine (HFT.out _).mono ?_; rintro e w6 ⟨rfl, rfl⟩))
              have HOR : Hid (w5.rangeAt g (kp * 32) (u8s old)) := Lib.hid (by
                obtain ⟨b, off, hbo, _, _, _, hl, hr⟩ := row_at HO5.out.rd HIC.out hkn
                cases hbo
                have := hr kp (by rw [HIL.out]; exact hkn)
                rw [Nat.zero_add] at this
                rw [← HOE.out, show (imgUpto c ws ss j).getD kp [] = (imgUpto c ws ss j)[kp]'(by rw [HIL.out]; exact hkn) by simp [List.getD, show kp < (imgUpto c ws ss j).length by rw [HIL.out]; exact hkn]]
                exact this)
              have hg5 : g < w5.drew.heap.size := Nat.lt_of_lt_of_le hgl (by have := HLT5.out; show wr.heap.size ≤ w5.heap.size; omega)
              have hx5 : wr.heap.size < w5.drew.heap.size := HLT5.out
              have CX0 := Lib.hid cx0
              refine wp_region_last (S := ext w5.drew) 12 (by kernel_rfl) (Below.refl _ _) (fun hH0 => ?_)
              refine wpAnyL_take (i := 0) (oi := { dst := some 45, op := Op.move (Operand.tmp 7), type := 22, pos := "crash.go:132", after := #[], guard := none }) (v := ?_) rfl (by kernel_rfl) (by kernel_rfl) (by kernel_rfl) (by kernel_rfl) (fun _ _ _ h => h) (Or.inl ⟨by rfl, ?_⟩) (by assumption) ?_
              rotate_left
              · (intro w' hSw; go_simp; try with_reducible rfl)
              try simp only [Act.put, List.setIfInBounds_toArray, List.set_cons_zero, List.set_cons_succ]
              refine wpAnyL_take (i := 1) (oi := { dst := some 46, op := Op.fieldAddr 79 (Operand.tmp 9) 0, type := 0, pos := "crash.go:132", after := #[], guard := none }) (v := ?_) rfl (by kernel_rfl) (by kernel_rfl) (by kernel_rfl) (by kernel_rfl) (fun _ _ _ h => h) (Or.inl ⟨by rfl, ?_⟩) (by assumption) ?_
              rotate_left
              · (intro w' hSw; go_simp; try with_reducible rfl)
              try simp only [Act.put, List.setIfInBounds_toArray, List.set_cons_zero, List.set_cons_succ]
              refine' wpAnyL_take (i := 2) (oi := { dst := some 47, op := Op.load 3 (Operand.tmp 46), type := 3, pos := "crash.go:132", after := #[{ on := 1, ground := Ground.data }], guard := none }) (v := _) rfl (by kernel_rfl) (by kernel_rfl) (by kernel_rfl) (by kernel_rfl) (fun _ _ _ h => h) (ld_cell (by rfl) 3 _ und_int rfl _ rfl wr.heap.size 0 rfl (.int .i64 (kp : Int)) (fun w' hw => (Below.cell hw (p := ⟨wr.heap.size, 0, none⟩) hx5).trans CX0.out)) (by assumption) ?_
              try simp only [Act.put, List.setIfInBounds_toArray, List.set_cons_zero, List.set_cons_succ]
              refine wpAnyL_take (i := 3) (oi := { dst := some 48, op := Op.move (Operand.tmp 7), type := 22, pos := "crash.go:132", after := #[], guard := none }) (v := ?_) rfl (by kernel_rfl) (by kernel_rfl) (by kernel_rfl) (by kernel_rfl) (fun _ _ _ h => h) (Or.inl ⟨by rfl, ?_⟩) (by assumption) ?_
              rotate_left
              · (intro w' hSw; go_simp; try with_reducible rfl)
              try simp only [Act.put, List.setIfInBounds_toArray, List.set_cons_zero, List.set_cons_succ]
              refine wpAnyL_take (i := 4) (oi := { dst := some 49, op := Op.fieldAddr 79 (Operand.tmp 9) 0, type := 0, pos := "crash.go:132", after := #[], guard := none }) (v := ?_) rfl (by kernel_rfl) (by kernel_rfl) (by kernel_rfl) (by kernel_rfl) (fun _ _ _ h => h) (Or.inl ⟨by rfl, ?_⟩) (by assumption) ?_
              rotate_left
              · (intro w' hSw; go_simp; try with_reducible rfl)
              try simp only [Act.put, List.setIfInBounds_toArray, List.set_cons_zero, List.set_cons_succ]
              refine' wpAnyL_take (i := 5) (oi := { dst := some 50, op := Op.load 3 (Operand.tmp 49), type := 3, pos := "crash.go:132", after := #[{ on := 4, ground := Ground.data }], guard := none }) (v := _) rfl (by kernel_rfl) (by kernel_rfl) (by kernel_rfl) (by kernel_rfl) (fun _ _ _ h => h) (ld_cell (by rfl) 3 _ und_int rfl _ rfl wr.heap.size 0 rfl (.int .i64 (kp : Int)) (fun w' hw => (Below.cell hw (p := ⟨wr.heap.size, 0, none⟩) hx5).trans CX0.out)) (by assumption) ?_
              try simp only [Act.put, List.setIfInBounds_toArray, List.set_cons_zero, List.set_cons_succ]
              refine wpAnyL_take (i := 6) (oi := { dst := some 51, op := Op.indexAddr 22 (Operand.tmp 48) (Operand.tmp 50), type := 0, pos := "crash.go:132", after := #[{ on := 3, ground := Ground.data }, { on := 5, ground := Ground.data }], guard := none }) (v := ?_) rfl (by kernel_rfl) (by kernel_rfl) (by kernel_rfl) (by kernel_rfl) (fun _ _ _ h => h) (Or.inl ⟨by rfl, ?_⟩) (by assumption) ?_
              rotate_left
              · (intro w' hSw; go_simp; try with_reducible rfl)
              try simp only [Act.put, List.setIfInBounds_toArray, List.set_cons_zero, List.set_cons_succ]
              refine' wpAnyL_take (i := 7) (oi := { dst := some 52, op := Op.load 62 (Operand.tmp 51), type := 62, pos := "crash.go:132", after := #[{ on := 6, ground := Ground.data }], guard := none }) (v := _) rfl (by kernel_rfl) (by kernel_rfl) (by kernel_rfl) (by kernel_rfl) (fun _ _ _ h => h) (ld_sec (by rfl) _ rfl g (kp * 32) rfl old HOLD.out.1 (fun w' hw => Rd.rangeLater (w := w5.drew) HOR.out hg5 hw)) (by assumption) ?_
              try simp only [Act.put, List.setIfInBounds_toArray, List.set_cons_zero, List.set_cons_succ]
              refine wpAnyL_take (i := 8) (oi := { dst := some 53, op := Op.fieldAddr 79 (Operand.tmp 9) 1, type := 0, pos := "crash.go:132", after := #[], guard := none }) (v := ?_) rfl (by kernel_rfl) (by kernel_rfl) (by kernel_rfl) (by kernel_rfl) (fun _ _ _ h => h) (Or.inl ⟨by rfl, ?_⟩) (by assumption) ?_
              rotate_left
              · (intro w' hSw; go_simp; try with_reducible rfl)
              try simp only [Act.put, List.setIfInBounds_toArray, List.set_cons_zero, List.set_cons_succ]
              refine' wpAnyL_take (i := 9) (oi := { dst := some 54, op := Op.load 62 (Operand.tmp 53), type := 62, pos := "crash.go:132", after := #[{ on := 8, ground := Ground.data }], guard := none }) (v := _) rfl (by kernel_rfl) (by kernel_rfl) (by kernel_rfl) (by kernel_rfl) (fun _ _ _ h => h) (ld_sec (by rfl) _ rfl wr.heap.size 1 rfl x.s HSX.out.1 (fun w' hw => Rd.rangeLater (w := w5.drew) HX1.out hx5 hw)) (by assumption) ?_
              try simp only [Act.put, List.setIfInBounds_toArray, List.set_cons_zero, List.set_cons_succ]
              -- 10
              refine wpAnyL_ready (rs := [10]) (by kernel_rfl) (by simp) ?_
              refine AllReadyL.cons (o := { dst := some 55, op := Op.call { callee := Callee.value (Operand.func 45), args := #[Operand.tmp 52, Operand.tmp 54], argTypes := #[62, 62] }, type := 62, pos := "crash.go:132", after := #[{ on := 7, ground := Ground.data }, { on := 9, ground := Ground.data }], guard := none }) rfl (fun K hK => ?_) AllReadyL.nil
              go_simp
              refine (torn_is old x.s _ HOLD.out HSX.out).mono ?_
              rintro e v10 ⟨rfl, hb10⟩
              have HB10 := Lib.hid hb10
              clear hb10
              dsimp only
              refine hK.out _ _ (Or.inr HB10.out) (fun hHeld => ?_)
              clear hK K
              try simp only [Act.put, List.setIfInBounds_toArray, List.set_cons_zero, List.set_cons_succ]
              refine wpAnyL_take (i := 11) (oi := { dst := some 56, op := Op.indexAddr 22 (Operand.tmp 45) (Operand.tmp 47), type := 0, pos := "crash.go:132", after := #[{ on := 0, ground := Ground.data }, { on := 2, ground := Ground.data }, { on := 0, ground := Ground.phase }, { on := 1, ground := Ground.phase }, { on := 2, ground := Ground.phase }, { on := 3, ground := Ground.phase }, { on := 4, ground := Ground.phase }, { on := 5, ground := Ground.phase }, { on := 6, ground := Ground.phase }, { on := 7, ground := Ground.phase }, { on := 8, ground := Ground.phase }, { on := 9, ground := Ground.phase }, { on := 10, ground := Ground.phase }], guard := none }) (v := ?_) rfl (by kernel_rfl) (by kernel_rfl) (by kernel_rfl) (by kernel_rfl) (fun _ _ _ h => h) (Or.inl ⟨by rfl, ?_⟩) (by assumption) ?_
              rotate_left
              · (intro w' hSw; go_simp; try with_reducible rfl)
              try simp only [Act.put, List.setIfInBounds_toArray, List.set_cons_zero, List.set_cons_succ]
              -- 12
              refine wpAnyL_ready (rs := [12]) (by kernel_rfl) (by simp) ?_
              refine AllReadyL.cons (o := { dst := none, op := Op.store 62 (Operand.tmp 56) (Operand.tmp 55), type := 0, pos := "crash.go:132", after := #[{ on := 11, ground := Ground.data }, { on := 10, ground := Ground.data }, { on := 10, ground := Ground.chain }, { on := 0, ground := Ground.phase }, { on := 1, ground := Ground.phase }, { on := 2, ground := Ground.phase }, { on := 3, ground := Ground.phase }, { on := 4, ground := Ground.phase }, { on := 5, ground := Ground.phase }, { on := 6, ground := Ground.phase }, { on := 7, ground := Ground.phase }, { on := 8, ground := Ground.phase }, { on := 9, ground := Ground.phase }, { on := 10, ground := Ground.phase }], guard := none }) rfl (fun K hK => ?_) AllReadyL.nil
              refine step_store_own (by rfl) _ _ (by rfl) w.heap.size g kp n c4 (by rfl) (tornOf old x.s) (by rfl) (torn_secs HOLD.out HSX.out) _ HIC.out (by rw [HIL.out]; exact hkn) (own_later (w := w5.drew) HO5.out HB10.out) ?_
              intro w12 ho12 ht12
              have HO12 := Lib.hid ho12
              have HT12 := Lib.hid ht12
              clear ho12 ht12
              dsimp only
              refine hK.out _ _ (Or.inl rfl) (fun hHeld => ?_)
              clear hK K
              try simp only [Act.put, List.setIfInBounds_toArray, List.set_cons_zero, List.set_cons_succ]
              refine wpAnyL_done (by kernel_rfl) ?_ _
              clear hHeld hH0
              have hb12 : Below w.heap.size w w12 := (hb5w.drew.trans (HB10.out.mono hb5w.size)).trans (HT12.out.below (Nat.le_trans hb5w.size HB10.out.size) (fun k hk => by rw [hk]; omega))
              go_wp2_with fail
              refine ⟨⟨j + 1, by omega, by go_num, Lib.hid (by rw [HST1.out]; exact HO12.out), hb12⟩, by simp [intOf]; omega⟩
            · have HST1 : Hid (imgUpto c ws ss (j + 1) = imgUpto c ws ss j) := Lib.hid (by rw [HIS.out, HST.out, if_neg h1, if_neg h2])
              have hd1 : (d == 1) = false := by simpa using h1
              have hd2 : (d == 2) = false := by simpa using h2
              clear HST h1 h2
              go_wp2_with (first | (refine load_wr rfl (.tmp 30) rfl b1 (o1 + j * 36) rfl x HSX.out HRG.out ?_) | (refine store_wr rfl _ _ rfl rfl wr.heap.size x w0 rfl rfl HSX.out sec_zero (atW_new wr) ?_; intro w5 hx5 hb5; have hb5r := (below_alloc (Below.refl _ wr) _).trans hb5; have HO5 := Lib.hid (own_later HO.out hb5r); have hb5w := below_trans hbr hb5r; obtain ⟨cx0, rx1, _⟩ := AtW.parts hx5 HSX.out; rw [HKP.out] at cx0; have HX1 := Lib.hid rx1; have HLT5 := Lib.hid (Array.getElem?_eq_some_iff.1 hx5).1; clear hb5 hb5r rx1 hx5) | (go_at_call 44; refine (HFT.out _).mono ?_; rintro e w6 ⟨rfl, rfl⟩))
              refine ⟨⟨j + 1, by omega, by go_num, Lib.hid (by rw [HST1.out]; exact HO5.out), hb5w⟩, by simp [intOf]; omega⟩
        · obtain rfl : m = j := by omega
          go_wp2_with fail
          go_ret2
          refine ⟨hbr, Or.inr ⟨HIO.out, p4, c4, rfl, ?_⟩⟩
          rw [HML.out]
          exact HO.out
end Go.Proofs.Ytpnepooobmbfbaa.dsk
