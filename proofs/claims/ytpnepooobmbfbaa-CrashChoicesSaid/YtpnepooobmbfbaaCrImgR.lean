/- What the reference's Image gives. -/
import Derived.Test.YtpnepooobmbfbaaCrImgC
namespace Go.Proofs.Ytpnepooobmbfbaa.dsk
set_option maxRecDepth 100000
open Go.ChangeShapes Go.WideShapes Go.ChangeAt Go.RowKit
open Go.Proofs.Ytpnepooobmbfbaa.rows
open Go.Proofs.Ytpnepooobmbfbaa.sec
open Go.Proofs.Ytpnepooobmbfbaa.cho (IntsIn allowed_any rallowed_any fate_of rfate_any)
open Go.Proofs.Ytpnepooobmbfbaa.choMath
set_option linter.unusedVariables false
set_option linter.unusedSimpArgs false

theorem rfate_of (c : Nat) (i d : Int) (w : World) (hc : c < 18446744073709551616) (h : fate c i = d) :
    Calls Try.prog 46 #[.int .u64 (c : Int), .int .i64 i] w fun e w' => e = .returned (.int .i64 d) ∧ Below w.heap.size w w' := by subst h; exact rfate_any c i w hc
set_option maxRecDepth 100000 in
set_option maxHeartbeats 3200000 in
theorem rimage (c : Nat) (ps : Option Addr) (n cs : Nat) (pw : Option Addr) (m cw : Nat) (ss : List (List Int)) (ws : List Wr) (w : World) (hc : c < 18446744073709551616) (hi : imgIn w ps n cs pw m cw ss ws) :
    Calls Try.prog 15 #[stV ps n cs pw m cw, .int .u64 (c : Int)] w (ImgDone c ss ws n w) := by
  obtain ⟨h, hss, hsl, hn, hw, hws, hm⟩ := hi
  have HR := Lib.hid h
  have HW := Lib.hid hw
  have HWC := Lib.hid fun x hx => Wr.c_len (hws x hx)
  have hml : ws.length = m := Rd.count Wr.c hw (fun x hx => Wr.c_len (hws x hx)) (by decide)
  have HML := Lib.hid hml
  have HSS := Lib.hid hss
  have HSL := Lib.hid hsl
  have HS := Lib.hid hws
  have HC := Lib.hid hc
  have hm1 : (m : Int) ≤ 1000 := by omega
  have hn1 : (n : Int) ≤ 1000 := by omega
  have HAL := Lib.hid fun w' (hb : Below w.heap.size w w') => rallowed c ps n cs pw m cw ws w' hc hws (hw.later hb) hm
  obtain ⟨a, ha⟩ : ∃ a, alB c (eps ws) = a := ⟨_, rfl⟩
  have HAA := Lib.hid ha
  have HIO : Hid (imgOk c ws n = (a && !(ws.any (missB n)))) := Lib.hid (by rw [imgOk, ha])
  rw [ha] at HAL
  clear h hw hml hss hsl hws hc ha
  have HB1 : Hid (Below w.heap.size w (w.alloc (.cells #[.slice ps n cs, .slice pw m cw] 31))) := Lib.hid (below_alloc (Below.refl _ _) _)
  obtain ⟨w1, hw1⟩ : ∃ w1, w.alloc (.cells #[.slice ps n cs, .slice pw m cw] 31) = w1 := ⟨_, rfl⟩
  have hbx : w1.heap[w.heap.size]? = some (.cells #[.slice ps n cs, .slice pw m cw] 31 (0, 0)) := by rw [← hw1]; exact heap_alloc_new _ _
  have hz1 : w1.heap.size = w.heap.size + 1 := by rw [← hw1, size_alloc]
  have HBX := Lib.hid hbx
  have HZ1 := Lib.hid hz1
  have HROW : Hid (∀ w2, Below w1.heap.size w1 w2 → w2.heap[w.heap.size]? = some (.cells #[.slice ps n cs, .slice pw m cw] 31 (0, 0)) ∧ Below w.heap.size w w2) := Lib.hid (fun w2 hb2 =>
    ⟨row_later HBX.out hb2 (by omega), (hw1 ▸ HB1.out : Below w.heap.size w w1).trans (hb2.mono (by omega))⟩)
  unfold stV at *
  have HBW1 : Hid (Below w.heap.size w w1) := Lib.hid (hw1 ▸ HB1.out)
  have HA1 := Lib.hid (HAL.out _ HBW1.out)
  have cb0 := cell_row hbx 0 _ rfl
  have cb1 := cell_row hbx 1 _ rfl
  clear hbx hz1 HB1 HAL
  cases a with
  | false =>
    go_enter Try.func15, Try.ntmps15
    go_wp2_with (go_at_call 18; refine HA1.out.mono ?_; rintro e w2 ⟨rfl, hb2⟩)
    go_ret2
    exact ⟨below_trans HBW1.out hb2, Or.inl ⟨by rw [HIO.out]; rfl, rfl⟩⟩
  | true =>
    have HSF := Lib.hid fun w2 (hb2 : Below w1.heap.size w1 w2) => (HR.out.later (HBW1.out.trans (hb2.mono HBW1.out.size))).later (below_alloc (Below.refl w2.heap.size w2) (.cells #[] 62))
    go_enter Try.func15, Try.ntmps15
    go_wp2_with (first | (go_at_call 18; refine HA1.out.mono ?_; rintro e w2 ⟨rfl, hb2⟩; have HRW := Lib.hid (HROW.out w2 hb2); have cd0 := cell_row (row_alloc HRW.out.1 (.cells #[] 62)) 0 _ rfl) | (at_builtin; refine ap_rd elem_secs rfl (.tmp 13) (.tmp 15) rfl w1.heap.size _ 0 [] rfl (own_made' _ _ _ _ rfl hb2.size) _ n _ rfl (HSF.out w2 hb2) (one_ints .u8 _) (by omega) (by rw [size_alloc]; have := hb2.size; omega) ?_; intro p4 c4 w4 ho4 hb4; have HO4 := Lib.hid ho4; have hb14 := (hb2.alloc hb2.size (.cells #[] 62)).trans hb4; clear ho4 hb4))
    have ho4 := HO4.out
    rw [Nat.zero_add, List.nil_append] at ho4
    have HO0 : Hid (Own w4 w1.heap.size 62 32 (.slice p4 n c4) n (cellsOf (imgUpto c ws ss 0))) := Lib.hid ho4
    clear HO4 ho4 cd0 HRW hb2 HSF HA1 HAA cb0 cb1 hw1
    go_loopw [7] (fun iv wr => ∃ (j : Nat), j ≤ m ∧ iv = .int .i64 (j : Int) ∧ Hid (Own wr w1.heap.size 62 32 (.slice p4 n c4) n (cellsOf (imgUpto c ws ss j))) ∧ Hid ((ws.take j).any (missB n) = false) ∧ Below w1.heap.size w1 wr) (fun iv _ => m - (intOf iv).toNat)
    case atStart => exact ⟨0, by omega, rfl, HO0, Lib.hid rfl, hb14⟩
    case round =>
      clear HO0 hb14
      obtain ⟨j, hj, rfl, HO, HMT, hbr⟩ := hrel
      have HRW := Lib.hid (HROW.out _ hbr)
      have cb := cell_row HRW.out.1 1 _ rfl
      by_cases ha : j < m
      · have ha1 : (j:Int) < m := by omega
        have hjl : j < ws.length := by rw [HML.out]; exact ha
        obtain ⟨b1, o1, rfl, hc1, hmm1, hh1, hl1, HR1⟩ := Rd.chunk Wr.c HW.out HWC.out (by decide) ha
        have HRG := Lib.hid (Rd.rangeLater (HR1 j hjl) hh1 HRW.out.2)
        have HSX := Lib.hid (HS.out _ (List.getElem_mem hjl))
        have HIS := Lib.hid (imgUpto_snoc c ws ss j hjl)
        have hnm : ∀ k (hk : k < ws.length), k < j → missB ss.length ws[k] = false := fun k hk hkj => by
          have := HMT.out
          rw [List.any_eq_false] at this
          rw [HSL.out]
          simpa using this ws[k] (List.mem_take_iff_getElem.2 ⟨k, by omega, rfl⟩)
        have HIC := Lib.hid (imgUpto_secs c ws ss HSS.out HS.out j hnm)
        have HIL : Hid ((imgUpto c ws ss j).length = n) := Lib.hid (by rw [imgUpto_len, HSL.out])
        have HAN := Lib.hid (any_upto (missB n) ws hjl HMT.out)
        have HAT := Lib.hid (any_of_take (missB n) ws (j + 1))
        generalize ws[j] = x at *
        clear HR1 hl1 hnm
        have hz1 := HZ1.out
        have hzr := hbr.size
        by_cases hmx : missB n x = true
        · have HANY : Hid (imgOk c ws n = false) := Lib.hid (by rw [HIO.out, HAT.out (by rw [HAN.out, hmx])]; rfl)
          rw [missB, Bool.not_eq_true', decide_eq_false_iff_not] at hmx
          by_cases hn0 : x.pos < 0
          · go_wp2_with (first | (refine load_wr rfl (.tmp 27) rfl b1 (o1 + j * 36) rfl x HSX.out HRG.out ?_) | (refine store_wr rfl _ _ rfl rfl wr.heap.size x w0 rfl rfl HSX.out sec_zero (atW_new wr) ?_; intro w5 hx5 hb5; have hb5r := (below_alloc (Below.refl _ wr) _).trans hb5; have hb5w := below_trans HRW.out.2 hb5r; obtain ⟨cx0, _⟩ := AtW.parts hx5 HSX.out))
            go_ret2
            exact ⟨hb5w, Or.inl ⟨HANY.out, rfl⟩⟩
          · have hn2 : (n : Int) ≤ x.pos := by omega
            go_wp2_with (first | (refine load_wr rfl (.tmp 27) rfl b1 (o1 + j * 36) rfl x HSX.out HRG.out ?_) | (refine store_wr rfl _ _ rfl rfl wr.heap.size x w0 rfl rfl HSX.out sec_zero (atW_new wr) ?_; intro w5 hx5 hb5; have hb5r := (below_alloc (Below.refl _ wr) _).trans hb5; have hb5w := below_trans HRW.out.2 hb5r; obtain ⟨cx0, _⟩ := AtW.parts hx5 HSX.out))
            go_ret2
            exact ⟨hb5w, Or.inl ⟨HANY.out, rfl⟩⟩
        · have hmf : missB n x = false := by simpa using hmx
          have HAN2 : Hid ((ws.take (j + 1)).any (missB n) = false) := Lib.hid (by rw [HAN.out, hmf])
          rw [missB, Bool.not_eq_false', decide_eq_true_eq] at hmf
          obtain ⟨kp, hkp⟩ := Int.eq_ofNat_of_zero_le hmf.1
          have hkn : kp < n := by have := hmf.2; omega
          have hkn1 : (kp : Int) < n := by omega
          have HKP := Lib.hid hkp
          obtain ⟨g, hg⟩ := own_some HO.out (by omega)
          subst hg
          have hgb := own_block HO.out
          have hgg := hgb.1
          have hgl := hgb.2
          obtain ⟨d, hd⟩ : ∃ d, fate c (j : Int) = d := ⟨_, rfl⟩
          have HFT := Lib.hid fun w' => rfate_of c (j : Int) d w' HC.out hd
          have hst : imgStep c (imgUpto c ws ss j) j x = if d = 1 then (imgUpto c ws ss j).set kp x.s else if d = 2 then (imgUpto c ws ss j).set kp (tornOf ((imgUpto c ws ss j).getD kp []) x.s) else imgUpto c ws ss j := by
            rw [imgStep, hd, hkp]; rfl
          have HST := Lib.hid hst
          have HTOK : Hid True := Lib.hid trivial
          clear hmx hmf hkp hst hd HAN HAT hgb
          by_cases h1 : d = 1
          · have HST1 : Hid (imgUpto c ws ss (j + 1) = (imgUpto c ws ss j).set kp x.s) := Lib.hid (by rw [HIS.out, HST.out, if_pos h1])
            subst h1
            clear HST
            go_wp2_with (first | (refine load_wr rfl (.tmp 27) rfl b1 (o1 + j * 36) rfl x HSX.out HRG.out ?_) | (refine store_wr rfl _ _ rfl rfl wr.heap.size x w0 rfl rfl HSX.out sec_zero (atW_new wr) ?_; intro w5 hx5 hb5; have hb5r := (below_alloc (Below.refl _ wr) _).trans hb5; have HO5 := Lib.hid (own_later HO.out hb5r); have hb5w := hbr.trans (hb5r.mono hbr.size); obtain ⟨cx0, rx1, _⟩ := AtW.parts hx5 HSX.out; rw [HKP.out] at cx0; have HX1 := Lib.hid rx1; have HLT5 := Lib.hid (Array.getElem?_eq_some_iff.1 hx5).1; clear hb5 hb5r rx1 hx5) | (go_at_call 46; clear HTOK; refine (HFT.out _).mono ?_; rintro e w6 ⟨rfl, hb6⟩; have HO6 := Lib.hid (own_later HO5.out hb6); have hb6w := hb5w.trans (hb6.mono hb5w.size); have cx6 := (hb6.cell (p := ⟨wr.heap.size, 0, none⟩) HLT5.out).trans cx0; have HX16 := Lib.hid (Rd.rangeLater HX1.out HLT5.out hb6); have HLT6 := Lib.hid (Nat.lt_of_lt_of_le HLT5.out hb6.size); clear hb6) | (go_at_call 46; refine (HFT.out _).mono ?_; rintro e w8 ⟨rfl, hb8⟩; have HO8 := Lib.hid (own_later HO7.out hb8); have hb8w := hb7.trans (hb8.mono hb7.size)) | (refine load_mid rfl (.tmp 46) rfl wr.heap.size 1 rfl x.s HSX.out.1 HX16.out ?_) | (refine store_own rfl _ _ rfl rfl w1.heap.size g kp n c4 rfl x.s rfl HSX.out _ HIC.out (by rw [HIL.out]; exact hkn) HO6.out ?_; intro w7 ho7 ht7; have HO7 := Lib.hid ho7; have hb7 := hb6w.trans (ht7.below hb6w.size (fun k hk => by rw [hk]; omega)); clear ho7 ht7))
            refine ⟨⟨j + 1, by omega, by go_num, Lib.hid (by rw [HST1.out]; exact HO8.out), HAN2, hb8w⟩, by simp [intOf]; omega⟩
          · by_cases h2 : d = 2
            · have HST1 : Hid (imgUpto c ws ss (j + 1) = (imgUpto c ws ss j).set kp (tornOf ((imgUpto c ws ss j).getD kp []) x.s)) := Lib.hid (by rw [HIS.out, HST.out, if_neg h1, if_pos h2])
              have hold := secs_getD HIC.out (i := kp) (by rw [HIL.out]; exact hkn)
              obtain ⟨old, hoe⟩ : ∃ old, (imgUpto c ws ss j).getD kp [] = old := ⟨_, rfl⟩
              rw [hoe] at HST1 hold
              have HOE := Lib.hid hoe
              have HOLD := Lib.hid hold
              subst h2
              clear HST h1 hoe hold
              go_wp2_with (first | (refine load_wr rfl (.tmp 27) rfl b1 (o1 + j * 36) rfl x HSX.out HRG.out ?_) | (refine store_wr rfl _ _ rfl rfl wr.heap.size x w0 rfl rfl HSX.out sec_zero (atW_new wr) ?_; intro w5 hx5 hb5; have hb5r := (below_alloc (Below.refl _ wr) _).trans hb5; have HO5 := Lib.hid (own_later HO.out hb5r); have hb5w := hbr.trans (hb5r.mono hbr.size); obtain ⟨cx0, rx1, _⟩ := AtW.parts hx5 HSX.out; rw [HKP.out] at cx0; have HX1 := Lib.hid rx1; have HLT5 := Lib.hid (Array.getElem?_eq_some_iff.1 hx5).1; clear hb5 hb5r rx1 hx5) | (go_at_call 46; clear HTOK; refine (HFT.out _).mono ?_; rintro e w6 ⟨rfl, hb6⟩; have HO6 := Lib.hid (own_later HO5.out hb6); have hb6w := hb5w.trans (hb6.mono hb5w.size); have cx6 := (hb6.cell (p := ⟨wr.heap.size, 0, none⟩) HLT5.out).trans cx0; have HX16 := Lib.hid (Rd.rangeLater HX1.out HLT5.out hb6); have HLT6 := Lib.hid (Nat.lt_of_lt_of_le HLT5.out hb6.size); clear hb6) | (go_at_call 46; refine (HFT.out _).mono ?_; rintro e w8 ⟨rfl, hb8⟩; have HO8 := Lib.hid (own_later HO6.out hb8); have hb8w := hb6w.trans (hb8.mono hb6w.size); have cx8 := (hb8.cell (p := ⟨wr.heap.size, 0, none⟩) HLT6.out).trans cx6; have HX18 := Lib.hid (Rd.rangeLater HX16.out HLT6.out hb8); have HLT8 := Lib.hid (Nat.lt_of_lt_of_le HLT6.out hb8.size); clear hb8))
              have HOR : Hid (w8.rangeAt g (kp * 32) (u8s old)) := Lib.hid (by
                obtain ⟨b, off, hbo, _, _, _, hl, hr⟩ := row_at HO8.out.rd HIC.out hkn
                cases hbo
                have := hr kp (by rw [HIL.out]; exact hkn)
                rw [Nat.zero_add] at this
                rw [← HOE.out, show (imgUpto c ws ss j).getD kp [] = (imgUpto c ws ss j)[kp]'(by rw [HIL.out]; exact hkn) by simp [List.getD, show kp < (imgUpto c ws ss j).length by rw [HIL.out]; exact hkn]]
                exact this)
              have hx8 : wr.heap.size < w8.drew.heap.size := HLT8.out
              have hg8 : g < w8.drew.heap.size := Nat.lt_trans hgl hx8
              have CX8 := Lib.hid cx8
              refine wp_region_last (S := ext w8.drew) 12 (by kernel_rfl) (Below.refl _ _) (fun hH0 => ?_)
              refine wpAnyL_take (i := 0) (oi := { dst := some 53, op := Op.move (Operand.tmp 6), type := 22, pos := "ref.go:66", after := #[], guard := none }) (v := ?_) rfl (by kernel_rfl) (by kernel_rfl) (by kernel_rfl) (by kernel_rfl) (fun _ _ _ h => h) (Or.inl ⟨by rfl, ?_⟩) (by assumption) ?_
              rotate_left
              · (intro w' hSw; go_simp; try with_reducible rfl)
              try simp only [Act.put, List.setIfInBounds_toArray, List.set_cons_zero, List.set_cons_succ]
              refine wpAnyL_take (i := 1) (oi := { dst := some 54, op := Op.fieldAddr 79 (Operand.tmp 8) 0, type := 0, pos := "ref.go:66", after := #[], guard := none }) (v := ?_) rfl (by kernel_rfl) (by kernel_rfl) (by kernel_rfl) (by kernel_rfl) (fun _ _ _ h => h) (Or.inl ⟨by rfl, ?_⟩) (by assumption) ?_
              rotate_left
              · (intro w' hSw; go_simp; try with_reducible rfl)
              try simp only [Act.put, List.setIfInBounds_toArray, List.set_cons_zero, List.set_cons_succ]
              refine' wpAnyL_take (i := 2) (oi := { dst := some 55, op := Op.load 3 (Operand.tmp 54), type := 3, pos := "ref.go:66", after := #[{ on := 1, ground := Ground.data }], guard := none }) (v := _) rfl (by kernel_rfl) (by kernel_rfl) (by kernel_rfl) (by kernel_rfl) (fun _ _ _ h => h) (ld_cell (by rfl) 3 _ und_int rfl _ rfl wr.heap.size 0 rfl (.int .i64 (kp : Int)) (fun w' hw => (Below.cell hw (p := ⟨wr.heap.size, 0, none⟩) hx8).trans CX8.out)) (by assumption) ?_
              try simp only [Act.put, List.setIfInBounds_toArray, List.set_cons_zero, List.set_cons_succ]
              refine wpAnyL_take (i := 3) (oi := { dst := some 56, op := Op.move (Operand.tmp 6), type := 22, pos := "ref.go:66", after := #[], guard := none }) (v := ?_) rfl (by kernel_rfl) (by kernel_rfl) (by kernel_rfl) (by kernel_rfl) (fun _ _ _ h => h) (Or.inl ⟨by rfl, ?_⟩) (by assumption) ?_
              rotate_left
              · (intro w' hSw; go_simp; try with_reducible rfl)
              try simp only [Act.put, List.setIfInBounds_toArray, List.set_cons_zero, List.set_cons_succ]
              refine wpAnyL_take (i := 4) (oi := { dst := some 57, op := Op.fieldAddr 79 (Operand.tmp 8) 0, type := 0, pos := "ref.go:66", after := #[], guard := none }) (v := ?_) rfl (by kernel_rfl) (by kernel_rfl) (by kernel_rfl) (by kernel_rfl) (fun _ _ _ h => h) (Or.inl ⟨by rfl, ?_⟩) (by assumption) ?_
              rotate_left
              · (intro w' hSw; go_simp; try with_reducible rfl)
              try simp only [Act.put, List.setIfInBounds_toArray, List.set_cons_zero, List.set_cons_succ]
              refine' wpAnyL_take (i := 5) (oi := { dst := some 58, op := Op.load 3 (Operand.tmp 57), type := 3, pos := "ref.go:66", after := #[{ on := 4, ground := Ground.data }], guard := none }) (v := _) rfl (by kernel_rfl) (by kernel_rfl) (by kernel_rfl) (by kernel_rfl) (fun _ _ _ h => h) (ld_cell (by rfl) 3 _ und_int rfl _ rfl wr.heap.size 0 rfl (.int .i64 (kp : Int)) (fun w' hw => (Below.cell hw (p := ⟨wr.heap.size, 0, none⟩) hx8).trans CX8.out)) (by assumption) ?_
              try simp only [Act.put, List.setIfInBounds_toArray, List.set_cons_zero, List.set_cons_succ]
              refine wpAnyL_take (i := 6) (oi := { dst := some 59, op := Op.indexAddr 22 (Operand.tmp 56) (Operand.tmp 58), type := 0, pos := "ref.go:66", after := #[{ on := 3, ground := Ground.data }, { on := 5, ground := Ground.data }], guard := none }) (v := ?_) rfl (by kernel_rfl) (by kernel_rfl) (by kernel_rfl) (by kernel_rfl) (fun _ _ _ h => h) (Or.inl ⟨by rfl, ?_⟩) (by assumption) ?_
              rotate_left
              · (intro w' hSw; go_simp; try with_reducible rfl)
              try simp only [Act.put, List.setIfInBounds_toArray, List.set_cons_zero, List.set_cons_succ]
              refine' wpAnyL_take (i := 7) (oi := { dst := some 60, op := Op.load 62 (Operand.tmp 59), type := 62, pos := "ref.go:66", after := #[{ on := 6, ground := Ground.data }], guard := none }) (v := _) rfl (by kernel_rfl) (by kernel_rfl) (by kernel_rfl) (by kernel_rfl) (fun _ _ _ h => h) (ld_sec (by rfl) _ rfl g (kp * 32) rfl old HOLD.out.1 (fun w' hw => Rd.rangeLater (w := w8.drew) HOR.out hg8 hw)) (by assumption) ?_
              try simp only [Act.put, List.setIfInBounds_toArray, List.set_cons_zero, List.set_cons_succ]
              refine wpAnyL_take (i := 8) (oi := { dst := some 61, op := Op.fieldAddr 79 (Operand.tmp 8) 1, type := 0, pos := "ref.go:66", after := #[], guard := none }) (v := ?_) rfl (by kernel_rfl) (by kernel_rfl) (by kernel_rfl) (by kernel_rfl) (fun _ _ _ h => h) (Or.inl ⟨by rfl, ?_⟩) (by assumption) ?_
              rotate_left
              · (intro w' hSw; go_simp; try with_reducible rfl)
              try simp only [Act.put, List.setIfInBounds_toArray, List.set_cons_zero, List.set_cons_succ]
              refine' wpAnyL_take (i := 9) (oi := { dst := some 62, op := Op.load 62 (Operand.tmp 61), type := 62, pos := "ref.go:66", after := #[{ on := 8, ground := Ground.data }], guard := none }) (v := _) rfl (by kernel_rfl) (by kernel_rfl) (by kernel_rfl) (by kernel_rfl) (fun _ _ _ h => h) (ld_sec (by rfl) _ rfl wr.heap.size 1 rfl x.s HSX.out.1 (fun w' hw => Rd.rangeLater (w := w8.drew) HX18.out hx8 hw)) (by assumption) ?_
              try simp only [Act.put, List.setIfInBounds_toArray, List.set_cons_zero, List.set_cons_succ]
              -- 10
              refine wpAnyL_ready (rs := [10]) (by kernel_rfl) (by simp) ?_
              refine AllReadyL.cons (o := { dst := some 63, op := Op.call { callee := Callee.value (Operand.func 47), args := #[Operand.tmp 60, Operand.tmp 62], argTypes := #[62, 62] }, type := 62, pos := "ref.go:66", after := #[{ on := 7, ground := Ground.data }, { on := 9, ground := Ground.data }], guard := none }) rfl (fun K hK => ?_) AllReadyL.nil
              go_simp
              refine (rtorn_is old x.s _ HOLD.out HSX.out).mono ?_
              rintro e v10 ⟨rfl, hb10⟩
              have HB10 := Lib.hid hb10
              clear hb10
              dsimp only
              refine hK.out _ _ (Or.inr HB10.out) (fun hHeld => ?_)
              clear hK K
              try simp only [Act.put, List.setIfInBounds_toArray, List.set_cons_zero, List.set_cons_succ]
              refine wpAnyL_take (i := 11) (oi := { dst := some 64, op := Op.indexAddr 22 (Operand.tmp 53) (Operand.tmp 55), type := 0, pos := "ref.go:66", after := #[{ on := 0, ground := Ground.data }, { on := 2, ground := Ground.data }, { on := 0, ground := Ground.phase }, { on := 1, ground := Ground.phase }, { on := 2, ground := Ground.phase }, { on := 3, ground := Ground.phase }, { on := 4, ground := Ground.phase }, { on := 5, ground := Ground.phase }, { on := 6, ground := Ground.phase }, { on := 7, ground := Ground.phase }, { on := 8, ground := Ground.phase }, { on := 9, ground := Ground.phase }, { on := 10, ground := Ground.phase }], guard := none }) (v := ?_) rfl (by kernel_rfl) (by kernel_rfl) (by kernel_rfl) (by kernel_rfl) (fun _ _ _ h => h) (Or.inl ⟨by rfl, ?_⟩) (by assumption) ?_
              rotate_left
              · (intro w' hSw; go_simp; try with_reducible rfl)
              try simp only [Act.put, List.setIfInBounds_toArray, List.set_cons_zero, List.set_cons_succ]
              -- 12
              refine wpAnyL_ready (rs := [12]) (by kernel_rfl) (by simp) ?_
              refine AllReadyL.cons (o := { dst := none, op := Op.store 62 (Operand.tmp 64) (Operand.tmp 63), type := 0, pos := "ref.go:66", after := #[{ on := 11, ground := Ground.data }, { on := 10, ground := Ground.data }, { on := 10, ground := Ground.chain }, { on := 0, ground := Ground.phase }, { on := 1, ground := Ground.phase }, { on := 2, ground := Ground.phase }, { on := 3, ground := Ground.phase }, { on := 4, ground := Ground.phase }, { on := 5, ground := Ground.phase }, { on := 6, ground := Ground.phase }, { on := 7, ground := Ground.phase }, { on := 8, ground := Ground.phase }, { on := 9, ground := Ground.phase }, { on := 10, ground := Ground.phase }], guard := none }) rfl (fun K hK => ?_) AllReadyL.nil
              refine step_store_own (by rfl) _ _ (by rfl) w1.heap.size g kp n c4 (by rfl) (tornOf old x.s) (by rfl) (torn_secs HOLD.out HSX.out) _ HIC.out (by rw [HIL.out]; exact hkn) (own_later (w := w8.drew) HO8.out HB10.out) ?_
              intro w12 ho12 ht12
              have HO12 := Lib.hid ho12
              have HT12 := Lib.hid ht12
              clear ho12 ht12
              dsimp only
              refine hK.out _ _ (Or.inl rfl) (fun hHeld => ?_)
              clear hK K
              try simp only [Act.put, List.setIfInBounds_toArray, List.set_cons_zero, List.set_cons_succ]
              refine wpAnyL_done (by kernel_rfl) ?_ _
              clear hHeld hH0
              have hb12 : Below w1.heap.size w1 w12 := (hb8w.drew.trans (HB10.out.mono hb8w.size)).trans (HT12.out.below (Nat.le_trans hb8w.size HB10.out.size) (fun k hk => by rw [hk]; omega))
              go_wp2_with fail
              refine ⟨⟨j + 1, by omega, by go_num, Lib.hid (by rw [HST1.out]; exact HO12.out), HAN2, hb12⟩, by simp [intOf]; omega⟩
            · have HST1 : Hid (imgUpto c ws ss (j + 1) = imgUpto c ws ss j) := Lib.hid (by rw [HIS.out, HST.out, if_neg h1, if_neg h2])
              have hd1 : (d == 1) = false := by simpa using h1
              have hd2 : (d == 2) = false := by simpa using h2
              clear HST h1 h2
              go_wp2_with (first | (refine load_wr rfl (.tmp 27) rfl b1 (o1 + j * 36) rfl x HSX.out HRG.out ?_) | (refine store_wr rfl _ _ rfl rfl wr.heap.size x w0 rfl rfl HSX.out sec_zero (atW_new wr) ?_; intro w5 hx5 hb5; have hb5r := (below_alloc (Below.refl _ wr) _).trans hb5; have HO5 := Lib.hid (own_later HO.out hb5r); have hb5w := hbr.trans (hb5r.mono hbr.size); obtain ⟨cx0, rx1, _⟩ := AtW.parts hx5 HSX.out; rw [HKP.out] at cx0; have HX1 := Lib.hid rx1; have HLT5 := Lib.hid (Array.getElem?_eq_some_iff.1 hx5).1; clear hb5 hb5r rx1 hx5) | (go_at_call 46; clear HTOK; refine (HFT.out _).mono ?_; rintro e w6 ⟨rfl, hb6⟩; have HO6 := Lib.hid (own_later HO5.out hb6); have hb6w := hb5w.trans (hb6.mono hb5w.size); have cx6 := (hb6.cell (p := ⟨wr.heap.size, 0, none⟩) HLT5.out).trans cx0; have HX16 := Lib.hid (Rd.rangeLater HX1.out HLT5.out hb6); have HLT6 := Lib.hid (Nat.lt_of_lt_of_le HLT5.out hb6.size); clear hb6) | (go_at_call 46; refine (HFT.out _).mono ?_; rintro e w8 ⟨rfl, hb8⟩; have HO8 := Lib.hid (own_later HO6.out hb8); have hb8w := hb6w.trans (hb8.mono hb6w.size); have cx8 := (hb8.cell (p := ⟨wr.heap.size, 0, none⟩) HLT6.out).trans cx6; have HX18 := Lib.hid (Rd.rangeLater HX16.out HLT6.out hb8); have HLT8 := Lib.hid (Nat.lt_of_lt_of_le HLT6.out hb8.size); clear hb8))
              refine ⟨⟨j + 1, by omega, by go_num, Lib.hid (by rw [HST1.out]; exact HO8.out), HAN2, hb8w⟩, by simp [intOf]; omega⟩
      · obtain rfl : m = j := by omega
        go_wp2_with fail
        go_ret2
        refine ⟨HRW.out.2, Or.inr ⟨?_, p4, c4, rfl, ?_⟩⟩
        · rw [HIO.out]
          have := HMT.out
          rw [List.take_of_length_le (by rw [HML.out]; omega)] at this
          rw [this]; rfl
        · rw [HML.out]
          exact own_base HO.out (by have := HZ1.out; omega)
end Go.Proofs.Ytpnepooobmbfbaa.dsk
