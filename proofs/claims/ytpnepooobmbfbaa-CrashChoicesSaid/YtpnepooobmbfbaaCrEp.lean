/- What Epochs and Allowed give, of the code and of the reference. -/
import Derived.Test.YtpnepooobmbfbaaDcSetMath
import Derived.Test.YtpnepooobmbfbaaDcSettle
import Derived.Test.YtpnepooobmbfbaaChoH
import Derived.Test.YtpnepooobmbfbaaSecCodeA
import Derived.Test.YtpnepooobmbfbaaSecArgB
import Derived.Test.YtpnepooobmbfbaaDskArgs
namespace Go.Proofs.Ytpnepooobmbfbaa.dsk
set_option maxRecDepth 100000
open Go.ChangeShapes Go.WideShapes Go.ChangeAt Go.RowKit
open Go.Proofs.Ytpnepooobmbfbaa.rows
open Go.Proofs.Ytpnepooobmbfbaa.sec
open Go.Proofs.Ytpnepooobmbfbaa.cho (IntsIn allowed_any rallowed_any)
open Go.Proofs.Ytpnepooobmbfbaa.choMath
set_option linter.unusedVariables false
set_option linter.unusedSimpArgs false

def eps (ws : List Wr) : List Int := ws.map Wr.ep
def stV (ps : Option Addr) (n cs : Nat) (pw : Option Addr) (m cw : Nat) : Value := .agg #[.slice ps n cs, .slice pw m cw]
/-- block g holds the numbers zs, all of it -/
def RowI (w : World) (g : Nat) (zs : List Int) : Prop := w.heap[g]? = some (.cells (i64s zs).toArray 3 (0, 0))
theorem rowI_made {w : World} {B g n : Nat} (h : w.ownsRow B 3 1 (.slice (some ⟨g, 0, none⟩) n n) n (madeCells (Value.int .i64 0).cells (n * 1)).toList) : RowI w g (List.replicate n 0) := by
  have hz : (Value.int .i64 0).cells = (List.replicate 1 (Value.int .i64 0)).toArray := rfl
  rw [hz, made_rep 1 _ _ (by decide), Nat.mul_one] at h
  rcases h.2 with ⟨h2, _⟩ | ⟨g', cap, cur, h1, h2, h3, h4, h5, h6, h7⟩
  · cases h2
  · cases h1
    rw [Nat.mul_one] at h6 h7
    rw [List.take_of_length_le (by simp [h6])] at h7
    rw [RowI, i64s, List.map_replicate, ← h7]
    exact h3
theorem rowI_set {w : World} {g : Nat} {zs : List Int} (h : RowI w g zs) (i : Nat) (z : Int) : RowI (w.setCell ⟨g, i, none⟩ (.int .i64 z)) g (zs.set i z) := by
  have := setCell_heap (i := i) h (.int .i64 z)
  rw [RowI, this]
  simp [i64s, List.map_set]
theorem rowI_cell {w : World} {g : Nat} {zs : List Int} (h : RowI w g zs) {i : Nat} (hi : i < zs.length) : w.cell? ⟨g, i, none⟩ = some (.int .i64 zs[i]) := cell_row h i _ (by simp [i64s, hi])
theorem rowI_own {w : World} {B g : Nat} {zs : List Int} (h : RowI w g zs) (hB : B ≤ g) (hl : zs.length ≤ maxLen) : Own w B 3 1 (.slice (some ⟨g, 0, none⟩) zs.length zs.length) zs.length (i64s zs) :=
  ⟨by simp [i64s], Or.inr ⟨g, zs.length, _, rfl, hB, h, Nat.le_refl _, hl, by simp [i64s], by simp [i64s, List.take_of_length_le]⟩⟩
def epUpto (ws : List Wr) (j : Nat) : List Int := eps (ws.take j) ++ List.replicate (ws.length - j) 0
theorem epUpto_len (ws : List Wr) (j : Nat) (h : j ≤ ws.length) : (epUpto ws j).length = ws.length := by simp [epUpto, eps]; omega
theorem epUpto_set (ws : List Wr) (j : Nat) (h : j < ws.length) : (epUpto ws j).set j ws[j].ep = epUpto ws (j + 1) := by
  have h1 : (eps (ws.take j)).length = j := by simp [eps]; omega
  rw [epUpto, List.set_append_right _ _ (by omega), h1, Nat.sub_self, show ws.length - j = (ws.length - (j + 1)) + 1 by omega, List.replicate_succ, List.set_cons_zero, epUpto, List.take_succ_eq_append_getElem h, eps, eps, List.map_append, List.append_assoc]
  rfl
theorem epUpto_all (ws : List Wr) : epUpto ws ws.length = eps ws := by simp [epUpto]
theorem ints_of_rd {w : World} {p : Option Addr} {n c : Nat} {zs : List Int} (h : Rd w 1 (.slice p n c) n (i64s zs)) : IntsIn w (.slice p n c) zs := by
  rcases h with ⟨p', cap', h1, rfl, h2, _⟩ | ⟨b, off, cap', h1, h2, h3, h4, h5, h6, h7⟩
  · cases h1
    exact Or.inl ⟨p, c, rfl, by simpa [i64s] using h2⟩
  · cases h1
    have hl : zs.length = n := by simpa [i64s] using h6
    subst hl
    exact Or.inr ⟨b, off, c, rfl, h2, h5, fun i hi => h7 i _ (by simp [i64s, List.getD, hi])⟩

set_option maxRecDepth 100000 in
set_option maxHeartbeats 1600000 in
theorem cepochs (ps : Option Addr) (n cs : Nat) (pw : Option Addr) (m cw : Nat) (ws : List Wr) (w : World) (hs : ∀ x ∈ ws, Sec x.s) (h : Rd w 36 (.slice pw m cw) m (wrsC ws)) (hm : m ≤ 1000) :
    Calls Try.prog 12 #[stV ps n cs pw m cw] w fun e w' => ∃ p c, e = .returned (.slice p m c) ∧ Own w' w.heap.size 3 1 (.slice p m c) m (i64s (eps ws)) ∧ Below w.heap.size w w' := by
  have HR := Lib.hid h
  have HWC := Lib.hid fun x hx => Wr.c_len (hs x hx)
  have hml : ws.length = m := Rd.count Wr.c h (fun x hx => Wr.c_len (hs x hx)) (by decide)
  have HML := Lib.hid hml
  have HS := Lib.hid hs
  have hm1 : (m : Int) ≤ 1000 := by omega
  clear h hml hs
  obtain ⟨i0, hi, hz0, hz1, hz2⟩ := info_parts elem_ints.info
  unfold stV
  go_enter Try.func12, Try.ntmps12
  go_wp2_with (first | (at_make; refine wpList_make_full _ rfl _ _ 36 rfl w.heap.size 3 i0 (.int .i64 0) 1 Try.underlying36 hi hz0 hz1 .i64 .i64 _ _ m rfl rfl rfl rfl (by rw [hz2]; omega) (by unfold maxLen; omega) (by rw [size_alloc]; omega) ?_; intro w3 ho3 hg3; have R3 := Lib.hid (rowI_made ho3); have hb3 := below_made hg3; have HRB := Lib.hid (row_later (heap_alloc_new _ _) hb3 (by rw [size_alloc]; omega)); have c1 := cell_row HRB.out 1 _ rfl; clear ho3 hg3))
  have hb3w : Below w.heap.size w w3 := (below_alloc (Below.refl _ w) _).trans (hb3.mono (by rw [size_alloc]; omega))
  have R3b : Hid (RowI w3 (w.heap.size + 1) (epUpto ws 0)) := Lib.hid (by have := R3.out; rw [size_alloc] at this; simpa [epUpto, eps, HML.out] using this)
  have hs3 : w.heap.size + 1 < w3.heap.size := (Array.getElem?_eq_some_iff.1 R3b.out).1
  clear R3 hb3 HRB hi hz0 hz1 hz2 c1
  go_loopw [13] (fun iv wr => ∃ (j : Nat), j ≤ m ∧ iv = .int .i64 (j : Int) ∧ Hid (RowI wr (w.heap.size + 1) (epUpto ws j)) ∧ Below w.heap.size w wr ∧ w.heap.size + 1 < wr.heap.size) (fun iv _ => m - (intOf iv).toNat)
  case atStart => exact ⟨0, by omega, rfl, R3b, hb3w, hs3⟩
  case round =>
    clear R3b hb3w
    obtain ⟨j, hj, rfl, HRW, hbr, hsr⟩ := hrel
    by_cases ha : j < m
    · have ha1 : (j:Int) < m := by omega
      have hjl : j < ws.length := by rw [HML.out]; exact ha
      obtain ⟨b1, o1, rfl, hc1, hmm1, hh1, hl1, HR1⟩ := Rd.chunk Wr.c HR.out HWC.out (by decide) ha
      have HRG := Lib.hid (Rd.rangeLater (HR1 j hjl) hh1 hbr)
      have HSX := Lib.hid (HS.out _ (List.getElem_mem hjl))
      have HST := Lib.hid (epUpto_set ws j hjl)
      have HEL := Lib.hid (epUpto_len ws j (by omega))
      generalize ws[j] = x at *
      clear HR1 hl1
      go_wp2_with (first | (refine load_wr rfl (.tmp 16) rfl b1 (o1 + j * 36) rfl x HSX.out HRG.out ?_) | (refine store_wr rfl _ _ rfl rfl wr.heap.size x w0 rfl rfl HSX.out sec_zero (atW_new wr) ?_; intro w2 hx2 hb2; have hbw := (below_alloc (Below.refl _ wr) _).trans hb2; clear hb2; have HRW2 := Lib.hid (row_later HRW.out hbw hsr); obtain ⟨_, _, _, _, c35⟩ := AtW.parts hx2 HSX.out; clear hx2; have cfr := frozen_row HRW2.out j; have hcj := rowI_cell HRW2.out (i := j) (by rw [HEL.out, HML.out]; exact ha)))
      go_roundw
      case rel => exact ⟨j + 1, by omega, by go_num, Lib.hid (by rw [← HST.out]; exact rowI_set HRW2.out j x.ep), (hbr.trans (hbw.mono hbr.size)).setCell (p := ⟨w.heap.size + 1, j, none⟩) (by show w.heap.size ≤ w.heap.size + 1; omega) _, by rw [size_set]; have := hbw.size; omega⟩
      case measure => simp [intOf]; omega
    · obtain rfl : m = j := by omega
      go_wp2_with fail
      go_ret
      refine ⟨some ⟨w.heap.size + 1, 0, none⟩, m, rfl, ?_, hbr⟩
      have := HRW.out
      rw [← HML.out, epUpto_all] at this
      have h2 := rowI_own this (B := w.heap.size) (by omega) (by rw [eps, List.length_map, HML.out]; unfold maxLen; omega)
      rwa [show (eps ws).length = m by rw [eps, List.length_map, HML.out]] at h2
theorem eps_snoc (ws : List Wr) (j : Nat) (h : j < ws.length) : eps (ws.take (j + 1)) = eps (ws.take j) ++ [ws[j].ep] := by
  rw [List.take_succ_eq_append_getElem h, eps, eps, List.map_append]; rfl
set_option maxRecDepth 100000 in
set_option maxHeartbeats 1600000 in
theorem repochs (ps : Option Addr) (n cs : Nat) (pw : Option Addr) (m cw : Nat) (ws : List Wr) (w : World) (hs : ∀ x ∈ ws, Sec x.s) (h : Rd w 36 (.slice pw m cw) m (wrsC ws)) (hm : m ≤ 1000) :
    Calls Try.prog 13 #[stV ps n cs pw m cw] w fun e w' => ∃ p c, e = .returned (.slice p m c) ∧ Own w' w.heap.size 3 1 (.slice p m c) m (i64s (eps ws)) ∧ Below w.heap.size w w' := by
  have HR := Lib.hid h
  have HWC := Lib.hid fun x hx => Wr.c_len (hs x hx)
  have hml : ws.length = m := Rd.count Wr.c h (fun x hx => Wr.c_len (hs x hx)) (by decide)
  have HML := Lib.hid hml
  have HS := Lib.hid hs
  have hm1 : (m : Int) ≤ 1000 := by omega
  clear h hml hs
  unfold stV
  go_enter Try.func13, Try.ntmps13
  go_wp2
  obtain ⟨w1, hw1⟩ : ∃ w1, w.alloc (.cells #[.slice ps n cs, .slice pw m cw] 31) = w1 := ⟨_, rfl⟩
  have hbx : w1.heap[w.heap.size]? = some (.cells #[.slice ps n cs, .slice pw m cw] 31 (0, 0)) := by rw [← hw1]; exact heap_alloc_new _ _
  have hz1 : w1.heap.size = w.heap.size + 1 := by rw [← hw1, size_alloc]
  have hb1 : Below w.heap.size w w1 := by rw [← hw1]; exact below_alloc (Below.refl _ _) _
  have HBX := Lib.hid hbx
  have HZ1 := Lib.hid hz1
  have HB1 := Lib.hid hb1
  rw [hw1]
  clear hw1 hbx hz1 hb1
  go_loopw [3, 4] (fun lv iv wr => ∃ (j : Nat) (p : Option Addr) (c : Nat), j ≤ m ∧ iv = .int .i64 (j : Int) ∧ lv = .slice p j c ∧ Hid (Own wr w1.heap.size 3 1 (.slice p j c) j (i64s (eps (ws.take j)))) ∧ Below w1.heap.size w1 wr) (fun _ iv _ => m - (intOf iv).toNat)
  case atStart => exact ⟨0, none, 0, by omega, rfl, rfl, Lib.hid (own_nil _ _ _ _), Below.refl _ _⟩
  case round =>
    obtain ⟨j, p, c, hj, rfl, rfl, HO, hbr⟩ := hrel
    have HB2 := Lib.hid (row_later HBX.out hbr (by rw [HZ1.out]; omega))
    have cb := cell_row HB2.out 1 _ rfl
    by_cases ha : j < m
    · have ha1 : (j:Int) < m := by omega
      have hjl : j < ws.length := by rw [HML.out]; exact ha
      obtain ⟨b1, o1, rfl, hc1, hmm1, hh1, hl1, HR1⟩ := Rd.chunk Wr.c HR.out HWC.out (by decide) ha
      have hbw : Below w.heap.size w wr := HB1.out.trans (hbr.mono HB1.out.size)
      obtain ⟨_, _, _, _, c35⟩ := wr_parts (HS.out _ (List.getElem_mem hjl)) (Rd.rangeLater (HR1 j hjl) hh1 hbw)
      have HES := Lib.hid (eps_snoc ws j hjl)
      generalize ws[j] = x at *
      clear HR1 hl1
      go_wp2_with (first | (refine build_one elem_ints (by decide) rfl (.tmp 18) rfl [.int .i64 x.ep] rfl rfl ?_) | (at_builtin; refine ap_rd elem_ints rfl (.tmp 12) (.tmp 19) rfl w1.heap.size _ j _ rfl (HO.out.alloc _) _ 1 [.int .i64 x.ep] rfl (rd_laid _ _ _ _ rfl) (fun u hu => by rw [List.mem_singleton.1 hu]; rfl) (by omega) (by rw [size_alloc]; have := hbr.size; omega) ?_; intro pa ca wa ho hba; have HOA := Lib.hid ho; clear ho))
      go_roundw
      case rel => exact ⟨j + 1, pa, ca, by omega, by go_num, rfl, Lib.hid (by rw [HES.out, i64s, List.map_append]; exact HOA.out), (hbr.alloc hbr.size _).trans hba⟩
      case measure => simp [intOf]; omega
    · obtain rfl : m = j := by omega
      go_wp2_with fail
      go_ret
      refine ⟨p, c, rfl, ?_, HB1.out.trans (hbr.mono HB1.out.size)⟩
      have := HO.out
      rw [List.take_of_length_le (by rw [HML.out]; omega)] at this
      exact own_base this HB1.out.size
set_option maxRecDepth 100000 in
theorem callowed (c : Nat) (ps : Option Addr) (n cs : Nat) (pw : Option Addr) (m cw : Nat) (ws : List Wr) (w : World) (hc : c < 18446744073709551616) (hs : ∀ x ∈ ws, Sec x.s) (h : Rd w 36 (.slice pw m cw) m (wrsC ws)) (hm : m ≤ 1000) :
    Calls Try.prog 17 #[stV ps n cs pw m cw, .int .u64 (c : Int)] w fun e w' => e = .returned (.bool (alB c (eps ws))) ∧ Below w.heap.size w w' := by
  have HE := Lib.hid fun w' (hb : Below w.heap.size w w') => cepochs ps n cs pw m cw ws w' hs (h.later hb) hm
  have HC := Lib.hid hc
  clear h hs hc
  unfold stV at *
  go_enter Try.func17, Try.ntmps17
  go_wp2_with (first | (go_at_call 12; refine (HE.out _ (below_alloc (Below.refl _ w) _)).mono ?_; rintro e w2 ⟨p2, c2, rfl, ho2, hb2⟩; have HI := Lib.hid (ints_of_rd ho2.rd); have hb2w := (below_alloc (Below.refl _ w) _).trans (hb2.mono (by rw [size_alloc]; omega)); clear ho2 hb2) | (go_at_call 48; refine (allowed_any c _ _ _ HC.out HI.out).mono ?_; rintro e w3 ⟨rfl, rfl⟩))
  go_ret
  exact ⟨rfl, hb2w⟩
set_option maxRecDepth 100000 in
theorem rallowed (c : Nat) (ps : Option Addr) (n cs : Nat) (pw : Option Addr) (m cw : Nat) (ws : List Wr) (w : World) (hc : c < 18446744073709551616) (hs : ∀ x ∈ ws, Sec x.s) (h : Rd w 36 (.slice pw m cw) m (wrsC ws)) (hm : m ≤ 1000) :
    Calls Try.prog 18 #[stV ps n cs pw m cw, .int .u64 (c : Int)] w fun e w' => e = .returned (.bool (alB c (eps ws))) ∧ Below w.heap.size w w' := by
  have HE := Lib.hid fun w' (hb : Below w.heap.size w w') => repochs ps n cs pw m cw ws w' hs (h.later hb) hm
  have HC := Lib.hid hc
  clear h hs hc
  unfold stV at *
  go_enter Try.func18, Try.ntmps18
  go_wp2_with (first | (go_at_call 13; refine (HE.out _ (below_alloc (Below.refl _ w) _)).mono ?_; rintro e w2 ⟨p2, c2, rfl, ho2, hb2⟩; have HI := Lib.hid (ints_of_rd ho2.rd); have hb2w := (below_alloc (Below.refl _ w) _).trans (hb2.mono (by rw [size_alloc]; omega)); clear ho2 hb2) | (go_at_call 49; refine (rallowed_any c _ _ _ HC.out HI.out).mono ?_; rintro e w3 ⟨rfl, hb3⟩))
  go_ret
  exact ⟨rfl, hb2w.trans (hb3.mono hb2w.size)⟩
end Go.Proofs.Ytpnepooobmbfbaa.dsk
