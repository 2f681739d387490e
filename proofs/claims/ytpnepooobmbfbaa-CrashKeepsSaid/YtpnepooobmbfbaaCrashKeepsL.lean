/- What CrashKeeps wants, part 12. -/
import Derived.Test.YtpnepooobmbfbaaCrashKeepsB
import Derived.Test.YtpnepooobmbfbaaCrashKeepsG
import Derived.Test.YtpnepooobmbfbaaCrashKeepsI
import Derived.Test.YtpnepooobmbfbaaCrashKeepsK
/- What Epochs and Allowed give, of the code and of the reference. -/
namespace Go.Proofs.Ytpnepooobmbfbaa.dsk
set_option maxRecDepth 100000
open Go.ChangeShapes Go.WideShapes Go.ChangeAt Go.RowKit
open Go.Proofs.Ytpnepooobmbfbaa.rows
open Go.Proofs.Ytpnepooobmbfbaa.sec
open Go.Proofs.Ytpnepooobmbfbaa.cho (IntsIn allowed_any rallowed_any)
open Go.Proofs.Ytpnepooobmbfbaa.choMath
set_option linter.unusedVariables false
set_option linter.unusedSimpArgs false

def eps (ws : List Wr) : List Int := ws.map Wr.ep
def stV (ps : Option Addr) (n cs : Nat) (pw : Option Addr) (m cw : Nat) : Value := .agg #[.slice ps n cs, .slice pw m cw]
/-- block g holds the numbers zs, all of it -/
def RowI (w : World) (g : Nat) (zs : List Int) : Prop := w.heap[g]? = some (.cells (i64s zs).toArray 3 (0, 0))
theorem rowI_made {w : World} {B g n : Nat} (h : w.ownsRow B 3 1 (.slice (some ⟨g, 0, none⟩) n n) n (madeCells (Value.int .i64 0).cells (n * 1)).toList) : RowI w g (List.replicate n 0) := by
  have hz : (Value.int .i64 0).cells = (List.replicate 1 (Value.int .i64 0)).toArray := rfl
  rw [hz, made_rep 1 _ _ (by decide), Nat.mul_one] at h
  rcases h.2 with ⟨h2, _⟩ | ⟨g', cap, cur, h1, h2, h3, h4, h5, h6, h7⟩
  · cases h2
  · cases h1
    rw [Nat.mul_one] at h6 h7
    rw [List.take_of_length_le (by simp [h6])] at h7
    rw [RowI, i64s, List.map_replicate, ← h7]
    exact h3
theorem rowI_set {w : World} {g : Nat} {zs : List Int} (h : RowI w g zs) (i : Nat) (z : Int) : RowI (w.setCell ⟨g, i, none⟩ (.int .i64 z)) g (zs.set i z) := by
  have := setCell_heap (i := i) h (.int .i64 z)
  rw [RowI, this]
  simp [i64s, List.map_set]
theorem rowI_cell {w : World} {g : Nat} {zs : List Int} (h : RowI w g zs) {i : Nat} (hi : i < zs.length) : w.cell? ⟨g, i, none⟩ = some (.int .i64 zs[i]) := cell_row h i _ (by simp [i64s, hi])
theorem rowI_own {w : World} {B g : Nat} {zs : List Int} (h : RowI w g zs) (hB : B ≤ g) (hl : zs.length ≤ maxLen) : Own w B 3 1 (.slice (some ⟨g, 0, none⟩) zs.length zs.length) zs.length (i64s zs) :=
  ⟨by simp [i64s], Or.inr ⟨g, zs.length, _, rfl, hB, h, Nat.le_refl _, hl, by simp [i64s], by simp [i64s, List.take_of_length_le]⟩⟩
def epUpto (ws : List Wr) (j : Nat) : List Int := eps (ws.take j) ++ List.replicate (ws.length - j) 0
theorem epUpto_len (ws : List Wr) (j : Nat) (h : j ≤ ws.length) : (epUpto ws j).length = ws.length := by simp [epUpto, eps]; omega
theorem epUpto_set (ws : List Wr) (j : Nat) (h : j < ws.length) : (epUpto ws j).set j ws[j].ep = epUpto ws (j + 1) := by
  have h1 : (eps (ws.take j)).length = j := by simp [eps]; omega
  rw [epUpto, List.set_append_right _ _ (by omega), h1, Nat.sub_self, show ws.length - j = (ws.length - (j + 1)) + 1 by omega, List.replicate_succ, List.set_cons_zero, epUpto, List.take_succ_eq_append_getElem h, eps, eps, List.map_append, List.append_assoc]
  rfl
theorem epUpto_all (ws : List Wr) : epUpto ws ws.length = eps ws := by simp [epUpto]
theorem ints_of_rd {w : World} {p : Option Addr} {n c : Nat} {zs : List Int} (h : Rd w 1 (.slice p n c) n (i64s zs)) : IntsIn w (.slice p n c) zs := by
  rcases h with ⟨p', cap', h1, rfl, h2, _⟩ | ⟨b, off, cap', h1, h2, h3, h4, h5, h6, h7⟩
  · cases h1
    exact Or.inl ⟨p, c, rfl, by simpa [i64s] using h2⟩
  · cases h1
    have hl : zs.length = n := by simpa [i64s] using h6
    subst hl
    exact Or.inr ⟨b, off, c, rfl, h2, h5, fun i hi => h7 i _ (by simp [i64s, List.getD, hi])⟩

set_option maxRecDepth 100000 in
set_option maxHeartbeats 1600000 in
theorem cepochs (ps : Option Addr) (n cs : Nat) (pw : Option Addr) (m cw : Nat) (ws : List Wr) (w : World) (hs : ∀ x ∈ ws, Sec x.s) (h : Rd w 36 (.slice pw m cw) m (wrsC ws)) (hm : m ≤ 1000) :
    Calls Try.prog 12 #[stV ps n cs pw m cw] w fun e w' => ∃ p c, e = .returned (.slice p m c) ∧ Own w' w.heap.size 3 1 (.slice p m c) m (i64s (eps ws)) ∧ Below w.heap.size w w' := by
  have HR := Lib.hid h
  have HWC := Lib.hid fun x hx => Wr.c_len (hs x hx)
  have hml : ws.length = m := Rd.count Wr.c h (fun x hx => Wr.c_len (hs x hx)) (by decide)
  have HML := Lib.hid hml
  have HS := Lib.hid hs
  have hm1 : (m : Int) ≤ 1000 := by omega
  clear h hml hs
  obtain ⟨i0, hi, hz0, hz1, hz2⟩ := info_parts elem_ints.info
  unfold stV
  go_enter Try.func12, Try.ntmps12
  go_wp2_with (first | (at_make; refine wpList_make_full _ rfl _ _ 36 rfl w.heap.size 3 i0 (.int .i64 0) 1 Try.underlying36 hi hz0 hz1 .i64 .i64 _ _ m rfl rfl rfl rfl (by rw [hz2]; omega) (by unfold maxLen; omega) (by rw [size_alloc]; omega) ?_; intro w3 ho3 hg3; have R3 := Lib.hid (rowI_made ho3); have hb3 := below_made hg3; have HRB := Lib.hid (row_later (heap_alloc_new _ _) hb3 (by rw [size_alloc]; omega)); have c1 := cell_row HRB.out 1 _ rfl; clear ho3 hg3))
  have hb3w : Below w.heap.size w w3 := (below_alloc (Below.refl _ w) _).trans (hb3.mono (by rw [size_alloc]; omega))
  have R3b : Hid (RowI w3 (w.heap.size + 1) (epUpto ws 0)) := Lib.hid (by have := R3.out; rw [size_alloc] at this; simpa [epUpto, eps, HML.out] using this)
  have hs3 : w.heap.size + 1 < w3.heap.size := (Array.getElem?_eq_some_iff.1 R3b.out).1
  clear R3 hb3 HRB hi hz0 hz1 hz2 c1
  go_loopw [13] (fun iv wr => ∃ (j : Nat), j ≤ m ∧ iv = .int .i64 (j : Int) ∧ Hid (RowI wr (w.heap.size + 1) (epUpto ws j)) ∧ Below w.heap.size w wr ∧ w.heap.size + 1 < wr.heap.size) (fun iv _ => m - (intOf iv).toNat)
  case atStart => exact ⟨0, by omega, rfl, R3b, hb3w, hs3⟩
  case round =>
    clear R3b hb3w
    obtain ⟨j, hj, rfl, HRW, hbr, hsr⟩ := hrel
    by_cases ha : j < m
    · have ha1 : (j:Int) < m := by omega
      have hjl : j < ws.length := by rw [HML.out]; exact ha
      obtain ⟨b1, o1, rfl, hc1, hmm1, hh1, hl1, HR1⟩ := Rd.chunk Wr.c HR.out HWC.out (by decide) ha
      have HRG := Lib.hid (Rd.rangeLater (HR1 j hjl) hh1 hbr)
      have HSX := Lib.hid (HS.out _ (List.getElem_mem hjl))
      have HST := Lib.hid (epUpto_set ws j hjl)
      have HEL := Lib.hid (epUpto_len ws j (by omega))
      generalize ws[j] = x at *
      clear HR1 hl1
      go_wp2_with (first | (refine load_wr rfl (.tmp 16) rfl b1 (o1 + j * 36) rfl x HSX.out HRG.out ?_) | (refine store_wr rfl _ _ rfl rfl wr.heap.size x w0 rfl rfl HSX.out sec_zero (atW_new wr) ?_; intro w2 hx2 hb2; have hbw := (below_alloc (Below.refl _ wr) _).trans hb2; clear hb2; have HRW2 := Lib.hid (row_later HRW.out hbw hsr); obtain ⟨_, _, _, _, c35⟩ := AtW.parts hx2 HSX.out; clear hx2; have cfr := frozen_row HRW2.out j; have hcj := rowI_cell HRW2.out (i := j) (by rw [HEL.out, HML.out]; exact ha)))
      go_roundw
      case rel => exact ⟨j + 1, by omega, by go_num, Lib.hid (by rw [← HST.out]; exact rowI_set HRW2.out j x.ep), (hbr.trans (hbw.mono hbr.size)).setCell (p := ⟨w.heap.size + 1, j, none⟩) (by show w.heap.size ≤ w.heap.size + 1; omega) _, by rw [size_set]; have := hbw.size; omega⟩
      case measure => simp [intOf]; omega
    · obtain rfl : m = j := by omega
      go_wp2_with fail
      go_ret
      refine ⟨some ⟨w.heap.size + 1, 0, none⟩, m, rfl, ?_, hbr⟩
      have := HRW.out
      rw [← HML.out, epUpto_all] at this
      have h2 := rowI_own this (B := w.heap.size) (by omega) (by rw [eps, List.length_map, HML.out]; unfold maxLen; omega)
      rwa [show (eps ws).length = m by rw [eps, List.length_map, HML.out]] at h2
set_option maxRecDepth 100000 in
theorem callowed (c : Nat) (ps : Option Addr) (n cs : Nat) (pw : Option Addr) (m cw : Nat) (ws : List Wr) (w : World) (hc : c < 18446744073709551616) (hs : ∀ x ∈ ws, Sec x.s) (h : Rd w 36 (.slice pw m cw) m (wrsC ws)) (hm : m ≤ 1000) :
    Calls Try.prog 17 #[stV ps n cs pw m cw, .int .u64 (c : Int)] w fun e w' => e = .returned (.bool (alB c (eps ws))) ∧ Below w.heap.size w w' := by
  have HE := Lib.hid fun w' (hb : Below w.heap.size w w') => cepochs ps n cs pw m cw ws w' hs (h.later hb) hm
  have HC := Lib.hid hc
  clear h hs hc
  unfold stV at *
  go_enter Try.func17, Try.ntmps17
  go_wp2_with (first | (go_at_call 12; refine (HE.out _ (below_alloc (Below.refl _ w) _)).mono ?_; rintro e w2 ⟨p2, c2, rfl, ho2, hb2⟩; have HI := Lib.hid (ints_of_rd ho2.rd); have hb2w := (below_alloc (Below.refl _ w) _).trans (hb2.mono (by rw [size_alloc]; omega)); clear ho2 hb2) | (go_at_call 48; refine (allowed_any c _ _ _ HC.out HI.out).mono ?_; rintro e w3 ⟨rfl, rfl⟩))
  go_ret
  exact ⟨rfl, hb2w⟩
end Go.Proofs.Ytpnepooobmbfbaa.dsk
/- What an image is, and the small functions of the code that it wants. -/
namespace Go.Proofs.Ytpnepooobmbfbaa.dsk
set_option maxRecDepth 100000
open Go.ChangeShapes Go.WideShapes Go.ChangeAt Go.RowKit
open Go.Proofs.Ytpnepooobmbfbaa.rows
open Go.Proofs.Ytpnepooobmbfbaa.sec
open Go.Proofs.Ytpnepooobmbfbaa.cho (IntsIn allowed_any rallowed_any)
open Go.Proofs.Ytpnepooobmbfbaa.choMath
set_option linter.unusedVariables false
set_option linter.unusedSimpArgs false

def missB (n : Nat) (x : Wr) : Bool := !decide (0 ≤ x.pos ∧ x.pos < (n : Int))
def tornOf (o s : List Int) : List Int := s.take 16 ++ o.drop 16
def imgStep (c : Nat) (o : List (List Int)) (i : Nat) (x : Wr) : List (List Int) :=
  if fate c (i : Int) = 1 then o.set x.pos.toNat x.s else if fate c (i : Int) = 2 then o.set x.pos.toNat (tornOf (o.getD x.pos.toNat []) x.s) else o
def imgUpto (c : Nat) (ws : List Wr) (ss : List (List Int)) : Nat → List (List Int)
  | 0 => ss
  | j + 1 => match ws[j]? with | some x => imgStep c (imgUpto c ws ss j) j x | none => imgUpto c ws ss j
theorem imgUpto_snoc (c : Nat) (ws : List Wr) (ss : List (List Int)) (j : Nat) (h : j < ws.length) : imgUpto c ws ss (j + 1) = imgStep c (imgUpto c ws ss j) j ws[j] := by
  rw [imgUpto, List.getElem?_eq_getElem h]
theorem imgStep_len (c : Nat) (o : List (List Int)) (i : Nat) (x : Wr) : (imgStep c o i x).length = o.length := by
  unfold imgStep; split
  · simp
  · split <;> simp
theorem imgUpto_len (c : Nat) (ws : List Wr) (ss : List (List Int)) : ∀ j, (imgUpto c ws ss j).length = ss.length
  | 0 => rfl
  | j + 1 => by
    rw [imgUpto]
    split
    · rw [imgStep_len, imgUpto_len c ws ss j]
    · exact imgUpto_len c ws ss j
theorem torn_secs {o s : List Int} (ho : Sec o) (hs : Sec s) : Sec (tornOf o s) := by
  refine ⟨by simp [tornOf, ho.1, hs.1], fun x hx => ?_⟩
  rcases List.mem_append.1 hx with h | h
  · exact hs.2 x (List.mem_of_mem_take h)
  · exact ho.2 x (List.mem_of_mem_drop h)
theorem secs_getD {o : List (List Int)} (h : Secs o) {i : Nat} (hi : i < o.length) : Sec (o.getD i []) := by
  have : o.getD i [] = o[i] := by simp [List.getD, hi]
  rw [this]; exact h _ (List.getElem_mem hi)
theorem imgStep_secs (c : Nat) {o : List (List Int)} (i : Nat) {x : Wr} (h : Secs o) (hx : Sec x.s) (hp : missB o.length x = false) : Secs (imgStep c o i x) := by
  have hp2 : x.pos.toNat < o.length := by
    rw [missB, Bool.not_eq_false', decide_eq_true_eq] at hp
    omega
  unfold imgStep; split
  · exact secs_set h hx _
  · split
    · exact secs_set h (torn_secs (secs_getD h hp2) hx) _
    · exact h
theorem imgUpto_secs (c : Nat) (ws : List Wr) (ss : List (List Int)) (hs : Secs ss) (hw : ∀ x ∈ ws, Sec x.s) : ∀ j, (∀ k (hk : k < ws.length), k < j → missB ss.length ws[k] = false) → Secs (imgUpto c ws ss j)
  | 0, _ => hs
  | j + 1, hm => by
    have ih := imgUpto_secs c ws ss hs hw j fun k hk hj => hm k hk (by omega)
    rw [imgUpto]
    split
    · rename_i x hx
      obtain ⟨hj, rfl⟩ := List.getElem?_eq_some_iff.1 hx
      exact imgStep_secs c j ih (hw _ (List.getElem_mem hj)) (by rw [imgUpto_len]; exact hm j hj (by omega))
    · exact ih
def imgOk (c : Nat) (ws : List Wr) (n : Nat) : Bool := alB c (eps ws) && !(ws.any (missB n))
/-- what Image answers -/
def ImgDone (c : Nat) (ss : List (List Int)) (ws : List Wr) (n : Nat) (w : World) (e : Ending) (w' : World) : Prop :=
  Below w.heap.size w w' ∧ ((imgOk c ws n = false ∧ e = .returned (.tuple #[.slice none 0 0, .bool false])) ∨
    (imgOk c ws n = true ∧ ∃ p cc, e = .returned (.tuple #[.slice p n cc, .bool true]) ∧ Own w' w.heap.size 62 32 (.slice p n cc) n (cellsOf (imgUpto c ws ss ws.length))))

theorem cwithin (i : Int) (n : Nat) (w : World) (hn : n ≤ 1000) :
    Calls Try.prog 42 #[.int .i64 i, .int .i64 (n : Int)] w fun e w' => e = .returned (.bool (decide (0 ≤ i ∧ i < (n : Int)))) ∧ w = w' := by
  obtain ⟨d, hd⟩ : ∃ d, decide (0 ≤ i ∧ i < (n : Int)) = d := ⟨_, rfl⟩
  have HD := Lib.hid hd
  rw [hd]; clear hd
  by_cases h0 : 0 ≤ i
  · by_cases h1 : i < (n : Int)
    · have hdt : d = true := by rw [← HD.out]; exact decide_eq_true ⟨h0, h1⟩
      subst hdt
      go_enter Try.func42, Try.ntmps42
      go_wp2
      go_ret
      exact ⟨rfl, rfl⟩
    · have hdt : d = false := by rw [← HD.out]; exact decide_eq_false (by omega)
      subst hdt
      go_enter Try.func42, Try.ntmps42
      go_wp2
      go_ret
      exact ⟨rfl, rfl⟩
  · have hdt : d = false := by rw [← HD.out]; exact decide_eq_false (by omega)
    subst hdt
    go_enter Try.func42, Try.ntmps42
    go_wp2
    go_ret
    exact ⟨rfl, rfl⟩
set_option maxRecDepth 100000 in
theorem cmissing (bx : Nat) (ps : Option Addr) (n cs : Nat) (vw : Value) (x : Wr) (w : World) (hb : w.heap[bx]? = some (.cells #[.slice ps n cs, vw] 28 (0, 0))) (hs : Sec x.s) (hn : n ≤ 1000) :
    Calls Try.prog 41 #[.agg x.c.toArray, .pointer (some ⟨bx, 0, none⟩)] w fun e w' => e = .returned (.bool (missB n x)) ∧ Below w.heap.size w w' := by
  have HB := Lib.hid hb
  have HS := Lib.hid hs
  have hn1 : (n : Int) ≤ 1000 := by omega
  have hx1 : AtW (w.alloc (.cells x.c.toArray 79)) w.heap.size x := heap_alloc_new _ _
  have cb : (w.alloc (.cells x.c.toArray 79)).cell? ⟨bx, 0, none⟩ = some (.slice ps n cs) := cell_row (row_alloc hb _) 0 _ rfl
  obtain ⟨c0, _⟩ := AtW.parts hx1 hs
  have hbw : Below w.heap.size w (w.alloc (.cells x.c.toArray 79)) := below_alloc (Below.refl _ _) _
  have HW := Lib.hid cwithin
  obtain ⟨d, hd⟩ : ∃ d, decide (0 ≤ x.pos ∧ x.pos < (n : Int)) = d := ⟨_, rfl⟩
  have HD := Lib.hid hd
  have hmd : missB n x = !d := by rw [missB, hd]
  rw [hmd]
  clear hb hs hx1 hd hmd
  go_enter Try.func41, Try.ntmps41
  have HBW := Lib.hid hbw
  clear hbw
  go_wp2_with (go_at_call 42; refine (HW.out x.pos n _ hn).mono ?_; rintro e w2 ⟨he, rfl⟩; rw [HD.out] at he; subst he)
  go_ret
  exact ⟨rfl, HBW.out⟩
end Go.Proofs.Ytpnepooobmbfbaa.dsk
/- What the code's Image gives. -/
namespace Go.Proofs.Ytpnepooobmbfbaa.dsk
set_option maxRecDepth 100000
open Go.ChangeShapes Go.WideShapes Go.ChangeAt Go.RowKit
open Go.Proofs.Ytpnepooobmbfbaa.rows
open Go.Proofs.Ytpnepooobmbfbaa.sec
open Go.Proofs.Ytpnepooobmbfbaa.cho (IntsIn allowed_any rallowed_any fate_of rfate_any)
open Go.Proofs.Ytpnepooobmbfbaa.choMath
set_option linter.unusedVariables false
set_option linter.unusedSimpArgs false

theorem any_upto {α : Type} (f : α → Bool) (l : List α) {j : Nat} (h : j < l.length) (h0 : (l.take j).any f = false) : (l.take (j + 1)).any f = f l[j] := by
  rw [List.take_succ_eq_append_getElem h, List.any_append, h0]; simp
theorem any_of_take {α : Type} (f : α → Bool) (l : List α) (j : Nat) (h : (l.take j).any f = true) : l.any f = true := by
  rw [List.any_eq_true] at h ⊢
  obtain ⟨x, hx, hf⟩ := h
  exact ⟨x, List.mem_of_mem_take hx, hf⟩
def missV (bx : Nat) : Value := .func (.func 41) #[] #[.pointer (some ⟨bx, 0, none⟩)]
set_option maxRecDepth 100000 in
set_option maxHeartbeats 1600000 in
theorem cindex (bx : Nat) (ps : Option Addr) (n cs : Nat) (vw : Value) (p : Option Addr) (m c : Nat) (ws : List Wr) (w : World) (hb : w.heap[bx]? = some (.cells #[.slice ps n cs, vw] 28 (0, 0))) (hs : ∀ x ∈ ws, Sec x.s) (hn : n ≤ 1000)
    (h : Rd w 36 (.slice p m c) m (wrsC ws)) (hm : m ≤ 1000) :
    Calls Try.prog 67 #[.slice p m c, missV bx] w fun e w' => (∃ r : Int, e = .returned (.int .i64 r) ∧ decide (0 ≤ r) = ws.any (missB n)) ∧ Below w.heap.size w w' := by
  have HR := Lib.hid h
  have HWC := Lib.hid fun x hx => Wr.c_len (hs x hx)
  have hml : ws.length = m := Rd.count Wr.c h (fun x hx => Wr.c_len (hs x hx)) (by decide)
  have HML := Lib.hid hml
  have HS := Lib.hid hs
  have HB := Lib.hid hb
  have hbl : bx < w.heap.size := (Array.getElem?_eq_some_iff.1 hb).1
  have hm1 : (m : Int) ≤ 1000 := by omega
  clear h hml hs hb
  unfold missV
  go_enter Try.func67, Try.ntmps67
  go_wp2
  go_loopw [8] (fun iv wr => ∃ (j : Nat), j ≤ m ∧ iv = .int .i64 (j : Int) ∧ Hid ((ws.take j).any (missB n) = false) ∧ Below w.heap.size w wr) (fun iv _ => m - (intOf iv).toNat)
  case atStart => exact ⟨0, by omega, rfl, Lib.hid rfl, Below.refl _ _⟩
  case round =>
    obtain ⟨j, hj, rfl, HA, hbr⟩ := hrel
    by_cases ha : j < m
    · have ha1 : (j:Int) < m := by omega
      have hjl : j < ws.length := by rw [HML.out]; exact ha
      obtain ⟨b1, o1, rfl, hc1, hmm1, hh1, hl1, HR1⟩ := Rd.chunk Wr.c HR.out HWC.out (by decide) ha
      have HRG := Lib.hid (Rd.rangeLater (HR1 j hjl) hh1 hbr)
      have HSX := Lib.hid (HS.out _ (List.getElem_mem hjl))
      have HAN := Lib.hid (any_upto (missB n) ws hjl HA.out)
      have HCM := Lib.hid (cmissing bx ps n cs vw ws[j] wr (row_later HB.out hbr hbl) HSX.out hn)
      generalize ws[j] = x at *
      clear HR1 hl1
      cases hq : missB n x
      all_goals (rw [hq] at HCM HAN; clear hq)
      · go_wp2_with (first | (refine load_wr rfl (.tmp 14) rfl b1 (o1 + j * 36) rfl x HSX.out HRG.out ?_) | (go_at_call 41; refine HCM.out.mono ?_; rintro e w2 ⟨rfl, hb2⟩))
        go_roundw
        case rel => exact ⟨j + 1, by omega, by go_num, HAN, below_trans hbr hb2⟩
        case measure => simp [intOf]; omega
      · go_wp2_with (first | (refine load_wr rfl (.tmp 14) rfl b1 (o1 + j * 36) rfl x HSX.out HRG.out ?_) | (go_at_call 41; refine HCM.out.mono ?_; rintro e w2 ⟨rfl, hb2⟩))
        go_ret
        exact ⟨⟨(j : Int), rfl, by rw [any_of_take _ _ _ HAN.out]; simp⟩, below_trans hbr hb2⟩
    · obtain rfl : m = j := by omega
      have HAE : Hid (ws.any (missB n) = false) := Lib.hid (by have h := HA.out; rwa [List.take_of_length_le (by rw [HML.out]; omega)] at h)
      go_wp2_with fail
      go_ret
      exact ⟨⟨-1, rfl, by rw [HAE.out]; rfl⟩, hbr⟩
theorem ccontains (bx : Nat) (ps : Option Addr) (n cs : Nat) (vw : Value) (p : Option Addr) (m c : Nat) (ws : List Wr) (w : World) (hb : w.heap[bx]? = some (.cells #[.slice ps n cs, vw] 28 (0, 0))) (hs : ∀ x ∈ ws, Sec x.s) (hn : n ≤ 1000)
    (h : Rd w 36 (.slice p m c) m (wrsC ws)) (hm : m ≤ 1000) :
    Calls Try.prog 43 #[.slice p m c, missV bx] w fun e w' => e = .returned (.bool (ws.any (missB n))) ∧ Below w.heap.size w w' := by
  have HI := Lib.hid (cindex bx ps n cs vw p m c ws w hb hs hn h hm)
  clear hb hs h
  unfold missV at *
  go_enter Try.func43, Try.ntmps43
  go_wp2_with (go_at_call 67; refine HI.out.mono ?_; rintro e w2 ⟨⟨r, rfl, hr⟩, hb2⟩; have HR := Lib.hid hr; clear hr)
  go_ret
  exact ⟨ret_bool HR.out, hb2⟩
theorem store_own {ops : Array Oper} {rest : List Oper} {o : Oper} {a : Act} {w : World} {Q : Exit → Act → World → Prop} (hgd : o.guard = none) (x y : Operand) (ho : o.op = .store 62 x y) (hd : o.dst = none)
    (B g i n c : Nat) (hx : a.eval x = .pointer (some ⟨g, i * 32, none⟩)) (s : List Int) (hy : a.eval y = .agg (u8s s).toArray) (hl : Sec s) (ss : List (List Int)) (hs : Secs ss) (hi : i < ss.length) (hg : Own w B 62 32 (.slice (some ⟨g, 0, none⟩) n c) n (cellsOf ss))
    (h : ∀ w', Own w' B 62 32 (.slice (some ⟨g, 0, none⟩) n c) n (cellsOf (ss.set i s)) → Touch (· = g) w w' → wpList Try.prog ops Q rest a w') : wpList Try.prog ops Q (o :: rest) a w :=
  wpList_plain hgd fun K hK => by
    have hw : Region.wanted o (yielded ops a.tmps) = true := by simp [Region.wanted, hgd]
    have := step_store_own (Q := Q) (F := False) (K := K) hw x y ho B g i n c hx s hy hl ss hs hi hg (fun w' h1 h2 => by rw [hd]; exact hK _ _ (h w' h1 h2))
    rwa [if_pos hw] at this
def imgIn (w : World) (ps : Option Addr) (n cs : Nat) (pw : Option Addr) (m cw : Nat) (ss : List (List Int)) (ws : List Wr) : Prop :=
  Rd w 32 (.slice ps n cs) n (cellsOf ss) ∧ Secs ss ∧ ss.length = n ∧ n ≤ 1000 ∧ Rd w 36 (.slice pw m cw) m (wrsC ws) ∧ (∀ x ∈ ws, Sec x.s) ∧ m ≤ 1000
set_option maxRecDepth 100000 in
set_option maxHeartbeats 3200000 in
theorem cimage (c : Nat) (ps : Option Addr) (n cs : Nat) (pw : Option Addr) (m cw : Nat) (ss : List (List Int)) (ws : List Wr) (w : World) (hc : c < 18446744073709551616) (hi : imgIn w ps n cs pw m cw ss ws) :
    Calls Try.prog 14 #[stV ps n cs pw m cw, .int .u64 (c : Int)] w (ImgDone c ss ws n w) := by
  obtain ⟨h, hss, hsl, hn, hw, hws, hm⟩ := hi
  have HR := Lib.hid h
  have HW := Lib.hid hw
  have HWC := Lib.hid fun x hx => Wr.c_len (hws x hx)
  have hml : ws.length = m := Rd.count Wr.c hw (fun x hx => Wr.c_len (hws x hx)) (by decide)
  have HML := Lib.hid hml
  have HSS := Lib.hid hss
  have HSL := Lib.hid hsl
  have HS := Lib.hid hws
  have HC := Lib.hid hc
  have hm1 : (m : Int) ≤ 1000 := by omega
  have hn1 : (n : Int) ≤ 1000 := by omega
  have HAL := Lib.hid fun w' (hb : Below w.heap.size w w') => callowed c ps n cs pw m cw ws w' hc hws (hw.later hb) hm
  obtain ⟨a, ha⟩ : ∃ a, alB c (eps ws) = a := ⟨_, rfl⟩
  obtain ⟨b, hb⟩ : ∃ b, ws.any (missB n) = b := ⟨_, rfl⟩
  have HAA := Lib.hid ha
  have HBB := Lib.hid hb
  have HIO : Hid (imgOk c ws n = (a && !b)) := Lib.hid (by rw [imgOk, ha, hb])
  rw [ha] at HAL
  clear h hw hml hss hsl hws hc ha hb
  have HB1 : Hid (Below w.heap.size w (w.alloc (.cells #[.slice ps n cs, .slice pw m cw] 28))) := Lib.hid (below_alloc (Below.refl _ _) _)
  have HROW : Hid (∀ w2, Below (w.alloc (.cells #[.slice ps n cs, .slice pw m cw] 28)).heap.size (w.alloc (.cells #[.slice ps n cs, .slice pw m cw] 28)) w2 → w2.heap[w.heap.size]? = some (.cells #[.slice ps n cs, .slice pw m cw] 28 (0, 0)) ∧ Below w.heap.size w w2) := Lib.hid (fun w2 hb2 =>
    ⟨row_later (heap_alloc_new _ _) hb2 (by rw [size_alloc]; omega), (below_alloc (Below.refl _ w) _).trans (hb2.mono (by rw [size_alloc]; omega))⟩)
  have HCT := Lib.hid fun w2 (hrow : w2.heap[w.heap.size]? = some (.cells #[.slice ps n cs, .slice pw m cw] 28 (0, 0))) (hb2 : Below w.heap.size w w2) => ccontains w.heap.size ps n cs (.slice pw m cw) pw m cw ws w2 hrow HS.out hn (HW.out.later hb2) hm
  rw [HBB.out] at HCT
  unfold missV at HCT
  unfold stV at *
  cases a with
  | false =>
    go_enter Try.func14, Try.ntmps14
    go_wp2_with (go_at_call 17; refine (HAL.out _ HB1.out).mono ?_; rintro e w2 ⟨rfl, hb2⟩)
    go_ret2
    exact ⟨(HROW.out _ hb2).2, Or.inl ⟨HIO.out, rfl⟩⟩
  | true =>
    cases b with
    | true =>
      go_enter Try.func14, Try.ntmps14
      go_wp2_with (first | (go_at_call 17; refine (HAL.out _ HB1.out).mono ?_; rintro e w2 ⟨rfl, hb2⟩; have HRW := Lib.hid (HROW.out w2 hb2); clear hb2; have cc1 := cell_row HRW.out.1 1 _ rfl) | (go_at_call 43; refine (HCT.out _ HRW.out.1 HRW.out.2).mono ?_; rintro e w3 ⟨rfl, hb3⟩))
      go_ret2
      exact ⟨below_trans HRW.out.2 hb3, Or.inl ⟨HIO.out, rfl⟩⟩
    | false =>
      have HMS : Hid (∀ x ∈ ws, missB n x = false) := Lib.hid (fun x hx => by
        have := HBB.out
        rw [List.any_eq_false] at this
        simpa using this x hx)
      have HCS := Lib.hid fun w3 (hb3 : Below w.heap.size w w3) => clone_secs ps n cs (cellsOf ss) w3 (HR.out.later hb3) (one_ints .u8 _) hn
      go_enter Try.func14, Try.ntmps14
      go_wp2_with (first | (go_at_call 17; refine (HAL.out _ HB1.out).mono ?_; rintro e w2 ⟨rfl, hb2⟩; have HRW := Lib.hid (HROW.out w2 hb2); clear hb2; have cc1 := cell_row HRW.out.1 1 _ rfl) | (go_at_call 43; refine (HCT.out _ HRW.out.1 HRW.out.2).mono ?_; rintro e w3 ⟨rfl, hb3⟩; have hbw3 := below_trans HRW.out.2 hb3; have HRW3 := Lib.hid (row_later HRW.out.1 hb3 (Array.getElem?_eq_some_iff.1 HRW.out.1).1); have cd0 := cell_row HRW3.out 0 _ rfl; clear hb3) | (go_at_call 36; refine (HCS.out _ hbw3).mono ?_; rintro e w4 ⟨p4, c4, rfl, ho4, hb4⟩; have HO4 := Lib.hid ho4; have hbw4 := below_trans hbw3 hb4; have HRW4 := Lib.hid (row_later HRW3.out hb4 (Array.getElem?_eq_some_iff.1 HRW3.out).1); have ce1 := cell_row HRW4.out 1 _ rfl; have HS34 := Lib.hid hbw3.size; clear ho4 hb4))
      have hbs34 := HS34.out
      have HO0 : Hid (Own w4 w.heap.size 62 32 (.slice p4 n c4) n (cellsOf (imgUpto c ws ss 0))) := Lib.hid (own_base HO4.out hbs34)
      have hp4 : ∀ g, p4 = some ⟨g, 0, none⟩ → w.heap.size < g ∧ g < w4.heap.size := fun g hg => by
        subst hg
        have := own_block HO4.out
        have := (Array.getElem?_eq_some_iff.1 HRW3.out).1
        omega
      have HP4 := Lib.hid hp4
      clear HO4 hp4 HRW HRW3 hbw3 HS34 hbs34 cd0 cc1 HCT HAL HCS HROW HB1
      go_loopw [27] (fun iv wr => ∃ (j : Nat), j ≤ m ∧ iv = .int .i64 (j : Int) ∧ Hid (Own wr w.heap.size 62 32 (.slice p4 n c4) n (cellsOf (imgUpto c ws ss j))) ∧ Below w.heap.size w wr) (fun iv _ => m - (intOf iv).toNat)
      case atStart => exact ⟨0, by omega, rfl, HO0, hbw4⟩
      case round =>
        clear HO0 hbw4
        obtain ⟨j, hj, rfl, HO, hbr⟩ := hrel
        by_cases ha : j < m
        · have ha1 : (j:Int) < m := by omega
          have hjl : j < ws.length := by rw [HML.out]; exact ha
          obtain ⟨b1, o1, rfl, hc1, hmm1, hh1, hl1, HR1⟩ := Rd.chunk Wr.c HW.out HWC.out (by decide) ha
          have HRG := Lib.hid (Rd.rangeLater (HR1 j hjl) hh1 hbr)
          have HSX := Lib.hid (HS.out _ (List.getElem_mem hjl))
          have HIS := Lib.hid (imgUpto_snoc c ws ss j hjl)
          have HIC := Lib.hid (imgUpto_secs c ws ss HSS.out HS.out j fun k hk _ => by rw [HSL.out]; exact HMS.out _ (List.getElem_mem hk))
          have HIL : Hid ((imgUpto c ws ss j).length = n) := Lib.hid (by rw [imgUpto_len, HSL.out])
          have hmx := HMS.out _ (List.getElem_mem hjl)
          rw [missB, Bool.not_eq_false', decide_eq_true_eq] at hmx
          generalize ws[j] = x at *
          obtain ⟨kp, hkp⟩ := Int.eq_ofNat_of_zero_le hmx.1
          have hkn : kp < n := by have := hmx.2; omega
          have hkn1 : (kp : Int) < n := by omega
          have HKP := Lib.hid hkp
          obtain ⟨g, hg⟩ := own_some HO.out (by omega)
          subst hg
          have hgg := HP4.out g rfl
          have hgl := (own_block HO.out).2
          obtain ⟨d, hd⟩ : ∃ d, fate c (j : Int) = d := ⟨_, rfl⟩
          have HFT := Lib.hid fun w' => fate_of c (j : Int) d w' HC.out hd
          have hst : imgStep c (imgUpto c ws ss j) j x = if d = 1 then (imgUpto c ws ss j).set kp x.s else if d = 2 then (imgUpto c ws ss j).set kp (tornOf ((imgUpto c ws ss j).getD kp []) x.s) else imgUpto c ws ss j := by
            rw [imgStep, hd, hkp]; rfl
          have HST := Lib.hid hst
          clear HR1 hl1 hmx hkp hst hd
          by_cases h1 : d = 1
          · have HST1 : Hid (imgUpto c ws ss (j + 1) = (imgUpto c ws ss j).set kp x.s) := Lib.hid (by rw [HIS.out, HST.out, if_pos h1])
            subst h1
            clear HST
            go_wp2_with (first | (refine load_wr rfl (.tmp 30) rfl b1 (o1 + j * 36) rfl x HSX.out HRG.out ?_) | (refine store_wr rfl _ _ rfl rfl wr.heap.size x w0 rfl rfl HSX.out sec_zero (atW_new wr) ?_; intro w5 hx5 hb5; have hb5r := (below_alloc (Below.refl _ wr) _).trans hb5; have HO5 := Lib.hid (own_later HO.out hb5r); have hb5w := below_trans hbr hb5r; obtain ⟨cx0, rx1, _⟩ := AtW.parts hx5 HSX.out; rw [HKP.out] at cx0; have HX1 := Lib.hid rx1; have HLT5 := Lib.hid (Array.getElem?_eq_some_iff.1 hx5).1; clear hb5 hb5r rx1 hx5) | (go_at_call 44; refine (HFT.out _).mono ?_; rintro e w6 ⟨rfl, rfl⟩) | (refine load_mid rfl (.tmp 40) rfl wr.heap.size 1 rfl x.s HSX.out.1 HX1.out ?_) | (refine store_own rfl _ _ rfl rfl w.heap.size g kp n c4 rfl x.s rfl HSX.out _ HIC.out (by rw [HIL.out]; exact hkn) HO5.out ?_; intro w7 ho7 ht7; have HO7 := Lib.hid ho7; have hb7 := hb5w.trans (ht7.below hb5w.size (fun k hk => by rw [hk]; omega)); clear ho7 ht7))
            refine ⟨⟨j + 1, by omega, by go_num, Lib.hid (by rw [HST1.out]; exact HO7.out), hb7⟩, by simp [intOf]; omega⟩
          · by_cases h2 : d = 2
            · have HST1 : Hid (imgUpto c ws ss (j + 1) = (imgUpto c ws ss j).set kp (tornOf ((imgUpto c ws ss j).getD kp []) x.s)) := Lib.hid (by rw [HIS.out, HST.out, if_neg h1, if_pos h2])
              have hold := secs_getD HIC.out (i := kp) (by rw [HIL.out]; exact hkn)
              obtain ⟨old, hoe⟩ : ∃ old, (imgUpto c ws ss j).getD kp [] = old := ⟨_, rfl⟩
              rw [hoe] at HST1 hold
              have HOE := Lib.hid hoe
              have HOLD := Lib.hid hold
              subst h2
              clear HST h1 hoe hold
              go_wp2_with (first | (refine load_wr rfl (.tmp 30) rfl b1 (o1 + j * 36) rfl x HSX.out HRG.out ?_) | (refine store_wr rfl _ _ rfl rfl wr.heap.size x w0 rfl rfl HSX.out sec_zero (atW_new wr) ?_; intro w5 hx5 hb5; have hb5r := (below_alloc (Below.refl _ wr) _).trans hb5; have HO5 := Lib.hid (own_later HO.out hb5r); have hb5w := below_trans hbr hb5r; obtain ⟨cx0, rx1, _⟩ := AtW.parts hx5 HSX.out; rw [HKP.out] at cx0; have HX1 := Lib.hid rx1; have HLT5 := Lib.hid (Array.getElem?_eq_some_iff.1 hx5).1; clear hb5 hb5r rx1 hx5) | (go_at_call 44; refine (HFT.out _).mono ?_; rintro e w6 ⟨rfl, rfl⟩))
              have HOR : Hid (w5.rangeAt g (kp * 32) (u8s old)) := Lib.hid (by
                obtain ⟨b, off, hbo, _, _, _, hl, hr⟩ := row_at HO5.out.rd HIC.out hkn
                cases hbo
                have := hr kp (by rw [HIL.out]; exact hkn)
                rw [Nat.zero_add] at this
                rw [← HOE.out, show (imgUpto c ws ss j).getD kp [] = (imgUpto c ws ss j)[kp]'(by rw [HIL.out]; exact hkn) by simp [List.getD, show kp < (imgUpto c ws ss j).length by rw [HIL.out]; exact hkn]]
                exact this)
              have hg5 : g < w5.drew.heap.size := Nat.lt_of_lt_of_le hgl (by have := HLT5.out; show wr.heap.size ≤ w5.heap.size; omega)
              have hx5 : wr.heap.size < w5.drew.heap.size := HLT5.out
              have CX0 := Lib.hid cx0
              refine wp_region_last (S := ext w5.drew) 12 (by kernel_rfl) (Below.refl _ _) (fun hH0 => ?_)
              refine wpAnyL_take (i := 0) (oi := { dst := some 45, op := Op.move (Operand.tmp 7), type := 22, pos := "crash.go:132", after := #[], guard := none }) (v := ?_) rfl (by kernel_rfl) (by kernel_rfl) (by kernel_rfl) (by kernel_rfl) (fun _ _ _ h => h) (Or.inl ⟨by rfl, ?_⟩) (by assumption) ?_
              rotate_left
              · (intro w' hSw; go_simp; try with_reducible rfl)
              try simp only [Act.put, List.setIfInBounds_toArray, List.set_cons_zero, List.set_cons_succ]
              refine wpAnyL_take (i := 1) (oi := { dst := some 46, op := Op.fieldAddr 79 (Operand.tmp 9) 0, type := 0, pos := "crash.go:132", after := #[], guard := none }) (v := ?_) rfl (by kernel_rfl) (by kernel_rfl) (by kernel_rfl) (by kernel_rfl) (fun _ _ _ h => h) (Or.inl ⟨by rfl, ?_⟩) (by assumption) ?_
              rotate_left
              · (intro w' hSw; go_simp; try with_reducible rfl)
              try simp only [Act.put, List.setIfInBounds_toArray, List.set_cons_zero, List.set_cons_succ]
              refine' wpAnyL_take (i := 2) (oi := { dst := some 47, op := Op.load 3 (Operand.tmp 46), type := 3, pos := "crash.go:132", after := #[{ on := 1, ground := Ground.data }], guard := none }) (v := _) rfl (by kernel_rfl) (by kernel_rfl) (by kernel_rfl) (by kernel_rfl) (fun _ _ _ h => h) (ld_cell (by rfl) 3 _ und_int rfl _ rfl wr.heap.size 0 rfl (.int .i64 (kp : Int)) (fun w' hw => (Below.cell hw (p := ⟨wr.heap.size, 0, none⟩) hx5).trans CX0.out)) (by assumption) ?_
              try simp only [Act.put, List.setIfInBounds_toArray, List.set_cons_zero, List.set_cons_succ]
              refine wpAnyL_take (i := 3) (oi := { dst := some 48, op := Op.move (Operand.tmp 7), type := 22, pos := "crash.go:132", after := #[], guard := none }) (v := ?_) rfl (by kernel_rfl) (by kernel_rfl) (by kernel_rfl) (by kernel_rfl) (fun _ _ _ h => h) (Or.inl ⟨by rfl, ?_⟩) (by assumption) ?_
              rotate_left
              · (intro w' hSw; go_simp; try with_reducible rfl)
              try simp only [Act.put, List.setIfInBounds_toArray, List.set_cons_zero, List.set_cons_succ]
              refine wpAnyL_take (i := 4) (oi := { dst := some 49, op := Op.fieldAddr 79 (Operand.tmp 9) 0, type := 0, pos := "crash.go:132", after := #[], guard := none }) (v := ?_) rfl (by kernel_rfl) (by kernel_rfl) (by kernel_rfl) (by kernel_rfl) (fun _ _ _ h => h) (Or.inl ⟨by rfl, ?_⟩) (by assumption) ?_
              rotate_left
              · (intro w' hSw; go_simp; try with_reducible rfl)
              try simp only [Act.put, List.setIfInBounds_toArray, List.set_cons_zero, List.set_cons_succ]
              refine' wpAnyL_take (i := 5) (oi := { dst := some 50, op := Op.load 3 (Operand.tmp 49), type := 3, pos := "crash.go:132", after := #[{ on := 4, ground := Ground.data }], guard := none }) (v := _) rfl (by kernel_rfl) (by kernel_rfl) (by kernel_rfl) (by kernel_rfl) (fun _ _ _ h => h) (ld_cell (by rfl) 3 _ und_int rfl _ rfl wr.heap.size 0 rfl (.int .i64 (kp : Int)) (fun w' hw => (Below.cell hw (p := ⟨wr.heap.size, 0, none⟩) hx5).trans CX0.out)) (by assumption) ?_
              try simp only [Act.put, List.setIfInBounds_toArray, List.set_cons_zero, List.set_cons_succ]
              refine wpAnyL_take (i := 6) (oi := { dst := some 51, op := Op.indexAddr 22 (Operand.tmp 48) (Operand.tmp 50), type := 0, pos := "crash.go:132", after := #[{ on := 3, ground := Ground.data }, { on := 5, ground := Ground.data }], guard := none }) (v := ?_) rfl (by kernel_rfl) (by kernel_rfl) (by kernel_rfl) (by kernel_rfl) (fun _ _ _ h => h) (Or.inl ⟨by rfl, ?_⟩) (by assumption) ?_
              rotate_left
              · (intro w' hSw; go_simp; try with_reducible rfl)
              try simp only [Act.put, List.setIfInBounds_toArray, List.set_cons_zero, List.set_cons_succ]
              refine' wpAnyL_take (i := 7) (oi := { dst := some 52, op := Op.load 62 (Operand.tmp 51), type := 62, pos := "crash.go:132", after := #[{ on := 6, ground := Ground.data }], guard := none }) (v := _) rfl (by kernel_rfl) (by kernel_rfl) (by kernel_rfl) (by kernel_rfl) (fun _ _ _ h => h) (ld_sec (by rfl) _ rfl g (kp * 32) rfl old HOLD.out.1 (fun w' hw => Rd.rangeLater (w := w5.drew) HOR.out hg5 hw)) (by assumption) ?_
              try simp only [Act.put, List.setIfInBounds_toArray, List.set_cons_zero, List.set_cons_succ]
              refine wpAnyL_take (i := 8) (oi := { dst := some 53, op := Op.fieldAddr 79 (Operand.tmp 9) 1, type := 0, pos := "crash.go:132", after := #[], guard := none }) (v := ?_) rfl (by kernel_rfl) (by kernel_rfl) (by kernel_rfl) (by kernel_rfl) (fun _ _ _ h => h) (Or.inl ⟨by rfl, ?_⟩) (by assumption) ?_
              rotate_left
              · (intro w' hSw; go_simp; try with_reducible rfl)
              try simp only [Act.put, List.setIfInBounds_toArray, List.set_cons_zero, List.set_cons_succ]
              refine' wpAnyL_take (i := 9) (oi := { dst := some 54, op := Op.load 62 (Operand.tmp 53), type := 62, pos := "crash.go:132", after := #[{ on := 8, ground := Ground.data }], guard := none }) (v := _) rfl (by kernel_rfl) (by kernel_rfl) (by kernel_rfl) (by kernel_rfl) (fun _ _ _ h => h) (ld_sec (by rfl) _ rfl wr.heap.size 1 rfl x.s HSX.out.1 (fun w' hw => Rd.rangeLater (w := w5.drew) HX1.out hx5 hw)) (by assumption) ?_
              try simp only [Act.put, List.setIfInBounds_toArray, List.set_cons_zero, List.set_cons_succ]
              -- 10
              refine wpAnyL_ready (rs := [10]) (by kernel_rfl) (by simp) ?_
              refine AllReadyL.cons (o := { dst := some 55, op := Op.call { callee := Callee.value (Operand.func 45), args := #[Operand.tmp 52, Operand.tmp 54], argTypes := #[62, 62] }, type := 62, pos := "crash.go:132", after := #[{ on := 7, ground := Ground.data }, { on := 9, ground := Ground.data }], guard := none }) rfl (fun K hK => ?_) AllReadyL.nil
              go_simp
              refine (torn_is old x.s _ HOLD.out HSX.out).mono ?_
              rintro e v10 ⟨rfl, hb10⟩
              have HB10 := Lib.hid hb10
              clear hb10
              dsimp only
              refine hK.out _ _ (Or.inr HB10.out) (fun hHeld => ?_)
              clear hK K
              try simp only [Act.put, List.setIfInBounds_toArray, List.set_cons_zero, List.set_cons_succ]
              refine wpAnyL_take (i := 11) (oi := { dst := some 56, op := Op.indexAddr 22 (Operand.tmp 45) (Operand.tmp 47), type := 0, pos := "crash.go:132", after := #[{ on := 0, ground := Ground.data }, { on := 2, ground := Ground.data }, { on := 0, ground := Ground.phase }, { on := 1, ground := Ground.phase }, { on := 2, ground := Ground.phase }, { on := 3, ground := Ground.phase }, { on := 4, ground := Ground.phase }, { on := 5, ground := Ground.phase }, { on := 6, ground := Ground.phase }, { on := 7, ground := Ground.phase }, { on := 8, ground := Ground.phase }, { on := 9, ground := Ground.phase }, { on := 10, ground := Ground.phase }], guard := none }) (v := ?_) rfl (by kernel_rfl) (by kernel_rfl) (by kernel_rfl) (by kernel_rfl) (fun _ _ _ h => h) (Or.inl ⟨by rfl, ?_⟩) (by assumption) ?_
              rotate_left
              · (intro w' hSw; go_simp; try with_reducible rfl)
              try simp only [Act.put, List.setIfInBounds_toArray, List.set_cons_zero, List.set_cons_succ]
              -- 12
              refine wpAnyL_ready (rs := [12]) (by kernel_rfl) (by simp) ?_
              refine AllReadyL.cons (o := { dst := none, op := Op.store 62 (Operand.tmp 56) (Operand.tmp 55), type := 0, pos := "crash.go:132", after := #[{ on := 11, ground := Ground.data }, { on := 10, ground := Ground.data }, { on := 10, ground := Ground.chain }, { on := 0, ground := Ground.phase }, { on := 1, ground := Ground.phase }, { on := 2, ground := Ground.phase }, { on := 3, ground := Ground.phase }, { on := 4, ground := Ground.phase }, { on := 5, ground := Ground.phase }, { on := 6, ground := Ground.phase }, { on := 7, ground := Ground.phase }, { on := 8, ground := Ground.phase }, { on := 9, ground := Ground.phase }, { on := 10, ground := Ground.phase }], guard := none }) rfl (fun K hK => ?_) AllReadyL.nil
              refine step_store_own (by rfl) _ _ (by rfl) w.heap.size g kp n c4 (by rfl) (tornOf old x.s) (by rfl) (torn_secs HOLD.out HSX.out) _ HIC.out (by rw [HIL.out]; exact hkn) (own_later (w := w5.drew) HO5.out HB10.out) ?_
              intro w12 ho12 ht12
              have HO12 := Lib.hid ho12
              have HT12 := Lib.hid ht12
              clear ho12 ht12
              dsimp only
              refine hK.out _ _ (Or.inl rfl) (fun hHeld => ?_)
              clear hK K
              try simp only [Act.put, List.setIfInBounds_toArray, List.set_cons_zero, List.set_cons_succ]
              refine wpAnyL_done (by kernel_rfl) ?_ _
              clear hHeld hH0
              have hb12 : Below w.heap.size w w12 := (hb5w.drew.trans (HB10.out.mono hb5w.size)).trans (HT12.out.below (Nat.le_trans hb5w.size HB10.out.size) (fun k hk => by rw [hk]; omega))
              go_wp2_with fail
              refine ⟨⟨j + 1, by omega, by go_num, Lib.hid (by rw [HST1.out]; exact HO12.out), hb12⟩, by simp [intOf]; omega⟩
            · have HST1 : Hid (imgUpto c ws ss (j + 1) = imgUpto c ws ss j) := Lib.hid (by rw [HIS.out, HST.out, if_neg h1, if_neg h2])
              have hd1 : (d == 1) = false := by simpa using h1
              have hd2 : (d == 2) = false := by simpa using h2
              clear HST h1 h2
              go_wp2_with (first | (refine load_wr rfl (.tmp 30) rfl b1 (o1 + j * 36) rfl x HSX.out HRG.out ?_) | (refine store_wr rfl _ _ rfl rfl wr.heap.size x w0 rfl rfl HSX.out sec_zero (atW_new wr) ?_; intro w5 hx5 hb5; have hb5r := (below_alloc (Below.refl _ wr) _).trans hb5; have HO5 := Lib.hid (own_later HO.out hb5r); have hb5w := below_trans hbr hb5r; obtain ⟨cx0, rx1, _⟩ := AtW.parts hx5 HSX.out; rw [HKP.out] at cx0; have HX1 := Lib.hid rx1; have HLT5 := Lib.hid (Array.getElem?_eq_some_iff.1 hx5).1; clear hb5 hb5r rx1 hx5) | (go_at_call 44; refine (HFT.out _).mono ?_; rintro e w6 ⟨rfl, rfl⟩))
              refine ⟨⟨j + 1, by omega, by go_num, Lib.hid (by rw [HST1.out]; exact HO5.out), hb5w⟩, by simp [intOf]; omega⟩
        · obtain rfl : m = j := by omega
          go_wp2_with fail
          go_ret2
          refine ⟨hbr, Or.inr ⟨HIO.out, p4, c4, rfl, ?_⟩⟩
          rw [HML.out]
          exact HO.out
end Go.Proofs.Ytpnepooobmbfbaa.dsk
/- What the allowed choices are, and what the reference's All gives. -/
namespace Go.Proofs.Ytpnepooobmbfbaa.dsk
set_option maxRecDepth 100000
open Go.ChangeShapes Go.WideShapes Go.ChangeAt Go.RowKit
open Go.Proofs.Ytpnepooobmbfbaa.rows
open Go.Proofs.Ytpnepooobmbfbaa.sec
open Go.Proofs.Ytpnepooobmbfbaa.cho (IntsIn allowed_any rallowed_any fate_of rfate_any count_any rcount_any nth_any rnth_any)
open Go.Proofs.Ytpnepooobmbfbaa.choMath
set_option linter.unusedVariables false
set_option linter.unusedSimpArgs false

theorem elem_u64s : Elem 47 40 1 8 (.int .u64 0) := ⟨Try.underlying47, by kernel_rfl, by decide, by decide, by decide⟩
def u64s (l : List Nat) : List Value := l.map fun c : Nat => Value.int .u64 (c : Int)
def accs (ws : List Wr) (t : Bool) (k : Nat) : List Nat := ((List.range k).map fun i => nth i (ws.length : Int) t).filter fun c => alB c (eps ws)
theorem accs_hit {ws : List Wr} {t : Bool} {k : Nat} (h : alB (nth k (ws.length : Int) t) (eps ws) = true) : accs ws t (k + 1) = accs ws t k ++ [nth k (ws.length : Int) t] := by
  simp [accs, List.range_succ, h]
theorem accs_miss {ws : List Wr} {t : Bool} {k : Nat} (h : alB (nth k (ws.length : Int) t) (eps ws) = false) : accs ws t (k + 1) = accs ws t k := by
  simp [accs, List.range_succ, h]
theorem accs_len (ws : List Wr) (t : Bool) (k : Nat) : (accs ws t k).length ≤ k := by
  have := List.length_filter_le (fun c => alB c (eps ws)) ((List.range k).map fun i => nth i (ws.length : Int) t)
  simpa [accs] using this
theorem accs_pre (ws : List Wr) (t : Bool) {k j : Nat} (h : k ≤ j) : accs ws t k <+: accs ws t j := by
  induction j with
  | zero => obtain rfl : k = 0 := by omega
            exact List.prefix_refl _
  | succ j ih =>
    rcases Nat.eq_or_lt_of_le h with rfl | h
    · exact List.prefix_refl _
    · refine (ih (by omega)).trans ?_
      cases hq : alB (nth j (ws.length : Int) t) (eps ws)
      · rw [accs_miss hq]; exact List.prefix_refl _
      · rw [accs_hit hq]; exact List.prefix_append _ _
def cutAt (most : Int) (l : List Nat) : List Nat × Bool := if (l.length : Int) ≤ most ∨ l = [] then (l, true) else (l.take most.toNat, false)
theorem cut_all {most : Int} {l : List Nat} (h : (l.length : Int) ≤ most ∨ l = []) : cutAt most l = (l, true) := if_pos h
theorem cut_stop {most : Int} {l a : List Nat} {c : Nat} (h : (a.length : Int) ≤ most ∨ a = []) (hm : most ≤ a.length) (hp : a ++ [c] <+: l) : cutAt most l = (a, false) := by
  have hl := hp.length_le
  rw [List.length_append, List.length_singleton] at hl
  have hne : l ≠ [] := by intro e; rw [e] at hl; simp at hl
  rw [cutAt, if_neg (by simp [hne]; omega)]
  congr 1
  obtain ⟨r, rfl⟩ := hp
  have : most.toNat = a.length := by
    rcases h with h | h
    · omega
    · subst h; simp at hm ⊢; omega
  rw [this, List.append_assoc, List.take_left]
def allR (ws : List Wr) (t : Bool) (most : Int) : List Nat × Bool := if 8 < ws.length then ([], false) else cutAt most (accs ws t (cnt (ws.length : Int) t))
theorem cnt_small {m : Nat} (h : m ≤ 8) (t : Bool) : cnt (m : Int) t ≤ 6561 := by
  rw [cnt, if_pos (by omega), Int.toNat_natCast]
  have h1 : base t ≤ 3 := by cases t <;> decide
  have h2 : base t ^ m ≤ 3 ^ m := Nat.pow_le_pow_left h1 m
  have h3 : 3 ^ m ≤ 3 ^ 8 := Nat.pow_le_pow_right (by decide) h
  have : (3 : Nat) ^ 8 = 6561 := by decide
  omega
theorem ofl_pref_lt (g : Nat → Nat) (j : Nat) (hg : ∀ i, g i < 4) : ofl (pref g j) < 18446744073709551616 := ofl32 _ (pref_lt g j hg) (pref_len g j)
theorem nth_lt (k : Nat) (n : Int) (t : Bool) : nth k n t < 18446744073709551616 := by
  rw [nth]
  split
  · exact ofl_pref_lt _ _ fun i => (ng_lt k t i).2
  · decide
/-- what All answers -/
def AllDone (ws : List Wr) (t : Bool) (most : Int) (w : World) (e : Ending) (w' : World) : Prop :=
  Below w.heap.size w w' ∧ ∃ p c, e = .returned (.tuple #[.slice p (allR ws t most).1.length c, .bool (allR ws t most).2]) ∧ Own w' w.heap.size 40 1 (.slice p (allR ws t most).1.length c) (allR ws t most).1.length (u64s (allR ws t most).1)
def allIn (w : World) (pw : Option Addr) (m cw : Nat) (ws : List Wr) : Prop := Rd w 36 (.slice pw m cw) m (wrsC ws) ∧ (∀ x ∈ ws, Sec x.s) ∧ m ≤ 1000

end Go.Proofs.Ytpnepooobmbfbaa.dsk
/- A state in memory: the code's type and the reference's. -/
namespace Go.Proofs.Ytpnepooobmbfbaa.dsk
set_option maxRecDepth 100000
open Go.ChangeShapes Go.WideShapes Go.ChangeAt Go.RowKit
open Go.Proofs.Ytpnepooobmbfbaa.rows
open Go.Proofs.Ytpnepooobmbfbaa.sec
set_option linter.unusedVariables false
set_option linter.unusedSimpArgs false

theorem und_cst : Try.prog.underlying 28 = some (.struct (Try.prog.fieldsOf 28)) := by kernel_rfl
theorem info_cst : (Try.prog.info? 28).map (·.size) = some 2 := by kernel_rfl
theorem range_two {w : World} {b : Nat} {v1 v2 : Value} {t : TypeId} (h : w.heap[b]? = some (.cells #[v1, v2] t (0, 0))) : w.rangeAt b 0 [v1, v2] := fun i u hi => by
  rw [Nat.zero_add]
  exact cell_row h i u (by simpa using hi)
theorem ld_cst {ops : Array Oper} {S : World → Prop} {op : Oper} {a : Act} (hw : Region.wanted op (yielded ops a.tmps) = true) (x : Operand) (ho : op.op = .load 28 x)
    (b : Nat) (hx : a.eval x = .pointer (some ⟨b, 0, none⟩)) (v1 v2 : Value) (hS : ∀ w, S w → w.heap[b]? = some (.cells #[v1, v2] 28 (0, 0))) : YieldsIf Try.prog ops S op (.agg #[v1, v2]) a :=
  yieldsIf_load_mid hw _ x ho b 0 hx [v1, v2] _ (fun w h => range_two (hS w h)) und_cst rfl (by rw [info_cst]; rfl)
theorem ret_cst {fn : Func} {p q : Tmp} {R : Ending → World → Prop} {a : Act} {w : World} (h : fn.results = #[.cell p 28, .tmp q]) (g : Nat) (v1 v2 v : Value) (hp : a.tmps.getD p undef = .pointer (some ⟨g, 0, none⟩)) (hq : a.tmps.getD q undef = v) (hg : w.heap[g]? = some (.cells #[v1, v2] 28 (0, 0)))
    (hd : a.defers = []) (hR : R (.returned (.tuple #[.agg #[v1, v2], v])) w) : bodyPost Try.prog fn R .ret a w := by
  refine bodyPost_ret (v := .tuple #[.agg #[v1, v2], v]) ?_ hd hR
  have hp' : a.tmps[p]?.getD undef = .pointer (some ⟨g, 0, none⟩) := by simpa using hp
  have hq' : a.tmps[q]?.getD undef = v := by simpa using hq
  have hl := run_loadVar_row (P := Try.prog) w g _ 28 _ _ _ hg und_cst rfl (by rw [info_cst]; rfl)
  simp [results, h, hp', hq', asAddr, hl]
theorem load_cst {ops : Array Oper} {rest : List Oper} {o : Oper} {a : Act} {w : World} {Q : Exit → Act → World → Prop} (hgd : o.guard = none) (x : Operand) (ho : o.op = .load 28 x)
    (b : Nat) (hx : a.eval x = .pointer (some ⟨b, 0, none⟩)) (v1 v2 : Value) (hg : w.heap[b]? = some (.cells #[v1, v2] 28 (0, 0)))
    (h : wpList Try.prog ops Q rest (a.put o.dst (.agg #[v1, v2])) w) : wpList Try.prog ops Q (o :: rest) a w :=
  wpList_load_mid hgd 28 x ho b 0 hx [v1, v2] _ (range_two hg) und_cst rfl (by rw [info_cst]; rfl) h
theorem store_cst {ops : Array Oper} {rest : List Oper} {o : Oper} {a : Act} {w : World} {Q : Exit → Act → World → Prop} (hgd : o.guard = none) (x y : Operand) (ho : o.op = .store 28 x y) (hd : o.dst = none)
    (g : Nat) (v1 v2 u1 u2 : Value) (hx : a.eval x = .pointer (some ⟨g, 0, none⟩)) (hy : a.eval y = .agg #[v1, v2]) (h1 : v1.oneCell' = true) (h2 : v2.oneCell' = true) (hg : w.heap[g]? = some (.cells #[u1, u2] 28 (0, 0)))
    (h : ∀ w', w'.heap[g]? = some (.cells #[v1, v2] 28 (0, 0)) → Touch (· = g) w w' → wpList Try.prog ops Q rest a w') : wpList Try.prog ops Q (o :: rest) a w := by
  refine wpList_store_row hgd 28 x y ho g #[v1, v2] hx hy 28 _ hg (by rw [info_cst]; rfl) rfl (by simp [h1, h2]) ?_
  rw [hd]
  exact h _ (setRow_heap w g _ _ _ _ hg) ⟨rfl, rfl, rfl, by simp [World.setRow], fun k hk hn => setRow_other w g k _ hn⟩
end Go.Proofs.Ytpnepooobmbfbaa.dsk
