/- What the reference's Read gives. -/
import Derived.Test.YteobhljkjgocdaaDskFail
namespace Go.Proofs.Yteobhljkjgocdaa.dsk
open Go.ChangeShapes Go.WideShapes Go.ChangeAt Go.RowKit
open Go.Proofs.Yteobhljkjgocdaa.rows
open Go.Proofs.Yteobhljkjgocdaa.sec
set_option linter.unusedVariables false
set_option linter.unusedSimpArgs false

def lastOf (i : Int) (s : List Int) (ws : List Wr) : List Int := ws.foldl (fun s x => if x.pos = i then x.s else s) s
def readOf (st : St) (i : Nat) : List Int := lastOf i (st.safe.getD i []) st.wait
theorem lastOf_sec (i : Int) : ∀ (ws : List Wr) (s : List Int), Sec s → (∀ x ∈ ws, Sec x.s) → Sec (lastOf i s ws)
  | [], s, hs, _ => hs
  | x :: t, s, hs, h => by
    unfold lastOf
    rw [List.foldl_cons]
    refine lastOf_sec i t _ ?_ fun y hy => h y (List.mem_cons_of_mem _ hy)
    split
    · exact h x (List.mem_cons_self ..)
    · exact hs
theorem lastOf_snoc (i : Int) (s : List Int) (ws : List Wr) (j : Nat) (h : j < ws.length) : lastOf i s (ws.take (j + 1)) = if ws[j].pos = i then ws[j].s else lastOf i s (ws.take j) := by
  rw [List.take_succ_eq_append_getElem h, lastOf, List.foldl_append]
  rfl
theorem wr_range {w : World} {b o : Nat} {x : Wr} (h : w.rangeAt b o x.c) : w.cell? ⟨b, o, none⟩ = some (.int .i64 x.pos) ∧ w.rangeAt b (o + 1) (u8s x.s) := by
  refine ⟨by have := h 0 _ rfl; simpa using this, ?_⟩
  exact range_left (range_mid (k := 1) h)
set_option maxHeartbeats 1600000 in
theorem rread_no (S : Nat → Prop) (g : Nat) (st : St) (i : Int) (w : World) (h : RefIs w S g st) (hi : (Lit.int .i64 i).wf = true) (hl : st.safe.length ≤ 1000) (hn : i < 0 ∨ (0 ≤ i ∧ (st.safe.length : Int) ≤ i)) :
    Calls Try.prog 42 #[.pointer (some ⟨g, 0, none⟩), .int .i64 i] w fun e w' => e = .returned (.tuple #[agg zero32, .int .i64 1]) ∧ Below w.heap.size w w' := by
  obtain ⟨vs, vw, vl, vb, h⟩ := h
  have hx := wf_i64 hi
  obtain ⟨ps, cs, hvs⟩ := slice_of h.safe
  subst hvs
  have hlt := h.lt
  have c0 : w.cell? ⟨g, 0, none⟩ = some (.slice ps st.safe.length cs) := cell_row h.row 0 _ rfl
  generalize st.safe.length = n at *
  have hb0 := below_alloc (Below.refl w.heap.size w) (.cells (u8s zero32).toArray 35)
  rw [← lit_zero] at hb0
  have HB := Lib.hid hb0
  clear h hb0
  rcases hn with hn | ⟨hn, hn2⟩
  · have d0 : decide (i < 0) = true := by simpa using hn
    go_enter Try.func42, Try.ntmps42
    go_wp2_with ((refine store_at rfl _ _ rfl rfl w.heap.size zero32 zero32 rfl (congrArg Value.agg lit_zero) (by decide) (by decide) (at_lit w) ?_; intro w2 hA hB2 _; have A2 := Lib.hid hA; clear hA))
    exact ret_sec2 rfl w.heap.size _ _ rfl rfl (by decide) A2.out rfl ⟨rfl, HB.out.trans hB2⟩
  · have d0 : decide (i < 0) = false := by simp; omega
    have d1 : decide ((n:Int) ≤ i) = true := by simp; omega
    go_enter Try.func42, Try.ntmps42
    go_wp2_with ((refine store_at rfl _ _ rfl rfl w.heap.size zero32 zero32 rfl (congrArg Value.agg lit_zero) (by decide) (by decide) (at_lit w) ?_; intro w2 hA hB2 _; have A2 := Lib.hid hA; clear hA))
    exact ret_sec2 rfl w.heap.size _ _ rfl rfl (by decide) A2.out rfl ⟨rfl, HB.out.trans hB2⟩
set_option maxHeartbeats 1600000 in
theorem rread_yes (S : Nat → Prop) (g : Nat) (st : St) (i : Nat) (w : World) (h : RefIs w S g st) (hl : st.safe.length ≤ 1000) (hs : Secs st.safe) (hws : ∀ x ∈ st.wait, Sec x.s) (hwn : st.wait.length ≤ 1000) (hi : i < st.safe.length) :
    Calls Try.prog 42 #[.pointer (some ⟨g, 0, none⟩), .int .i64 (i:Int)] w fun e w' => e = .returned (.tuple #[agg (readOf st i), .int .i64 0]) ∧ Below w.heap.size w w' := by
  obtain ⟨vs, vw, vl, vb, h⟩ := h
  obtain ⟨ps, cs, hvs⟩ := slice_of h.safe
  subst hvs
  obtain ⟨pw, cw, hvw⟩ := slice_of h.wait
  subst hvw
  have hlt := h.lt
  have HROW := Lib.hid h.row
  have c0 : w.cell? ⟨g, 0, none⟩ = some (.slice ps st.safe.length cs) := cell_row h.row 0 _ rfl
  have HWT := Lib.hid h.wait
  obtain ⟨bs, os, rfl, hcs1, hcs2, hbs, hsl, HSR⟩ := row_at h.safe hs hi
  have HSI := Lib.hid (HSR i (by omega))
  have HS0 := Lib.hid (hs _ (List.getElem_mem (l := st.safe) hi))
  have hrd : readOf st i = lastOf i (st.safe[i]) st.wait := by rw [readOf, List.getD_eq_getElem?_getD, List.getElem?_eq_getElem hi]; rfl
  rw [hrd]
  have hn1 : (i:Int) < st.safe.length := by omega
  have hwc := fun x hx => Wr.c_len (hws x hx)
  have HWC := Lib.hid hwc
  have HWS := Lib.hid hws
  have hwl : (st.wait.length : Int) ≤ 1000 := by omega
  have hi0 : decide ((i:Int) < 0) = false := by simp
  have hd : decide ((st.safe.length : Int) ≤ i) = false := by simp; omega
  have hd' : decide (st.safe.length ≤ i) = false := by simp; omega
  generalize st.safe[i] = s0 at *
  clear h HSR hsl hs
  generalize st.safe.length = n at *
  obtain ⟨m, hm⟩ : ∃ m, st.wait.length = m := ⟨_, rfl⟩
  have HM := Lib.hid hm
  rw [hm] at HROW HWT hwl hwn
  have hb0 := below_alloc (below_alloc (Below.refl w.heap.size w) (.cells (u8s zero32).toArray 35)) (.cells (u8s zero32).toArray 35)
  rw [← lit_zero] at hb0
  have HB := Lib.hid hb0
  have HA4 : Hid (At ((w.alloc (.cells #[Value.int IntKind.u8 0, Value.int IntKind.u8 0, Value.int IntKind.u8 0, Value.int IntKind.u8 0, Value.int IntKind.u8 0, Value.int IntKind.u8 0, Value.int IntKind.u8 0, Value.int IntKind.u8 0, Value.int IntKind.u8 0, Value.int IntKind.u8 0, Value.int IntKind.u8 0, Value.int IntKind.u8 0, Value.int IntKind.u8 0, Value.int IntKind.u8 0, Value.int IntKind.u8 0, Value.int IntKind.u8 0, Value.int IntKind.u8 0, Value.int IntKind.u8 0, Value.int IntKind.u8 0, Value.int IntKind.u8 0, Value.int IntKind.u8 0, Value.int IntKind.u8 0, Value.int IntKind.u8 0, Value.int IntKind.u8 0, Value.int IntKind.u8 0, Value.int IntKind.u8 0, Value.int IntKind.u8 0, Value.int IntKind.u8 0, Value.int IntKind.u8 0, Value.int IntKind.u8 0, Value.int IntKind.u8 0, Value.int IntKind.u8 0] 35)).alloc (.cells #[Value.int IntKind.u8 0, Value.int IntKind.u8 0, Value.int IntKind.u8 0, Value.int IntKind.u8 0, Value.int IntKind.u8 0, Value.int IntKind.u8 0, Value.int IntKind.u8 0, Value.int IntKind.u8 0, Value.int IntKind.u8 0, Value.int IntKind.u8 0, Value.int IntKind.u8 0, Value.int IntKind.u8 0, Value.int IntKind.u8 0, Value.int IntKind.u8 0, Value.int IntKind.u8 0, Value.int IntKind.u8 0, Value.int IntKind.u8 0, Value.int IntKind.u8 0, Value.int IntKind.u8 0, Value.int IntKind.u8 0, Value.int IntKind.u8 0, Value.int IntKind.u8 0, Value.int IntKind.u8 0, Value.int IntKind.u8 0, Value.int IntKind.u8 0, Value.int IntKind.u8 0, Value.int IntKind.u8 0, Value.int IntKind.u8 0, Value.int IntKind.u8 0, Value.int IntKind.u8 0, Value.int IntKind.u8 0, Value.int IntKind.u8 0] 35)) w.heap.size zero32) := Lib.hid ((at_lit w).alloc _)
  have HA6 : Hid (At ((w.alloc (.cells #[Value.int IntKind.u8 0, Value.int IntKind.u8 0, Value.int IntKind.u8 0, Value.int IntKind.u8 0, Value.int IntKind.u8 0, Value.int IntKind.u8 0, Value.int IntKind.u8 0, Value.int IntKind.u8 0, Value.int IntKind.u8 0, Value.int IntKind.u8 0, Value.int IntKind.u8 0, Value.int IntKind.u8 0, Value.int IntKind.u8 0, Value.int IntKind.u8 0, Value.int IntKind.u8 0, Value.int IntKind.u8 0, Value.int IntKind.u8 0, Value.int IntKind.u8 0, Value.int IntKind.u8 0, Value.int IntKind.u8 0, Value.int IntKind.u8 0, Value.int IntKind.u8 0, Value.int IntKind.u8 0, Value.int IntKind.u8 0, Value.int IntKind.u8 0, Value.int IntKind.u8 0, Value.int IntKind.u8 0, Value.int IntKind.u8 0, Value.int IntKind.u8 0, Value.int IntKind.u8 0, Value.int IntKind.u8 0, Value.int IntKind.u8 0] 35)).alloc (.cells #[Value.int IntKind.u8 0, Value.int IntKind.u8 0, Value.int IntKind.u8 0, Value.int IntKind.u8 0, Value.int IntKind.u8 0, Value.int IntKind.u8 0, Value.int IntKind.u8 0, Value.int IntKind.u8 0, Value.int IntKind.u8 0, Value.int IntKind.u8 0, Value.int IntKind.u8 0, Value.int IntKind.u8 0, Value.int IntKind.u8 0, Value.int IntKind.u8 0, Value.int IntKind.u8 0, Value.int IntKind.u8 0, Value.int IntKind.u8 0, Value.int IntKind.u8 0, Value.int IntKind.u8 0, Value.int IntKind.u8 0, Value.int IntKind.u8 0, Value.int IntKind.u8 0, Value.int IntKind.u8 0, Value.int IntKind.u8 0, Value.int IntKind.u8 0, Value.int IntKind.u8 0, Value.int IntKind.u8 0, Value.int IntKind.u8 0, Value.int IntKind.u8 0, Value.int IntKind.u8 0, Value.int IntKind.u8 0, Value.int IntKind.u8 0] 35)) (w.heap.size + 1) zero32) := Lib.hid (by
    have := at_lit (w.alloc (.cells #[Value.int IntKind.u8 0, Value.int IntKind.u8 0, Value.int IntKind.u8 0, Value.int IntKind.u8 0, Value.int IntKind.u8 0, Value.int IntKind.u8 0, Value.int IntKind.u8 0, Value.int IntKind.u8 0, Value.int IntKind.u8 0, Value.int IntKind.u8 0, Value.int IntKind.u8 0, Value.int IntKind.u8 0, Value.int IntKind.u8 0, Value.int IntKind.u8 0, Value.int IntKind.u8 0, Value.int IntKind.u8 0, Value.int IntKind.u8 0, Value.int IntKind.u8 0, Value.int IntKind.u8 0, Value.int IntKind.u8 0, Value.int IntKind.u8 0, Value.int IntKind.u8 0, Value.int IntKind.u8 0, Value.int IntKind.u8 0, Value.int IntKind.u8 0, Value.int IntKind.u8 0, Value.int IntKind.u8 0, Value.int IntKind.u8 0, Value.int IntKind.u8 0, Value.int IntKind.u8 0, Value.int IntKind.u8 0, Value.int IntKind.u8 0] 35))
    rw [size_alloc] at this
    exact this)
  have HSI1 := Lib.hid (HSI.out : w.rangeAt bs (os + i * 32) (u8s s0))
  have HSI2 : Hid ((w.alloc (.cells #[Value.int IntKind.u8 0, Value.int IntKind.u8 0, Value.int IntKind.u8 0, Value.int IntKind.u8 0, Value.int IntKind.u8 0, Value.int IntKind.u8 0, Value.int IntKind.u8 0, Value.int IntKind.u8 0, Value.int IntKind.u8 0, Value.int IntKind.u8 0, Value.int IntKind.u8 0, Value.int IntKind.u8 0, Value.int IntKind.u8 0, Value.int IntKind.u8 0, Value.int IntKind.u8 0, Value.int IntKind.u8 0, Value.int IntKind.u8 0, Value.int IntKind.u8 0, Value.int IntKind.u8 0, Value.int IntKind.u8 0, Value.int IntKind.u8 0, Value.int IntKind.u8 0, Value.int IntKind.u8 0, Value.int IntKind.u8 0, Value.int IntKind.u8 0, Value.int IntKind.u8 0, Value.int IntKind.u8 0, Value.int IntKind.u8 0, Value.int IntKind.u8 0, Value.int IntKind.u8 0, Value.int IntKind.u8 0, Value.int IntKind.u8 0] 35)).rangeAt bs (os + i * 32) (u8s s0)) := Lib.hid (World.rangeAt_alloc HSI.out _)
  clear hb0 hrd hm hi hws hwc HSI
  go_enter Try.func42, Try.ntmps42
  go_wp2_with (first | (refine load_mid rfl (.tmp 25) rfl bs (os + i * 32) rfl s0 HS0.out.1 HSI2.out ?_) | (refine store_at rfl _ _ rfl rfl (w.heap.size + 1) s0 zero32 rfl rfl HS0.out.1 (by decide) HA6.out ?_; intro w1 hA hB hK; have A6 := Lib.hid hA; have A4 := Lib.hid (hK w.heap.size zero32 (by omega) HA4.out); clear hA hK))
  have hb1 : Below w.heap.size w w1 := HB.out.trans (hB.mono (by omega))
  clear HB HA4 HA6 HSI1 HSI2 hB
  have A60 : Hid (At w1 (w.heap.size + 1) (lastOf i s0 (st.wait.take 0))) := A6
  have hls : ∀ j, Sec (lastOf i s0 (st.wait.take j)) := fun j => lastOf_sec i _ s0 HS0.out fun x hx => HWS.out x (List.mem_of_mem_take hx)
  have HLS := Lib.hid hls
  clear hls
  go_loopw [7] (fun iv wr => ∃ (j : Nat), j ≤ m ∧ iv = .int .i64 (j : Int) ∧ Hid (At wr (w.heap.size + 1) (lastOf i s0 (st.wait.take j))) ∧ Hid (At wr w.heap.size zero32) ∧ Below w.heap.size w wr) (fun iv _ => m - (intOf iv).toNat)
  case atStart => exact ⟨0, by omega, rfl, A60, A4, hb1⟩
  case round =>
    clear A60 A6 A4 hb1 w1
    obtain ⟨j, hj, rfl, A6, A4, hbr⟩ := hrel
    have c1 : wr.cell? ⟨g, 1, none⟩ = some (.slice pw m cw) := cell_row (row_later HROW.out hbr hlt) 1 _ rfl
    by_cases ha : j < m
    · have ha1 : (j:Int) < m := by omega
      have hjl : j < st.wait.length := by rw [HM.out]; exact ha
      obtain ⟨b1, o1, rfl, hc1, hm1, hh1, hl1, HR1⟩ := Rd.chunk Wr.c HWT.out HWC.out (by decide) ha
      obtain ⟨hx, hy⟩ := wr_range (Rd.rangeLater (HR1 j hjl) hh1 hbr)
      have HY := Lib.hid hy
      have HXS := Lib.hid (HWS.out _ (List.getElem_mem hjl))
      have HSN := Lib.hid (lastOf_snoc (i:Int) s0 st.wait j hjl)
      have HL1 := Lib.hid (HLS.out j).1
      generalize st.wait[j] = x at *
      clear HR1 hl1 hy
      by_cases hp : x.pos = (i:Int)
      · have hp1 : (x.pos == (i:Int)) = true := by simpa using hp
        rw [if_pos hp] at HSN
        clear hp
        go_wp2_with (first | (refine load_mid rfl (.tmp 52) rfl b1 (o1 + j * 36 + 1) rfl x.s HXS.out.1 HY.out ?_) | (refine store_at rfl _ _ rfl rfl (w.heap.size + 1) x.s _ rfl rfl HXS.out.1 HL1.out A6.out ?_; intro w2 hA hB2 hK; rw [← HSN.out] at hA; have A62 := Lib.hid hA; have A42 := Lib.hid (hK w.heap.size zero32 (by omega) A4.out); clear hA hK))
        go_roundw
        case rel => exact ⟨j + 1, by omega, by go_num, A62, A42, hbr.trans (hB2.mono (by omega))⟩
        case measure => simp [intOf]; omega
      · have hp1 : (x.pos == (i:Int)) = false := by simpa using hp
        rw [if_neg hp] at HSN
        clear hp
        have A62 := A6
        rw [← HSN.out] at A62
        go_wp2_with fail
        go_roundw
        case rel => exact ⟨j + 1, by omega, by go_num, A62, A4, hbr⟩
        case measure => simp [intOf]; omega
    · have hjm : j = m := by omega
      have HLE : Hid (lastOf i s0 (st.wait.take j) = lastOf i s0 st.wait) := Lib.hid (by rw [List.take_of_length_le (by rw [HM.out]; omega)])
      have HL1 := Lib.hid (HLS.out j).1
      rw [HLE.out] at A6 HL1
      clear HLE
      go_wp2_with (first | (refine load_at rfl _ rfl (w.heap.size + 1) rfl _ HL1.out A6.out ?_) | (refine store_at rfl _ _ rfl rfl w.heap.size _ zero32 rfl rfl HL1.out (by decide) A4.out ?_; intro w2 hA hB2 hK; have A42 := Lib.hid hA; clear hA hK))
      exact ret_sec2 rfl w.heap.size _ _ rfl rfl HL1.out A42.out rfl ⟨rfl, hbr.trans hB2⟩
end Go.Proofs.Yteobhljkjgocdaa.dsk
