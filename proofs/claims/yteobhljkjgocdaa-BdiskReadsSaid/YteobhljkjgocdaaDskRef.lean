/- What the small functions of the disk's reference give. -/
import Derived.Test.YteobhljkjgocdaaDskMath
import Derived.Test.YteobhljkjgocdaaSecSame
namespace Go.Proofs.Yteobhljkjgocdaa.dsk
open Go.ChangeShapes Go.WideShapes Go.ChangeAt Go.RowKit
open Go.Proofs.Yteobhljkjgocdaa.rows
open Go.Proofs.Yteobhljkjgocdaa.sec
set_option linter.unusedVariables false

theorem num_any (e : Int) (w : World) : Calls Try.prog 9 #[.int .i64 e] w fun r w' => r = .returned (.int .i64 e) ∧ w = w' := by
  go_enter Try.func9, Try.ntmps9
  go_wp2
  go_ret
  exact ⟨rfl, rfl⟩
theorem rin (p : Option Addr) (n c : Nat) (zs : List Int) (q : Int) (w : World) (h1 : Rd w 1 (.slice p n c) n (i64s zs)) (l1 : n ≤ 1000) :
    Calls Try.prog 50 #[.slice p n c, .int .i64 q] w fun e w' => e = .returned (.bool (decide (q ∈ zs))) ∧ w = w' := by
  have hzl : zs.length = n := by have := h1.cells; simpa [i64s] using this
  have H1 := Lib.hid h1
  have HZ := Lib.hid hzl
  have hb1 : (n:Int) ≤ 1000 := by omega
  clear h1 hzl
  obtain ⟨d, hd⟩ : ∃ d, decide (q ∈ zs) = d := ⟨_, rfl⟩
  have HD := Lib.hid hd
  rw [hd]
  clear hd
  go_enter Try.func50, Try.ntmps50
  go_wp2
  go_loop [5] (fun iv => ∃ (j : Nat), j ≤ n ∧ Hid (∀ i, i < j → zs[i]? ≠ some q) ∧ iv = .int .i64 (j : Int)) (fun iv => n - (intOf iv).toNat)
  case atStart => exact ⟨0, by omega, Lib.hid (by omega), rfl⟩
  case round =>
    obtain ⟨j, hj, HN, rfl⟩ := hrel
    by_cases ha : j < n
    · have ha1 : (j:Int) < n := by omega
      obtain ⟨b1, o1, rfl, hc1, hm1, hh1, hl1, HR1⟩ := H1.out.at ha
      have hr1 := HR1 j ha
      have HX : Hid (zs[j]? = some (zs.getD j 0)) := Lib.hid (by rw [List.getElem?_eq_getElem (by omega)]; simp [List.getD, show j < zs.length by omega])
      generalize zs.getD j 0 = x at *
      clear HR1 hl1
      by_cases hx : x = q
      · have hd : d = true := by rw [← HD.out]; exact decide_eq_true (List.mem_iff_getElem?.2 ⟨j, by rw [HX.out, hx]⟩)
        subst hd
        subst hx
        go_wp2_with fail
        go_ret
        exact ⟨rfl, rfl⟩
      · have hx1 : (x == q) = false := by simpa using hx
        go_wp2_with fail
        go_round
        case rel => exact ⟨j + 1, by omega, Lib.hid (fun i hi => by
          rcases Nat.lt_or_ge i j with h | h
          · exact HN.out i h
          · obtain rfl : i = j := by omega
            rw [HX.out]; exact fun e => hx (Option.some.inj e)), by go_num⟩
        case measure => simp [intOf]; omega
    · have hd : d = false := by
        rw [← HD.out]
        refine decide_eq_false fun hm => ?_
        obtain ⟨i, hi⟩ := List.mem_iff_getElem?.1 hm
        have := (List.getElem?_eq_some_iff.1 hi).1
        exact HN.out i (by have := HZ.out; omega) hi
      subst hd
      go_wp2_with fail
      go_ret
      exact ⟨rfl, rfl⟩
theorem rhas (p : Option Addr) (n c : Nat) (ts : List (Int × Int)) (k i : Int) (w : World) (h1 : Rd w 2 (.slice p n c) n (tagsC ts)) (l1 : n ≤ 1000) :
    Calls Try.prog 51 #[.slice p n c, .agg #[.int .i64 k, .int .i64 i]] w fun e w' => e = .returned (.bool (decide ((k, i) ∈ ts))) ∧ Below w.heap.size w w' := by
  have hzl : ts.length = n := Rd.count tagC h1 (fun x _ => rfl) (by decide)
  have H1 := Lib.hid h1
  have HZ := Lib.hid hzl
  have hb1 : (n:Int) ≤ 1000 := by omega
  clear h1 hzl
  obtain ⟨d, hd⟩ : ∃ d, decide ((k, i) ∈ ts) = d := ⟨_, rfl⟩
  have HD := Lib.hid hd
  rw [hd]
  clear hd
  go_enter Try.func51, Try.ntmps51
  go_wp2
  go_loopw [5] (fun iv wr => ∃ (j : Nat), j ≤ n ∧ Hid (∀ m, m < j → ts[m]? ≠ some (k, i)) ∧ iv = .int .i64 (j : Int) ∧ Below (w.heap.size + 1) (w.alloc (.cells #[.int .i64 k, .int .i64 i] 37)) wr) (fun iv _ => n - (intOf iv).toNat)
  case atStart => exact ⟨0, by omega, Lib.hid (by omega), rfl, Below.refl _ _⟩
  case round =>
    obtain ⟨j, hj, HN, rfl, hbr⟩ := hrel
    have hc0 : wr.cell? ⟨w.heap.size, 0, none⟩ = some (.int .i64 k) := by
      rw [hbr.cell (p := ⟨w.heap.size, 0, none⟩) (by simp), World.cell?_alloc_new]; rfl
    have hc1 : wr.cell? ⟨w.heap.size, 1, none⟩ = some (.int .i64 i) := by
      rw [hbr.cell (p := ⟨w.heap.size, 1, none⟩) (by simp), World.cell?_alloc_new]; rfl
    have hbw : Below w.heap.size w wr := (below_alloc (Below.refl _ w) _).trans (hbr.mono (by omega))
    by_cases ha : j < n
    · have ha1 : (j:Int) < n := by omega
      obtain ⟨b1, o1, rfl, hcc1, hm1, hh1, hl1, HR1⟩ := Rd.chunk tagC (H1.out.later hbw) (fun x _ => rfl) (by decide) ha
      have hr1 := HR1 j (by omega)
      have HX : Hid (ts[j]? = some (ts[j]'(by omega))) := Lib.hid (List.getElem?_eq_getElem (by omega))
      generalize ts[j]'(by omega) = x at *
      obtain ⟨x1, x2⟩ := x
      have hx1 := hr1 0 _ rfl
      have hx2 := hr1 1 _ rfl
      rw [Nat.add_zero] at hx1
      clear HR1 hl1 hr1
      by_cases hx : x1 = k ∧ x2 = i
      · obtain ⟨rfl, rfl⟩ := hx
        have hd : d = true := by rw [← HD.out]; exact decide_eq_true (List.mem_iff_getElem?.2 ⟨j, HX.out⟩)
        subst hd
        go_wp2_with fail
        go_region
        go_wp2_with fail
        go_ret
        exact ⟨rfl, hbw.drew⟩
      · have hx' : ¬ x1 = k ∨ (x1 = k ∧ ¬ x2 = i) := by
          by_cases h : x1 = k
          · exact Or.inr ⟨h, fun h2 => hx ⟨h, h2⟩⟩
          · exact Or.inl h
        have HNN : Hid (∀ m, m < j + 1 → ts[m]? ≠ some (k, i)) := Lib.hid (fun m hm => by
          rcases Nat.lt_or_ge m j with h | h
          · exact HN.out m h
          · obtain rfl : m = j := by omega
            rw [HX.out]
            intro e
            have := Option.some.inj e
            simp only [Prod.mk.injEq] at this
            exact hx this)
        clear hx
        rcases hx' with hx | ⟨hx, hy⟩
        all_goals
          go_wp2_with fail
          go_region
          go_wp2_with fail
          go_roundw
          case rel => exact ⟨j + 1, by omega, HNN, by go_num, hbr.drew⟩
          case measure => simp [intOf]; omega
    · have hd : d = false := by
        rw [← HD.out]
        refine decide_eq_false fun hm => ?_
        obtain ⟨m, hm⟩ := List.mem_iff_getElem?.1 hm
        have := (List.getElem?_eq_some_iff.1 hm).1
        exact HN.out m (by have := HZ.out; omega) hm
      subst hd
      go_wp2_with fail
      go_ret
      exact ⟨rfl, hbw⟩
/-! the reference's disk -/
structure St where
  safe : List (List Int)
  wait : List Wr
  ep : Int
  log : List (Int × Wr × List (Int × Int))
  bad : List Int
  asked : Int
abbrev Ev := Int × Wr × List (Int × Int)
/-- an event's cells, and the tags that its last one shows -/
def evC (e : Ev) (v : Value) : List Value := .int .i64 e.1 :: (e.2.1.c ++ [v])
structure EvsIn (S : Nat → Prop) (w : World) (v : Value) (es : List Ev) (n : Nat) (vs : List Value) : Prop where
  len : vs.length = es.length
  cells : Rd w 38 v n ((es.zip vs).map fun x => evC x.1 x.2).flatten
  at_ : InS S v
  tags : ∀ i (h : i < es.length), ∃ p c, vs[i]? = some (.slice p (es[i]).2.2.length c) ∧ Rd w 2 (.slice p (es[i]).2.2.length c) (es[i]).2.2.length (tagsC (es[i]).2.2) ∧ InS S (.slice p (es[i]).2.2.length c)
/-- the reference's disk lies in block g; what it reads lies in blocks of S -/
structure RefAt (w : World) (S : Nat → Prop) (g : Nat) (st : St) (vs vw vl vb : Value) : Prop where
  row : w.heap[g]? = some (.cells #[vs, vw, .int .i64 st.ep, vl, vb, .int .i64 st.asked] 53 (0, 0))
  own : S g
  safe : Rd w 32 vs st.safe.length (cellsOf st.safe)
  safeS : InS (fun b => S b ∧ b ≠ g) vs
  wait : Rd w 36 vw st.wait.length (wrsC st.wait)
  waitS : InS (fun b => S b ∧ b ≠ g) vw
  log : ∃ es, EvsIn (fun b => S b ∧ b ≠ g) w vl st.log st.log.length es
  bad : Rd w 1 vb st.bad.length (i64s st.bad)
  badS : InS (fun b => S b ∧ b ≠ g) vb
theorem rfails (S : Nat → Prop) (g : Nat) (st : St) (vs vw vl vb : Value) (w : World) (h : RefAt w S g st vs vw vl vb) (hb : st.bad.length ≤ 1000) (ha : 0 ≤ st.asked ∧ st.asked ≤ 1000) :
    Calls Try.prog 48 #[.pointer (some ⟨g, 0, none⟩)] w fun e w' => e = .returned (.bool (decide (st.asked ∈ st.bad))) ∧ ∃ k, w' = (w.setCell ⟨g, 5, none⟩ (.int .i64 (st.asked + 1))).drewN k := by
  have c0 := cell_row h.row 0 vs rfl
  have c4 := cell_row h.row 4 vb rfl
  have c5 := cell_row h.row 5 (.int .i64 st.asked) rfl
  have z5 := frozen_row h.row 5
  obtain ⟨a0, a1⟩ := ha
  have HR := Lib.hid h
  obtain ⟨pb, cb, hvb⟩ : ∃ pb cb, vb = .slice pb st.bad.length cb := by
    rcases h.bad with ⟨p', cap', h1, h2, _⟩ | ⟨b, off, cap', h1, _⟩
    · exact ⟨_, _, by rw [h1, h2]⟩
    · exact ⟨_, _, h1⟩
  subst hvb
  have HI := Lib.hid fun w' (hr : Rd w' 1 (.slice pb st.bad.length cb) st.bad.length (i64s st.bad)) => rin pb st.bad.length cb st.bad st.asked w' hr hb
  obtain ⟨q, hq⟩ : ∃ q, decide (st.asked ∈ st.bad) = q := ⟨_, rfl⟩
  rw [hq] at HI ⊢
  generalize st.asked = a at *
  clear h hb hq
  go_enter Try.func48, Try.ntmps48
  go_wp2_with fail
  go_quiet ((go_at_call 50; exact Calls.quiet_of_same ((HI.out _ (Rd.drewN (Rd.set HR.out.bad (HR.out.badS.mono fun _ h => h.2)) _)).mono fun e w' ⟨x, y⟩ => ⟨x, y.symm⟩)))
  go_wp2_with fail
  go_ret
  exact ⟨rfl, _, rfl⟩
end Go.Proofs.Yteobhljkjgocdaa.dsk
