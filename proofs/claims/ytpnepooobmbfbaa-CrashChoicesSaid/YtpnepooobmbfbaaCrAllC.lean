/- What the code's All and Count give. -/
import Derived.Test.YtpnepooobmbfbaaCrIter
namespace Go.Proofs.Ytpnepooobmbfbaa.dsk
set_option maxRecDepth 100000
open Go.ChangeShapes Go.WideShapes Go.ChangeAt Go.RowKit
open Go.Proofs.Ytpnepooobmbfbaa.rows
open Go.Proofs.Ytpnepooobmbfbaa.sec
open Go.Proofs.Ytpnepooobmbfbaa.cho (IntsIn allowed_any rallowed_any fate_of rfate_any count_any rcount_any nth_any rnth_any)
open Go.Proofs.Ytpnepooobmbfbaa.choMath
set_option linter.unusedVariables false
set_option linter.unusedSimpArgs false
attribute [local go_sem] Oper.semAt_some

/-! what a turn of a block that holds no cells keeps -/
theorem boxed_turn {W W' : World} {row : Option Nat} {B : Nat} {t : TypeId} {v : Value} (h : Go.Boxed W B t v) (hg : W.grownBy W' row) (hr : ∀ r, row = some r → ∃ o : Obj, W.heap[r]? = some o ∧ o.isCells = false) : Go.Boxed W' B t v :=
  h.kept hg fun e => by
    obtain ⟨o, ho, hc⟩ := hr B e.symm
    rw [show W.heap[B]? = _ from h] at ho; cases ho; cases hc
theorem own_turn {W W' : World} {row : Option Nat} {B : Nat} {e : TypeId} {sz n : Nat} {v : Value} {cs : List Value} (h : Go.Proofs.Ytpnepooobmbfbaa.rows.Own W B e sz v n cs) (hg : W.grownBy W' row) (hr : ∀ r, row = some r → ∃ o : Obj, W.heap[r]? = some o ∧ o.isCells = false) : Go.Proofs.Ytpnepooobmbfbaa.rows.Own W' B e sz v n cs := by
  refine ⟨h.1, ?_⟩
  rcases h.2 with h2 | ⟨g, cap, cur, hv, h3, h4, h5⟩
  · exact Or.inl h2
  · refine Or.inr ⟨g, cap, cur, hv, h3, (hg.block g (Array.getElem?_eq_some_iff.1 h4).1 fun e => ?_).trans h4, h5⟩
    obtain ⟨o, ho, hc⟩ := hr g e.symm
    rw [h4] at ho; cases ho; cases hc
theorem below_turn {n₀ B : Nat} {w W W' : World} {row : Option Nat} (h : Below n₀ w W) (hn : n₀ ≤ w.heap.size) (hB : n₀ ≤ B) (hg : W.grownBy W' row) (hr : ∀ r, row = some r → B ≤ r) : Below n₀ w W' :=
  h.grown hg (Nat.le_trans hn h.size) fun k e => Nat.le_trans hB (hr k e)
theorem keepsFrom_touch {T : Nat → Prop} {B : Nat} {W W' : World} (h : Touch T W W') (hT : ∀ k, T k → k < W.heap.size → ∃ cs t fr, W.heap[k]? = some (.cells cs t fr)) : KeepsFrom B W W' :=
  ⟨h.size, fun k o _ hk ho => (h.block k (Array.getElem?_eq_some_iff.1 hk).1 fun ht => by
    obtain ⟨cs, t, fr, hc⟩ := hT k ht (Array.getElem?_eq_some_iff.1 hk).1
    rw [hc] at hk; cases hk; cases ho).trans hk⟩
theorem own_from0 {w : World} {B : Nat} {e : TypeId} {sz n : Nat} {v : Value} {cs : List Value} (h : Go.Proofs.Ytpnepooobmbfbaa.rows.Own w 0 e sz v n cs) (hB : ∀ k, v.ownBlock = some k → B ≤ k) : Go.Proofs.Ytpnepooobmbfbaa.rows.Own w B e sz v n cs := by
  refine ⟨h.1, ?_⟩
  rcases h.2 with h2 | ⟨g, cap, cur, hv, h3, h4⟩
  · exact Or.inl h2
  · exact Or.inr ⟨g, cap, cur, hv, hB g (by rw [hv]; rfl), h4⟩
theorem own_cells {w : World} {B : Nat} {e : TypeId} {sz n : Nat} {v : Value} {cs : List Value} (h : Go.Proofs.Ytpnepooobmbfbaa.rows.Own w B e sz v n cs) {k : Nat} (hk : v.ownBlock = some k) : ∃ cs t fr, w.heap[k]? = some (.cells cs t fr) := by
  rcases h.2 with ⟨rfl, _⟩ | ⟨g, cap, cur, rfl, h3, h4, _⟩
  · simp [Value.ownBlock] at hk
  · obtain rfl : g = k := by simpa [Value.ownBlock] using hk
    exact ⟨_, _, _, h4⟩
theorem touch_alloc {T : Nat → Prop} {W W' : World} {o : Obj} (h : Touch T (W.alloc o) W') : Touch T W W' := (Touch.alloc (Touch.refl T W) o).trans h
theorem boxed_touch {T : Nat → Prop} {W W' : World} {B : Nat} {t : TypeId} {v : Value} (h : Go.Boxed W B t v) (ht : Touch T W W') (hT : ¬ T B) : Go.Boxed W' B t v := (ht.block B h.lt hT).trans h
/-- between two rounds of All -/
structure AllI (w : World) (b B : Nat) (most : Int) (pre : List Nat) (p : Option Addr) (q cc : Nat) (W : World) : Prop where
  l : Go.Boxed W (b + 1 + 1 + 1 + 1) 47 (.slice p q cc)
  own : Go.Proofs.Ytpnepooobmbfbaa.rows.Own W 0 40 1 (.slice p q cc) q (u64s pre)
  qn : q = pre.length
  low : ∀ k, (Value.slice p q cc).ownBlock = some k → B ≤ k
  r0 : Go.Boxed W (b + 1 + 1) 47 (.slice none 0 0)
  r1 : Go.Boxed W (b + 1 + 1 + 1) 4 (.bool false)
  bm : Go.Boxed W (b + 1) 3 (.int .i64 most)
  few : (pre.length : Int) ≤ most ∨ pre = []
  below : Below w.heap.size w W
  size : B ≤ W.heap.size
theorem AllI.turn {w : World} {b B : Nat} {most : Int} {pre : List Nat} {p : Option Addr} {q cc : Nat} {W W' : World} {row : Option Nat} (h : AllI w b B most pre p q cc W) (hB : w.heap.size ≤ B) (hg : W.grownBy W' row) (hr : ∀ r, row = some r → B ≤ r ∧ ∃ o : Obj, W.heap[r]? = some o ∧ o.isCells = false) : AllI w b B most pre p q cc W' :=
  have hr2 := fun r e => (hr r e).2
  ⟨boxed_turn h.l hg hr2, own_turn h.own hg hr2, h.qn, h.low, boxed_turn h.r0 hg hr2, boxed_turn h.r1 hg hr2, boxed_turn h.bm hg hr2, h.few, below_turn h.below (Nat.le_refl _) hB hg (fun r e => (hr r e).1), Nat.le_trans h.size hg.size⟩
/-- behind a round of All that has returned -/
structure AllX (w : World) (b B : Nat) (most : Int) (pre acc : List Nat) (x : Nat) (p : Option Addr) (q cc : Nat) (W : World) : Prop where
  pre : pre = acc ++ [x]
  own : Go.Proofs.Ytpnepooobmbfbaa.rows.Own W 0 40 1 (.slice p q cc) q (u64s acc)
  qn : q = acc.length
  low : ∀ k, (Value.slice p q cc).ownBlock = some k → B ≤ k
  r0 : Go.Boxed W (b + 1 + 1) 47 (.slice p q cc)
  r1 : Go.Boxed W (b + 1 + 1 + 1) 4 (.bool false)
  few : (acc.length : Int) ≤ most ∨ acc = []
  full : most ≤ (acc.length : Int)
  below : Below w.heap.size w W
theorem AllX.turn {w : World} {b B : Nat} {most : Int} {pre acc : List Nat} {x : Nat} {p : Option Addr} {q cc : Nat} {W W' : World} {row : Option Nat} (h : AllX w b B most pre acc x p q cc W) (hB : w.heap.size ≤ B) (hg : W.grownBy W' row) (hr : ∀ r, row = some r → B ≤ r ∧ ∃ o : Obj, W.heap[r]? = some o ∧ o.isCells = false) : AllX w b B most pre acc x p q cc W' :=
  have hr2 := fun r e => (hr r e).2
  ⟨h.pre, own_turn h.own hg hr2, h.qn, h.low, boxed_turn h.r0 hg hr2, boxed_turn h.r1 hg hr2, h.few, h.full, below_turn h.below (Nat.le_refl _) hB hg fun r e => (hr r e).1⟩

set_option maxRecDepth 100000 in
set_option maxHeartbeats 3200000 in
theorem call_big (ps : Option Addr) (n cs : Nat) (pw : Option Addr) (m cw : Nat) (ws : List Wr) (t : Bool) (most : Int) (w : World) (hi : allIn w pw m cw ws) (h8 : 8 < m) :
    Calls Try.prog 19 #[stV ps n cs pw m cw, .bool t, .int .i64 most] w (AllDone ws t most w) := by
  obtain ⟨hw, hws, hm⟩ := hi
  have hml : ws.length = m := Rd.count Wr.c hw (fun x hx => Wr.c_len (hws x hx)) (by decide)
  have hm1 : (m : Int) ≤ 1000 := by omega
  have h81 : (8 : Int) < m := by omega
  have HR : Hid (allR ws t most = ([], false)) := Lib.hid (by rw [allR, if_pos (by omega)])
  clear hml hw hws
  unfold stV
  go_enter Try.func19, Try.ntmps19
  go_wp2
  have hb : Below w.heap.size w ((((w.alloc (Obj.cells #[Value.slice ps n cs, Value.slice pw m cw] 28)).alloc (Obj.cells #[Value.int IntKind.i64 most] 3)).alloc (Obj.cells #[Value.slice none 0 0] 47)).alloc (Obj.cells #[Value.bool false] 4)) := below_alloc (below_alloc (below_alloc (below_alloc (Below.refl _ _) _) _) _) _
  refine bodyPost_ret (v := .tuple #[.slice none 0 0, .bool false]) (by simp [results, Try.f19, go_sem]) rfl ?_
  refine ⟨hb, none, 0, by rw [HR.out]; rfl, ?_⟩
  rw [HR.out]
  exact own_nil _ _ _ _
set_option maxRecDepth 100000 in
set_option maxHeartbeats 3200000 in
theorem call_small (ps : Option Addr) (n cs : Nat) (pw : Option Addr) (m cw : Nat) (ws : List Wr) (t : Bool) (most : Int) (w : World) (hi : allIn w pw m cw ws) (h8 : ¬ 8 < m) :
    Calls Try.prog 19 #[stV ps n cs pw m cw, .bool t, .int .i64 most] w (AllDone ws t most w) := by
  obtain ⟨hw, hws, hm⟩ := hi
  have hml : ws.length = m := Rd.count Wr.c hw (fun x hx => Wr.c_len (hws x hx)) (by decide)
  have HML := Lib.hid hml
  have h81 : (m : Int) ≤ 8 := by omega
  have hn1 : 1 ≤ 10 := by omega
  have HE := Lib.hid fun w' (hb : Below w.heap.size w w') => cepochs ps n cs pw m cw ws w' hws (hw.later hb) hm
  clear hml hw hws
  unfold stV at *
  refine (callsIn_wide (n := 10)).1 ?_
  refine callsIn_of_wp_marks Try.func19 rfl trivial ?_ rfl
  simp only [Try.ntmps19, List.size_toArray, List.length_cons, List.length_nil, Nat.reduceAdd, Nat.reduceSub, Array.replicate_succ, Array.replicate_zero, List.push_toArray, List.append_toArray, List.nil_append, List.cons_append]
  have HB1 : Hid (Below w.heap.size w (((((w.alloc (Obj.cells #[Value.slice ps n cs, Value.slice pw m cw] 28)).alloc (Obj.cells #[Value.int IntKind.i64 most] 3)).alloc (Obj.cells #[Value.slice none 0 0] 47)).alloc (Obj.cells #[Value.bool false] 4)).alloc (Obj.cells #[Value.slice none 0 0] 47))) := Lib.hid (below_alloc (below_alloc (below_alloc (below_alloc (below_alloc (Below.refl _ _) _) _) _) _) _)
  obtain ⟨w1, hw1⟩ : ∃ w1, w1 = (((((w.alloc (Obj.cells #[Value.slice ps n cs, Value.slice pw m cw] 28)).alloc (Obj.cells #[Value.int IntKind.i64 most] 3)).alloc (Obj.cells #[Value.slice none 0 0] 47)).alloc (Obj.cells #[Value.bool false] 4)).alloc (Obj.cells #[Value.slice none 0 0] 47)) := ⟨_, rfl⟩
  have hsz1 : w1.heap.size = w.heap.size + 1 + 1 + 1 + 1 + 1 := by rw [hw1]; simp [size_alloc]
  have B1 : Hid (Go.Boxed w1 (w.heap.size + 1) 3 (.int .i64 most)) := Lib.hid (by
    rw [hw1]
    have := Go.Boxed.new (w.alloc (Obj.cells #[Value.slice ps n cs, Value.slice pw m cw] 28)) 3 (.int .i64 most)
    rw [size_alloc] at this
    exact ((this.alloc _).alloc _).alloc _)
  have B2 : Hid (Go.Boxed w1 (w.heap.size + 1 + 1) 47 (.slice none 0 0)) := Lib.hid (by
    rw [hw1]
    have := Go.Boxed.new ((w.alloc (Obj.cells #[Value.slice ps n cs, Value.slice pw m cw] 28)).alloc (Obj.cells #[Value.int IntKind.i64 most] 3)) 47 (.slice none 0 0)
    rw [size_alloc, size_alloc] at this
    exact (this.alloc _).alloc _)
  have B3 : Hid (Go.Boxed w1 (w.heap.size + 1 + 1 + 1) 4 (.bool false)) := Lib.hid (by
    rw [hw1]
    have := Go.Boxed.new (((w.alloc (Obj.cells #[Value.slice ps n cs, Value.slice pw m cw] 28)).alloc (Obj.cells #[Value.int IntKind.i64 most] 3)).alloc (Obj.cells #[Value.slice none 0 0] 47)) 4 (.bool false)
    rw [size_alloc, size_alloc, size_alloc] at this
    exact this.alloc _)
  have B4 : Hid (Go.Boxed w1 (w.heap.size + 1 + 1 + 1 + 1) 47 (.slice none 0 0)) := Lib.hid (by
    rw [hw1]
    have := Go.Boxed.new ((((w.alloc (Obj.cells #[Value.slice ps n cs, Value.slice pw m cw] 28)).alloc (Obj.cells #[Value.int IntKind.i64 most] 3)).alloc (Obj.cells #[Value.slice none 0 0] 47)).alloc (Obj.cells #[Value.bool false] 4)) 47 (.slice none 0 0)
    rw [size_alloc, size_alloc, size_alloc, size_alloc] at this
    exact this)
  have HW1 := Lib.hid hw1
  have HBW1 : Hid (Below w.heap.size w w1) := Lib.hid (by rw [hw1]; exact HB1.out)
  have HSZ1 := Lib.hid hsz1
  have HE1 := Lib.hid (hw1 ▸ HE.out _ HB1.out)
  clear hw1 hsz1 HE HB1
  gi_wp2_with (first | (refine ⟨trivial, ?_⟩; gi_at_call 12; rw [← HW1.out]; refine (callsIn_wide.2 HE1.out).mono ?_; rintro e w2 ⟨p2, c2, rfl, ho2, hb2⟩; have HO2 := Lib.hid ho2; have HB2 := Lib.hid hb2; clear ho2 hb2) | (refine ⟨trivial, ?_⟩; gi_at_call 50; refine (callsIn_wide.2 (cchoices _ _ _ _ _)).mono ?_; rintro e w3 ⟨rfl, hw3⟩; have HW3 := Lib.hid hw3; clear hw3))
  have hs12 := HB2.out.size
  have hsz3 : w3.heap.size = w2.heap.size + 1 + 1 + 1 := by rw [HW3.out]; simp [size_alloc]
  have HB23 : Hid (Below w2.heap.size w2 w3) := Lib.hid (by rw [HW3.out]; exact below_alloc (below_alloc (below_alloc (Below.refl _ _) _) _) _)
  have HB13 : Hid (Below w1.heap.size w1 w3) := Lib.hid (HB2.out.trans (HB23.out.mono hs12))
  have HCA : Hid (ChoAt (fun b => w1.heap.size ≤ b ∧ b < w3.heap.size) w3 (w2.heap.size + 1 + 1) (w2.heap.size + 1) w2.heap.size p2 m c2 t ws) := Lib.hid (by
    have e0 := Go.Boxed.new w2 36 (.slice p2 m c2)
    have e1 := Go.Boxed.new (w2.alloc (.cells #[.slice p2 m c2] 36)) 4 (.bool t)
    have e2 := Go.Boxed.new ((w2.alloc (.cells #[.slice p2 m c2] 36)).alloc (.cells #[.bool t] 4)) 3 (.int .i64 (m : Int))
    simp only [size_alloc] at e1 e2
    refine ⟨by rw [HW3.out]; exact e2, by rw [HW3.out]; exact e1.alloc _, by rw [HW3.out]; exact (e0.alloc _).alloc _, ⟨by omega, by omega⟩, ⟨by omega, by omega⟩, ⟨by omega, by omega⟩, HO2.out.rd.later HB23.out, ?_⟩
    exact (own_inS HO2.out).mono fun b hb => ⟨hb.1, by omega⟩)
  have HZ1 : w.heap.size + 1 + 1 + 1 + 1 + 1 ≤ w1.heap.size := by have := HSZ1.out; omega
  clear hsz3
  have hK0 : Hid (∀ b v t', Go.Boxed w1 b t' v → Go.Boxed w3 b t' v) := Lib.hid (fun b v t' h => (HB13.out.block _ h.lt).trans h)
  have HBW3 : Hid (Below w.heap.size w w3) := Lib.hid (HBW1.out.trans (HB13.out.mono HBW1.out.size))
  have hww3 : w.heap.size ≤ w3.heap.size := HBW3.out.size
  have hw13 : w1.heap.size ≤ w3.heap.size := HB13.out.size
  have HI0 : Hid (∃ p q cc, AllI w w.heap.size w3.heap.size most [] p q cc w3) := Lib.hid ⟨none, 0, 0, hK0.out _ _ _ B4.out, own_nil _ _ _ _, rfl, fun k hk => by simp [Value.ownBlock] at hk, hK0.out _ _ _ B2.out, hK0.out _ _ _ B3.out, hK0.out _ _ _ B1.out, Or.inr rfl, HBW3.out, Nat.le_refl _⟩
  clear hK0 B1 B2 B3 B4 HW3 HO2 HB2 HE1 HW1 HB23
  refine wpIn_rangeFunc_ownG (F := Fence.wide) rfl hn1 (gf := 72) (lb := #[.pointer (some ⟨w2.heap.size + 1 + 1, 0, none⟩), .pointer (some ⟨w2.heap.size + 1, 0, none⟩), .pointer (some ⟨w2.heap.size, 0, none⟩)]) rfl trivial (enters_of Try.func72 (by kernel_rfl) rfl)
    (cstops 9 (by omega) (fun b => w1.heap.size ≤ b ∧ b < w3.heap.size) _ _ _ p2 m c2 t ws HML.out (by omega) w3 HCA.out) (fun h k => Keeps.trans h k)
    (fun W l o o' hl _ _ _ => ⟨by simp, fun k _ hs => World.putObj_heap_other (by omega)⟩) (Below.refl _ _) (fun _ => rfl)
    (fun pre W => ∃ p q cc, AllI w w.heap.size w3.heap.size most pre p q cc W)
    (fun c pre W => c = .ret ∧ ∃ acc x p q cc, AllX w w.heap.size w3.heap.size most pre acc x p q cc W)
    (fun pre A B row ⟨p, q, cc, h⟩ hg hr => ⟨p, q, cc, h.turn hww3 hg hr⟩)
    (fun c pre A B row ⟨hc, acc, x, p, q, cc, h⟩ hg hr => ⟨hc, acc, x, p, q, cc, h.turn hww3 hg hr⟩)
    HI0.out
    (fun x => { tmps := #[Value.agg #[Value.slice ps n cs, Value.slice pw m cw], Value.bool t, Value.int IntKind.i64 most,
          Value.pointer (some { block := w.heap.size, off := 0 }), undef,
          Value.pointer (some { block := w.heap.size + 1, off := 0 }),
          Value.pointer (some { block := w.heap.size + 1 + 1, off := 0 }),
          Value.pointer (some { block := w.heap.size + 1 + 1 + 1, off := 0 }),
          Value.pointer (some { block := w.heap.size + 1 + 1 + 1 + 1, off := 0 }), Value.int .u64 (x : Int),
          Value.pointer (some { block := w.heap.size, off := 1 }), Value.slice pw m cw, Value.int IntKind.i64 (m : Int),
          Value.bool (decide ((8 : Int) < (m : Int))), Value.agg #[Value.slice ps n cs, Value.slice pw m cw], Value.slice p2 m c2,
          Value.bool t,
          Value.func (Fn.func 72) #[]
            #[Value.pointer (some { block := w2.heap.size + 1 + 1, off := 0 }),
              Value.pointer (some { block := w2.heap.size + 1, off := 0 }),
              Value.pointer (some { block := w2.heap.size, off := 0 })],
          Value.int .u64 (x : Int), undef, undef, undef, undef, undef, undef, undef, undef, undef, undef], defers := [] }) ?assign ?body ?done ?stop
  case assign =>
    intro l x W K hK
    gi_wp2
    exact hK
  case body =>
    rintro l pre x W ⟨p, q, cc, hI⟩ hlt
    have HI := Lib.hid hI
    have c8 := hI.l.cell
    have c5 := hI.bm.cell
    have HQN := Lib.hid hI.qn
    have hq7 : q < 7000 := by have := hI.qn; omega
    have hlow := Lib.hid hI.low
    clear hI
    by_cases hst : most ≤ (q : Int)
    · have c6 := HI.out.r0.cell
      have f6 := HI.out.r0.frozen
      have c7 := HI.out.r1.cell
      have f7 := HI.out.r1.frozen
      gi_wp2
      have ht : Touch (fun k => k = w.heap.size + 1 + 1 ∨ k = w.heap.size + 1 + 1 + 1) W ((W.setCell ⟨w.heap.size + 1 + 1, 0, none⟩ (.slice p q cc)).setCell ⟨w.heap.size + 1 + 1 + 1, 0, none⟩ (.bool false)) :=
        ((Touch.refl _ W).setCell _ (Or.inl rfl) _).setCell _ (Or.inr rfl) _
      refine ⟨keepsFrom_touch ht (fun k hk _ => ?_), rfl, pre, x, p, q, cc, rfl, own_kept (S := fun k => w3.heap.size ≤ k) HI.out.own hlow.out (ht.keeps fun k hk hT => by omega), HQN.out, hlow.out, (Go.Boxed.set _ HI.out.r0).other (show w.heap.size + 1 + 1 ≠ w.heap.size + 1 + 1 + 1 by omega) _, (HI.out.r1.other (show w.heap.size + 1 + 1 + 1 ≠ w.heap.size + 1 + 1 by omega) _).set _, HI.out.few, by rw [← HQN.out]; exact hst, (HI.out.below.setCell (p := ⟨w.heap.size + 1 + 1, 0, none⟩) (by show w.heap.size ≤ w.heap.size + 1 + 1; omega) _).setCell (p := ⟨w.heap.size + 1 + 1 + 1, 0, none⟩) (by show w.heap.size ≤ w.heap.size + 1 + 1 + 1; omega) _⟩
      rcases hk with rfl | rfl
      · exact ⟨_, _, _, HI.out.r0⟩
      · exact ⟨_, _, _, HI.out.r1⟩
    · have hst2 : (q : Int) < most := by omega
      gi_wp2_with (first | (refine one_in rfl ?_; refine build_one elem_u64s (by decide) rfl (.tmp 25) rfl [.int .u64 (x : Int)] rfl rfl ?_; refine one_end ?_) | (gi_at_builtin; refine one_in rfl ?_; refine ap_rd3 elem_u64s rfl (.tmp 24) (.tmp 26) rfl _ q _ rfl (HI.out.own.alloc _) _ 1 [.int .u64 (x : Int)] rfl (rd_laid _ _ _ _ rfl) (fun u hu => by rw [List.mem_singleton.1 hu]; rfl) (by omega) ?_; intro pa ca wa hoa hta hla; have hB8 := boxed_touch (HI.out.l.alloc (.cells [Value.int .u64 (x : Int)].toArray 40)) hta (fun e => by have := hlow.out _ e; omega); have c8a := hB8.cell; have f8a := hB8.frozen; have HOA := Lib.hid hoa; have HTA := Lib.hid hta; have HLA := Lib.hid hla; have HB8 := Lib.hid hB8; clear hoa hta hla hB8; refine one_end ?_))
      have hWs := HI.out.size
      have ht : Touch (fun k => (Value.slice p q cc).ownBlock = some k ∨ k = w.heap.size + 1 + 1 + 1 + 1) W (wa.setCell ⟨w.heap.size + 1 + 1 + 1 + 1, 0, none⟩ (.slice pa (q + 1) ca)) :=
        Touch.setCell (S := fun k => (Value.slice p q cc).ownBlock = some k ∨ k = w.heap.size + 1 + 1 + 1 + 1) ((touch_alloc HTA.out).mono (fun i hi => Or.inl hi)) ⟨w.heap.size + 1 + 1 + 1 + 1, 0, none⟩ (Or.inr rfl) _
      have hlow2 : ∀ k, (Value.slice pa (q + 1) ca).ownBlock = some k → w3.heap.size ≤ k := fun k hk => by
        rcases HLA.out k hk with h | h
        · exact hlow.out k h
        · have := h.1
          rw [size_alloc] at this
          omega
      have hno : ∀ i, i < w3.heap.size → i ≠ w.heap.size + 1 + 1 + 1 + 1 → ¬ ((Value.slice p q cc).ownBlock = some i ∨ i = w.heap.size + 1 + 1 + 1 + 1) := fun i hi hne h => by
        rcases h with h | h
        · have := hlow.out i h; omega
        · exact hne h
      refine ⟨keepsFrom_touch ht (fun k hk _ => ?_), ht.keeps (fun k hk hT => hno k hk.2 (by omega) hT), pa, q + 1, ca, HB8.out.set _, own_kept (S := fun k => w3.heap.size ≤ k) (by simpa [u64s] using HOA.out) hlow2 (Keeps.set (fun k hk => by omega) _), by rw [List.length_append, ← HQN.out]; rfl, hlow2, boxed_touch HI.out.r0 ht (hno _ (by omega) (by omega)), boxed_touch HI.out.r1 ht (hno _ (by omega) (by omega)), boxed_touch HI.out.bm ht (hno _ (by omega) (by omega)), Or.inl (by rw [List.length_append, ← HQN.out, List.length_singleton]; omega), HI.out.below.trans (ht.below HI.out.below.size fun k hk => ?_), Nat.le_trans hWs ht.size⟩
      · rcases hk with hk | rfl
        · exact own_cells HI.out.own hk
        · exact ⟨_, _, _, HI.out.l⟩
      · rcases hk with hk | rfl
        · have := hlow.out k hk; omega
        · omega
  case done =>
    rintro D ys W hD rfl ⟨p, q, cc, hI⟩ hK
    have HI := Lib.hid hI
    have c8 := hI.l.cell
    have c6 := hI.r0.cell
    have f6 := hI.r0.frozen
    have c7 := hI.r1.cell
    have f7 := hI.r1.frozen
    clear hI
    gi_wp2
    have hK' := ((KeepsOthers.setCell W ⟨w.heap.size + 1 + 1, 0, none⟩ (.slice p q cc)).trans (KeepsOthers.setCell _ ⟨w.heap.size + 1 + 1 + 1, 0, none⟩ (.bool true))).same D _ hK rfl
    refine ⟨by simp, .inl ⟨_, _, rfl, run_takeDeferred hK', ?_⟩⟩
    have B6 : Go.Boxed ((W.setCell ⟨w.heap.size + 1 + 1, 0, none⟩ (.slice p q cc)).setCell ⟨w.heap.size + 1 + 1 + 1, 0, none⟩ (.bool true)) (w.heap.size + 1 + 1) 47 (.slice p q cc) := (Go.Boxed.set _ HI.out.r0).other (show w.heap.size + 1 + 1 ≠ w.heap.size + 1 + 1 + 1 by omega) _
    have B7 : Go.Boxed ((W.setCell ⟨w.heap.size + 1 + 1, 0, none⟩ (.slice p q cc)).setCell ⟨w.heap.size + 1 + 1 + 1, 0, none⟩ (.bool true)) (w.heap.size + 1 + 1 + 1) 4 (.bool true) := (HI.out.r1.other (show w.heap.size + 1 + 1 + 1 ≠ w.heap.size + 1 + 1 by omega) _).set _
    have hk5 := cell_kept B6.cell (grownBy_putObj' _ D (.deferred none)) (fun r e => by cases e; exact ⟨_, hK', rfl⟩)
    have hb5 := cell_kept B7.cell (grownBy_putObj' _ D (.deferred none)) (fun r e => by cases e; exact ⟨_, hK', rfl⟩)
    have HCUT : allR ws t most = (accs ws t (cnt (m : Int) t), true) := by
      rw [allR, if_neg (by rw [HML.out]; exact h8), HML.out]
      exact cut_all HI.out.few
    refine ⟨.tuple #[.slice p q cc, .bool true], by simp [results, Try.f19, go_sem, hk5, hb5], ?_⟩
    refine ⟨below_turn (B := w3.heap.size) ((HI.out.below.setCell (p := ⟨w.heap.size + 1 + 1, 0, none⟩) (by show w.heap.size ≤ w.heap.size + 1 + 1; omega) _).setCell (p := ⟨w.heap.size + 1 + 1 + 1, 0, none⟩) (by show w.heap.size ≤ w.heap.size + 1 + 1 + 1; omega) _) (Nat.le_refl _) hww3 (grownBy_putObj' _ D (.deferred none)) (fun r e => by cases e; exact hD), p, cc, ?_, ?_⟩
    · rw [HCUT, HI.out.qn]
    · rw [HCUT, ← HI.out.qn]
      refine own_turn (own_from0 ?_ (fun k hk => Nat.le_trans hww3 (HI.out.low k hk))) (grownBy_putObj' _ D (.deferred none)) (fun r e => by cases e; exact ⟨_, hK', rfl⟩)
      exact own_kept (S := fun k => w3.heap.size ≤ k) HI.out.own HI.out.low ((Keeps.set (fun k hk => by omega) _).trans (Keeps.set (fun k hk => by omega) _))
  case stop =>
    rintro D c pre W hD hp ⟨rfl, acc, x, p, q, cc, hX⟩ hK
    have HX := Lib.hid hX
    clear hX
    gi_wp2
    refine ⟨by simp, .inl ⟨_, _, rfl, run_takeDeferred hK, ?_⟩⟩
    have hk5 := cell_kept HX.out.r0.cell (grownBy_putObj' _ D (.deferred none)) (fun r e => by cases e; exact ⟨_, hK, rfl⟩)
    have hb5 := cell_kept HX.out.r1.cell (grownBy_putObj' _ D (.deferred none)) (fun r e => by cases e; exact ⟨_, hK, rfl⟩)
    have HCUT : allR ws t most = (acc, false) := by
      rw [allR, if_neg (by rw [HML.out]; exact h8), HML.out]
      exact cut_stop (c := x) HX.out.few HX.out.full (HX.out.pre ▸ hp)
    refine ⟨.tuple #[.slice p q cc, .bool false], by simp [results, Try.f19, go_sem, hk5, hb5], ?_⟩
    refine ⟨below_turn (B := w3.heap.size) HX.out.below (Nat.le_refl _) hww3 (grownBy_putObj' _ D (.deferred none)) (fun r e => by cases e; exact hD), p, cc, ?_, ?_⟩
    · rw [HCUT, HX.out.qn]
    · rw [HCUT, ← HX.out.qn]
      exact own_turn (own_from0 HX.out.own (fun k hk => Nat.le_trans hww3 (HX.out.low k hk))) (grownBy_putObj' _ D (.deferred none)) (fun r e => by cases e; exact ⟨_, hK, rfl⟩)
theorem call_any (ps : Option Addr) (n cs : Nat) (pw : Option Addr) (m cw : Nat) (ws : List Wr) (t : Bool) (most : Int) (w : World) (hi : allIn w pw m cw ws) :
    Calls Try.prog 19 #[stV ps n cs pw m cw, .bool t, .int .i64 most] w (AllDone ws t most w) := by
  by_cases h8 : 8 < m
  · exact call_big ps n cs pw m cw ws t most w hi h8
  · exact call_small ps n cs pw m cw ws t most w hi h8
theorem ccnt (ps : Option Addr) (n cs : Nat) (pw : Option Addr) (m cw : Nat) (ws : List Wr) (t : Bool) (most : Int) (w : World) (hi : allIn w pw m cw ws) :
    Calls Try.prog 21 #[stV ps n cs pw m cw, .bool t, .int .i64 most] w fun e w' => e = .returned (.tuple #[.int .i64 ((allR ws t most).1.length : Int), .bool (allR ws t most).2]) ∧ Below w.heap.size w w' := by
  obtain ⟨N, hN⟩ : ∃ N, (allR ws t most).1.length = N := ⟨_, rfl⟩
  obtain ⟨b, hb⟩ : ∃ b, (allR ws t most).2 = b := ⟨_, rfl⟩
  have HA := Lib.hid (call_any ps n cs pw m cw ws t most (w.alloc (.cells #[.slice ps n cs, .slice pw m cw] 28)) ⟨hi.1.later (below_alloc (Below.refl _ _) _), hi.2⟩)
  unfold AllDone at HA
  rw [hN, hb] at HA ⊢
  unfold stV at *
  clear hi hN hb
  go_enter Try.func21, Try.ntmps21
  go_wp2_with (go_at_call 19; refine HA.out.mono ?_; rintro e w2 ⟨hb2, p2, c2, rfl, ho2⟩; have HB2 := Lib.hid hb2; clear ho2 hb2)
  go_ret2
  exact ⟨rfl, (below_alloc (Below.refl _ w) _).trans (HB2.out.mono (by rw [size_alloc]; omega))⟩
end Go.Proofs.Ytpnepooobmbfbaa.dsk
