/- What CrashKeeps wants, part 14. -/
import Derived.Test.YtpnepooobmbfbaaCrashKeepsB
import Derived.Test.YtpnepooobmbfbaaCrashKeepsG
import Derived.Test.YtpnepooobmbfbaaCrashKeepsI
import Derived.Test.YtpnepooobmbfbaaCrashKeepsK
import Derived.Test.YtpnepooobmbfbaaCrashKeepsL
import Derived.Test.YtpnepooobmbfbaaCrashKeepsM
/- What the code's choices gives: an iterator over the allowed choices. -/
namespace Go.Proofs.Ytpnepooobmbfbaa.dsk
set_option maxRecDepth 100000
open Go.ChangeShapes Go.WideShapes Go.ChangeAt Go.RowKit
open Go.Proofs.Ytpnepooobmbfbaa.rows
open Go.Proofs.Ytpnepooobmbfbaa.sec
open Go.Proofs.Ytpnepooobmbfbaa.cho (IntsIn allowed_any rallowed_any fate_of rfate_any count_any rcount_any nth_any rnth_any)
open Go.Proofs.Ytpnepooobmbfbaa.choMath
set_option linter.unusedVariables false
set_option linter.unusedSimpArgs false
attribute [local go_sem] Oper.semAt_some

theorem abides_below {β : Type} {B : Nat} {J : β → World → Prop} (h : AbidesFrom B J) {s : β} {W W' : World} (hs : J s W) (hb : Below W.heap.size W W') : J s W' :=
  h s W W' none hs ⟨hb.os, hb.tape, hb.output, hb.size, fun k hk _ => hb.block k hk⟩ (fun r e => by cases e)
/-- what the closure of choices has captured -/
structure ChoAt (S : Nat → Prop) (w : World) (bn bt be : Nat) (p : Option Addr) (m c : Nat) (t : Bool) (ws : List Wr) : Prop where
  n : Go.Boxed w bn 3 (.int .i64 (m : Int))
  t : Go.Boxed w bt 4 (.bool t)
  e : Go.Boxed w be 36 (.slice p m c)
  nS : S bn
  tS : S bt
  eS : S be
  rd : Rd w 1 (.slice p m c) m (i64s (eps ws))
  rS : InS S (.slice p m c)
theorem ChoAt.kept {S : Nat → Prop} {w w' : World} {bn bt be : Nat} {p : Option Addr} {m c : Nat} {t : Bool} {ws : List Wr} (h : ChoAt S w bn bt be p m c t ws) (k : Keeps S w w') : ChoAt S w' bn bt be p m c t ws :=
  ⟨(k.2 _ h.n.lt h.nS).trans h.n, (k.2 _ h.t.lt h.tS).trans h.t, (k.2 _ h.e.lt h.eS).trans h.e, h.nS, h.tS, h.eS, Go.Proofs.Ytpnepooobmbfbaa.dsk.Rd.kept h.rd h.rS k, h.rS⟩
set_option maxRecDepth 100000 in
set_option maxHeartbeats 2000000 in
theorem citer (n : Nat) (hn : 5 ≤ n) (S : Nat → Prop) (l bn bt be : Nat) (p : Option Addr) (m c : Nat) (t : Bool) (ws : List Wr) (hml : ws.length = m) (hm : m ≤ 8) (J Jx : List Nat → World → Prop)
    (W : World) (hA : ChoAt S W bn bt be p m c t ws) (hJ : AbidesFrom W.heap.size J)
    (hY : ∀ pre x W, J pre W → pre.length < 7000 → YieldAt Fence.wide (n - 1) Try.prog l #[.int .u64 (x : Nat)] W fun e W' =>
      (e = .returned (.bool true) ∧ J (pre ++ [x]) W' ∧ Keeps S W W') ∨ (e = .returned (.bool false) ∧ Jx (pre ++ [x]) W'))
    (h0 : J [] W) :
    CallsIn Fence.wide n Try.prog 72 #[.func (.yield l) #[] #[], .pointer (some ⟨bn, 0, none⟩), .pointer (some ⟨bt, 0, none⟩), .pointer (some ⟨be, 0, none⟩)] W fun e W' => (∃ v, e = .returned v) ∧
      ((∃ ys, ys = accs ws t (cnt (m : Int) t) ∧ J ys W') ∨ (∃ pre, pre <+: accs ws t (cnt (m : Int) t) ∧ Jx pre W')) := by
  have hn1 : 1 ≤ n := by omega
  have HA := Lib.hid hA
  have HJ := Lib.hid hJ
  have HY := Lib.hid hY
  have HJ0 := Lib.hid h0
  have HML := Lib.hid hml
  obtain ⟨N, hN⟩ : ∃ N, cnt (m : Int) t = N := ⟨_, rfl⟩
  have hN6 : N ≤ 6561 := hN ▸ cnt_small (by omega) t
  have hN7 : (N : Int) ≤ 6561 := by omega
  have HCN := Lib.hid fun w' => count_any (m : Int) t w'
  rw [hN] at HCN ⊢
  have cn := hA.n.cell
  have ct := hA.t.cell
  clear hA hJ hY h0 hml hN
  refine callsIn_of_wp Try.func72 rfl trivial ?_ rfl
  simp only [Try.ntmps72, List.size_toArray, List.length_cons, List.length_nil, Nat.reduceAdd, Nat.reduceSub, Array.replicate_succ, Array.replicate_zero, List.push_toArray, List.append_toArray, List.nil_append, List.cons_append]
  gi_wp2_with (refine ⟨trivial, ?_⟩; gi_at_call 32; refine (callsIn_wide.2 (HCN.out _)).mono ?_; rintro e w2 ⟨rfl, rfl⟩)
  clear cn ct
  gi_loopw [10] (fun kv wr => ∃ k : Nat, k ≤ N ∧ kv = .int .u64 (k : Int) ∧ Hid (J (accs ws t k) wr) ∧ Hid (Keeps S W wr))
    (fun kv _ => N - (intOf kv).toNat)
  case atStart => exact ⟨0, Nat.zero_le _, rfl, HJ0, Lib.hid (Keeps.refl _ _)⟩
  case round =>
    obtain ⟨k, hk, rfl, HJS, HK⟩ := hrel
    by_cases hlt : k < N
    · have hlt1 : (k : Int) < N := by omega
      obtain ⟨x, hx⟩ : ∃ x, nth k (m : Int) t = x := ⟨_, rfl⟩
      have HXL : Hid (x < 18446744073709551616) := Lib.hid (hx ▸ nth_lt _ _ _)
      have HNT := Lib.hid fun w' => nth_any k (m : Int) t w' (by omega)
      rw [hx] at HNT
      have HA2 := Lib.hid (HA.out.kept HK.out)
      have cn := HA2.out.n.cell
      have ct := HA2.out.t.cell
      obtain ⟨a, hal⟩ : ∃ a, alB x (eps ws) = a := ⟨_, rfl⟩
      have HALL := Lib.hid fun w' (hb : Below wr.heap.size wr w') => allowed_any x (eps ws) (.slice p m c) w' HXL.out (ints_of_rd (HA2.out.rd.later hb))
      rw [hal] at HALL
      have HACC : Hid (accs ws t (k + 1) = if a = true then accs ws t k ++ [x] else accs ws t k) := Lib.hid (by
        cases a with
        | true => rw [if_pos rfl, ← hx, ← HML.out]; rw [← hx, ← HML.out] at hal; exact accs_hit hal
        | false => rw [if_neg (by decide)]; rw [← hx, ← HML.out] at hal; exact accs_miss hal)
      have HLEN : Hid ((accs ws t k).length < 7000) := Lib.hid (by have := accs_len ws t k; omega)
      clear hx hal
      cases a with
      | false =>
        have HACC2 : Hid (accs ws t (k + 1) = accs ws t k) := Lib.hid (by rw [HACC.out]; rfl)
        gi_wp2_with (first | (refine ⟨trivial, ?_⟩; gi_at_call 31; refine (callsIn_wide.2 (HNT.out _)).mono ?_; rintro e w2 ⟨rfl, hb2⟩; have ce := (HA2.out.kept (Keeps.of_below hb2)).e.cell) | (refine ⟨trivial, ?_⟩; gi_at_call 48; refine (callsIn_wide.2 (HALL.out w2 hb2)).mono ?_; rintro e w3 ⟨rfl, rfl⟩))
        all_goals
          refine ⟨fun _ h => (by cases h), ?_⟩
          gi_wp2
          go_roundw
          case rel => exact ⟨k + 1, by omega, by go_num, Lib.hid (by rw [HACC2.out]; exact abides_below HJ.out HJS.out hb2), Lib.hid (HK.out.trans (Keeps.of_below hb2))⟩
          case measure => simp [intOf]; omega
      | true =>
        have HACC2 : Hid (accs ws t (k + 1) = accs ws t k ++ [x]) := Lib.hid (by rw [HACC.out]; rfl)
        gi_wp2_with (first | (refine ⟨trivial, ?_⟩; gi_at_call 31; refine (callsIn_wide.2 (HNT.out _)).mono ?_; rintro e w2 ⟨rfl, hb2⟩; have ce := (HA2.out.kept (Keeps.of_below hb2)).e.cell; obtain ⟨fn, tmps, assign, body, hy, hR⟩ := HY.out _ x w2 (abides_below HJ.out HJS.out hb2) HLEN.out) | (refine ⟨trivial, ?_⟩; gi_at_call 48; refine (callsIn_wide.2 (HALL.out w2 hb2)).mono ?_; rintro e w3 ⟨rfl, rfl⟩))
        have HP : Hid (accs ws t k ++ [x] <+: accs ws t N) := Lib.hid (by rw [← HACC2.out]; exact accs_pre ws t (by omega))
        refine hR.mono ?_
        rintro e W3 (⟨rfl, hJ3, hk3⟩ | ⟨rfl, hJx3⟩)
        · have HJ3 := Lib.hid hJ3
          clear hy hR hJ3
          gi_wp2
          go_roundw
          case rel => exact ⟨k + 1, by omega, by go_num, Lib.hid (by rw [HACC2.out]; exact HJ3.out), Lib.hid ((HK.out.trans (Keeps.of_below hb2)).trans hk3)⟩
          case measure => simp [intOf]; omega
        · have HJX3 := Lib.hid hJx3
          clear hy hR hJx3
          gi_wp2
          refine bodyPost_ret (results_none rfl _ _ _) rfl ?_
          exact ⟨⟨_, rfl⟩, .inr ⟨_, HP.out, HJX3.out⟩⟩
    · obtain rfl : k = N := by omega
      gi_wp2
      go_end0
      exact ⟨⟨_, rfl⟩, .inl ⟨_, rfl, HJS.out⟩⟩
/-- choices hands back a value that yields the allowed choices -/
theorem cstops (n : Nat) (hn : 5 ≤ n) (S : Nat → Prop) (bn bt be : Nat) (p : Option Addr) (m c : Nat) (t : Bool) (ws : List Wr) (hml : ws.length = m) (hm : m ≤ 8) (w : World) (hA : ChoAt S w bn bt be p m c t ws) :
    SeqStopsK Fence.wide n Try.prog 72 #[.pointer (some ⟨bn, 0, none⟩), .pointer (some ⟨bt, 0, none⟩), .pointer (some ⟨be, 0, none⟩)] (fun x : Nat => #[Value.int .u64 (x : Int)]) (Keeps S)
      (fun ys => ys = accs ws t (cnt (m : Int) t)) (fun pre => pre <+: accs ws t (cnt (m : Int) t)) 7000 w := fun l J Jx W hW hJ hJx hY h0 =>
  citer n hn S l bn bt be p m c t ws hml hm J Jx W (hA.kept (Keeps.of_below hW)) hJ hY h0
set_option maxRecDepth 100000 in
theorem cchoices (p : Option Addr) (m c : Nat) (t : Bool) (w : World) :
    Calls Try.prog 50 #[.slice p m c, .bool t] w fun e w' => e = .returned (.func (.func 72) #[] #[.pointer (some ⟨w.heap.size + 1 + 1, 0, none⟩), .pointer (some ⟨w.heap.size + 1, 0, none⟩), .pointer (some ⟨w.heap.size, 0, none⟩)]) ∧
      w' = ((w.alloc (.cells #[.slice p m c] 36)).alloc (.cells #[.bool t] 4)).alloc (.cells #[.int .i64 (m : Int)] 3) := by
  go_enter Try.func50, Try.ntmps50
  go_wp2
  go_ret
  exact ⟨rfl, rfl⟩
end Go.Proofs.Ytpnepooobmbfbaa.dsk
/- What the code's All and Count give. -/
namespace Go.Proofs.Ytpnepooobmbfbaa.dsk
set_option maxRecDepth 100000
open Go.ChangeShapes Go.WideShapes Go.ChangeAt Go.RowKit
open Go.Proofs.Ytpnepooobmbfbaa.rows
open Go.Proofs.Ytpnepooobmbfbaa.sec
open Go.Proofs.Ytpnepooobmbfbaa.cho (IntsIn allowed_any rallowed_any fate_of rfate_any count_any rcount_any nth_any rnth_any)
open Go.Proofs.Ytpnepooobmbfbaa.choMath
set_option linter.unusedVariables false
set_option linter.unusedSimpArgs false
attribute [local go_sem] Oper.semAt_some

/-! what a turn of a block that holds no cells keeps -/
theorem boxed_turn {W W' : World} {row : Option Nat} {B : Nat} {t : TypeId} {v : Value} (h : Go.Boxed W B t v) (hg : W.grownBy W' row) (hr : ∀ r, row = some r → ∃ o : Obj, W.heap[r]? = some o ∧ o.isCells = false) : Go.Boxed W' B t v :=
  h.kept hg fun e => by
    obtain ⟨o, ho, hc⟩ := hr B e.symm
    rw [show W.heap[B]? = _ from h] at ho; cases ho; cases hc
theorem own_turn {W W' : World} {row : Option Nat} {B : Nat} {e : TypeId} {sz n : Nat} {v : Value} {cs : List Value} (h : Go.Proofs.Ytpnepooobmbfbaa.rows.Own W B e sz v n cs) (hg : W.grownBy W' row) (hr : ∀ r, row = some r → ∃ o : Obj, W.heap[r]? = some o ∧ o.isCells = false) : Go.Proofs.Ytpnepooobmbfbaa.rows.Own W' B e sz v n cs := by
  refine ⟨h.1, ?_⟩
  rcases h.2 with h2 | ⟨g, cap, cur, hv, h3, h4, h5⟩
  · exact Or.inl h2
  · refine Or.inr ⟨g, cap, cur, hv, h3, (hg.block g (Array.getElem?_eq_some_iff.1 h4).1 fun e => ?_).trans h4, h5⟩
    obtain ⟨o, ho, hc⟩ := hr g e.symm
    rw [h4] at ho; cases ho; cases hc
theorem below_turn {n₀ B : Nat} {w W W' : World} {row : Option Nat} (h : Below n₀ w W) (hn : n₀ ≤ w.heap.size) (hB : n₀ ≤ B) (hg : W.grownBy W' row) (hr : ∀ r, row = some r → B ≤ r) : Below n₀ w W' :=
  h.grown hg (Nat.le_trans hn h.size) fun k e => Nat.le_trans hB (hr k e)
theorem keepsFrom_touch {T : Nat → Prop} {B : Nat} {W W' : World} (h : Touch T W W') (hT : ∀ k, T k → k < W.heap.size → ∃ cs t fr, W.heap[k]? = some (.cells cs t fr)) : KeepsFrom B W W' :=
  ⟨h.size, fun k o _ hk ho => (h.block k (Array.getElem?_eq_some_iff.1 hk).1 fun ht => by
    obtain ⟨cs, t, fr, hc⟩ := hT k ht (Array.getElem?_eq_some_iff.1 hk).1
    rw [hc] at hk; cases hk; cases ho).trans hk⟩
theorem own_from0 {w : World} {B : Nat} {e : TypeId} {sz n : Nat} {v : Value} {cs : List Value} (h : Go.Proofs.Ytpnepooobmbfbaa.rows.Own w 0 e sz v n cs) (hB : ∀ k, v.ownBlock = some k → B ≤ k) : Go.Proofs.Ytpnepooobmbfbaa.rows.Own w B e sz v n cs := by
  refine ⟨h.1, ?_⟩
  rcases h.2 with h2 | ⟨g, cap, cur, hv, h3, h4⟩
  · exact Or.inl h2
  · exact Or.inr ⟨g, cap, cur, hv, hB g (by rw [hv]; rfl), h4⟩
theorem own_cells {w : World} {B : Nat} {e : TypeId} {sz n : Nat} {v : Value} {cs : List Value} (h : Go.Proofs.Ytpnepooobmbfbaa.rows.Own w B e sz v n cs) {k : Nat} (hk : v.ownBlock = some k) : ∃ cs t fr, w.heap[k]? = some (.cells cs t fr) := by
  rcases h.2 with ⟨rfl, _⟩ | ⟨g, cap, cur, rfl, h3, h4, _⟩
  · simp [Value.ownBlock] at hk
  · obtain rfl : g = k := by simpa [Value.ownBlock] using hk
    exact ⟨_, _, _, h4⟩
theorem touch_alloc {T : Nat → Prop} {W W' : World} {o : Obj} (h : Touch T (W.alloc o) W') : Touch T W W' := (Touch.alloc (Touch.refl T W) o).trans h
theorem boxed_touch {T : Nat → Prop} {W W' : World} {B : Nat} {t : TypeId} {v : Value} (h : Go.Boxed W B t v) (ht : Touch T W W') (hT : ¬ T B) : Go.Boxed W' B t v := (ht.block B h.lt hT).trans h
/-- between two rounds of All -/
structure AllI (w : World) (b B : Nat) (most : Int) (pre : List Nat) (p : Option Addr) (q cc : Nat) (W : World) : Prop where
  l : Go.Boxed W (b + 1 + 1 + 1 + 1) 47 (.slice p q cc)
  own : Go.Proofs.Ytpnepooobmbfbaa.rows.Own W 0 40 1 (.slice p q cc) q (u64s pre)
  qn : q = pre.length
  low : ∀ k, (Value.slice p q cc).ownBlock = some k → B ≤ k
  r0 : Go.Boxed W (b + 1 + 1) 47 (.slice none 0 0)
  r1 : Go.Boxed W (b + 1 + 1 + 1) 4 (.bool false)
  bm : Go.Boxed W (b + 1) 3 (.int .i64 most)
  few : (pre.length : Int) ≤ most ∨ pre = []
  below : Below w.heap.size w W
  size : B ≤ W.heap.size
theorem AllI.turn {w : World} {b B : Nat} {most : Int} {pre : List Nat} {p : Option Addr} {q cc : Nat} {W W' : World} {row : Option Nat} (h : AllI w b B most pre p q cc W) (hB : w.heap.size ≤ B) (hg : W.grownBy W' row) (hr : ∀ r, row = some r → B ≤ r ∧ ∃ o : Obj, W.heap[r]? = some o ∧ o.isCells = false) : AllI w b B most pre p q cc W' :=
  have hr2 := fun r e => (hr r e).2
  ⟨boxed_turn h.l hg hr2, own_turn h.own hg hr2, h.qn, h.low, boxed_turn h.r0 hg hr2, boxed_turn h.r1 hg hr2, boxed_turn h.bm hg hr2, h.few, below_turn h.below (Nat.le_refl _) hB hg (fun r e => (hr r e).1), Nat.le_trans h.size hg.size⟩
/-- behind a round of All that has returned -/
structure AllX (w : World) (b B : Nat) (most : Int) (pre acc : List Nat) (x : Nat) (p : Option Addr) (q cc : Nat) (W : World) : Prop where
  pre : pre = acc ++ [x]
  own : Go.Proofs.Ytpnepooobmbfbaa.rows.Own W 0 40 1 (.slice p q cc) q (u64s acc)
  qn : q = acc.length
  low : ∀ k, (Value.slice p q cc).ownBlock = some k → B ≤ k
  r0 : Go.Boxed W (b + 1 + 1) 47 (.slice p q cc)
  r1 : Go.Boxed W (b + 1 + 1 + 1) 4 (.bool false)
  few : (acc.length : Int) ≤ most ∨ acc = []
  full : most ≤ (acc.length : Int)
  below : Below w.heap.size w W
theorem AllX.turn {w : World} {b B : Nat} {most : Int} {pre acc : List Nat} {x : Nat} {p : Option Addr} {q cc : Nat} {W W' : World} {row : Option Nat} (h : AllX w b B most pre acc x p q cc W) (hB : w.heap.size ≤ B) (hg : W.grownBy W' row) (hr : ∀ r, row = some r → B ≤ r ∧ ∃ o : Obj, W.heap[r]? = some o ∧ o.isCells = false) : AllX w b B most pre acc x p q cc W' :=
  have hr2 := fun r e => (hr r e).2
  ⟨h.pre, own_turn h.own hg hr2, h.qn, h.low, boxed_turn h.r0 hg hr2, boxed_turn h.r1 hg hr2, h.few, h.full, below_turn h.below (Nat.le_refl _) hB hg fun r e => (hr r e).1⟩

set_option maxRecDepth 100000 in
set_option maxHeartbeats 3200000 in
theorem call_big (ps : Option Addr) (n cs : Nat) (pw : Option Addr) (m cw : Nat) (ws : List Wr) (t : Bool) (most : Int) (w : World) (hi : allIn w pw m cw ws) (h8 : 8 < m) :
    Calls Try.prog 19 #[stV ps n cs pw m cw, .bool t, .int .i64 most] w (AllDone ws t most w) := by
  obtain ⟨hw, hws, hm⟩ := hi
  have hml : ws.length = m := Rd.count Wr.c hw (fun x hx => Wr.c_len (hws x hx)) (by decide)
  have hm1 : (m : Int) ≤ 1000 := by omega
  have h81 : (8 : Int) < m := by omega
  have HR : Hid (allR ws t most = ([], false)) := Lib.hid (by rw [allR, if_pos (by omega)])
  clear hml hw hws
  unfold stV
  go_enter Try.func19, Try.ntmps19
  go_wp2
  have hb : Below w.heap.size w ((((w.alloc (Obj.cells #[Value.slice ps n cs, Value.slice pw m cw] 28)).alloc (Obj.cells #[Value.int IntKind.i64 most] 3)).alloc (Obj.cells #[Value.slice none 0 0] 47)).alloc (Obj.cells #[Value.bool false] 4)) := below_alloc (below_alloc (below_alloc (below_alloc (Below.refl _ _) _) _) _) _
  refine bodyPost_ret (v := .tuple #[.slice none 0 0, .bool false]) (by simp [results, Try.f19, go_sem]) rfl ?_
  refine ⟨hb, none, 0, by rw [HR.out]; rfl, ?_⟩
  rw [HR.out]
  exact own_nil _ _ _ _
set_option maxRecDepth 100000 in
set_option maxHeartbeats 3200000 in
theorem call_small (ps : Option Addr) (n cs : Nat) (pw : Option Addr) (m cw : Nat) (ws : List Wr) (t : Bool) (most : Int) (w : World) (hi : allIn w pw m cw ws) (h8 : ¬ 8 < m) :
    Calls Try.prog 19 #[stV ps n cs pw m cw, .bool t, .int .i64 most] w (AllDone ws t most w) := by
  obtain ⟨hw, hws, hm⟩ := hi
  have hml : ws.length = m := Rd.count Wr.c hw (fun x hx => Wr.c_len (hws x hx)) (by decide)
  have HML := Lib.hid hml
  have h81 : (m : Int) ≤ 8 := by omega
  have hn1 : 1 ≤ 10 := by omega
  have HE := Lib.hid fun w' (hb : Below w.heap.size w w') => cepochs ps n cs pw m cw ws w' hws (hw.later hb) hm
  clear hml hw hws
  unfold stV at *
  refine (callsIn_wide (n := 10)).1 ?_
  refine callsIn_of_wp_marks Try.func19 rfl trivial ?_ rfl
  simp only [Try.ntmps19, List.size_toArray, List.length_cons, List.length_nil, Nat.reduceAdd, Nat.reduceSub, Array.replicate_succ, Array.replicate_zero, List.push_toArray, List.append_toArray, List.nil_append, List.cons_append]
  have HB1 : Hid (Below w.heap.size w (((((w.alloc (Obj.cells #[Value.slice ps n cs, Value.slice pw m cw] 28)).alloc (Obj.cells #[Value.int IntKind.i64 most] 3)).alloc (Obj.cells #[Value.slice none 0 0] 47)).alloc (Obj.cells #[Value.bool false] 4)).alloc (Obj.cells #[Value.slice none 0 0] 47))) := Lib.hid (below_alloc (below_alloc (below_alloc (below_alloc (below_alloc (Below.refl _ _) _) _) _) _) _)
  obtain ⟨w1, hw1⟩ : ∃ w1, w1 = (((((w.alloc (Obj.cells #[Value.slice ps n cs, Value.slice pw m cw] 28)).alloc (Obj.cells #[Value.int IntKind.i64 most] 3)).alloc (Obj.cells #[Value.slice none 0 0] 47)).alloc (Obj.cells #[Value.bool false] 4)).alloc (Obj.cells #[Value.slice none 0 0] 47)) := ⟨_, rfl⟩
  have hsz1 : w1.heap.size = w.heap.size + 1 + 1 + 1 + 1 + 1 := by rw [hw1]; simp [size_alloc]
  have B1 : Hid (Go.Boxed w1 (w.heap.size + 1) 3 (.int .i64 most)) := Lib.hid (by
    rw [hw1]
    have := Go.Boxed.new (w.alloc (Obj.cells #[Value.slice ps n cs, Value.slice pw m cw] 28)) 3 (.int .i64 most)
    rw [size_alloc] at this
    exact ((this.alloc _).alloc _).alloc _)
  have B2 : Hid (Go.Boxed w1 (w.heap.size + 1 + 1) 47 (.slice none 0 0)) := Lib.hid (by
    rw [hw1]
    have := Go.Boxed.new ((w.alloc (Obj.cells #[Value.slice ps n cs, Value.slice pw m cw] 28)).alloc (Obj.cells #[Value.int IntKind.i64 most] 3)) 47 (.slice none 0 0)
    rw [size_alloc, size_alloc] at this
    exact (this.alloc _).alloc _)
  have B3 : Hid (Go.Boxed w1 (w.heap.size + 1 + 1 + 1) 4 (.bool false)) := Lib.hid (by
    rw [hw1]
    have := Go.Boxed.new (((w.alloc (Obj.cells #[Value.slice ps n cs, Value.slice pw m cw] 28)).alloc (Obj.cells #[Value.int IntKind.i64 most] 3)).alloc (Obj.cells #[Value.slice none 0 0] 47)) 4 (.bool false)
    rw [size_alloc, size_alloc, size_alloc] at this
    exact this.alloc _)
  have B4 : Hid (Go.Boxed w1 (w.heap.size + 1 + 1 + 1 + 1) 47 (.slice none 0 0)) := Lib.hid (by
    rw [hw1]
    have := Go.Boxed.new ((((w.alloc (Obj.cells #[Value.slice ps n cs, Value.slice pw m cw] 28)).alloc (Obj.cells #[Value.int IntKind.i64 most] 3)).alloc (Obj.cells #[Value.slice none 0 0] 47)).alloc (Obj.cells #[Value.bool false] 4)) 47 (.slice none 0 0)
    rw [size_alloc, size_alloc, size_alloc, size_alloc] at this
    exact this)
  have HW1 := Lib.hid hw1
  have HBW1 : Hid (Below w.heap.size w w1) := Lib.hid (by rw [hw1]; exact HB1.out)
  have HSZ1 := Lib.hid hsz1
  have HE1 := Lib.hid (hw1 ▸ HE.out _ HB1.out)
  clear hw1 hsz1 HE HB1
  gi_wp2_with (first | (refine ⟨trivial, ?_⟩; gi_at_call 12; rw [← HW1.out]; refine (callsIn_wide.2 HE1.out).mono ?_; rintro e w2 ⟨p2, c2, rfl, ho2, hb2⟩; have HO2 := Lib.hid ho2; have HB2 := Lib.hid hb2; clear ho2 hb2) | (refine ⟨trivial, ?_⟩; gi_at_call 50; refine (callsIn_wide.2 (cchoices _ _ _ _ _)).mono ?_; rintro e w3 ⟨rfl, hw3⟩; have HW3 := Lib.hid hw3; clear hw3))
  have hs12 := HB2.out.size
  have hsz3 : w3.heap.size = w2.heap.size + 1 + 1 + 1 := by rw [HW3.out]; simp [size_alloc]
  have HB23 : Hid (Below w2.heap.size w2 w3) := Lib.hid (by rw [HW3.out]; exact below_alloc (below_alloc (below_alloc (Below.refl _ _) _) _) _)
  have HB13 : Hid (Below w1.heap.size w1 w3) := Lib.hid (HB2.out.trans (HB23.out.mono hs12))
  have HCA : Hid (ChoAt (fun b => w1.heap.size ≤ b ∧ b < w3.heap.size) w3 (w2.heap.size + 1 + 1) (w2.heap.size + 1) w2.heap.size p2 m c2 t ws) := Lib.hid (by
    have e0 := Go.Boxed.new w2 36 (.slice p2 m c2)
    have e1 := Go.Boxed.new (w2.alloc (.cells #[.slice p2 m c2] 36)) 4 (.bool t)
    have e2 := Go.Boxed.new ((w2.alloc (.cells #[.slice p2 m c2] 36)).alloc (.cells #[.bool t] 4)) 3 (.int .i64 (m : Int))
    simp only [size_alloc] at e1 e2
    refine ⟨by rw [HW3.out]; exact e2, by rw [HW3.out]; exact e1.alloc _, by rw [HW3.out]; exact (e0.alloc _).alloc _, ⟨by omega, by omega⟩, ⟨by omega, by omega⟩, ⟨by omega, by omega⟩, HO2.out.rd.later HB23.out, ?_⟩
    exact (own_inS HO2.out).mono fun b hb => ⟨hb.1, by omega⟩)
  have HZ1 : w.heap.size + 1 + 1 + 1 + 1 + 1 ≤ w1.heap.size := by have := HSZ1.out; omega
  clear hsz3
  have hK0 : Hid (∀ b v t', Go.Boxed w1 b t' v → Go.Boxed w3 b t' v) := Lib.hid (fun b v t' h => (HB13.out.block _ h.lt).trans h)
  have HBW3 : Hid (Below w.heap.size w w3) := Lib.hid (HBW1.out.trans (HB13.out.mono HBW1.out.size))
  have hww3 : w.heap.size ≤ w3.heap.size := HBW3.out.size
  have hw13 : w1.heap.size ≤ w3.heap.size := HB13.out.size
  have HI0 : Hid (∃ p q cc, AllI w w.heap.size w3.heap.size most [] p q cc w3) := Lib.hid ⟨none, 0, 0, hK0.out _ _ _ B4.out, own_nil _ _ _ _, rfl, fun k hk => by simp [Value.ownBlock] at hk, hK0.out _ _ _ B2.out, hK0.out _ _ _ B3.out, hK0.out _ _ _ B1.out, Or.inr rfl, HBW3.out, Nat.le_refl _⟩
  clear hK0 B1 B2 B3 B4 HW3 HO2 HB2 HE1 HW1 HB23
  refine wpIn_rangeFunc_ownG (F := Fence.wide) rfl hn1 (gf := 72) (lb := #[.pointer (some ⟨w2.heap.size + 1 + 1, 0, none⟩), .pointer (some ⟨w2.heap.size + 1, 0, none⟩), .pointer (some ⟨w2.heap.size, 0, none⟩)]) rfl trivial (enters_of Try.func72 (by kernel_rfl) rfl)
    (cstops 9 (by omega) (fun b => w1.heap.size ≤ b ∧ b < w3.heap.size) _ _ _ p2 m c2 t ws HML.out (by omega) w3 HCA.out) (fun h k => Keeps.trans h k)
    (fun W l o o' hl _ _ _ => ⟨by simp, fun k _ hs => World.putObj_heap_other (by omega)⟩) (Below.refl _ _) (fun _ => rfl)
    (fun pre W => ∃ p q cc, AllI w w.heap.size w3.heap.size most pre p q cc W)
    (fun c pre W => c = .ret ∧ ∃ acc x p q cc, AllX w w.heap.size w3.heap.size most pre acc x p q cc W)
    (fun pre A B row ⟨p, q, cc, h⟩ hg hr => ⟨p, q, cc, h.turn hww3 hg hr⟩)
    (fun c pre A B row ⟨hc, acc, x, p, q, cc, h⟩ hg hr => ⟨hc, acc, x, p, q, cc, h.turn hww3 hg hr⟩)
    HI0.out
    (fun x => { tmps := #[Value.agg #[Value.slice ps n cs, Value.slice pw m cw], Value.bool t, Value.int IntKind.i64 most,
          Value.pointer (some { block := w.heap.size, off := 0 }), undef,
          Value.pointer (some { block := w.heap.size + 1, off := 0 }),
          Value.pointer (some { block := w.heap.size + 1 + 1, off := 0 }),
          Value.pointer (some { block := w.heap.size + 1 + 1 + 1, off := 0 }),
          Value.pointer (some { block := w.heap.size + 1 + 1 + 1 + 1, off := 0 }), Value.int .u64 (x : Int),
          Value.pointer (some { block := w.heap.size, off := 1 }), Value.slice pw m cw, Value.int IntKind.i64 (m : Int),
          Value.bool (decide ((8 : Int) < (m : Int))), Value.agg #[Value.slice ps n cs, Value.slice pw m cw], Value.slice p2 m c2,
          Value.bool t,
          Value.func (Fn.func 72) #[]
            #[Value.pointer (some { block := w2.heap.size + 1 + 1, off := 0 }),
              Value.pointer (some { block := w2.heap.size + 1, off := 0 }),
              Value.pointer (some { block := w2.heap.size, off := 0 })],
          Value.int .u64 (x : Int), undef, undef, undef, undef, undef, undef, undef, undef, undef, undef], defers := [] }) ?assign ?body ?done ?stop
  case assign =>
    intro l x W K hK
    gi_wp2
    exact hK
  case body =>
    rintro l pre x W ⟨p, q, cc, hI⟩ hlt
    have HI := Lib.hid hI
    have c8 := hI.l.cell
    have c5 := hI.bm.cell
    have HQN := Lib.hid hI.qn
    have hq7 : q < 7000 := by have := hI.qn; omega
    have hlow := Lib.hid hI.low
    clear hI
    by_cases hst : most ≤ (q : Int)
    · have c6 := HI.out.r0.cell
      have f6 := HI.out.r0.frozen
      have c7 := HI.out.r1.cell
      have f7 := HI.out.r1.frozen
      gi_wp2
      have ht : Touch (fun k => k = w.heap.size + 1 + 1 ∨ k = w.heap.size + 1 + 1 + 1) W ((W.setCell ⟨w.heap.size + 1 + 1, 0, none⟩ (.slice p q cc)).setCell ⟨w.heap.size + 1 + 1 + 1, 0, none⟩ (.bool false)) :=
        ((Touch.refl _ W).setCell _ (Or.inl rfl) _).setCell _ (Or.inr rfl) _
      refine ⟨keepsFrom_touch ht (fun k hk _ => ?_), rfl, pre, x, p, q, cc, rfl, own_kept (S := fun k => w3.heap.size ≤ k) HI.out.own hlow.out (ht.keeps fun k hk hT => by omega), HQN.out, hlow.out, (Go.Boxed.set _ HI.out.r0).other (show w.heap.size + 1 + 1 ≠ w.heap.size + 1 + 1 + 1 by omega) _, (HI.out.r1.other (show w.heap.size + 1 + 1 + 1 ≠ w.heap.size + 1 + 1 by omega) _).set _, HI.out.few, by rw [← HQN.out]; exact hst, (HI.out.below.setCell (p := ⟨w.heap.size + 1 + 1, 0, none⟩) (by show w.heap.size ≤ w.heap.size + 1 + 1; omega) _).setCell (p := ⟨w.heap.size + 1 + 1 + 1, 0, none⟩) (by show w.heap.size ≤ w.heap.size + 1 + 1 + 1; omega) _⟩
      rcases hk with rfl | rfl
      · exact ⟨_, _, _, HI.out.r0⟩
      · exact ⟨_, _, _, HI.out.r1⟩
    · have hst2 : (q : Int) < most := by omega
      gi_wp2_with (first | (refine one_in rfl ?_; refine build_one elem_u64s (by decide) rfl (.tmp 25) rfl [.int .u64 (x : Int)] rfl rfl ?_; refine one_end ?_) | (gi_at_builtin; refine one_in rfl ?_; refine ap_rd3 elem_u64s rfl (.tmp 24) (.tmp 26) rfl _ q _ rfl (HI.out.own.alloc _) _ 1 [.int .u64 (x : Int)] rfl (rd_laid _ _ _ _ rfl) (fun u hu => by rw [List.mem_singleton.1 hu]; rfl) (by omega) ?_; intro pa ca wa hoa hta hla; have hB8 := boxed_touch (HI.out.l.alloc (.cells [Value.int .u64 (x : Int)].toArray 40)) hta (fun e => by have := hlow.out _ e; omega); have c8a := hB8.cell; have f8a := hB8.frozen; have HOA := Lib.hid hoa; have HTA := Lib.hid hta; have HLA := Lib.hid hla; have HB8 := Lib.hid hB8; clear hoa hta hla hB8; refine one_end ?_))
      have hWs := HI.out.size
      have ht : Touch (fun k => (Value.slice p q cc).ownBlock = some k ∨ k = w.heap.size + 1 + 1 + 1 + 1) W (wa.setCell ⟨w.heap.size + 1 + 1 + 1 + 1, 0, none⟩ (.slice pa (q + 1) ca)) :=
        Touch.setCell (S := fun k => (Value.slice p q cc).ownBlock = some k ∨ k = w.heap.size + 1 + 1 + 1 + 1) ((touch_alloc HTA.out).mono (fun i hi => Or.inl hi)) ⟨w.heap.size + 1 + 1 + 1 + 1, 0, none⟩ (Or.inr rfl) _
      have hlow2 : ∀ k, (Value.slice pa (q + 1) ca).ownBlock = some k → w3.heap.size ≤ k := fun k hk => by
        rcases HLA.out k hk with h | h
        · exact hlow.out k h
        · have := h.1
          rw [size_alloc] at this
          omega
      have hno : ∀ i, i < w3.heap.size → i ≠ w.heap.size + 1 + 1 + 1 + 1 → ¬ ((Value.slice p q cc).ownBlock = some i ∨ i = w.heap.size + 1 + 1 + 1 + 1) := fun i hi hne h => by
        rcases h with h | h
        · have := hlow.out i h; omega
        · exact hne h
      refine ⟨keepsFrom_touch ht (fun k hk _ => ?_), ht.keeps (fun k hk hT => hno k hk.2 (by omega) hT), pa, q + 1, ca, HB8.out.set _, own_kept (S := fun k => w3.heap.size ≤ k) (by simpa [u64s] using HOA.out) hlow2 (Keeps.set (fun k hk => by omega) _), by rw [List.length_append, ← HQN.out]; rfl, hlow2, boxed_touch HI.out.r0 ht (hno _ (by omega) (by omega)), boxed_touch HI.out.r1 ht (hno _ (by omega) (by omega)), boxed_touch HI.out.bm ht (hno _ (by omega) (by omega)), Or.inl (by rw [List.length_append, ← HQN.out, List.length_singleton]; omega), HI.out.below.trans (ht.below HI.out.below.size fun k hk => ?_), Nat.le_trans hWs ht.size⟩
      · rcases hk with hk | rfl
        · exact own_cells HI.out.own hk
        · exact ⟨_, _, _, HI.out.l⟩
      · rcases hk with hk | rfl
        · have := hlow.out k hk; omega
        · omega
  case done =>
    rintro D ys W hD rfl ⟨p, q, cc, hI⟩ hK
    have HI := Lib.hid hI
    have c8 := hI.l.cell
    have c6 := hI.r0.cell
    have f6 := hI.r0.frozen
    have c7 := hI.r1.cell
    have f7 := hI.r1.frozen
    clear hI
    gi_wp2
    have hK' := ((KeepsOthers.setCell W ⟨w.heap.size + 1 + 1, 0, none⟩ (.slice p q cc)).trans (KeepsOthers.setCell _ ⟨w.heap.size + 1 + 1 + 1, 0, none⟩ (.bool true))).same D _ hK rfl
    refine ⟨by simp, .inl ⟨_, _, rfl, run_takeDeferred hK', ?_⟩⟩
    have B6 : Go.Boxed ((W.setCell ⟨w.heap.size + 1 + 1, 0, none⟩ (.slice p q cc)).setCell ⟨w.heap.size + 1 + 1 + 1, 0, none⟩ (.bool true)) (w.heap.size + 1 + 1) 47 (.slice p q cc) := (Go.Boxed.set _ HI.out.r0).other (show w.heap.size + 1 + 1 ≠ w.heap.size + 1 + 1 + 1 by omega) _
    have B7 : Go.Boxed ((W.setCell ⟨w.heap.size + 1 + 1, 0, none⟩ (.slice p q cc)).setCell ⟨w.heap.size + 1 + 1 + 1, 0, none⟩ (.bool true)) (w.heap.size + 1 + 1 + 1) 4 (.bool true) := (HI.out.r1.other (show w.heap.size + 1 + 1 + 1 ≠ w.heap.size + 1 + 1 by omega) _).set _
    have hk5 := cell_kept B6.cell (grownBy_putObj' _ D (.deferred none)) (fun r e => by cases e; exact ⟨_, hK', rfl⟩)
    have hb5 := cell_kept B7.cell (grownBy_putObj' _ D (.deferred none)) (fun r e => by cases e; exact ⟨_, hK', rfl⟩)
    have HCUT : allR ws t most = (accs ws t (cnt (m : Int) t), true) := by
      rw [allR, if_neg (by rw [HML.out]; exact h8), HML.out]
      exact cut_all HI.out.few
    refine ⟨.tuple #[.slice p q cc, .bool true], by simp [results, Try.f19, go_sem, hk5, hb5], ?_⟩
    refine ⟨below_turn (B := w3.heap.size) ((HI.out.below.setCell (p := ⟨w.heap.size + 1 + 1, 0, none⟩) (by show w.heap.size ≤ w.heap.size + 1 + 1; omega) _).setCell (p := ⟨w.heap.size + 1 + 1 + 1, 0, none⟩) (by show w.heap.size ≤ w.heap.size + 1 + 1 + 1; omega) _) (Nat.le_refl _) hww3 (grownBy_putObj' _ D (.deferred none)) (fun r e => by cases e; exact hD), p, cc, ?_, ?_⟩
    · rw [HCUT, HI.out.qn]
    · rw [HCUT, ← HI.out.qn]
      refine own_turn (own_from0 ?_ (fun k hk => Nat.le_trans hww3 (HI.out.low k hk))) (grownBy_putObj' _ D (.deferred none)) (fun r e => by cases e; exact ⟨_, hK', rfl⟩)
      exact own_kept (S := fun k => w3.heap.size ≤ k) HI.out.own HI.out.low ((Keeps.set (fun k hk => by omega) _).trans (Keeps.set (fun k hk => by omega) _))
  case stop =>
    rintro D c pre W hD hp ⟨rfl, acc, x, p, q, cc, hX⟩ hK
    have HX := Lib.hid hX
    clear hX
    gi_wp2
    refine ⟨by simp, .inl ⟨_, _, rfl, run_takeDeferred hK, ?_⟩⟩
    have hk5 := cell_kept HX.out.r0.cell (grownBy_putObj' _ D (.deferred none)) (fun r e => by cases e; exact ⟨_, hK, rfl⟩)
    have hb5 := cell_kept HX.out.r1.cell (grownBy_putObj' _ D (.deferred none)) (fun r e => by cases e; exact ⟨_, hK, rfl⟩)
    have HCUT : allR ws t most = (acc, false) := by
      rw [allR, if_neg (by rw [HML.out]; exact h8), HML.out]
      exact cut_stop (c := x) HX.out.few HX.out.full (HX.out.pre ▸ hp)
    refine ⟨.tuple #[.slice p q cc, .bool false], by simp [results, Try.f19, go_sem, hk5, hb5], ?_⟩
    refine ⟨below_turn (B := w3.heap.size) HX.out.below (Nat.le_refl _) hww3 (grownBy_putObj' _ D (.deferred none)) (fun r e => by cases e; exact hD), p, cc, ?_, ?_⟩
    · rw [HCUT, HX.out.qn]
    · rw [HCUT, ← HX.out.qn]
      exact own_turn (own_from0 HX.out.own (fun k hk => Nat.le_trans hww3 (HX.out.low k hk))) (grownBy_putObj' _ D (.deferred none)) (fun r e => by cases e; exact ⟨_, hK, rfl⟩)
theorem call_any (ps : Option Addr) (n cs : Nat) (pw : Option Addr) (m cw : Nat) (ws : List Wr) (t : Bool) (most : Int) (w : World) (hi : allIn w pw m cw ws) :
    Calls Try.prog 19 #[stV ps n cs pw m cw, .bool t, .int .i64 most] w (AllDone ws t most w) := by
  by_cases h8 : 8 < m
  · exact call_big ps n cs pw m cw ws t most w hi h8
  · exact call_small ps n cs pw m cw ws t most w hi h8
theorem ccnt (ps : Option Addr) (n cs : Nat) (pw : Option Addr) (m cw : Nat) (ws : List Wr) (t : Bool) (most : Int) (w : World) (hi : allIn w pw m cw ws) :
    Calls Try.prog 21 #[stV ps n cs pw m cw, .bool t, .int .i64 most] w fun e w' => e = .returned (.tuple #[.int .i64 ((allR ws t most).1.length : Int), .bool (allR ws t most).2]) ∧ Below w.heap.size w w' := by
  obtain ⟨N, hN⟩ : ∃ N, (allR ws t most).1.length = N := ⟨_, rfl⟩
  obtain ⟨b, hb⟩ : ∃ b, (allR ws t most).2 = b := ⟨_, rfl⟩
  have HA := Lib.hid (call_any ps n cs pw m cw ws t most (w.alloc (.cells #[.slice ps n cs, .slice pw m cw] 28)) ⟨hi.1.later (below_alloc (Below.refl _ _) _), hi.2⟩)
  unfold AllDone at HA
  rw [hN, hb] at HA ⊢
  unfold stV at *
  clear hi hN hb
  go_enter Try.func21, Try.ntmps21
  go_wp2_with (go_at_call 19; refine HA.out.mono ?_; rintro e w2 ⟨hb2, p2, c2, rfl, ho2⟩; have HB2 := Lib.hid hb2; clear ho2 hb2)
  go_ret2
  exact ⟨rfl, (below_alloc (Below.refl _ w) _).trans (HB2.out.mono (by rw [size_alloc]; omega))⟩
end Go.Proofs.Ytpnepooobmbfbaa.dsk
/- How the code's sync settles, from the last write on, in the document's words. -/
namespace Go.Proofs.Ytpnepooobmbfbaa.dsk
set_option maxRecDepth 100000
open Go.ChangeShapes Go.WideShapes Go.ChangeAt Go.RowKit
open Go.Proofs.Ytpnepooobmbfbaa.rows
open Go.Proofs.Ytpnepooobmbfbaa.sec
set_option linter.unusedVariables false
set_option linter.unusedSimpArgs false

def minI : Int := -9223372036854775808
def lastI (ts : List (Int × Int)) (ws : List Wr) : Int := ws.foldl (fun a x => if hasT ts x = true then max a x.ep else a) minI
theorem lastI_snoc (ts : List (Int × Int)) (ws : List Wr) (j : Nat) (h : j < ws.length) : lastI ts (ws.take (j + 1)) = if hasT ts ws[j] = true then max (lastI ts (ws.take j)) ws[j].ep else lastI ts (ws.take j) := by
  rw [List.take_succ_eq_append_getElem h, lastI, List.foldl_append]; rfl
theorem lastI_fold (ts : List (Int × Int)) : ∀ (ws : List Wr) (p : Int × Bool) (a : Int), a = (if p.2 = true then p.1 else minI) → minI ≤ a → (∀ x ∈ ws, minI ≤ x.ep) →
    ws.foldl (fun a x => if hasT ts x = true then max a x.ep else a) a = (if (ws.foldl (topStep ts) p).2 = true then (ws.foldl (topStep ts) p).1 else minI)
  | [], p, a, h, _, _ => h
  | x :: ws, p, a, h, h0, hx => by
    have hx0 := hx x (List.mem_cons_self ..)
    rw [List.foldl_cons, List.foldl_cons]
    refine lastI_fold ts ws (topStep ts p x) _ ?_ ?_ fun y hy => hx y (List.mem_cons_of_mem _ hy)
    · obtain ⟨t, sb⟩ := p
      unfold topStep
      cases hh : hasT ts x <;> cases sb
      · simpa using h
      · simpa using h
      · simp at h ⊢; omega
      · simp only [if_true] at h
        by_cases hlt : t < x.ep
        · simp [hlt]; omega
        · simp [hlt]; omega
    · split <;> omega
theorem lastI_top (ts : List (Int × Int)) (ws : List Wr) (h : ∀ x ∈ ws, minI ≤ x.ep) : lastI ts ws = if (topOf ts ws).2 = true then (topOf ts ws).1 else minI := lastI_fold ts ws (0, false) minI rfl (Int.le_refl _) h
theorem madeI_is (ts : List (Int × Int)) (ws : List Wr) (h : ∀ x ∈ ws, minI ≤ x.ep) (x : Wr) (hx : minI ≤ x.ep) : madeC ts (lastI ts ws) x = madeB ts (topOf ts ws) x := by
  unfold madeC madeB
  rw [lastI_top ts ws h]
  cases hs : (topOf ts ws).2
  · simp; omega
  · simp
theorem wf_min {n : Int} (h : wf64 n) : minI ≤ n := (wf_i64 h).1
theorem settleI (safe : List (List Int)) (ws : List Wr) (ts : List (Int × Int)) (h : ∀ x ∈ ws, minI ≤ x.ep) : settle safe ws ts = (outOf (madeC ts (lastI ts ws)) ws safe, leftUpto (madeC ts (lastI ts ws)) ws ws.length) := by
  have hm : ∀ x ∈ ws, madeB ts (topOf ts ws) x = madeC ts (lastI ts ws) x := fun x hx => (madeI_is ts ws h x (h x hx)).symm
  unfold settle
  rw [outOf_congr ws safe hm, leftUpto_congr ws hm _ (Nat.le_refl _)]
/-- is a sector settled by what comes from here on? -/
def sB (mk : Wr → Bool) (l : List Wr) (p : Nat) : Bool := l.any fun y => mk y && y.pos.toNat == p
theorem sB_cons (mk : Wr → Bool) (x : Wr) (l : List Wr) (p : Nat) : sB mk (x :: l) p = ((mk x && x.pos.toNat == p) || sB mk l p) := rfl
def sL (mk : Wr → Bool) : List Wr → List Wr
  | [] => []
  | x :: r => if (!mk x && !sB mk r x.pos.toNat) = true then x :: sL mk r else sL mk r
theorem out_set (mk : Wr → Bool) (p : Nat) (s : List Int) : ∀ (l : List Wr) (o : List (List Int)), outOf mk l (o.set p s) = if sB mk l p = true then outOf mk l o else (outOf mk l o).set p s
  | [], o => by simp [outOf, sB]
  | x :: l, o => by
    have e : ∀ o', outOf mk (x :: l) o' = outOf mk l (outStep mk o' x) := fun _ => rfl
    rw [e, e, sB_cons]
    cases hm : mk x
    · have e2 : ∀ o', outStep mk o' x = o' := fun o' => by rw [outStep, hm]; rfl
      rw [e2, e2, out_set mk p s l o]
      simp
    · have e2 : ∀ o', outStep mk o' x = o'.set x.pos.toNat x.s := fun o' => by rw [outStep, hm]; rfl
      rw [e2, e2]
      by_cases hp : x.pos.toNat = p
      · subst hp
        rw [List.set_set]
        simp
      · rw [List.set_comm _ _ (Ne.symm hp), out_set mk p s l]
        have : (x.pos.toNat == p) = false := by simpa using hp
        simp [this]
theorem out_cons (mk : Wr → Bool) (x : Wr) (l : List Wr) (o : List (List Int)) : outOf mk (x :: l) o = if (mk x && !sB mk l x.pos.toNat) = true then (outOf mk l o).set x.pos.toNat x.s else outOf mk l o := by
  have e : outOf mk (x :: l) o = outOf mk l (outStep mk o x) := rfl
  rw [e, outStep]
  cases hm : mk x
  · simp
  · simp only [if_true]
    rw [out_set]
    cases hs : sB mk l x.pos.toNat <;> simp [hs]
theorem sB_pos (mk : Wr → Bool) (l : List Wr) (x : Wr) (hx : 0 ≤ x.pos) (hl : ∀ y ∈ l, 0 ≤ y.pos) : (l.any fun y => mk y && y.pos == x.pos) = sB mk l x.pos.toNat := by
  rw [sB, Bool.eq_iff_iff, List.any_eq_true, List.any_eq_true]
  constructor
  · rintro ⟨y, hy, h⟩
    refine ⟨y, hy, ?_⟩
    simp only [Bool.and_eq_true, beq_iff_eq] at h ⊢
    exact ⟨h.1, by rw [h.2]⟩
  · rintro ⟨y, hy, h⟩
    refine ⟨y, hy, ?_⟩
    simp only [Bool.and_eq_true, beq_iff_eq] at h ⊢
    have := hl y hy
    exact ⟨h.1, by omega⟩
theorem left_sL (mk : Wr → Bool) (ws : List Wr) (hp : ∀ x ∈ ws, 0 ≤ x.pos) : ∀ j, j ≤ ws.length → leftUpto mk ws j ++ sL mk (ws.drop j) = sL mk ws
  | 0, _ => by simp [leftUpto]
  | j + 1, hj => by
    have hjl : j < ws.length := by omega
    have ih := left_sL mk ws hp j (by omega)
    rw [leftUpto_snoc mk ws j hjl, List.append_assoc, ← ih, List.drop_eq_getElem_cons hjl]
    congr 1
    rw [sL]
    have h1 := sB_pos mk (ws.drop (j + 1)) ws[j] (hp _ (List.getElem_mem hjl)) fun y hy => hp y (List.mem_of_mem_drop hy)
    rw [staysB, h1]
    split <;> rfl
theorem left_all_sL (mk : Wr → Bool) (ws : List Wr) (hp : ∀ x ∈ ws, 0 ≤ x.pos) : leftUpto mk ws ws.length = sL mk ws := by
  have := left_sL mk ws hp ws.length (Nat.le_refl _)
  rwa [List.drop_length, sL, List.append_nil] at this
theorem sL_mem (mk : Wr → Bool) : ∀ (l : List Wr) (x : Wr), x ∈ sL mk l → x ∈ l
  | [], x, h => h
  | y :: l, x, h => by
    rw [sL] at h
    split at h
    · rcases List.mem_cons.1 h with rfl | h
      · exact List.mem_cons_self ..
      · exact List.mem_cons_of_mem _ (sL_mem mk l x h)
    · exact List.mem_cons_of_mem _ (sL_mem mk l x h)
theorem sL_len (mk : Wr → Bool) : ∀ (l : List Wr), (sL mk l).length ≤ l.length
  | [] => Nat.le_refl _
  | y :: l => by
    have := sL_len mk l
    rw [sL]
    split <;> simp <;> omega
/-- the array settled -/
def sRow (mk : Wr → Bool) (l : List Wr) : List Bool := (List.range 65).map (sB mk l)
theorem sRow_len (mk : Wr → Bool) (l : List Wr) : (sRow mk l).length = 65 := by simp [sRow]
theorem sRow_at (mk : Wr → Bool) (l : List Wr) (p : Nat) (h : p < 65) : (sRow mk l)[p]'(by rw [sRow_len]; exact h) = sB mk l p := by simp [sRow]
theorem sRow_nil (mk : Wr → Bool) : sRow mk [] = List.replicate 65 false := by
  apply List.ext_getElem
  · rw [sRow_len, List.length_replicate]
  · intro i h1 h2
    rw [List.getElem_replicate, sRow_at mk [] i (by rw [sRow_len] at h1; exact h1)]
    rfl
theorem sRow_hit (mk : Wr → Bool) (x : Wr) (l : List Wr) (h : mk x = true) : (sRow mk l).set x.pos.toNat true = sRow mk (x :: l) := by
  apply List.ext_getElem
  · simp [sRow]
  · intro i h1 h2
    rw [List.getElem_set]
    simp only [sRow, List.getElem_map, List.getElem_range, sB_cons, h, Bool.true_and]
    split
    · rename_i e; simp [e]
    · rename_i e
      have : (x.pos.toNat == i) = false := by simpa using e
      simp [this]
theorem sRow_stay (mk : Wr → Bool) (x : Wr) (l : List Wr) (h : mk x = false ∨ sB mk l x.pos.toNat = true) : sRow mk (x :: l) = sRow mk l := by
  apply List.ext_getElem
  · simp [sRow]
  · intro i h1 h2
    simp only [sRow, List.getElem_map, List.getElem_range, sB_cons]
    rcases h with h | h
    · simp [h]
    · by_cases e : x.pos.toNat = i
      · subst e; simp [h]
      · have : (x.pos.toNat == i) = false := by simpa using e
        simp [this]
end Go.Proofs.Ytpnepooobmbfbaa.dsk
/- What durableBy and the closure that it hands back give. -/
namespace Go.Proofs.Ytpnepooobmbfbaa.dsk
set_option maxRecDepth 100000
open Go.ChangeShapes Go.WideShapes Go.ChangeAt Go.RowKit
open Go.Proofs.Ytpnepooobmbfbaa.rows
open Go.Proofs.Ytpnepooobmbfbaa.sec
open Go.Maps
set_option linter.unusedVariables false
set_option linter.unusedSimpArgs false

theorem run_makeHintD {t k e : TypeId} (hu : Try.prog.underlying t = some (.map k e)) (q : Nat) (hq : q ≤ 1000) (w : World) : (Instr.makeMap t (some (.int .i64 (q : Int)))).run Try.prog w = .ok (.map (some w.heap.size)) (w.alloc (.map #[] 0)) := by
  simp [Instr.makeMap, run_underlying hu, go_sem, Result.andThen]
/-- what the closure of durableBy has captured -/
structure DurAt (w : World) (bw bl b : Nat) (ts : List (Int × Int)) (last : Int) : Prop where
  mapb : Go.Boxed w bw 127 (.map (some b))
  lastb : Go.Boxed w bl 3 (.int .i64 last)
  want : Wanted w b ts
theorem DurAt.kept {S : Nat → Prop} {w w' : World} {bw bl b : Nat} {ts : List (Int × Int)} {last : Int} (h : DurAt w bw bl b ts last) (k : Keeps S w w') (h1 : S bw) (h2 : S bl) (h3 : S b) : DurAt w' bw bl b ts last :=
  ⟨(k.2 _ h.mapb.lt h1).trans h.mapb, (k.2 _ h.lastb.lt h2).trans h.lastb, wanted_kept h.want h3 k⟩
theorem DurAt.later {w w' : World} {bw bl b : Nat} {ts : List (Int × Int)} {last : Int} (h : DurAt w bw bl b ts last) (k : Below w.heap.size w w') : DurAt w' bw bl b ts last := h.kept (S := fun _ => True) (Keeps.of_below k) trivial trivial trivial
def durV (bw bl : Nat) : Value := .func (.func 77) #[] #[.pointer (some ⟨bw, 0, none⟩), .pointer (some ⟨bl, 0, none⟩)]
set_option maxRecDepth 100000 in
set_option maxHeartbeats 1600000 in
theorem cdurable (x : Wr) (w : World) (bw bl b : Nat) (ts : List (Int × Int)) (last : Int) (h : DurAt w bw bl b ts last) (hx : x.ok) :
    Calls Try.prog 77 #[.agg x.c.toArray, .pointer (some ⟨bw, 0, none⟩), .pointer (some ⟨bl, 0, none⟩)] w fun e w' => e = .returned (.bool (madeC ts last x)) ∧ Below w.heap.size w w' := by
  have HX := Lib.hid hx
  have hb1 : Below w.heap.size w (w.alloc (.cells x.c.toArray 79)) := below_alloc (Below.refl _ _) _
  have hb2 : Below w.heap.size w ((w.alloc (.cells x.c.toArray 79)).alloc (.cells #[] 125)) := below_alloc hb1 _
  have hx1 : AtW (w.alloc (.cells x.c.toArray 79)) w.heap.size x := heap_alloc_new _ _
  obtain ⟨_, _, c33, c34, _⟩ := AtW.parts hx1 hx.1
  obtain ⟨_, _, _, _, c35⟩ := AtW.parts (AtW.later hx1 (below_alloc (Below.refl _ _) (.cells #[] 125))) hx.1
  have hD1 := h.later hb1
  have cm := hD1.mapb.cell
  have cl := (h.later hb2).lastb.cell
  have hlk := wanted_look hD1.want hx.2.2.1 hx.2.2.2.1
  have HB2 := Lib.hid hb2
  obtain ⟨q, hq⟩ : ∃ q, hasT ts x = q := ⟨_, rfl⟩
  rw [show decide ((x.kind, x.id) ∈ ts) = q from hq] at hlk
  have HMC : Hid (madeC ts last x = (q || decide (x.ep < last))) := Lib.hid (by rw [madeC, hq])
  rw [HMC.out]
  clear h hx hx1 hD1 hb1 hb2 hq HMC
  cases q with
  | true =>
    go_enter Try.func77, Try.ntmps77
    go_wp2
    go_ret
    exact ⟨rfl, HB2.out⟩
  | false =>
    go_enter Try.func77, Try.ntmps77
    go_wp2
    go_ret
    exact ⟨by simp, HB2.out⟩
set_option maxRecDepth 100000 in
set_option maxHeartbeats 3200000 in
theorem cdurableBy (w : World) (p : Option Addr) (q c : Nat) (ts : List (Int × Int)) (pw : Option Addr) (m cw : Nat) (ws : List Wr) (ht : Rd w 2 (.slice p q c) q (tagsC ts)) (hq : q ≤ 1000) (hwt : ∀ t ∈ ts, wf64 t.1 ∧ wf64 t.2)
    (hw : Rd w 36 (.slice pw m cw) m (wrsC ws)) (hm : m ≤ 1000) (hws : ∀ x ∈ ws, x.ok) :
    Calls Try.prog 63 #[.slice p q c, .slice pw m cw] w fun e w' => (∃ bw bl b, e = .returned (durV bw bl) ∧ DurAt w' bw bl b ts (lastI ts ws) ∧ w.heap.size ≤ bw ∧ w.heap.size ≤ bl ∧ w.heap.size ≤ b) ∧ Below w.heap.size w w' := by
  have hql : ts.length = q := Rd.count tagC ht (fun x _ => rfl) (by decide)
  have HQL := Lib.hid hql
  have HTG := Lib.hid ht
  have HWT := Lib.hid hwt
  have HR := Lib.hid hw
  have HWC := Lib.hid fun x hx => Wr.c_len (hws x hx).1
  have hml : ws.length = m := Rd.count Wr.c hw (fun x hx => Wr.c_len (hws x hx).1) (by decide)
  have HML := Lib.hid hml
  have HS := Lib.hid hws
  have hq1 : (q : Int) ≤ 1000 := by omega
  have hm1 : (m : Int) ≤ 1000 := by omega
  have hmm := fun w => run_makeHintD und_wanted q (by omega) w
  clear hql ht hwt hw hml hws
  unfold durV
  go_enter Try.func63, Try.ntmps63
  go_wp2_with fail
  obtain ⟨W1, hW1⟩ : ∃ W1, W1 = (w.alloc (.map #[] 0)).alloc (.cells #[.map (some w.heap.size)] 127) := ⟨_, rfl⟩
  have HB1 : Hid (Below w.heap.size w W1) := Lib.hid (by rw [hW1]; exact below_alloc (below_alloc (Below.refl _ w) _) _)
  have hs1 : w.heap.size + 2 ≤ W1.heap.size := by rw [hW1, size_alloc, size_alloc]; omega
  have HX1 : Hid (Go.Boxed W1 (w.heap.size + 1) 127 (.map (some w.heap.size))) := Lib.hid (by
    rw [hW1]
    have := Go.Boxed.new (w.alloc (.map #[] 0)) 127 (.map (some w.heap.size))
    rwa [size_alloc] at this)
  have HW0 : Hid (∃ D : DataW Unit, W1.ownsMap Try.prog 64 unitElem w.heap.size 0 D ∧ ∀ k i : Int, wf64 k → wf64 i → Maps.has D (tagL k i) = decide ((k, i) ∈ ts.take 0)) := by
    rw [hW1]
    refine Lib.hid ⟨.map [], ?_, fun _ _ _ _ => by simp [Maps.has]⟩
    obtain ⟨es, clock, he, r⟩ := World.ownsMap_made (P := Try.prog) w 64 unitElem
    exact ⟨es, clock, row_alloc he _, r⟩
  rw [← hW1]
  clear hW1
  go_loopw [18] (fun iv wr => ∃ (jt : Nat), jt ≤ q ∧ iv = .int .i64 (jt : Int) ∧ Hid (Below w.heap.size w wr) ∧ w.heap.size + 2 ≤ wr.heap.size ∧ Hid (Go.Boxed wr (w.heap.size + 1) 127 (.map (some w.heap.size))) ∧ Hid (∃ D : DataW Unit, wr.ownsMap Try.prog 64 unitElem w.heap.size jt D ∧ ∀ k i : Int, wf64 k → wf64 i → Maps.has D (tagL k i) = decide ((k, i) ∈ ts.take jt))) (fun iv _ => q - (intOf iv).toNat)
  case atStart => exact ⟨0, by omega, rfl, HB1, hs1, HX1, HW0⟩
  case round =>
    clear HW0 HB1 HX1
    obtain ⟨jt, hj, rfl, HB, hsr, HX1, HO⟩ := hrel
    by_cases ha : jt < q
    · have ha1 : (jt:Int) < q := by omega
      have hjl : jt < ts.length := by rw [HQL.out]; exact ha
      obtain ⟨b1, o1, rfl, hc1, hmm1, hh1, hl1, HR1⟩ := Rd.chunk tagC HTG.out (fun x _ => rfl) (by decide) ha
      have hr1 := Rd.rangeLater (HR1 jt hjl) hh1 HB.out
      have HX : Hid (ts[jt] = (ts[jt].1, ts[jt].2)) := Lib.hid rfl
      have hwx := HWT.out _ (List.getElem_mem hjl)
      obtain ⟨D, hD, hhas⟩ := HO.out
      have HH := Lib.hid hhas
      have HMORE : Hid (∀ (k i : Int) (w' : World), ts[jt] = (k, i) → wf64 k → wf64 i → w'.ownsMap Try.prog 64 unitElem w.heap.size (jt + 1) (D.put (tagL k i) (.agg [])) → (∃ D : DataW Unit, w'.ownsMap Try.prog 64 unitElem w.heap.size (jt + 1) D ∧ ∀ k i : Int, wf64 k → wf64 i → Maps.has D (tagL k i) = decide ((k, i) ∈ ts.take (jt + 1)))) := Lib.hid fun k i w' e hk hi h => wanted_more hjl e hk hi hD HH.out h
      generalize ts[jt] = x at *
      obtain ⟨x1, x2⟩ := x
      have HWX := Lib.hid hwx
      have hx1 := hr1 0 _ rfl
      have hx2 := hr1 1 _ rfl
      rw [Nat.add_zero] at hx1
      have cmb := (HX1.out.alloc (.cells #[.int .i64 x1, .int .i64 x2] 64)).cell
      clear HR1 hl1 hr1 hwx hhas HO
      have hDa : (wr.alloc (.cells #[.int .i64 x1, .int .i64 x2] 64)).ownsMap Try.prog 64 unitElem w.heap.size jt D := by
        obtain ⟨es, clock, he, r⟩ := hD
        exact ⟨es, clock, row_alloc he _, r⟩
      go_wp2_with (at_mapUpdate; refine wpList_mapUpdate_own _ rfl _ _ _ 127 rfl 64 125 key_tag und_wanted unitElem w.heap.size jt D rfl hDa (by unfold maxLen; omega) _ _ (tagL x1 x2) rfl rfl (keyAt_tag HWX.out.1 HWX.out.2) (.agg []) [] unitElem_mk ?_; intro w3 hown3 hgrow3)
      have hB3 : Below w.heap.size w w3 := by
        have h1 : Below w.heap.size w (wr.alloc (.cells #[.int .i64 x1, .int .i64 x2] 64)) := below_alloc HB.out _
        exact h1.trans ⟨hgrow3.os, hgrow3.tape, hgrow3.output, hgrow3.size, fun k hk => hgrow3.block k (by have := h1.size; omega) (fun e => by injection e; omega)⟩
      have hX3 := (HX1.out.alloc (.cells #[.int .i64 x1, .int .i64 x2] 64)).kept hgrow3 (fun e => by injection e with e; omega)
      have hs3 := hgrow3.size
      rw [size_alloc] at hs3
      go_roundw
      case rel => exact ⟨jt + 1, by omega, by go_num, Lib.hid hB3, by omega, Lib.hid hX3, Lib.hid (HMORE.out x1 x2 w3 HX.out HWX.out.1 HWX.out.2 hown3)⟩
      case measure => simp [intOf]; omega
    · obtain rfl : jt = q := by omega
      have HW1 : Hid (Wanted wr w.heap.size ts) := Lib.hid (by
        obtain ⟨D, hD, hh⟩ := HO.out
        rw [List.take_of_length_le (by rw [HQL.out]; omega)] at hh
        exact ⟨jt, D, by rw [HQL.out]; exact Nat.le_refl _, hD, hh⟩)
      clear HO hmm
      go_wp2_with fail
      rename World => wA
      have HBL : Hid (Go.Boxed (wA.alloc (.cells #[.int .i64 (-9223372036854775808)] 3)) wA.heap.size 3 (.int .i64 (lastI ts (ws.take 0)))) := Lib.hid (Go.Boxed.new wA 3 (.int .i64 (-9223372036854775808)))
      have HBW : Hid (Below wA.heap.size wA (wA.alloc (.cells #[.int .i64 (-9223372036854775808)] 3))) := Lib.hid (below_alloc (Below.refl _ _) _)
      go_loopw [28] (fun iv wr => ∃ (j : Nat), j ≤ m ∧ iv = .int .i64 (j : Int) ∧ Hid (Go.Boxed wr wA.heap.size 3 (.int .i64 (lastI ts (ws.take j)))) ∧ Hid (Below wA.heap.size wA wr)) (fun iv _ => m - (intOf iv).toNat)
      case atStart => exact ⟨0, by omega, rfl, HBL, HBW⟩
      case round =>
        clear HBL HBW
        obtain ⟨j, hj2, rfl, HBL, HBV⟩ := hrel
        by_cases hb : j < m
        · have ha1 : (j:Int) < m := by omega
          have hjl : j < ws.length := by rw [HML.out]; exact hb
          obtain ⟨b1, o1, rfl, hc1, hmm1, hh1, hl1, HR1⟩ := Rd.chunk Wr.c HR.out HWC.out (by decide) hb
          have hbwv : Below w.heap.size w wr := HB.out.trans (HBV.out.mono HB.out.size)
          have HRG := Lib.hid (Rd.rangeLater (HR1 j hjl) hh1 hbwv)
          have HOK := Lib.hid (HS.out _ (List.getElem_mem hjl))
          have HLS := Lib.hid (lastI_snoc ts ws j hjl)
          generalize ws[j] = x at *
          have HSX : Hid (Sec x.s) := Lib.hid HOK.out.1
          obtain ⟨t, ht⟩ : ∃ t, lastI ts (ws.take j) = t := ⟨_, rfl⟩
          rw [ht] at HBL HLS
          have HLK : Hid (∀ w', Below wA.heap.size wA w' → (Instr.lookup 127 (.map (some w.heap.size)) (.agg #[.int .i64 x.kind, .int .i64 x.id]) true).run Try.prog w' = .ok (.tuple #[.agg #[], .bool (hasT ts x)]) w') := Lib.hid fun w' hb => by
            have h1 := wanted_look (wanted_kept (S := fun _ => True) HW1.out trivial (Keeps.of_below hb)) HOK.out.2.2.1 HOK.out.2.2.2.1
            rw [h1]; rfl
          have HMB : Hid (∀ w', Below wA.heap.size wA w' → Go.Boxed w' (w.heap.size + 1) 127 (.map (some w.heap.size))) := Lib.hid fun w' hb => (hb.block _ HX1.out.lt).trans HX1.out
          have hsv := HBV.out.size
          have hlb := HBL.out.lt
          clear HR1 hl1 ht
          cases hqq : hasT ts x
          all_goals (rw [hqq] at HLK HLS; clear hqq)
          all_goals go_wp2_with (first | (refine load_wr rfl (.tmp 30) rfl b1 (o1 + j * 36) rfl x HSX.out HRG.out ?_) | (refine store_wr rfl _ _ rfl rfl wr.heap.size x w0 rfl rfl HSX.out sec_zero (atW_new wr) ?_; intro w2 hx2 hb2; have hbw := (below_alloc (Below.refl _ wr) _).trans hb2; have hbr2 := HBV.out.trans (hbw.mono HBV.out.size); have HX2 := Lib.hid hx2; obtain ⟨_, _, c33, c34, c35⟩ := AtW.parts hx2 HSX.out; have hlk := HLK.out w2 hbr2; have cmb := (HMB.out w2 hbr2).cell; obtain ⟨_, _, _, _, c35a⟩ := AtW.parts (AtW.later HX2.out (below_alloc (Below.refl _ w2) (.cells #[] 125))) HSX.out; have hl2 : Go.Boxed w2 wA.heap.size 3 (.int .i64 t) := (hbw.block _ hlb).trans HBL.out; have HL3 := Lib.hid (hl2.alloc (.cells #[] 125)); clear hl2; have cl3 := HL3.out.cell; have fl3 := HL3.out.frozen; have HBB2 := Lib.hid (hbr2.alloc hbr2.size (.cells #[] 125)); clear hb2 hx2))
          · go_roundw
            case rel => exact ⟨j + 1, by omega, by go_num, Lib.hid (by rw [HLS.out]; exact HL3.out), HBB2⟩
            case measure => simp [intOf]; omega
          · go_roundw
            case rel => exact ⟨j + 1, by omega, by go_num, Lib.hid (by rw [HLS.out, if_pos rfl, Int.max_def]; first | exact HL3.out.set _ | (split <;> exact HL3.out.set _)), Lib.hid (HBB2.out.setCell (p := ⟨wA.heap.size, 0, none⟩) (Nat.le_refl _) _)⟩
            case measure => simp [intOf]; omega
        · obtain rfl : m = j := by omega
          have HLE : Hid (Go.Boxed wr wA.heap.size 3 (.int .i64 (lastI ts ws))) := Lib.hid (by have h := HBL.out; rwa [List.take_of_length_le (by rw [HML.out]; omega)] at h)
          go_wp2_with fail
          go_ret
          exact ⟨⟨w.heap.size + 1, wA.heap.size, w.heap.size, rfl, ⟨(HBV.out.block _ HX1.out.lt).trans HX1.out, HLE.out, wanted_kept (S := fun _ => True) HW1.out trivial (Keeps.of_below HBV.out)⟩, by omega, HB.out.size, Nat.le_refl _⟩, HB.out.trans (HBV.out.mono HB.out.size)⟩
end Go.Proofs.Ytpnepooobmbfbaa.dsk
/- slices.Backward over writes. -/
namespace Go.Proofs.Ytpnepooobmbfbaa.dsk
set_option maxRecDepth 100000
open Go.ChangeShapes Go.WideShapes Go.ChangeAt Go.RowKit
open Go.Proofs.Ytpnepooobmbfbaa.rows
open Go.Proofs.Ytpnepooobmbfbaa.sec
set_option linter.unusedVariables false
set_option linter.unusedSimpArgs false
attribute [local go_sem] Oper.semAt_some

/-- what Backward's closure has captured -/
structure BkAt (S : Nat → Prop) (w : World) (bx : Nat) (p : Option Addr) (m c : Nat) (ws : List Wr) : Prop where
  b : Go.Boxed w bx 26 (.slice p m c)
  bS : S bx
  rd : Rd w 36 (.slice p m c) m (wrsC ws)
  rS : InS S (.slice p m c)
theorem BkAt.kept {S : Nat → Prop} {w w' : World} {bx : Nat} {p : Option Addr} {m c : Nat} {ws : List Wr} (h : BkAt S w bx p m c ws) (k : Keeps S w w') : BkAt S w' bx p m c ws :=
  ⟨(k.2 _ h.b.lt h.bS).trans h.b, h.bS, Go.Proofs.Ytpnepooobmbfbaa.dsk.Rd.kept h.rd h.rS k, h.rS⟩
/-- a write of a disk of n sectors, and its number -/
def goodW (n : Nat) (x : Wr) : Prop := x.ok ∧ 0 ≤ x.pos ∧ x.pos < (n : Int)
abbrev BkT (n : Nat) := { x : Nat × Wr // goodW n x.2 }
def bkE {n : Nat} (x : BkT n) : Array Value := #[.int .i64 (x.1.1 : Int), .agg x.1.2.c.toArray]
def bkL {n : Nat} (ys : List (BkT n)) : List Wr := (ys.map fun x => x.1.2).reverse
theorem bkL_snoc {n : Nat} (ys : List (BkT n)) (x : BkT n) : bkL (ys ++ [x]) = x.1.2 :: bkL ys := by simp [bkL]
theorem bkL_len {n : Nat} (ys : List (BkT n)) : (bkL ys).length = ys.length := by simp [bkL]
set_option maxRecDepth 100000 in
set_option maxHeartbeats 2000000 in
theorem cback1 (nn : Nat) (hn : 5 ≤ nn) (S : Nat → Prop) (n l bx : Nat) (p : Option Addr) (m c : Nat) (ws : List Wr) (hws : ∀ x ∈ ws, goodW n x) (hm : m ≤ 1000) (J Jx : List (BkT n) → World → Prop)
    (W : World) (hA : BkAt S W bx p m c ws) (hJ : AbidesFrom W.heap.size J)
    (hY : ∀ pre x W, J pre W → pre.length < 1001 → YieldAt Fence.wide (nn - 1) Try.prog l (bkE x) W fun e W' =>
      (e = .returned (.bool true) ∧ J (pre ++ [x]) W' ∧ Keeps S W W') ∨ (e = .returned (.bool false) ∧ Jx (pre ++ [x]) W'))
    (h0 : J [] W) :
    CallsIn Fence.wide nn Try.prog 78 #[.func (.yield l) #[] #[], .pointer (some ⟨bx, 0, none⟩)] W fun e W' => (∃ v, e = .returned v) ∧
      ((∃ ys, bkL ys = ws ∧ J ys W') ∨ (∃ pre, True ∧ Jx pre W')) := by
  have hn1 : 1 ≤ nn := by omega
  have HWC := Lib.hid fun x hx => Wr.c_len (hws x hx).1.1
  have hml : ws.length = m := Rd.count Wr.c hA.rd (fun x hx => Wr.c_len (hws x hx).1.1) (by decide)
  have HML := Lib.hid hml
  have HWS := Lib.hid hws
  have HA := Lib.hid hA
  have HY := Lib.hid hY
  have HJ0 := Lib.hid h0
  have cb := hA.b.cell
  have hm1 : (m : Int) ≤ 1000 := by omega
  clear hA hJ hY h0 hml hws
  refine callsIn_of_wp Try.func78 rfl trivial ?_ rfl
  simp only [Try.ntmps78, List.size_toArray, List.length_cons, List.length_nil, Nat.reduceAdd, Nat.reduceSub, Array.replicate_succ, Array.replicate_zero, List.push_toArray, List.append_toArray, List.nil_append, List.cons_append]
  gi_wp2
  clear cb
  gi_loopw [3] (fun iv wr => ∃ (r : Nat) (ys : List (BkT n)), r ≤ m ∧ iv = .int .i64 ((r : Int) - 1) ∧ Hid (bkL ys = ws.drop r) ∧ Hid (J ys wr) ∧ Hid (Keeps S W wr))
    (fun iv _ => (intOf iv + 1).toNat)
  case atStart => exact ⟨m, [], Nat.le_refl _, by first | rfl | go_num, Lib.hid (by rw [List.drop_of_length_le (by rw [HML.out]; omega)]; rfl), HJ0, Lib.hid (Keeps.refl _ _)⟩
  case round =>
    obtain ⟨r, ys, hr, rfl, HL, HJS, HK⟩ := hrel
    cases r with
    | zero =>
      gi_wp2
      go_end0
      exact ⟨⟨_, rfl⟩, .inl ⟨ys, by rw [HL.out, List.drop_zero], HJS.out⟩⟩
    | succ r =>
      have hri : ((r + 1 : Nat) : Int) - 1 = (r : Int) := by omega
      rw [hri]
      have hrm : (r : Int) < m := by omega
      have hrl : r < ws.length := by rw [HML.out]; omega
      have HA2 := Lib.hid (HA.out.kept HK.out)
      have cb := HA2.out.b.cell
      obtain ⟨b1, o1, rfl, hc1, hmm1, hh1, hl1, HR1⟩ := Rd.chunk Wr.c HA2.out.rd HWC.out (by decide) (show r < m by omega)
      have HRG := Lib.hid (HR1 r hrl)
      have HLEN : Hid (ys.length < 1001) := Lib.hid (by have := bkL_len ys; rw [HL.out, List.length_drop] at this; omega)
      have HLD : Hid (ws.drop r = ws[r] :: ws.drop (r + 1)) := Lib.hid (List.drop_eq_getElem_cons hrl)
      have HGX := Lib.hid (HWS.out _ (List.getElem_mem hrl))
      generalize ws[r] = x at *
      obtain ⟨fn, tmps, assign, body, hy, hR⟩ := HY.out ys ⟨(r, x), HGX.out⟩ wr HJS.out HLEN.out
      simp only [bkE] at hy
      have HSX : Hid (Sec x.s) := Lib.hid HGX.out.1.1
      clear HR1 hl1
      gi_wp2_with (refine one_wide ?_; refine load_wr rfl (.tmp 15) rfl b1 (o1 + r * 36) rfl x HSX.out HRG.out ?_; refine one_end ?_)
      refine hR.mono ?_
      rintro e W3 (⟨rfl, hJ3, hk3⟩ | ⟨rfl, hJx3⟩)
      · have HJ3 := Lib.hid hJ3
        clear hy hR hJ3
        gi_wp2
        go_roundw
        case rel => exact ⟨r, ys ++ [⟨(r, x), HGX.out⟩], by omega, rfl, Lib.hid (by rw [bkL_snoc, HLD.out, ← HL.out]), HJ3, Lib.hid (HK.out.trans hk3)⟩
        case measure => simp only [intOf]; omega
      · have HJX3 := Lib.hid hJx3
        clear hy hR hJx3
        gi_wp2
        refine bodyPost_ret (results_none rfl _ _ _) rfl ?_
        exact ⟨⟨_, rfl⟩, .inr ⟨_, trivial, HJX3.out⟩⟩
/-- Backward hands back a value that yields the writes from the last on -/
theorem cbstops (nn : Nat) (hn : 5 ≤ nn) (S : Nat → Prop) (n bx : Nat) (p : Option Addr) (m c : Nat) (ws : List Wr) (hws : ∀ x ∈ ws, goodW n x) (hm : m ≤ 1000) (w : World) (hA : BkAt S w bx p m c ws) :
    SeqStopsK Fence.wide nn Try.prog 78 #[.pointer (some ⟨bx, 0, none⟩)] (fun x : BkT n => bkE x) (Keeps S) (fun ys => bkL ys = ws) (fun _ => True) 1001 w := fun l J Jx W hW hJ hJx hY h0 =>
  cback1 nn hn S n l bx p m c ws hws hm J Jx W (hA.kept (Keeps.of_below hW)) hJ hY h0
set_option maxRecDepth 100000 in
theorem cbackward (p : Option Addr) (m c : Nat) (w : World) :
    Calls Try.prog 64 #[.slice p m c] w fun e w' => e = .returned (.func (.func 78) #[] #[.pointer (some ⟨w.heap.size, 0, none⟩)]) ∧ w' = w.alloc (.cells #[.slice p m c] 26) := by
  go_enter Try.func64, Try.ntmps64
  go_wp2
  go_ret
  exact ⟨rfl, rfl⟩
end Go.Proofs.Ytpnepooobmbfbaa.dsk
/- slices.Reverse over writes. -/
namespace Go.Proofs.Ytpnepooobmbfbaa.dsk
set_option maxRecDepth 100000
open Go.ChangeShapes Go.WideShapes Go.ChangeAt Go.RowKit
open Go.Proofs.Ytpnepooobmbfbaa.rows
open Go.Proofs.Ytpnepooobmbfbaa.sec
set_option linter.unusedVariables false
set_option linter.unusedSimpArgs false

/-- a write into the middle of a slice of the call's own -/
theorem own_store_wr {w : World} {B g n c : Nat} {ss : List Wr} (h : rows.Own w B 79 36 (.slice (some ⟨g, 0, none⟩) n c) n (wrsC ss)) (hs : ∀ x ∈ ss, Sec x.s) {i : Nat} (hi : i < ss.length) {x : Wr} (hl : Sec x.s) :
    ∃ w', (storeVar 79 ⟨g, i * 36, none⟩ (.agg x.c.toArray)).run Try.prog w = .ok () w' ∧ rows.Own w' B 79 36 (.slice (some ⟨g, 0, none⟩) n c) n (wrsC (ss.set i x)) ∧ Touch (· = g) w w' ∧ B ≤ g := by
  have hss : ∀ y ∈ ss.set i x, Sec y.s := fun y hy => by
    rcases List.mem_or_eq_of_mem_set hy with h | rfl
    · exact hs y h
    · exact hl
  obtain ⟨hlen, h2⟩ := h
  rcases h2 with ⟨h2, _⟩ | ⟨g', cap, cur, h1, h2, h3, h4, h5, h6, h7⟩
  · cases h2
  · cases h1
    have hcl := wrsC_len hs
    have hsn : ss.length = n := by omega
    have hxl := Wr.c_len hl
    have hsz : i * 36 + 36 ≤ cur.size := by rw [h6]; omega
    have h8 := run_storeCells_at (P := Try.prog) g (i * 36) 79 x.c 0 cur w h3 (by rw [hxl]; omega) (wr_ones x)
    rw [Nat.add_zero, hxl] at h8
    have hput := put_chunk Wr.c 36 ss i x (fun y hy => Wr.c_len (hs y hy)) hxl hi
    have hcut : cur.toList = wrsC ss ++ cur.toList.drop (n * 36) := by rw [← h7, List.take_append_drop]
    have hnew : (cur.toList.take (i * 36) ++ x.c ++ cur.toList.drop (i * 36 + 36)) = wrsC (ss.set i x) ++ cur.toList.drop (n * 36) := by
      rw [show wrsC (ss.set i x) = _ from hput.symm]
      conv => lhs; rw [hcut]
      rw [List.take_append_of_le_length (by rw [hcl]; omega), List.drop_append_of_le_length (by rw [hcl]; omega)]
      simp [List.append_assoc, wrsC]
    have hcs : (wrsC (ss.set i x)).length = n * 36 := by rw [wrsC_len hss]; simp; omega
    refine ⟨w.setRow g (wrsC (ss.set i x) ++ cur.toList.drop (n * 36)).toArray, ?_, ⟨hcs, Or.inr ⟨g, c, _, rfl, h2, setRow_heap w g _ _ _ _ h3, h4, h5, ?_, ?_⟩⟩, touch_setRow w g _, h2⟩
    · rw [← hnew]
      cases hq : Try.prog.info? 79 with
      | none => have := info_wr; simp [hq] at this
      | some q =>
        have hqs : q.size = 36 := by have := info_wr; simpa [hq] using this
        have hc : (Value.agg x.c.toArray).cells = x.c.toArray := rfl
        simp [storeVar, sizeOf, typeInfo, hq, hqs, hc, hxl, h8]
    · simp [hcs, h6]; omega
    · show (wrsC (ss.set i x) ++ cur.toList.drop (n * 36)).take (n * 36) = _
      rw [← hcs, List.take_left]
theorem step_store_own_wr {w : World} {ops : Array Oper} {o : Oper} {a : Act} {K : Act → World → Prop} {Q : Exit → Act → World → Prop} {F : Prop} (hw : Region.wanted o (yielded ops a.tmps) = true) (x y : Operand) (ho : o.op = .store 79 x y)
    (B g i n c : Nat) (hx : a.eval x = .pointer (some ⟨g, i * 36, none⟩)) (z : Wr) (hy : a.eval y = .agg z.c.toArray) (hl : Sec z.s) (ss : List Wr) (hs : ∀ x ∈ ss, Sec x.s) (hi : i < ss.length) (hg : rows.Own w B 79 36 (.slice (some ⟨g, 0, none⟩) n c) n (wrsC ss))
    (h : ∀ w', rows.Own w' B 79 36 (.slice (some ⟨g, 0, none⟩) n c) n (wrsC (ss.set i z)) → Touch (· = g) w w' → K (a.put o.dst undef) w') : if Region.wanted o (yielded ops a.tmps) = true then Oper.wp Try.prog o a w K Q else F := by
  rw [if_pos hw]
  obtain ⟨w', hrun, h1, h2, _⟩ := own_store_wr hg hs hi hl
  unfold Oper.wp execOp
  simp only [ho, hx, hy, Instr.storeAt, Instr.sureAddr, Sem.run_bind, Sem.run_pure, Result.andThen_ok, hrun]
  exact h _ h1 h2
theorem step_load_own_wr {w : World} {ops : Array Oper} {o : Oper} {a : Act} {K : Act → World → Prop} {Q : Exit → Act → World → Prop} {F : Prop} (hw : Region.wanted o (yielded ops a.tmps) = true) (x : Operand) (ho : o.op = .load 79 x)
    (b off : Nat) (hx : a.eval x = .pointer (some ⟨b, off, none⟩)) (y : Wr) (hs : Sec y.s) (hg : w.rangeAt b off y.c) (h : K (a.put o.dst (.agg y.c.toArray)) w) : if Region.wanted o (yielded ops a.tmps) = true then Oper.wp Try.prog o a w K Q else F := by
  rw [if_pos hw]
  exact wp_load_mid 79 x ho b off hx y.c _ hg und_wr rfl (by rw [info_wr, Wr.c_len hs]) h
/-- behind i rounds of Reverse -/
def rv (l : List Wr) (i : Nat) : List Wr := (List.range l.length).map fun k => if k < i ∨ l.length - i ≤ k then l.getD (l.length - 1 - k) w0 else l.getD k w0
theorem rv_len (l : List Wr) (i : Nat) : (rv l i).length = l.length := by simp [rv]
theorem rv_at (l : List Wr) (i k : Nat) (h : k < l.length) : (rv l i)[k]'(by rw [rv_len]; exact h) = if k < i ∨ l.length - i ≤ k then l.getD (l.length - 1 - k) w0 else l.getD k w0 := by simp [rv]
theorem rv_zero (l : List Wr) : rv l 0 = l := by
  apply List.ext_getElem
  · exact rv_len l 0
  · intro k h1 h2
    rw [rv_at l 0 k h2, if_neg (by omega)]
    simp [List.getD, h2]
theorem rv_end (l : List Wr) (i : Nat) (h : l.length ≤ 2 * i + 1) : rv l i = l.reverse := by
  apply List.ext_getElem
  · rw [rv_len, List.length_reverse]
  · intro k h1 h2
    rw [rv_len] at h1
    rw [rv_at l i k h1, List.getElem_reverse]
    split
    · simp [List.getD, show l.length - 1 - k < l.length by omega]
    · have : l.length - 1 - k = k := by omega
      simp [List.getD, h1, this]
theorem rv_swap (l : List Wr) (i : Nat) (h : 2 * i + 1 < l.length) : ((rv l i).set i (l.getD (l.length - 1 - i) w0)).set (l.length - 1 - i) (l.getD i w0) = rv l (i + 1) := by
  apply List.ext_getElem
  · simp [rv_len]
  · intro k h1 h2
    rw [rv_len] at h2
    rw [List.getElem_set, List.getElem_set, rv_at l (i + 1) k h2]
    by_cases e1 : l.length - 1 - i = k
    · rw [if_pos e1, if_pos (by omega)]
      congr 1; omega
    · rw [if_neg e1]
      by_cases e2 : i = k
      · rw [if_pos e2, if_pos (by omega), e2]
      · rw [if_neg e2, rv_at l i k h2]
        by_cases e3 : k < i ∨ l.length - i ≤ k
        · rw [if_pos e3, if_pos (by omega)]
        · rw [if_neg e3, if_neg (by omega)]
theorem rv_mem (l : List Wr) (i : Nat) (hs : ∀ x ∈ l, Sec x.s) : ∀ x ∈ rv l i, Sec x.s := by
  intro x hx
  obtain ⟨k, hk, rfl⟩ := List.mem_iff_getElem.1 hx
  rw [rv_len] at hk
  rw [rv_at l i k hk]
  split
  · simp only [List.getD, List.getElem?_eq_getElem (show l.length - 1 - k < l.length by omega), Option.getD_some]
    exact hs _ (List.getElem_mem _)
  · simp only [List.getD, List.getElem?_eq_getElem hk, Option.getD_some]
    exact hs _ (List.getElem_mem _)
set_option maxRecDepth 100000 in
set_option maxHeartbeats 3200000 in
theorem creverse (w : World) (p : Option Addr) (q c : Nat) (l : List Wr) (h : rows.Own w 0 79 36 (.slice p q c) q (wrsC l)) (hs : ∀ x ∈ l, Sec x.s) (hq : q ≤ 1000) :
    Calls Try.prog 65 #[.slice p q c] w fun e w' => e = .returned (.tuple #[]) ∧ rows.Own w' 0 79 36 (.slice p q c) q (wrsC l.reverse) ∧ Touch (fun k => (Value.slice p q c).ownBlock = some k) w w' := by
  have hlq : l.length = q := by
    have := h.rd.cells
    rw [wrsC_len hs] at this
    omega
  have HLQ := Lib.hid hlq
  have HS := Lib.hid hs
  have HO0 : Hid (rows.Own w 0 79 36 (.slice p q c) q (wrsC (rv l 0))) := Lib.hid (by rw [rv_zero]; exact h)
  have hq1 : (q : Int) ≤ 1000 := by omega
  clear h hs hlq
  go_enter Try.func65, Try.ntmps65
  go_wp2
  go_loopw [2, 3] (fun iv jv wr => ∃ (i : Nat), 2 * i ≤ q + 1 ∧ iv = .int .i64 (i : Int) ∧ jv = .int .i64 ((q : Int) - 1 - i) ∧ Hid (rows.Own wr 0 79 36 (.slice p q c) q (wrsC (rv l i))) ∧ Hid (Touch (fun k => (Value.slice p q c).ownBlock = some k) w wr)) (fun iv _ _ => q + 1 - (intOf iv).toNat)
  case atStart => exact ⟨0, by omega, rfl, by simp, HO0, Lib.hid (Touch.refl _ _)⟩
  case round =>
    clear HO0
    obtain ⟨i, hi, rfl, rfl, HO, HT⟩ := hrel
    by_cases ha : 2 * i + 1 < q
    · have ha1 : (i : Int) < (q : Int) - 1 - i := by omega
      obtain ⟨j, hj⟩ : ∃ j, j = q - 1 - i := ⟨_, rfl⟩
      have hjv : (q : Int) - 1 - i = (j : Int) := by omega
      rw [hjv] at ha1 ⊢
      have hjq : (j : Int) < q := by omega
      have hiq : (i : Int) < q := by omega
      have HJ := Lib.hid hj
      have HJV := Lib.hid hjv
      clear hj hjv
      obtain ⟨g, hg⟩ := own_some HO.out (by omega)
      subst hg
      have HOD : Hid (rows.Own wr.drew 0 79 36 (.slice (some ⟨g, 0, none⟩) q c) q (wrsC (rv l i))) := Lib.hid HO.out.drew
      have hil : i < l.length := by rw [HLQ.out]; omega
      have hjl : j < l.length := by rw [HLQ.out]; have := HJ.out; omega
      have hji : l.length - 1 - i = j := by have h1 := HLQ.out; have h2 := HJ.out; omega
      have HSW := Lib.hid (rv_swap l i (by rw [HLQ.out]; exact ha))
      obtain ⟨xi, hxi⟩ : ∃ x, l.getD i w0 = x := ⟨_, rfl⟩
      obtain ⟨xj, hxj⟩ : ∃ x, l.getD j w0 = x := ⟨_, rfl⟩
      have hei : (rv l i)[i]'(by rw [rv_len]; exact hil) = xi := by rw [rv_at l i i hil, if_neg (by omega), hxi]
      have hej : (rv l i)[j]'(by rw [rv_len]; exact hjl) = xj := by rw [rv_at l i j hjl, if_neg (by omega), hxj]
      have HMEM := Lib.hid (rv_mem l i HS.out)
      have HXI : Hid (Sec xi.s) := Lib.hid (hei ▸ HMEM.out _ (List.getElem_mem _))
      have HXJ : Hid (Sec xj.s) := Lib.hid (hej ▸ HMEM.out _ (List.getElem_mem _))
      have HRV : Hid (∀ k (hk : k < l.length), wr.drew.rangeAt g (k * 36) ((rv l i)[k]'(by rw [rv_len]; exact hk)).c) := Lib.hid (fun k hk => by
        obtain ⟨b, off, hbo, _, _, _, _, hr⟩ := Rd.chunk Wr.c HOD.out.rd (fun x hx => Wr.c_len (HMEM.out x hx)) (by decide) (j := k) (by rw [← HLQ.out]; exact hk)
        cases hbo
        have := hr k (by rw [rv_len]; exact hk)
        rwa [Nat.zero_add] at this)
      have HRI : Hid (wr.drew.rangeAt g (i * 36) xi.c) := Lib.hid (hei ▸ HRV.out i hil)
      have HRJ : Hid (wr.drew.rangeAt g (j * 36) xj.c) := Lib.hid (hej ▸ HRV.out j hjl)
      have HSW2 : Hid (((rv l i).set i xj).set j xi = rv l (i + 1)) := Lib.hid (by have h := HSW.out; rw [hji, hxi, hxj] at h; exact h)
      have HSM : Hid (∀ x ∈ (rv l i).set i xj, Sec x.s) := Lib.hid (fun x hx => by
        rcases List.mem_or_eq_of_mem_set hx with h | rfl
        · exact HMEM.out x h
        · exact HXJ.out)
      clear hei hej hxi hxj hji HSW HRV
      go_wp2_with fail
      refine wp_region_held_drew (S := fun _ => True) (by kernel_rfl) trivial (fun hH0 => ?_)
      refine wpAnyH_take (i := 0) (oi := { dst := some 14, op := Op.move (Operand.tmp 0), type := 26, pos := "slices.go:485", after := #[], guard := none }) (v := ?_) rfl (by kernel_rfl) (by kernel_rfl) (by kernel_rfl) (fun _ _ _ h => h) (Or.inl ⟨by rfl, ?_⟩) (by assumption) ?_
      rotate_left
      · (intro w' hSw; go_simp; try with_reducible rfl)
      try simp only [Act.put, List.setIfInBounds_toArray, List.set_cons_zero, List.set_cons_succ]
      refine wpAnyH_take (i := 1) (oi := { dst := some 15, op := Op.move (Operand.tmp 2), type := 3, pos := "slices.go:485", after := #[], guard := none }) (v := ?_) rfl (by kernel_rfl) (by kernel_rfl) (by kernel_rfl) (fun _ _ _ h => h) (Or.inl ⟨by rfl, ?_⟩) (by assumption) ?_
      rotate_left
      · (intro w' hSw; go_simp; try with_reducible rfl)
      try simp only [Act.put, List.setIfInBounds_toArray, List.set_cons_zero, List.set_cons_succ]
      refine wpAnyH_take (i := 2) (oi := { dst := some 16, op := Op.move (Operand.tmp 0), type := 26, pos := "slices.go:485", after := #[{ on := 13, ground := Ground.gcOnly Departure.lateStores }], guard := none }) (v := ?_) rfl (by kernel_rfl) (by kernel_rfl) (by kernel_rfl) (fun _ _ _ h => h) (Or.inl ⟨by rfl, ?_⟩) (by assumption) ?_
      rotate_left
      · (intro w' hSw; go_simp; try with_reducible rfl)
      try simp only [Act.put, List.setIfInBounds_toArray, List.set_cons_zero, List.set_cons_succ]
      refine wpAnyH_take (i := 3) (oi := { dst := some 17, op := Op.move (Operand.tmp 3), type := 3, pos := "slices.go:485", after := #[{ on := 13, ground := Ground.gcOnly Departure.lateStores }], guard := none }) (v := ?_) rfl (by kernel_rfl) (by kernel_rfl) (by kernel_rfl) (fun _ _ _ h => h) (Or.inl ⟨by rfl, ?_⟩) (by assumption) ?_
      rotate_left
      · (intro w' hSw; go_simp; try with_reducible rfl)
      try simp only [Act.put, List.setIfInBounds_toArray, List.set_cons_zero, List.set_cons_succ]
      refine wpAnyH_take (i := 4) (oi := { dst := some 18, op := Op.move (Operand.tmp 0), type := 26, pos := "slices.go:485", after := #[], guard := none }) (v := ?_) rfl (by kernel_rfl) (by kernel_rfl) (by kernel_rfl) (fun _ _ _ h => h) (Or.inl ⟨by rfl, ?_⟩) (by assumption) ?_
      rotate_left
      · (intro w' hSw; go_simp; try with_reducible rfl)
      try simp only [Act.put, List.setIfInBounds_toArray, List.set_cons_zero, List.set_cons_succ]
      refine wpAnyH_take (i := 5) (oi := { dst := some 19, op := Op.move (Operand.tmp 3), type := 3, pos := "slices.go:485", after := #[], guard := none }) (v := ?_) rfl (by kernel_rfl) (by kernel_rfl) (by kernel_rfl) (fun _ _ _ h => h) (Or.inl ⟨by rfl, ?_⟩) (by assumption) ?_
      rotate_left
      · (intro w' hSw; go_simp; try with_reducible rfl)
      try simp only [Act.put, List.setIfInBounds_toArray, List.set_cons_zero, List.set_cons_succ]
      refine wpAnyH_take (i := 6) (oi := { dst := some 20, op := Op.indexAddr 26 (Operand.tmp 18) (Operand.tmp 19), type := 0, pos := "slices.go:485", after := #[{ on := 4, ground := Ground.data }, { on := 5, ground := Ground.data }], guard := none }) (v := ?_) rfl (by kernel_rfl) (by kernel_rfl) (by kernel_rfl) (fun _ _ _ h => h) (Or.inl ⟨by rfl, ?_⟩) (by assumption) ?_
      rotate_left
      · (intro w' hSw; go_simp; try with_reducible rfl)
      try simp only [Act.put, List.setIfInBounds_toArray, List.set_cons_zero, List.set_cons_succ]
      refine wpAnyH_take (i := 8) (oi := { dst := some 22, op := Op.move (Operand.tmp 0), type := 26, pos := "slices.go:485", after := #[], guard := none }) (v := ?_) rfl (by kernel_rfl) (by kernel_rfl) (by kernel_rfl) (fun _ _ _ h => h) (Or.inl ⟨by rfl, ?_⟩) (by assumption) ?_
      rotate_left
      · (intro w' hSw; go_simp; try with_reducible rfl)
      try simp only [Act.put, List.setIfInBounds_toArray, List.set_cons_zero, List.set_cons_succ]
      refine wpAnyH_take (i := 9) (oi := { dst := some 23, op := Op.move (Operand.tmp 2), type := 3, pos := "slices.go:485", after := #[], guard := none }) (v := ?_) rfl (by kernel_rfl) (by kernel_rfl) (by kernel_rfl) (fun _ _ _ h => h) (Or.inl ⟨by rfl, ?_⟩) (by assumption) ?_
      rotate_left
      · (intro w' hSw; go_simp; try with_reducible rfl)
      try simp only [Act.put, List.setIfInBounds_toArray, List.set_cons_zero, List.set_cons_succ]
      refine wpAnyH_take (i := 10) (oi := { dst := some 24, op := Op.indexAddr 26 (Operand.tmp 22) (Operand.tmp 23), type := 0, pos := "slices.go:485", after := #[{ on := 8, ground := Ground.data }, { on := 9, ground := Ground.data }], guard := none }) (v := ?_) rfl (by kernel_rfl) (by kernel_rfl) (by kernel_rfl) (fun _ _ _ h => h) (Or.inl ⟨by rfl, ?_⟩) (by assumption) ?_
      rotate_left
      · (intro w' hSw; go_simp; try with_reducible rfl)
      try simp only [Act.put, List.setIfInBounds_toArray, List.set_cons_zero, List.set_cons_succ]
      -- 7, 11
      refine wpAnyH_ready (rs := [7, 11]) (by kernel_rfl) (by simp) ?_
      refine AllReadyH.cons (o := { dst := some 21, op := Op.load 79 (Operand.tmp 20), type := 79, pos := "slices.go:485", after := #[{ on := 6, ground := Ground.data }], guard := none }) rfl (fun K hK => ?_) (AllReadyH.cons (o := { dst := some 25, op := Op.load 79 (Operand.tmp 24), type := 79, pos := "slices.go:485", after := #[{ on := 10, ground := Ground.data }], guard := none }) rfl (fun K hK => ?_) AllReadyH.nil)
      · refine step_load_own_wr (by rfl) _ (by rfl) g (j * 36) (by rfl) xj HXJ.out HRJ.out ?_
        dsimp only
        refine hK.out _ _ trivial (fun hHeld => ?_)
        clear hK K
        try simp only [Act.put, List.setIfInBounds_toArray, List.set_cons_zero, List.set_cons_succ]
        -- 11
        refine wpAnyH_ready (rs := [11]) (by kernel_rfl) (by simp) ?_
        refine AllReadyH.cons (o := { dst := some 25, op := Op.load 79 (Operand.tmp 24), type := 79, pos := "slices.go:485", after := #[{ on := 10, ground := Ground.data }], guard := none }) rfl (fun K hK => ?_) AllReadyH.nil
        refine step_load_own_wr (by rfl) _ (by rfl) g (i * 36) (by rfl) xi HXI.out HRI.out ?_
        dsimp only
        refine hK.out _ _ trivial (fun hHeld => ?_)
        clear hK K
        try simp only [Act.put, List.setIfInBounds_toArray, List.set_cons_zero, List.set_cons_succ]
        refine wpAnyH_take (i := 12) (oi := { dst := some 26, op := Op.indexAddr 26 (Operand.tmp 14) (Operand.tmp 15), type := 0, pos := "slices.go:485", after := #[{ on := 0, ground := Ground.data }, { on := 1, ground := Ground.data }, { on := 0, ground := Ground.phase }, { on := 1, ground := Ground.phase }, { on := 2, ground := Ground.textOnly Departure.lateStores }, { on := 3, ground := Ground.textOnly Departure.lateStores }, { on := 4, ground := Ground.phase }, { on := 5, ground := Ground.phase }, { on := 6, ground := Ground.phase }, { on := 7, ground := Ground.phase }, { on := 8, ground := Ground.textOnly Departure.lateStores }, { on := 9, ground := Ground.textOnly Departure.lateStores }, { on := 10, ground := Ground.textOnly Departure.lateStoresUnsure }, { on := 11, ground := Ground.phase }], guard := none }) (v := ?_) rfl (by kernel_rfl) (by kernel_rfl) (by kernel_rfl) (fun _ _ _ h => h) (Or.inl ⟨by rfl, ?_⟩) (by assumption) ?_
        rotate_left
        · (intro w' hSw; go_simp; try with_reducible rfl)
        try simp only [Act.put, List.setIfInBounds_toArray, List.set_cons_zero, List.set_cons_succ]
        -- 13
        refine wpAnyH_ready (rs := [13]) (by kernel_rfl) (by simp) ?_
        refine AllReadyH.cons (o := { dst := none, op := Op.store 79 (Operand.tmp 26) (Operand.tmp 21), type := 0, pos := "slices.go:485", after := #[{ on := 12, ground := Ground.data }, { on := 7, ground := Ground.data }, { on := 0, ground := Ground.phase }, { on := 1, ground := Ground.phase }, { on := 2, ground := Ground.textOnly Departure.lateStores }, { on := 3, ground := Ground.textOnly Departure.lateStores }, { on := 4, ground := Ground.phase }, { on := 5, ground := Ground.phase }, { on := 6, ground := Ground.phase }, { on := 7, ground := Ground.phase }, { on := 8, ground := Ground.textOnly Departure.lateStores }, { on := 9, ground := Ground.textOnly Departure.lateStores }, { on := 10, ground := Ground.textOnly Departure.lateStoresUnsure }, { on := 11, ground := Ground.phase }], guard := none }) rfl (fun K hK => ?_) AllReadyH.nil
        refine step_store_own_wr (by rfl) _ _ (by rfl) 0 g i q c (by rfl) xj (by rfl) HXJ.out _ HMEM.out (by rw [rv_len]; exact hil) HOD.out ?_
        intro w13 ho13 ht13
        have HO13 := Lib.hid ho13
        have HT13 := Lib.hid ht13
        clear ho13 ht13
        dsimp only
        refine hK.out _ _ trivial (fun hHeld => ?_)
        clear hK K
        try simp only [Act.put, List.setIfInBounds_toArray, List.set_cons_zero, List.set_cons_succ]
        refine wpAnyH_take (i := 14) (oi := { dst := some 27, op := Op.indexAddr 26 (Operand.tmp 16) (Operand.tmp 17), type := 0, pos := "slices.go:485", after := #[{ on := 2, ground := Ground.data }, { on := 3, ground := Ground.data }, { on := 0, ground := Ground.phase }, { on := 1, ground := Ground.phase }, { on := 2, ground := Ground.phase }, { on := 3, ground := Ground.phase }, { on := 4, ground := Ground.phase }, { on := 5, ground := Ground.phase }, { on := 6, ground := Ground.phase }, { on := 7, ground := Ground.phase }, { on := 8, ground := Ground.phase }, { on := 9, ground := Ground.phase }, { on := 10, ground := Ground.phase }, { on := 11, ground := Ground.phase }, { on := 12, ground := Ground.phase }, { on := 13, ground := Ground.phase }], guard := none }) (v := ?_) rfl (by kernel_rfl) (by kernel_rfl) (by kernel_rfl) (fun _ _ _ h => h) (Or.inl ⟨by rfl, ?_⟩) (by assumption) ?_
        rotate_left
        · (intro w' hSw; go_simp; try with_reducible rfl)
        try simp only [Act.put, List.setIfInBounds_toArray, List.set_cons_zero, List.set_cons_succ]
        -- 15
        refine wpAnyH_ready (rs := [15]) (by kernel_rfl) (by simp) ?_
        refine AllReadyH.cons (o := { dst := none, op := Op.store 79 (Operand.tmp 27) (Operand.tmp 25), type := 0, pos := "slices.go:485", after := #[{ on := 14, ground := Ground.data }, { on := 11, ground := Ground.data }, { on := 13, ground := Ground.chain }, { on := 0, ground := Ground.phase }, { on := 1, ground := Ground.phase }, { on := 2, ground := Ground.phase }, { on := 3, ground := Ground.phase }, { on := 4, ground := Ground.phase }, { on := 5, ground := Ground.phase }, { on := 6, ground := Ground.phase }, { on := 7, ground := Ground.phase }, { on := 8, ground := Ground.phase }, { on := 9, ground := Ground.phase }, { on := 10, ground := Ground.phase }, { on := 11, ground := Ground.phase }, { on := 12, ground := Ground.phase }, { on := 13, ground := Ground.phase }], guard := none }) rfl (fun K hK => ?_) AllReadyH.nil
        refine step_store_own_wr (by rfl) _ _ (by rfl) 0 g j q c (by rfl) xi (by rfl) HXI.out _ HSM.out (by rw [List.length_set, rv_len]; exact hjl) HO13.out ?_
        intro w15 ho15 ht15
        have HO15 := Lib.hid ho15
        have HT15 := Lib.hid ht15
        clear ho15 ht15
        dsimp only
        refine hK.out _ _ trivial (fun hHeld => ?_)
        clear hK K
        try simp only [Act.put, List.setIfInBounds_toArray, List.set_cons_zero, List.set_cons_succ]
        refine wpAnyH_done (by kernel_rfl) ?_ _
        have hT5 : Touch (fun k => (Value.slice (some ⟨g, 0, none⟩) q c).ownBlock = some k) w w15 := HT.out.trans (((Touch.refl _ wr).drew.trans (HT13.out.mono (fun k hk => by rw [hk]; rfl))).trans (HT15.out.mono (fun k hk => by rw [hk]; rfl)))
        have HT5 := Lib.hid hT5
        clear hT5 hH0
        go_wp2_with fail
        refine ⟨⟨i + 1, by omega, by go_num, ?_, Lib.hid (by rw [← HSW2.out]; exact HO15.out), HT5⟩, by simp [intOf]; omega⟩
        have := HJV.out
        go_num
      · refine step_load_own_wr (by rfl) _ (by rfl) g (i * 36) (by rfl) xi HXI.out HRI.out ?_
        dsimp only
        refine hK.out _ _ trivial (fun hHeld => ?_)
        clear hK K
        try simp only [Act.put, List.setIfInBounds_toArray, List.set_cons_zero, List.set_cons_succ]
        -- 7
        refine wpAnyH_ready (rs := [7]) (by kernel_rfl) (by simp) ?_
        refine AllReadyH.cons (o := { dst := some 21, op := Op.load 79 (Operand.tmp 20), type := 79, pos := "slices.go:485", after := #[{ on := 6, ground := Ground.data }], guard := none }) rfl (fun K hK => ?_) AllReadyH.nil
        refine step_load_own_wr (by rfl) _ (by rfl) g (j * 36) (by rfl) xj HXJ.out HRJ.out ?_
        dsimp only
        refine hK.out _ _ trivial (fun hHeld => ?_)
        clear hK K
        try simp only [Act.put, List.setIfInBounds_toArray, List.set_cons_zero, List.set_cons_succ]
        refine wpAnyH_take (i := 12) (oi := { dst := some 26, op := Op.indexAddr 26 (Operand.tmp 14) (Operand.tmp 15), type := 0, pos := "slices.go:485", after := #[{ on := 0, ground := Ground.data }, { on := 1, ground := Ground.data }, { on := 0, ground := Ground.phase }, { on := 1, ground := Ground.phase }, { on := 2, ground := Ground.textOnly Departure.lateStores }, { on := 3, ground := Ground.textOnly Departure.lateStores }, { on := 4, ground := Ground.phase }, { on := 5, ground := Ground.phase }, { on := 6, ground := Ground.phase }, { on := 7, ground := Ground.phase }, { on := 8, ground := Ground.textOnly Departure.lateStores }, { on := 9, ground := Ground.textOnly Departure.lateStores }, { on := 10, ground := Ground.textOnly Departure.lateStoresUnsure }, { on := 11, ground := Ground.phase }], guard := none }) (v := ?_) rfl (by kernel_rfl) (by kernel_rfl) (by kernel_rfl) (fun _ _ _ h => h) (Or.inl ⟨by rfl, ?_⟩) (by assumption) ?_
        rotate_left
        · (intro w' hSw; go_simp; try with_reducible rfl)
        try simp only [Act.put, List.setIfInBounds_toArray, List.set_cons_zero, List.set_cons_succ]
        -- 13
        refine wpAnyH_ready (rs := [13]) (by kernel_rfl) (by simp) ?_
        refine AllReadyH.cons (o := { dst := none, op := Op.store 79 (Operand.tmp 26) (Operand.tmp 21), type := 0, pos := "slices.go:485", after := #[{ on := 12, ground := Ground.data }, { on := 7, ground := Ground.data }, { on := 0, ground := Ground.phase }, { on := 1, ground := Ground.phase }, { on := 2, ground := Ground.textOnly Departure.lateStores }, { on := 3, ground := Ground.textOnly Departure.lateStores }, { on := 4, ground := Ground.phase }, { on := 5, ground := Ground.phase }, { on := 6, ground := Ground.phase }, { on := 7, ground := Ground.phase }, { on := 8, ground := Ground.textOnly Departure.lateStores }, { on := 9, ground := Ground.textOnly Departure.lateStores }, { on := 10, ground := Ground.textOnly Departure.lateStoresUnsure }, { on := 11, ground := Ground.phase }], guard := none }) rfl (fun K hK => ?_) AllReadyH.nil
        refine step_store_own_wr (by rfl) _ _ (by rfl) 0 g i q c (by rfl) xj (by rfl) HXJ.out _ HMEM.out (by rw [rv_len]; exact hil) HOD.out ?_
        intro w13 ho13 ht13
        have HO13 := Lib.hid ho13
        have HT13 := Lib.hid ht13
        clear ho13 ht13
        dsimp only
        refine hK.out _ _ trivial (fun hHeld => ?_)
        clear hK K
        try simp only [Act.put, List.setIfInBounds_toArray, List.set_cons_zero, List.set_cons_succ]
        refine wpAnyH_take (i := 14) (oi := { dst := some 27, op := Op.indexAddr 26 (Operand.tmp 16) (Operand.tmp 17), type := 0, pos := "slices.go:485", after := #[{ on := 2, ground := Ground.data }, { on := 3, ground := Ground.data }, { on := 0, ground := Ground.phase }, { on := 1, ground := Ground.phase }, { on := 2, ground := Ground.phase }, { on := 3, ground := Ground.phase }, { on := 4, ground := Ground.phase }, { on := 5, ground := Ground.phase }, { on := 6, ground := Ground.phase }, { on := 7, ground := Ground.phase }, { on := 8, ground := Ground.phase }, { on := 9, ground := Ground.phase }, { on := 10, ground := Ground.phase }, { on := 11, ground := Ground.phase }, { on := 12, ground := Ground.phase }, { on := 13, ground := Ground.phase }], guard := none }) (v := ?_) rfl (by kernel_rfl) (by kernel_rfl) (by kernel_rfl) (fun _ _ _ h => h) (Or.inl ⟨by rfl, ?_⟩) (by assumption) ?_
        rotate_left
        · (intro w' hSw; go_simp; try with_reducible rfl)
        try simp only [Act.put, List.setIfInBounds_toArray, List.set_cons_zero, List.set_cons_succ]
        -- 15
        refine wpAnyH_ready (rs := [15]) (by kernel_rfl) (by simp) ?_
        refine AllReadyH.cons (o := { dst := none, op := Op.store 79 (Operand.tmp 27) (Operand.tmp 25), type := 0, pos := "slices.go:485", after := #[{ on := 14, ground := Ground.data }, { on := 11, ground := Ground.data }, { on := 13, ground := Ground.chain }, { on := 0, ground := Ground.phase }, { on := 1, ground := Ground.phase }, { on := 2, ground := Ground.phase }, { on := 3, ground := Ground.phase }, { on := 4, ground := Ground.phase }, { on := 5, ground := Ground.phase }, { on := 6, ground := Ground.phase }, { on := 7, ground := Ground.phase }, { on := 8, ground := Ground.phase }, { on := 9, ground := Ground.phase }, { on := 10, ground := Ground.phase }, { on := 11, ground := Ground.phase }, { on := 12, ground := Ground.phase }, { on := 13, ground := Ground.phase }], guard := none }) rfl (fun K hK => ?_) AllReadyH.nil
        refine step_store_own_wr (by rfl) _ _ (by rfl) 0 g j q c (by rfl) xi (by rfl) HXI.out _ HSM.out (by rw [List.length_set, rv_len]; exact hjl) HO13.out ?_
        intro w15 ho15 ht15
        have HO15 := Lib.hid ho15
        have HT15 := Lib.hid ht15
        clear ho15 ht15
        dsimp only
        refine hK.out _ _ trivial (fun hHeld => ?_)
        clear hK K
        try simp only [Act.put, List.setIfInBounds_toArray, List.set_cons_zero, List.set_cons_succ]
        refine wpAnyH_done (by kernel_rfl) ?_ _
        have hT5 : Touch (fun k => (Value.slice (some ⟨g, 0, none⟩) q c).ownBlock = some k) w w15 := HT.out.trans (((Touch.refl _ wr).drew.trans (HT13.out.mono (fun k hk => by rw [hk]; rfl))).trans (HT15.out.mono (fun k hk => by rw [hk]; rfl)))
        have HT5 := Lib.hid hT5
        clear hT5 hH0
        go_wp2_with fail
        refine ⟨⟨i + 1, by omega, by go_num, ?_, Lib.hid (by rw [← HSW2.out]; exact HO15.out), HT5⟩, by simp [intOf]; omega⟩
        have := HJV.out
        go_num
    · have ha1 : ¬ ((i : Int) < (q : Int) - 1 - i) := by omega
      go_wp2_with fail
      go_end0
      refine ⟨rfl, ?_, HT.out⟩
      rw [← rv_end l i (by rw [HLQ.out]; omega)]
      exact HO.out
end Go.Proofs.Ytpnepooobmbfbaa.dsk
/- What law06's knows gives. -/
namespace Go.Proofs.Ytpnepooobmbfbaa.dsk
set_option maxRecDepth 100000
open Go.ChangeShapes Go.WideShapes Go.ChangeAt Go.RowKit
open Go.Proofs.Ytpnepooobmbfbaa.rows
open Go.Proofs.Ytpnepooobmbfbaa.sec
open Go.Proofs.Ytpnepooobmbfbaa.choMath
set_option linter.unusedVariables false
set_option linter.unusedSimpArgs false

def sec1 : List Int := 1 :: List.replicate 31 0
def sec2 : List Int := 2 :: List.replicate 31 0
def tw1 : Wr := ⟨0, sec1, 0, 0, 0⟩
def tw2 (ep : Int) : Wr := ⟨1, sec2, 0, 0, ep⟩
def twoW (ep : Int) : List Wr := [tw1, tw2 ep]
theorem sec1_is : Sec sec1 := ⟨by decide, by decide⟩
theorem sec2_is : Sec sec2 := ⟨by decide, by decide⟩
theorem twoW_secs (ep : Int) : ∀ x ∈ twoW ep, Sec x.s := by
  intro x hx
  rcases List.mem_cons.1 hx with rfl | hx
  · exact sec1_is
  · rw [List.mem_singleton.1 hx]; exact sec2_is
theorem build_two {ops : Array Oper} {rest : List Oper} {o : Oper} {a : Act} {w : World} {Q : Exit → Act → World → Prop} (hgd : o.guard = none) (x y : Operand) (ho : o.op = .buildSlice 26 2 #[(0, x), (1, y)]) (ep : Int) (hep : ep = 0 ∨ ep = 1)
    (hx : a.eval x = .agg tw1.c.toArray) (hy : a.eval y = .agg (tw2 ep).c.toArray) (h : wpList Try.prog ops Q rest (a.put o.dst (.slice (some ⟨w.heap.size, 0, none⟩) 2 2)) (w.alloc (.cells (wrsC (twoW ep)).toArray 79))) : wpList Try.prog ops Q (o :: rest) a w := by
  obtain ⟨ie, hi, hz0, hz1, hz2⟩ := info_parts elem_wrs.info
  refine wpList_plain hgd fun K hK => wp_buildSlice 26 79 2 #[(0, x), (1, y)] ho (wrsC (twoW ep)).toArray ie _ elem_wrs.und hi hz0 (by rw [hz1]; omega) (by rw [hz1]; omega) ?_ (hK _ _ h)
  rw [hz1]
  simp only [List.map_toArray, List.map_cons, List.map_nil, hx, hy]
  rcases hep with rfl | rfl
  · kernel_rfl
  · kernel_rfl
theorem row_rd {w : World} {g : Nat} {cs : List Value} {t : TypeId} {sz n : Nat} (h : w.heap[g]? = some (.cells cs.toArray t (0, 0))) (hl : cs.length = n * sz) (hn : 0 < n) (hm : n ≤ maxLen) : Rd w sz (.slice (some ⟨g, 0, none⟩) n n) n cs := by
  refine Or.inr ⟨g, 0, n, rfl, hn, Nat.le_refl _, hm, (Array.getElem?_eq_some_iff.1 h).1, hl, fun i u hi => ?_⟩
  rw [Nat.zero_add]
  exact cell_row h i u (by simpa using hi)
theorem ctwo (ep : Int) (hep : ep = 0 ∨ ep = 1) (w : World) :
    Calls Try.prog 34 #[.int .i64 ep] w fun e w' => (∃ g1 g2, e = .returned (stV (some ⟨g1, 0, none⟩) 2 2 (some ⟨g2, 0, none⟩) 2 2) ∧ imgIn w' (some ⟨g1, 0, none⟩) 2 2 (some ⟨g2, 0, none⟩) 2 2 [zero32, zero32] (twoW ep)) ∧ Below w.heap.size w w' := by
  obtain ⟨i0, hi, hz0, hz1, hz2⟩ := info_parts elem_secs.info
  have HEP := Lib.hid hep
  go_enter Try.func34, Try.ntmps34
  go_wp2_with (first | (at_make; refine wpList_make_full _ rfl _ _ 22 rfl w.heap.size 62 i0 (.agg (u8s (List.replicate 32 0)).toArray) 32 Try.underlying22 hi hz0 hz1 .i64 .i64 _ _ 2 rfl rfl rfl rfl (by rw [hz2]; omega) (by unfold maxLen; omega) (by rw [size_alloc]; omega) ?_; intro w3 ho3 hg3; rw [made_secs] at ho3; have hb3 := below_made hg3; have R3 := rows_rd (rows_made ho3) (secs_zero 2) (by rw [List.length_replicate]; unfold maxLen; omega); rw [List.length_replicate] at R3; have HR3 := Lib.hid R3; have HB3 := Lib.hid hb3; have HRW := Lib.hid (row_alloc (row_later (heap_alloc_new w _) hb3 (by rw [size_alloc]; omega)) (.cells (wrsC (twoW ep)).toArray 79)); have c0 := cell_row HRW.out 0 _ rfl; have c1 := cell_row HRW.out 1 _ rfl; have f0 := frozen_row HRW.out 0; have f1 := frozen_row HRW.out 1; clear ho3 hg3 R3 hb3) | (refine wpList_buildTo rfl 62 #[(0, .const (.int .u8 1))] rfl (some 4) rfl (u8s sec1).toArray (by kernel_rfl) ?_) | (refine wpList_buildTo rfl 62 #[(0, .const (.int .u8 2))] rfl (some 6) rfl (u8s sec2).toArray (by kernel_rfl) ?_) | (refine wpList_buildTo rfl 79 #[(0, .const (.int .i64 0)), (1, .tmp 4)] rfl (some 5) rfl tw1.c.toArray (by kernel_rfl) ?_) | (refine wpList_buildTo rfl 79 #[(0, .const (.int .i64 1)), (1, .tmp 6), (3, .tmp 7)] rfl (some 8) rfl (tw2 ep).c.toArray (by rcases HEP.out with rfl | rfl <;> kernel_rfl) ?_) | (refine build_two rfl (.tmp 5) (.tmp 8) rfl ep HEP.out rfl rfl ?_))
  have R0 := setCell_heap (i := 0) HRW.out (.slice (some ⟨w.heap.size + 1, 0, none⟩) 2 2)
  have R1 := setCell_heap (i := 1) R0 (.slice (some ⟨w3.heap.size, 0, none⟩) 2 2)
  have k0 := cell_row R1 0 (.slice (some ⟨w.heap.size + 1, 0, none⟩) 2 2) rfl
  have k1 := cell_row R1 1 (.slice (some ⟨w3.heap.size, 0, none⟩) 2 2) rfl
  have hs3 := HB3.out.size
  rw [size_alloc] at hs3
  have hb5 : Below w.heap.size w (((w3.alloc (Obj.cells (wrsC (twoW ep)).toArray 79)).setCell { block := w.heap.size, off := 0 } (Value.slice (some { block := w.heap.size + 1, off := 0 }) 2 2)).setCell { block := w.heap.size, off := 1 } (Value.slice (some { block := w3.heap.size, off := 0 }) 2 2)) :=
    (((((below_alloc (Below.refl _ w) _).trans (HB3.out.mono (by rw [size_alloc]; omega))).alloc (by omega) _)).setCell (p := ⟨w.heap.size, 0, none⟩) (Nat.le_refl _) _).setCell (p := ⟨w.heap.size, 1, none⟩) (Nat.le_refl _) _
  have hk : ∀ (k : Nat), k ≠ w.heap.size → (((w3.alloc (Obj.cells (wrsC (twoW ep)).toArray 79)).setCell { block := w.heap.size, off := 0 } (Value.slice (some { block := w.heap.size + 1, off := 0 }) 2 2)).setCell { block := w.heap.size, off := 1 } (Value.slice (some { block := w3.heap.size, off := 0 }) 2 2)).heap[k]? = (w3.alloc (Obj.cells (wrsC (twoW ep)).toArray 79)).heap[k]? := fun k hk =>
    (Below.heap_setCell _ _ _ _ hk).trans (Below.heap_setCell _ _ _ _ hk)
  refine bodyPost_ret (v := stV (some ⟨w.heap.size + 1, 0, none⟩) 2 2 (some ⟨w3.heap.size, 0, none⟩) 2 2) (by simp [results, Try.f34, go_sem, k0, k1, stV]) rfl ?_
  refine ⟨⟨_, _, rfl, ?_, ?_, rfl, by omega, ?_, twoW_secs ep, by omega⟩, hb5⟩
  · have h1 := HR3.out
    rw [size_alloc] at h1
    exact Go.Proofs.Ytpnepooobmbfbaa.dsk.Rd.kept (S := fun k => k ≠ w.heap.size) (h1.later (below_alloc (Below.refl _ _) _)) (fun a n c e _ => by cases e; show w.heap.size + 1 ≠ w.heap.size; omega) ⟨hb5.size |> fun _ => by simp [World.setCell], fun k _ hk0 => hk k hk0⟩
  · intro s hs
    rcases List.mem_cons.1 hs with rfl | hs
    · exact sec_zero
    · rw [List.mem_singleton.1 hs]; exact sec_zero
  · refine row_rd (t := 79) ?_ (by rw [wrsC_len (twoW_secs ep)]; rfl) (by omega) (by unfold maxLen; omega)
    rw [hk _ (by omega)]
    exact heap_alloc_new _ _
theorem g_one {ops : Array Oper} {rest : List Oper} {o : Oper} {a : Act} {w : World} {Q : Exit → Act → World → Prop} (hw : Region.wanted o (yielded ops a.tmps) = true) (h : wpList Try.prog ops Q ({ o with guard := none } :: rest) a w) : wpList Try.prog ops Q (o :: rest) a w := by
  unfold wpList at h ⊢
  rw [if_pos hw]
  rw [if_pos (by simp [Region.wanted])] at h
  exact h
theorem img_yes {c : Nat} {ss : List (List Int)} {ws : List Wr} {n : Nat} {w : World} {e : Ending} {w' : World} (h : ImgDone c ss ws n w e w') (hk : imgOk c ws n = true) : Below w.heap.size w w' ∧ ∃ p cc, e = .returned (.tuple #[.slice p n cc, .bool true]) ∧ rows.Own w' w.heap.size 62 32 (.slice p n cc) n (cellsOf (imgUpto c ws ss ws.length)) := by
  refine ⟨h.1, ?_⟩
  rcases h.2 with ⟨h0, _⟩ | ⟨_, h1⟩
  · rw [hk] at h0; cases h0
  · exact h1
theorem all0 : allR (twoW 0) false 9 = ([0, 1, 4, 5], true) := by kernel_rfl
theorem all1 : allR (twoW 1) false 9 = ([0, 1, 5], true) := by kernel_rfl
theorem img4 : imgUpto 4 (twoW 0) [zero32, zero32] (twoW 0).length = [zero32, sec2] := by kernel_rfl
theorem ok4 : imgOk 4 (twoW 0) 2 = true := by kernel_rfl
theorem eqIn_two (w : World) : (Op.equalIn 10000 62 (.agg (u8s sec2).toArray) (.agg #[Value.int IntKind.u8 2, Value.int IntKind.u8 0, Value.int IntKind.u8 0, Value.int IntKind.u8 0, Value.int IntKind.u8 0, Value.int IntKind.u8 0, Value.int IntKind.u8 0, Value.int IntKind.u8 0, Value.int IntKind.u8 0, Value.int IntKind.u8 0, Value.int IntKind.u8 0, Value.int IntKind.u8 0, Value.int IntKind.u8 0, Value.int IntKind.u8 0, Value.int IntKind.u8 0, Value.int IntKind.u8 0, Value.int IntKind.u8 0, Value.int IntKind.u8 0, Value.int IntKind.u8 0, Value.int IntKind.u8 0, Value.int IntKind.u8 0, Value.int IntKind.u8 0, Value.int IntKind.u8 0, Value.int IntKind.u8 0, Value.int IntKind.u8 0, Value.int IntKind.u8 0, Value.int IntKind.u8 0, Value.int IntKind.u8 0, Value.int IntKind.u8 0, Value.int IntKind.u8 0, Value.int IntKind.u8 0, Value.int IntKind.u8 0])).run Try.prog w = .ok true w := by
  have h : ((.agg #[Value.int IntKind.u8 2, Value.int IntKind.u8 0, Value.int IntKind.u8 0, Value.int IntKind.u8 0, Value.int IntKind.u8 0, Value.int IntKind.u8 0, Value.int IntKind.u8 0, Value.int IntKind.u8 0, Value.int IntKind.u8 0, Value.int IntKind.u8 0, Value.int IntKind.u8 0, Value.int IntKind.u8 0, Value.int IntKind.u8 0, Value.int IntKind.u8 0, Value.int IntKind.u8 0, Value.int IntKind.u8 0, Value.int IntKind.u8 0, Value.int IntKind.u8 0, Value.int IntKind.u8 0, Value.int IntKind.u8 0, Value.int IntKind.u8 0, Value.int IntKind.u8 0, Value.int IntKind.u8 0, Value.int IntKind.u8 0, Value.int IntKind.u8 0, Value.int IntKind.u8 0, Value.int IntKind.u8 0, Value.int IntKind.u8 0, Value.int IntKind.u8 0, Value.int IntKind.u8 0, Value.int IntKind.u8 0, Value.int IntKind.u8 0]) : Value) = .agg (u8s sec2).toArray := by kernel_rfl
  rw [h, eqIn_sec w sec2_is sec2_is]
  simp
set_option maxRecDepth 100000 in
set_option maxHeartbeats 1600000 in
theorem cknows (w : World) : Calls Try.prog 7 #[] w fun e w' => e = .returned (.bool true) ∧ Below w.heap.size w w' := by
  have HT0 := Lib.hid (ctwo 0 (Or.inl rfl))
  have HT1 := Lib.hid (ctwo 1 (Or.inr rfl))
  go_enter Try.func7, Try.ntmps7
  go_upto_region 2 with (first | (go_at_call 34; refine (HT0.out _).mono ?_; rintro e w1 ⟨⟨g1, g2, rfl, hi⟩, hb1⟩; have HC := Lib.hid (ccnt (some ⟨g1, 0, none⟩) 2 2 (some ⟨g2, 0, none⟩) 2 2 (twoW 0) false 9 w1 ⟨hi.2.2.2.2.1, hi.2.2.2.2.2.1, by omega⟩); rw [all0] at HC; unfold stV at *; clear hi) | (go_at_call 21; refine HC.out.mono ?_; rintro e w2 ⟨rfl, hb2⟩; have hb12 := below_trans hb1 hb2; clear HC hb1 hb2))
  go_upto_region 3 with (first | (go_at_call 34; refine (HT1.out _).mono ?_; rintro e w3 ⟨⟨g3, g4, rfl, hi⟩, hb3⟩; have HC := Lib.hid (ccnt (some ⟨g3, 0, none⟩) 2 2 (some ⟨g4, 0, none⟩) 2 2 (twoW 1) false 9 w3 ⟨hi.2.2.2.2.1, hi.2.2.2.2.2.1, by omega⟩); rw [all1] at HC; unfold stV at *; clear hi) | (go_at_call 21; refine HC.out.mono ?_; rintro e w4 ⟨rfl, hb4⟩; have hb14 := below_trans hb12 (below_trans hb3 hb4); clear HC hb3 hb4))
  go_upto_region 4 with (first | (go_at_call 34; refine (HT0.out _).mono ?_; rintro e w5 ⟨⟨g5, g6, rfl, hi⟩, hb5⟩; have HC := Lib.hid (cimage 4 (some ⟨g5, 0, none⟩) 2 2 (some ⟨g6, 0, none⟩) 2 2 [zero32, zero32] (twoW 0) w5 (by omega) hi); unfold stV at *; clear hi) | (go_at_call 14; refine HC.out.mono ?_; intro e w6 hd; obtain ⟨hb6, p6, c6, rfl, ho6⟩ := img_yes hd ok4; rw [img4] at ho6; have HO6 := Lib.hid ho6; have hb16 := below_trans hb14 (below_trans hb5 hb6); clear hd ho6 hb5 hb6 HC))
  have hb : ∃ b off, p6 = some ⟨b, off, none⟩ ∧ 2 ≤ c6 ∧ c6 ≤ maxLen ∧ w6.rangeAt b off (u8s zero32) ∧ w6.rangeAt b (off + 32) (u8s sec2) := by
    obtain ⟨b, off, hp, h2, h3, _, _, hr⟩ := row_at (j := 0) HO6.out.rd (ss := [zero32, sec2]) (by intro s hs; rcases List.mem_cons.1 hs with rfl | hs; exact sec_zero; rw [List.mem_singleton.1 hs]; exact sec2_is) (by omega)
    exact ⟨b, off, hp, h2, h3, by simpa using hr 0 (by simp), by simpa using hr 1 (by simp)⟩
  obtain ⟨b, off, rfl, hc2, hcm, hr0, hr1⟩ := hb
  have HR0 := Lib.hid hr0
  have HR1 := Lib.hid hr1
  have e0 := eqIn_zero w6 sec_zero
  have e0b : decide (zero32 = sec.zero32) = true := by decide
  rw [e0b] at e0
  have e2 := eqIn_two w6
  clear hr0 hr1 e0b
  go_wp2_with (first | (refine g_one (by rfl) ?_; refine load_mid rfl (.tmp 44) rfl b off rfl zero32 sec_zero.1 HR0.out ?_) | (refine g_one (by rfl) ?_; refine load_mid rfl (.tmp 51) rfl b (off + 32) rfl sec2 sec2_is.1 HR1.out ?_))
  go_ret
  exact ⟨rfl, hb16⟩
end Go.Proofs.Ytpnepooobmbfbaa.dsk
/- CrashChoices' walk. -/
namespace Go.Proofs.Ytpnepooobmbfbaa.dsk
set_option maxRecDepth 100000
open Go.ChangeShapes Go.WideShapes Go.ChangeAt Go.RowKit
open Go.Proofs.Ytpnepooobmbfbaa.rows
open Go.Proofs.Ytpnepooobmbfbaa.sec
open Go.Proofs.Ytpnepooobmbfbaa.choMath
set_option linter.unusedVariables false
set_option linter.unusedSimpArgs false

theorem img_uni {c : Nat} {ss : List (List Int)} {ws : List Wr} {n : Nat} {w : World} {e : Ending} {w' : World} (h : ImgDone c ss ws n w e w') :
    Below w.heap.size w w' ∧ ∃ p cc, e = .returned (.tuple #[.slice p (if imgOk c ws n = true then n else 0) cc, .bool (imgOk c ws n)]) ∧ Rd w' 32 (.slice p (if imgOk c ws n = true then n else 0) cc) (if imgOk c ws n = true then n else 0) (cellsOf (if imgOk c ws n = true then imgUpto c ws ss ws.length else [])) := by
  refine ⟨h.1, ?_⟩
  rcases h.2 with ⟨h0, he⟩ | ⟨h1, p, cc, he, ho⟩
  · rw [h0]
    exact ⟨none, 0, he, rd_nil _ _⟩
  · rw [h1]
    exact ⟨p, cc, he, ho.rd⟩
/-- two boxes, laid behind w, and what lies in them -/
structure Two (w : World) (b1 b2 : Nat) (v1 v2 : Value) (W : World) : Prop where
  r1 : W.heap[b1]? = some (.cells #[v1, v2] 31 (0, 0))
  r2 : W.heap[b2]? = some (.cells #[v1, v2] 28 (0, 0))
  below : Below w.heap.size w W
theorem Two.later {w : World} {b1 b2 : Nat} {v1 v2 : Value} {W W' : World} (h : Two w b1 b2 v1 v2 W) (hb : Below W.heap.size W W') : Two w b1 b2 v1 v2 W' :=
  ⟨row_later h.r1 hb (Array.getElem?_eq_some_iff.1 h.r1).1, row_later h.r2 hb (Array.getElem?_eq_some_iff.1 h.r2).1, below_trans h.below hb⟩
end Go.Proofs.Ytpnepooobmbfbaa.dsk
