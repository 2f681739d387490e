/- What CrashAts wants, part 5. -/
import Derived.Test.YtpnepooobmbfbaaCrashAtsB
import Derived.Test.YtpnepooobmbfbaaCrashAtsD
import Derived.Deep.Cut
import Derived.Maps.OwnSet
/- What the reference's Write gives where it writes. -/
namespace Go.Proofs.Ytpnepooobmbfbaa.dsk
set_option maxRecDepth 100000
open Go.ChangeShapes Go.WideShapes Go.ChangeAt Go.RowKit
open Go.Proofs.Ytpnepooobmbfbaa.rows
open Go.Proofs.Ytpnepooobmbfbaa.sec
set_option linter.unusedVariables false
set_option linter.unusedSimpArgs false

theorem At.touch {S : Nat → Prop} {w w' : World} {g : Nat} {s : List Int} (h : At w g s) (ht : Touch S w w') (hs : ¬ S g) : At w' g s := (ht.block g (Array.getElem?_eq_some_iff.1 h).1 hs).trans h
theorem row_touch {S : Nat → Prop} {w w' : World} {g : Nat} {o : Obj} (h : w.heap[g]? = some o) (ht : Touch S w w') (hs : ¬ S g) : w'.heap[g]? = some o := (ht.block g (Array.getElem?_eq_some_iff.1 h).1 hs).trans h
/-- the write x lies in block g -/
def AtW (w : World) (g : Nat) (x : Wr) : Prop := w.heap[g]? = some (.cells x.c.toArray 79 (0, 0))
theorem AtW.range {w : World} {g : Nat} {x : Wr} (h : AtW w g x) : w.rangeAt g 0 x.c := by
  have := World.rangeAt_of_block h 0 x.c.toArray.size
  simpa using this
end Go.Proofs.Ytpnepooobmbfbaa.dsk
/- What the reference's Settle gives. -/
namespace Go.Proofs.Ytpnepooobmbfbaa.dsk
set_option maxRecDepth 100000
open Go.ChangeShapes Go.WideShapes Go.ChangeAt Go.RowKit
open Go.Proofs.Ytpnepooobmbfbaa.rows
open Go.Proofs.Ytpnepooobmbfbaa.sec
set_option linter.unusedVariables false
set_option linter.unusedSimpArgs false

def hasT (ts : List (Int × Int)) (x : Wr) : Bool := decide ((x.kind, x.id) ∈ ts)
def topStep (ts : List (Int × Int)) (p : Int × Bool) (x : Wr) : Int × Bool := if (hasT ts x && (!p.2 || decide (p.1 < x.ep))) = true then (x.ep, true) else p
def topOf (ts : List (Int × Int)) (ws : List Wr) : Int × Bool := ws.foldl (topStep ts) (0, false)
def madeB (ts : List (Int × Int)) (p : Int × Bool) (x : Wr) : Bool := hasT ts x || (p.2 && decide (x.ep < p.1))
def outStep (made : Wr → Bool) (o : List (List Int)) (x : Wr) : List (List Int) := if made x = true then o.set x.pos.toNat x.s else o
def outOf (made : Wr → Bool) (ws : List Wr) (safe : List (List Int)) : List (List Int) := ws.foldl (outStep made) safe
def staysB (made : Wr → Bool) (ws : List Wr) (i : Nat) (x : Wr) : Bool := !made x && !((ws.drop (i + 1)).any fun y => made y && y.pos == x.pos)
def leftUpto (made : Wr → Bool) (ws : List Wr) : Nat → List Wr
  | 0 => []
  | j + 1 => leftUpto made ws j ++ (match ws[j]? with | some x => if staysB made ws j x = true then [x] else [] | none => [])
def settle (safe : List (List Int)) (ws : List Wr) (ts : List (Int × Int)) : List (List Int) × List Wr :=
  (outOf (madeB ts (topOf ts ws)) ws safe, leftUpto (madeB ts (topOf ts ws)) ws ws.length)
theorem topOf_snoc (ts : List (Int × Int)) (ws : List Wr) (j : Nat) (h : j < ws.length) : topOf ts (ws.take (j + 1)) = topStep ts (topOf ts (ws.take j)) ws[j] := by
  rw [List.take_succ_eq_append_getElem h, topOf, List.foldl_append]; rfl
theorem outOf_snoc (made : Wr → Bool) (ws : List Wr) (safe : List (List Int)) (j : Nat) (h : j < ws.length) : outOf made (ws.take (j + 1)) safe = outStep made (outOf made (ws.take j) safe) ws[j] := by
  rw [List.take_succ_eq_append_getElem h, outOf, List.foldl_append]; rfl
theorem outOf_len (made : Wr → Bool) : ∀ (ws : List Wr) (safe : List (List Int)), (outOf made ws safe).length = safe.length
  | [], safe => rfl
  | x :: t, safe => by
    rw [outOf, List.foldl_cons]
    have := outOf_len made t (outStep made safe x)
    rw [outOf] at this
    rw [this, outStep]
    split <;> simp
theorem outOf_secs (made : Wr → Bool) : ∀ (ws : List Wr) (safe : List (List Int)), Secs safe → (∀ x ∈ ws, Sec x.s) → Secs (outOf made ws safe)
  | [], safe, h, _ => h
  | x :: t, safe, h, hw => by
    rw [outOf, List.foldl_cons]
    refine outOf_secs made t _ ?_ fun y hy => hw y (List.mem_cons_of_mem _ hy)
    rw [outStep]
    split
    · exact secs_set h (hw x (List.mem_cons_self ..)) _
    · exact h
theorem wr_parts {w : World} {b o : Nat} {x : Wr} (hs : Sec x.s) (h : w.rangeAt b o x.c) : w.cell? ⟨b, o, none⟩ = some (.int .i64 x.pos) ∧ w.rangeAt b (o + 1) (u8s x.s) ∧ w.cell? ⟨b, o + 33, none⟩ = some (.int .i64 x.kind) ∧ w.cell? ⟨b, o + 34, none⟩ = some (.int .i64 x.id) ∧ w.cell? ⟨b, o + 35, none⟩ = some (.int .i64 x.ep) := by
  have hl : (u8s x.s).length = 32 := by simp [u8s, hs.1]
  obtain ⟨h0, h1⟩ := wr_range h
  refine ⟨h0, h1, h 33 _ ?_, h 34 _ ?_, h 35 _ ?_⟩ <;>
  · rw [Wr.c, List.getElem?_cons_succ, List.getElem?_append_right (by omega), hl]; rfl
/-- a sector into the middle of a slice of the call's own -/
theorem own_store {w : World} {B g n c : Nat} {ss : List (List Int)} (h : Own w B 62 32 (.slice (some ⟨g, 0, none⟩) n c) n (cellsOf ss)) (hs : Secs ss) {i : Nat} (hi : i < ss.length) {s : List Int} (hl : Sec s) :
    ∃ w', (storeVar 62 ⟨g, i * 32, none⟩ (.agg (u8s s).toArray)).run Try.prog w = .ok () w' ∧ Own w' B 62 32 (.slice (some ⟨g, 0, none⟩) n c) n (cellsOf (ss.set i s)) ∧ Touch (· = g) w w' ∧ B ≤ g := by
  obtain ⟨hlen, h2⟩ := h
  rcases h2 with ⟨h2, _⟩ | ⟨g', cap, cur, h1, h2, h3, h4, h5, h6, h7⟩
  · cases h2
  · cases h1
    have hcl := cellsOf_len hs
    have hsn : ss.length = n := by omega
    have hus := u8s_len s
    have hsz : i * 32 + 32 ≤ cur.size := by rw [h6]; omega
    have h8 := run_storeCells_at (P := Try.prog) g (i * 32) 62 (u8s s) 0 cur w h3 (by rw [hus, hl.1]; omega) (one_ints .u8 s)
    rw [Nat.add_zero, hus, hl.1] at h8
    have hput := put_chunk u8s 32 ss i s (fun y hy => by rw [u8s_len, (hs y hy).1]) (by rw [u8s_len, hl.1]) hi
    rw [← cellsOf_map, ← cellsOf_map] at hput
    have hcut : cur.toList = cellsOf ss ++ cur.toList.drop (n * 32) := by rw [← h7, List.take_append_drop]
    have hnew : (cur.toList.take (i * 32) ++ u8s s ++ cur.toList.drop (i * 32 + 32)) = cellsOf (ss.set i s) ++ cur.toList.drop (n * 32) := by
      rw [← hput]
      conv => lhs; rw [hcut]
      rw [List.take_append_of_le_length (by rw [hcl]; omega), List.drop_append_of_le_length (by rw [hcl]; omega)]
      simp [List.append_assoc]
    refine ⟨w.setRow g (cellsOf (ss.set i s) ++ cur.toList.drop (n * 32)).toArray, ?_, ⟨by rw [cellsOf_len (secs_set hs hl i)]; simp; omega, Or.inr ⟨g, c, _, rfl, h2, setRow_heap w g _ _ _ _ h3, h4, h5, ?_, ?_⟩⟩, touch_setRow w g _, h2⟩
    · rw [← hnew]
      cases hq : Try.prog.info? 62 with
      | none => have := info_sec; simp [hq] at this
      | some q =>
        have hqs : q.size = 32 := by have := info_sec; simpa [hq] using this
        have hc : (Value.agg (u8s s).toArray).cells = (u8s s).toArray := rfl
        simp [storeVar, sizeOf, typeInfo, hq, hqs, hc, u8s_len, hl.1, h8]
    · have hcs : (cellsOf (ss.set i s)).length = n * 32 := by rw [cellsOf_len (secs_set hs hl i)]; simp; omega
      simp [hcs, h6]; omega
    · have hcs : (cellsOf (ss.set i s)).length = n * 32 := by rw [cellsOf_len (secs_set hs hl i)]; simp; omega
      show (cellsOf (ss.set i s) ++ cur.toList.drop (n * 32)).take (n * 32) = _
      rw [← hcs, List.take_left]
theorem step_store_own {w : World} {ops : Array Oper} {o : Oper} {a : Act} {K : Act → World → Prop} {Q : Exit → Act → World → Prop} {F : Prop} (hw : Region.wanted o (yielded ops a.tmps) = true) (x y : Operand) (ho : o.op = .store 62 x y)
    (B g i n c : Nat) (hx : a.eval x = .pointer (some ⟨g, i * 32, none⟩)) (s : List Int) (hy : a.eval y = .agg (u8s s).toArray) (hl : Sec s) (ss : List (List Int)) (hs : Secs ss) (hi : i < ss.length) (hg : Own w B 62 32 (.slice (some ⟨g, 0, none⟩) n c) n (cellsOf ss))
    (h : ∀ w', Own w' B 62 32 (.slice (some ⟨g, 0, none⟩) n c) n (cellsOf (ss.set i s)) → Touch (· = g) w w' → K (a.put o.dst undef) w') : if Region.wanted o (yielded ops a.tmps) = true then Oper.wp Try.prog o a w K Q else F := by
  rw [if_pos hw]
  obtain ⟨w', hrun, h1, h2, _⟩ := own_store hg hs hi hl
  unfold Oper.wp execOp
  simp only [ho, hx, hy, Instr.storeAt, Instr.sureAddr, Sem.run_bind, Sem.run_pure, Result.andThen_ok, hrun]
  exact h _ h1 h2
theorem elem_bools : Elem 116 4 1 1 (.bool false) := ⟨Try.underlying116, by kernel_rfl, by decide, by decide, by decide⟩
/-- block g holds the bools bs, all of it -/
def RowB (w : World) (g : Nat) (bs : List Bool) : Prop := w.heap[g]? = some (.cells (bs.map Value.bool).toArray 4 (0, 0))
theorem rowB_made {w : World} {B g n : Nat} (h : w.ownsRow B 4 1 (.slice (some ⟨g, 0, none⟩) n n) n (madeCells (Value.bool false).cells (n * 1)).toList) : RowB w g (List.replicate n false) := by
  have hz : (Value.bool false).cells = (List.replicate 1 (Value.bool false)).toArray := rfl
  rw [hz, made_rep 1 _ _ (by decide), Nat.mul_one] at h
  rcases h.2 with ⟨h2, _⟩ | ⟨g', cap, cur, h1, h2, h3, h4, h5, h6, h7⟩
  · cases h2
  · cases h1
    rw [Nat.mul_one] at h6 h7
    rw [List.take_of_length_le (by simp [h6])] at h7
    rw [RowB, List.map_replicate, ← h7]
    exact h3
theorem rowB_cell {w : World} {g : Nat} {bs : List Bool} (h : RowB w g bs) {i : Nat} (hi : i < bs.length) : w.cell? ⟨g, i, none⟩ = some (.bool bs[i]) := cell_row h i _ (by simp [hi])
theorem rowB_set {w : World} {g : Nat} {bs : List Bool} (h : RowB w g bs) (i : Nat) (b : Bool) : RowB (w.setCell ⟨g, i, none⟩ (.bool b)) g (bs.set i b) := by
  have := setCell_heap (i := i) h (.bool b)
  rw [RowB, this]
  simp [List.map_set]
def madeUpto (made : Wr → Bool) (ws : List Wr) (j : Nat) : List Bool := (ws.take j).map made ++ List.replicate (ws.length - j) false
theorem madeUpto_len (made : Wr → Bool) (ws : List Wr) (j : Nat) (h : j ≤ ws.length) : (madeUpto made ws j).length = ws.length := by simp [madeUpto]; omega
theorem madeUpto_set (made : Wr → Bool) (ws : List Wr) (j : Nat) (h : j < ws.length) : (madeUpto made ws j).set j (made ws[j]) = madeUpto made ws (j + 1) := by
  have h1 : ((ws.take j).map made).length = j := by simp; omega
  rw [madeUpto, List.set_append_right _ _ (by omega), h1, Nat.sub_self, show ws.length - j = (ws.length - (j + 1)) + 1 by omega, List.replicate_succ, List.set_cons_zero, madeUpto, List.take_succ_eq_append_getElem h, List.map_append, List.append_assoc]
  rfl
theorem madeUpto_all (made : Wr → Bool) (ws : List Wr) : madeUpto made ws ws.length = ws.map made := by simp [madeUpto]
theorem own_block {w : World} {B : Nat} {e : TypeId} {sz n m g c : Nat} {cs : List Value} (h : Own w B e sz (.slice (some ⟨g, 0, none⟩) m c) n cs) : B ≤ g ∧ g < w.heap.size := by
  rcases h.2 with ⟨h2, _⟩ | ⟨g', cap, cur, h1, h2, h3, _⟩
  · cases h2
  · cases h1
    exact ⟨h2, (Array.getElem?_eq_some_iff.1 h3).1⟩
theorem own_some {w : World} {B : Nat} {e : TypeId} {sz n c : Nat} {p : Option Addr} {cs : List Value} (h : Own w B e sz (.slice p n c) n cs) (hn : 0 < n) : ∃ g, p = some ⟨g, 0, none⟩ := by
  rcases h.2 with ⟨h2, h3⟩ | ⟨g', cap, cur, h1, _⟩
  · omega
  · cases h1; exact ⟨_, rfl⟩
theorem own_set_other {w : World} {B gm i : Nat} {e : TypeId} {sz n : Nat} {v u : Value} {cs : List Value} (h : Own w B e sz v n cs) (hne : ∀ g m c, v = .slice (some ⟨g, 0, none⟩) m c → g ≠ gm) : Own (w.setCell ⟨gm, i, none⟩ u) B e sz v n cs := by
  refine ⟨h.1, ?_⟩
  rcases h.2 with h2 | ⟨g, cap, cur, hv, h3, h4, h5⟩
  · exact Or.inl h2
  · exact Or.inr ⟨g, cap, cur, hv, h3, (Below.heap_setCell _ _ _ _ (hne g _ _ hv)).trans h4, h5⟩
theorem own_base {w : World} {B B' : Nat} {e : TypeId} {sz n : Nat} {v : Value} {cs : List Value} (h : Own w B e sz v n cs) (hB : B' ≤ B) : Own w B' e sz v n cs := by
  refine ⟨h.1, ?_⟩
  rcases h.2 with h2 | ⟨g, cap, cur, hv, h3, h4⟩
  · exact Or.inl h2
  · exact Or.inr ⟨g, cap, cur, hv, Nat.le_trans hB h3, h4⟩
def staysUpto (made : Wr → Bool) (ws : List Wr) (i : Nat) (x : Wr) (k : Nat) : Bool := !made x && !(((ws.take k).drop (i + 1)).any fun y => made y && y.pos == x.pos)
theorem staysUpto_start (made : Wr → Bool) (ws : List Wr) (i : Nat) (x : Wr) : staysUpto made ws i x (i + 1) = !made x := by
  rw [staysUpto, List.drop_of_length_le (by simp; omega)]; simp
theorem staysUpto_snoc (made : Wr → Bool) (ws : List Wr) (i : Nat) (x : Wr) (k : Nat) (hi : i + 1 ≤ k) (hk : k < ws.length) : staysUpto made ws i x (k + 1) = (staysUpto made ws i x k && !(made ws[k] && ws[k].pos == x.pos)) := by
  rw [staysUpto, staysUpto, List.take_succ_eq_append_getElem hk, List.drop_append_of_le_length (by simp; omega), List.any_append]
  simp [Bool.and_assoc]
theorem staysUpto_all (made : Wr → Bool) (ws : List Wr) (i : Nat) (x : Wr) : staysUpto made ws i x ws.length = staysB made ws i x := by
  rw [staysUpto, List.take_length, staysB]
theorem leftUpto_snoc (made : Wr → Bool) (ws : List Wr) (i : Nat) (h : i < ws.length) : leftUpto made ws (i + 1) = leftUpto made ws i ++ (if staysB made ws i ws[i] = true then [ws[i]] else []) := by
  rw [leftUpto, List.getElem?_eq_getElem h]
theorem leftUpto_len (made : Wr → Bool) (ws : List Wr) : ∀ i, (leftUpto made ws i).length ≤ i
  | 0 => by simp [leftUpto]
  | i + 1 => by
    have := leftUpto_len made ws i
    rw [leftUpto, List.length_append]
    have h2 : (match ws[i]? with | some x => if staysB made ws i x = true then [x] else [] | none => []).length ≤ 1 := by
      split
      · split <;> simp
      · simp
    omega
/-- a write out of the middle of a row -/
theorem load_wr {ops : Array Oper} {rest : List Oper} {o : Oper} {a : Act} {w : World} {Q : Exit → Act → World → Prop} (hgd : o.guard = none) (x : Operand) (ho : o.op = .load 79 x)
    (b off : Nat) (hx : a.eval x = .pointer (some ⟨b, off, none⟩)) (y : Wr) (hs : Sec y.s) (hg : w.rangeAt b off y.c)
    (h : wpList Try.prog ops Q rest (a.put o.dst (.agg y.c.toArray)) w) : wpList Try.prog ops Q (o :: rest) a w :=
  wpList_load_mid hgd 79 x ho b off hx y.c _ hg und_wr rfl (by rw [info_wr, Wr.c_len hs]) h
/-- what Settle is given -/
structure SetIn (w : World) (ps : Option Addr) (n cs : Nat) (pw : Option Addr) (m cw : Nat) (pt : Option Addr) (q ct : Nat) (ss : List (List Int)) (ws : List Wr) (ts : List (Int × Int)) : Prop where
  safe : Rd w 32 (.slice ps n cs) n (cellsOf ss)
  sec : Secs ss
  sl : ss.length = n
  n1 : n ≤ 1000
  wait : Rd w 36 (.slice pw m cw) m (wrsC ws)
  wsec : ∀ x ∈ ws, Sec x.s
  wl : ws.length = m
  m1 : m ≤ 1000
  pos : ∀ x ∈ ws, 0 ≤ x.pos ∧ x.pos < (n : Int)
  tags : Rd w 2 (.slice pt q ct) q (tagsC ts)
  q1 : q ≤ 1000
set_option maxHeartbeats 3200000 in
set_option maxRecDepth 100000 in
theorem rsettle (w : World) (ps : Option Addr) (n cs : Nat) (pw : Option Addr) (m cw : Nat) (pt : Option Addr) (q ct : Nat) (ss : List (List Int)) (ws : List Wr) (ts : List (Int × Int)) (h : SetIn w ps n cs pw m cw pt q ct ss ws ts) :
    Calls Try.prog 38 #[.slice ps n cs, .slice pw m cw, .slice pt q ct] w fun e w' => ∃ po co pl nl cl, e = .returned (.tuple #[.slice po n co, .slice pl nl cl]) ∧ nl = (settle ss ws ts).2.length ∧
      Own w' w.heap.size 62 32 (.slice po n co) n (cellsOf (settle ss ws ts).1) ∧ Own w' w.heap.size 79 36 (.slice pl nl cl) nl (wrsC (settle ss ws ts).2) ∧ Below w.heap.size w w' := by
  have HI := Lib.hid h
  have HWC := Lib.hid fun x hx => Wr.c_len (h.wsec x hx)
  have hm1 : (m : Int) ≤ 1000 := by have := h.m1; omega
  have hn1 : (n : Int) ≤ 1000 := by have := h.n1; omega
  have hm2 := h.m1
  have hn2 := h.n1
  clear h
  go_enter Try.func38, Try.ntmps38
  go_wp2
  go_loopw [8, 9, 10] (fun tv sv iv wr => ∃ (j : Nat) (t : Int) (sb : Bool), j ≤ m ∧ iv = .int .i64 (j : Int) ∧ tv = .int .i64 t ∧ sv = .bool sb ∧ Hid (topOf ts (ws.take j) = (t, sb)) ∧ Below w.heap.size w wr) (fun _ _ iv _ => m - (intOf iv).toNat)
  case atStart => exact ⟨0, 0, false, by omega, rfl, rfl, rfl, Lib.hid rfl, Below.refl _ _⟩
  case round =>
    obtain ⟨j, t, sb, hj, rfl, rfl, rfl, HTP, hbr⟩ := hrel
    by_cases ha : j < m
    · have ha1 : (j:Int) < m := by omega
      have hjl : j < ws.length := by rw [HI.out.wl]; exact ha
      obtain ⟨b1, o1, rfl, hc1, hmm1, hh1, hl1, HR1⟩ := Rd.chunk Wr.c HI.out.wait HWC.out (by decide) ha
      obtain ⟨h0, _, h33, h34, h35⟩ := wr_parts (HI.out.wsec _ (List.getElem_mem hjl)) (Rd.rangeLater (HR1 j hjl) hh1 hbr)
      have hts := topOf_snoc ts ws j hjl
      rw [HTP.out] at hts
      have HTS := Lib.hid hts
      generalize ws[j] = x at *
      have H35 := Lib.hid h35
      have HH := Lib.hid fun w' (hr : Rd w' 2 (.slice pt q ct) q (tagsC ts)) => rhas pt q ct ts x.kind x.id w' hr HI.out.q1
      clear HR1 hl1 hts
      obtain ⟨hv, hhv⟩ : ∃ hv, hasT ts x = hv := ⟨_, rfl⟩
      rw [show decide ((x.kind, x.id) ∈ ts) = hv from hhv] at HH
      have HHV := Lib.hid hhv
      clear hhv
      cases hv with
      | false =>
        have HST : Hid (topOf ts (ws.take (j + 1)) = (t, sb)) := Lib.hid (by rw [HTS.out, topStep, HHV.out]; rfl)
        go_wp2_with (go_at_call 66; refine (HH.out _ (HI.out.tags.later hbr)).mono ?_; rintro e w2 ⟨rfl, hb2⟩)
        go_roundw
        case rel => exact ⟨j + 1, t, sb, by omega, by go_num, rfl, rfl, HST, below_trans hbr hb2⟩
        case measure => simp [intOf]; omega
      | true =>
        have h35b := fun w2 (hb2 : Below wr.heap.size wr w2) => (hb2.cell (p := ⟨b1, o1 + j * 36 + 35, none⟩) (Nat.lt_of_lt_of_le hh1 hbr.size)).trans H35.out
        have HB35 := Lib.hid h35b
        clear h35b
        cases sb with
        | false =>
          have HST : Hid (topOf ts (ws.take (j + 1)) = (x.ep, true)) := Lib.hid (by rw [HTS.out, topStep, HHV.out]; rfl)
          go_wp2_with (go_at_call 66; refine (HH.out _ (HI.out.tags.later hbr)).mono ?_; rintro e w2 ⟨rfl, hb2⟩; have e35 := HB35.out w2 hb2)
          go_roundw
          case rel => exact ⟨j + 1, x.ep, true, by omega, by go_num, rfl, rfl, HST, below_trans hbr hb2⟩
          case measure => simp [intOf]; omega
        | true =>
          by_cases hlt : t < x.ep
          · have hltb : decide (t < x.ep) = true := by simpa using hlt
            have HST : Hid (topOf ts (ws.take (j + 1)) = (x.ep, true)) := Lib.hid (by rw [HTS.out, topStep, HHV.out]; simp [hlt])
            go_wp2_with (go_at_call 66; refine (HH.out _ (HI.out.tags.later hbr)).mono ?_; rintro e w2 ⟨rfl, hb2⟩; have e35 := HB35.out w2 hb2)
            go_roundw
            case rel => exact ⟨j + 1, x.ep, true, by omega, by go_num, rfl, rfl, HST, below_trans hbr hb2⟩
            case measure => simp [intOf]; omega
          · have hltb : decide (t < x.ep) = false := by simpa using hlt
            have HST : Hid (topOf ts (ws.take (j + 1)) = (t, true)) := Lib.hid (by rw [HTS.out, topStep, HHV.out]; simp [hlt])
            go_wp2_with (go_at_call 66; refine (HH.out _ (HI.out.tags.later hbr)).mono ?_; rintro e w2 ⟨rfl, hb2⟩; have e35 := HB35.out w2 hb2)
            go_roundw
            case rel => exact ⟨j + 1, t, true, by omega, by go_num, rfl, rfl, HST, below_trans hbr hb2⟩
            case measure => simp [intOf]; omega
    · obtain rfl : m = j := by omega
      clear hj ha
      have HTE : Hid (topOf ts ws = (t, sb)) := Lib.hid (by have h := HTP.out; rwa [List.take_of_length_le (by rw [HI.out.wl]; omega)] at h)
      clear HTP
      obtain ⟨ib, hib, hbz0, hbz1, hbz2⟩ := info_parts elem_bools.info
      have HSF := Lib.hid (HI.out.safe.later (hbr.alloc hbr.size (.cells #[] 62)))
      go_wp2_with (first | (at_builtin; refine ap_rd elem_secs rfl (.tmp 49) (.tmp 50) rfl w.heap.size _ 0 [] rfl (own_made' _ _ _ _ rfl hbr.size) _ n _ rfl HSF.out (one_ints .u8 _) (by omega) (by rw [size_alloc]; have := hbr.size; omega) ?_; intro po co w2 ho hb2; have HO := Lib.hid ho; clear ho; have hb2w := (hbr.alloc hbr.size (.cells #[] 62)).trans hb2) | (at_make; refine wpList_make_full _ rfl _ _ 116 rfl w2.heap.size 4 ib (.bool false) 1 Try.underlying116 hib hbz0 hbz1 .i64 .i64 _ _ m rfl rfl rfl rfl (by rw [hbz2]; omega) (by unfold maxLen; omega) (Nat.le_refl _) ?_; intro w3 ho3 hg3; have RB := Lib.hid (rowB_made ho3); have hb3 := below_made hg3; clear ho3 hg3))
      have ho2 := HO.out
      rw [Nat.zero_add, List.nil_append] at ho2
      have hpo : ∀ g, po = some ⟨g, 0, none⟩ → w.heap.size ≤ g ∧ g < w2.heap.size := fun g hg => by
        subst hg
        exact own_block ho2
      have HPO := Lib.hid hpo
      have HO3 := Lib.hid (own_later ho2 hb3)
      have hb3w : Below w.heap.size w w3 := hb2w.trans (hb3.mono hb2w.size)
      have hgm : w.heap.size ≤ w2.heap.size := hb2w.size
      obtain ⟨gm, hgme⟩ : ∃ gm, w2.heap.size = gm := ⟨_, rfl⟩
      rw [hgme] at RB HPO hgm ⊢
      have HGM := Lib.hid hgme
      obtain ⟨mk, hmk⟩ : ∃ mk, madeB ts (t, sb) = mk := ⟨_, rfl⟩
      have HMK := Lib.hid hmk
      have RB0 : Hid (RowB w3 gm (madeUpto mk ws 0)) := Lib.hid (by
        have h := RB.out
        rw [madeUpto]
        simpa [HI.out.wl] using h)
      clear HO ho2 hpo hb2 hb2w hb3 RB hgme HSF hib hbz0 hbz1 hbz2 hmk
      go_loopw [13] (fun iv wr => ∃ (i : Nat), i ≤ m ∧ iv = .int .i64 (i : Int) ∧ Hid (Own wr w.heap.size 62 32 (.slice po n co) n (cellsOf (outOf mk (ws.take i) ss))) ∧ Hid (RowB wr gm (madeUpto mk ws i)) ∧ Below w.heap.size w wr) (fun iv _ => m - (intOf iv).toNat)
      case atStart => exact ⟨0, by omega, rfl, HO3, RB0, hb3w⟩
      case round =>
        clear HO3 RB0 hb3w hbr
        obtain ⟨i, hi, rfl, HO, RB, hbr⟩ := hrel
        by_cases ha : i < m
        · have ha1 : (i:Int) < m := by omega
          have hil : i < ws.length := by rw [HI.out.wl]; exact ha
          obtain ⟨b1, o1, rfl, hc1, hmm1, hh1, hl1, HR1⟩ := Rd.chunk Wr.c HI.out.wait HWC.out (by decide) ha
          have hxs := HI.out.wsec _ (List.getElem_mem hil)
          have hxp := HI.out.pos _ (List.getElem_mem hil)
          have hrg := HR1 i hil
          have hos := outOf_snoc mk ws ss i hil
          have hml := madeUpto_len mk ws i (by omega)
          have hms := madeUpto_set mk ws i hil
          have hol := outOf_len mk (ws.take i) ss
          have hoc := outOf_secs mk (ws.take i) ss HI.out.sec fun x hx => HI.out.wsec x (List.mem_of_mem_take hx)
          rw [HI.out.wl] at hml
          rw [HI.out.sl] at hol
          have hmkx : mk ws[i] = (hasT ts ws[i] || (sb && decide (ws[i].ep < t))) := by rw [← HMK.out]; rfl
          generalize ws[i] = x at *
          obtain ⟨kp, hkp⟩ := Int.eq_ofNat_of_zero_le hxp.1
          have HX := Lib.hid hxs
          have HRG := Lib.hid hrg
          have HOS := Lib.hid hos
          have HMS := Lib.hid hms
          have HOL := Lib.hid hol
          have HOC := Lib.hid hoc
          have HML := Lib.hid hml
          have HKP := Lib.hid hkp
          have hkn : kp < n := by have := hxp.2; omega
          have HH := Lib.hid fun w' (hr : Rd w' 2 (.slice pt q ct) q (tagsC ts)) => rhas pt q ct ts x.kind x.id w' hr HI.out.q1
          have hb1g : b1 < gm := by omega
          have hnb : ¬ b1 = gm := by omega
          have hnb2 : ¬ gm = b1 := by omega
          obtain ⟨h0, hS, h33, h34, h35⟩ := wr_parts HX.out (Rd.rangeLater hrg hh1 hbr)
          obtain ⟨hv, hhv⟩ : ∃ hv, hasT ts x = hv := ⟨_, rfl⟩
          rw [show decide ((x.kind, x.id) ∈ ts) = hv from hhv] at HH
          rw [hhv] at hmkx
          have HAFT : Hid (∀ w4, Below wr.heap.size wr w4 → w4.cell? ⟨b1, o1 + i * 36, none⟩ = some (.int .i64 (kp : Int)) ∧ w4.cell? ⟨b1, o1 + i * 36 + 35, none⟩ = some (.int .i64 x.ep) ∧ w4.cell? ⟨gm, i, none⟩ = some (.bool ((madeUpto mk ws i)[i]'(by rw [hml]; exact ha))) ∧ w4.frozen? ⟨gm, i, none⟩ = false) := Lib.hid (fun w4 hb4 => by
            have hbb : b1 < wr.heap.size := Nat.lt_of_lt_of_le hh1 hbr.size
            have hrb := row_later RB.out hb4 (Array.getElem?_eq_some_iff.1 RB.out).1
            refine ⟨?_, ?_, rowB_cell hrb (by rw [hml]; exact ha), frozen_row hrb i⟩
            · rw [hb4.cell (p := ⟨b1, o1 + i * 36, none⟩) hbb, h0, HKP.out]
            · rw [hb4.cell (p := ⟨b1, o1 + i * 36 + 35, none⟩) hbb, h35])
          clear HR1 hl1 hrg hos hms hol hoc hkp hxs hxp hS h0 h35 hhv
          have hcase : (mk x = false ∧ hv = false ∧ sb = false) ∨ (mk x = false ∧ hv = false ∧ sb = true ∧ decide (x.ep < t) = false) ∨ (mk x = true ∧ hv = true) ∨ (mk x = true ∧ hv = false ∧ sb = true ∧ decide (x.ep < t) = true) := by
            cases hv <;> cases sb <;> cases hq : decide (x.ep < t) <;> simp [hmkx, hq]
          clear hmkx
          obtain ⟨g, hg⟩ := own_some HO.out (by omega)
          subst hg
          have hgg := HPO.out g rfl
          have HFALSE : ∀ w4, Below wr.heap.size wr w4 → Own (w4.setCell ⟨gm, i, none⟩ (.bool false)) w.heap.size 62 32 (.slice (some ⟨g, 0, none⟩) n co) n (cellsOf (outOf mk (ws.take i) ss)) ∧ (∀ b, RowB (w4.setCell ⟨gm, i, none⟩ (.bool b)) gm ((madeUpto mk ws i).set i b)) ∧ ∀ b, Below w.heap.size w (w4.setCell ⟨gm, i, none⟩ (.bool b)) := fun w4 hb4 =>
            ⟨own_set_other (own_later HO.out hb4) (fun g' m' c' e => by cases e; omega), fun b => rowB_set (row_later RB.out hb4 (Array.getElem?_eq_some_iff.1 RB.out).1) i b, fun b => (below_trans hbr hb4).setCell (p := ⟨gm, i, none⟩) hgm _⟩
          rcases hcase with ⟨hm0, rfl, rfl⟩ | ⟨hm0, rfl, rfl, hq⟩ | ⟨hm0, rfl⟩ | ⟨hm0, rfl, rfl, hq⟩
          · rw [hm0] at HMS
            have HOS2 : Hid (outOf mk (ws.take (i + 1)) ss = outOf mk (ws.take i) ss) := Lib.hid (by rw [HOS.out, outStep, hm0]; rfl)
            clear hm0
            go_wp2_with (go_at_call 66; refine (HH.out _ (HI.out.tags.later hbr)).mono ?_; rintro e w4 ⟨rfl, hb4⟩; obtain ⟨e0, e35, em, ez⟩ := HAFT.out w4 hb4)
            have hw5 := HFALSE w4 hb4
            go_roundw
            case rel => exact ⟨i + 1, by omega, by go_num, Lib.hid (by rw [HOS2.out]; exact hw5.1), Lib.hid (by rw [← HMS.out]; exact hw5.2.1 false), hw5.2.2 false⟩
            case measure => simp [intOf]; omega
          · rw [hm0] at HMS
            have HOS2 : Hid (outOf mk (ws.take (i + 1)) ss = outOf mk (ws.take i) ss) := Lib.hid (by rw [HOS.out, outStep, hm0]; rfl)
            clear hm0
            go_wp2_with (go_at_call 66; refine (HH.out _ (HI.out.tags.later hbr)).mono ?_; rintro e w4 ⟨rfl, hb4⟩; obtain ⟨e0, e35, em, ez⟩ := HAFT.out w4 hb4)
            have hw5 := HFALSE w4 hb4
            go_roundw
            case rel => exact ⟨i + 1, by omega, by go_num, Lib.hid (by rw [HOS2.out]; exact hw5.1), Lib.hid (by rw [← HMS.out]; exact hw5.2.1 false), hw5.2.2 false⟩
            case measure => simp [intOf]; omega
          all_goals
            rw [hm0] at HMS
            have HOS2 : Hid (outOf mk (ws.take (i + 1)) ss = (outOf mk (ws.take i) ss).set kp x.s) := Lib.hid (by rw [HOS.out, outStep, hm0, HKP.out]; rfl)
            clear hm0
            go_wp2_with (go_at_call 66; refine (HH.out _ (HI.out.tags.later hbr)).mono ?_; rintro e w4 ⟨rfl, hb4⟩; obtain ⟨e0, e35, em, ez⟩ := HAFT.out w4 hb4)
            have hb5 : Below w.heap.size w (w4.setCell ⟨gm, i, none⟩ (.bool true)) := (HFALSE w4 hb4).2.2 true
            have HW5 : Hid (Own (w4.setCell ⟨gm, i, none⟩ (.bool true)) w.heap.size 62 32 (.slice (some ⟨g, 0, none⟩) n co) n (cellsOf (outOf mk (ws.take i) ss))) := Lib.hid (own_set_other (own_later HO.out hb4) (fun g' m' c' e => by cases e; omega))
            have HRB5 : Hid (RowB (w4.setCell ⟨gm, i, none⟩ (.bool true)) gm (madeUpto mk ws (i + 1))) := Lib.hid (by rw [← HMS.out]; exact (HFALSE w4 hb4).2.1 true)
            have hb15 : b1 < (w4.setCell ⟨gm, i, none⟩ (.bool true)).drew.heap.size := Nat.lt_of_lt_of_le hh1 hb5.size
            have hp5 := wr_parts HX.out (Rd.rangeLater HRG.out hh1 hb5)
            have E0 : Hid ((w4.setCell ⟨gm, i, none⟩ (.bool true)).cell? ⟨b1, o1 + i * 36, none⟩ = some (.int .i64 (kp : Int))) := Lib.hid (by rw [hp5.1, HKP.out])
            have ES := Lib.hid hp5.2.1
            clear hp5 e0 e35 em ez HFALSE
            refine wp_region_held_drew (S := Touch (· = g) (w4.setCell ⟨gm, i, none⟩ (.bool true)).drew) (by kernel_rfl) (Touch.refl _ _) (fun hH0 => ?_)
            refine wpAnyH_take (i := 0) (oi := { dst := some 87, op := Op.move (Operand.tmp 11), type := 22, pos := "ref.go:102", after := #[], guard := none }) (v := ?_) rfl (by kernel_rfl) (by kernel_rfl) (by kernel_rfl) (fun _ _ _ h => h) (Or.inl ⟨by rfl, ?_⟩) (by assumption) ?_
            rotate_left
            · (intro w' hSw; go_simp; try with_reducible rfl)
            try simp only [Act.put, List.setIfInBounds_toArray, List.set_cons_zero, List.set_cons_succ]
            refine wpAnyH_take (i := 1) (oi := { dst := some 88, op := Op.move (Operand.tmp 1), type := 26, pos := "ref.go:102", after := #[], guard := none }) (v := ?_) rfl (by kernel_rfl) (by kernel_rfl) (by kernel_rfl) (fun _ _ _ h => h) (Or.inl ⟨by rfl, ?_⟩) (by assumption) ?_
            rotate_left
            · (intro w' hSw; go_simp; try with_reducible rfl)
            try simp only [Act.put, List.setIfInBounds_toArray, List.set_cons_zero, List.set_cons_succ]
            refine wpAnyH_take (i := 2) (oi := { dst := some 89, op := Op.move (Operand.tmp 13), type := 3, pos := "ref.go:102", after := #[], guard := none }) (v := ?_) rfl (by kernel_rfl) (by kernel_rfl) (by kernel_rfl) (fun _ _ _ h => h) (Or.inl ⟨by rfl, ?_⟩) (by assumption) ?_
            rotate_left
            · (intro w' hSw; go_simp; try with_reducible rfl)
            try simp only [Act.put, List.setIfInBounds_toArray, List.set_cons_zero, List.set_cons_succ]
            refine wpAnyH_take (i := 3) (oi := { dst := some 90, op := Op.indexAddr 26 (Operand.tmp 88) (Operand.tmp 89), type := 0, pos := "ref.go:102", after := #[{ on := 1, ground := Ground.data }, { on := 2, ground := Ground.data }], guard := none }) (v := ?_) rfl (by kernel_rfl) (by kernel_rfl) (by kernel_rfl) (fun _ _ _ h => h) (Or.inl ⟨by rfl, ?_⟩) (by assumption) ?_
            rotate_left
            · (intro w' hSw; go_simp; try with_reducible rfl)
            try simp only [Act.put, List.setIfInBounds_toArray, List.set_cons_zero, List.set_cons_succ]
            refine wpAnyH_take (i := 4) (oi := { dst := some 91, op := Op.fieldAddr 79 (Operand.tmp 90) 0, type := 0, pos := "ref.go:102", after := #[{ on := 3, ground := Ground.data }], guard := none }) (v := ?_) rfl (by kernel_rfl) (by kernel_rfl) (by kernel_rfl) (fun _ _ _ h => h) (Or.inl ⟨by rfl, ?_⟩) (by assumption) ?_
            rotate_left
            · (intro w' hSw; go_simp; try with_reducible rfl)
            try simp only [Act.put, List.setIfInBounds_toArray, List.set_cons_zero, List.set_cons_succ]
            refine' wpAnyH_take (i := 5) (oi := { dst := some 92, op := Op.load 3 (Operand.tmp 91), type := 3, pos := "ref.go:102", after := #[{ on := 4, ground := Ground.data }], guard := none }) (v := _) rfl (by kernel_rfl) (by kernel_rfl) (by kernel_rfl) (fun _ _ _ h => h) (ld_cell (by rfl) 3 _ und_int rfl _ rfl b1 (o1 + i * 36) rfl (.int .i64 (kp : Int)) (fun w' hw => by rw [hw.drewL.cell (p := ⟨b1, o1 + i * 36, none⟩) hb15 (show ¬ b1 = g by omega)]; exact E0.out)) (by assumption) ?_
            try simp only [Act.put, List.setIfInBounds_toArray, List.set_cons_zero, List.set_cons_succ]
            refine wpAnyH_take (i := 6) (oi := { dst := some 93, op := Op.move (Operand.tmp 1), type := 26, pos := "ref.go:102", after := #[], guard := none }) (v := ?_) rfl (by kernel_rfl) (by kernel_rfl) (by kernel_rfl) (fun _ _ _ h => h) (Or.inl ⟨by rfl, ?_⟩) (by assumption) ?_
            rotate_left
            · (intro w' hSw; go_simp; try with_reducible rfl)
            try simp only [Act.put, List.setIfInBounds_toArray, List.set_cons_zero, List.set_cons_succ]
            refine wpAnyH_take (i := 7) (oi := { dst := some 94, op := Op.move (Operand.tmp 13), type := 3, pos := "ref.go:102", after := #[], guard := none }) (v := ?_) rfl (by kernel_rfl) (by kernel_rfl) (by kernel_rfl) (fun _ _ _ h => h) (Or.inl ⟨by rfl, ?_⟩) (by assumption) ?_
            rotate_left
            · (intro w' hSw; go_simp; try with_reducible rfl)
            try simp only [Act.put, List.setIfInBounds_toArray, List.set_cons_zero, List.set_cons_succ]
            refine wpAnyH_take (i := 8) (oi := { dst := some 95, op := Op.indexAddr 26 (Operand.tmp 93) (Operand.tmp 94), type := 0, pos := "ref.go:102", after := #[{ on := 6, ground := Ground.data }, { on := 7, ground := Ground.data }], guard := none }) (v := ?_) rfl (by kernel_rfl) (by kernel_rfl) (by kernel_rfl) (fun _ _ _ h => h) (Or.inl ⟨by rfl, ?_⟩) (by assumption) ?_
            rotate_left
            · (intro w' hSw; go_simp; try with_reducible rfl)
            try simp only [Act.put, List.setIfInBounds_toArray, List.set_cons_zero, List.set_cons_succ]
            refine wpAnyH_take (i := 9) (oi := { dst := some 96, op := Op.fieldAddr 79 (Operand.tmp 95) 1, type := 0, pos := "ref.go:102", after := #[{ on := 8, ground := Ground.data }], guard := none }) (v := ?_) rfl (by kernel_rfl) (by kernel_rfl) (by kernel_rfl) (fun _ _ _ h => h) (Or.inl ⟨by rfl, ?_⟩) (by assumption) ?_
            rotate_left
            · (intro w' hSw; go_simp; try with_reducible rfl)
            try simp only [Act.put, List.setIfInBounds_toArray, List.set_cons_zero, List.set_cons_succ]
            refine' wpAnyH_take (i := 10) (oi := { dst := some 97, op := Op.load 62 (Operand.tmp 96), type := 62, pos := "ref.go:102", after := #[{ on := 9, ground := Ground.data }], guard := none }) (v := _) rfl (by kernel_rfl) (by kernel_rfl) (by kernel_rfl) (fun _ _ _ h => h) (ld_sec (by rfl) _ rfl b1 (o1 + i * 36 + 1) rfl x.s HX.out.1 (fun w' hw => hw.drewL.range hb15 (show ¬ b1 = g by omega) ES.out)) (by assumption) ?_
            try simp only [Act.put, List.setIfInBounds_toArray, List.set_cons_zero, List.set_cons_succ]
            refine wpAnyH_take (i := 11) (oi := { dst := some 98, op := Op.indexAddr 22 (Operand.tmp 87) (Operand.tmp 92), type := 0, pos := "ref.go:102", after := #[{ on := 0, ground := Ground.data }, { on := 5, ground := Ground.data }, { on := 0, ground := Ground.phase }, { on := 1, ground := Ground.phase }, { on := 2, ground := Ground.phase }, { on := 3, ground := Ground.phase }, { on := 4, ground := Ground.phase }, { on := 5, ground := Ground.phase }, { on := 6, ground := Ground.phase }, { on := 7, ground := Ground.phase }, { on := 8, ground := Ground.phase }, { on := 9, ground := Ground.phase }, { on := 10, ground := Ground.phase }], guard := none }) (v := ?_) rfl (by kernel_rfl) (by kernel_rfl) (by kernel_rfl) (fun _ _ _ h => h) (Or.inl ⟨by rfl, ?_⟩) (by assumption) ?_
            rotate_left
            · (intro w' hSw; go_simp; try with_reducible rfl)
            try simp only [Act.put, List.setIfInBounds_toArray, List.set_cons_zero, List.set_cons_succ]
            -- 12
            refine wpAnyH_ready (rs := [12]) (by kernel_rfl) (by simp) ?_
            refine AllReadyH.cons (o := { dst := none, op := Op.store 62 (Operand.tmp 98) (Operand.tmp 97), type := 0, pos := "ref.go:102", after := #[{ on := 11, ground := Ground.data }, { on := 10, ground := Ground.data }, { on := 0, ground := Ground.phase }, { on := 1, ground := Ground.phase }, { on := 2, ground := Ground.phase }, { on := 3, ground := Ground.phase }, { on := 4, ground := Ground.phase }, { on := 5, ground := Ground.phase }, { on := 6, ground := Ground.phase }, { on := 7, ground := Ground.phase }, { on := 8, ground := Ground.phase }, { on := 9, ground := Ground.phase }, { on := 10, ground := Ground.phase }], guard := none }) rfl (fun K hK => ?_) AllReadyH.nil
            refine step_store_own (by rfl) _ _ (by rfl) w.heap.size g kp n co (by rfl) x.s (by rfl) HX.out _ HOC.out (by rw [HOL.out]; exact hkn) HW5.out ?_
            intro w6 ho6 ht6
            have HO6 := Lib.hid ho6
            have HT6 := Lib.hid ht6
            clear ho6
            dsimp only
            refine hK.out _ _ ?_ (fun hHeld => ?_)
            · exact ht6
            clear hK K ht6
            try simp only [Act.put, List.setIfInBounds_toArray, List.set_cons_zero, List.set_cons_succ]
            refine wpAnyH_done (by kernel_rfl) ?_ _
            have hT6 := HT6.out.drewL
            have HRB6 : Hid (RowB w6 gm (madeUpto mk ws (i + 1))) := Lib.hid (row_touch HRB5.out hT6 (by omega))
            have hb6 : Below w.heap.size w w6 := hb5.trans (hT6.below hb5.size (fun k hk => by rw [hk]; exact hgg.1))
            clear hHeld hH0
            go_wp2_with fail
            go_roundw
            case rel => exact ⟨i + 1, by omega, by go_num, Lib.hid (by rw [HOS2.out]; exact HO6.out), HRB6, hb6⟩
            case measure => simp [intOf]; omega
        · obtain rfl : m = i := by omega
          clear hi ha
          have HOE : Hid (Own wr w.heap.size 62 32 (.slice po n co) n (cellsOf (outOf mk ws ss))) := Lib.hid (by have h := HO.out; rwa [List.take_of_length_le (by rw [HI.out.wl]; omega)] at h)
          have RBE : Hid (RowB wr gm (ws.map mk)) := Lib.hid (by have h := RB.out; rw [← HI.out.wl] at h; rwa [madeUpto_all] at h)
          clear HO RB
          go_wp2_with fail
          go_loopw [14, 15] (fun lv iv wv => ∃ (i nl cl : Nat) (pl : Option Addr), i ≤ m ∧ iv = .int .i64 (i : Int) ∧ lv = .slice pl nl cl ∧ Hid (nl = (leftUpto mk ws i).length) ∧ Hid (Own wv wr.heap.size 79 36 (.slice pl nl cl) nl (wrsC (leftUpto mk ws i))) ∧ Below wr.heap.size wr wv) (fun _ iv _ => m - (intOf iv).toNat)
          case atStart => exact ⟨0, 0, 0, none, by omega, rfl, rfl, Lib.hid rfl, Lib.hid (own_nil _ _ _ _), Below.refl _ _⟩
          case round =>
            obtain ⟨i, nl, cl, pl, hi, rfl, rfl, HNL, HO, hb3⟩ := hrel
            have hbw := hbr.trans (hb3.mono hbr.size)
            have hgl := (Array.getElem?_eq_some_iff.1 RBE.out).1
            have HRB := Lib.hid (row_later RBE.out hb3 hgl)
            by_cases ha : i < m
            · have ha1 : (i:Int) < m := by omega
              have hil : i < ws.length := by rw [HI.out.wl]; exact ha
              obtain ⟨b1, o1, rfl, hc1, hmm1, hh1, hl1, HR1⟩ := Rd.chunk Wr.c HI.out.wait HWC.out (by decide) ha
              have HCY := Lib.hid fun k (hk : k < ws.length) => (wr_parts (HI.out.wsec _ (List.getElem_mem hk)) (Rd.rangeLater (HR1 k hk) hh1 hbw)).1
              have HCM : Hid (∀ k (hk : k < ws.length), wr.cell? ⟨gm, k, none⟩ = some (.bool (mk ws[k]))) := Lib.hid (fun k hk => by
                have := rowB_cell (w := wr) HRB.out (i := k) (by simpa using hk)
                simpa using this)
              have HX := Lib.hid (HI.out.wsec _ (List.getElem_mem hil))
              have HRX := Lib.hid (Rd.rangeLater (HR1 i hil) hh1 hbw)
              have HLS := Lib.hid (leftUpto_snoc mk ws i hil)
              have cx := HCY.out i hil
              have cm := HCM.out i hil
              have HSN := Lib.hid (staysUpto_snoc mk ws i ws[i])
              have HSS := Lib.hid (staysUpto_start mk ws i ws[i])
              have HSA : Hid (staysUpto mk ws i ws[i] m = staysB mk ws i ws[i]) := Lib.hid (by have := staysUpto_all mk ws i ws[i]; rwa [HI.out.wl] at this)
              generalize ws[i] = x at *
              obtain ⟨mx, hmx⟩ : ∃ b, mk x = b := ⟨_, rfl⟩
              rw [hmx] at cm HSS
              have hib : (i:Int) + 1 ≤ 1000 := by omega
              clear HR1 hl1 hmx
              go_wp2_with fail
              go_loopw [16, 17] (fun sv kv wv => ∃ (k d : Nat) (b : Bool), i + 1 ≤ k ∧ k ≤ m ∧ kv = .int .i64 (k : Int) ∧ sv = .bool b ∧ Hid (staysUpto mk ws i x k = b) ∧ wv = wr.drewN d) (fun _ kv _ => m - (intOf kv).toNat)
              case atStart => exact ⟨i + 1, 0, !mx, by omega, by omega, by go_num, rfl, HSS, rfl⟩
              case round =>
                obtain ⟨k, d, b, hk0, hk1, rfl, rfl, HB, rfl⟩ := hrel
                by_cases hk : k < m
                · have hk2 : (k:Int) < m := by omega
                  have hkl : k < ws.length := by rw [HI.out.wl]; exact hk
                  have cy := HCY.out k hkl
                  have ck := HCM.out k hkl
                  have hsn := HSN.out k hk0 hkl
                  rw [HB.out] at hsn
                  have HS2 := Lib.hid hsn
                  generalize ws[k] = y at *
                  obtain ⟨my, hmy⟩ : ∃ b, mk y = b := ⟨_, rfl⟩
                  rw [hmy] at ck HS2
                  clear hsn hmy
                  cases my with
                  | false =>
                    have HS3 : Hid (staysUpto mk ws i x (k + 1) = b) := Lib.hid (by rw [HS2.out]; simp)
                    go_wp2_with fail
                    go_quiet (fail)
                    go_wp2_with fail
                    go_roundw
                    case rel => exact ⟨k + 1, _, b, by omega, by omega, by go_num, rfl, HS3, by first | rfl | simp⟩
                    case measure => simp [intOf]; omega
                  | true =>
                    by_cases hp : y.pos = x.pos
                    · have hp1 : (y.pos == x.pos) = true := by simpa using hp
                      have HS3 : Hid (staysUpto mk ws i x (k + 1) = false) := Lib.hid (by rw [HS2.out, hp1]; simp)
                      clear hp
                      go_wp2_with fail
                      go_quiet (fail)
                      go_wp2_with fail
                      go_roundw
                      case rel => exact ⟨k + 1, _, false, by omega, by omega, by go_num, rfl, HS3, by first | rfl | simp⟩
                      case measure => simp [intOf]; omega
                    · have hp1 : (y.pos == x.pos) = false := by simpa using hp
                      have HS3 : Hid (staysUpto mk ws i x (k + 1) = b) := Lib.hid (by rw [HS2.out, hp1]; simp)
                      clear hp
                      go_wp2_with fail
                      go_quiet (fail)
                      go_wp2_with fail
                      go_roundw
                      case rel => exact ⟨k + 1, _, b, by omega, by omega, by go_num, rfl, HS3, by first | rfl | simp⟩
                      case measure => simp [intOf]; omega
                · obtain rfl : m = k := by omega
                  have HBB : Hid (staysB mk ws i x = b) := Lib.hid (by rw [← HSA.out]; exact HB.out)
                  have hbl : b1 < wr.heap.size := Nat.lt_of_lt_of_le hh1 hbw.size
                  have hbs := hb3.size
                  have hnl : nl ≤ 1000 := by have := HNL.out; have := leftUpto_len mk ws i; omega
                  clear HB hk hk0 hk1
                  cases b with
                  | true =>
                    have HL2 : Hid (leftUpto mk ws (i + 1) = leftUpto mk ws i ++ [x]) := Lib.hid (by rw [HLS.out, HBB.out]; rfl)
                    have HL3 : Hid (wrsC (leftUpto mk ws (i + 1)) = wrsC (leftUpto mk ws i) ++ x.c) := Lib.hid (by rw [HL2.out]; simp [wrsC])
                    have HRX2 := Lib.hid (Rd.rangeLater HRX.out hbl (blw_drewN (Below.refl wr.heap.size wr) d))
                    go_wp2_with (first | (refine load_wr rfl (.tmp 139) rfl b1 (o1 + i * 36) rfl x HX.out HRX2.out ?_) | (refine build_one elem_wrs (by decide) rfl (.tmp 140) rfl x.c rfl (Wr.c_len HX.out) ?_) | (at_builtin; refine ap_rd elem_wrs rfl (.tmp 136) (.tmp 141) rfl _ _ nl _ rfl ((HO.out.drewN d).alloc _) _ 1 x.c rfl (rd_laid _ _ _ _ (Wr.c_len HX.out)) (wr_ones x) (by omega) (by rw [size_alloc]; exact Nat.le_succ_of_le hbs) ?_; intro pa ca wa ho hba; rw [← HL3.out] at ho; have HOA := Lib.hid ho; clear ho))
                    go_roundw
                    case rel => exact ⟨i + 1, nl + 1, ca, pa, by omega, by go_num, rfl, Lib.hid (by rw [HL2.out, List.length_append, ← HNL.out]; rfl), HOA, ((blw_drewN hb3 d).alloc hbs _).trans hba⟩
                    case measure => simp [intOf]; omega
                  | false =>
                    have HL2 : Hid (leftUpto mk ws (i + 1) = leftUpto mk ws i) := Lib.hid (by rw [HLS.out, HBB.out]; simp)
                    go_wp2_with fail
                    go_roundw
                    case rel => exact ⟨i + 1, nl, cl, pl, by omega, by go_num, rfl, Lib.hid (by rw [HL2.out]; exact HNL.out), Lib.hid (by rw [HL2.out]; exact HO.out.drewN d), blw_drewN hb3 d⟩
                    case measure => simp [intOf]; omega
            · obtain rfl : m = i := by omega
              have HSET : Hid (settle ss ws ts = (outOf mk ws ss, leftUpto mk ws m)) := Lib.hid (by rw [settle, HTE.out, HMK.out, HI.out.wl])
              go_wp2_with fail
              go_ret2
              rw [HSET.out]
              exact ⟨po, co, pl, nl, cl, rfl, HNL.out, own_later HOE.out hb3, own_base HO.out hbr.size, hbw⟩
end Go.Proofs.Ytpnepooobmbfbaa.dsk
/- step, over what the code's disk gives. -/
namespace Go.Proofs.Ytpnepooobmbfbaa.dsk
set_option maxRecDepth 100000
open Go.ChangeShapes Go.WideShapes Go.ChangeAt Go.RowKit
open Go.Proofs.Ytpnepooobmbfbaa.rows
open Go.Proofs.Ytpnepooobmbfbaa.sec
set_option linter.unusedVariables false
set_option linter.unusedSimpArgs false

/-- the act that step has boxed -/
def Boxed (gb : Nat) (a : Act0) (w : World) : Prop := w.heap[gb]? = some (.cells a.c.toArray 67 (0, 0))
theorem Boxed.range {gb : Nat} {a : Act0} {w : World} (h : Boxed gb a w) : w.rangeAt gb 0 a.c := by
  have := World.rangeAt_of_block h 0 a.c.toArray.size
  simpa using this
theorem Boxed.touch {gb : Nat} {a : Act0} {w w' : World} {S : Nat → Prop} (h : Boxed gb a w) (ht : Touch S w w') (hs : ¬ S gb) : Boxed gb a w' := row_touch h ht hs
end Go.Proofs.Ytpnepooobmbfbaa.dsk
/- step, over what the code's disk gives: Sync. -/
namespace Go.Proofs.Ytpnepooobmbfbaa.dsk
open Go.ChangeShapes Go.WideShapes Go.ChangeAt Go.RowKit
open Go.Proofs.Ytpnepooobmbfbaa.rows
open Go.Proofs.Ytpnepooobmbfbaa.sec
set_option linter.unusedVariables false
set_option linter.unusedSimpArgs false

end Go.Proofs.Ytpnepooobmbfbaa.dsk
/- step, over what the code's disk gives: Barrier, Fail and Read. -/
namespace Go.Proofs.Ytpnepooobmbfbaa.dsk
open Go.ChangeShapes Go.WideShapes Go.ChangeAt Go.RowKit
open Go.Proofs.Ytpnepooobmbfbaa.rows
open Go.Proofs.Ytpnepooobmbfbaa.sec
set_option linter.unusedVariables false
set_option linter.unusedSimpArgs false

end Go.Proofs.Ytpnepooobmbfbaa.dsk
/- step, over what the code's disk gives: Fail and Read. -/
namespace Go.Proofs.Ytpnepooobmbfbaa.dsk
open Go.ChangeShapes Go.WideShapes Go.ChangeAt Go.RowKit
open Go.Proofs.Ytpnepooobmbfbaa.rows
open Go.Proofs.Ytpnepooobmbfbaa.sec
set_option linter.unusedVariables false
set_option linter.unusedSimpArgs false

end Go.Proofs.Ytpnepooobmbfbaa.dsk
/- step, over what the code's disk gives: Fail. -/
namespace Go.Proofs.Ytpnepooobmbfbaa.dsk
open Go.ChangeShapes Go.WideShapes Go.ChangeAt Go.RowKit
open Go.Proofs.Ytpnepooobmbfbaa.rows
open Go.Proofs.Ytpnepooobmbfbaa.sec
set_option linter.unusedVariables false
set_option linter.unusedSimpArgs false

end Go.Proofs.Ytpnepooobmbfbaa.dsk
/- step over any act: what state comes next, and that it stays small. -/
namespace Go.Proofs.Ytpnepooobmbfbaa.dsk
open Go.ChangeShapes Go.WideShapes Go.ChangeAt Go.RowKit
open Go.Proofs.Ytpnepooobmbfbaa.rows
open Go.Proofs.Ytpnepooobmbfbaa.sec
set_option linter.unusedVariables false
set_option linter.unusedSimpArgs false

/-- what holds behind k acts -/
structure St.good (k : Nat) (st : St) : Prop where
  ss : Secs st.safe
  n1 : st.safe.length ≤ 65
  ws : ∀ x ∈ st.wait, Sec x.s ∧ 0 ≤ x.pos ∧ x.pos < (st.safe.length : Int)
  es : ∀ e ∈ st.log, Sec e.2.1.s ∧ e.2.2.length ≤ 50
  wn : st.wait.length ≤ k
  ln : st.log.length ≤ k
  bn : st.bad.length ≤ 50
  ep : 0 ≤ st.ep ∧ st.ep ≤ k
  asked : 0 ≤ st.asked ∧ st.asked ≤ k
end Go.Proofs.Ytpnepooobmbfbaa.dsk
/- The code's disk: what it holds, zone by zone, and what its calls leave alone. -/
namespace Go.Proofs.Ytpnepooobmbfbaa.dsk
set_option maxRecDepth 100000
open Go.ChangeShapes Go.WideShapes Go.ChangeAt Go.RowKit
open Go.Proofs.Ytpnepooobmbfbaa.rows
open Go.Proofs.Ytpnepooobmbfbaa.sec
open Go.Maps
set_option linter.unusedVariables false
set_option linter.unusedSimpArgs false

/-- the slice's own block is one of S -/
def OwnS (S : Nat → Prop) (v : Value) : Prop := ∀ k, v.ownBlock = some k → S k
/-- the blocks of F that lie in zone k: 0 the disk itself, 1 safe, 2 waiting, 3 seen, 4 log, 5 faults, 6 the tags of the log -/
def Zn (F : Nat → Prop) (z : Nat → Nat) (k : Nat) : Nat → Prop := fun b => F b ∧ z b = k
def seenOf (st : St) : List (List Int) := outOf (fun _ => true) st.wait st.safe
structure LogIn (T : Nat → Prop) (w : World) (v : Value) (es : List Ev) (vs : List Value) : Prop where
  len : vs.length = es.length
  own : Own w 0 82 38 v es.length ((es.zip vs).map fun x => evC x.1 x.2).flatten
  tags : ∀ i (h : i < es.length), ∃ p c, vs[i]? = some (.slice p (es[i]).2.2.length c) ∧ Rd w 2 (.slice p (es[i]).2.2.length c) (es[i]).2.2.length (tagsC (es[i]).2.2) ∧ InS T (.slice p (es[i]).2.2.length c)
/-- the map v of numbers that are to fail holds, from asked on, those of bad -/
def FaultsIn (S : Nat → Prop) (w : World) (v : Value) (bad : List Int) (asked : Int) : Prop :=
  (v = .map none ∧ bad = []) ∨
  ∃ b n, ∃ D : DataW Unit, v = .map (some b) ∧ S b ∧ n ≤ 2000 ∧ w.ownsMap Try.prog 3 unitElem b n D ∧ ∀ k : Int, wf64 k → asked ≤ k → Maps.has D (.int .i64 k) = decide (k ∈ bad)
structure CodeAt (w : World) (F : Nat → Prop) (z : Nat → Nat) (g : Nat) (st : St) (vs vw vn vl vf : Value) : Prop where
  row : w.heap[g]? = some (.cells #[.pointer (some ⟨g, 0, none⟩), vs, vw, vn, .int .i64 st.ep, vl, .int .i64 st.asked, vf] 102 (0, 0))
  own : Zn F z 0 g
  safe : Own w 0 62 32 vs st.safe.length (cellsOf st.safe)
  safeS : OwnS (Zn F z 1) vs
  wait : Own w 0 79 36 vw st.wait.length (wrsC st.wait)
  waitS : OwnS (Zn F z 2) vw
  seen : Own w 0 62 32 vn st.safe.length (cellsOf (seenOf st))
  seenS : OwnS (Zn F z 3) vn
  log : ∃ es, LogIn (Zn F z 6) w vl st.log es
  logS : OwnS (Zn F z 4) vl
  faults : FaultsIn (Zn F z 5) w vf st.bad st.asked
  eps : ∀ x ∈ st.wait, 0 ≤ x.ep ∧ wf64 x.kind ∧ wf64 x.id
theorem own_kept {S : Nat → Prop} {w w' : World} {B : Nat} {e : TypeId} {sz n : Nat} {v : Value} {cs : List Value} (h : Own w B e sz v n cs) (hv : OwnS S v) (k : Keeps S w w') : Own w' B e sz v n cs := by
  refine ⟨h.1, ?_⟩
  rcases h.2 with h2 | ⟨g, cap, cur, hw, h3, h4, h5⟩
  · exact Or.inl h2
  · exact Or.inr ⟨g, cap, cur, hw, h3, (k.2 g (Array.getElem?_eq_some_iff.1 h4).1 (hv g (by rw [hw]; rfl))).trans h4, h5⟩
theorem OwnS.mono {S T : Nat → Prop} {v : Value} (h : OwnS S v) (k : ∀ b, S b → T b) : OwnS T v := fun b hb => k b (h b hb)
theorem own_blk {w : World} {B : Nat} {e : TypeId} {sz n : Nat} {v : Value} {cs : List Value} (h : Own w B e sz v n cs) {k : Nat} (hk : v.ownBlock = some k) : B ≤ k ∧ k < w.heap.size := World.ownsRow.lt h k hk
/-- a zone of old blocks stays what it is -/
theorem OwnS.next {F F' : Nat → Prop} {z z' : Nat → Nat} {w : World} {B k : Nat} {e : TypeId} {sz n : Nat} {v : Value} {cs : List Value} (h : OwnS (Zn F z k) v) (o : Own w B e sz v n cs) (hF : ∀ b, F b → F' b) (hz : ∀ b, b < w.heap.size → z' b = z b) : OwnS (Zn F' z' k) v :=
  fun b hb => ⟨hF b (h b hb).1, (hz b (own_blk o hb).2).trans (h b hb).2⟩
theorem LogIn.mono {T T' : Nat → Prop} {w : World} {v : Value} {es : List Ev} {vs : List Value} (h : LogIn T w v es vs) (hT : ∀ b, b < w.heap.size → T b → T' b) : LogIn T' w v es vs :=
  ⟨h.len, h.own, fun i hi => by
    obtain ⟨p, c, h1, h2, h3⟩ := h.tags i hi
    refine ⟨p, c, h1, h2, fun a n c' hv hn => ?_⟩
    have hin := h3 a n c' hv hn
    refine hT _ ?_ hin
    rcases h2 with ⟨p', cap', e1, e2, _⟩ | ⟨b, off, cap', e1, _, _, _, hlt, _⟩
    · rw [e1] at hv; cases hv; omega
    · rw [e1] at hv; cases hv; exact hlt⟩
theorem FaultsIn.mono {S S' : Nat → Prop} {w : World} {v : Value} {bad : List Int} {asked : Int} (h : FaultsIn S w v bad asked) (hS : ∀ b, b < w.heap.size → S b → S' b) : FaultsIn S' w v bad asked := by
  rcases h with h | ⟨b, n, D, hv, hb, hn, ho, hk⟩
  · exact Or.inl h
  · exact Or.inr ⟨b, n, D, hv, hS b ho.lt hb, hn, ho, hk⟩
theorem Zn.keeps {F : Nat → Prop} {z : Nat → Nat} {k : Nat} {w w' : World} (h : Keeps F w w') : Keeps (Zn F z k) w w' := h.mono fun b hb => hb.1
theorem CodeAt.lt {w : World} {F : Nat → Prop} {z : Nat → Nat} {g : Nat} {st : St} {vs vw vn vl vf : Value} (h : CodeAt w F z g st vs vw vn vl vf) : g < w.heap.size := (Array.getElem?_eq_some_iff.1 h.row).1
theorem Own.parts {w : World} {B : Nat} {e : TypeId} {sz n : Nat} {v : Value} {cs : List Value} (h : Own w B e sz v n cs) : ∃ p c, v = .slice p n c := h.slice
/-! the keys -/
theorem zero_unit (w : World) : (zeroValue 125).run Try.prog w = .ok (.agg #[]) w := by kernel_rfl
end Go.Proofs.Ytpnepooobmbfbaa.dsk
