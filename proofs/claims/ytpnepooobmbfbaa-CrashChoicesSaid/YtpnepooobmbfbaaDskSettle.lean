/- What the reference's Settle gives. -/
import Derived.Test.YtpnepooobmbfbaaDskWriteY
namespace Go.Proofs.Ytpnepooobmbfbaa.dsk
set_option maxRecDepth 100000
open Go.ChangeShapes Go.WideShapes Go.ChangeAt Go.RowKit
open Go.Proofs.Ytpnepooobmbfbaa.rows
open Go.Proofs.Ytpnepooobmbfbaa.sec
set_option linter.unusedVariables false
set_option linter.unusedSimpArgs false

def outStep (made : Wr → Bool) (o : List (List Int)) (x : Wr) : List (List Int) := if made x = true then o.set x.pos.toNat x.s else o
def outOf (made : Wr → Bool) (ws : List Wr) (safe : List (List Int)) : List (List Int) := ws.foldl (outStep made) safe
theorem wr_parts {w : World} {b o : Nat} {x : Wr} (hs : Sec x.s) (h : w.rangeAt b o x.c) : w.cell? ⟨b, o, none⟩ = some (.int .i64 x.pos) ∧ w.rangeAt b (o + 1) (u8s x.s) ∧ w.cell? ⟨b, o + 33, none⟩ = some (.int .i64 x.kind) ∧ w.cell? ⟨b, o + 34, none⟩ = some (.int .i64 x.id) ∧ w.cell? ⟨b, o + 35, none⟩ = some (.int .i64 x.ep) := by
  have hl : (u8s x.s).length = 32 := by simp [u8s, hs.1]
  obtain ⟨h0, h1⟩ := wr_range h
  refine ⟨h0, h1, h 33 _ ?_, h 34 _ ?_, h 35 _ ?_⟩ <;>
  · rw [Wr.c, List.getElem?_cons_succ, List.getElem?_append_right (by omega), hl]; rfl
/-- a sector into the middle of a slice of the call's own -/
theorem own_store {w : World} {B g n c : Nat} {ss : List (List Int)} (h : Own w B 62 32 (.slice (some ⟨g, 0, none⟩) n c) n (cellsOf ss)) (hs : Secs ss) {i : Nat} (hi : i < ss.length) {s : List Int} (hl : Sec s) :
    ∃ w', (storeVar 62 ⟨g, i * 32, none⟩ (.agg (u8s s).toArray)).run Try.prog w = .ok () w' ∧ Own w' B 62 32 (.slice (some ⟨g, 0, none⟩) n c) n (cellsOf (ss.set i s)) ∧ Touch (· = g) w w' ∧ B ≤ g := by
  obtain ⟨hlen, h2⟩ := h
  rcases h2 with ⟨h2, _⟩ | ⟨g', cap, cur, h1, h2, h3, h4, h5, h6, h7⟩
  · cases h2
  · cases h1
    have hcl := cellsOf_len hs
    have hsn : ss.length = n := by omega
    have hus := u8s_len s
    have hsz : i * 32 + 32 ≤ cur.size := by rw [h6]; omega
    have h8 := run_storeCells_at (P := Try.prog) g (i * 32) 62 (u8s s) 0 cur w h3 (by rw [hus, hl.1]; omega) (one_ints .u8 s)
    rw [Nat.add_zero, hus, hl.1] at h8
    have hput := put_chunk u8s 32 ss i s (fun y hy => by rw [u8s_len, (hs y hy).1]) (by rw [u8s_len, hl.1]) hi
    rw [← cellsOf_map, ← cellsOf_map] at hput
    have hcut : cur.toList = cellsOf ss ++ cur.toList.drop (n * 32) := by rw [← h7, List.take_append_drop]
    have hnew : (cur.toList.take (i * 32) ++ u8s s ++ cur.toList.drop (i * 32 + 32)) = cellsOf (ss.set i s) ++ cur.toList.drop (n * 32) := by
      rw [← hput]
      conv => lhs; rw [hcut]
      rw [List.take_append_of_le_length (by rw [hcl]; omega), List.drop_append_of_le_length (by rw [hcl]; omega)]
      simp [List.append_assoc]
    refine ⟨w.setRow g (cellsOf (ss.set i s) ++ cur.toList.drop (n * 32)).toArray, ?_, ⟨by rw [cellsOf_len (secs_set hs hl i)]; simp; omega, Or.inr ⟨g, c, _, rfl, h2, setRow_heap w g _ _ _ _ h3, h4, h5, ?_, ?_⟩⟩, touch_setRow w g _, h2⟩
    · rw [← hnew]
      cases hq : Try.prog.info? 62 with
      | none => have := info_sec; simp [hq] at this
      | some q =>
        have hqs : q.size = 32 := by have := info_sec; simpa [hq] using this
        have hc : (Value.agg (u8s s).toArray).cells = (u8s s).toArray := rfl
        simp [storeVar, sizeOf, typeInfo, hq, hqs, hc, u8s_len, hl.1, h8]
    · have hcs : (cellsOf (ss.set i s)).length = n * 32 := by rw [cellsOf_len (secs_set hs hl i)]; simp; omega
      simp [hcs, h6]; omega
    · have hcs : (cellsOf (ss.set i s)).length = n * 32 := by rw [cellsOf_len (secs_set hs hl i)]; simp; omega
      show (cellsOf (ss.set i s) ++ cur.toList.drop (n * 32)).take (n * 32) = _
      rw [← hcs, List.take_left]
theorem step_store_own {w : World} {ops : Array Oper} {o : Oper} {a : Act} {K : Act → World → Prop} {Q : Exit → Act → World → Prop} {F : Prop} (hw : Region.wanted o (yielded ops a.tmps) = true) (x y : Operand) (ho : o.op = .store 62 x y)
    (B g i n c : Nat) (hx : a.eval x = .pointer (some ⟨g, i * 32, none⟩)) (s : List Int) (hy : a.eval y = .agg (u8s s).toArray) (hl : Sec s) (ss : List (List Int)) (hs : Secs ss) (hi : i < ss.length) (hg : Own w B 62 32 (.slice (some ⟨g, 0, none⟩) n c) n (cellsOf ss))
    (h : ∀ w', Own w' B 62 32 (.slice (some ⟨g, 0, none⟩) n c) n (cellsOf (ss.set i s)) → Touch (· = g) w w' → K (a.put o.dst undef) w') : if Region.wanted o (yielded ops a.tmps) = true then Oper.wp Try.prog o a w K Q else F := by
  rw [if_pos hw]
  obtain ⟨w', hrun, h1, h2, _⟩ := own_store hg hs hi hl
  unfold Oper.wp execOp
  simp only [ho, hx, hy, Instr.storeAt, Instr.sureAddr, Sem.run_bind, Sem.run_pure, Result.andThen_ok, hrun]
  exact h _ h1 h2
theorem own_block {w : World} {B : Nat} {e : TypeId} {sz n m g c : Nat} {cs : List Value} (h : Own w B e sz (.slice (some ⟨g, 0, none⟩) m c) n cs) : B ≤ g ∧ g < w.heap.size := by
  rcases h.2 with ⟨h2, _⟩ | ⟨g', cap, cur, h1, h2, h3, _⟩
  · cases h2
  · cases h1
    exact ⟨h2, (Array.getElem?_eq_some_iff.1 h3).1⟩
theorem own_some {w : World} {B : Nat} {e : TypeId} {sz n c : Nat} {p : Option Addr} {cs : List Value} (h : Own w B e sz (.slice p n c) n cs) (hn : 0 < n) : ∃ g, p = some ⟨g, 0, none⟩ := by
  rcases h.2 with ⟨h2, h3⟩ | ⟨g', cap, cur, h1, _⟩
  · omega
  · cases h1; exact ⟨_, rfl⟩
theorem own_base {w : World} {B B' : Nat} {e : TypeId} {sz n : Nat} {v : Value} {cs : List Value} (h : Own w B e sz v n cs) (hB : B' ≤ B) : Own w B' e sz v n cs := by
  refine ⟨h.1, ?_⟩
  rcases h.2 with h2 | ⟨g, cap, cur, hv, h3, h4⟩
  · exact Or.inl h2
  · exact Or.inr ⟨g, cap, cur, hv, Nat.le_trans hB h3, h4⟩
/-- a write out of the middle of a row -/
theorem load_wr {ops : Array Oper} {rest : List Oper} {o : Oper} {a : Act} {w : World} {Q : Exit → Act → World → Prop} (hgd : o.guard = none) (x : Operand) (ho : o.op = .load 79 x)
    (b off : Nat) (hx : a.eval x = .pointer (some ⟨b, off, none⟩)) (y : Wr) (hs : Sec y.s) (hg : w.rangeAt b off y.c)
    (h : wpList Try.prog ops Q rest (a.put o.dst (.agg y.c.toArray)) w) : wpList Try.prog ops Q (o :: rest) a w :=
  wpList_load_mid hgd 79 x ho b off hx y.c _ hg und_wr rfl (by rw [info_wr, Wr.c_len hs]) h
end Go.Proofs.Ytpnepooobmbfbaa.dsk
