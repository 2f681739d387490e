/- knows of layer 4, over what the code's functions give. -/
import Derived.Test.YtbahllmbfmdabaaSecOk
import Derived.Deep.WholeRow
import Derived.Deep.Cut
namespace Go.Proofs.Ytbahllmbfmdabaa.sec
open Go.ChangeShapes Go.WideShapes Go.ChangeAt Go.RowKit
open Go.Proofs.Ytbahllmbfmdabaa.rows
set_option linter.unusedVariables false

abbrev agg (s : List Int) : Value := .agg (u8s s).toArray
def zero32 : List Int := List.replicate 32 0
theorem sec_zero : Sec zero32 := by
  refine ⟨by simp [zero32], fun x hx => ?_⟩
  have := List.eq_of_mem_replicate hx
  omega
def TornIs (f : Nat) : Prop := ∀ (s o : List Int) (w : World), Sec s → Sec o →
  Calls Try.prog f #[agg s, agg o] w fun e w' => e = .returned (agg (o.take 16 ++ s.drop 16)) ∧ Below w.heap.size w w'
def ZeroIs (f : Nat) : Prop := ∀ (s : List Int) (w : World), Sec s →
  Calls Try.prog f #[agg s] w fun e w' => e = .returned (.bool (decide (s = zero32))) ∧ Below w.heap.size w w'
def OfIs (f : Nat) : Prop := ∀ (p : Option Addr) (n c : Nat) (bs : List Int) (w : World), Bytes bs → Rd w 1 (.slice p n c) n (u8s bs) → n ≤ 32 →
  Calls Try.prog f #[.slice p n c] w fun e w' => e = .returned (.tuple #[agg (bs ++ List.replicate (32 - n) 0), .bool true]) ∧ Below w.heap.size w w'

/-- a whole sector into the block that was made last -/
theorem store_new {ops : Array Oper} {rest : List Oper} {o : Oper} {a : Act} {Q : Exit → Act → World → Prop} (hgd : o.guard = none) (x y : Operand) (ho : o.op = .store 34 x y)
    (w1 : World) (s : List Int) (old : Array Value) (hx : a.eval x = .pointer (some ⟨w1.heap.size, 0, none⟩)) (hy : a.eval y = agg s) (hs : s.length = 32) (hold : old.size = 32)
    (h : wpList Try.prog ops Q rest (a.put o.dst undef) (w1.alloc (.cells (u8s s).toArray 34))) : wpList Try.prog ops Q (o :: rest) a (w1.alloc (.cells old 34)) := by
  have hl : (u8s s).toArray.size = 32 := by simp [u8s, hs]
  refine wpList_store_row hgd 34 x y ho _ (u8s s).toArray hx hy 34 old (heap_alloc_new _ _) (by rw [info_sec, hl]) (by rw [hold, hl]) (by simp only [List.all_toArray]; exact List.all_eq_true.2 (one_ints .u8 s)) ?_
  rw [World.setRow_alloc_new]
  exact h
/-- the sector s lies in block g -/
def At (w : World) (g : Nat) (s : List Int) : Prop := w.heap[g]? = some (.cells (u8s s).toArray 34)
theorem At.later {w w' : World} {g : Nat} {s : List Int} (h : At w g s) (k : Below w.heap.size w w') : At w' g s := (k.block g (Array.getElem?_eq_some_iff.1 h).1).trans h
theorem At.alloc {w : World} {g : Nat} {s : List Int} (h : At w g s) (o : Obj) : At (w.alloc o) g s := h.later (below_alloc (Below.refl _ _) o)
theorem at_new (w : World) (s : List Int) : At (w.alloc (.cells (u8s s).toArray 34)) w.heap.size s := heap_alloc_new _ _
theorem At.range {w : World} {g : Nat} {s : List Int} (h : At w g s) : w.rangeAt g 0 (u8s s) := by
  have := World.rangeAt_of_block h 0 (u8s s).toArray.size
  simpa using this
theorem At.cell {w : World} {g : Nat} {s : List Int} (h : At w g s) {i : Nat} (hi : i < s.length) : w.cell? ⟨g, i, none⟩ = some (.int .u8 s[i]) := by
  have := h.range i (.int .u8 s[i]) (by simp [u8s, hi])
  rwa [Nat.zero_add] at this
/-- a load of a whole sector -/
theorem load_at {ops : Array Oper} {rest : List Oper} {o : Oper} {a : Act} {w : World} {Q : Exit → Act → World → Prop} (hgd : o.guard = none) (x : Operand) (ho : o.op = .load 34 x)
    (g : Nat) (hx : a.eval x = .pointer (some ⟨g, 0, none⟩)) (s : List Int) (hs : s.length = 32) (hg : At w g s)
    (h : wpList Try.prog ops Q rest (a.put o.dst (agg s)) w) : wpList Try.prog ops Q (o :: rest) a w :=
  wpList_load_row hgd 34 x ho g hx 34 _ _ _ hg Try.underlying34 rfl (by rw [info_sec]; simp [u8s, hs]) h

/-- the same behind '&&' or '||', where the guard says yes -/
theorem load_at_g {ops : Array Oper} {rest : List Oper} {o : Oper} {a : Act} {w : World} {Q : Exit → Act → World → Prop} (hw : Region.wanted o (yielded ops a.tmps) = true) (x : Operand) (ho : o.op = .load 34 x)
    (g : Nat) (hx : a.eval x = .pointer (some ⟨g, 0, none⟩)) (s : List Int) (hs : s.length = 32) (hg : At w g s)
    (h : wpList Try.prog ops Q rest (a.put o.dst (agg s)) w) : wpList Try.prog ops Q (o :: rest) a w :=
  wpList_step fun K hK => by
    rw [if_pos hw]
    exact wp_load_row 34 x ho g hx 34 _ _ _ hg Try.underlying34 rfl (by rw [info_sec]; simp [u8s, hs]) (hK _ _ h)
def s12 : List Int := [1, 2] ++ List.replicate 30 0
theorem sec12 : Sec s12 := by
  refine ⟨by decide, fun x hx => ?_⟩
  rcases List.mem_append.1 hx with hx | hx
  · simp at hx; omega
  · have := List.eq_of_mem_replicate hx; omega
theorem unl_33 : (unl (spr (List.replicate 33 0)) [] 2).length = 2 := by decide
theorem rd_lit (w : World) (e : TypeId) (sz n : Nat) (cs : Array Value) (h : cs.size = n * sz) (h0 : 0 < n) (hn : n ≤ 1000) : Rd (w.alloc (.cells cs e)) sz (.slice (some ⟨w.heap.size, 0, none⟩) n n) n cs.toList := by
  refine Or.inr ⟨w.heap.size, 0, n, rfl, h0, Nat.le_refl _, by unfold maxLen; omega, by simp, by simp [h], ?_⟩
  intro i u hi
  rw [World.cell?_alloc_new, Nat.zero_add]
  simpa using hi
theorem bytes12 : Bytes [1, 2] := by intro x hx; simp at hx; omega
theorem bytes33 : Bytes (List.replicate 33 0) := by intro x hx; have := List.eq_of_mem_replicate hx; omega
theorem of12 : ([1, 2] : List Int) ++ List.replicate (32 - 2) 0 = s12 := rfl
theorem torn12 : s12.take 16 ++ zero32.drop 16 = s12 := by decide
theorem not12 : decide (s12 = zero32) = false := by decide
theorem made33 : (madeCells (Value.int .u8 0).cells (33 * 1)).toList = u8s (List.replicate 33 0) := by kernel_rfl
theorem secsNil : Secs [] := by simp [Secs]
set_option maxHeartbeats 1600000 in
theorem knows_of (ho : OfIs 17) (ht : TornIs 14) (hz : ZeroIs 18) (hs : SpreadIs 9) (hu : UnlikeIs 12) (w : World) :
    Calls Try.prog 5 #[] w fun e w' => e = .returned (.bool true) ∧ Below w.heap.size w w' := by
  obtain ⟨i0, hi, hz0, hz1, hz2⟩ := info_parts elem_bytes.info
  have HO := Lib.hid (ho (some ⟨w.heap.size, 0, none⟩) 2 2 [1, 2] _ bytes12 (rd_lit w 5 1 2 #[.int .u8 1, .int .u8 2] rfl (by decide) (by decide)) (by decide))
  rw [of12] at HO
  have HT := Lib.hid ht
  have HZ := Lib.hid hz
  have HS := Lib.hid hs
  have HU : Hid (∀ w p c, Rd w 32 (.slice p 2 c) 2 (cellsOf (spr (List.replicate 33 0))) → Calls Try.prog 12 #[.slice p 2 c, .slice none 0 0] w fun e w' => (∃ p' c', e = .returned (.slice p' 2 c')) ∧ Below w.heap.size w w') := Lib.hid (by
    intro w p c hr
    refine (hu p none 2 c 0 0 (spr (List.replicate 33 0)) [] w (spr_secs bytes33) secsNil hr (rd_nil _ 32) (by decide) (by decide)).mono ?_
    rintro e w' ⟨p', c', he, _, hb⟩
    have hm : (unl (spr (List.replicate 33 0)) [] (max 2 0)).length = 2 := unl_33
    rw [hm] at he
    exact ⟨⟨p', c', he⟩, hb⟩)
  have E1 := Lib.hid torn12
  have E2 := Lib.hid not12
  clear ho ht hz hs hu
  go_enter Try.func5, Try.ntmps5
  go_wp2_with fail
  refine HO.out.mono ?_
  rintro e w1 ⟨rfl, hb1⟩
  have x1 := below_trans (below_alloc (Below.refl _ w) _) hb1
  have A1 := Lib.hid (at_new w1 s12)
  go_upto_region 3 with (first | (refine store_new rfl _ _ rfl w1 s12 _ rfl rfl sec12.1 rfl ?_) | (refine load_at rfl _ rfl w1.heap.size rfl s12 sec12.1 A1.out ?_) | (go_at_call 14; refine (HT.out zero32 s12 _ sec_zero sec12).mono ?_; rintro e w2 ⟨he, hb2⟩; rw [E1.out] at he; subst he; have x2 := below_trans (below_alloc x1 _) hb2; have A2 := Lib.hid (at_new w2 s12)) | (refine store_new rfl _ _ rfl w2 s12 _ rfl rfl sec12.1 rfl ?_))
  go_upto_region 4 with (first | (at_make; refine wpList_make_full _ rfl _ _ 22 rfl _ 5 i0 (.int .u8 0) 1 Try.underlying22 hi hz0 hz1 .i64 .i64 _ _ 33 rfl rfl rfl rfl (by rw [hz2]; decide) (by unfold maxLen; omega) (Nat.le_refl _) ?_; intro w3 ho3 hg3; rw [made33] at ho3; have hb3 := below_made hg3; have x3 := below_trans (below_alloc x2 _) hb3; have O3 := Lib.hid (Own.rd (show Own w3 _ 5 1 _ 33 (u8s (List.replicate 33 0)) from ho3)); rw [show (w2.alloc (Obj.cells (u8s s12).toArray 34)).heap.size = w2.heap.size + 1 by simp] at O3; clear ho3 hg3) | (go_at_call 9; refine (HS.out _ 33 33 (List.replicate 33 0) _ bytes33 O3.out (by decide)).mono ?_; rintro e w4 ⟨p4, c4, rfl, hr4, hb4⟩; have R4 : Hid (Rd w4 32 (.slice p4 2 c4) 2 (cellsOf (spr (List.replicate 33 0)))) := hr4; clear hr4; have x4 := below_trans x3 hb4; have A14 := Lib.hid ((A1.out.later (below_trans hb2 (below_trans (below_alloc (Below.refl _ w2) _) hb3))).later hb4); have A24 := Lib.hid ((A2.out.later hb3).later hb4); have c14 : w4.cell? ⟨w1.heap.size, 1, none⟩ = some (.int .u8 2) := A14.out.cell (i := 1) (by decide); have q14 : ∀ w, (Op.equalIn 10000 34 (.agg (u8s s12).toArray) (.agg (u8s s12).toArray)).run Try.prog w = .ok true w := (fun w => (eqIn_sec w sec12 sec12).trans (by rw [decide_eq_true rfl])); have g14 := guard_sec))
  go_wp2_with (first | (refine load_at_g ?_ _ rfl w2.heap.size rfl s12 sec12.1 A24.out ?_; · rfl) | (refine load_at_g ?_ _ rfl w1.heap.size rfl s12 sec12.1 A14.out ?_; · rfl) | (go_at_call 18; refine (HZ.out s12 _ sec12).mono ?_; rintro e w5 ⟨he, hb5⟩; rw [E2.out] at he; subst he; have x5 := below_trans x4 hb5) | (go_at_call 12; refine (HU.out _ _ _ (R4.out.later hb5)).mono ?_; rintro e w6 ⟨⟨p6, c6, rfl⟩, hb6⟩))
  go_ret
  exact ⟨rfl, below_trans x5 hb6⟩
end Go.Proofs.Ytbahllmbfmdabaa.sec
