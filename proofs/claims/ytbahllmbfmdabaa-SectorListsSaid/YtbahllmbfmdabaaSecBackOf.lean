/- The walk of SectorBack, over what the code's functions give. -/
import Derived.Test.YtbahllmbfmdabaaSecKnows
import Derived.Deep.CutRange
import Derived.Great.BuildSlice
namespace Go.Proofs.Ytbahllmbfmdabaa.sec
open Go.ChangeShapes Go.WideShapes Go.ChangeAt Go.RowKit
open Go.Proofs.Ytbahllmbfmdabaa.rows
set_option linter.unusedVariables false
set_option linter.unusedSimpArgs false

theorem at_new_drew (w : World) (s : List Int) : At (w.alloc (.cells (u8s s).toArray 34)).drew w.heap.size s := at_new w s
/-- store_new, the frame as it was -/
theorem store_new' {ops : Array Oper} {rest : List Oper} {o : Oper} {a : Act} {Q : Exit → Act → World → Prop} (hgd : o.guard = none) (x y : Operand) (ho : o.op = .store 34 x y) (hd : o.dst = none)
    (w1 : World) (s : List Int) (old : Array Value) (hx : a.eval x = .pointer (some ⟨w1.heap.size, 0, none⟩)) (hy : a.eval y = agg s) (hs : s.length = 32) (hold : old.size = 32)
    (h : wpList Try.prog ops Q rest a (w1.alloc (.cells (u8s s).toArray 34))) : wpList Try.prog ops Q (o :: rest) a (w1.alloc (.cells old 34)) :=
  store_new hgd x y ho w1 s old hx hy hs hold (by rw [hd]; exact h)
/-- a sector stored into a block of its own, as one step of a region that draws its order -/
theorem step_store {w : World} {ops : Array Oper} {o : Oper} {a : Act} {K : Act → World → Prop} {Q : Exit → Act → World → Prop} {F : Prop} (hw : Region.wanted o (yielded ops a.tmps) = true) (x y : Operand) (ho : o.op = .store 34 x y)
    (g : Nat) (hx : a.eval x = .pointer (some ⟨g, 0, none⟩)) (s : List Int) (hy : a.eval y = agg s) (hs : s.length = 32) (old : List Int) (hold : old.length = 32) (hg : At w g old)
    (h : K (a.put o.dst undef) (w.setRow g (u8s s).toArray)) : if Region.wanted o (yielded ops a.tmps) = true then Oper.wp Try.prog o a w K Q else F := by
  rw [if_pos hw]
  have hl : (u8s s).toArray.size = 32 := by simp [u8s, hs]
  have ho' : (u8s old).toArray.size = 32 := by simp [u8s, hold]
  exact wp_store_row 34 x y ho g (u8s s).toArray hx hy 34 _ hg (by rw [info_sec, hl]) (by rw [ho', hl]) (by simp only [List.all_toArray]; exact List.all_eq_true.2 (one_ints .u8 s)) h
theorem at_setRow {w : World} {g : Nat} {s old : List Int} (h : At w g old) : At (w.setRow g (u8s s).toArray) g s := setRow_heap w g _ _ _ _ h
theorem below_setRow {B g : Nat} {a w : World} (h : Below B a w) (cs : Array Value) (hg : B ≤ g) : Below B a (w.setRow g cs) :=
  h.trans ⟨rfl, rfl, rfl, by simp [World.setRow], fun k hk => setRow_other w g k _ (by omega)⟩
def cutOk (i k : Int) : Prop := 0 ≤ i ∧ 0 ≤ k ∧ i + k ≤ 32
instance (i k : Int) : Decidable (cutOk i k) := by unfold cutOk; infer_instance
def cutN (i k : Int) : Nat := if cutOk i k then k.toNat else 0
def cutOf (s : List Int) (i k : Int) : List Int := if cutOk i k then (s.drop i.toNat).take k.toNat else []
def CutIs (f : Nat) : Prop := ∀ (s : List Int) (i k : Int) (w : World), Sec s → (Lit.int .i64 i).wf = true → (Lit.int .i64 k).wf = true →
  Calls Try.prog f #[agg s, .int .i64 i, .int .i64 k] w fun e w' => ∃ p c, e = .returned (.slice p (cutN i k) c) ∧ Rd w' 1 (.slice p (cutN i k) c) (cutN i k) (u8s (cutOf s i k)) ∧ Below w.heap.size w w'
/-- what was cut out put back -/
def PutBack (f : Nat) : Prop := ∀ (s : List Int) (i : Int) (p : Option Addr) (c : Nat) (w : World), Sec s → (Lit.int .i64 i).wf = true → Rd w 1 (.slice p (cutN i 4) c) (cutN i 4) (u8s (cutOf s i 4)) →
  Calls Try.prog f #[agg s, .int .i64 i, .slice p (cutN i 4) c] w fun e w' => ∃ x q, e = .returned (.tuple #[agg x, .bool q]) ∧ Sec x ∧ (q = true → x = s) ∧ Below w.heap.size w w'
theorem torn_sec {s o : List Int} (hs : Sec s) (ho : Sec o) : Sec (o.take 16 ++ s.drop 16) := by
  refine ⟨by simp [hs.1, ho.1], fun x hx => ?_⟩
  rcases List.mem_append.1 hx with hx | hx
  · exact ho.2 x (List.mem_of_mem_take hx)
  · exact hs.2 x (List.mem_of_mem_drop hx)
theorem torn_twice (s o : List Int) (ho : o.length = 32) : o.take 16 ++ (o.take 16 ++ s.drop 16).drop 16 = o.take 16 ++ s.drop 16 := by
  rw [List.drop_append, List.drop_of_length_le (by simp [ho])]
  simp [ho]
theorem torn_self (s : List Int) : s.take 16 ++ s.drop 16 = s := List.take_append_drop ..
theorem spr_back (zs : List Int) : gOf (spr zs) ((zs.length + 31) / 32) zs.length = zs ∧ gOk ((zs.length + 31) / 32) zs.length = true ∧ gN ((zs.length + 31) / 32) zs.length = zs.length := by
  have h : gOk ((zs.length + 31) / 32) zs.length = true := by simp [gOk]; omega
  refine ⟨?_, h, by rw [gN, if_pos h]; simp⟩
  rw [gOf, if_pos h, spr_flat]
  simp

structure BackIn (w : World) (p1 : Option Addr) (n1 c1 : Nat) (zs : List Int) (s o : List Int) (p2 : Option Addr) (n2 c2 : Nat) (xs : List (List Int)) (i : Int) : Prop where
  b : Rd w 1 (.slice p1 n1 c1) n1 (u8s zs)
  bb : Bytes zs
  bn : n1 ≤ 500
  s : Sec s
  o : Sec o
  l : Rd w 32 (.slice p2 n2 c2) n2 (cellsOf xs)
  lb : Secs xs
  ln : n2 ≤ 40
  i : (Lit.int .i64 i).wf = true
structure CodeIs : Prop where
  knows : ∀ w, Calls Try.prog 5 #[] w fun e w' => e = .returned (.bool true) ∧ Below w.heap.size w w'
  gather : GatherIs 6
  spread : SpreadIs 9
  unlike : UnlikeIs 12
  torn : TornIs 14
  cut : CutIs 16
  put : PutBack 15

theorem own_later {w w' : World} {B : Nat} {e : TypeId} {sz n : Nat} {v : Value} {cs : List Value} (h : Own w B e sz v n cs) (hb : Below w.heap.size w w') : Own w' B e sz v n cs := by
  refine ⟨h.1, ?_⟩
  rcases h.2 with h2 | ⟨g, cap, cur, hv, h3, h4, h5⟩
  · exact Or.inl h2
  · exact Or.inr ⟨g, cap, cur, hv, h3, (hb.block g (Array.getElem?_eq_some_iff.1 h4).1).trans h4, h5⟩
theorem eqIn_is (w : World) {a b : List Int} (ha : Sec a) (hb : Sec b) (h : a = b) : (Op.equalIn 10000 34 (.agg (u8s a).toArray) (.agg (u8s b).toArray)).run Try.prog w = .ok true w := by
  rw [eqIn_sec w ha hb, decide_eq_true h]
theorem eqIn_same (w : World) {a : List Int} (ha : Sec a) : (Op.equalIn 10000 34 (.agg (u8s a).toArray) (.agg (u8s a).toArray)).run Try.prog w = .ok true w := eqIn_is w ha ha rfl
theorem rd_sec (w : World) (s : List Int) (h : s.length = 32) : Rd (w.alloc (.cells (u8s s).toArray 34)) 32 (.slice (some ⟨w.heap.size, 0, none⟩) 1 1) 1 (u8s s) :=
  rd_one w 34 32 (u8s s).toArray (by simp [u8s, h])
theorem fill_list : ∀ (l : List Value) (k : Nat) (A : Array Value), A.size = k + l.length → ((l.zipIdx k).foldl (fun cs x => cs.setIfInBounds (0 + x.2) x.1) A).toList = A.toList.take k ++ l
  | [], k, A, h => by
    simp only [List.zipIdx_nil, List.foldl_nil, List.append_nil]
    rw [List.take_of_length_le]
    simp at h ⊢; omega
  | c :: t, k, A, h => by
    rw [List.zipIdx_cons, List.foldl_cons, fill_list t (k + 1) _ (by simp at h ⊢; omega)]
    have hk : k < A.toList.length := by simp at h ⊢; omega
    simp only [Nat.zero_add, Array.toList_setIfInBounds]
    rw [List.take_succ_eq_append_getElem (by simpa using hk), List.take_set_of_le (Nat.le_refl k)]
    simp
theorem fill_sec (s : List Int) (old : Array Value) (hs : s.length = 32) (ho : old.size = 32) : Instr.fill (fun i => some (i * 32, 32)) old [(0, agg s)] = some (u8s s).toArray := by
  have hl : (u8s s).length = 32 := by simp [u8s, hs]
  have h1 : (Value.cells (agg s)) = (u8s s).toArray := rfl
  unfold Instr.fill
  simp only [h1, Nat.zero_mul, Nat.zero_add, List.size_toArray, hl, ho, ne_eq, not_true_eq_false, decide_false, Bool.false_or, Nat.lt_irrefl, gt_iff_lt, Bool.false_eq_true, if_false]
  unfold Instr.fill
  congr 1
  apply Array.ext'
  have := fill_list (u8s s) 0 old (by rw [ho, hl])
  simpa using this
/-- the slice of one sector that append lays, as one step of a region that draws its order -/
theorem step_build {w : World} {ops : Array Oper} {o : Oper} {a : Act} {K : Act → World → Prop} {Q : Exit → Act → World → Prop} {F : Prop} (hw : Region.wanted o (yielded ops a.tmps) = true) (x : Operand)
    (ho : o.op = .buildSlice 23 1 #[(0, x)]) (s : List Int) (hx : a.eval x = agg s) (hs : s.length = 32)
    (h : K (a.put o.dst (.slice (some ⟨w.heap.size, 0, none⟩) 1 1)) (w.alloc (.cells (u8s s).toArray 34))) : if Region.wanted o (yielded ops a.tmps) = true then Oper.wp Try.prog o a w K Q else F := by
  rw [if_pos hw]
  obtain ⟨ie, hi, hz0, hz1, hz2⟩ := info_parts elem_secs.info
  refine wp_buildSlice 23 34 1 #[(0, x)] ho (u8s s).toArray ie _ Try.underlying23 hi hz0 (by rw [hz1]; decide) (by rw [hz1]; decide) ?_ h
  rw [hz1]
  simp only [List.map_toArray, List.map_cons, List.map_nil, hx]
  exact fill_sec s _ hs (by simp)
theorem unl_none (C : CodeIs) (p2 : Option Addr) (n2 c2 : Nat) (xs : List (List Int)) (hx : Secs xs) (l : n2 ≤ 40) : ∀ (w : World) (p : Option Addr) (c : Nat), Rd w 32 (.slice p2 n2 c2) n2 (cellsOf xs) → Rd w 32 (.slice p n2 c) n2 (cellsOf xs) →
    Calls Try.prog 12 #[.slice p2 n2 c2, .slice p n2 c] w fun e w' => (∃ p' c', e = .returned (.slice p' 0 c')) ∧ Below w.heap.size w w' := by
  intro w p c h1 h2
  refine (C.unlike p2 p n2 c2 n2 c xs xs w hx hx h1 h2 (by omega) (by omega)).mono ?_
  rintro e w' ⟨p', c', he, _, hb⟩
  rw [unl_self] at he
  exact ⟨⟨p', c', he⟩, hb⟩
theorem unl_snoc (xs : List (List Int)) (s : List Int) : ∀ k, k = xs.length → unl (xs ++ [s]) xs (k + 1) = [(k:Int)] := by
  intro k hk
  have hne : (xs ++ [s])[k]? ≠ xs[k]? := by
    rw [List.getElem?_append_right (by omega), List.getElem?_eq_none (l := xs) (by omega)]
    simp [hk]
  rw [unl_hit hne]
  have h0 : ∀ j, j ≤ xs.length → unl (xs ++ [s]) xs j = [] := by
    intro j
    induction j with
    | zero => intro _; simp [unl]
    | succ j ih =>
      intro hj
      rw [unl_miss (by rw [List.getElem?_append_left (by omega)]), ih (by omega)]
  rw [h0 k (by omega)]
  rfl
theorem unl_one (C : CodeIs) (p2 : Option Addr) (n2 c2 : Nat) (xs : List (List Int)) (s : List Int) (hx : Secs xs) (hs : Sec s) (l : n2 ≤ 40) (hn : (cellsOf xs).length = n2 * 32) : ∀ (w : World) (p : Option Addr) (c : Nat), Rd w 32 (.slice p (n2 + 1) c) (n2 + 1) (cellsOf (xs ++ [s])) → Rd w 32 (.slice p2 n2 c2) n2 (cellsOf xs) →
    Calls Try.prog 12 #[.slice p (n2 + 1) c, .slice p2 n2 c2] w fun e w' => (∃ p' c', e = .returned (.slice p' 1 c')) ∧ Below w.heap.size w w' := by
  intro w p c h1 h2
  have hl : n2 = xs.length := by rw [cellsOf_len hx] at hn; omega
  refine (C.unlike p p2 (n2 + 1) c n2 c2 (xs ++ [s]) xs w (fun y hy => by rcases List.mem_append.1 hy with h | h; exact hx y h; rw [List.mem_singleton.1 h]; exact hs) hx h1 h2 (by omega) (by omega)).mono ?_
  rintro e w' ⟨p', c', he, _, hb⟩
  rw [Nat.max_eq_left (by omega), unl_snoc xs s n2 hl] at he
  exact ⟨⟨p', c', he⟩, hb⟩
set_option maxHeartbeats 1600000 in
theorem back_in (C : CodeIs) (p1 : Option Addr) (n1 c1 : Nat) (zs : List Int) (s o : List Int) (p2 : Option Addr) (n2 c2 : Nat) (xs : List (List Int)) (i : Int) (w : World) (hin : BackIn w p1 n1 c1 zs s o p2 n2 c2 xs i) :
    Calls Try.prog 4 #[.slice p1 n1 c1, agg s, agg o, .slice p2 n2 c2, .int .i64 i] w fun e w' => e = .returned (.bool true) ∧ Below w.heap.size w w' := by
  have HI := Lib.hid hin
  have HC := Lib.hid C
  have hzl : zs.length = n1 := by have := hin.b.cells; simpa [u8s] using this
  have HZ := Lib.hid hzl
  have hbn := hin.bn
  have hln := hin.ln
  have e1 : decide (500 < (n1:Int)) = false := by simp; omega
  have e2 : decide (40 < (n2:Int)) = false := by simp; omega
  have e3 : (n1:Int) ≤ 500 := by omega
  have e4 : (n2:Int) ≤ 40 := by omega
  have HB : Hid (gOf (spr zs) ((n1 + 31) / 32) n1 = zs ∧ gOk ((n1 + 31) / 32) n1 = true ∧ gN ((n1 + 31) / 32) n1 = n1) := Lib.hid (by rw [← hzl]; exact spr_back zs)
  obtain ⟨T, hT⟩ : ∃ T, o.take 16 ++ s.drop 16 = T := ⟨_, rfl⟩
  have HT := Lib.hid hT
  have HTS : Hid (Sec T) := Lib.hid (by rw [← hT]; exact torn_sec hin.s hin.o)
  clear hT
  clear hin C hzl
  obtain ⟨w0, hw0⟩ : ∃ w0, w0 = (w.alloc (.cells (u8s s).toArray 34)).alloc (.cells (u8s o).toArray 34) := ⟨_, rfl⟩
  have y0 : Below w.heap.size w w0 := by rw [hw0]; exact below_alloc (below_alloc (Below.refl _ _) _) _
  have hs0 : At w0 w.heap.size s := by rw [hw0]; exact (at_new w s).alloc _
  have ho0 : At w0 (w.heap.size + 1) o := by
    rw [hw0]
    have := at_new (w.alloc (.cells (u8s s).toArray 34)) o
    simpa using this
  have HS := Lib.hid hs0
  have HO := Lib.hid ho0
  go_enter Try.func4, Try.ntmps4
  go_wp2_with fail
  rw [← hw0]
  clear hw0 hs0 ho0
  refine (HC.out.knows _).mono ?_
  rintro e w1 ⟨rfl, hb1⟩
  have y1 := below_trans y0 hb1
  go_wp2_with fail
  refine (HC.out.spread _ _ _ zs _ HI.out.bb (HI.out.b.later y1) (by omega)).mono ?_
  rintro e w2 ⟨pa, ca, rfl, hr2, hb2⟩
  have y2 := below_trans y1 hb2
  go_wp2_with fail
  refine (HC.out.gather _ ((n1 + 31) / 32) _ (spr zs) (n1 : Int) _ (WalkArith.wf_i64 (by omega)) (spr_secs HI.out.bb) hr2 (by omega)).mono ?_
  rintro e w3 ⟨pb, cb, he, hr3, hb3⟩
  rw [HB.out.2.1, HB.out.2.2] at he
  rw [HB.out.1, HB.out.2.2] at hr3
  subst he
  have R3 := Lib.hid hr3
  have y3 := below_trans y2 hb3
  have HS3 := Lib.hid (HS.out.later (below_trans (below_trans hb1 hb2) hb3))
  have HO3 := Lib.hid (HO.out.later (below_trans (below_trans hb1 hb2) hb3))
  clear hr2 hr3
  go_upto_region 5 with (first
    | (refine load_at rfl _ rfl w.heap.size rfl s HI.out.s.1 HS3.out ?_)
    | (refine load_at rfl _ rfl (w.heap.size + 1) rfl o HI.out.o.1 HO3.out ?_)
    | (go_at_call 14; refine (HC.out.torn s o _ HI.out.s HI.out.o).mono ?_; rintro e w4 ⟨he, hb4⟩; rw [HT.out] at he; subst he; have y4 := below_trans y3 hb4)
    | (refine store_new' rfl _ _ rfl rfl w4 T _ rfl rfl HTS.out.1 rfl ?_))
  have AT := Lib.hid (at_new w4 T)
  have HS5 := Lib.hid ((HS3.out.later hb4).alloc (.cells (u8s T).toArray 34))
  have HO5 := Lib.hid ((HO3.out.later hb4).alloc (.cells (u8s T).toArray 34))
  have R5 := Lib.hid (R3.out.later (below_trans hb4 (below_alloc (Below.refl _ _) (.cells (u8s T).toArray 34))))
  have y5 := below_alloc y4 (.cells (u8s T).toArray 34)
  go_cut [14, 15] from 41 (fun ptr q wc => ∃ (g : Nat) (x : List Int) (qv : Bool), ptr = .pointer (some ⟨g, 0, none⟩) ∧ q = .bool qv ∧ Sec x ∧ (qv = true → x = s) ∧ At wc g x ∧ Below (w4.alloc (.cells (u8s T).toArray 34)).heap.size (w4.alloc (.cells (u8s T).toArray 34)) wc)
  case first =>
    generalize w4.alloc (.cells (u8s T).toArray 34) = w5 at *
    have h0 := Below.refl w5.drew.heap.size w5.drew
    refine wp_region_held_drew (S := ext w5.drew) (by kernel_rfl) (Below.refl _ _) (fun hH0 => ?_)
    refine' wpAnyH_take (i := 0) (oi := { dst := some 42, op := Op.load 34 (Operand.tmp 6), type := 34, pos := "law.go:63", after := #[], guard := none }) (v := _) rfl (by kernel_rfl) (by kernel_rfl) (by kernel_rfl) (fun _ _ _ h => h) (ld_sec (by rfl) _ rfl w.heap.size 0 rfl s HI.out.s.1 (fun w' hw => (HS5.out.later (below_drew hw)).range)) (by assumption) ?_
    try simp only [Act.put, List.setIfInBounds_toArray, List.set_cons_zero, List.set_cons_succ]
    refine wpAnyH_take (i := 1) (oi := { dst := some 43, op := Op.move (Operand.tmp 4), type := 3, pos := "law.go:63", after := #[], guard := none }) (v := ?_) rfl (by kernel_rfl) (by kernel_rfl) (by kernel_rfl) (fun _ _ _ h => h) (Or.inl ⟨by rfl, ?_⟩) (by assumption) ?_
    rotate_left
    · (intro w' hSw; go_simp; try with_reducible rfl)
    try simp only [Act.put, List.setIfInBounds_toArray, List.set_cons_zero, List.set_cons_succ]
    refine' wpAnyH_take (i := 2) (oi := { dst := some 44, op := Op.load 34 (Operand.tmp 6), type := 34, pos := "law.go:63", after := #[], guard := none }) (v := _) rfl (by kernel_rfl) (by kernel_rfl) (by kernel_rfl) (fun _ _ _ h => h) (ld_sec (by rfl) _ rfl w.heap.size 0 rfl s HI.out.s.1 (fun w' hw => (HS5.out.later (below_drew hw)).range)) (by assumption) ?_
    try simp only [Act.put, List.setIfInBounds_toArray, List.set_cons_zero, List.set_cons_succ]
    refine wpAnyH_take (i := 3) (oi := { dst := some 45, op := Op.move (Operand.tmp 4), type := 3, pos := "law.go:63", after := #[], guard := none }) (v := ?_) rfl (by kernel_rfl) (by kernel_rfl) (by kernel_rfl) (fun _ _ _ h => h) (Or.inl ⟨by rfl, ?_⟩) (by assumption) ?_
    rotate_left
    · (intro w' hSw; go_simp; try with_reducible rfl)
    try simp only [Act.put, List.setIfInBounds_toArray, List.set_cons_zero, List.set_cons_succ]
    -- 4, 9
    refine wpAnyH_ready (rs := [4, 9]) (by kernel_rfl) (by simp) ?_
    refine AllReadyH.cons (o := { dst := some 46, op := Op.call { callee := Callee.value (Operand.func 16), args := #[Operand.tmp 44, Operand.tmp 45, Operand.const (Value.int IntKind.i64 4)], argTypes := #[34, 3, 3] }, type := 22, pos := "law.go:63", after := #[{ on := 2, ground := Ground.data }, { on := 3, ground := Ground.data }], guard := none }) rfl (fun K hK => ?_) (AllReadyH.cons (o := { dst := some 14, op := Op.alloc 34, type := 0, pos := "law.go:63", after := #[], guard := none }) rfl (fun K hK => ?_) AllReadyH.nil)
    · go_simp
      refine (HC.out.cut s i 4 _ HI.out.s HI.out.i (by decide)).mono ?_
      rintro e v1 ⟨q1, k1, rfl, hr1, hb1⟩
      have R1 := Lib.hid hr1
      have h1 := below_trans h0 hb1
      clear hr1
      dsimp only
      refine hK.out _ _ ?_ (fun hHeld => ?_)
      · exact h1
      clear hK K
      try simp only [Act.put, List.setIfInBounds_toArray, List.set_cons_zero, List.set_cons_succ]
      -- 5, 9
      refine wpAnyH_ready (rs := [5, 9]) (by kernel_rfl) (by simp) ?_
      refine AllReadyH.cons (o := { dst := some 47, op := Op.call { callee := Callee.value (Operand.func 15), args := #[Operand.tmp 42, Operand.tmp 43, Operand.tmp 46], argTypes := #[34, 3, 22] }, type := 36, pos := "law.go:63", after := #[{ on := 0, ground := Ground.data }, { on := 1, ground := Ground.data }, { on := 4, ground := Ground.data }, { on := 4, ground := Ground.chain }], guard := none }) rfl (fun K hK => ?_) (AllReadyH.cons (o := { dst := some 14, op := Op.alloc 34, type := 0, pos := "law.go:63", after := #[], guard := none }) rfl (fun K hK => ?_) AllReadyH.nil)
      · go_simp
        refine (HC.out.put s i _ _ _ HI.out.s HI.out.i (by first | exact R1.out | exact R1.out.later (below_alloc (Below.refl _ _) _))).mono ?_
        rintro e v2 ⟨x, qv, rfl, hx, hq, hb2⟩
        have HX := Lib.hid hx
        have HQ := Lib.hid hq
        have h2 := below_trans h1 hb2
        clear hx hq
        dsimp only
        refine hK.out _ _ ?_ (fun hHeld => ?_)
        · exact h2
        clear hK K
        try simp only [Act.put, List.setIfInBounds_toArray, List.set_cons_zero, List.set_cons_succ]
        refine wpAnyH_take (i := 6) (oi := { dst := some 41, op := Op.move (Operand.tmp 47), type := 36, pos := "law.go:63", after := #[{ on := 5, ground := Ground.data }], guard := none }) (v := ?_) rfl (by kernel_rfl) (by kernel_rfl) (by kernel_rfl) (fun _ _ _ h => h) (Or.inl ⟨by rfl, ?_⟩) (by assumption) ?_
        rotate_left
        · (intro w' hSw; go_simp; try with_reducible rfl)
        try simp only [Act.put, List.setIfInBounds_toArray, List.set_cons_zero, List.set_cons_succ]
        refine wpAnyH_take (i := 7) (oi := { dst := some 48, op := Op.extract (Operand.tmp 41) 0, type := 34, pos := "law.go:63", after := #[{ on := 6, ground := Ground.data }], guard := none }) (v := ?_) rfl (by kernel_rfl) (by kernel_rfl) (by kernel_rfl) (fun _ _ _ h => h) (Or.inl ⟨by rfl, ?_⟩) (by assumption) ?_
        rotate_left
        · (intro w' hSw; go_simp; try with_reducible rfl)
        try simp only [Act.put, List.setIfInBounds_toArray, List.set_cons_zero, List.set_cons_succ]
        refine wpAnyH_take (i := 8) (oi := { dst := some 49, op := Op.extract (Operand.tmp 41) 1, type := 4, pos := "law.go:63", after := #[{ on := 6, ground := Ground.data }, { on := 10, ground := Ground.gcOnly Departure.lateStores }], guard := none }) (v := ?_) rfl (by kernel_rfl) (by kernel_rfl) (by kernel_rfl) (fun _ _ _ h => h) (Or.inl ⟨by rfl, ?_⟩) (by assumption) ?_
        rotate_left
        · (intro w' hSw; go_simp; try with_reducible rfl)
        try simp only [Act.put, List.setIfInBounds_toArray, List.set_cons_zero, List.set_cons_succ]
        -- 9
        refine wpAnyH_ready (rs := [9]) (by kernel_rfl) (by simp) ?_
        refine AllReadyH.cons (o := { dst := some 14, op := Op.alloc 34, type := 0, pos := "law.go:63", after := #[], guard := none }) rfl (fun K hK => ?_) AllReadyH.nil
        go_simp
        refine hK.out _ _ ?_ (fun hHeld => ?_)
        · exact below_alloc h2 _
        clear hK K
        have h3 := below_alloc h2 (.cells (u8s zero32).toArray 34)
        try simp only [Act.put, List.setIfInBounds_toArray, List.set_cons_zero, List.set_cons_succ]
        -- 10
        refine wpAnyH_ready (rs := [10]) (by kernel_rfl) (by simp) ?_
        refine AllReadyH.cons (o := { dst := none, op := Op.store 34 (Operand.tmp 14) (Operand.tmp 48), type := 0, pos := "law.go:63", after := #[{ on := 9, ground := Ground.data }, { on := 7, ground := Ground.data }, { on := 5, ground := Ground.chain }, { on := 0, ground := Ground.phase }, { on := 1, ground := Ground.phase }, { on := 2, ground := Ground.phase }, { on := 3, ground := Ground.phase }, { on := 4, ground := Ground.phase }, { on := 5, ground := Ground.phase }, { on := 6, ground := Ground.phase }, { on := 7, ground := Ground.phase }, { on := 8, ground := Ground.textOnly Departure.lateStores }, { on := 9, ground := Ground.phase }], guard := none }) rfl (fun K hK => ?_) AllReadyH.nil
        refine step_store (by rfl) _ _ (by rfl) _ (by rfl) x (by rfl) HX.out.1 zero32 rfl ?_ ?_
        · first | exact at_new _ zero32 | exact (at_new _ zero32).later hb2 | exact ((at_new_drew _ zero32).later hb1).later hb2
        refine hK.out _ _ ?_ (fun hHeld => ?_)
        · exact below_setRow h3 _ (by first | exact Nat.le_refl _ | exact h1.size | exact h2.size)
        clear hK K
        have h4 := hHeld
        try simp only [Act.put, List.setIfInBounds_toArray, List.set_cons_zero, List.set_cons_succ]
        refine wpAnyH_take (i := 11) (oi := { dst := some 15, op := Op.assign (Operand.tmp 49), type := 4, pos := "law.go:63", after := #[{ on := 8, ground := Ground.data }, { on := 10, ground := Ground.chain }, { on := 0, ground := Ground.phase }, { on := 1, ground := Ground.phase }, { on := 2, ground := Ground.phase }, { on := 3, ground := Ground.phase }, { on := 4, ground := Ground.phase }, { on := 5, ground := Ground.phase }, { on := 6, ground := Ground.phase }, { on := 7, ground := Ground.phase }, { on := 8, ground := Ground.phase }, { on := 9, ground := Ground.phase }, { on := 10, ground := Ground.phase }], guard := none }) (v := ?_) rfl (by kernel_rfl) (by kernel_rfl) (by kernel_rfl) (fun _ _ _ h => h) (Or.inl ⟨by rfl, ?_⟩) (by assumption) ?_
        rotate_left
        · (intro w' hSw; go_simp; try with_reducible rfl)
        try simp only [Act.put, List.setIfInBounds_toArray, List.set_cons_zero, List.set_cons_succ]
        refine wpAnyH_done (by kernel_rfl) ?_ _
        go_wp2_with fail
        go_meet
        case rel => exact ⟨_, x, qv, rfl, rfl, HX.out, HQ.out, at_setRow (by first | exact at_new _ zero32 | exact (at_new _ zero32).later hb2 | exact ((at_new_drew _ zero32).later hb1).later hb2), below_drew h4⟩
      · go_simp
        refine hK.out _ _ ?_ (fun hHeld => ?_)
        · exact below_alloc h1 _
        clear hK K
        have h5 := below_alloc h1 (.cells (u8s zero32).toArray 34)
        try simp only [Act.put, List.setIfInBounds_toArray, List.set_cons_zero, List.set_cons_succ]
        -- 5
        refine wpAnyH_ready (rs := [5]) (by kernel_rfl) (by simp) ?_
        refine AllReadyH.cons (o := { dst := some 47, op := Op.call { callee := Callee.value (Operand.func 15), args := #[Operand.tmp 42, Operand.tmp 43, Operand.tmp 46], argTypes := #[34, 3, 22] }, type := 36, pos := "law.go:63", after := #[{ on := 0, ground := Ground.data }, { on := 1, ground := Ground.data }, { on := 4, ground := Ground.data }, { on := 4, ground := Ground.chain }], guard := none }) rfl (fun K hK => ?_) AllReadyH.nil
        go_simp
        refine (HC.out.put s i _ _ _ HI.out.s HI.out.i (by first | exact R1.out | exact R1.out.later (below_alloc (Below.refl _ _) _))).mono ?_
        rintro e v6 ⟨x, qv, rfl, hx, hq, hb6⟩
        have HX := Lib.hid hx
        have HQ := Lib.hid hq
        have h6 := below_trans h5 hb6
        clear hx hq
        dsimp only
        refine hK.out _ _ ?_ (fun hHeld => ?_)
        · exact h6
        clear hK K
        try simp only [Act.put, List.setIfInBounds_toArray, List.set_cons_zero, List.set_cons_succ]
        refine wpAnyH_take (i := 6) (oi := { dst := some 41, op := Op.move (Operand.tmp 47), type := 36, pos := "law.go:63", after := #[{ on := 5, ground := Ground.data }], guard := none }) (v := ?_) rfl (by kernel_rfl) (by kernel_rfl) (by kernel_rfl) (fun _ _ _ h => h) (Or.inl ⟨by rfl, ?_⟩) (by assumption) ?_
        rotate_left
        · (intro w' hSw; go_simp; try with_reducible rfl)
        try simp only [Act.put, List.setIfInBounds_toArray, List.set_cons_zero, List.set_cons_succ]
        refine wpAnyH_take (i := 7) (oi := { dst := some 48, op := Op.extract (Operand.tmp 41) 0, type := 34, pos := "law.go:63", after := #[{ on := 6, ground := Ground.data }], guard := none }) (v := ?_) rfl (by kernel_rfl) (by kernel_rfl) (by kernel_rfl) (fun _ _ _ h => h) (Or.inl ⟨by rfl, ?_⟩) (by assumption) ?_
        rotate_left
        · (intro w' hSw; go_simp; try with_reducible rfl)
        try simp only [Act.put, List.setIfInBounds_toArray, List.set_cons_zero, List.set_cons_succ]
        refine wpAnyH_take (i := 8) (oi := { dst := some 49, op := Op.extract (Operand.tmp 41) 1, type := 4, pos := "law.go:63", after := #[{ on := 6, ground := Ground.data }, { on := 10, ground := Ground.gcOnly Departure.lateStores }], guard := none }) (v := ?_) rfl (by kernel_rfl) (by kernel_rfl) (by kernel_rfl) (fun _ _ _ h => h) (Or.inl ⟨by rfl, ?_⟩) (by assumption) ?_
        rotate_left
        · (intro w' hSw; go_simp; try with_reducible rfl)
        try simp only [Act.put, List.setIfInBounds_toArray, List.set_cons_zero, List.set_cons_succ]
        -- 10
        refine wpAnyH_ready (rs := [10]) (by kernel_rfl) (by simp) ?_
        refine AllReadyH.cons (o := { dst := none, op := Op.store 34 (Operand.tmp 14) (Operand.tmp 48), type := 0, pos := "law.go:63", after := #[{ on := 9, ground := Ground.data }, { on := 7, ground := Ground.data }, { on := 5, ground := Ground.chain }, { on := 0, ground := Ground.phase }, { on := 1, ground := Ground.phase }, { on := 2, ground := Ground.phase }, { on := 3, ground := Ground.phase }, { on := 4, ground := Ground.phase }, { on := 5, ground := Ground.phase }, { on := 6, ground := Ground.phase }, { on := 7, ground := Ground.phase }, { on := 8, ground := Ground.textOnly Departure.lateStores }, { on := 9, ground := Ground.phase }], guard := none }) rfl (fun K hK => ?_) AllReadyH.nil
        refine step_store (by rfl) _ _ (by rfl) _ (by rfl) x (by rfl) HX.out.1 zero32 rfl ?_ ?_
        · first | exact at_new _ zero32 | exact (at_new _ zero32).later hb6 | exact ((at_new_drew _ zero32).later hb1).later hb6
        refine hK.out _ _ ?_ (fun hHeld => ?_)
        · exact below_setRow h6 _ (by first | exact Nat.le_refl _ | exact h1.size | exact h6.size)
        clear hK K
        have h7 := hHeld
        try simp only [Act.put, List.setIfInBounds_toArray, List.set_cons_zero, List.set_cons_succ]
        refine wpAnyH_take (i := 11) (oi := { dst := some 15, op := Op.assign (Operand.tmp 49), type := 4, pos := "law.go:63", after := #[{ on := 8, ground := Ground.data }, { on := 10, ground := Ground.chain }, { on := 0, ground := Ground.phase }, { on := 1, ground := Ground.phase }, { on := 2, ground := Ground.phase }, { on := 3, ground := Ground.phase }, { on := 4, ground := Ground.phase }, { on := 5, ground := Ground.phase }, { on := 6, ground := Ground.phase }, { on := 7, ground := Ground.phase }, { on := 8, ground := Ground.phase }, { on := 9, ground := Ground.phase }, { on := 10, ground := Ground.phase }], guard := none }) (v := ?_) rfl (by kernel_rfl) (by kernel_rfl) (by kernel_rfl) (fun _ _ _ h => h) (Or.inl ⟨by rfl, ?_⟩) (by assumption) ?_
        rotate_left
        · (intro w' hSw; go_simp; try with_reducible rfl)
        try simp only [Act.put, List.setIfInBounds_toArray, List.set_cons_zero, List.set_cons_succ]
        refine wpAnyH_done (by kernel_rfl) ?_ _
        go_wp2_with fail
        go_meet
        case rel => exact ⟨_, x, qv, rfl, rfl, HX.out, HQ.out, at_setRow (by first | exact at_new _ zero32 | exact (at_new _ zero32).later hb6 | exact ((at_new_drew _ zero32).later hb1).later hb6), below_drew h7⟩
    · go_simp
      refine hK.out _ _ ?_ (fun hHeld => ?_)
      · exact below_alloc h0 _
      clear hK K
      have h8 := below_alloc h0 (.cells (u8s zero32).toArray 34)
      try simp only [Act.put, List.setIfInBounds_toArray, List.set_cons_zero, List.set_cons_succ]
      -- 4
      refine wpAnyH_ready (rs := [4]) (by kernel_rfl) (by simp) ?_
      refine AllReadyH.cons (o := { dst := some 46, op := Op.call { callee := Callee.value (Operand.func 16), args := #[Operand.tmp 44, Operand.tmp 45, Operand.const (Value.int IntKind.i64 4)], argTypes := #[34, 3, 3] }, type := 22, pos := "law.go:63", after := #[{ on := 2, ground := Ground.data }, { on := 3, ground := Ground.data }], guard := none }) rfl (fun K hK => ?_) AllReadyH.nil
      go_simp
      refine (HC.out.cut s i 4 _ HI.out.s HI.out.i (by decide)).mono ?_
      rintro e v9 ⟨q9, k9, rfl, hr9, hb9⟩
      have R9 := Lib.hid hr9
      have h9 := below_trans h8 hb9
      clear hr9
      dsimp only
      refine hK.out _ _ ?_ (fun hHeld => ?_)
      · exact h9
      clear hK K
      try simp only [Act.put, List.setIfInBounds_toArray, List.set_cons_zero, List.set_cons_succ]
      -- 5
      refine wpAnyH_ready (rs := [5]) (by kernel_rfl) (by simp) ?_
      refine AllReadyH.cons (o := { dst := some 47, op := Op.call { callee := Callee.value (Operand.func 15), args := #[Operand.tmp 42, Operand.tmp 43, Operand.tmp 46], argTypes := #[34, 3, 22] }, type := 36, pos := "law.go:63", after := #[{ on := 0, ground := Ground.data }, { on := 1, ground := Ground.data }, { on := 4, ground := Ground.data }, { on := 4, ground := Ground.chain }], guard := none }) rfl (fun K hK => ?_) AllReadyH.nil
      go_simp
      refine (HC.out.put s i _ _ _ HI.out.s HI.out.i (by first | exact R9.out | exact R9.out.later (below_alloc (Below.refl _ _) _))).mono ?_
      rintro e v10 ⟨x, qv, rfl, hx, hq, hb10⟩
      have HX := Lib.hid hx
      have HQ := Lib.hid hq
      have h10 := below_trans h9 hb10
      clear hx hq
      dsimp only
      refine hK.out _ _ ?_ (fun hHeld => ?_)
      · exact h10
      clear hK K
      try simp only [Act.put, List.setIfInBounds_toArray, List.set_cons_zero, List.set_cons_succ]
      refine wpAnyH_take (i := 6) (oi := { dst := some 41, op := Op.move (Operand.tmp 47), type := 36, pos := "law.go:63", after := #[{ on := 5, ground := Ground.data }], guard := none }) (v := ?_) rfl (by kernel_rfl) (by kernel_rfl) (by kernel_rfl) (fun _ _ _ h => h) (Or.inl ⟨by rfl, ?_⟩) (by assumption) ?_
      rotate_left
      · (intro w' hSw; go_simp; try with_reducible rfl)
      try simp only [Act.put, List.setIfInBounds_toArray, List.set_cons_zero, List.set_cons_succ]
      refine wpAnyH_take (i := 7) (oi := { dst := some 48, op := Op.extract (Operand.tmp 41) 0, type := 34, pos := "law.go:63", after := #[{ on := 6, ground := Ground.data }], guard := none }) (v := ?_) rfl (by kernel_rfl) (by kernel_rfl) (by kernel_rfl) (fun _ _ _ h => h) (Or.inl ⟨by rfl, ?_⟩) (by assumption) ?_
      rotate_left
      · (intro w' hSw; go_simp; try with_reducible rfl)
      try simp only [Act.put, List.setIfInBounds_toArray, List.set_cons_zero, List.set_cons_succ]
      refine wpAnyH_take (i := 8) (oi := { dst := some 49, op := Op.extract (Operand.tmp 41) 1, type := 4, pos := "law.go:63", after := #[{ on := 6, ground := Ground.data }, { on := 10, ground := Ground.gcOnly Departure.lateStores }], guard := none }) (v := ?_) rfl (by kernel_rfl) (by kernel_rfl) (by kernel_rfl) (fun _ _ _ h => h) (Or.inl ⟨by rfl, ?_⟩) (by assumption) ?_
      rotate_left
      · (intro w' hSw; go_simp; try with_reducible rfl)
      try simp only [Act.put, List.setIfInBounds_toArray, List.set_cons_zero, List.set_cons_succ]
      -- 10
      refine wpAnyH_ready (rs := [10]) (by kernel_rfl) (by simp) ?_
      refine AllReadyH.cons (o := { dst := none, op := Op.store 34 (Operand.tmp 14) (Operand.tmp 48), type := 0, pos := "law.go:63", after := #[{ on := 9, ground := Ground.data }, { on := 7, ground := Ground.data }, { on := 5, ground := Ground.chain }, { on := 0, ground := Ground.phase }, { on := 1, ground := Ground.phase }, { on := 2, ground := Ground.phase }, { on := 3, ground := Ground.phase }, { on := 4, ground := Ground.phase }, { on := 5, ground := Ground.phase }, { on := 6, ground := Ground.phase }, { on := 7, ground := Ground.phase }, { on := 8, ground := Ground.textOnly Departure.lateStores }, { on := 9, ground := Ground.phase }], guard := none }) rfl (fun K hK => ?_) AllReadyH.nil
      refine step_store (by rfl) _ _ (by rfl) _ (by rfl) x (by rfl) HX.out.1 zero32 rfl ?_ ?_
      · first | exact at_new _ zero32 | exact (at_new _ zero32).later hb10 | exact ((at_new_drew _ zero32).later hb9).later hb10
      refine hK.out _ _ ?_ (fun hHeld => ?_)
      · exact below_setRow h10 _ (by first | exact Nat.le_refl _ | exact h9.size | exact h10.size)
      clear hK K
      have h11 := hHeld
      try simp only [Act.put, List.setIfInBounds_toArray, List.set_cons_zero, List.set_cons_succ]
      refine wpAnyH_take (i := 11) (oi := { dst := some 15, op := Op.assign (Operand.tmp 49), type := 4, pos := "law.go:63", after := #[{ on := 8, ground := Ground.data }, { on := 10, ground := Ground.chain }, { on := 0, ground := Ground.phase }, { on := 1, ground := Ground.phase }, { on := 2, ground := Ground.phase }, { on := 3, ground := Ground.phase }, { on := 4, ground := Ground.phase }, { on := 5, ground := Ground.phase }, { on := 6, ground := Ground.phase }, { on := 7, ground := Ground.phase }, { on := 8, ground := Ground.phase }, { on := 9, ground := Ground.phase }, { on := 10, ground := Ground.phase }], guard := none }) (v := ?_) rfl (by kernel_rfl) (by kernel_rfl) (by kernel_rfl) (fun _ _ _ h => h) (Or.inl ⟨by rfl, ?_⟩) (by assumption) ?_
      rotate_left
      · (intro w' hSw; go_simp; try with_reducible rfl)
      try simp only [Act.put, List.setIfInBounds_toArray, List.set_cons_zero, List.set_cons_succ]
      refine wpAnyH_done (by kernel_rfl) ?_ _
      go_wp2_with fail
      go_meet
      case rel => exact ⟨_, x, qv, rfl, rfl, HX.out, HQ.out, at_setRow (by first | exact at_new _ zero32 | exact (at_new _ zero32).later hb10 | exact ((at_new_drew _ zero32).later hb9).later hb10), below_drew h11⟩
  case rest =>
    obtain ⟨g, x, qv, rfl, rfl, hx, hq, hg, hbc⟩ := hcut
    have HX := Lib.hid hx
    have HQ := Lib.hid hq
    have yc := y5.trans (hbc.mono y5.size)
    have HSc := Lib.hid (HS5.out.later hbc)
    have HOc := Lib.hid (HO5.out.later hbc)
    have HTc := Lib.hid (AT.out.later hbc)
    have HXc := Lib.hid hg
    have Rc := Lib.hid (R5.out.later hbc)
    clear hx hq hg AT HS5 HO5 R5 hbc y5
    go_upto_region 7 with (at_builtin; refine ap_rd elem_secs rfl (.tmp 50) (.tmp 51) rfl wc.heap.size _ 0 [] rfl (own_made wc _ 32 (Nat.le_refl _)) _ n2 (cellsOf xs) rfl (HI.out.l.later (below_alloc yc _)) (one_ints .u8 _) (by omega) (by simp) ?_; intro pd cd wd ho hbd; rw [Nat.zero_add, List.nil_append] at ho; have OD := Lib.hid ho; clear ho; rw [Nat.zero_add]; have hcd : Below wc.heap.size wc wd := below_trans' (below_alloc (Below.refl _ _) _) hbd (Nat.le_refl _); have yd := below_trans yc hcd)
    have HBc := Lib.hid (HI.out.b.later yc)
    have HTT : Hid (o.take 16 ++ T.drop 16 = T) := Lib.hid (by rw [← HT.out]; exact torn_twice s o HI.out.o.1)
    have HSS : Hid (s.take 16 ++ s.drop 16 = s) := Lib.hid (torn_self s)
    have HXS : Hid (cellsOf (xs ++ [s]) = cellsOf xs ++ u8s s) := Lib.hid (by rw [cellsOf_append, cellsOf_one])
    have HU0 := Lib.hid (unl_none HC.out p2 n2 c2 xs HI.out.lb HI.out.ln)
    have HU1 := Lib.hid (unl_one HC.out p2 n2 c2 xs s HI.out.lb HI.out.s HI.out.ln HI.out.l.cells)
    have h0 := hcd.drew
    have o0 := Lib.hid OD.out.drew
    clear hbd
    cases qv with
    | true =>
      have HXE : Hid (x = s) := Lib.hid (HQ.out rfl)
      refine wp_region_held_drew (S := ext wc) (by kernel_rfl) hcd.drew (fun hH0 => ?_)
      refine wpAnyH_take (i := 0) (oi := { dst := some 53, op := Op.move (Operand.tmp 12), type := 4, pos := "law.go:65", after := #[], guard := none }) (v := ?_) rfl (by kernel_rfl) (by kernel_rfl) (by kernel_rfl) (fun _ _ _ h => h) (Or.inl ⟨by rfl, ?_⟩) (by assumption) ?_
      rotate_left
      · (intro w' hSw; go_simp; try with_reducible rfl)
      try simp only [Act.put, List.setIfInBounds_toArray, List.set_cons_zero, List.set_cons_succ]
      refine wpAnyH_take (i := 1) (oi := { dst := some 54, op := Op.move (Operand.tmp 53), type := 4, pos := "law.go:65", after := #[{ on := 0, ground := Ground.data }], guard := none }) (v := ?_) rfl (by kernel_rfl) (by kernel_rfl) (by kernel_rfl) (fun _ _ _ h => h) (Or.inl ⟨by rfl, ?_⟩) (by assumption) ?_
      rotate_left
      · (intro w' hSw; go_simp; try with_reducible rfl)
      try simp only [Act.put, List.setIfInBounds_toArray, List.set_cons_zero, List.set_cons_succ]
      refine wpAnyH_take (i := 2) (oi := { dst := some 55, op := Op.move (Operand.tmp 11), type := 22, pos := "law.go:65", after := #[{ on := 1, ground := Ground.guard }], guard := some (1, true) }) (v := ?_) rfl (by kernel_rfl) (by kernel_rfl) (by kernel_rfl) (fun _ _ _ h => h) (Or.inl ⟨by rfl, ?_⟩) (by assumption) ?_
      rotate_left
      · (intro w' hSw; go_simp; try with_reducible rfl)
      try simp only [Act.put, List.setIfInBounds_toArray, List.set_cons_zero, List.set_cons_succ]
      refine wpAnyH_take (i := 3) (oi := { dst := some 56, op := Op.convert 22 9 (Operand.tmp 55), type := 9, pos := "law.go:65", after := #[{ on := 2, ground := Ground.data }, { on := 1, ground := Ground.guard }], guard := some (1, true) }) (v := ?_) rfl (by kernel_rfl) (by kernel_rfl) (by kernel_rfl) (fun _ _ _ h => h) (Or.inl ⟨by rfl, ?_⟩) (by assumption) ?_
      rotate_left
      · (intro w' hSw; have hcv := conv_rd (Rc.out.later hSw); go_simp; try with_reducible rfl)
      try simp only [Act.put, List.setIfInBounds_toArray, List.set_cons_zero, List.set_cons_succ]
      refine wpAnyH_take (i := 4) (oi := { dst := some 57, op := Op.move (Operand.tmp 0), type := 22, pos := "law.go:65", after := #[{ on := 1, ground := Ground.guard }], guard := some (1, true) }) (v := ?_) rfl (by kernel_rfl) (by kernel_rfl) (by kernel_rfl) (fun _ _ _ h => h) (Or.inl ⟨by rfl, ?_⟩) (by assumption) ?_
      rotate_left
      · (intro w' hSw; go_simp; try with_reducible rfl)
      try simp only [Act.put, List.setIfInBounds_toArray, List.set_cons_zero, List.set_cons_succ]
      refine wpAnyH_take (i := 5) (oi := { dst := some 58, op := Op.convert 22 9 (Operand.tmp 57), type := 9, pos := "law.go:65", after := #[{ on := 4, ground := Ground.data }, { on := 1, ground := Ground.guard }], guard := some (1, true) }) (v := ?_) rfl (by kernel_rfl) (by kernel_rfl) (by kernel_rfl) (fun _ _ _ h => h) (Or.inl ⟨by rfl, ?_⟩) (by assumption) ?_
      rotate_left
      · (intro w' hSw; have hcv := conv_rd (HBc.out.later hSw); go_simp; try with_reducible rfl)
      try simp only [Act.put, List.setIfInBounds_toArray, List.set_cons_zero, List.set_cons_succ]
      refine wpAnyH_take (i := 6) (oi := { dst := some 59, op := Op.binOp BinOp.eql 9 (Operand.tmp 56) (Operand.tmp 58) 9, type := 4, pos := "law.go:65", after := #[{ on := 3, ground := Ground.data }, { on := 5, ground := Ground.data }, { on := 1, ground := Ground.guard }], guard := some (1, true) }) (v := ?_) rfl (by kernel_rfl) (by kernel_rfl) (by kernel_rfl) (fun _ _ _ h => h) (Or.inl ⟨by rfl, ?_⟩) (by assumption) ?_
      rotate_left
      · (intro w' hSw; go_simp; try with_reducible rfl)
      try simp only [Act.put, List.setIfInBounds_toArray, List.set_cons_zero, List.set_cons_succ]
      refine wpAnyH_take (i := 7) (oi := { dst := some 60, op := Op.pick (Operand.tmp 54) (Operand.tmp 59) (Operand.const (Value.bool false)), type := 4, pos := "law.go:65", after := #[{ on := 1, ground := Ground.data }, { on := 6, ground := Ground.data }], guard := none }) (v := ?_) rfl (by kernel_rfl) (by kernel_rfl) (by kernel_rfl) (fun _ _ _ h => h) (Or.inl ⟨by rfl, ?_⟩) (by assumption) ?_
      rotate_left
      · (intro w' hSw; go_simp; try with_reducible rfl)
      try simp only [Act.put, List.setIfInBounds_toArray, List.set_cons_zero, List.set_cons_succ]
      refine wpAnyH_take (i := 8) (oi := { dst := some 61, op := Op.move (Operand.tmp 60), type := 4, pos := "law.go:65", after := #[{ on := 7, ground := Ground.data }, { on := 1, ground := Ground.chain }], guard := none }) (v := ?_) rfl (by kernel_rfl) (by kernel_rfl) (by kernel_rfl) (fun _ _ _ h => h) (Or.inl ⟨by rfl, ?_⟩) (by assumption) ?_
      rotate_left
      · (intro w' hSw; go_simp; try with_reducible rfl)
      try simp only [Act.put, List.setIfInBounds_toArray, List.set_cons_zero, List.set_cons_succ]
      refine' wpAnyH_take (i := 9) (oi := { dst := some 62, op := Op.load 34 (Operand.tmp 13), type := 34, pos := "law.go:65", after := #[{ on := 8, ground := Ground.guard }], guard := some (8, true) }) (v := _) rfl (by kernel_rfl) (by kernel_rfl) (by kernel_rfl) (fun _ _ _ h => h) (ld_sec (by rfl) _ rfl w4.heap.size 0 rfl T HTS.out.1 (fun w' hw => (HTc.out.later hw).range)) (by assumption) ?_
      try simp only [Act.put, List.setIfInBounds_toArray, List.set_cons_zero, List.set_cons_succ]
      refine' wpAnyH_take (i := 10) (oi := { dst := some 63, op := Op.load 34 (Operand.tmp 7), type := 34, pos := "law.go:65", after := #[{ on := 8, ground := Ground.guard }], guard := some (8, true) }) (v := _) rfl (by kernel_rfl) (by kernel_rfl) (by kernel_rfl) (fun _ _ _ h => h) (ld_sec (by rfl) _ rfl (w.heap.size + 1) 0 rfl o HI.out.o.1 (fun w' hw => (HOc.out.later hw).range)) (by assumption) ?_
      try simp only [Act.put, List.setIfInBounds_toArray, List.set_cons_zero, List.set_cons_succ]
      refine' wpAnyH_take (i := 12) (oi := { dst := some 65, op := Op.load 34 (Operand.tmp 13), type := 34, pos := "law.go:65", after := #[{ on := 8, ground := Ground.guard }], guard := some (8, true) }) (v := _) rfl (by kernel_rfl) (by kernel_rfl) (by kernel_rfl) (fun _ _ _ h => h) (ld_sec (by rfl) _ rfl w4.heap.size 0 rfl T HTS.out.1 (fun w' hw => (HTc.out.later hw).range)) (by assumption) ?_
      try simp only [Act.put, List.setIfInBounds_toArray, List.set_cons_zero, List.set_cons_succ]
      -- 11
      refine wpAnyH_ready (rs := [11]) (by kernel_rfl) (by simp) ?_
      refine AllReadyH.cons (o := { dst := some 64, op := Op.call { callee := Callee.value (Operand.func 14), args := #[Operand.tmp 62, Operand.tmp 63], argTypes := #[34, 34] }, type := 34, pos := "law.go:65", after := #[{ on := 9, ground := Ground.data }, { on := 10, ground := Ground.data }, { on := 8, ground := Ground.chain }, { on := 8, ground := Ground.guard }], guard := some (8, true) }) rfl (fun K hK => ?_) AllReadyH.nil
      go_simp
      refine (HC.out.torn T o _ HTS.out HI.out.o).mono ?_
      rintro e v1 ⟨he, hb1⟩
      rw [HTT.out] at he
      subst he
      have h1 := below_trans h0 hb1
      have o1 := Lib.hid (own_later o0.out hb1)
      dsimp only
      refine hK.out _ _ ?_ (fun hHeld => ?_)
      · exact h1
      clear hK K
      try simp only [Act.put, List.setIfInBounds_toArray, List.set_cons_zero, List.set_cons_succ]
      refine wpAnyH_take (i := 13) (oi := { dst := some 66, op := Op.binOp BinOp.eql 34 (Operand.tmp 64) (Operand.tmp 65) 34, type := 4, pos := "law.go:65", after := #[{ on := 11, ground := Ground.data }, { on := 12, ground := Ground.data }, { on := 8, ground := Ground.guard }], guard := some (8, true) }) (v := ?_) rfl (by kernel_rfl) (by kernel_rfl) (by kernel_rfl) (fun _ _ _ h => h) (Or.inl ⟨by rfl, ?_⟩) (by assumption) ?_
      rotate_left
      · (intro w' hSw; have hg := guard_sec; have hq := eqIn_same w' HTS.out; go_simp; try with_reducible rfl)
      try simp only [Act.put, List.setIfInBounds_toArray, List.set_cons_zero, List.set_cons_succ]
      refine wpAnyH_take (i := 14) (oi := { dst := some 67, op := Op.pick (Operand.tmp 61) (Operand.tmp 66) (Operand.const (Value.bool false)), type := 4, pos := "law.go:65", after := #[{ on := 8, ground := Ground.data }, { on := 13, ground := Ground.data }], guard := none }) (v := ?_) rfl (by kernel_rfl) (by kernel_rfl) (by kernel_rfl) (fun _ _ _ h => h) (Or.inl ⟨by rfl, ?_⟩) (by assumption) ?_
      rotate_left
      · (intro w' hSw; go_simp; try with_reducible rfl)
      try simp only [Act.put, List.setIfInBounds_toArray, List.set_cons_zero, List.set_cons_succ]
      refine wpAnyH_take (i := 15) (oi := { dst := some 68, op := Op.move (Operand.tmp 67), type := 4, pos := "law.go:65", after := #[{ on := 14, ground := Ground.data }, { on := 11, ground := Ground.chain }], guard := none }) (v := ?_) rfl (by kernel_rfl) (by kernel_rfl) (by kernel_rfl) (fun _ _ _ h => h) (Or.inl ⟨by rfl, ?_⟩) (by assumption) ?_
      rotate_left
      · (intro w' hSw; go_simp; try with_reducible rfl)
      try simp only [Act.put, List.setIfInBounds_toArray, List.set_cons_zero, List.set_cons_succ]
      refine' wpAnyH_take (i := 16) (oi := { dst := some 69, op := Op.load 34 (Operand.tmp 6), type := 34, pos := "law.go:65", after := #[{ on := 15, ground := Ground.guard }], guard := some (15, true) }) (v := _) rfl (by kernel_rfl) (by kernel_rfl) (by kernel_rfl) (fun _ _ _ h => h) (ld_sec (by rfl) _ rfl w.heap.size 0 rfl s HI.out.s.1 (fun w' hw => (HSc.out.later hw).range)) (by assumption) ?_
      try simp only [Act.put, List.setIfInBounds_toArray, List.set_cons_zero, List.set_cons_succ]
      refine' wpAnyH_take (i := 17) (oi := { dst := some 70, op := Op.load 34 (Operand.tmp 6), type := 34, pos := "law.go:65", after := #[{ on := 15, ground := Ground.guard }], guard := some (15, true) }) (v := _) rfl (by kernel_rfl) (by kernel_rfl) (by kernel_rfl) (fun _ _ _ h => h) (ld_sec (by rfl) _ rfl w.heap.size 0 rfl s HI.out.s.1 (fun w' hw => (HSc.out.later hw).range)) (by assumption) ?_
      try simp only [Act.put, List.setIfInBounds_toArray, List.set_cons_zero, List.set_cons_succ]
      refine' wpAnyH_take (i := 19) (oi := { dst := some 72, op := Op.load 34 (Operand.tmp 6), type := 34, pos := "law.go:65", after := #[{ on := 15, ground := Ground.guard }], guard := some (15, true) }) (v := _) rfl (by kernel_rfl) (by kernel_rfl) (by kernel_rfl) (fun _ _ _ h => h) (ld_sec (by rfl) _ rfl w.heap.size 0 rfl s HI.out.s.1 (fun w' hw => (HSc.out.later hw).range)) (by assumption) ?_
      try simp only [Act.put, List.setIfInBounds_toArray, List.set_cons_zero, List.set_cons_succ]
      -- 18
      refine wpAnyH_ready (rs := [18]) (by kernel_rfl) (by simp) ?_
      refine AllReadyH.cons (o := { dst := some 71, op := Op.call { callee := Callee.value (Operand.func 14), args := #[Operand.tmp 69, Operand.tmp 70], argTypes := #[34, 34] }, type := 34, pos := "law.go:65", after := #[{ on := 16, ground := Ground.data }, { on := 17, ground := Ground.data }, { on := 15, ground := Ground.chain }, { on := 15, ground := Ground.guard }], guard := some (15, true) }) rfl (fun K hK => ?_) AllReadyH.nil
      go_simp
      refine (HC.out.torn s s _ HI.out.s HI.out.s).mono ?_
      rintro e v2 ⟨he, hb2⟩
      rw [HSS.out] at he
      subst he
      have h2 := below_trans h1 hb2
      have o2 := Lib.hid (own_later o1.out hb2)
      dsimp only
      refine hK.out _ _ ?_ (fun hHeld => ?_)
      · exact h2
      clear hK K
      try simp only [Act.put, List.setIfInBounds_toArray, List.set_cons_zero, List.set_cons_succ]
      refine wpAnyH_take (i := 20) (oi := { dst := some 73, op := Op.binOp BinOp.eql 34 (Operand.tmp 71) (Operand.tmp 72) 34, type := 4, pos := "law.go:65", after := #[{ on := 18, ground := Ground.data }, { on := 19, ground := Ground.data }, { on := 15, ground := Ground.guard }], guard := some (15, true) }) (v := ?_) rfl (by kernel_rfl) (by kernel_rfl) (by kernel_rfl) (fun _ _ _ h => h) (Or.inl ⟨by rfl, ?_⟩) (by assumption) ?_
      rotate_left
      · (intro w' hSw; have hg := guard_sec; have hq := eqIn_same w' HI.out.s; go_simp; try with_reducible rfl)
      try simp only [Act.put, List.setIfInBounds_toArray, List.set_cons_zero, List.set_cons_succ]
      refine wpAnyH_take (i := 21) (oi := { dst := some 74, op := Op.pick (Operand.tmp 68) (Operand.tmp 73) (Operand.const (Value.bool false)), type := 4, pos := "law.go:65", after := #[{ on := 15, ground := Ground.data }, { on := 20, ground := Ground.data }], guard := none }) (v := ?_) rfl (by kernel_rfl) (by kernel_rfl) (by kernel_rfl) (fun _ _ _ h => h) (Or.inl ⟨by rfl, ?_⟩) (by assumption) ?_
      rotate_left
      · (intro w' hSw; go_simp; try with_reducible rfl)
      try simp only [Act.put, List.setIfInBounds_toArray, List.set_cons_zero, List.set_cons_succ]
      refine wpAnyH_take (i := 22) (oi := { dst := some 75, op := Op.move (Operand.tmp 74), type := 4, pos := "law.go:65", after := #[{ on := 21, ground := Ground.data }, { on := 18, ground := Ground.chain }], guard := none }) (v := ?_) rfl (by kernel_rfl) (by kernel_rfl) (by kernel_rfl) (fun _ _ _ h => h) (Or.inl ⟨by rfl, ?_⟩) (by assumption) ?_
      rotate_left
      · (intro w' hSw; go_simp; try with_reducible rfl)
      try simp only [Act.put, List.setIfInBounds_toArray, List.set_cons_zero, List.set_cons_succ]
      refine wpAnyH_take (i := 23) (oi := { dst := some 76, op := Op.move (Operand.tmp 15), type := 4, pos := "law.go:65", after := #[{ on := 22, ground := Ground.guard }], guard := some (22, true) }) (v := ?_) rfl (by kernel_rfl) (by kernel_rfl) (by kernel_rfl) (fun _ _ _ h => h) (Or.inl ⟨by rfl, ?_⟩) (by assumption) ?_
      rotate_left
      · (intro w' hSw; go_simp; try with_reducible rfl)
      try simp only [Act.put, List.setIfInBounds_toArray, List.set_cons_zero, List.set_cons_succ]
      refine wpAnyH_take (i := 24) (oi := { dst := some 77, op := Op.unOp UnOp.not 4 (Operand.tmp 76), type := 4, pos := "law.go:65", after := #[{ on := 23, ground := Ground.data }, { on := 22, ground := Ground.guard }], guard := some (22, true) }) (v := ?_) rfl (by kernel_rfl) (by kernel_rfl) (by kernel_rfl) (fun _ _ _ h => h) (Or.inl ⟨by rfl, ?_⟩) (by assumption) ?_
      rotate_left
      · (intro w' hSw; go_simp; try with_reducible rfl)
      try simp only [Act.put, List.setIfInBounds_toArray, List.set_cons_zero, List.set_cons_succ]
      refine wpAnyH_take (i := 25) (oi := { dst := some 78, op := Op.move (Operand.tmp 77), type := 4, pos := "law.go:65", after := #[{ on := 24, ground := Ground.data }, { on := 22, ground := Ground.chain }, { on := 22, ground := Ground.guard }], guard := some (22, true) }) (v := ?_) rfl (by kernel_rfl) (by kernel_rfl) (by kernel_rfl) (fun _ _ _ h => h) (Or.inl ⟨by rfl, ?_⟩) (by assumption) ?_
      rotate_left
      · (intro w' hSw; go_simp; try with_reducible rfl)
      try simp only [Act.put, List.setIfInBounds_toArray, List.set_cons_zero, List.set_cons_succ]
      refine' wpAnyH_take (i := 26) (oi := { dst := some 79, op := Op.load 34 (Operand.tmp 14), type := 34, pos := "law.go:65", after := #[{ on := 25, ground := Ground.guard }], guard := some (25, false) }) (v := _) rfl (by kernel_rfl) (by kernel_rfl) (by kernel_rfl) (fun _ _ _ h => h) (ld_sec (by rfl) _ rfl g 0 rfl x HX.out.1 (fun w' hw => (HXc.out.later hw).range)) (by assumption) ?_
      try simp only [Act.put, List.setIfInBounds_toArray, List.set_cons_zero, List.set_cons_succ]
      refine' wpAnyH_take (i := 27) (oi := { dst := some 80, op := Op.load 34 (Operand.tmp 6), type := 34, pos := "law.go:65", after := #[{ on := 25, ground := Ground.guard }], guard := some (25, false) }) (v := _) rfl (by kernel_rfl) (by kernel_rfl) (by kernel_rfl) (fun _ _ _ h => h) (ld_sec (by rfl) _ rfl w.heap.size 0 rfl s HI.out.s.1 (fun w' hw => (HSc.out.later hw).range)) (by assumption) ?_
      try simp only [Act.put, List.setIfInBounds_toArray, List.set_cons_zero, List.set_cons_succ]
      refine wpAnyH_take (i := 28) (oi := { dst := some 81, op := Op.binOp BinOp.eql 34 (Operand.tmp 79) (Operand.tmp 80) 34, type := 4, pos := "law.go:65", after := #[{ on := 26, ground := Ground.data }, { on := 27, ground := Ground.data }, { on := 25, ground := Ground.guard }], guard := some (25, false) }) (v := ?_) rfl (by kernel_rfl) (by kernel_rfl) (by kernel_rfl) (fun _ _ _ h => h) (Or.inl ⟨by rfl, ?_⟩) (by assumption) ?_
      rotate_left
      · (intro w' hSw; have hg := guard_sec; have hq := eqIn_is w' HX.out HI.out.s HXE.out; go_simp; try with_reducible rfl)
      try simp only [Act.put, List.setIfInBounds_toArray, List.set_cons_zero, List.set_cons_succ]
      refine wpAnyH_take (i := 29) (oi := { dst := some 82, op := Op.pick (Operand.tmp 78) (Operand.const (Value.bool true)) (Operand.tmp 81), type := 4, pos := "law.go:65", after := #[{ on := 25, ground := Ground.data }, { on := 28, ground := Ground.data }, { on := 22, ground := Ground.guard }], guard := some (22, true) }) (v := ?_) rfl (by kernel_rfl) (by kernel_rfl) (by kernel_rfl) (fun _ _ _ h => h) (Or.inl ⟨by rfl, ?_⟩) (by assumption) ?_
      rotate_left
      · (intro w' hSw; go_simp; try with_reducible rfl)
      try simp only [Act.put, List.setIfInBounds_toArray, List.set_cons_zero, List.set_cons_succ]
      refine wpAnyH_take (i := 30) (oi := { dst := some 83, op := Op.pick (Operand.tmp 75) (Operand.tmp 82) (Operand.const (Value.bool false)), type := 4, pos := "law.go:65", after := #[{ on := 22, ground := Ground.data }, { on := 29, ground := Ground.data }], guard := none }) (v := ?_) rfl (by kernel_rfl) (by kernel_rfl) (by kernel_rfl) (fun _ _ _ h => h) (Or.inl ⟨by rfl, ?_⟩) (by assumption) ?_
      rotate_left
      · (intro w' hSw; go_simp; try with_reducible rfl)
      try simp only [Act.put, List.setIfInBounds_toArray, List.set_cons_zero, List.set_cons_succ]
      refine wpAnyH_take (i := 31) (oi := { dst := some 84, op := Op.move (Operand.tmp 83), type := 4, pos := "law.go:65", after := #[{ on := 30, ground := Ground.data }, { on := 25, ground := Ground.chain }], guard := none }) (v := ?_) rfl (by kernel_rfl) (by kernel_rfl) (by kernel_rfl) (fun _ _ _ h => h) (Or.inl ⟨by rfl, ?_⟩) (by assumption) ?_
      rotate_left
      · (intro w' hSw; go_simp; try with_reducible rfl)
      try simp only [Act.put, List.setIfInBounds_toArray, List.set_cons_zero, List.set_cons_succ]
      refine wpAnyH_take (i := 32) (oi := { dst := some 85, op := Op.move (Operand.tmp 3), type := 23, pos := "law.go:65", after := #[{ on := 31, ground := Ground.guard }], guard := some (31, true) }) (v := ?_) rfl (by kernel_rfl) (by kernel_rfl) (by kernel_rfl) (fun _ _ _ h => h) (Or.inl ⟨by rfl, ?_⟩) (by assumption) ?_
      rotate_left
      · (intro w' hSw; go_simp; try with_reducible rfl)
      try simp only [Act.put, List.setIfInBounds_toArray, List.set_cons_zero, List.set_cons_succ]
      refine wpAnyH_take (i := 33) (oi := { dst := some 86, op := Op.move (Operand.tmp 16), type := 23, pos := "law.go:65", after := #[{ on := 31, ground := Ground.guard }], guard := some (31, true) }) (v := ?_) rfl (by kernel_rfl) (by kernel_rfl) (by kernel_rfl) (fun _ _ _ h => h) (Or.inl ⟨by rfl, ?_⟩) (by assumption) ?_
      rotate_left
      · (intro w' hSw; go_simp; try with_reducible rfl)
      try simp only [Act.put, List.setIfInBounds_toArray, List.set_cons_zero, List.set_cons_succ]
      -- 34
      refine wpAnyH_ready (rs := [34]) (by kernel_rfl) (by simp) ?_
      refine AllReadyH.cons (o := { dst := some 87, op := Op.call { callee := Callee.value (Operand.func 12), args := #[Operand.tmp 85, Operand.tmp 86], argTypes := #[23, 23] }, type := 30, pos := "law.go:65", after := #[{ on := 32, ground := Ground.data }, { on := 33, ground := Ground.data }, { on := 31, ground := Ground.chain }, { on := 31, ground := Ground.guard }], guard := some (31, true) }) rfl (fun K hK => ?_) AllReadyH.nil
      go_simp
      refine (HU0.out _ _ _ (HI.out.l.later (yc.trans (h2.mono yc.size))) o2.out.rd).mono ?_
      rintro e v3 ⟨⟨p3, c3, rfl⟩, hb3⟩
      have h3 := below_trans h2 hb3
      have o3 := Lib.hid (own_later o2.out hb3)
      dsimp only
      refine hK.out _ _ ?_ (fun hHeld => ?_)
      · exact h3
      clear hK K
      try simp only [Act.put, List.setIfInBounds_toArray, List.set_cons_zero, List.set_cons_succ]
      refine wpAnyH_take (i := 35) (oi := { dst := some 88, op := Op.call { callee := Callee.builtin Builtin.len, args := #[Operand.tmp 87], argTypes := #[30] }, type := 3, pos := "law.go:65", after := #[{ on := 34, ground := Ground.data }, { on := 31, ground := Ground.guard }], guard := some (31, true) }) (v := ?_) rfl (by kernel_rfl) (by kernel_rfl) (by kernel_rfl) (fun _ _ _ h => h) (Or.inl ⟨by rfl, ?_⟩) (by assumption) ?_
      rotate_left
      · (intro w' hSw; go_simp; try with_reducible rfl)
      try simp only [Act.put, List.setIfInBounds_toArray, List.set_cons_zero, List.set_cons_succ]
      refine wpAnyH_take (i := 36) (oi := { dst := some 89, op := Op.binOp BinOp.eql 3 (Operand.tmp 88) (Operand.const (Value.int IntKind.i64 0)) 3, type := 4, pos := "law.go:65", after := #[{ on := 35, ground := Ground.data }, { on := 31, ground := Ground.guard }], guard := some (31, true) }) (v := ?_) rfl (by kernel_rfl) (by kernel_rfl) (by kernel_rfl) (fun _ _ _ h => h) (Or.inl ⟨by rfl, ?_⟩) (by assumption) ?_
      rotate_left
      · (intro w' hSw; go_simp; try with_reducible rfl)
      try simp only [Act.put, List.setIfInBounds_toArray, List.set_cons_zero, List.set_cons_succ]
      refine wpAnyH_take (i := 37) (oi := { dst := some 90, op := Op.pick (Operand.tmp 84) (Operand.tmp 89) (Operand.const (Value.bool false)), type := 4, pos := "law.go:65", after := #[{ on := 31, ground := Ground.data }, { on := 36, ground := Ground.data }], guard := none }) (v := ?_) rfl (by kernel_rfl) (by kernel_rfl) (by kernel_rfl) (fun _ _ _ h => h) (Or.inl ⟨by rfl, ?_⟩) (by assumption) ?_
      rotate_left
      · (intro w' hSw; go_simp; try with_reducible rfl)
      try simp only [Act.put, List.setIfInBounds_toArray, List.set_cons_zero, List.set_cons_succ]
      refine wpAnyH_take (i := 38) (oi := { dst := some 91, op := Op.move (Operand.tmp 90), type := 4, pos := "law.go:65", after := #[{ on := 37, ground := Ground.data }, { on := 34, ground := Ground.chain }], guard := none }) (v := ?_) rfl (by kernel_rfl) (by kernel_rfl) (by kernel_rfl) (fun _ _ _ h => h) (Or.inl ⟨by rfl, ?_⟩) (by assumption) ?_
      rotate_left
      · (intro w' hSw; go_simp; try with_reducible rfl)
      try simp only [Act.put, List.setIfInBounds_toArray, List.set_cons_zero, List.set_cons_succ]
      refine wpAnyH_take (i := 39) (oi := { dst := some 92, op := Op.move (Operand.tmp 16), type := 23, pos := "law.go:65", after := #[{ on := 38, ground := Ground.guard }], guard := some (38, true) }) (v := ?_) rfl (by kernel_rfl) (by kernel_rfl) (by kernel_rfl) (fun _ _ _ h => h) (Or.inl ⟨by rfl, ?_⟩) (by assumption) ?_
      rotate_left
      · (intro w' hSw; go_simp; try with_reducible rfl)
      try simp only [Act.put, List.setIfInBounds_toArray, List.set_cons_zero, List.set_cons_succ]
      refine' wpAnyH_take (i := 40) (oi := { dst := some 93, op := Op.load 34 (Operand.tmp 6), type := 34, pos := "law.go:65", after := #[{ on := 38, ground := Ground.guard }], guard := some (38, true) }) (v := _) rfl (by kernel_rfl) (by kernel_rfl) (by kernel_rfl) (fun _ _ _ h => h) (ld_sec (by rfl) _ rfl w.heap.size 0 rfl s HI.out.s.1 (fun w' hw => (HSc.out.later hw).range)) (by assumption) ?_
      try simp only [Act.put, List.setIfInBounds_toArray, List.set_cons_zero, List.set_cons_succ]
      refine wpAnyH_take (i := 43) (oi := { dst := some 96, op := Op.move (Operand.tmp 3), type := 23, pos := "law.go:65", after := #[{ on := 38, ground := Ground.guard }], guard := some (38, true) }) (v := ?_) rfl (by kernel_rfl) (by kernel_rfl) (by kernel_rfl) (fun _ _ _ h => h) (Or.inl ⟨by rfl, ?_⟩) (by assumption) ?_
      rotate_left
      · (intro w' hSw; go_simp; try with_reducible rfl)
      try simp only [Act.put, List.setIfInBounds_toArray, List.set_cons_zero, List.set_cons_succ]
      -- 41
      refine wpAnyH_ready (rs := [41]) (by kernel_rfl) (by simp) ?_
      refine AllReadyH.cons (o := { dst := some 94, op := Op.buildSlice 23 1 #[(0, Operand.tmp 93)], type := 23, pos := "law.go:65", after := #[{ on := 40, ground := Ground.data }, { on := 38, ground := Ground.guard }], guard := some (38, true) }) rfl (fun K hK => ?_) AllReadyH.nil
      refine step_build (by rfl) _ (by rfl) s (by rfl) HI.out.s.1 ?_
      refine hK.out _ _ ?_ (fun hHeld => ?_)
      · exact below_alloc h3 _
      clear hK K
      have h4 := below_alloc h3 (.cells (u8s s).toArray 34)
      have o4 := Lib.hid (o3.out.alloc (.cells (u8s s).toArray 34))
      try simp only [Act.put, List.setIfInBounds_toArray, List.set_cons_zero, List.set_cons_succ]
      -- 42
      refine wpAnyH_ready (rs := [42]) (by kernel_rfl) (by simp) ?_
      refine AllReadyH.cons (o := { dst := some 95, op := Op.call { callee := Callee.builtin Builtin.append, args := #[Operand.tmp 92, Operand.tmp 94], argTypes := #[23, 23] }, type := 23, pos := "law.go:65", after := #[{ on := 39, ground := Ground.data }, { on := 41, ground := Ground.data }, { on := 38, ground := Ground.chain }, { on := 38, ground := Ground.guard }], guard := some (38, true) }) rfl (fun K hK => ?_) AllReadyH.nil
      refine step_ap elem_secs (by rfl) (.tmp 92) (.tmp 94) (by rfl) wc.heap.size _ n2 (cellsOf xs) (by rfl) o4.out _ 1 (u8s s) (by rfl) (rd_sec _ s HI.out.s.1) (one_ints .u8 _) (by omega) h4.size ?_
      intro pe ce v5 ho hb5
      have h5 := h4.trans hb5
      rw [← HXS.out] at ho
      have o5 := Lib.hid ho
      clear ho
      refine hK.out _ _ ?_ (fun hHeld => ?_)
      · exact h5
      clear hK K
      try simp only [Act.put, List.setIfInBounds_toArray, List.set_cons_zero, List.set_cons_succ]
      -- 44
      refine wpAnyH_ready (rs := [44]) (by kernel_rfl) (by simp) ?_
      refine AllReadyH.cons (o := { dst := some 97, op := Op.call { callee := Callee.value (Operand.func 12), args := #[Operand.tmp 95, Operand.tmp 96], argTypes := #[23, 23] }, type := 30, pos := "law.go:65", after := #[{ on := 42, ground := Ground.data }, { on := 43, ground := Ground.data }, { on := 42, ground := Ground.chain }, { on := 38, ground := Ground.guard }], guard := some (38, true) }) rfl (fun K hK => ?_) AllReadyH.nil
      go_simp
      refine (HU1.out _ _ _ o5.out.rd (HI.out.l.later (yc.trans (h5.mono yc.size)))).mono ?_
      rintro e v6 ⟨⟨p6, c6, rfl⟩, hb6⟩
      have h6 := below_trans h5 hb6
      have o6 := Lib.hid (own_later o5.out hb6)
      dsimp only
      refine hK.out _ _ ?_ (fun hHeld => ?_)
      · exact h6
      clear hK K
      try simp only [Act.put, List.setIfInBounds_toArray, List.set_cons_zero, List.set_cons_succ]
      refine wpAnyH_take (i := 45) (oi := { dst := some 98, op := Op.call { callee := Callee.builtin Builtin.len, args := #[Operand.tmp 97], argTypes := #[30] }, type := 3, pos := "law.go:65", after := #[{ on := 44, ground := Ground.data }, { on := 38, ground := Ground.guard }], guard := some (38, true) }) (v := ?_) rfl (by kernel_rfl) (by kernel_rfl) (by kernel_rfl) (fun _ _ _ h => h) (Or.inl ⟨by rfl, ?_⟩) (by assumption) ?_
      rotate_left
      · (intro w' hSw; go_simp; try with_reducible rfl)
      try simp only [Act.put, List.setIfInBounds_toArray, List.set_cons_zero, List.set_cons_succ]
      refine wpAnyH_take (i := 46) (oi := { dst := some 99, op := Op.binOp BinOp.eql 3 (Operand.tmp 98) (Operand.const (Value.int IntKind.i64 1)) 3, type := 4, pos := "law.go:65", after := #[{ on := 45, ground := Ground.data }, { on := 38, ground := Ground.guard }], guard := some (38, true) }) (v := ?_) rfl (by kernel_rfl) (by kernel_rfl) (by kernel_rfl) (fun _ _ _ h => h) (Or.inl ⟨by rfl, ?_⟩) (by assumption) ?_
      rotate_left
      · (intro w' hSw; go_simp; try with_reducible rfl)
      try simp only [Act.put, List.setIfInBounds_toArray, List.set_cons_zero, List.set_cons_succ]
      refine wpAnyH_take (i := 47) (oi := { dst := some 100, op := Op.pick (Operand.tmp 91) (Operand.tmp 99) (Operand.const (Value.bool false)), type := 4, pos := "law.go:65", after := #[{ on := 38, ground := Ground.data }, { on := 46, ground := Ground.data }], guard := none }) (v := ?_) rfl (by kernel_rfl) (by kernel_rfl) (by kernel_rfl) (fun _ _ _ h => h) (Or.inl ⟨by rfl, ?_⟩) (by assumption) ?_
      rotate_left
      · (intro w' hSw; go_simp; try with_reducible rfl)
      try simp only [Act.put, List.setIfInBounds_toArray, List.set_cons_zero, List.set_cons_succ]
      refine wpAnyH_take (i := 48) (oi := { dst := some 10, op := Op.assign (Operand.tmp 100), type := 4, pos := "law.go:65", after := #[{ on := 47, ground := Ground.data }, { on := 44, ground := Ground.chain }, { on := 0, ground := Ground.phase }, { on := 1, ground := Ground.phase }, { on := 2, ground := Ground.phase }, { on := 3, ground := Ground.phase }, { on := 4, ground := Ground.phase }, { on := 5, ground := Ground.phase }, { on := 6, ground := Ground.phase }, { on := 7, ground := Ground.phase }, { on := 8, ground := Ground.phase }, { on := 9, ground := Ground.phase }, { on := 10, ground := Ground.phase }, { on := 11, ground := Ground.phase }, { on := 12, ground := Ground.phase }, { on := 13, ground := Ground.phase }, { on := 14, ground := Ground.phase }, { on := 15, ground := Ground.phase }, { on := 16, ground := Ground.phase }, { on := 17, ground := Ground.phase }, { on := 18, ground := Ground.phase }, { on := 19, ground := Ground.phase }, { on := 20, ground := Ground.phase }, { on := 21, ground := Ground.phase }, { on := 22, ground := Ground.phase }, { on := 23, ground := Ground.phase }, { on := 24, ground := Ground.phase }, { on := 25, ground := Ground.phase }, { on := 26, ground := Ground.phase }, { on := 27, ground := Ground.phase }, { on := 28, ground := Ground.phase }, { on := 29, ground := Ground.phase }, { on := 30, ground := Ground.phase }, { on := 31, ground := Ground.phase }, { on := 32, ground := Ground.phase }, { on := 33, ground := Ground.phase }, { on := 34, ground := Ground.phase }, { on := 35, ground := Ground.phase }, { on := 36, ground := Ground.phase }, { on := 37, ground := Ground.phase }, { on := 38, ground := Ground.phase }, { on := 39, ground := Ground.phase }, { on := 40, ground := Ground.phase }, { on := 41, ground := Ground.phase }, { on := 42, ground := Ground.phase }, { on := 43, ground := Ground.phase }, { on := 44, ground := Ground.phase }, { on := 45, ground := Ground.phase }, { on := 46, ground := Ground.phase }, { on := 47, ground := Ground.phase }], guard := none }) (v := ?_) rfl (by kernel_rfl) (by kernel_rfl) (by kernel_rfl) (fun _ _ _ h => h) (Or.inl ⟨by rfl, ?_⟩) (by assumption) ?_
      rotate_left
      · (intro w' hSw; go_simp; try with_reducible rfl)
      try simp only [Act.put, List.setIfInBounds_toArray, List.set_cons_zero, List.set_cons_succ]
      refine wpAnyH_done (by kernel_rfl) ?_ _
      go_wp2_with fail
      go_ret
      exact ⟨rfl, yc.trans (h6.mono yc.size)⟩
    | false =>
      refine wp_region_held_drew (S := ext wc) (by kernel_rfl) hcd.drew (fun hH0 => ?_)
      refine wpAnyH_take (i := 0) (oi := { dst := some 53, op := Op.move (Operand.tmp 12), type := 4, pos := "law.go:65", after := #[], guard := none }) (v := ?_) rfl (by kernel_rfl) (by kernel_rfl) (by kernel_rfl) (fun _ _ _ h => h) (Or.inl ⟨by rfl, ?_⟩) (by assumption) ?_
      rotate_left
      · (intro w' hSw; go_simp; try with_reducible rfl)
      try simp only [Act.put, List.setIfInBounds_toArray, List.set_cons_zero, List.set_cons_succ]
      refine wpAnyH_take (i := 1) (oi := { dst := some 54, op := Op.move (Operand.tmp 53), type := 4, pos := "law.go:65", after := #[{ on := 0, ground := Ground.data }], guard := none }) (v := ?_) rfl (by kernel_rfl) (by kernel_rfl) (by kernel_rfl) (fun _ _ _ h => h) (Or.inl ⟨by rfl, ?_⟩) (by assumption) ?_
      rotate_left
      · (intro w' hSw; go_simp; try with_reducible rfl)
      try simp only [Act.put, List.setIfInBounds_toArray, List.set_cons_zero, List.set_cons_succ]
      refine wpAnyH_take (i := 2) (oi := { dst := some 55, op := Op.move (Operand.tmp 11), type := 22, pos := "law.go:65", after := #[{ on := 1, ground := Ground.guard }], guard := some (1, true) }) (v := ?_) rfl (by kernel_rfl) (by kernel_rfl) (by kernel_rfl) (fun _ _ _ h => h) (Or.inl ⟨by rfl, ?_⟩) (by assumption) ?_
      rotate_left
      · (intro w' hSw; go_simp; try with_reducible rfl)
      try simp only [Act.put, List.setIfInBounds_toArray, List.set_cons_zero, List.set_cons_succ]
      refine wpAnyH_take (i := 3) (oi := { dst := some 56, op := Op.convert 22 9 (Operand.tmp 55), type := 9, pos := "law.go:65", after := #[{ on := 2, ground := Ground.data }, { on := 1, ground := Ground.guard }], guard := some (1, true) }) (v := ?_) rfl (by kernel_rfl) (by kernel_rfl) (by kernel_rfl) (fun _ _ _ h => h) (Or.inl ⟨by rfl, ?_⟩) (by assumption) ?_
      rotate_left
      · (intro w' hSw; have hcv := conv_rd (Rc.out.later hSw); go_simp; try with_reducible rfl)
      try simp only [Act.put, List.setIfInBounds_toArray, List.set_cons_zero, List.set_cons_succ]
      refine wpAnyH_take (i := 4) (oi := { dst := some 57, op := Op.move (Operand.tmp 0), type := 22, pos := "law.go:65", after := #[{ on := 1, ground := Ground.guard }], guard := some (1, true) }) (v := ?_) rfl (by kernel_rfl) (by kernel_rfl) (by kernel_rfl) (fun _ _ _ h => h) (Or.inl ⟨by rfl, ?_⟩) (by assumption) ?_
      rotate_left
      · (intro w' hSw; go_simp; try with_reducible rfl)
      try simp only [Act.put, List.setIfInBounds_toArray, List.set_cons_zero, List.set_cons_succ]
      refine wpAnyH_take (i := 5) (oi := { dst := some 58, op := Op.convert 22 9 (Operand.tmp 57), type := 9, pos := "law.go:65", after := #[{ on := 4, ground := Ground.data }, { on := 1, ground := Ground.guard }], guard := some (1, true) }) (v := ?_) rfl (by kernel_rfl) (by kernel_rfl) (by kernel_rfl) (fun _ _ _ h => h) (Or.inl ⟨by rfl, ?_⟩) (by assumption) ?_
      rotate_left
      · (intro w' hSw; have hcv := conv_rd (HBc.out.later hSw); go_simp; try with_reducible rfl)
      try simp only [Act.put, List.setIfInBounds_toArray, List.set_cons_zero, List.set_cons_succ]
      refine wpAnyH_take (i := 6) (oi := { dst := some 59, op := Op.binOp BinOp.eql 9 (Operand.tmp 56) (Operand.tmp 58) 9, type := 4, pos := "law.go:65", after := #[{ on := 3, ground := Ground.data }, { on := 5, ground := Ground.data }, { on := 1, ground := Ground.guard }], guard := some (1, true) }) (v := ?_) rfl (by kernel_rfl) (by kernel_rfl) (by kernel_rfl) (fun _ _ _ h => h) (Or.inl ⟨by rfl, ?_⟩) (by assumption) ?_
      rotate_left
      · (intro w' hSw; go_simp; try with_reducible rfl)
      try simp only [Act.put, List.setIfInBounds_toArray, List.set_cons_zero, List.set_cons_succ]
      refine wpAnyH_take (i := 7) (oi := { dst := some 60, op := Op.pick (Operand.tmp 54) (Operand.tmp 59) (Operand.const (Value.bool false)), type := 4, pos := "law.go:65", after := #[{ on := 1, ground := Ground.data }, { on := 6, ground := Ground.data }], guard := none }) (v := ?_) rfl (by kernel_rfl) (by kernel_rfl) (by kernel_rfl) (fun _ _ _ h => h) (Or.inl ⟨by rfl, ?_⟩) (by assumption) ?_
      rotate_left
      · (intro w' hSw; go_simp; try with_reducible rfl)
      try simp only [Act.put, List.setIfInBounds_toArray, List.set_cons_zero, List.set_cons_succ]
      refine wpAnyH_take (i := 8) (oi := { dst := some 61, op := Op.move (Operand.tmp 60), type := 4, pos := "law.go:65", after := #[{ on := 7, ground := Ground.data }, { on := 1, ground := Ground.chain }], guard := none }) (v := ?_) rfl (by kernel_rfl) (by kernel_rfl) (by kernel_rfl) (fun _ _ _ h => h) (Or.inl ⟨by rfl, ?_⟩) (by assumption) ?_
      rotate_left
      · (intro w' hSw; go_simp; try with_reducible rfl)
      try simp only [Act.put, List.setIfInBounds_toArray, List.set_cons_zero, List.set_cons_succ]
      refine' wpAnyH_take (i := 9) (oi := { dst := some 62, op := Op.load 34 (Operand.tmp 13), type := 34, pos := "law.go:65", after := #[{ on := 8, ground := Ground.guard }], guard := some (8, true) }) (v := _) rfl (by kernel_rfl) (by kernel_rfl) (by kernel_rfl) (fun _ _ _ h => h) (ld_sec (by rfl) _ rfl w4.heap.size 0 rfl T HTS.out.1 (fun w' hw => (HTc.out.later hw).range)) (by assumption) ?_
      try simp only [Act.put, List.setIfInBounds_toArray, List.set_cons_zero, List.set_cons_succ]
      refine' wpAnyH_take (i := 10) (oi := { dst := some 63, op := Op.load 34 (Operand.tmp 7), type := 34, pos := "law.go:65", after := #[{ on := 8, ground := Ground.guard }], guard := some (8, true) }) (v := _) rfl (by kernel_rfl) (by kernel_rfl) (by kernel_rfl) (fun _ _ _ h => h) (ld_sec (by rfl) _ rfl (w.heap.size + 1) 0 rfl o HI.out.o.1 (fun w' hw => (HOc.out.later hw).range)) (by assumption) ?_
      try simp only [Act.put, List.setIfInBounds_toArray, List.set_cons_zero, List.set_cons_succ]
      refine' wpAnyH_take (i := 12) (oi := { dst := some 65, op := Op.load 34 (Operand.tmp 13), type := 34, pos := "law.go:65", after := #[{ on := 8, ground := Ground.guard }], guard := some (8, true) }) (v := _) rfl (by kernel_rfl) (by kernel_rfl) (by kernel_rfl) (fun _ _ _ h => h) (ld_sec (by rfl) _ rfl w4.heap.size 0 rfl T HTS.out.1 (fun w' hw => (HTc.out.later hw).range)) (by assumption) ?_
      try simp only [Act.put, List.setIfInBounds_toArray, List.set_cons_zero, List.set_cons_succ]
      -- 11
      refine wpAnyH_ready (rs := [11]) (by kernel_rfl) (by simp) ?_
      refine AllReadyH.cons (o := { dst := some 64, op := Op.call { callee := Callee.value (Operand.func 14), args := #[Operand.tmp 62, Operand.tmp 63], argTypes := #[34, 34] }, type := 34, pos := "law.go:65", after := #[{ on := 9, ground := Ground.data }, { on := 10, ground := Ground.data }, { on := 8, ground := Ground.chain }, { on := 8, ground := Ground.guard }], guard := some (8, true) }) rfl (fun K hK => ?_) AllReadyH.nil
      go_simp
      refine (HC.out.torn T o _ HTS.out HI.out.o).mono ?_
      rintro e v1 ⟨he, hb1⟩
      rw [HTT.out] at he
      subst he
      have h1 := below_trans h0 hb1
      have o1 := Lib.hid (own_later o0.out hb1)
      dsimp only
      refine hK.out _ _ ?_ (fun hHeld => ?_)
      · exact h1
      clear hK K
      try simp only [Act.put, List.setIfInBounds_toArray, List.set_cons_zero, List.set_cons_succ]
      refine wpAnyH_take (i := 13) (oi := { dst := some 66, op := Op.binOp BinOp.eql 34 (Operand.tmp 64) (Operand.tmp 65) 34, type := 4, pos := "law.go:65", after := #[{ on := 11, ground := Ground.data }, { on := 12, ground := Ground.data }, { on := 8, ground := Ground.guard }], guard := some (8, true) }) (v := ?_) rfl (by kernel_rfl) (by kernel_rfl) (by kernel_rfl) (fun _ _ _ h => h) (Or.inl ⟨by rfl, ?_⟩) (by assumption) ?_
      rotate_left
      · (intro w' hSw; have hg := guard_sec; have hq := eqIn_same w' HTS.out; go_simp; try with_reducible rfl)
      try simp only [Act.put, List.setIfInBounds_toArray, List.set_cons_zero, List.set_cons_succ]
      refine wpAnyH_take (i := 14) (oi := { dst := some 67, op := Op.pick (Operand.tmp 61) (Operand.tmp 66) (Operand.const (Value.bool false)), type := 4, pos := "law.go:65", after := #[{ on := 8, ground := Ground.data }, { on := 13, ground := Ground.data }], guard := none }) (v := ?_) rfl (by kernel_rfl) (by kernel_rfl) (by kernel_rfl) (fun _ _ _ h => h) (Or.inl ⟨by rfl, ?_⟩) (by assumption) ?_
      rotate_left
      · (intro w' hSw; go_simp; try with_reducible rfl)
      try simp only [Act.put, List.setIfInBounds_toArray, List.set_cons_zero, List.set_cons_succ]
      refine wpAnyH_take (i := 15) (oi := { dst := some 68, op := Op.move (Operand.tmp 67), type := 4, pos := "law.go:65", after := #[{ on := 14, ground := Ground.data }, { on := 11, ground := Ground.chain }], guard := none }) (v := ?_) rfl (by kernel_rfl) (by kernel_rfl) (by kernel_rfl) (fun _ _ _ h => h) (Or.inl ⟨by rfl, ?_⟩) (by assumption) ?_
      rotate_left
      · (intro w' hSw; go_simp; try with_reducible rfl)
      try simp only [Act.put, List.setIfInBounds_toArray, List.set_cons_zero, List.set_cons_succ]
      refine' wpAnyH_take (i := 16) (oi := { dst := some 69, op := Op.load 34 (Operand.tmp 6), type := 34, pos := "law.go:65", after := #[{ on := 15, ground := Ground.guard }], guard := some (15, true) }) (v := _) rfl (by kernel_rfl) (by kernel_rfl) (by kernel_rfl) (fun _ _ _ h => h) (ld_sec (by rfl) _ rfl w.heap.size 0 rfl s HI.out.s.1 (fun w' hw => (HSc.out.later hw).range)) (by assumption) ?_
      try simp only [Act.put, List.setIfInBounds_toArray, List.set_cons_zero, List.set_cons_succ]
      refine' wpAnyH_take (i := 17) (oi := { dst := some 70, op := Op.load 34 (Operand.tmp 6), type := 34, pos := "law.go:65", after := #[{ on := 15, ground := Ground.guard }], guard := some (15, true) }) (v := _) rfl (by kernel_rfl) (by kernel_rfl) (by kernel_rfl) (fun _ _ _ h => h) (ld_sec (by rfl) _ rfl w.heap.size 0 rfl s HI.out.s.1 (fun w' hw => (HSc.out.later hw).range)) (by assumption) ?_
      try simp only [Act.put, List.setIfInBounds_toArray, List.set_cons_zero, List.set_cons_succ]
      refine' wpAnyH_take (i := 19) (oi := { dst := some 72, op := Op.load 34 (Operand.tmp 6), type := 34, pos := "law.go:65", after := #[{ on := 15, ground := Ground.guard }], guard := some (15, true) }) (v := _) rfl (by kernel_rfl) (by kernel_rfl) (by kernel_rfl) (fun _ _ _ h => h) (ld_sec (by rfl) _ rfl w.heap.size 0 rfl s HI.out.s.1 (fun w' hw => (HSc.out.later hw).range)) (by assumption) ?_
      try simp only [Act.put, List.setIfInBounds_toArray, List.set_cons_zero, List.set_cons_succ]
      -- 18
      refine wpAnyH_ready (rs := [18]) (by kernel_rfl) (by simp) ?_
      refine AllReadyH.cons (o := { dst := some 71, op := Op.call { callee := Callee.value (Operand.func 14), args := #[Operand.tmp 69, Operand.tmp 70], argTypes := #[34, 34] }, type := 34, pos := "law.go:65", after := #[{ on := 16, ground := Ground.data }, { on := 17, ground := Ground.data }, { on := 15, ground := Ground.chain }, { on := 15, ground := Ground.guard }], guard := some (15, true) }) rfl (fun K hK => ?_) AllReadyH.nil
      go_simp
      refine (HC.out.torn s s _ HI.out.s HI.out.s).mono ?_
      rintro e v2 ⟨he, hb2⟩
      rw [HSS.out] at he
      subst he
      have h2 := below_trans h1 hb2
      have o2 := Lib.hid (own_later o1.out hb2)
      dsimp only
      refine hK.out _ _ ?_ (fun hHeld => ?_)
      · exact h2
      clear hK K
      try simp only [Act.put, List.setIfInBounds_toArray, List.set_cons_zero, List.set_cons_succ]
      refine wpAnyH_take (i := 20) (oi := { dst := some 73, op := Op.binOp BinOp.eql 34 (Operand.tmp 71) (Operand.tmp 72) 34, type := 4, pos := "law.go:65", after := #[{ on := 18, ground := Ground.data }, { on := 19, ground := Ground.data }, { on := 15, ground := Ground.guard }], guard := some (15, true) }) (v := ?_) rfl (by kernel_rfl) (by kernel_rfl) (by kernel_rfl) (fun _ _ _ h => h) (Or.inl ⟨by rfl, ?_⟩) (by assumption) ?_
      rotate_left
      · (intro w' hSw; have hg := guard_sec; have hq := eqIn_same w' HI.out.s; go_simp; try with_reducible rfl)
      try simp only [Act.put, List.setIfInBounds_toArray, List.set_cons_zero, List.set_cons_succ]
      refine wpAnyH_take (i := 21) (oi := { dst := some 74, op := Op.pick (Operand.tmp 68) (Operand.tmp 73) (Operand.const (Value.bool false)), type := 4, pos := "law.go:65", after := #[{ on := 15, ground := Ground.data }, { on := 20, ground := Ground.data }], guard := none }) (v := ?_) rfl (by kernel_rfl) (by kernel_rfl) (by kernel_rfl) (fun _ _ _ h => h) (Or.inl ⟨by rfl, ?_⟩) (by assumption) ?_
      rotate_left
      · (intro w' hSw; go_simp; try with_reducible rfl)
      try simp only [Act.put, List.setIfInBounds_toArray, List.set_cons_zero, List.set_cons_succ]
      refine wpAnyH_take (i := 22) (oi := { dst := some 75, op := Op.move (Operand.tmp 74), type := 4, pos := "law.go:65", after := #[{ on := 21, ground := Ground.data }, { on := 18, ground := Ground.chain }], guard := none }) (v := ?_) rfl (by kernel_rfl) (by kernel_rfl) (by kernel_rfl) (fun _ _ _ h => h) (Or.inl ⟨by rfl, ?_⟩) (by assumption) ?_
      rotate_left
      · (intro w' hSw; go_simp; try with_reducible rfl)
      try simp only [Act.put, List.setIfInBounds_toArray, List.set_cons_zero, List.set_cons_succ]
      refine wpAnyH_take (i := 23) (oi := { dst := some 76, op := Op.move (Operand.tmp 15), type := 4, pos := "law.go:65", after := #[{ on := 22, ground := Ground.guard }], guard := some (22, true) }) (v := ?_) rfl (by kernel_rfl) (by kernel_rfl) (by kernel_rfl) (fun _ _ _ h => h) (Or.inl ⟨by rfl, ?_⟩) (by assumption) ?_
      rotate_left
      · (intro w' hSw; go_simp; try with_reducible rfl)
      try simp only [Act.put, List.setIfInBounds_toArray, List.set_cons_zero, List.set_cons_succ]
      refine wpAnyH_take (i := 24) (oi := { dst := some 77, op := Op.unOp UnOp.not 4 (Operand.tmp 76), type := 4, pos := "law.go:65", after := #[{ on := 23, ground := Ground.data }, { on := 22, ground := Ground.guard }], guard := some (22, true) }) (v := ?_) rfl (by kernel_rfl) (by kernel_rfl) (by kernel_rfl) (fun _ _ _ h => h) (Or.inl ⟨by rfl, ?_⟩) (by assumption) ?_
      rotate_left
      · (intro w' hSw; go_simp; try with_reducible rfl)
      try simp only [Act.put, List.setIfInBounds_toArray, List.set_cons_zero, List.set_cons_succ]
      refine wpAnyH_take (i := 25) (oi := { dst := some 78, op := Op.move (Operand.tmp 77), type := 4, pos := "law.go:65", after := #[{ on := 24, ground := Ground.data }, { on := 22, ground := Ground.chain }, { on := 22, ground := Ground.guard }], guard := some (22, true) }) (v := ?_) rfl (by kernel_rfl) (by kernel_rfl) (by kernel_rfl) (fun _ _ _ h => h) (Or.inl ⟨by rfl, ?_⟩) (by assumption) ?_
      rotate_left
      · (intro w' hSw; go_simp; try with_reducible rfl)
      try simp only [Act.put, List.setIfInBounds_toArray, List.set_cons_zero, List.set_cons_succ]
      refine wpAnyH_take (i := 26) (oi := { dst := some 79, op := Op.load 34 (Operand.tmp 14), type := 34, pos := "law.go:65", after := #[{ on := 25, ground := Ground.guard }], guard := some (25, false) }) (v := undef) rfl (by kernel_rfl) (by kernel_rfl) (by kernel_rfl) (fun _ _ _ h => h) (Or.inr ⟨by rfl, rfl⟩) (by assumption) ?_
      try simp only [Act.put, List.setIfInBounds_toArray, List.set_cons_zero, List.set_cons_succ]
      refine wpAnyH_take (i := 27) (oi := { dst := some 80, op := Op.load 34 (Operand.tmp 6), type := 34, pos := "law.go:65", after := #[{ on := 25, ground := Ground.guard }], guard := some (25, false) }) (v := undef) rfl (by kernel_rfl) (by kernel_rfl) (by kernel_rfl) (fun _ _ _ h => h) (Or.inr ⟨by rfl, rfl⟩) (by assumption) ?_
      try simp only [Act.put, List.setIfInBounds_toArray, List.set_cons_zero, List.set_cons_succ]
      refine wpAnyH_take (i := 28) (oi := { dst := some 81, op := Op.binOp BinOp.eql 34 (Operand.tmp 79) (Operand.tmp 80) 34, type := 4, pos := "law.go:65", after := #[{ on := 26, ground := Ground.data }, { on := 27, ground := Ground.data }, { on := 25, ground := Ground.guard }], guard := some (25, false) }) (v := undef) rfl (by kernel_rfl) (by kernel_rfl) (by kernel_rfl) (fun _ _ _ h => h) (Or.inr ⟨by rfl, rfl⟩) (by assumption) ?_
      try simp only [Act.put, List.setIfInBounds_toArray, List.set_cons_zero, List.set_cons_succ]
      refine wpAnyH_take (i := 29) (oi := { dst := some 82, op := Op.pick (Operand.tmp 78) (Operand.const (Value.bool true)) (Operand.tmp 81), type := 4, pos := "law.go:65", after := #[{ on := 25, ground := Ground.data }, { on := 28, ground := Ground.data }, { on := 22, ground := Ground.guard }], guard := some (22, true) }) (v := ?_) rfl (by kernel_rfl) (by kernel_rfl) (by kernel_rfl) (fun _ _ _ h => h) (Or.inl ⟨by rfl, ?_⟩) (by assumption) ?_
      rotate_left
      · (intro w' hSw; go_simp; try with_reducible rfl)
      try simp only [Act.put, List.setIfInBounds_toArray, List.set_cons_zero, List.set_cons_succ]
      refine wpAnyH_take (i := 30) (oi := { dst := some 83, op := Op.pick (Operand.tmp 75) (Operand.tmp 82) (Operand.const (Value.bool false)), type := 4, pos := "law.go:65", after := #[{ on := 22, ground := Ground.data }, { on := 29, ground := Ground.data }], guard := none }) (v := ?_) rfl (by kernel_rfl) (by kernel_rfl) (by kernel_rfl) (fun _ _ _ h => h) (Or.inl ⟨by rfl, ?_⟩) (by assumption) ?_
      rotate_left
      · (intro w' hSw; go_simp; try with_reducible rfl)
      try simp only [Act.put, List.setIfInBounds_toArray, List.set_cons_zero, List.set_cons_succ]
      refine wpAnyH_take (i := 31) (oi := { dst := some 84, op := Op.move (Operand.tmp 83), type := 4, pos := "law.go:65", after := #[{ on := 30, ground := Ground.data }, { on := 25, ground := Ground.chain }], guard := none }) (v := ?_) rfl (by kernel_rfl) (by kernel_rfl) (by kernel_rfl) (fun _ _ _ h => h) (Or.inl ⟨by rfl, ?_⟩) (by assumption) ?_
      rotate_left
      · (intro w' hSw; go_simp; try with_reducible rfl)
      try simp only [Act.put, List.setIfInBounds_toArray, List.set_cons_zero, List.set_cons_succ]
      refine wpAnyH_take (i := 32) (oi := { dst := some 85, op := Op.move (Operand.tmp 3), type := 23, pos := "law.go:65", after := #[{ on := 31, ground := Ground.guard }], guard := some (31, true) }) (v := ?_) rfl (by kernel_rfl) (by kernel_rfl) (by kernel_rfl) (fun _ _ _ h => h) (Or.inl ⟨by rfl, ?_⟩) (by assumption) ?_
      rotate_left
      · (intro w' hSw; go_simp; try with_reducible rfl)
      try simp only [Act.put, List.setIfInBounds_toArray, List.set_cons_zero, List.set_cons_succ]
      refine wpAnyH_take (i := 33) (oi := { dst := some 86, op := Op.move (Operand.tmp 16), type := 23, pos := "law.go:65", after := #[{ on := 31, ground := Ground.guard }], guard := some (31, true) }) (v := ?_) rfl (by kernel_rfl) (by kernel_rfl) (by kernel_rfl) (fun _ _ _ h => h) (Or.inl ⟨by rfl, ?_⟩) (by assumption) ?_
      rotate_left
      · (intro w' hSw; go_simp; try with_reducible rfl)
      try simp only [Act.put, List.setIfInBounds_toArray, List.set_cons_zero, List.set_cons_succ]
      -- 34
      refine wpAnyH_ready (rs := [34]) (by kernel_rfl) (by simp) ?_
      refine AllReadyH.cons (o := { dst := some 87, op := Op.call { callee := Callee.value (Operand.func 12), args := #[Operand.tmp 85, Operand.tmp 86], argTypes := #[23, 23] }, type := 30, pos := "law.go:65", after := #[{ on := 32, ground := Ground.data }, { on := 33, ground := Ground.data }, { on := 31, ground := Ground.chain }, { on := 31, ground := Ground.guard }], guard := some (31, true) }) rfl (fun K hK => ?_) AllReadyH.nil
      go_simp
      refine (HU0.out _ _ _ (HI.out.l.later (yc.trans (h2.mono yc.size))) o2.out.rd).mono ?_
      rintro e v3 ⟨⟨p3, c3, rfl⟩, hb3⟩
      have h3 := below_trans h2 hb3
      have o3 := Lib.hid (own_later o2.out hb3)
      dsimp only
      refine hK.out _ _ ?_ (fun hHeld => ?_)
      · exact h3
      clear hK K
      try simp only [Act.put, List.setIfInBounds_toArray, List.set_cons_zero, List.set_cons_succ]
      refine wpAnyH_take (i := 35) (oi := { dst := some 88, op := Op.call { callee := Callee.builtin Builtin.len, args := #[Operand.tmp 87], argTypes := #[30] }, type := 3, pos := "law.go:65", after := #[{ on := 34, ground := Ground.data }, { on := 31, ground := Ground.guard }], guard := some (31, true) }) (v := ?_) rfl (by kernel_rfl) (by kernel_rfl) (by kernel_rfl) (fun _ _ _ h => h) (Or.inl ⟨by rfl, ?_⟩) (by assumption) ?_
      rotate_left
      · (intro w' hSw; go_simp; try with_reducible rfl)
      try simp only [Act.put, List.setIfInBounds_toArray, List.set_cons_zero, List.set_cons_succ]
      refine wpAnyH_take (i := 36) (oi := { dst := some 89, op := Op.binOp BinOp.eql 3 (Operand.tmp 88) (Operand.const (Value.int IntKind.i64 0)) 3, type := 4, pos := "law.go:65", after := #[{ on := 35, ground := Ground.data }, { on := 31, ground := Ground.guard }], guard := some (31, true) }) (v := ?_) rfl (by kernel_rfl) (by kernel_rfl) (by kernel_rfl) (fun _ _ _ h => h) (Or.inl ⟨by rfl, ?_⟩) (by assumption) ?_
      rotate_left
      · (intro w' hSw; go_simp; try with_reducible rfl)
      try simp only [Act.put, List.setIfInBounds_toArray, List.set_cons_zero, List.set_cons_succ]
      refine wpAnyH_take (i := 37) (oi := { dst := some 90, op := Op.pick (Operand.tmp 84) (Operand.tmp 89) (Operand.const (Value.bool false)), type := 4, pos := "law.go:65", after := #[{ on := 31, ground := Ground.data }, { on := 36, ground := Ground.data }], guard := none }) (v := ?_) rfl (by kernel_rfl) (by kernel_rfl) (by kernel_rfl) (fun _ _ _ h => h) (Or.inl ⟨by rfl, ?_⟩) (by assumption) ?_
      rotate_left
      · (intro w' hSw; go_simp; try with_reducible rfl)
      try simp only [Act.put, List.setIfInBounds_toArray, List.set_cons_zero, List.set_cons_succ]
      refine wpAnyH_take (i := 38) (oi := { dst := some 91, op := Op.move (Operand.tmp 90), type := 4, pos := "law.go:65", after := #[{ on := 37, ground := Ground.data }, { on := 34, ground := Ground.chain }], guard := none }) (v := ?_) rfl (by kernel_rfl) (by kernel_rfl) (by kernel_rfl) (fun _ _ _ h => h) (Or.inl ⟨by rfl, ?_⟩) (by assumption) ?_
      rotate_left
      · (intro w' hSw; go_simp; try with_reducible rfl)
      try simp only [Act.put, List.setIfInBounds_toArray, List.set_cons_zero, List.set_cons_succ]
      refine wpAnyH_take (i := 39) (oi := { dst := some 92, op := Op.move (Operand.tmp 16), type := 23, pos := "law.go:65", after := #[{ on := 38, ground := Ground.guard }], guard := some (38, true) }) (v := ?_) rfl (by kernel_rfl) (by kernel_rfl) (by kernel_rfl) (fun _ _ _ h => h) (Or.inl ⟨by rfl, ?_⟩) (by assumption) ?_
      rotate_left
      · (intro w' hSw; go_simp; try with_reducible rfl)
      try simp only [Act.put, List.setIfInBounds_toArray, List.set_cons_zero, List.set_cons_succ]
      refine' wpAnyH_take (i := 40) (oi := { dst := some 93, op := Op.load 34 (Operand.tmp 6), type := 34, pos := "law.go:65", after := #[{ on := 38, ground := Ground.guard }], guard := some (38, true) }) (v := _) rfl (by kernel_rfl) (by kernel_rfl) (by kernel_rfl) (fun _ _ _ h => h) (ld_sec (by rfl) _ rfl w.heap.size 0 rfl s HI.out.s.1 (fun w' hw => (HSc.out.later hw).range)) (by assumption) ?_
      try simp only [Act.put, List.setIfInBounds_toArray, List.set_cons_zero, List.set_cons_succ]
      refine wpAnyH_take (i := 43) (oi := { dst := some 96, op := Op.move (Operand.tmp 3), type := 23, pos := "law.go:65", after := #[{ on := 38, ground := Ground.guard }], guard := some (38, true) }) (v := ?_) rfl (by kernel_rfl) (by kernel_rfl) (by kernel_rfl) (fun _ _ _ h => h) (Or.inl ⟨by rfl, ?_⟩) (by assumption) ?_
      rotate_left
      · (intro w' hSw; go_simp; try with_reducible rfl)
      try simp only [Act.put, List.setIfInBounds_toArray, List.set_cons_zero, List.set_cons_succ]
      -- 41
      refine wpAnyH_ready (rs := [41]) (by kernel_rfl) (by simp) ?_
      refine AllReadyH.cons (o := { dst := some 94, op := Op.buildSlice 23 1 #[(0, Operand.tmp 93)], type := 23, pos := "law.go:65", after := #[{ on := 40, ground := Ground.data }, { on := 38, ground := Ground.guard }], guard := some (38, true) }) rfl (fun K hK => ?_) AllReadyH.nil
      refine step_build (by rfl) _ (by rfl) s (by rfl) HI.out.s.1 ?_
      refine hK.out _ _ ?_ (fun hHeld => ?_)
      · exact below_alloc h3 _
      clear hK K
      have h4 := below_alloc h3 (.cells (u8s s).toArray 34)
      have o4 := Lib.hid (o3.out.alloc (.cells (u8s s).toArray 34))
      try simp only [Act.put, List.setIfInBounds_toArray, List.set_cons_zero, List.set_cons_succ]
      -- 42
      refine wpAnyH_ready (rs := [42]) (by kernel_rfl) (by simp) ?_
      refine AllReadyH.cons (o := { dst := some 95, op := Op.call { callee := Callee.builtin Builtin.append, args := #[Operand.tmp 92, Operand.tmp 94], argTypes := #[23, 23] }, type := 23, pos := "law.go:65", after := #[{ on := 39, ground := Ground.data }, { on := 41, ground := Ground.data }, { on := 38, ground := Ground.chain }, { on := 38, ground := Ground.guard }], guard := some (38, true) }) rfl (fun K hK => ?_) AllReadyH.nil
      refine step_ap elem_secs (by rfl) (.tmp 92) (.tmp 94) (by rfl) wc.heap.size _ n2 (cellsOf xs) (by rfl) o4.out _ 1 (u8s s) (by rfl) (rd_sec _ s HI.out.s.1) (one_ints .u8 _) (by omega) h4.size ?_
      intro pe ce v5 ho hb5
      have h5 := h4.trans hb5
      rw [← HXS.out] at ho
      have o5 := Lib.hid ho
      clear ho
      refine hK.out _ _ ?_ (fun hHeld => ?_)
      · exact h5
      clear hK K
      try simp only [Act.put, List.setIfInBounds_toArray, List.set_cons_zero, List.set_cons_succ]
      -- 44
      refine wpAnyH_ready (rs := [44]) (by kernel_rfl) (by simp) ?_
      refine AllReadyH.cons (o := { dst := some 97, op := Op.call { callee := Callee.value (Operand.func 12), args := #[Operand.tmp 95, Operand.tmp 96], argTypes := #[23, 23] }, type := 30, pos := "law.go:65", after := #[{ on := 42, ground := Ground.data }, { on := 43, ground := Ground.data }, { on := 42, ground := Ground.chain }, { on := 38, ground := Ground.guard }], guard := some (38, true) }) rfl (fun K hK => ?_) AllReadyH.nil
      go_simp
      refine (HU1.out _ _ _ o5.out.rd (HI.out.l.later (yc.trans (h5.mono yc.size)))).mono ?_
      rintro e v6 ⟨⟨p6, c6, rfl⟩, hb6⟩
      have h6 := below_trans h5 hb6
      have o6 := Lib.hid (own_later o5.out hb6)
      dsimp only
      refine hK.out _ _ ?_ (fun hHeld => ?_)
      · exact h6
      clear hK K
      try simp only [Act.put, List.setIfInBounds_toArray, List.set_cons_zero, List.set_cons_succ]
      refine wpAnyH_take (i := 45) (oi := { dst := some 98, op := Op.call { callee := Callee.builtin Builtin.len, args := #[Operand.tmp 97], argTypes := #[30] }, type := 3, pos := "law.go:65", after := #[{ on := 44, ground := Ground.data }, { on := 38, ground := Ground.guard }], guard := some (38, true) }) (v := ?_) rfl (by kernel_rfl) (by kernel_rfl) (by kernel_rfl) (fun _ _ _ h => h) (Or.inl ⟨by rfl, ?_⟩) (by assumption) ?_
      rotate_left
      · (intro w' hSw; go_simp; try with_reducible rfl)
      try simp only [Act.put, List.setIfInBounds_toArray, List.set_cons_zero, List.set_cons_succ]
      refine wpAnyH_take (i := 46) (oi := { dst := some 99, op := Op.binOp BinOp.eql 3 (Operand.tmp 98) (Operand.const (Value.int IntKind.i64 1)) 3, type := 4, pos := "law.go:65", after := #[{ on := 45, ground := Ground.data }, { on := 38, ground := Ground.guard }], guard := some (38, true) }) (v := ?_) rfl (by kernel_rfl) (by kernel_rfl) (by kernel_rfl) (fun _ _ _ h => h) (Or.inl ⟨by rfl, ?_⟩) (by assumption) ?_
      rotate_left
      · (intro w' hSw; go_simp; try with_reducible rfl)
      try simp only [Act.put, List.setIfInBounds_toArray, List.set_cons_zero, List.set_cons_succ]
      refine wpAnyH_take (i := 47) (oi := { dst := some 100, op := Op.pick (Operand.tmp 91) (Operand.tmp 99) (Operand.const (Value.bool false)), type := 4, pos := "law.go:65", after := #[{ on := 38, ground := Ground.data }, { on := 46, ground := Ground.data }], guard := none }) (v := ?_) rfl (by kernel_rfl) (by kernel_rfl) (by kernel_rfl) (fun _ _ _ h => h) (Or.inl ⟨by rfl, ?_⟩) (by assumption) ?_
      rotate_left
      · (intro w' hSw; go_simp; try with_reducible rfl)
      try simp only [Act.put, List.setIfInBounds_toArray, List.set_cons_zero, List.set_cons_succ]
      refine wpAnyH_take (i := 48) (oi := { dst := some 10, op := Op.assign (Operand.tmp 100), type := 4, pos := "law.go:65", after := #[{ on := 47, ground := Ground.data }, { on := 44, ground := Ground.chain }, { on := 0, ground := Ground.phase }, { on := 1, ground := Ground.phase }, { on := 2, ground := Ground.phase }, { on := 3, ground := Ground.phase }, { on := 4, ground := Ground.phase }, { on := 5, ground := Ground.phase }, { on := 6, ground := Ground.phase }, { on := 7, ground := Ground.phase }, { on := 8, ground := Ground.phase }, { on := 9, ground := Ground.phase }, { on := 10, ground := Ground.phase }, { on := 11, ground := Ground.phase }, { on := 12, ground := Ground.phase }, { on := 13, ground := Ground.phase }, { on := 14, ground := Ground.phase }, { on := 15, ground := Ground.phase }, { on := 16, ground := Ground.phase }, { on := 17, ground := Ground.phase }, { on := 18, ground := Ground.phase }, { on := 19, ground := Ground.phase }, { on := 20, ground := Ground.phase }, { on := 21, ground := Ground.phase }, { on := 22, ground := Ground.phase }, { on := 23, ground := Ground.phase }, { on := 24, ground := Ground.phase }, { on := 25, ground := Ground.phase }, { on := 26, ground := Ground.phase }, { on := 27, ground := Ground.phase }, { on := 28, ground := Ground.phase }, { on := 29, ground := Ground.phase }, { on := 30, ground := Ground.phase }, { on := 31, ground := Ground.phase }, { on := 32, ground := Ground.phase }, { on := 33, ground := Ground.phase }, { on := 34, ground := Ground.phase }, { on := 35, ground := Ground.phase }, { on := 36, ground := Ground.phase }, { on := 37, ground := Ground.phase }, { on := 38, ground := Ground.phase }, { on := 39, ground := Ground.phase }, { on := 40, ground := Ground.phase }, { on := 41, ground := Ground.phase }, { on := 42, ground := Ground.phase }, { on := 43, ground := Ground.phase }, { on := 44, ground := Ground.phase }, { on := 45, ground := Ground.phase }, { on := 46, ground := Ground.phase }, { on := 47, ground := Ground.phase }], guard := none }) (v := ?_) rfl (by kernel_rfl) (by kernel_rfl) (by kernel_rfl) (fun _ _ _ h => h) (Or.inl ⟨by rfl, ?_⟩) (by assumption) ?_
      rotate_left
      · (intro w' hSw; go_simp; try with_reducible rfl)
      try simp only [Act.put, List.setIfInBounds_toArray, List.set_cons_zero, List.set_cons_succ]
      refine wpAnyH_done (by kernel_rfl) ?_ _
      go_wp2_with fail
      go_ret
      exact ⟨rfl, yc.trans (h6.mono yc.size)⟩
theorem back_of (C : CodeIs) (p1 : Option Addr) (n1 c1 : Nat) (zs : List Int) (s : List Int) (hs : Sec s) (o : List Int) (ho : Sec o) (p2 : Option Addr) (n2 c2 : Nat) (xs : List (List Int)) (i : Int) (wi : (Lit.int .i64 i).wf = true) (w : World)
    (h1 : Rd w 1 (.slice p1 n1 c1) n1 (u8s zs)) (l1 : n1 ≤ maxLen) (b1 : Bytes zs) (h2 : Rd w 32 (.slice p2 n2 c2) n2 (cellsOf xs)) (l2 : n2 ≤ maxLen) (b2 : Secs xs) :
    Calls Try.prog 4 #[.slice p1 n1 c1, agg s, agg o, .slice p2 n2 c2, .int .i64 i] w fun e w' => e = .returned (.bool true) ∧ Below w.heap.size w w' := by
  have m1 : n1 ≤ 9223372036854775807 := l1
  have m2 : n2 ≤ 9223372036854775807 := l2
  by_cases t : 500 < n1 ∨ 40 < n2
  · have t' : 500 < n1 ∨ (n1 ≤ 500 ∧ 40 < n2) := by omega
    have HK := Lib.hid C.knows
    have y0 : Below w.heap.size w ((w.alloc (.cells (u8s s).toArray 34)).alloc (.cells (u8s o).toArray 34)) := below_alloc (below_alloc (Below.refl _ _) _) _
    clear t h1 h2 l1 l2 C
    rcases t' with t | ⟨t1, t⟩
    · have e1 : decide (500 < (n1:Int)) = true := by simp; omega
      go_enter Try.func4, Try.ntmps4
      go_wp2_with (go_at_call 5; refine (HK.out _).mono ?_; rintro e w' ⟨rfl, hb⟩)
      go_ret
      exact ⟨rfl, below_trans y0 hb⟩
    · have e1 : decide (500 < (n1:Int)) = false := by simp; omega
      have e2 : decide (40 < (n2:Int)) = true := by simp; omega
      go_enter Try.func4, Try.ntmps4
      go_wp2_with (go_at_call 5; refine (HK.out _).mono ?_; rintro e w' ⟨rfl, hb⟩)
      go_ret
      exact ⟨rfl, below_trans y0 hb⟩
  · exact back_in C p1 n1 c1 zs s o p2 n2 c2 xs i w ⟨h1, b1, by omega, hs, ho, h2, b2, by omega, wi⟩
end Go.Proofs.Ytbahllmbfmdabaa.sec
