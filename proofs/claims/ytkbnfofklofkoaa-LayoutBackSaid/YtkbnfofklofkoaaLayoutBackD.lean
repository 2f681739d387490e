/- What LayoutBack wants, part 4. -/
import Derived.Test.YtkbnfofklofkoaaLayoutBackC
import Derived.Laws.CopyOwn
import Derived.Deep.RegionLaw
import Derived.Lib.LazyBuf
/- What the code's small functions of layer 4 give. -/
namespace Go.Proofs.Ytkbnfofklofkoaa.sec
set_option maxRecDepth 100000
open Go.ChangeShapes Go.WideShapes Go.ChangeAt Go.RowKit
open Go.Proofs.Ytkbnfofklofkoaa.rows
set_option linter.unusedVariables false

def fits (i k : Int) : Prop := 0 ≤ i ∧ 0 ≤ k ∧ i + k ≤ 32
instance (i k : Int) : Decidable (fits i k) := by unfold fits; infer_instance
theorem within_any (i k : Int) (w : World) (hi : (Lit.int .i64 i).wf = true) (hk : (Lit.int .i64 k).wf = true) :
    Calls Try.prog 38 #[.int .i64 i, .int .i64 k] w fun e w' => e = .returned (.bool (decide (fits i k))) ∧ w = w' := by
  have wi := wf_i64 hi
  have wk := wf_i64 hk
  by_cases h1 : 0 ≤ i
  · by_cases h2 : 0 ≤ k
    · by_cases h3 : i ≤ 32 - k
      · have e : decide (fits i k) = true := decide_eq_true ⟨h1, h2, by omega⟩
        rw [e]
        have d1 : decide (0 ≤ i) = true := decide_eq_true h1
        have d2 : decide (0 ≤ k) = true := decide_eq_true h2
        have d3 : decide (i ≤ 32 - k) = true := decide_eq_true h3
        have s3 : -9223372036854775808 ≤ 32 - k := by omega
        have s4 : 32 - k ≤ 9223372036854775807 := by omega
        go_enter Try.func38, Try.ntmps38
        go_wp2
        go_ret
        exact ⟨rfl, rfl⟩
      · have e : decide (fits i k) = false := decide_eq_false fun h => h3 (by have := h.2.2; omega)
        rw [e]
        have d1 : decide (0 ≤ i) = true := decide_eq_true h1
        have d2 : decide (0 ≤ k) = true := decide_eq_true h2
        have d3 : decide (i ≤ 32 - k) = false := decide_eq_false h3
        have s3 : -9223372036854775808 ≤ 32 - k := by omega
        have s4 : 32 - k ≤ 9223372036854775807 := by omega
        go_enter Try.func38, Try.ntmps38
        go_wp2
        go_ret
        exact ⟨rfl, rfl⟩
    · have e : decide (fits i k) = false := decide_eq_false fun h => h2 h.2.1
      rw [e]
      have d1 : decide (0 ≤ i) = true := decide_eq_true h1
      have d2 : decide (0 ≤ k) = false := decide_eq_false h2
      go_enter Try.func38, Try.ntmps38
      go_wp2
      go_ret
      exact ⟨rfl, rfl⟩
  · have e : decide (fits i k) = false := decide_eq_false fun h => h1 h.1
    rw [e]
    have d1 : decide (0 ≤ i) = false := decide_eq_false h1
    go_enter Try.func38, Try.ntmps38
    go_wp2
    go_ret
    exact ⟨rfl, rfl⟩

theorem lit_zero : (#[Value.int IntKind.u8 0, Value.int IntKind.u8 0, Value.int IntKind.u8 0, Value.int IntKind.u8 0, Value.int IntKind.u8 0, Value.int IntKind.u8 0, Value.int IntKind.u8 0, Value.int IntKind.u8 0, Value.int IntKind.u8 0, Value.int IntKind.u8 0, Value.int IntKind.u8 0, Value.int IntKind.u8 0, Value.int IntKind.u8 0, Value.int IntKind.u8 0, Value.int IntKind.u8 0, Value.int IntKind.u8 0, Value.int IntKind.u8 0, Value.int IntKind.u8 0, Value.int IntKind.u8 0, Value.int IntKind.u8 0, Value.int IntKind.u8 0, Value.int IntKind.u8 0, Value.int IntKind.u8 0, Value.int IntKind.u8 0, Value.int IntKind.u8 0, Value.int IntKind.u8 0, Value.int IntKind.u8 0, Value.int IntKind.u8 0, Value.int IntKind.u8 0, Value.int IntKind.u8 0, Value.int IntKind.u8 0, Value.int IntKind.u8 0] : Array Value) = (u8s zero32).toArray := by kernel_rfl
theorem splice_u8s (L : List Int) (off : Nat) (cs : List Int) : splice (u8s L) off (u8s cs) = u8s (splice L off cs) := by
  simp [splice, u8s]
theorem at_other {w : World} {g k : Nat} {s : List Int} {cs : Array Value} (h : At w k s) (hk : k ≠ g) : At (w.setRow g cs) k s := by
  unfold At at *
  rw [setRow_other w g k cs hk]
  exact h
/-- a whole sector into a block that holds one -/
theorem store_at {ops : Array Oper} {rest : List Oper} {o : Oper} {a : Act} {w : World} {Q : Exit → Act → World → Prop} (hgd : o.guard = none) (x y : Operand) (ho : o.op = .store 26 x y) (hd : o.dst = none)
    (g : Nat) (s old : List Int) (hx : a.eval x = .pointer (some ⟨g, 0, none⟩)) (hy : a.eval y = agg s) (hs : s.length = 32) (hold : old.length = 32) (hg : At w g old)
    (h : ∀ w', At w' g s → Below g w w' → (∀ k t, k ≠ g → At w k t → At w' k t) → wpList Try.prog ops Q rest a w') : wpList Try.prog ops Q (o :: rest) a w := by
  have hl : (u8s s).toArray.size = 32 := by simp [u8s, hs]
  refine wpList_store_row hgd 26 x y ho g (u8s s).toArray hx hy 26 _ hg (by rw [info_sec, hl]) (by simp [u8s, hs, hold]) (by simp only [List.all_toArray]; exact List.all_eq_true.2 (one_ints .u8 s)) ?_
  rw [hd]
  exact h _ (setRow_heap w g _ _ _ _ hg) ((Below.refl g w).trans ⟨rfl, rfl, rfl, by simp [World.setRow], fun k hk => setRow_other w g k _ (by omega)⟩) (fun k t hk ht => at_other ht hk)
theorem run_copy_at {w : World} (ty : TypeId) (g off dLen dCap : Nat) (ad : Addr) (sLen sCap : Nat) (old : List Int) (hg : At w g old) (cs : List Int) (hn : cs.length = Nat.min sLen dLen)
    (hsrc : ∀ j v, (u8s cs)[j]? = some v → w.cell? (ad.add j) = some v) (hfit : off + cs.length ≤ old.length) :
    (Builtin.copy_ #[50, 50] ty #[.slice (some ⟨g, off, none⟩) dLen dCap, .slice (some ad) sLen sCap]).run Try.prog w = .ok (goInt cs.length) (w.setRow g (u8s (splice old off cs)).toArray) := by
  have h := run_copy_row (P := Try.prog) w 50 50 ty 5 g off dLen dCap ad sLen sCap (u8s old).toArray 26 (u8s cs) Try.underlying50 (by kernel_rfl) hg (by simpa [u8s] using hn) hsrc (by simpa [u8s] using hfit) (one_ints .u8 cs)
  have hl : (u8s cs).length = cs.length := by simp [u8s]
  have e : (u8s old).toArray.toList.take off ++ u8s cs ++ (u8s old).toArray.toList.drop (off + (u8s cs).length) = u8s (splice old off cs) := by
    rw [← splice_u8s, List.append_assoc]; rfl
  rw [e, hl] at h
  exact h
/-- copy into a block that holds a sector, as one step of a region that draws its order -/
theorem step_copy_at {ops : Array Oper} {o : Oper} {a : Act} {w : World} {K : Act → World → Prop} {Q : Exit → Act → World → Prop} {E : Prop} (hgd : o.guard = none) (d s : Operand)
    (ho : o.op = .call { callee := .builtin .copy, args := #[d, s], argTypes := #[50, 50] }) (g off dLen dCap : Nat) (ad : Addr) (sLen sCap : Nat)
    (hd : a.eval d = .slice (some ⟨g, off, none⟩) dLen dCap) (hs : a.eval s = .slice (some ad) sLen sCap) (old : List Int) (hg : At w g old) (cs : List Int) (hn : cs.length = Nat.min sLen dLen)
    (hsrc : ∀ j v, (u8s cs)[j]? = some v → w.cell? (ad.add j) = some v) (hfit : off + cs.length ≤ old.length)
    (h : ∀ w', At w' g (splice old off cs) → Below g w w' → (∀ k t, k ≠ g → At w k t → At w' k t) → K (a.put o.dst (goInt cs.length)) w') :
    if Region.wanted o (yielded ops a.tmps) = true then Oper.wp Try.prog o a w K Q else E := by
  have hw : Region.wanted o (yielded ops a.tmps) = true := by simp [Region.wanted, hgd]
  rw [if_pos hw]
  have hrun := run_copy_at o.type g off dLen dCap ad sLen sCap old hg cs hn hsrc hfit
  unfold Oper.wp
  simp [execOp, ho, resolve, invoke, builtin, hd, hs, hrun, Result.andThen]
  exact h _ (setRow_heap w g _ _ _ _ hg) ((Below.refl g w).trans ⟨rfl, rfl, rfl, by simp [World.setRow], fun k hk => setRow_other w g k _ (by omega)⟩) (fun k t hk ht => at_other ht hk)
/-- a function that returns a sector -/
theorem ret_sec {fn : Func} {p : Tmp} {R : Ending → World → Prop} {a : Act} {w : World} (h : fn.results = #[.cell p 26]) (g : Nat) (s : List Int) (hp : a.tmps.getD p undef = .pointer (some ⟨g, 0, none⟩)) (hs : s.length = 32) (hg : At w g s)
    (hd : a.defers = []) (hR : R (.returned (agg s)) w) : bodyPost Try.prog fn R .ret a w :=
  bodyPost_ret (results_cell_row h a.tmps w g _ _ _ _ hp hg Try.underlying26 rfl (by rw [info_sec]; simp [u8s, hs])) hd hR
/-- a function that returns a sector and one more value -/
theorem ret_sec2 {fn : Func} {p q : Tmp} {R : Ending → World → Prop} {a : Act} {w : World} (h : fn.results = #[.cell p 26, .tmp q]) (g : Nat) (s : List Int) (v : Value) (hp : a.tmps.getD p undef = .pointer (some ⟨g, 0, none⟩)) (hq : a.tmps.getD q undef = v) (hs : s.length = 32) (hg : At w g s)
    (hd : a.defers = []) (hR : R (.returned (.tuple #[agg s, v])) w) : bodyPost Try.prog fn R .ret a w := by
  refine bodyPost_ret (v := .tuple #[agg s, v]) ?_ hd hR
  have hp' : a.tmps[p]?.getD undef = .pointer (some ⟨g, 0, none⟩) := by simpa using hp
  have hq' : a.tmps[q]?.getD undef = v := by simpa using hq
  have hl := run_loadVar_row (P := Try.prog) w g _ 26 _ _ _ hg Try.underlying26 rfl (by rw [info_sec]; simp [u8s, hs])
  simp [results, h, hp', hq', asAddr, hl]
theorem torn_is : TornIs 27 := by
  intro s o w hs ho
  have HS := Lib.hid hs
  have HO := Lib.hid ho
  obtain ⟨w0, hw0⟩ : ∃ w0, w0 = (((w.alloc (.cells (u8s s).toArray 26)).alloc (.cells (u8s o).toArray 26)).alloc (.cells (u8s zero32).toArray 26)) := ⟨_, rfl⟩
  have hb0 : Below w.heap.size w w0 := by rw [hw0]; exact below_alloc (below_alloc (below_alloc (Below.refl _ _) _) _) _
  have hs0 : At w0 w.heap.size s := by rw [hw0]; exact ((at_new w s).alloc _).alloc _
  have hs1 : At w0 (w.heap.size + 1) o := by
    rw [hw0]
    have := at_new (w.alloc (.cells (u8s s).toArray 26)) o
    exact At.alloc (by simpa using this) _
  have hs2 : At w0 (w.heap.size + 1 + 1) zero32 := by
    rw [hw0]
    have := at_new ((w.alloc (.cells (u8s s).toArray 26)).alloc (.cells (u8s o).toArray 26)) zero32
    simpa using this
  have A0 := Lib.hid hs0
  have A1 := Lib.hid hs1
  have A2 := Lib.hid hs2
  have HL : Hid ((o.take 16).length = Nat.min 16 32) := Lib.hid (by simp [ho.1])
  have HT : Hid (splice s 0 (o.take 16) = o.take 16 ++ s.drop 16) := Lib.hid (by simp [splice, ho.1])
  have HN : Hid (∀ j v, (u8s (o.take 16))[j]? = some v → w0.drew.cell? ((⟨w.heap.size + 1, 0, none⟩ : Addr).add j) = some v) := Lib.hid (by
    intro j v hj
    rw [Addr.add_mid]
    refine hs1.range j v ?_
    simp only [u8s, List.getElem?_map, List.getElem?_take] at hj ⊢
    by_cases h16 : j < 16
    · simpa [h16] using hj
    · simp [h16] at hj)
  clear hs ho hs0 hs1 hs2
  go_enter Try.func27, Try.ntmps27
  go_wp2_with fail
  rw [lit_zero, ← hw0]
  clear hw0
  go_region_law (refine step_copy_at rfl _ _ rfl w.heap.size 0 32 32 ⟨w.heap.size + 1, 0, none⟩ 16 32 rfl rfl s A0.out (o.take 16) HL.out HN.out (by rw [HL.out, HS.out.1]; decide) ?_; intro w1 hA hB hK; have A10 := Lib.hid hA; have A12 := Lib.hid (hK (w.heap.size + 1 + 1) zero32 (by omega) A2.out); clear hA hK)
  go_wp2_with (first | (refine load_at rfl _ rfl w.heap.size rfl _ (by rw [HT.out]; simp [HS.out.1, HO.out.1]) A10.out ?_) | (refine store_at rfl _ _ rfl rfl (w.heap.size + 1 + 1) _ zero32 rfl rfl (by rw [HT.out]; simp [HS.out.1, HO.out.1]) (by decide) A12.out ?_; intro w2 hA hB2 _; have A22 := Lib.hid hA; clear hA))
  refine ret_sec rfl (w.heap.size + 1 + 1) _ rfl (by rw [HT.out]; simp [HS.out.1, HO.out.1]) A22.out rfl ⟨by rw [HT.out], ?_⟩
  exact ((hb0.drew).trans hB).trans (hB2.mono (by omega))
theorem clone_some (a : Addr) (n c : Nat) (bs : List Int) (w : World) (hr : Rd w 1 (.slice (some a) n c) n (u8s bs)) (hn : n ≤ 1000) :
    Calls Try.prog 39 #[.slice (some a) n c] w fun e w' => ∃ p' c', e = .returned (.slice p' n c') ∧ Rd w' 1 (.slice p' n c') n (u8s bs) ∧ Below w.heap.size w w' := by
  have HR := Lib.hid hr
  have hq : ∀ w', (binOp .eql 50 (.slice (some a) n c) (.slice none 0 0)).run Try.prog w' = .ok (.bool false) w' := fun w' => Go.run_eql_slice_nil w' _ _ _ _ _ Try.underlying50
  clear hr
  go_enter Try.func39, Try.ntmps39
  go_wp2_with (at_builtin; refine ap_rd elem_bytes rfl (.tmp 5) (.tmp 6) rfl w.heap.size _ 0 [] rfl (own_made w 5 1 (Nat.le_refl _)) _ n (u8s bs) rfl (HR.out.later (below_alloc (Below.refl _ _) _)) (one_ints .u8 bs) (by omega) (by simp) ?_; intro pa ca wa ho hb; have HO2 := Lib.hid ho; clear ho)
  go_ret
  exact ⟨pa, ca, rfl, by have := HO2.out.rd; simpa using this, (below_alloc (Below.refl _ _) _).trans hb⟩
end Go.Proofs.Ytkbnfofklofkoaa.sec
