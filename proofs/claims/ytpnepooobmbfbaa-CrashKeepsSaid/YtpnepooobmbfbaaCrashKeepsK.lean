/- What CrashKeeps wants, part 11. -/
import Derived.Test.YtpnepooobmbfbaaCrashKeepsJ
import Derived.Laws.CopyOwn
import Derived.Deep.RegionLaw
import Derived.Lib.LazyBuf
/- What the code's small functions of layer 4 give. -/
namespace Go.Proofs.Ytpnepooobmbfbaa.sec
set_option maxRecDepth 100000
open Go.ChangeShapes Go.WideShapes Go.ChangeAt Go.RowKit
open Go.Proofs.Ytpnepooobmbfbaa.rows
set_option linter.unusedVariables false

def fits (i k : Int) : Prop := 0 ≤ i ∧ 0 ≤ k ∧ i + k ≤ 32
instance (i k : Int) : Decidable (fits i k) := by unfold fits; infer_instance
theorem lit_zero : (#[Value.int IntKind.u8 0, Value.int IntKind.u8 0, Value.int IntKind.u8 0, Value.int IntKind.u8 0, Value.int IntKind.u8 0, Value.int IntKind.u8 0, Value.int IntKind.u8 0, Value.int IntKind.u8 0, Value.int IntKind.u8 0, Value.int IntKind.u8 0, Value.int IntKind.u8 0, Value.int IntKind.u8 0, Value.int IntKind.u8 0, Value.int IntKind.u8 0, Value.int IntKind.u8 0, Value.int IntKind.u8 0, Value.int IntKind.u8 0, Value.int IntKind.u8 0, Value.int IntKind.u8 0, Value.int IntKind.u8 0, Value.int IntKind.u8 0, Value.int IntKind.u8 0, Value.int IntKind.u8 0, Value.int IntKind.u8 0, Value.int IntKind.u8 0, Value.int IntKind.u8 0, Value.int IntKind.u8 0, Value.int IntKind.u8 0, Value.int IntKind.u8 0, Value.int IntKind.u8 0, Value.int IntKind.u8 0, Value.int IntKind.u8 0] : Array Value) = (u8s zero32).toArray := by kernel_rfl
theorem eqIn_zero (w : World) {s : List Int} (hs : Sec s) : (Op.equalIn 10000 62 (.agg (u8s s).toArray) (.agg #[Value.int IntKind.u8 0, Value.int IntKind.u8 0, Value.int IntKind.u8 0, Value.int IntKind.u8 0, Value.int IntKind.u8 0, Value.int IntKind.u8 0, Value.int IntKind.u8 0, Value.int IntKind.u8 0, Value.int IntKind.u8 0, Value.int IntKind.u8 0, Value.int IntKind.u8 0, Value.int IntKind.u8 0, Value.int IntKind.u8 0, Value.int IntKind.u8 0, Value.int IntKind.u8 0, Value.int IntKind.u8 0, Value.int IntKind.u8 0, Value.int IntKind.u8 0, Value.int IntKind.u8 0, Value.int IntKind.u8 0, Value.int IntKind.u8 0, Value.int IntKind.u8 0, Value.int IntKind.u8 0, Value.int IntKind.u8 0, Value.int IntKind.u8 0, Value.int IntKind.u8 0, Value.int IntKind.u8 0, Value.int IntKind.u8 0, Value.int IntKind.u8 0, Value.int IntKind.u8 0, Value.int IntKind.u8 0, Value.int IntKind.u8 0])).run Try.prog w = .ok (decide (s = zero32)) w := by
  rw [lit_zero]
  exact eqIn_sec w hs sec_zero
theorem splice_u8s (L : List Int) (off : Nat) (cs : List Int) : splice (u8s L) off (u8s cs) = u8s (splice L off cs) := by
  simp [splice, u8s]
theorem at_other {w : World} {g k : Nat} {s : List Int} {cs : Array Value} (h : At w k s) (hk : k ≠ g) : At (w.setRow g cs) k s := by
  unfold At at *
  rw [setRow_other w g k cs hk]
  exact h
/-- a whole sector into a block that holds one -/
theorem store_at {ops : Array Oper} {rest : List Oper} {o : Oper} {a : Act} {w : World} {Q : Exit → Act → World → Prop} (hgd : o.guard = none) (x y : Operand) (ho : o.op = .store 62 x y) (hd : o.dst = none)
    (g : Nat) (s old : List Int) (hx : a.eval x = .pointer (some ⟨g, 0, none⟩)) (hy : a.eval y = agg s) (hs : s.length = 32) (hold : old.length = 32) (hg : At w g old)
    (h : ∀ w', At w' g s → Below g w w' → (∀ k t, k ≠ g → At w k t → At w' k t) → wpList Try.prog ops Q rest a w') : wpList Try.prog ops Q (o :: rest) a w := by
  have hl : (u8s s).toArray.size = 32 := by simp [u8s, hs]
  refine wpList_store_row hgd 62 x y ho g (u8s s).toArray hx hy 62 _ hg (by rw [info_sec, hl]) (by simp [u8s, hs, hold]) (by simp only [List.all_toArray]; exact List.all_eq_true.2 (one_ints .u8 s)) ?_
  rw [hd]
  exact h _ (setRow_heap w g _ _ _ _ hg) ((Below.refl g w).trans ⟨rfl, rfl, rfl, by simp [World.setRow], fun k hk => setRow_other w g k _ (by omega)⟩) (fun k t hk ht => at_other ht hk)
theorem run_copy_at {w : World} (ty : TypeId) (g off dLen dCap : Nat) (ad : Addr) (sLen sCap : Nat) (old : List Int) (hg : At w g old) (cs : List Int) (hn : cs.length = Nat.min sLen dLen)
    (hsrc : ∀ j v, (u8s cs)[j]? = some v → w.cell? (ad.add j) = some v) (hfit : off + cs.length ≤ old.length) :
    (Builtin.copy_ #[118, 118] ty #[.slice (some ⟨g, off, none⟩) dLen dCap, .slice (some ad) sLen sCap]).run Try.prog w = .ok (goInt cs.length) (w.setRow g (u8s (splice old off cs)).toArray) := by
  have h := run_copy_row (P := Try.prog) w 118 118 ty 5 g off dLen dCap ad sLen sCap (u8s old).toArray 62 (u8s cs) Try.underlying118 (by kernel_rfl) hg (by simpa [u8s] using hn) hsrc (by simpa [u8s] using hfit) (one_ints .u8 cs)
  have hl : (u8s cs).length = cs.length := by simp [u8s]
  have e : (u8s old).toArray.toList.take off ++ u8s cs ++ (u8s old).toArray.toList.drop (off + (u8s cs).length) = u8s (splice old off cs) := by
    rw [← splice_u8s, List.append_assoc]; rfl
  rw [e, hl] at h
  exact h
/-- copy into a block that holds a sector, as one step of a region that draws its order -/
theorem step_copy_at {ops : Array Oper} {o : Oper} {a : Act} {w : World} {K : Act → World → Prop} {Q : Exit → Act → World → Prop} {E : Prop} (hgd : o.guard = none) (d s : Operand)
    (ho : o.op = .call { callee := .builtin .copy, args := #[d, s], argTypes := #[118, 118] }) (g off dLen dCap : Nat) (ad : Addr) (sLen sCap : Nat)
    (hd : a.eval d = .slice (some ⟨g, off, none⟩) dLen dCap) (hs : a.eval s = .slice (some ad) sLen sCap) (old : List Int) (hg : At w g old) (cs : List Int) (hn : cs.length = Nat.min sLen dLen)
    (hsrc : ∀ j v, (u8s cs)[j]? = some v → w.cell? (ad.add j) = some v) (hfit : off + cs.length ≤ old.length)
    (h : ∀ w', At w' g (splice old off cs) → Below g w w' → (∀ k t, k ≠ g → At w k t → At w' k t) → K (a.put o.dst (goInt cs.length)) w') :
    if Region.wanted o (yielded ops a.tmps) = true then Oper.wp Try.prog o a w K Q else E := by
  have hw : Region.wanted o (yielded ops a.tmps) = true := by simp [Region.wanted, hgd]
  rw [if_pos hw]
  have hrun := run_copy_at o.type g off dLen dCap ad sLen sCap old hg cs hn hsrc hfit
  unfold Oper.wp
  simp [execOp, ho, resolve, invoke, builtin, hd, hs, hrun, Result.andThen]
  exact h _ (setRow_heap w g _ _ _ _ hg) ((Below.refl g w).trans ⟨rfl, rfl, rfl, by simp [World.setRow], fun k hk => setRow_other w g k _ (by omega)⟩) (fun k t hk ht => at_other ht hk)
/-- a function that returns a sector -/
theorem ret_sec {fn : Func} {p : Tmp} {R : Ending → World → Prop} {a : Act} {w : World} (h : fn.results = #[.cell p 62]) (g : Nat) (s : List Int) (hp : a.tmps.getD p undef = .pointer (some ⟨g, 0, none⟩)) (hs : s.length = 32) (hg : At w g s)
    (hd : a.defers = []) (hR : R (.returned (agg s)) w) : bodyPost Try.prog fn R .ret a w :=
  bodyPost_ret (results_cell_row h a.tmps w g _ _ _ _ hp hg Try.underlying62 rfl (by rw [info_sec]; simp [u8s, hs])) hd hR
/-- a function that returns a sector and one more value -/
theorem ret_sec2 {fn : Func} {p q : Tmp} {R : Ending → World → Prop} {a : Act} {w : World} (h : fn.results = #[.cell p 62, .tmp q]) (g : Nat) (s : List Int) (v : Value) (hp : a.tmps.getD p undef = .pointer (some ⟨g, 0, none⟩)) (hq : a.tmps.getD q undef = v) (hs : s.length = 32) (hg : At w g s)
    (hd : a.defers = []) (hR : R (.returned (.tuple #[agg s, v])) w) : bodyPost Try.prog fn R .ret a w := by
  refine bodyPost_ret (v := .tuple #[agg s, v]) ?_ hd hR
  have hp' : a.tmps[p]?.getD undef = .pointer (some ⟨g, 0, none⟩) := by simpa using hp
  have hq' : a.tmps[q]?.getD undef = v := by simpa using hq
  have hl := run_loadVar_row (P := Try.prog) w g _ 62 _ _ _ hg Try.underlying62 rfl (by rw [info_sec]; simp [u8s, hs])
  simp [results, h, hp', hq', asAddr, hl]
theorem torn_is : TornIs 45 := by
  intro s o w hs ho
  have HS := Lib.hid hs
  have HO := Lib.hid ho
  obtain ⟨w0, hw0⟩ : ∃ w0, w0 = (((w.alloc (.cells (u8s s).toArray 62)).alloc (.cells (u8s o).toArray 62)).alloc (.cells (u8s zero32).toArray 62)) := ⟨_, rfl⟩
  have hb0 : Below w.heap.size w w0 := by rw [hw0]; exact below_alloc (below_alloc (below_alloc (Below.refl _ _) _) _) _
  have hs0 : At w0 w.heap.size s := by rw [hw0]; exact ((at_new w s).alloc _).alloc _
  have hs1 : At w0 (w.heap.size + 1) o := by
    rw [hw0]
    have := at_new (w.alloc (.cells (u8s s).toArray 62)) o
    exact At.alloc (by simpa using this) _
  have hs2 : At w0 (w.heap.size + 1 + 1) zero32 := by
    rw [hw0]
    have := at_new ((w.alloc (.cells (u8s s).toArray 62)).alloc (.cells (u8s o).toArray 62)) zero32
    simpa using this
  have A0 := Lib.hid hs0
  have A1 := Lib.hid hs1
  have A2 := Lib.hid hs2
  have HL : Hid ((o.take 16).length = Nat.min 16 32) := Lib.hid (by simp [ho.1])
  have HT : Hid (splice s 0 (o.take 16) = o.take 16 ++ s.drop 16) := Lib.hid (by simp [splice, ho.1])
  have HN : Hid (∀ j v, (u8s (o.take 16))[j]? = some v → w0.drew.cell? ((⟨w.heap.size + 1, 0, none⟩ : Addr).add j) = some v) := Lib.hid (by
    intro j v hj
    rw [Addr.add_mid]
    refine hs1.range j v ?_
    simp only [u8s, List.getElem?_map, List.getElem?_take] at hj ⊢
    by_cases h16 : j < 16
    · simpa [h16] using hj
    · simp [h16] at hj)
  clear hs ho hs0 hs1 hs2
  go_enter Try.func45, Try.ntmps45
  go_wp2_with fail
  rw [lit_zero, ← hw0]
  clear hw0
  go_region_law (refine step_copy_at rfl _ _ rfl w.heap.size 0 32 32 ⟨w.heap.size + 1, 0, none⟩ 16 32 rfl rfl s A0.out (o.take 16) HL.out HN.out (by rw [HL.out, HS.out.1]; decide) ?_; intro w1 hA hB hK; have A10 := Lib.hid hA; have A12 := Lib.hid (hK (w.heap.size + 1 + 1) zero32 (by omega) A2.out); clear hA hK)
  go_wp2_with (first | (refine load_at rfl _ rfl w.heap.size rfl _ (by rw [HT.out]; simp [HS.out.1, HO.out.1]) A10.out ?_) | (refine store_at rfl _ _ rfl rfl (w.heap.size + 1 + 1) _ zero32 rfl rfl (by rw [HT.out]; simp [HS.out.1, HO.out.1]) (by decide) A12.out ?_; intro w2 hA hB2 _; have A22 := Lib.hid hA; clear hA))
  refine ret_sec rfl (w.heap.size + 1 + 1) _ rfl (by rw [HT.out]; simp [HS.out.1, HO.out.1]) A22.out rfl ⟨by rw [HT.out], ?_⟩
  exact ((hb0.drew).trans hB).trans (hB2.mono (by omega))
end Go.Proofs.Ytpnepooobmbfbaa.sec
