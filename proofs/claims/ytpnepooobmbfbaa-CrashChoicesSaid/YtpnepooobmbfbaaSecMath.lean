/- Sectors: what can be read of a slice of them, and when two are the same. -/
import Derived.Test.YtpnepooobmbfbaaCells
import Derived.Stop.BytesEq
namespace Go.Proofs.Ytpnepooobmbfbaa.sec
set_option maxRecDepth 100000
open Go.ChangeShapes Go.WideShapes Go.ChangeAt Go.RowKit
open Go.Proofs.Ytpnepooobmbfbaa.rows
set_option linter.unusedVariables false

def u8s (xs : List Int) : List Value := xs.map (Value.int .u8)
def i64s (xs : List Int) : List Value := xs.map (Value.int .i64)
/-- the bytes of one sector -/
def Sec (s : List Int) : Prop := s.length = 32 ∧ ∀ x ∈ s, 0 ≤ x ∧ x < 256
def Secs (ss : List (List Int)) : Prop := ∀ s ∈ ss, Sec s
def cellsOf (ss : List (List Int)) : List Value := u8s ss.flatten
theorem cellsOf_len {ss : List (List Int)} (h : Secs ss) : (cellsOf ss).length = ss.length * 32 := by
  unfold cellsOf u8s
  rw [List.length_map]
  induction ss with
  | nil => rfl
  | cons s t ih =>
    have := (h s (List.mem_cons_self ..)).1
    have := ih fun x hx => h x (List.mem_cons_of_mem _ hx)
    simp only [List.flatten_cons, List.length_append, List.length_cons]
    omega
/-- a sector's cells among all -/
theorem cellsOf_at {ss : List (List Int)} (h : Secs ss) {j : Nat} (hj : j < ss.length) : ∀ i u, (u8s ss[j])[i]? = some u → (cellsOf ss)[j * 32 + i]? = some u := by
  induction ss generalizing j with
  | nil => simp at hj
  | cons s t ih =>
    have hs := (h s (List.mem_cons_self ..)).1
    intro i u hi
    have e : cellsOf (s :: t) = u8s s ++ cellsOf t := by simp [cellsOf, u8s]
    have hl : (u8s s).length = 32 := by simp [u8s, hs]
    rw [e]
    cases j with
    | zero =>
      rw [Nat.zero_mul, Nat.zero_add]
      have hi2 : (u8s s)[i]? = some u := hi
      have hi' := (List.getElem?_eq_some_iff.1 hi2).1
      rw [List.getElem?_append_left hi']
      exact hi2
    | succ j =>
      rw [List.getElem?_append_right (by omega), hl, show (j + 1) * 32 + i - 32 = j * 32 + i by omega]
      exact ih (fun x hx => h x (List.mem_cons_of_mem _ hx)) (by simpa using hj) i u (by simpa using hi)
theorem bytes_back {s : List Int} (h : ∀ x ∈ s, 0 ≤ x ∧ x < 256) : u8s s = ((s.map fun x => UInt8.ofNat x.toNat).map Extern.Stop.cell) := by
  unfold u8s
  rw [List.map_map]
  apply List.map_congr_left
  intro x hx
  have := h x hx
  simp only [Function.comp_def, Extern.Stop.cell]
  congr 1
  simp
  omega
theorem bytes_inj {a b : List Int} (ha : ∀ x ∈ a, 0 ≤ x ∧ x < 256) (hb : ∀ x ∈ b, 0 ≤ x ∧ x < 256) (h : (a.map fun n => UInt8.ofNat n.toNat) = b.map fun n => UInt8.ofNat n.toNat) : a = b := by
  have hl : a.length = b.length := by simpa using congrArg List.length h
  apply List.ext_getElem hl
  intro i hi1 hi2
  have h2 : UInt8.ofNat a[i].toNat = UInt8.ofNat b[i].toNat := by
    have := congrArg (fun l : List UInt8 => l[i]?) h
    simpa [hi1, hi2] using this
  have h3 := ha _ (List.getElem_mem hi1)
  have h4 := hb _ (List.getElem_mem hi2)
  have h5 := congrArg UInt8.toNat h2
  simp only [UInt8.toNat_ofNat'] at h5
  omega
theorem elem_ints : Elem 36 3 1 8 (.int .i64 0) := ⟨Try.underlying36, by kernel_rfl, by decide, by decide, by decide⟩
theorem elem_secs : Elem 22 62 32 32 (.agg (u8s (List.replicate 32 0)).toArray) := ⟨Try.underlying22, by kernel_rfl, by decide, by decide, by decide⟩
theorem size8 (w : World) : (sizeOf 5).run Try.prog w = .ok 1 w := by kernel_rfl
/-- == of two sectors -/
theorem eqIn_sec (w : World) {a b : List Int} (ha : Sec a) (hb : Sec b) : (Op.equalIn 10000 62 (.agg (u8s a).toArray) (.agg (u8s b).toArray)).run Try.prog w = .ok (decide (a = b)) w := by
  rw [bytes_back ha.2, bytes_back hb.2, run_equalIn_bytes w 9998 62 5 32 Try.underlying62 Try.underlying5 size8 _ _ (by simp [ha.1]) (by simp [hb.1])]
  congr 1
  rw [Bool.eq_iff_iff]
  simp only [beq_iff_eq, decide_eq_true_eq]
  exact ⟨fun h => bytes_inj ha.2 hb.2 h, fun h => by rw [h]⟩
theorem guard_sec : Try.prog.eqGuardType Try.prog.depth 62 = false := by kernel_rfl

theorem info_sec : (Try.prog.info? 62).map (·.size) = some 32 := by kernel_rfl
/-- a load of a sector, taken first in a region that draws its order -/
theorem ld_sec {ops : Array Oper} {S : World → Prop} {op : Oper} {a : Act} (hw : Region.wanted op (yielded ops a.tmps) = true) (x : Operand) (ho : op.op = .load 62 x)
    (b o : Nat) (hx : a.eval x = .pointer (some ⟨b, o, none⟩)) (s : List Int) (hs : s.length = 32) (hS : ∀ w, S w → w.rangeAt b o (u8s s)) : YieldsIf Try.prog ops S op (.agg (u8s s).toArray) a :=
  yieldsIf_load_mid hw _ x ho b o hx (u8s s) _ hS Try.underlying62 rfl (by rw [info_sec]; simp [u8s, hs])
theorem Rd.rangeLater {w w' : World} {b o : Nat} {cs : List Value} (h : w.rangeAt b o cs) (hb : b < w.heap.size) (k : Below w.heap.size w w') : w'.rangeAt b o cs := fun i u hi => by
  rw [k.cell (p := ⟨b, o + i, none⟩) hb]; exact h i u hi
def unl (xs ys : List (List Int)) (j : Nat) : List Int := ((List.range j).filter fun (i : Nat) => decide (xs[i]? ≠ ys[i]?)).map fun (i : Nat) => (i : Int)
theorem unl_len (xs ys : List (List Int)) (j : Nat) : (unl xs ys j).length ≤ j := by
  unfold unl
  rw [List.length_map]
  exact Nat.le_trans (List.length_filter_le ..) (by simp)
theorem unl_hit {xs ys : List (List Int)} {j : Nat} (h : xs[j]? ≠ ys[j]?) : unl xs ys (j + 1) = unl xs ys j ++ [(j:Int)] := by
  unfold unl
  rw [List.range_succ, List.filter_append, List.map_append]
  simp [h]
theorem unl_miss {xs ys : List (List Int)} {j : Nat} (h : xs[j]? = ys[j]?) : unl xs ys (j + 1) = unl xs ys j := by
  unfold unl
  rw [List.range_succ, List.filter_append, List.map_append]
  simp [h]
end Go.Proofs.Ytpnepooobmbfbaa.sec
