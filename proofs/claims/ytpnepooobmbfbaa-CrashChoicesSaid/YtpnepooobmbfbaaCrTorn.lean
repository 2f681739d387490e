/- What the reference's Torn gives. -/
import Derived.Test.YtpnepooobmbfbaaDcSetMath
import Derived.Test.YtpnepooobmbfbaaDcSettle
import Derived.Test.YtpnepooobmbfbaaChoH
import Derived.Test.YtpnepooobmbfbaaSecCodeA
import Derived.Test.YtpnepooobmbfbaaSecArgB
import Derived.Test.YtpnepooobmbfbaaDskArgs
namespace Go.Proofs.Ytpnepooobmbfbaa.sec
set_option maxRecDepth 100000
open Go.ChangeShapes Go.WideShapes Go.ChangeAt Go.RowKit
open Go.Proofs.Ytpnepooobmbfbaa.rows
set_option linter.unusedVariables false
set_option linter.unusedSimpArgs false

def tornUpto (s o : List Int) (j : Nat) : List Int := o.take j ++ s.drop j
theorem tornUpto_len {s o : List Int} (hs : s.length = 32) (ho : o.length = 32) (j : Nat) (hj : j ≤ 32) : (tornUpto s o j).length = 32 := by simp [tornUpto, hs, ho]; omega
theorem tornUpto_set {s o : List Int} (hs : s.length = 32) (ho : o.length = 32) (j : Nat) (hj : j < 32) : (tornUpto s o j).set j (o.getD j 0) = tornUpto s o (j + 1) := by
  have h1 : (o.take j).length = j := by simp [ho]; omega
  have h2 : s.drop j = s[j] :: s.drop (j + 1) := List.drop_eq_getElem_cons (by omega)
  have h3 : o.take (j + 1) = o.take j ++ [o[j]] := List.take_succ_eq_append_getElem (by omega)
  rw [tornUpto, List.set_append_right _ _ (by omega), h1, Nat.sub_self, h2, List.set_cons_zero, tornUpto, h3, List.append_assoc, List.singleton_append]
  congr 2
  simp [List.getD, show j < o.length by omega]
theorem at_setCell {w : World} {g j : Nat} {s : List Int} (h : At w g s) (z : Int) : At (w.setCell ⟨g, j, none⟩ (.int .u8 z)) g (s.set j z) := by
  have := Go.Proofs.Ytpnepooobmbfbaa.dsk.setCell_heap (i := j) h (.int .u8 z)
  rw [At, this]
  simp [u8s, List.map_set]
theorem at_setCell_other {w : World} {g k j : Nat} {s : List Int} (h : At w k s) (hk : k ≠ g) (v : Value) : At (w.setCell ⟨g, j, none⟩ v) k s := (Below.heap_setCell _ _ _ _ hk).trans h
set_option maxRecDepth 100000 in
theorem rtorn_is : TornIs 47 := by
  intro s o w hs ho
  have HS := Lib.hid hs
  have HO := Lib.hid ho
  obtain ⟨w0, hw0⟩ : ∃ w0, w0 = (((w.alloc (.cells (u8s s).toArray 62)).alloc (.cells (u8s o).toArray 62)).alloc (.cells (u8s zero32).toArray 62)) := ⟨_, rfl⟩
  have hb0 : Below w.heap.size w w0 := by rw [hw0]; exact below_alloc (below_alloc (below_alloc (Below.refl _ _) _) _) _
  have hs0 : At w0 w.heap.size s := by rw [hw0]; exact ((at_new w s).alloc _).alloc _
  have hs1 : At w0 (w.heap.size + 1) o := by
    rw [hw0]
    have := at_new (w.alloc (.cells (u8s s).toArray 62)) o
    exact At.alloc (by simpa using this) _
  have hs2 : At w0 (w.heap.size + 1 + 1) zero32 := by
    rw [hw0]
    have := at_new ((w.alloc (.cells (u8s s).toArray 62)).alloc (.cells (u8s o).toArray 62)) zero32
    simpa using this
  have A0 : Hid (At w0 w.heap.size (tornUpto s o 0)) := Lib.hid (by simpa [tornUpto] using hs0)
  have A1 := Lib.hid hs1
  have A2 := Lib.hid hs2
  clear hs ho hs0 hs1 hs2
  go_enter Try.func47, Try.ntmps47
  go_wp2_with fail
  rw [lit_zero, ← hw0]
  clear hw0
  go_loopw [5] (fun iv wr => ∃ (j : Nat), j ≤ 16 ∧ iv = .int .i64 (j : Int) ∧ Hid (At wr w.heap.size (tornUpto s o j)) ∧ Hid (At wr (w.heap.size + 1) o) ∧ Hid (At wr (w.heap.size + 1 + 1) zero32) ∧ Below w.heap.size w wr) (fun iv _ => 16 - (intOf iv).toNat)
  case atStart => exact ⟨0, by omega, rfl, A0, A1, A2, hb0⟩
  case round =>
    clear A0 A1 A2
    obtain ⟨j, hj, rfl, A0, A1, A2, hbr⟩ := hrel
    by_cases ha : j < 16
    · have ha1 : (j:Int) < 16 := by omega
      have ha2 : (j:Int) < 32 := by omega
      have HTL := Lib.hid (tornUpto_len HS.out.1 HO.out.1 j (by omega))
      have HTS := Lib.hid (tornUpto_set HS.out.1 HO.out.1 j (by omega))
      have co : wr.cell? ⟨w.heap.size + 1, j, none⟩ = some (.int .u8 (o.getD j 0)) := by
        have := A1.out.cell (i := j) (by rw [HO.out.1]; omega)
        rw [this]; simp [List.getD, show j < o.length by rw [HO.out.1]; omega]
      have cs := A0.out.cell (i := j) (by rw [HTL.out]; omega)
      have cf : wr.frozen? ⟨w.heap.size, j, none⟩ = false := Go.Proofs.Ytpnepooobmbfbaa.dsk.frozen_row A0.out j
      go_wp2_with fail
      go_roundw
      case rel => exact ⟨j + 1, by omega, by go_num, Lib.hid (by rw [← HTS.out]; exact at_setCell A0.out _), Lib.hid (at_setCell_other A1.out (by omega) _), Lib.hid (at_setCell_other A2.out (by omega) _), hbr.setCell (p := ⟨w.heap.size, j, none⟩) (Nat.le_refl _) _⟩
      case measure => simp [intOf]; omega
    · obtain rfl : j = 16 := by omega
      have HTL := Lib.hid (tornUpto_len HS.out.1 HO.out.1 16 (by omega))
      go_wp2_with (first | (refine load_at rfl _ rfl w.heap.size rfl _ HTL.out A0.out ?_) | (refine store_at rfl _ _ rfl rfl (w.heap.size + 1 + 1) _ zero32 rfl rfl HTL.out (by decide) A2.out ?_; intro w2 hA hB2 _; have A22 := Lib.hid hA; clear hA))
      refine ret_sec rfl (w.heap.size + 1 + 1) _ rfl HTL.out A22.out rfl ⟨rfl, ?_⟩
      exact hbr.trans (hB2.mono (by omega))
end Go.Proofs.Ytpnepooobmbfbaa.sec
