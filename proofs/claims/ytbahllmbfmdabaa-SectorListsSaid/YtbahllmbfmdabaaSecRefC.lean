/- What the reference's Spread gives. -/
import Derived.Test.YtbahllmbfmdabaaSecRefB
namespace Go.Proofs.Ytbahllmbfmdabaa.sec
open Go.ChangeShapes Go.WideShapes Go.ChangeAt Go.RowKit
open Go.Proofs.Ytbahllmbfmdabaa.rows
set_option linter.unusedVariables false

/-- the first j bytes in K sectors -/
def part (zs : List Int) (j K : Nat) : List Value := u8s (zs.take j ++ List.replicate (K * 32 - j) 0)
theorem part_len {zs : List Int} {j K : Nat} (h : j ≤ zs.length) (hK : j ≤ K * 32) : (part zs j K).length = K * 32 := by
  simp [part, u8s, List.length_take]; omega
theorem part_more (zs : List Int) (j K : Nat) (hK : j ≤ K * 32) : part zs j K ++ u8s (List.replicate 32 0) = part zs j (K + 1) := by
  unfold part u8s
  rw [← List.map_append, List.append_assoc, List.replicate_append_replicate, show K * 32 - j + 32 = (K + 1) * 32 - j by omega]
theorem part_set {zs : List Int} {j K : Nat} (h : j < zs.length) (hK : j < K * 32) : (part zs j K).set j (.int .u8 zs[j]) = part zs (j + 1) K := by
  unfold part u8s
  have hl : (List.map (Value.int .u8) (zs.take j)).length = j := by simp; omega
  rw [List.map_append, List.map_append, List.take_succ_eq_append_getElem h, List.map_append, List.append_assoc]
  have e : K * 32 - j = (K * 32 - (j + 1)) + 1 := by omega
  rw [e, List.replicate_succ, List.map_cons, List.set_append_right _ _ (by omega), hl, Nat.sub_self, List.set_cons_zero]
  rfl
theorem part_at {zs : List Int} {j K : Nat} (h : j ≤ zs.length) (hK : j < K * 32) : (part zs j K)[j]? = some (.int .u8 0) := by
  unfold part u8s
  have hl : (List.map (Value.int .u8) (zs.take j)).length = j := by simp; omega
  rw [List.map_append, List.getElem?_append_right (by omega), hl, Nat.sub_self]
  have e : K * 32 - j = (K * 32 - (j + 1)) + 1 := by omega
  rw [e, List.replicate_succ]
  rfl
theorem rd_zero (w : World) : Rd (w.alloc (.cells (u8s (List.replicate 32 0)).toArray 34)) 32 (.slice (some ⟨w.heap.size, 0, none⟩) 1 1) 1 (u8s (List.replicate 32 0)) :=
  rd_one w 34 32 (u8s (List.replicate 32 0)).toArray (by decide)
theorem spread_store {zs : List Int} {j K B : Nat} {p : Option Addr} {c : Nat} {w : World} (ho : Own w B 34 32 (.slice p K c) K (part zs j K)) (h : j < zs.length) (hK : j < K * 32) (hB : B ≤ w.heap.size) :
    ∃ g, p = some ⟨g, 0, none⟩ ∧ B ≤ g ∧ w.cell? ⟨g, j / 32 * 32 + j % 32, none⟩ = some (.int .u8 0) ∧ w.frozen? ⟨g, j / 32 * 32 + j % 32, none⟩ = false ∧
      Own (w.setCell ⟨g, j / 32 * 32 + j % 32, none⟩ (.int .u8 zs[j])) B 34 32 (.slice p K c) K (part zs (j + 1) K) ∧ Below B w (w.setCell ⟨g, j / 32 * 32 + j % 32, none⟩ (.int .u8 zs[j])) := by
  have ho' := ho
  rcases ho.2 with ⟨_, h2⟩ | ⟨g, cap, cur, h1, h2, h3, h4, h5, h6, h7⟩
  · omega
  · have e : j / 32 * 32 + j % 32 = j := by omega
    simp only [Value.slice.injEq] at h1
    obtain ⟨rfl, _, rfl⟩ := h1
    rw [e]
    refine ⟨g, rfl, h2, ?_, World.ownsRow.frozenAt ho' j, ?_, (Below.refl B w).setCell (p := ⟨g, j, none⟩) h2 _⟩
    · rw [World.ownsRow.cellAt ho' j (by omega), part_at (by omega) hK]
    · have := (World.ownsRow.stored ho' j (.int .u8 zs[j])).1
      rw [part_set h hK] at this
      exact this

set_option maxHeartbeats 1600000 in
theorem rspread_any (p : Option Addr) (n c : Nat) (zs : List Int) (w : World) (h1 : Rd w 1 (.slice p n c) n (u8s zs)) (l1 : n ≤ 1000) :
    Calls Try.prog 10 #[.slice p n c] w fun e w' => ∃ p' c', e = .returned (.slice p' ((n + 31) / 32) c') ∧ Own w' w.heap.size 34 32 (.slice p' ((n + 31) / 32) c') ((n + 31) / 32) (part zs n ((n + 31) / 32)) ∧ Below w.heap.size w w' := by
  have hzl : zs.length = n := by have := h1.cells; simpa [u8s] using this
  have H1 := Lib.hid h1
  have HZ := Lib.hid hzl
  have hb1 : (n:Int) ≤ 1000 := by omega
  clear h1 hzl
  go_enter Try.func10, Try.ntmps10
  go_wp2
  go_loopw [3, 4] (fun out iv wr => ∃ (j K : Nat) (p' : Option Addr) (c' : Nat), j ≤ n ∧ K = (j + 31) / 32 ∧ iv = .int .i64 (j : Int) ∧ out = .slice p' K c' ∧ Hid (Own wr w.heap.size 34 32 (.slice p' K c') K (part zs j K)) ∧ Below w.heap.size w wr) (fun _ iv _ => n - (intOf iv).toNat)
  case atStart => exact ⟨0, 0, none, 0, by omega, rfl, rfl, rfl, Lib.hid (by simpa [part, u8s] using own_nil w w.heap.size 34 32), Below.refl _ _⟩
  case round =>
    obtain ⟨j, K, p', c', hj, hK, rfl, rfl, HO, hbr⟩ := hrel
    have HK := Lib.hid hK
    have hKb : (K:Int) ≤ 100 := by omega
    by_cases ha : j < n
    · have ha1 : (j:Int) < n := by omega
      have hjz : j < zs.length := by rw [HZ.out]; exact ha
      obtain ⟨b, o, rfl, hc1, hm1, hh1, hl1, HR⟩ := (H1.out).at ha
      have HC := Lib.hid fun w' (hw : Below w.heap.size w w') => (hw.cell (p := ⟨b, o + j, none⟩) hh1).trans (HR j ha)
      have HX : Hid (zs.getD j 0 = zs[j]) := Lib.hid (by simp [List.getD, hjz])
      clear HR hK
      by_cases hm : j % 32 = 0
      · have hm1 : ((j:Int) % 32 == 0) = true := by simp; omega
        have hKK : K = j / 32 := by have := HK.out; omega
        go_wp2_with (at_builtin; refine ap_rd elem_secs rfl (.tmp 14) (.tmp 16) rfl w.heap.size _ _ (part zs j K) rfl (HO.out.alloc _) _ 1 (u8s (List.replicate 32 0)) rfl (rd_zero _) (one_ints .u8 _) (by omega) (by have := hbr.size; simp; omega) ?_; intro pa ca wa ho hb; rw [part_more zs j K (by omega)] at ho; have HO2 := Lib.hid ho; clear ho)
        clear hm hm1
        have hba := below_trans' (below_alloc hbr _) hb (Nat.le_refl _)
        obtain ⟨g, rfl, hg, hcl, hfr, HS, HB⟩ := spread_store HO2.out hjz (by omega) hba.size
        have hcb := HC.out wa hba
        rw [HX.out] at hcb
        generalize zs[j] = x at *
        have HS2 := Lib.hid HS
        have hd1 : (j:Int) / 32 < ((K + 1 : Nat) : Int) := by omega
        clear HS
        go_wp2_with fail
        go_region
        go_wp2_with fail
        go_roundw
        case rel => exact ⟨j + 1, K + 1, _, _, by omega, by omega, by go_num, by rw [hKK], Lib.hid HS2.out.drew, (hba.trans HB).drew⟩
        case measure => simp [intOf]; omega
      · have hm1 : ((j:Int) % 32 == 0) = false := by simp; omega
        have hba := hbr
        have hKK : K = j / 32 + 1 := by have := HK.out; omega
        obtain ⟨g, rfl, hg, hcl, hfr, HS, HB⟩ := spread_store HO.out hjz (by omega) hba.size
        have hcb := HC.out wr hba
        rw [HX.out] at hcb
        generalize zs[j] = x at *
        have HS2 := Lib.hid HS
        have hd1 : (j:Int) / 32 < (K : Int) := by omega
        clear HS
        go_wp2_with fail
        go_region
        go_wp2_with fail
        go_roundw
        case rel => exact ⟨j + 1, K, _, _, by omega, by have := HK.out; omega, by go_num, rfl, Lib.hid HS2.out.drew, (hba.trans HB).drew⟩
        case measure => simp [intOf]; omega
    · have hjm : j = n := by omega
      subst hjm
      go_wp2_with fail
      go_ret
      have := HK.out
      subst this
      exact ⟨p', c', rfl, HO.out, hbr⟩
end Go.Proofs.Ytbahllmbfmdabaa.sec
