/- What Uint gives, the code's and the reference's. -/
import Derived.Test.YthihheklmhhjlaaCodWalks
namespace Go.Proofs.Ythihheklmhhjlaa.cod
open Go.ChangeShapes Go.WideShapes Go.ChangeAt Go.RowKit
open Go.Proofs.Ythihheklmhhjlaa.codMath
set_option linter.unusedVariables false

theorem own_made' {w w' : World} {B n : Nat} (h : w'.ownsRow B 5 1 (.slice (some ⟨w.heap.size, 0, none⟩) 0 n) 0 []) : Own w' B (.slice (some ⟨w.heap.size, 0, none⟩) 0 n) [] := h
theorem below_made {w w' : World} (h : w.grownBy w' none) : Below w.heap.size w w' := (Below.refl _ w).grown h (Nat.le_refl _) (fun k hk => by cases hk)

theorem uint_any (p : Option Addr) (n c : Nat) (bs : List Int) (m : Nat) (w : World) (hm : m < 18446744073709551616) (hrd : Rd w (.slice p n c) bs) (hl : bs.length ≤ 100000) :
    Calls Try.prog 7 #[.slice p n c, .int .u64 (m : Int)] w fun e w' => ∃ p' n' c', e = .returned (.slice p' n' c') ∧ Own w' w.heap.size (.slice p' n' c') (bs ++ ue m) ∧ Below w.heap.size w w' := by
  obtain ⟨i0, hi, hz0, hz1, hz2⟩ := info_parts info8
  have hn := hrd.len
  have hn2 : (n:Int) ≤ 100000 := by omega
  have HL : Hid (bs.length ≤ 100000) := Lib.hid hl
  have HRD := Lib.hid hrd
  have HUL := Lib.hid (ue_len hm)
  have hm2 : (m:Int) ≤ 18446744073709551615 := by omega
  clear hn hl hrd hm
  go_enter Try.func7, Try.ntmps7
  go_wp2
  go_step3
  go_wp2_with (first | (at_make; refine wpList_make_own _ rfl _ _ 22 rfl w.heap.size 5 i0 (.int .u8 0) 1 Try.underlying22 hi hz0 hz1 .i64 .i64 _ (n + 10) rfl rfl (by simp) (by rw [hz2]; omega) (by unfold maxLen; omega) (Nat.le_refl _) ?_; intro w0 hown0 hgrow0; have HO0 := Lib.hid hown0; have hb0 := below_made hgrow0; clear hown0 hgrow0) | (at_builtin; refine ap_rd rfl (.tmp 10) (.tmp 11) rfl w.heap.size _ [] bs rfl (own_made' HO0.out) _ rfl (HRD.out.later hb0) (by have := HL.out; simp; omega) hb0.size ?_; intro p1 n1 c1 w1 hnn hown1 hb1; rw [List.nil_append] at hnn hown1; subst hnn; have HO1 := Lib.hid hown1; clear hown1))
  have hb01 := below_trans' hb0 hb1 (Nat.le_refl _)
  clear hb0 hb1
  go_step3
  go_wp2
  go_loopw [1, 5, 6, 24] (fun nv out g s wr => ∃ (k : Nat) (pre : List Int) (p' : Option Addr) (n' c' : Nat), nv = .int .u64 (k : Int) ∧ k ≤ m ∧ ue m = pre ++ ue k ∧ out = .slice p' n' c' ∧ Own wr w.heap.size (.slice p' n' c') (bs ++ pre) ∧ Below w.heap.size w wr) (fun nv _ _ _ _ => (intOf nv).toNat)
  case atStart => exact ⟨m, [], p1, _, c1, rfl, Nat.le_refl _, rfl, rfl, by simpa using HO1.out, hb01⟩
  case round =>
    obtain ⟨k, pre, p', n', c', rfl, hk, hue, rfl, hown, hbr⟩ := hrel
    have hk2 : (k:Int) ≤ 18446744073709551615 := by omega
    have HOWN := Lib.hid hown
    have HUE := Lib.hid hue
    have hsz : w.heap.size ≤ wr.heap.size := hbr.size
    have HLB : Hid ((bs ++ pre).length ≤ 100010) := Lib.hid (by
      have h1 := HL.out; have h2 := HUL.out; rw [hue, List.length_append] at h2; rw [List.length_append]; omega)
    clear hown hue
    by_cases hlt : k < 128
    · have hz : ((k:Int) / 128 == 0) = true := by simp; omega
      go_wp2_with (at_builtin; refine ap_rd rfl (.tmp 26) (.tmp 28) rfl w.heap.size _ (bs ++ pre) [(k:Int) % 128] rfl (HOWN.out.alloc _) _ rfl (rd_one wr _) (by have := HLB.out; simp only [List.length_cons, List.length_nil]; omega) (by simp; omega) ?_; intro p2 n2 c2 w2 hnn ho2 hb2; have HO2 := Lib.hid ho2; have HN := Lib.hid hnn; clear ho2 hnn)
      rw [Exit.noGoto_ret]
      go_ret
      refine ⟨p2, n2, c2, rfl, ?_, below_trans' (below_alloc hbr _) hb2 (Nat.le_refl _)⟩
      have e : bs ++ ue m = bs ++ pre ++ [(k:Int) % 128] := by
        rw [HUE.out, ue_small hlt, List.append_assoc, show (k:Int) % 128 = k by omega]
      rw [e]; exact HO2.out
    · have hz : ((k:Int) / 128 == 0) = false := by simp; omega
      have hor := or_more k
      go_wp2_with (at_builtin; refine ap_rd rfl (.tmp 19) (.tmp 22) rfl w.heap.size _ (bs ++ pre) [((k % 128 + 128 : Nat) : Int)] rfl (HOWN.out.alloc _) _ rfl (rd_one wr _) (by have := HLB.out; simp only [List.length_cons, List.length_nil]; omega) (by simp; omega) ?_; intro p2 n2 c2 w2 hnn ho2 hb2; have HO2 := Lib.hid ho2; have HN := Lib.hid hnn; clear ho2 hnn)
      go_roundw
      case rel =>
        refine ⟨k / 128, pre ++ [((k % 128 + 128 : Nat) : Int)], p2, n2, c2, by go_num, by omega, ?_, rfl, ?_, below_trans' (below_alloc hbr _) hb2 (Nat.le_refl _)⟩
        · rw [HUE.out, ue_big hlt]; simp
        · rw [← List.append_assoc]; exact HO2.out
      case measure => simp [intOf]; omega
end Go.Proofs.Ythihheklmhhjlaa.cod
