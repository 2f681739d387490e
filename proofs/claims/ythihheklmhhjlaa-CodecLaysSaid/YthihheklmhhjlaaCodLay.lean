/- What the reference's Uint, and Int and Text of both, give; and bytes.Clone. -/
import Derived.Test.YthihheklmhhjlaaCodUint
namespace Go.Proofs.Ythihheklmhhjlaa.cod
open Go.ChangeShapes Go.WideShapes Go.ChangeAt Go.RowKit
open Go.Proofs.Ythihheklmhhjlaa.codMath
set_option linter.unusedVariables false

theorem ruint_any (p : Option Addr) (n c : Nat) (bs : List Int) (m : Nat) (w : World) (hm : m < 18446744073709551616) (hrd : Rd w (.slice p n c) bs) (hl : bs.length ≤ 100000) :
    Calls Try.prog 8 #[.slice p n c, .int .u64 (m : Int)] w fun e w' => ∃ p' n' c', e = .returned (.slice p' n' c') ∧ Own w' w.heap.size (.slice p' n' c') (bs ++ ue m) ∧ Below w.heap.size w w' := by
  have HL : Hid (bs.length ≤ 100000) := Lib.hid hl
  have HRD := Lib.hid hrd
  have HUL := Lib.hid (ue_len hm)
  have hm2 : (m:Int) ≤ 18446744073709551615 := by omega
  clear hl hrd hm
  go_enter Try.func8, Try.ntmps8
  go_wp2_with (at_builtin; refine ap_rd rfl (.tmp 6) (.tmp 7) rfl w.heap.size _ [] bs rfl (own_made w (Nat.le_refl _)) _ rfl (HRD.out.later (below_alloc (Below.refl _ _) _)) (by have := HL.out; simp; omega) (by simp) ?_; intro p1 n1 c1 w1 hnn hown1 hb1; rw [List.nil_append] at hnn hown1; subst hnn; have HO1 := Lib.hid hown1; clear hown1)
  have hb01 := below_trans' (below_alloc (Below.refl _ w) (.cells #[] 5)) hb1 (Nat.le_refl _)
  clear hb1
  go_loopw [1, 5] (fun nv out wr => ∃ (k : Nat) (pre : List Int) (p' : Option Addr) (n' c' : Nat), nv = .int .u64 (k : Int) ∧ k ≤ m ∧ ue m = pre ++ ue k ∧ out = .slice p' n' c' ∧ Own wr w.heap.size (.slice p' n' c') (bs ++ pre) ∧ Below w.heap.size w wr) (fun nv _ _ => (intOf nv).toNat)
  case atStart => exact ⟨m, [], p1, _, c1, rfl, Nat.le_refl _, rfl, rfl, by simpa using HO1.out, hb01⟩
  case round =>
    obtain ⟨k, pre, p', n', c', rfl, hk, hue, rfl, hown, hbr⟩ := hrel
    have hk2 : (k:Int) ≤ 18446744073709551615 := by omega
    have HOWN := Lib.hid hown
    have HUE := Lib.hid hue
    have hsz : w.heap.size ≤ wr.heap.size := hbr.size
    have HLB : Hid ((bs ++ pre).length ≤ 100010) := Lib.hid (by
      have h1 := HL.out; have h2 := HUL.out; rw [hue, List.length_append] at h2; rw [List.length_append]; omega)
    clear hown hue
    by_cases hlt : k < 128
    · go_wp2_with (at_builtin; refine ap_rd rfl (.tmp 20) (.tmp 23) rfl w.heap.size _ (bs ++ pre) [(k:Int)] rfl (HOWN.out.alloc _) _ rfl (rd_one wr _) (by have := HLB.out; simp only [List.length_cons, List.length_nil]; omega) (by simp; omega) ?_; intro p2 n2 c2 w2 hnn ho2 hb2; have HO2 := Lib.hid ho2; have HN := Lib.hid hnn; clear ho2 hnn)
      go_ret
      refine ⟨p2, n2, c2, rfl, ?_, below_trans' (below_alloc hbr _) hb2 (Nat.le_refl _)⟩
      have e : bs ++ ue m = bs ++ pre ++ [(k:Int)] := by
        rw [HUE.out, ue_small hlt, List.append_assoc]
      rw [e]; exact HO2.out
    · go_wp2_with (at_builtin; refine ap_rd rfl (.tmp 11) (.tmp 16) rfl w.heap.size _ (bs ++ pre) [(k:Int) % 128 + 128] rfl (HOWN.out.alloc _) _ rfl (rd_one wr _) (by have := HLB.out; simp only [List.length_cons, List.length_nil]; omega) (by simp; omega) ?_; intro p2 n2 c2 w2 hnn ho2 hb2; have HO2 := Lib.hid ho2; have HN := Lib.hid hnn; clear ho2 hnn)
      go_roundw
      case rel =>
        refine ⟨k / 128, pre ++ [(k:Int) % 128 + 128], p2, n2, c2, by go_num, by omega, ?_, rfl, ?_, below_trans' (below_alloc hbr _) hb2 (Nat.le_refl _)⟩
        · rw [HUE.out, ue_big hlt]; simp
        · rw [← List.append_assoc]; exact HO2.out
      case measure => simp [intOf]; omega

theorem fold_any (m : Int) (w : World) (h : (Lit.int .i64 m).wf = true) :
    Calls Try.prog 19 #[.int .i64 m] w fun e w' => e = .returned (.int .u64 (fo m : Int)) ∧ w = w' := by
  have hx := wf_i64 h
  by_cases h0 : m < 0
  · go_enter Try.func19, Try.ntmps19
    go_wp2
    go_ret
    exact ⟨ret_int (by simp only [IntKind.wrap_u64]; rw [u64_not _ (by omega) (by omega)]; simp only [fo, if_pos h0]; omega), rfl⟩
  · go_enter Try.func19, Try.ntmps19
    go_wp2
    go_ret
    exact ⟨ret_int (by rw [fo, if_neg (by omega)]; omega), rfl⟩
theorem unfold_any (m : Nat) (w : World) (h : m < 18446744073709551616) :
    Calls Try.prog 22 #[.int .u64 (m : Int)] w fun e w' => e = .returned (.int .i64 (uf m)) ∧ w = w' := by
  have hx : (m:Int) ≤ 18446744073709551615 := by omega
  clear h
  by_cases h0 : m % 2 = 1
  · have h1 : ((m:Int) % 2 == 1) = true := by simp; omega
    go_enter Try.func22, Try.ntmps22
    go_wp2
    go_ret
    exact ⟨ret_int (by have := i64_not (m / 2) (by omega); simp only [uf, if_pos h0]; push_cast at this; rw [this]; omega), rfl⟩
  · have h1 : ((m:Int) % 2 == 1) = false := by simp; omega
    go_enter Try.func22, Try.ntmps22
    go_wp2
    go_ret
    exact ⟨ret_int (by simp only [uf, if_neg h0]; omega), rfl⟩

theorem int_any (p : Option Addr) (n c : Nat) (bs : List Int) (m : Int) (w : World) (hm : (Lit.int .i64 m).wf = true) (hrd : Rd w (.slice p n c) bs) (hl : bs.length ≤ 100000) :
    Calls Try.prog 9 #[.slice p n c, .int .i64 m] w fun e w' => ∃ p' n' c', e = .returned (.slice p' n' c') ∧ Own w' w.heap.size (.slice p' n' c') (bs ++ ue (fo m)) ∧ Below w.heap.size w w' := by
  have HL : Hid (bs.length ≤ 100000) := Lib.hid hl
  have HRD := Lib.hid hrd
  have HF := Lib.hid (fo_lt (wf_i64 hm))
  clear hl hrd
  go_enter Try.func9, Try.ntmps9
  go_wp2_with (go_at_call 19; refine (fold_any _ _ hm).mono ?_; rintro e w1 ⟨rfl, rfl⟩)
  refine (uint_any _ _ _ _ _ _ HF.out HRD.out HL.out).mono ?_
  rintro e w1 ⟨p', n', c', rfl, ho, hb⟩
  go_wp2_with fail
  go_ret
  exact ⟨p', n', c', rfl, ho, hb⟩
theorem ruint_eq (p : Option Addr) (n c : Nat) (bs : List Int) (m : Nat) (K : Int) (w : World) (hK : K = (m:Int)) (hm : m < 18446744073709551616) (hrd : Rd w (.slice p n c) bs) (hl : bs.length ≤ 100000) :
    Calls Try.prog 8 #[.slice p n c, .int .u64 K] w fun e w' => ∃ p' n' c', e = .returned (.slice p' n' c') ∧ Own w' w.heap.size (.slice p' n' c') (bs ++ ue m) ∧ Below w.heap.size w w' := by
  subst hK; exact ruint_any p n c bs m w hm hrd hl
theorem rint_any (p : Option Addr) (n c : Nat) (bs : List Int) (m : Int) (w : World) (hm : (Lit.int .i64 m).wf = true) (hrd : Rd w (.slice p n c) bs) (hl : bs.length ≤ 100000) :
    Calls Try.prog 10 #[.slice p n c, .int .i64 m] w fun e w' => ∃ p' n' c', e = .returned (.slice p' n' c') ∧ Own w' w.heap.size (.slice p' n' c') (bs ++ ue (fo m)) ∧ Below w.heap.size w w' := by
  have HL : Hid (bs.length ≤ 100000) := Lib.hid hl
  have HRD := Lib.hid hrd
  have hx := wf_i64 hm
  have HF := Lib.hid (fo_lt hx)
  clear hl hrd
  by_cases h0 : m < 0
  · have HE : Hid ((fo m : Int) = 2 * (-(m + 1)) + 1) := Lib.hid (by simp only [fo, if_pos h0]; omega)
    go_enter Try.func10, Try.ntmps10
    go_wp2_with fail
    refine (ruint_eq _ _ _ _ (fo m) _ _ (by have := HE.out; omega) HF.out HRD.out HL.out).mono ?_
    rintro e w1 ⟨p', n', c', rfl, ho, hb⟩
    go_wp2_with fail
    go_ret
    exact ⟨p', n', c', rfl, ho, hb⟩
  · have HE : Hid ((fo m : Int) = 2 * m) := Lib.hid (by simp only [fo, if_neg h0]; omega)
    go_enter Try.func10, Try.ntmps10
    go_wp2_with fail
    refine (ruint_eq _ _ _ _ (fo m) _ _ (by have := HE.out; omega) HF.out HRD.out HL.out).mono ?_
    rintro e w1 ⟨p', n', c', rfl, ho, hb⟩
    go_wp2_with fail
    go_ret
    exact ⟨p', n', c', rfl, ho, hb⟩
theorem text_any (p : Option Addr) (n c : Nat) (bs : List Int) (s : ByteArray) (w : World) (hm : s.size ≤ 100000) (hrd : Rd w (.slice p n c) bs) (hl : bs.length ≤ 100000) :
    Calls Try.prog 11 #[.slice p n c, .string s] w fun e w' => ∃ p' n' c', e = .returned (.slice p' n' c') ∧ Own w' w.heap.size (.slice p' n' c') (bs ++ ue s.size ++ sb s) ∧ Below w.heap.size w w' := by
  have HL : Hid (bs.length ≤ 100000) := Lib.hid hl
  have HRD := Lib.hid hrd
  have hm2 : (s.size : Int) ≤ 100000 := by omega
  have HM : Hid (s.size < 18446744073709551616) := Lib.hid (by omega)
  have HUL := Lib.hid (ue_len HM.out)
  clear hl hrd
  go_enter Try.func11, Try.ntmps11
  go_wp2_with (first | (go_at_call 7; refine (uint_any _ _ _ _ _ _ HM.out HRD.out HL.out).mono ?_; rintro e w1 ⟨p1, n1, c1, rfl, ho1, hb1⟩; have HO1 := Lib.hid ho1; clear ho1) | (at_builtin; refine ap_str rfl (.tmp 9) (.tmp 10) rfl w.heap.size _ _ rfl HO1.out s rfl (by have := HL.out; have := HUL.out; rw [List.length_append]; omega) hb1.size ?_; intro p2 n2 c2 w2 hnn ho2 hb2; have HO2 := Lib.hid ho2; have HN := Lib.hid hnn; clear ho2 hnn))
  go_ret
  exact ⟨p2, n2, c2, rfl, HO2.out, below_trans' hb1 hb2 (Nat.le_refl _)⟩
theorem rtext_any (p : Option Addr) (n c : Nat) (bs : List Int) (s : ByteArray) (w : World) (hm : s.size ≤ 100000) (hrd : Rd w (.slice p n c) bs) (hl : bs.length ≤ 100000) :
    Calls Try.prog 12 #[.slice p n c, .string s] w fun e w' => ∃ p' n' c', e = .returned (.slice p' n' c') ∧ Own w' w.heap.size (.slice p' n' c') (bs ++ ue s.size ++ sb s) ∧ Below w.heap.size w w' := by
  have HL : Hid (bs.length ≤ 100000) := Lib.hid hl
  have HRD := Lib.hid hrd
  have hm2 : (s.size : Int) ≤ 100000 := by omega
  have HM : Hid (s.size < 18446744073709551616) := Lib.hid (by omega)
  have HUL := Lib.hid (ue_len HM.out)
  clear hl hrd
  go_enter Try.func12, Try.ntmps12
  go_wp2_with (first | (go_at_call 8; refine (ruint_any _ _ _ _ _ _ HM.out HRD.out HL.out).mono ?_; rintro e w1 ⟨p1, n1, c1, rfl, ho1, hb1⟩; have HO1 := Lib.hid ho1; clear ho1) | (at_builtin; refine ap_str rfl (.tmp 9) (.tmp 10) rfl w.heap.size _ _ rfl HO1.out s rfl (by have := HL.out; have := HUL.out; rw [List.length_append]; omega) hb1.size ?_; intro p2 n2 c2 w2 hnn ho2 hb2; have HO2 := Lib.hid ho2; have HN := Lib.hid hnn; clear ho2 hnn))
  go_ret
  exact ⟨p2, n2, c2, rfl, HO2.out, below_trans' hb1 hb2 (Nat.le_refl _)⟩
/-- bytes.Clone of a slice that is not nil -/
theorem clone_any (a : Addr) (n c : Nat) (bs : List Int) (w : World) (hrd : Rd w (.slice (some a) n c) bs) (hl : bs.length ≤ 100000) :
    Calls Try.prog 21 #[.slice (some a) n c] w fun e w' => ∃ p' n' c', e = .returned (.slice p' n' c') ∧ Own w' w.heap.size (.slice p' n' c') bs ∧ Below w.heap.size w w' := by
  have HL : Hid (bs.length ≤ 100000) := Lib.hid hl
  have HRD := Lib.hid hrd
  have q22 : ∀ (w : World) (a : Option Addr) (n c n' c' : Nat), (binOp .eql 22 (.slice a n c) (.slice none n' c')).run Try.prog w = .ok (.bool a.isNone) w := fun w a n c n' c' => Lib.run_eql_slice_nil w _ _ a n c n' c' Try.underlying22
  clear hl hrd
  go_enter Try.func21, Try.ntmps21
  go_wp2_with (at_builtin; refine ap_rd rfl (.tmp 5) (.tmp 6) rfl w.heap.size _ [] bs rfl (own_made w (Nat.le_refl _)) _ rfl (HRD.out.later (below_alloc (Below.refl _ _) _)) (by have := HL.out; simp; omega) (by simp) ?_; intro p1 n1 c1 w1 hnn hown1 hb1; rw [List.nil_append] at hnn hown1; subst hnn; have HO1 := Lib.hid hown1; clear hown1)
  go_ret
  exact ⟨p1, _, c1, rfl, HO1.out, below_trans' (below_alloc (Below.refl _ w) (.cells #[] 5)) hb1 (Nat.le_refl _)⟩
end Go.Proofs.Ythihheklmhhjlaa.cod
