/- What LexBack wants, part 18. -/
import Derived.Test.YtahcndkifplekaaLexBackB
import Derived.Test.YtahcndkifplekaaLexBackG
import Derived.Test.YtahcndkifplekaaLexBackK
import Derived.Test.YtahcndkifplekaaLexBackM
import Derived.Test.YtahcndkifplekaaLexBackQ
import Derived.StillTailTactics
import Derived.Test.YtahcndkifplekaaShelf
import Derived.Deep.Cut
import Derived.Maps.OwnSet
import Derived.LaidEqlPtr
import Derived.Maps.AppendAt
set_option linter.unusedVariables false
set_option linter.unusedSimpArgs false
namespace Go.Proofs.Ytahcndkifplekaa
namespace vw
set_option maxRecDepth 100000
open Go.ChangeShapes Go.WideShapes Go.ChangeAt Go.RowKit
open rows
open sec
open ly
open pa
open lk (str_ext)
open fs (elem_by)
theorem own_lit (w : World) (x : Int) : Own (w.alloc (.cells #[.int .u8 x] 5)) w.heap.size 5 1 (.slice (some ⟨w.heap.size, 0, none⟩) 1 1) 1 (u8s [x]) :=
 ⟨rfl, Or.inr ⟨w.heap.size, 1, #[.int .u8 x], rfl, Nat.le_refl _, heap_alloc_new _ _, Nat.le_refl _, by decide, rfl, rfl⟩⟩
theorem and_nib : ∀ a : Fin 256, bits BinOp.and IntKind.u8 ((a.val : Nat) : Int) 15 = ((a.val % 16 : Nat) : Int) := by decide +kernel
set_option maxRecDepth 100000 in
set_option maxHeartbeats 3200000 in
theorem cquote_any (s : ByteArray) (w : World) (hs : s.size ≤ 100000) : Calls Try.prog 44 #[.string s] w fun e w' => e = .returned (.string (strOfNums (quoteL (bys s)))) ∧ Below w.heap.size w w' := by
 have HQ := Lib.hid (qU_all s)
 have hs9 : (s.size : Int) ≤ 100000 := by omega
 go_enter Try.func44, Try.ntmps44
 go_upto_region 3 with fail
 have HO0 := Lib.hid (own_lit w 34)
 have HB0 := Lib.hid (below_alloc (Below.refl w.heap.size w) (.cells #[.int .u8 34] 5))
 generalize w.alloc (.cells #[.int .u8 34] 5) = w0 at *
 go_loopw [3, 9] (fun bv iv wr => ∃ (i : Nat) (q : Option Addr) (k : Nat), i ≤ s.size ∧ iv = .int .i64 (i : Int) ∧ bv = .slice q (qU s i).length k ∧ Hid (Own wr w.heap.size 5 1 (.slice q (qU s i).length k) (qU s i).length (u8s (qU s i))) ∧ Hid (Below w.heap.size w wr)) (fun _ iv _ => s.size - (intOf iv).toNat)
 case atStart => exact ⟨0, _, _, by omega, rfl, rfl, HO0, HB0⟩
 case round =>
  clear HO0 HB0
  obtain ⟨i, q, k, hi, rfl, rfl, HO, HB⟩ := hrel
  have hz := qU_len s i
  by_cases hlt : i < s.size
  ·have hlti : (i : Int) < s.size := by omega
   have HU := Lib.hid (qU_succ s hlt)
   have hc0 : 0 ≤ (s[i].toNat : Int) := Int.natCast_nonneg _
   have hc1 := u8_lt s[i]
   have HP := Lib.hid fun w => plain_any (s[i].toNat : Int) w
   obtain ⟨U, hU⟩ : ∃ u, qU s i = u := ⟨_, rfl⟩
   rw [hU] at HU HO hz
   have HN := Lib.hid hz
   simp only [hU]
   clear hU hz
   cases hp : plainB (s[i].toNat : Int) with
   | true =>
    have he : qU s (i + 1) = U ++ [(s[i].toNat : Int)] := by rw [HU.out, signL, if_pos hp]
    have HE := Lib.hid he
    rw [hp] at HP
    clear hp he HU
    go_wp2_with (first
     | (go_at_call 54; refine (HP.out _).mono ?_; rintro e w1 ⟨rfl, hw⟩; obtain rfl := hw.symm)
     | (at_builtin; refine ap_rd elem_by rfl (.tmp 17) (.tmp 19) rfl w.heap.size _ U.length _ rfl (HO.out.alloc _) _ 1 [.int .u8 (s[i].toNat : Int)] rfl (rd_one _ _ 1 #[.int .u8 (s[i].toNat : Int)] rfl) (by simp [Value.oneCell']) (by have := HN.out; omega) (by have := HB.out.size; simp; omega) ?_; intro pa ca wa ho hb; have HO2 := Lib.hid ho; have HBa := Lib.hid ((below_alloc HB.out _).trans hb); clear ho hb))
    exact ⟨⟨i + 1, pa, ca, by omega, by go_num, by rw [HE.out]; simp, by rw [HE.out]; exact Lib.hid (by rw [List.length_append, List.length_singleton, u8s, List.map_append]; exact HO2.out), HBa⟩, by simp [intOf]; omega⟩
   | false =>
    have he : qU s (i + 1) = U ++ [92, hexC ((s[i].toNat : Int) / 16), hexC ((s[i].toNat : Int) % 16)] := by rw [HU.out, signL, if_neg (by rw [hp]; decide)]
    have HE := Lib.hid he
    rw [hp] at HP
    clear hp he HU
    go_upto_region 8 with (first
     | (go_at_call 54; refine (HP.out _).mono ?_; rintro e w1 ⟨rfl, hw⟩; obtain rfl := hw.symm))
    obtain ⟨c, hc⟩ : ∃ c, (s[i].toNat : Int) = c := ⟨_, rfl⟩
    rw [hc] at hc0 hc1 HE HP
    have hsh : c / 16 = ((c.toNat / 16 : Nat) : Int) := by omega
    have hand : bits BinOp.and IntKind.u8 c 15 = ((c.toNat % 16 : Nat) : Int) := by
     have := and_nib ⟨c.toNat, by omega⟩
     simpa [show ((c.toNat : Nat) : Int) = c by omega] using this
    obtain ⟨m1, hm1⟩ : ∃ m, c.toNat / 16 = m := ⟨_, rfl⟩
    obtain ⟨m2, hm2⟩ : ∃ m, c.toNat % 16 = m := ⟨_, rfl⟩
    rw [hm1] at hsh
    rw [hm2] at hand
    have l1 : m1 < 16 := by omega
    have l2 : m2 < 16 := by omega
    have l1i : (m1 : Int) < 16 := by omega
    have l2i : (m2 : Int) < 16 := by omega
    have q1 := digits_at m1 l1
    have q2 := digits_at m2 l2
    have he2 : qU s (i + 1) = U ++ [92, hexC (m1 : Int), hexC (m2 : Int)] := by rw [HE.out, hsh, show c % 16 = (m2 : Int) by omega]
    have HE2 := Lib.hid he2
    generalize hexC (m1 : Int) = x1 at *
    generalize hexC (m2 : Int) = x2 at *
    clear he2 hm1 hm2 HE
    refine wp_region_held_drew (S := fun v => Below w.heap.size w v) (by kernel_rfl) HB.out.drew (fun hH0 => ?_)
    have h0 : Below w.heap.size w wr.drew := HB.out.drew
    refine wpAnyH_take (i := 0) (oi := { dst := some 21, op := Op.move (Operand.tmp 3), type := 56, pos := "text.go:29", after := #[], guard := none }) (v := ?_) rfl (by kernel_rfl) (by kernel_rfl) (by kernel_rfl) (fun _ _ _ h => h) (Or.inl ⟨by rfl, ?_⟩) (by assumption) ?_
    rotate_left
    ·(intro w' hSw; go_simp; try with_reducible rfl)
    try simp only [Act.put, List.setIfInBounds_toArray, List.set_cons_zero, List.set_cons_succ]
    refine wpAnyH_take (i := 1) (oi := { dst := some 22, op := Op.move (Operand.tmp 5), type := 5, pos := "text.go:29", after := #[], guard := none }) (v := ?_) rfl (by kernel_rfl) (by kernel_rfl) (by kernel_rfl) (fun _ _ _ h => h) (Or.inl ⟨by rfl, ?_⟩) (by assumption) ?_
    rotate_left
    ·(intro w' hSw; go_simp; try with_reducible rfl)
    try simp only [Act.put, List.setIfInBounds_toArray, List.set_cons_zero, List.set_cons_succ]
    refine wpAnyH_take (i := 2) (oi := { dst := some 23, op := Op.binOp BinOp.shr 5 (Operand.tmp 22) (Operand.const (Value.int IntKind.u64 4)) 63, type := 5, pos := "text.go:29", after := #[{ on := 1, ground := Ground.data }], guard := none }) (v := ?_) rfl (by kernel_rfl) (by kernel_rfl) (by kernel_rfl) (fun _ _ _ h => h) (Or.inl ⟨by rfl, ?_⟩) (by assumption) ?_
    rotate_left
    ·(intro w' hSw; go_simp; try with_reducible rfl)
    try simp only [Act.put, List.setIfInBounds_toArray, List.set_cons_zero, List.set_cons_succ]
    refine wpAnyH_take (i := 3) (oi := { dst := some 24, op := Op.index 9 (Operand.const (Value.string { data := #[48, 49, 50, 51, 52, 53, 54, 55, 56, 57, 97, 98, 99, 100, 101, 102] })) (Operand.tmp 23), type := 5, pos := "text.go:29", after := #[{ on := 2, ground := Ground.data }], guard := none }) (v := ?_) rfl (by kernel_rfl) (by kernel_rfl) (by kernel_rfl) (fun _ _ _ h => h) (Or.inl ⟨by rfl, ?_⟩) (by assumption) ?_
    rotate_left
    ·(intro w' hSw; go_simp; try with_reducible rfl)
    try simp only [Act.put, List.setIfInBounds_toArray, List.set_cons_zero, List.set_cons_succ]
    refine wpAnyH_take (i := 4) (oi := { dst := some 25, op := Op.move (Operand.tmp 5), type := 5, pos := "text.go:29", after := #[], guard := none }) (v := ?_) rfl (by kernel_rfl) (by kernel_rfl) (by kernel_rfl) (fun _ _ _ h => h) (Or.inl ⟨by rfl, ?_⟩) (by assumption) ?_
    rotate_left
    ·(intro w' hSw; go_simp; try with_reducible rfl)
    try simp only [Act.put, List.setIfInBounds_toArray, List.set_cons_zero, List.set_cons_succ]
    refine wpAnyH_take (i := 5) (oi := { dst := some 26, op := Op.binOp BinOp.and 5 (Operand.tmp 25) (Operand.const (Value.int IntKind.u8 15)) 5, type := 5, pos := "text.go:29", after := #[{ on := 4, ground := Ground.data }], guard := none }) (v := ?_) rfl (by kernel_rfl) (by kernel_rfl) (by kernel_rfl) (fun _ _ _ h => h) (Or.inl ⟨by rfl, ?_⟩) (by assumption) ?_
    rotate_left
    ·(intro w' hSw; go_simp; try with_reducible rfl)
    try simp only [Act.put, List.setIfInBounds_toArray, List.set_cons_zero, List.set_cons_succ]
    refine wpAnyH_take (i := 6) (oi := { dst := some 27, op := Op.index 9 (Operand.const (Value.string { data := #[48, 49, 50, 51, 52, 53, 54, 55, 56, 57, 97, 98, 99, 100, 101, 102] })) (Operand.tmp 26), type := 5, pos := "text.go:29", after := #[{ on := 5, ground := Ground.data }], guard := none }) (v := ?_) rfl (by kernel_rfl) (by kernel_rfl) (by kernel_rfl) (fun _ _ _ h => h) (Or.inl ⟨by rfl, ?_⟩) (by assumption) ?_
    rotate_left
    ·(intro w' hSw; go_simp; try with_reducible rfl)
    try simp only [Act.put, List.setIfInBounds_toArray, List.set_cons_zero, List.set_cons_succ]
    refine wpAnyH_ready (rs := [7]) (by kernel_rfl) (by simp) ?_
    refine AllReadyH.cons (o := { dst := some 28, op := Op.buildSlice 56 3 #[(0, Operand.const (Value.int IntKind.u8 92)), (1, Operand.tmp 24), (2, Operand.tmp 27)], type := 56, pos := "text.go:29", after := #[{ on := 3, ground := Ground.data }, { on := 6, ground := Ground.data }], guard := none }) rfl (fun K hK => ?_) AllReadyH.nil
    go_simp
    have h1 := below_alloc h0 (.cells #[.int .u8 92, .int .u8 x1, .int .u8 x2] 5)
    refine hK.out _ _ h1 (fun hHeld => ?_)
    clear hK K
    try simp only [Act.put, List.setIfInBounds_toArray, List.set_cons_zero, List.set_cons_succ]
    refine wpAnyH_ready (rs := [8]) (by kernel_rfl) (by simp) ?_
    refine AllReadyH.cons (o := { dst := some 29, op := Op.call { callee := Callee.builtin Builtin.append, args := #[Operand.tmp 21, Operand.tmp 28], argTypes := #[56, 56] }, type := 56, pos := "text.go:29", after := #[{ on := 0, ground := Ground.data }, { on := 7, ground := Ground.data }], guard := none }) rfl (fun K hK => ?_) AllReadyH.nil
    refine step_ap elem_by (by rfl) (.tmp 21) (.tmp 28) rfl w.heap.size _ U.length _ rfl (HO.out.drew.alloc _) _ 3 [.int .u8 92, .int .u8 x1, .int .u8 x2] rfl (rd_lit wr.drew 5 1 3 #[.int .u8 92, .int .u8 x1, .int .u8 x2] rfl (by decide) (by decide)) (by simp [Value.oneCell']) (by have := HN.out; omega) (by have := h1.size; exact this) ?_
    intro pa ca wa ho hb
    have HO2 := Lib.hid ho
    have h2 : Below w.heap.size w wa := h1.trans hb
    have HBa := Lib.hid h2
    clear ho hb
    refine hK.out _ _ h2 (fun hHeld => ?_)
    clear hK K
    try simp only [Act.put, List.setIfInBounds_toArray, List.set_cons_zero, List.set_cons_succ]
    refine wpAnyH_take (i := 9) (oi := { dst := some 3, op := Op.assign (Operand.tmp 29), type := 56, pos := "text.go:29", after := #[{ on := 8, ground := Ground.data }, { on := 8, ground := Ground.chain }, { on := 0, ground := Ground.phase }, { on := 1, ground := Ground.phase }, { on := 2, ground := Ground.phase }, { on := 3, ground := Ground.phase }, { on := 4, ground := Ground.phase }, { on := 5, ground := Ground.phase }, { on := 6, ground := Ground.phase }, { on := 7, ground := Ground.phase }, { on := 8, ground := Ground.phase }], guard := none }) (v := ?_) rfl (by kernel_rfl) (by kernel_rfl) (by kernel_rfl) (fun _ _ _ h => h) (Or.inl ⟨by rfl, ?_⟩) (by assumption) ?_
    rotate_left
    ·(intro w' hSw; go_simp; try with_reducible rfl)
    try simp only [Act.put, List.setIfInBounds_toArray, List.set_cons_zero, List.set_cons_succ]
    refine wpAnyH_done (by kernel_rfl) ?_ _
    go_wp2_with fail
    exact ⟨⟨i + 1, pa, ca, by omega, by go_num, by rw [HE2.out]; simp, by rw [HE2.out]; exact Lib.hid (by rw [List.length_append, u8s, List.map_append]; exact HO2.out), HBa⟩, by simp [intOf]; omega⟩
  ·obtain rfl : i = s.size := by omega
   go_wp2_with (first
     | (at_builtin; refine ap_rd elem_by rfl (.tmp 31) (.tmp 32) rfl w.heap.size _ (qU s s.size).length _ rfl (HO.out.alloc _) _ 1 [.int .u8 34] rfl (rd_one _ _ 1 #[.int .u8 34] rfl) (by simp [Value.oneCell']) (by omega) (by have := HB.out.size; simp; omega) ?_; intro pa ca wa ho hb; have HO2 := Lib.hid ho; have HBa := Lib.hid ((below_alloc HB.out _).trans hb); clear ho hb; have hcv := conv_rd1 (w := wa) (p := pa) (n := (qU s s.size).length + 1) (c := ca) (xs := qU s s.size ++ [34]) (by rw [u8s, List.map_append]; exact HO2.out.rd)))
   go_ret
   exact ⟨by rw [← HQ.out]; rfl, HBa.out⟩
theorem bys_tail (R : ByteArray) {n : Nat} (h : n ≤ R.size) : bys (R.extract n R.size) = (bys R).drop n := by
 rw [bys_extract R n R.size (Nat.le_refl _), List.take_of_length_le]
 rw [List.length_drop, bys_len]; omega
set_option maxRecDepth 100000 in
set_option maxHeartbeats 3200000 in
theorem cunquote_any (s : ByteArray) (w : World) (hs : s.size ≤ 100000) : Calls Try.prog 51 #[.string s] w fun e w' => e = .returned (.tuple #[.string (strOfNums ((unquoteL (bys s)).getD [])), .bool (unquoteL (bys s)).isSome]) ∧ Below w.heap.size w w' := by
 have hs9 : (s.size : Int) ≤ 100000 := by omega
 by_cases h2 : s.size < 2
 ·have e : unquoteL (bys s) = none := by rw [unquoteL, if_pos (Or.inl (by rw [bys_len]; exact h2))]
  rw [e]
  have d1 : decide ((s.size : Int) - 1 < 1) = true := by simp; omega
  go_enter Try.func51, Try.ntmps51
  go_wp2_with fail
  go_ret2
  exact ⟨rfl, Below.refl _ _⟩
 ·have d1 : decide ((s.size : Int) - 1 < 1) = false := by simp; omega
  have hlt0 : 0 < s.size := by omega
  have hltl : s.size - 1 < s.size := by omega
  have b0 := bys_getD s 0 hlt0
  have b1 := bys_getD s (s.size - 1) hltl
  have hse : (s.size : Int) - 1 = ((s.size - 1 : Nat) : Int) := by omega
  obtain ⟨z, hz⟩ : ∃ z, s.size - 1 = z := ⟨_, rfl⟩
  rw [hz] at hse
  have hzl : z < s.size := by omega
  have hq1s : s[s.size - 1] = s[z] := by simp only [hz]
  rw [hq1s] at b1
  have hzi : (z : Int) < s.size := by omega
  have hz1 : (1 : Int) ≤ z := by omega
  clear hq1s hltl
  go_enter Try.func51, Try.ntmps51
  by_cases hq0 : (s[0].toNat : Int) = 34
  ·by_cases hq1 : (s[z].toNat : Int) = 34
   ·have U0 := Lib.hid (uq_start (s := s) (by omega) (b0.trans hq0) (b1.trans hq1))
    have g0 : ((s[0].toNat : Int) != 34) = false := by simpa using hq0
    have g1 : ((s[z].toNat : Int) != 34) = false := by simpa using hq1
    have hR0 : bys (s.extract 1 z) = (((bys s).drop 1).take (s.size - 2)).drop 0 := by
     rw [bys_extract s 1 z (by omega), List.drop_zero, show z - 1 = s.size - 2 by omega]
    have HR0 := Lib.hid hR0
    clear hq0 hq1 b0 b1 hR0
    go_upto_region 6 with fail
    go_loopw [5, 6] (fun bv rv wr => ∃ (j : Nat) (out : List Int) (q : Option Addr) (k : Nat) (R : ByteArray), UqAt s j out ∧ bys R = (((bys s).drop 1).take (s.size - 2)).drop j ∧ rv = .string R ∧ bv = .slice q out.length k ∧ Hid (Own wr w.heap.size 5 1 (.slice q out.length k) out.length (u8s out)) ∧ Hid (Below w.heap.size w wr)) (fun _ rv _ => match rv with | .string R => R.size | _ => 0)
    case atStart => exact ⟨0, [], none, 0, _, U0.out, HR0.out, rfl, rfl, Lib.hid (own_nil _ _ _ _), Lib.hid (Below.refl _ _)⟩
    case round =>
     clear U0 g0 g1 HR0
     obtain ⟨j, out, q, k, R, hu, hR, rfl, rfl, HO, HB⟩ := hrel
     have hRl : R.size = s.size - 2 - j := by rw [← bys_len R, hR, uq_mid_len _ hu.1]
     have hj2 := hu.1
     by_cases hr0 : R.size = 0
     ·have he := uq_done hu (by omega)
      have hcv := conv_rd1 (w := wr) (p := q) (n := out.length) (c := k) (xs := out) HO.out.rd
      have hRe : R = { data := #[] } := bys_inj ((List.eq_nil_of_length_eq_zero (l := bys R) (by rw [bys_len]; exact hr0)).trans rfl)
      subst hRe
      clear hu hR hRl
      go_wp2_with fail
      go_ret2
      exact ⟨by rw [he]; rfl, HB.out⟩
     ·have hne : (R.toList == []) = false := by
       cases hh : (R.toList == []) with
       | false => rfl
       | true =>
        exfalso; apply hr0
        have := str_ext (a := R) (b := { data := #[] }) (by simpa using hh)
        rw [this]; rfl
      have HF := Lib.hid fun w => first_any R w (by omega) (by omega)
      have HU := Lib.hid hu
      have HR := Lib.hid hR
      have HJ := Lib.hid hj2
      have HL := Lib.hid hRl
      have hol : out.length ≤ 100000 := by have := hu.2.2.2; omega
      cases hs : stepL (bys R) with
      | none =>
       have e1 : fstV (bys R) = (0, 0) := by rw [fstV, hs]; rfl
       rw [e1] at HF
       have he := uq_stop hu (by omega) (by rw [← hR]; exact hs)
       have HE := Lib.hid he
       clear hs e1 hu hR hRl he hj2 HU HR
       go_wp2_with (go_at_call 56; refine (HF.out _).mono ?_; rintro e w1 ⟨rfl, n1, rfl⟩; have HB1 := Lib.hid (blw_drewN HB.out n1))
       go_ret2
       exact ⟨by rw [HE.out]; rfl, HB1.out⟩
      | some x =>
       obtain ⟨c, n⟩ := x
       have e1 : fstV (bys R) = (c, n) := by rw [fstV, hs]; rfl
       rw [e1] at HF
       obtain ⟨u1, u2, u3⟩ := uq_step hu (by rw [← hR]; exact hs)
       have hn := (step_yes (bys_bytes R) hs).2.2.1
       rw [bys_len] at hn
       have HU1 := Lib.hid u1
       have hR1 : bys (R.extract n R.size) = (((bys s).drop 1).take (s.size - 2)).drop (j + n) := by rw [bys_tail R hn, hR, List.drop_drop]
       have HR1 := Lib.hid hR1
       have hz1 : (R.extract n R.size).size = R.size - n := by rw [ByteArray.size_extract]; omega
       have HZ1 := Lib.hid hz1
       have n0 : ((n : Int) == 0) = false := by simp; omega
       have hni : (n : Int) ≤ R.size := by omega
       have HN1 := Lib.hid u2
       clear hs e1 hu hR hRl hj2 HU HR u1 u2 u3 hR1 hz1
       go_wp2_with (first
        | (go_at_call 56; refine (HF.out _).mono ?_; rintro e w1 ⟨rfl, n1, rfl⟩; have HB1 := Lib.hid (blw_drewN HB.out n1))
        | (at_builtin; refine ap_rd elem_by rfl (.tmp 37) (.tmp 39) rfl w.heap.size _ out.length _ rfl ((HO.out.drewN n1).alloc _) _ 1 [.int .u8 c] rfl (rd_one _ _ 1 #[.int .u8 c] rfl) (by simp [Value.oneCell']) (by omega) (by have := HB1.out.size; simp at this ⊢; omega) ?_; intro pa ca wa ho hb; have HO2 := Lib.hid ho; have HBa := Lib.hid ((below_alloc HB1.out _).trans hb); clear ho hb))
       exact ⟨⟨j + n, out ++ [c], pa, ca, R.extract n R.size, HU1.out, HR1.out, rfl, by simp, by rw [List.length_append, List.length_singleton, u8s, List.map_append]; exact HO2, HBa⟩, by have := HZ1.out; have := HN1.out; simp only; omega⟩
   ·have e : unquoteL (bys s) = none := by rw [unquoteL, if_pos (Or.inr (Or.inr (by rw [bys_len, b1]; exact hq1)))]
    rw [e]
    have g0 : ((s[0].toNat : Int) != 34) = false := by simpa using hq0
    have g1 : ((s[z].toNat : Int) != 34) = true := by simpa using hq1
    go_wp2_with fail
    go_ret2
    exact ⟨rfl, Below.refl _ _⟩
  ·have e : unquoteL (bys s) = none := by rw [unquoteL, if_pos (Or.inr (Or.inl (by rw [b0]; exact hq0)))]
   rw [e]
   have g0 : ((s[0].toNat : Int) != 34) = true := by simpa using hq0
   go_wp2_with fail
   go_ret2
   exact ⟨rfl, Below.refl _ _⟩
end vw
namespace lx
set_option maxRecDepth 100000
open Go.ChangeShapes Go.WideShapes Go.ChangeAt Go.RowKit
open rows
open sec
open ly
theorem letter_any (c : Int) (w : World) : Calls Try.prog 23 #[.int .i32 c] w fun e w' => e = .returned (.bool (letB c)) ∧ w' = w := by
 by_cases h1 : 97 ≤ c
 ·go_enter Try.func23, Try.ntmps23
  go_wp2
  go_ret
  exact ⟨by rw [letB, decide_eq_true h1]; rfl, rfl⟩
 ·go_enter Try.func23, Try.ntmps23
  go_wp2
  go_ret
  exact ⟨by rw [letB, decide_eq_false (by omega)]; rfl, rfl⟩
theorem digit_any (c : Int) (w : World) : Calls Try.prog 35 #[.int .i32 c] w fun e w' => e = .returned (.bool (digB c)) ∧ w' = w := by
 by_cases h1 : 48 ≤ c
 ·go_enter Try.func35, Try.ntmps35
  go_wp2
  go_ret
  exact ⟨by rw [digB, decide_eq_true h1]; rfl, rfl⟩
 ·go_enter Try.func35, Try.ntmps35
  go_wp2
  go_ret
  exact ⟨by rw [digB, decide_eq_false (by omega)]; rfl, rfl⟩
theorem inName_any (c : Int) (w : World) : Calls Try.prog 24 #[.int .i32 c] w fun e w' => e = .returned (.bool (innB c)) ∧ w' = w := by
 have HL := Lib.hid fun w' => letter_any c w'
 have HD := Lib.hid fun w' => digit_any c w'
 rw [innB]
 generalize letB c = l at *
 generalize digB c = d at *
 cases l <;> cases d
 all_goals
  go_enter Try.func24, Try.ntmps24
  go_wp2_with (first | (go_at_call 23; refine (HL.out _).mono ?_; rintro e w1 ⟨rfl, rfl⟩) | (go_at_call 35; refine (HD.out _).mono ?_; rintro e w1 ⟨rfl, rfl⟩))
  go_ret
  exact ⟨rfl, rfl⟩
theorem blank_any (c : Int) (w : World) : Calls Try.prog 32 #[.int .i32 c] w fun e w' => e = .returned (.bool (wsB c)) ∧ w' = w := by
 by_cases h1 : c = 32
 ·subst h1
  go_enter Try.func32, Try.ntmps32
  go_wp2
  go_ret
  exact ⟨rfl, rfl⟩
 ·by_cases h2 : c = 9
  ·subst h2
   go_enter Try.func32, Try.ntmps32
   go_wp2
   go_ret
   exact ⟨rfl, rfl⟩
  ·have g1 : (c == 32) = false := by simpa using h1
   have g2 : (c == 9) = false := by simpa using h2
   go_enter Try.func32, Try.ntmps32
   go_wp2
   go_ret
   exact ⟨by rw [wsB, g1, g2]; rfl, rfl⟩
theorem but1_any (c k : Int) (b : Nat) (w : World) (hb : w.cell? ⟨b, 0, none⟩ = some (.int .i32 k)) : Calls Try.prog 49 #[.int .i32 c, .pointer (some ⟨b, 0, none⟩)] w fun e w' => e = .returned (.bool (c != k)) ∧ w' = w := by
 go_enter Try.func49, Try.ntmps49
 go_wp2
 go_ret
 exact ⟨rfl, rfl⟩
theorem but_any (k : Int) (w : World) : Calls Try.prog 34 #[.int .i32 k] w fun e w' => e = .returned (.func (.func 49) #[] #[.pointer (some ⟨w.heap.size, 0, none⟩)]) ∧ w' = w.alloc (.cells #[.int .i32 k] 21) := by
 go_enter Try.func34, Try.ntmps34
 go_wp2
 go_ret
 exact ⟨rfl, rfl⟩
def Cls (g : Nat) (lb : Array Value) (q : Int → Bool) (w : World) : Prop :=
 (∀ args w, (callFunc g args).run Try.prog w = .ok (.enter g args) w) ∧ PredGrows Try.prog g lb (fun x => q (x : Int)) w ∧ ∃ v, ∀ c : Int, 128 ≤ c → q c = v
theorem cls_of {g : Nat} {q : Int → Bool} (eg : ∀ args w, (callFunc g args).run Try.prog w = .ok (.enter g args) w) (h : ∀ (c : Int) (w : World), Calls Try.prog g #[.int .i32 c] w fun e w' => e = .returned (.bool (q c)) ∧ w' = w) {v : Bool} (hv : ∀ c : Int, 128 ≤ c → q c = v) (w : World) : Cls g #[] q w :=
 ⟨eg, fun W x hx hb => (h (x : Int) W).mono fun e w' ⟨h1, h2⟩ => ⟨h1, by rw [h2]; exact Below.refl _ _⟩, v, hv⟩
theorem cls_letter (w : World) : Cls 23 #[] letB w :=
 cls_of (fun args w => enters_of Try.func23 (by kernel_rfl) rfl args w) letter_any (v := false) (fun c h => by unfold letB; rw [decide_eq_false (p := c ≤ 122) (by omega), Bool.and_false]) w
theorem digB_big {c : Int} (h : 128 ≤ c) : digB c = false := by unfold digB; rw [decide_eq_false (p := c ≤ 57) (by omega), Bool.and_false]
theorem letB_big {c : Int} (h : 128 ≤ c) : letB c = false := by unfold letB; rw [decide_eq_false (p := c ≤ 122) (by omega), Bool.and_false]
theorem cls_digit (w : World) : Cls 35 #[] digB w :=
 cls_of (fun args w => enters_of Try.func35 (by kernel_rfl) rfl args w) digit_any (v := false) (fun c h => digB_big h) w
theorem cls_inName (w : World) : Cls 24 #[] innB w :=
 cls_of (fun args w => enters_of Try.func24 (by kernel_rfl) rfl args w) inName_any (v := false) (fun c h => by
  have e : (c == 95) = false := by rw [beq_eq_false_iff_ne]; omega
  unfold innB; rw [letB_big h, digB_big h, e]; rfl) w
theorem cls_blank (w : World) : Cls 32 #[] wsB w :=
 cls_of (fun args w => enters_of Try.func32 (by kernel_rfl) rfl args w) blank_any (v := false) (fun c h => by
  have e1 : (c == 32) = false := by rw [beq_eq_false_iff_ne]; omega
  have e2 : (c == 9) = false := by rw [beq_eq_false_iff_ne]; omega
  have e3 : (c == 10) = false := by rw [beq_eq_false_iff_ne]; omega
  unfold wsB; rw [e1, e2, e3]; rfl) w
theorem cls_but {k : Int} (hk : k < 128) {b : Nat} {w : World} (hb : w.heap[b]? = some (.cells #[.int .i32 k] 21 (0, 0))) : Cls 49 #[.pointer (some ⟨b, 0, none⟩)] (fun c => c != k) w :=
 ⟨fun args w => enters_of Try.func49 (by kernel_rfl) rfl args w, fun W x hx hw => (but1_any (x : Int) k b W (dsk.cell_row ((hw.block b (Array.getElem?_eq_some_iff.1 hb).1).trans hb) 0 _ rfl)).mono fun e w' ⟨h1, h2⟩ => ⟨h1, by rw [h2]; exact Below.refl _ _⟩, true, fun c h => by simp; omega⟩
theorem dropWhile_same {p q : Int → Bool} : ∀ {l : List Int}, (∀ x ∈ l, p x = q x) → l.dropWhile p = l.dropWhile q
 | [], _ => rfl
 | c :: t, h => by
  rw [List.dropWhile_cons, List.dropWhile_cons, h c List.mem_cons_self, dropWhile_same fun x hx => h x (List.mem_cons_of_mem _ hx)]
theorem cls_same {q : Int → Bool} {v : Bool} (hv : ∀ c : Int, 128 ≤ c → q c = v) (s : ByteArray) : ∀ x ∈ bys s, clsB (fun x => q (x : Int)) v x = q x := fun x hx => by
 have := bys_bytes s x hx
 unfold clsB
 split
 ·show q (x.toNat : Int) = q x
  rw [Int.toNat_of_nonneg this.1]
 ·rw [hv x (by omega)]
theorem trim_any {g : Nat} {lb : Array Value} {q : Int → Bool} (s : ByteArray) (w : World) (h : Cls g lb q w) : Calls Try.prog 31 #[.string s, .func (.func g) #[] lb] w fun e w' => e = .returned (.string (strOfNums ((bys s).dropWhile q))) ∧ Below w.heap.size w w' := by
 obtain ⟨eg, hp, v, hv⟩ := h
 refine (Try.strings_TrimLeftFunc_grows g lb eg (fun x => q (x : Int)) s w hp).mono ?_
 rintro e w' ⟨rfl, hb⟩
 have h := trim_is (p := fun x => q (x : Int)) (v := v) (fun x hx => hv x (by omega)) s
 rw [dropWhile_same (cls_same hv s)] at h
 rw [← h, strOf_bys]
 exact ⟨rfl, hb⟩
theorem take_len {q : Int → Bool} (s : ByteArray) : ((bys s).dropWhile q).length + ((bys s).takeWhile q).length = s.size := by
 have h2 := congrArg List.length (List.takeWhile_append_dropWhile (p := q) (l := bys s))
 rw [List.length_append, bys_len] at h2
 omega
theorem bys_head (R : ByteArray) {n : Nat} (h : n ≤ R.size) : bys (R.extract 0 n) = (bys R).take n := by
 unfold bys
 rw [ByteArray.data_extract, Array.toList_extract, List.extract_eq_take_drop, ← List.map_take, List.drop_zero, Nat.sub_zero]
theorem take_while {q : Int → Bool} (s : ByteArray) : (bys s).take ((bys s).takeWhile q).length = (bys s).takeWhile q := (List.prefix_iff_eq_take.1 (List.takeWhile_prefix _)).symm
set_option maxRecDepth 100000 in
theorem run_any {g : Nat} {lb : Array Value} {q : Int → Bool} (s : ByteArray) (w : World) (h : Cls g lb q w) (hs : s.size ≤ 100000) : Calls Try.prog 22 #[.string s, .func (.func g) #[] lb] w fun e w' => e = .returned (.string (strOfNums ((bys s).takeWhile q))) ∧ Below w.heap.size w w' := by
 have HT := Lib.hid (trim_any s w h)
 have hl := take_len (q := q) s
 have hz : (strOfNums ((bys s).dropWhile q)).size = ((bys s).dropWhile q).length := strOfNums_size _
 generalize strOfNums ((bys s).dropWhile q) = r at *
 have hr : r.size ≤ s.size := by omega
 have hri : (r.size : Int) ≤ s.size := by omega
 have he : s.extract 0 (s.size - r.size) = strOfNums ((bys s).takeWhile q) := by
  apply bys_inj
  rw [bys_head s (by omega), bys_strOf (fun x hx => bys_bytes s x ((List.takeWhile_prefix _).subset hx)), show s.size - r.size = ((bys s).takeWhile q).length by omega, take_while]
 have HE := Lib.hid he
 have hs9 : (s.size : Int) ≤ 100000 := by omega
 clear hl hz he h
 go_enter Try.func22, Try.ntmps22
 go_wp2_with (first | (go_at_call 31; refine HT.out.mono ?_; rintro e w1 ⟨rfl, hb⟩; have HB := Lib.hid hb; clear hb))
 go_ret
 exact ⟨by rw [← HE.out]; rfl, HB.out⟩
end lx
namespace lx
set_option maxRecDepth 100000
open Go.ChangeShapes Go.WideShapes Go.ChangeAt Go.RowKit
open rows
open sec
open ly
theorem pre_hash (r : ByteArray) : Lib.hasPrefix r.data.toList ({ data := #[35] } : ByteArray).data.toList = decide ((bys r).head? = some 35) := by
 unfold bys
 show [(35 : UInt8)].isPrefixOf r.data.toList = _
 cases r.data.toList with
 | nil => rfl
 | cons c t =>
  rw [List.map_cons, List.head?_cons, Bool.eq_iff_iff, decide_eq_true_eq]
  simp only [List.isPrefixOf, Bool.and_true, beq_iff_eq, Option.some.injEq]
  constructor
  ·intro h; rw [← h]; rfl
  ·intro h
   apply UInt8.toNat_inj.1
   have : c.toNat = 35 := by omega
   rw [this]; rfl
theorem drop_head {q : Int → Bool} : ∀ (l : List Int) (c : Int), (l.dropWhile q).head? = some c → q c = false
 | [], c, h => by simp at h
 | d :: t, c, h => by
  rw [List.dropWhile_cons] at h
  split at h
  ·exact drop_head t c h
  ·rename_i hd; cases h; simpa using hd
theorem drop_len (q : Int → Bool) (l : List Int) : (l.dropWhile q).length ≤ l.length := (List.dropWhile_suffix q).length_le
theorem bytes_drop {q : Int → Bool} (s : ByteArray) : ∀ x ∈ (bys s).dropWhile q, 0 ≤ x ∧ x < 256 := fun x hx => bys_bytes s x ((List.dropWhile_suffix q).subset hx)
set_option maxRecDepth 100000 in
theorem bare_any (s : ByteArray) (w : World) (hs : s.size ≤ 100000) : Calls Try.prog 17 #[.string s] w fun e w' => e = .returned (.string (strOfNums (skipL false (bys s)))) ∧ Below w.heap.size w w' := by
 have HT := Lib.hid (trim_any s w (cls_blank w))
 obtain ⟨r0, hr0⟩ : ∃ r, strOfNums ((bys s).dropWhile wsB) = r := ⟨_, rfl⟩
 have hb0 : bys r0 = (bys s).dropWhile wsB := by rw [← hr0, bys_strOf (bytes_drop s)]
 have hk0 : skipL false (bys r0) = skipL false (bys s) := by rw [hb0, skip_ws]
 have hh0 : ∀ c, (bys r0).head? = some c → wsB c = false := fun c hc => drop_head (bys s) c (by rw [← hb0]; exact hc)
 rw [hr0] at HT
 have HK0 := Lib.hid hk0
 have HH0 := Lib.hid hh0
 clear hr0 hb0 hk0 hh0
 go_enter Try.func17, Try.ntmps17
 go_upto_region 2 with (go_at_call 31; refine HT.out.mono ?_; rintro e w1 ⟨rfl, hb⟩; have HB1 := Lib.hid hb; clear hb)
 go_loopw [0] (fun sv wr => ∃ r : ByteArray, sv = .string r ∧ Hid (skipL false (bys r) = skipL false (bys s)) ∧ Hid (∀ c, (bys r).head? = some c → wsB c = false) ∧ Hid (Below w.heap.size w wr)) (fun sv _ => match sv with | .string r => r.size | _ => 0)
 case atStart => exact ⟨r0, rfl, HK0, HH0, HB1⟩
 case round =>
  obtain ⟨r, rfl, HK, HH, HB⟩ := hrel
  have hp := pre_hash r
  have HPX := Lib.hid fun w' => Try.strings_HasPrefix r { data := #[35] } w'
  rw [hp] at HPX
  by_cases h35 : (bys r).head? = some 35
  ·rw [decide_eq_true h35] at HPX
   obtain ⟨t, ht⟩ : ∃ t, bys r = 35 :: t := by
    cases hh : bys r with
    | nil => rw [hh] at h35; simp at h35
    | cons c t => rw [hh] at h35; cases h35; exact ⟨t, rfl⟩
   obtain ⟨r1, hr1⟩ : ∃ r1, strOfNums ((bys r).dropWhile fun c => c != 10) = r1 := ⟨_, rfl⟩
   have hb1 : bys r1 = (bys r).dropWhile fun c => c != 10 := by rw [← hr1, bys_strOf (bytes_drop r)]
   obtain ⟨r2, hr2⟩ : ∃ r2, strOfNums ((bys r1).dropWhile wsB) = r2 := ⟨_, rfl⟩
   have hb2 : bys r2 = (bys r1).dropWhile wsB := by rw [← hr2, bys_strOf (bytes_drop r1)]
   have HT1 := Lib.hid fun w' g lb (h : Cls g lb (fun c => c != 10) w') => trim_any r w' h
   have HT2 := Lib.hid fun w' => trim_any r1 w' (cls_blank w')
   rw [hr1] at HT1
   rw [hr2] at HT2
   have HK2 := Lib.hid (show skipL false (bys r2) = skipL false (bys s) by rw [← HK.out, hb2, hb1, ht, ← skip_hash])
   have HH2 : Hid (∀ c, (bys r2).head? = some c → wsB c = false) := Lib.hid fun c hc => drop_head (bys r1) c (by rw [← hb2]; exact hc)
   have hlt : r2.size < r.size := by
    rw [← bys_len r2, ← bys_len r, hb2, hb1, ht, List.dropWhile_cons, if_pos (by decide)]
    have h1 := drop_len (fun c => c != 10) t
    have h2 := drop_len wsB (t.dropWhile fun c => c != 10)
    rw [List.length_cons]; omega
   have HLT := Lib.hid hlt
   have HBN := Lib.hid (but_any 10)
   clear hp h35 ht hr1 hb1 hr2 hb2 hlt HK HH
   go_wp2_with (first
    | (go_at_call 33; refine (HPX.out _).mono ?_; rintro e w2 ⟨rfl, rfl⟩)
    | (go_at_call 34; refine (HBN.out _).mono ?_; rintro e w3 ⟨rfl, hw3⟩; have HB3 := Lib.hid (show Below _ _ w3 by rw [hw3]; exact HB.out.alloc HB.out.size (.cells #[.int .i32 10] 21)); have HC3 := Lib.hid (cls_but (k := 10) (by omega) (w := w3) (by rw [hw3]; exact heap_alloc_new _ _)); clear hw3)
    | (go_at_call 31; with_reducible refine (HT1.out _ _ _ HC3.out).mono ?_; rintro e w4 ⟨rfl, hb⟩; have HB4 := Lib.hid (HB3.out.trans (hb.mono HB3.out.size)); clear hb)
    | (go_at_call 31; with_reducible refine (HT2.out _).mono ?_; rintro e w5 ⟨rfl, hb⟩; have HB5 := Lib.hid (HB4.out.trans (hb.mono HB4.out.size)); clear hb))
   exact ⟨⟨r2, rfl, HK2, HH2, HB5⟩, HLT.out⟩
  ·rw [decide_eq_false h35] at HPX
   have he : strOfNums (skipL false (bys s)) = r := by rw [← HK.out, skip_done h35 HH.out, strOf_bys]
   have HE := Lib.hid he
   clear hp h35 he HK HH
   go_wp2_with (go_at_call 33; refine (HPX.out _).mono ?_; rintro e w2 ⟨rfl, rfl⟩)
   go_ret
   exact ⟨by rw [HE.out]; rfl, HB.out⟩
set_option maxRecDepth 100000 in
set_option maxHeartbeats 4000000 in
theorem sign_any (s : ByteArray) (w : World) : Calls Try.prog 39 #[.string s] w fun e w' => e = .returned (.bool (signB s)) ∧ w' = w := by
 have hk : signB s = (s.toList == [123] || s.toList == [125] || s.toList == [40] || s.toList == [41] || s.toList == [59] || s.toList == [44] || s.toList == [58] || s.toList == [43] || s.toList == [45] || s.toList == [60] || s.toList == [61] || s.toList == [61, 61]) := by unfold signB signL; simp only [List.any_cons, List.any_nil, Bool.or_assoc, Bool.or_false]
 rw [hk]
 clear hk
 obtain ⟨b0, g0⟩ : ∃ b : Bool, (s.toList == [123]) = b := ⟨_, rfl⟩
 rw [g0]
 obtain ⟨b1, g1⟩ : ∃ b : Bool, (s.toList == [125]) = b := ⟨_, rfl⟩
 rw [g1]
 obtain ⟨b2, g2⟩ : ∃ b : Bool, (s.toList == [40]) = b := ⟨_, rfl⟩
 rw [g2]
 obtain ⟨b3, g3⟩ : ∃ b : Bool, (s.toList == [41]) = b := ⟨_, rfl⟩
 rw [g3]
 obtain ⟨b4, g4⟩ : ∃ b : Bool, (s.toList == [59]) = b := ⟨_, rfl⟩
 rw [g4]
 obtain ⟨b5, g5⟩ : ∃ b : Bool, (s.toList == [44]) = b := ⟨_, rfl⟩
 rw [g5]
 obtain ⟨b6, g6⟩ : ∃ b : Bool, (s.toList == [58]) = b := ⟨_, rfl⟩
 rw [g6]
 obtain ⟨b7, g7⟩ : ∃ b : Bool, (s.toList == [43]) = b := ⟨_, rfl⟩
 rw [g7]
 obtain ⟨b8, g8⟩ : ∃ b : Bool, (s.toList == [45]) = b := ⟨_, rfl⟩
 rw [g8]
 obtain ⟨b9, g9⟩ : ∃ b : Bool, (s.toList == [60]) = b := ⟨_, rfl⟩
 rw [g9]
 obtain ⟨b10, g10⟩ : ∃ b : Bool, (s.toList == [61]) = b := ⟨_, rfl⟩
 rw [g10]
 obtain ⟨b11, g11⟩ : ∃ b : Bool, (s.toList == [61, 61]) = b := ⟨_, rfl⟩
 rw [g11]
 go_enter Try.func39, Try.ntmps39
 go_wp2
 all_goals go_ret
 all_goals (refine ⟨?_, rfl⟩; simp_all)
set_option maxRecDepth 100000 in
set_option maxHeartbeats 4000000 in
theorem key_any (s : ByteArray) (w : World) : Calls Try.prog 11 #[.string s] w fun e w' => e = .returned (.bool (keyB s)) ∧ w' = w := by
 have hk : keyB s = (s.toList == [112, 114, 111, 99] || s.toList == [109, 97, 105, 110] || s.toList == [114, 101, 99, 111, 118, 101, 114] || s.toList == [111, 114, 97, 99, 108, 101] || s.toList == [99, 114, 101, 97, 116, 101] || s.toList == [109, 107, 100, 105, 114] || s.toList == [119, 114, 105, 116, 101] || s.toList == [97, 112, 112, 101, 110, 100] || s.toList == [116, 114, 117, 110, 99, 97, 116, 101] || s.toList == [114, 101, 110, 97, 109, 101] || s.toList == [117, 110, 108, 105, 110, 107] || s.toList == [102, 115, 121, 110, 99] || s.toList == [102, 100, 97, 116, 97, 115, 121, 110, 99] || s.toList == [115, 121, 110, 99, 100, 105, 114] || s.toList == [98, 97, 114, 114, 105, 101, 114] || s.toList == [108, 101, 116] || s.toList == [105, 102] || s.toList == [101, 108, 115, 101] || s.toList == [114, 101, 112, 101, 97, 116] || s.toList == [99, 97, 108, 108] || s.toList == [116, 120, 110] || s.toList == [99, 111, 109, 109, 105, 116] || s.toList == [114, 101, 112, 108, 97, 121] || s.toList == [97, 115, 115, 101, 114, 116] || s.toList == [101, 120, 105, 115, 116, 115] || s.toList == [115, 105, 122, 101] || s.toList == [114, 101, 97, 100] || s.toList == [110, 111, 116] || s.toList == [97, 110, 100] || s.toList == [111, 114] || s.toList == [116, 114, 117, 101] || s.toList == [102, 97, 108, 115, 101]) := by unfold keyB keyL; simp only [List.any_cons, List.any_nil, Bool.or_assoc, Bool.or_false]
 rw [hk]
 clear hk
 obtain ⟨b0, g0⟩ : ∃ b : Bool, (s.toList == [112, 114, 111, 99]) = b := ⟨_, rfl⟩
 rw [g0]
 obtain ⟨b1, g1⟩ : ∃ b : Bool, (s.toList == [109, 97, 105, 110]) = b := ⟨_, rfl⟩
 rw [g1]
 obtain ⟨b2, g2⟩ : ∃ b : Bool, (s.toList == [114, 101, 99, 111, 118, 101, 114]) = b := ⟨_, rfl⟩
 rw [g2]
 obtain ⟨b3, g3⟩ : ∃ b : Bool, (s.toList == [111, 114, 97, 99, 108, 101]) = b := ⟨_, rfl⟩
 rw [g3]
 obtain ⟨b4, g4⟩ : ∃ b : Bool, (s.toList == [99, 114, 101, 97, 116, 101]) = b := ⟨_, rfl⟩
 rw [g4]
 obtain ⟨b5, g5⟩ : ∃ b : Bool, (s.toList == [109, 107, 100, 105, 114]) = b := ⟨_, rfl⟩
 rw [g5]
 obtain ⟨b6, g6⟩ : ∃ b : Bool, (s.toList == [119, 114, 105, 116, 101]) = b := ⟨_, rfl⟩
 rw [g6]
 obtain ⟨b7, g7⟩ : ∃ b : Bool, (s.toList == [97, 112, 112, 101, 110, 100]) = b := ⟨_, rfl⟩
 rw [g7]
 obtain ⟨b8, g8⟩ : ∃ b : Bool, (s.toList == [116, 114, 117, 110, 99, 97, 116, 101]) = b := ⟨_, rfl⟩
 rw [g8]
 obtain ⟨b9, g9⟩ : ∃ b : Bool, (s.toList == [114, 101, 110, 97, 109, 101]) = b := ⟨_, rfl⟩
 rw [g9]
 obtain ⟨b10, g10⟩ : ∃ b : Bool, (s.toList == [117, 110, 108, 105, 110, 107]) = b := ⟨_, rfl⟩
 rw [g10]
 obtain ⟨b11, g11⟩ : ∃ b : Bool, (s.toList == [102, 115, 121, 110, 99]) = b := ⟨_, rfl⟩
 rw [g11]
 obtain ⟨b12, g12⟩ : ∃ b : Bool, (s.toList == [102, 100, 97, 116, 97, 115, 121, 110, 99]) = b := ⟨_, rfl⟩
 rw [g12]
 obtain ⟨b13, g13⟩ : ∃ b : Bool, (s.toList == [115, 121, 110, 99, 100, 105, 114]) = b := ⟨_, rfl⟩
 rw [g13]
 obtain ⟨b14, g14⟩ : ∃ b : Bool, (s.toList == [98, 97, 114, 114, 105, 101, 114]) = b := ⟨_, rfl⟩
 rw [g14]
 obtain ⟨b15, g15⟩ : ∃ b : Bool, (s.toList == [108, 101, 116]) = b := ⟨_, rfl⟩
 rw [g15]
 obtain ⟨b16, g16⟩ : ∃ b : Bool, (s.toList == [105, 102]) = b := ⟨_, rfl⟩
 rw [g16]
 obtain ⟨b17, g17⟩ : ∃ b : Bool, (s.toList == [101, 108, 115, 101]) = b := ⟨_, rfl⟩
 rw [g17]
 obtain ⟨b18, g18⟩ : ∃ b : Bool, (s.toList == [114, 101, 112, 101, 97, 116]) = b := ⟨_, rfl⟩
 rw [g18]
 obtain ⟨b19, g19⟩ : ∃ b : Bool, (s.toList == [99, 97, 108, 108]) = b := ⟨_, rfl⟩
 rw [g19]
 obtain ⟨b20, g20⟩ : ∃ b : Bool, (s.toList == [116, 120, 110]) = b := ⟨_, rfl⟩
 rw [g20]
 obtain ⟨b21, g21⟩ : ∃ b : Bool, (s.toList == [99, 111, 109, 109, 105, 116]) = b := ⟨_, rfl⟩
 rw [g21]
 obtain ⟨b22, g22⟩ : ∃ b : Bool, (s.toList == [114, 101, 112, 108, 97, 121]) = b := ⟨_, rfl⟩
 rw [g22]
 obtain ⟨b23, g23⟩ : ∃ b : Bool, (s.toList == [97, 115, 115, 101, 114, 116]) = b := ⟨_, rfl⟩
 rw [g23]
 obtain ⟨b24, g24⟩ : ∃ b : Bool, (s.toList == [101, 120, 105, 115, 116, 115]) = b := ⟨_, rfl⟩
 rw [g24]
 obtain ⟨b25, g25⟩ : ∃ b : Bool, (s.toList == [115, 105, 122, 101]) = b := ⟨_, rfl⟩
 rw [g25]
 obtain ⟨b26, g26⟩ : ∃ b : Bool, (s.toList == [114, 101, 97, 100]) = b := ⟨_, rfl⟩
 rw [g26]
 obtain ⟨b27, g27⟩ : ∃ b : Bool, (s.toList == [110, 111, 116]) = b := ⟨_, rfl⟩
 rw [g27]
 obtain ⟨b28, g28⟩ : ∃ b : Bool, (s.toList == [97, 110, 100]) = b := ⟨_, rfl⟩
 rw [g28]
 obtain ⟨b29, g29⟩ : ∃ b : Bool, (s.toList == [111, 114]) = b := ⟨_, rfl⟩
 rw [g29]
 obtain ⟨b30, g30⟩ : ∃ b : Bool, (s.toList == [116, 114, 117, 101]) = b := ⟨_, rfl⟩
 rw [g30]
 obtain ⟨b31, g31⟩ : ∃ b : Bool, (s.toList == [102, 97, 108, 115, 101]) = b := ⟨_, rfl⟩
 rw [g31]
 go_enter Try.func11, Try.ntmps11
 go_wp2
 all_goals go_ret
 all_goals (refine ⟨?_, rfl⟩; simp_all)
end lx
namespace lx
set_option maxRecDepth 100000
open Go.ChangeShapes Go.WideShapes Go.ChangeAt Go.RowKit
open rows
open sec
open ly
theorem nil_eq (s : ByteArray) : (s.toList == []) = decide (s.size = 0) := by
 rw [Bool.eq_iff_iff, beq_iff_eq, decide_eq_true_eq, bys_lit s []]
 constructor
 ·intro h
  have := bys_len s
  rw [h] at this
  exact this.symm
 ·intro h
  exact List.eq_nil_of_length_eq_zero (by rw [bys_len]; exact h)
theorem bytes_take {q : Int → Bool} (s : ByteArray) : ∀ x ∈ (bys s).takeWhile q, 0 ≤ x ∧ x < 256 := fun x hx => bys_bytes s x ((List.takeWhile_prefix q).subset hx)
theorem str_same (a b : ByteArray) : (a.toList == b.toList) = decide (a = b) := by
 rw [Bool.eq_iff_iff, beq_iff_eq, decide_eq_true_eq]
 constructor
 ·intro h
  apply bys_inj
  have := (bys_lit a b.toList).1 h
  rw [this]
  exact ((bys_lit b b.toList).1 rfl).symm
 ·intro h; rw [h]
theorem head_bys (s : ByteArray) (h : 0 < s.size) : ∃ t, bys s = headI s :: t := by
 unfold headI
 cases hh : bys s with
 | nil => have := bys_len s; rw [hh] at this; simp at this; omega
 | cons c t => exact ⟨t, rfl⟩
theorem name_is (s : ByteArray) : nameB s = (decide (s.size ≤ 8) && !((strOfNums ((bys s).takeWhile letB)).toList == []) && ((strOfNums ((bys s).takeWhile innB)).toList == s.toList) && !keyB s) := by
 have e2 : ((strOfNums ((bys s).takeWhile innB)).toList == s.toList) = (bys s).all innB := by
  rw [str_same, Bool.eq_iff_iff, decide_eq_true_eq, List.all_eq_true]
  constructor
  ·intro h
   have h1 := congrArg bys h
   rw [bys_strOf (bytes_take s)] at h1
   have h2 := List.all_takeWhile (p := innB) (l := bys s)
   rw [h1, List.all_eq_true] at h2
   exact h2
  ·intro h
   have : (bys s).takeWhile innB = bys s := by
    conv => rhs; rw [← List.takeWhile_append_dropWhile (p := innB) (l := bys s)]
    rw [show (bys s).dropWhile innB = [] from ?_, List.append_nil]
    have := List.dropWhile_append_of_pos (p := innB) (l₁ := bys s) (l₂ := []) h
    rw [List.append_nil] at this
    rw [this]; rfl
   rw [this, strOf_bys]
 have e1 : (!((strOfNums ((bys s).takeWhile letB)).toList == [])) = (decide (1 ≤ s.size) && letB (headI s)) := by
  rw [nil_eq, strOfNums_size]
  by_cases h0 : 1 ≤ s.size
  ·obtain ⟨t, ht⟩ := head_bys s h0
   rw [decide_eq_true h0, Bool.true_and]
   rw [ht, List.takeWhile_cons]
   cases letB (headI s) with
   | true => simp
   | false => simp
  ·have : bys s = [] := List.eq_nil_of_length_eq_zero (by rw [bys_len]; omega)
   rw [decide_eq_false h0, this]; rfl
 rw [e1, e2, nameB]
 generalize decide (1 ≤ s.size) = a
 generalize decide (s.size ≤ 8) = b
 generalize letB (headI s) = c
 generalize (bys s).all innB = d
 generalize keyB s = e
 cases a <;> cases b <;> cases c <;> cases d <;> cases e <;> rfl
set_option maxRecDepth 100000 in
set_option maxHeartbeats 2000000 in
theorem name_any (s : ByteArray) (w : World) (hs : s.size ≤ 100000) : Calls Try.prog 13 #[.string s] w fun e w' => e = .returned (.bool (nameB s)) ∧ Below w.heap.size w w' := by
 have HR1 := Lib.hid (run_any s w (cls_letter w) hs)
 have HR2 := Lib.hid fun w' => run_any s w' (cls_inName w') hs
 have HK := Lib.hid fun w' => key_any s w'
 rw [name_is]
 generalize keyB s = k at *
 generalize strOfNums ((bys s).takeWhile letB) = r1 at *
 generalize strOfNums ((bys s).takeWhile innB) = r2 at *
 have hs9 : (s.size : Int) ≤ 100000 := by omega
 by_cases h8 : s.size ≤ 8
 ·have h8i : (s.size : Int) ≤ 8 := by omega
  rw [decide_eq_true h8, Bool.true_and]
  obtain ⟨b1, g1⟩ : ∃ b, (r1.toList == []) = b := ⟨_, rfl⟩
  obtain ⟨b2, g2⟩ : ∃ b, (r2.toList == s.toList) = b := ⟨_, rfl⟩
  have g3 : (r1.toList != []) = !b1 := by rw [← g1]; rfl
  rw [g1, g2]
  cases b1 <;> cases b2 <;> cases k
  all_goals
   go_enter Try.func13, Try.ntmps13
   go_wp2_with (first
    | (go_at_call 22; with_reducible refine HR1.out.mono ?_; rintro e w1 ⟨rfl, hb⟩; have HB1 := Lib.hid hb; clear hb)
    | (go_at_call 22; with_reducible refine (HR2.out _).mono ?_; rintro e w2 ⟨rfl, hb⟩; have HB2 := Lib.hid (below_trans HB1.out hb); clear hb)
    | (go_at_call 11; refine (HK.out _).mono ?_; rintro e w3 ⟨rfl, rfl⟩))
   go_ret
   first | exact ⟨rfl, HB2.out⟩ | exact ⟨rfl, HB1.out⟩
 ·have h8i : (8 : Int) < s.size := by omega
  rw [decide_eq_false h8, Bool.false_and, Bool.false_and, Bool.false_and]
  go_enter Try.func13, Try.ntmps13
  go_wp2_with fail
  go_ret
  exact ⟨rfl, Below.refl _ _⟩
end lx
namespace lx
set_option maxRecDepth 100000
open Go.ChangeShapes Go.WideShapes Go.ChangeAt Go.RowKit
open rows
open sec
open ly
theorem head_get (s : ByteArray) (h : 0 < s.size) : ((s[0]'h).toNat : Int) = headI s := by
 obtain ⟨t, ht⟩ := head_bys s h
 have h1 := get_bys h
 rw [ht, List.getElem?_cons_zero] at h1
 have h2 : s.get! 0 = s[0] := getElem!_pos s.data 0 h
 rw [h2] at h1
 exact (Option.some.inj h1).symm
theorem pre_eq (s : ByteArray) : Lib.hasPrefix s.data.toList ({ data := #[61, 61] } : ByteArray).data.toList = decide (headI s = 61 ∧ (bys s)[1]? = some 61) := by
 have u : ∀ c : UInt8, (61 : UInt8) = c ↔ (c.toNat : Int) = 61 := fun c => by
  constructor
  ·intro h; rw [← h]; rfl
  ·intro h
   apply UInt8.toNat_inj.1
   have : c.toNat = 61 := by omega
   rw [this]; rfl
 unfold headI bys
 show [(61 : UInt8), 61].isPrefixOf s.data.toList = _
 match s.data.toList with
 | [] => rfl
 | [c] => rw [Bool.eq_iff_iff]; simp [List.isPrefixOf]
 | c :: d :: t =>
  rw [Bool.eq_iff_iff, decide_eq_true_eq]
  simp only [List.isPrefixOf, Bool.and_true, Bool.and_eq_true, beq_iff_eq, List.map_cons, List.getD_cons_zero, List.getElem?_cons_succ, List.getElem?_cons_zero, Option.some.injEq, u]
theorem cut_at (s : ByteArray) {n : Nat} (h : n ≤ s.size) : s.extract 0 n = strOfNums ((bys s).take n) := by
 rw [← bys_head s h, strOf_bys]
theorem tok_is {c : Int} {t : List Int} : tokN (c :: t) = if letB c then ((c :: t).takeWhile innB).length
  else if digB c then ((c :: t).takeWhile digB).length
  else if c = 34 then min ((t.takeWhile fun x => x != 34).length + 2) (t.length + 1)
  else if c = 61 ∧ t.head? = some 61 then 2
  else 1 := rfl
set_option maxRecDepth 100000 in
set_option maxHeartbeats 2000000 in
theorem cut_any (s : ByteArray) (w : World) (h0 : 0 < s.size) (hs : s.size ≤ 100000) : Calls Try.prog 18 #[.string s] w fun e w' => e = .returned (.string (strOfNums ((bys s).take (tokN (bys s))))) ∧ Below w.heap.size w w' := by
 obtain ⟨t, ht⟩ := head_bys s h0
 have hg := head_get s h0
 have htl : t.length + 1 = s.size := by have := bys_len s; rw [ht, List.length_cons] at this; exact this
 have hbn := bys_bytes s (headI s) (by rw [ht]; exact List.mem_cons_self)
 have HR1 := Lib.hid fun w' => run_any s w' (cls_inName w') hs
 have HR2 := Lib.hid fun w' => run_any s w' (cls_digit w') hs
 have HL := Lib.hid fun w' => letter_any (headI s) w'
 have HD := Lib.hid fun w' => digit_any (headI s) w'
 have tk := tok_is (c := headI s) (t := t)
 rw [← ht] at tk
 have hp := pre_eq s
 have HPX := Lib.hid fun w' => Try.strings_HasPrefix s { data := #[61, 61] } w'
 rw [hp] at HPX
 have hs9 : (s.size : Int) ≤ 100000 := by omega
 have hs0 : (0 : Int) < s.size := by omega
 have hw32 : IntKind.i32.wrap (headI s) = headI s := IntWalk.i32_in _ (by omega)
 cases hl : letB (headI s) with
 | true =>
  rw [hl] at HL
  rw [tk, if_pos hl, take_while]
  clear tk HD HR2 HPX hp ht htl
  generalize headI s = c at *
  go_enter Try.func18, Try.ntmps18
  go_wp2_with (first
   | (go_at_call 23; refine (HL.out _).mono ?_; rintro e w1 ⟨rfl, rfl⟩)
   | (go_at_call 22; with_reducible refine (HR1.out _).mono ?_; rintro e w2 ⟨rfl, hb⟩; have HB2 := Lib.hid hb; clear hb))
  go_ret
  exact ⟨rfl, HB2.out⟩
 | false =>
  rw [hl] at HL
  cases hd : digB (headI s) with
  | true =>
   rw [hd] at HD
   rw [tk, if_neg (by rw [hl]; decide), if_pos hd, take_while]
   clear tk HR1 HPX hp ht htl
   generalize headI s = c at *
   go_enter Try.func18, Try.ntmps18
   go_wp2_with (first
    | (go_at_call 23; refine (HL.out _).mono ?_; rintro e w1 ⟨rfl, rfl⟩)
    | (go_at_call 35; refine (HD.out _).mono ?_; rintro e w1 ⟨rfl, rfl⟩)
    | (go_at_call 22; with_reducible refine (HR2.out _).mono ?_; rintro e w2 ⟨rfl, hb⟩; have HB2 := Lib.hid hb; clear hb))
   go_ret
   exact ⟨rfl, HB2.out⟩
  | false =>
   rw [hd] at HD
   rw [tk, if_neg (by rw [hl]; decide), if_neg (by rw [hd]; decide)]
   by_cases h34 : headI s = 34
   ·rw [if_pos h34]
    have ht1 : bys (s.extract 1 s.size) = t := by rw [bys_extract s (by omega), ht]; rfl
    have HR3 := Lib.hid fun w' g lb (h : Cls g lb (fun c => c != 34) w') => run_any (s.extract 1 s.size) w' h (by rw [ByteArray.size_extract]; omega)
    rw [ht1] at HR3
    have hz : (strOfNums (t.takeWhile fun x => x != 34)).size = (t.takeWhile fun x => x != 34).length := strOfNums_size _
    have hzl : (t.takeWhile fun x => x != 34).length ≤ t.length := (List.takeWhile_prefix _).length_le
    have HZ : Hid (strOfNums ((bys s).take (min ((t.takeWhile fun x => x != 34).length + 2) (t.length + 1))) = s.extract 0 (min (((strOfNums (t.takeWhile fun x => x != 34)).size : Int) + 2) (s.size : Int)).toNat) := Lib.hid (by
     rw [hz, htl, show (min (((t.takeWhile fun x => x != 34).length : Int) + 2) (s.size : Int)).toNat = min ((t.takeWhile fun x => x != 34).length + 2) s.size by omega, cut_at s (by omega)])
    generalize strOfNums (t.takeWhile fun x => x != 34) = r at *
    have hs1 : (1 : Int) ≤ s.size := by omega
    have hr9 : (r.size : Int) + 2 ≤ 9223372036854775807 := by omega
    have HBN := Lib.hid fun w' => but_any 34 w'
    clear tk HR1 HR2 HPX hp ht ht1 htl hzl hl hd hz
    rw [h34] at HL HD hg hw32
    clear h34 hbn
    go_enter Try.func18, Try.ntmps18
    go_upto_region 7 with (first
     | (go_at_call 23; refine (HL.out _).mono ?_; rintro e w1 ⟨rfl, hw⟩; obtain rfl := hw.symm)
     | (go_at_call 35; refine (HD.out _).mono ?_; rintro e w1 ⟨rfl, hw⟩; obtain rfl := hw.symm))
    refine wp_region_held_drew (S := ext w.drew) (by kernel_rfl) (Below.refl _ _) (fun hH0 => ?_)
    have h0 : Below w.drew.heap.size w.drew w.drew := Below.refl _ _
    refine wpAnyH_take (i := 0) (oi := { dst := some 21, op := Op.move (Operand.tmp 0), type := 9, pos := "lex.go:85", after := #[], guard := none }) (v := ?_) rfl (by kernel_rfl) (by kernel_rfl) (by kernel_rfl) (fun _ _ _ h => h) (Or.inl ⟨by rfl, ?_⟩) (by assumption) ?_
    rotate_left
    ·(intro w' hSw; go_simp; try with_reducible rfl)
    try simp only [Act.put, List.setIfInBounds_toArray, List.set_cons_zero, List.set_cons_succ]
    refine wpAnyH_take (i := 1) (oi := { dst := some 22, op := Op.slice 9 (Operand.tmp 21) (some (Operand.const (Value.int IntKind.i64 1))) none none, type := 9, pos := "lex.go:85", after := #[{ on := 0, ground := Ground.data }], guard := none }) (v := ?_) rfl (by kernel_rfl) (by kernel_rfl) (by kernel_rfl) (fun _ _ _ h => h) (Or.inl ⟨by rfl, ?_⟩) (by assumption) ?_
    rotate_left
    ·(intro w' hSw; go_simp; try with_reducible rfl)
    try simp only [Act.put, List.setIfInBounds_toArray, List.set_cons_zero, List.set_cons_succ]
    refine wpAnyH_ready (rs := [2]) (by kernel_rfl) (by simp) ?_
    refine AllReadyH.cons (o := { dst := some 23, op := Op.call { callee := Callee.value (Operand.func 34), args := #[Operand.const (Value.int IntKind.i32 34)], argTypes := #[21] }, type := 46, pos := "lex.go:85", after := #[], guard := none }) rfl (fun K hK => ?_) AllReadyH.nil
    go_simp
    refine (HBN.out _).mono ?_
    rintro e v1 ⟨rfl, hw3⟩
    have h1 : Below w.drew.heap.size w.drew v1 := by rw [hw3]; exact below_alloc h0 _
    have HC3 := Lib.hid (cls_but (k := 34) (by omega) (w := v1) (by rw [hw3]; exact heap_alloc_new _ _))
    clear hw3
    dsimp only
    refine hK.out _ _ h1 (fun hHeld => ?_)
    clear hK K
    try simp only [Act.put, List.setIfInBounds_toArray, List.set_cons_zero, List.set_cons_succ]
    refine wpAnyH_ready (rs := [3]) (by kernel_rfl) (by simp) ?_
    refine AllReadyH.cons (o := { dst := some 24, op := Op.call { callee := Callee.value (Operand.func 22), args := #[Operand.tmp 22, Operand.tmp 23], argTypes := #[9, 46] }, type := 9, pos := "lex.go:85", after := #[{ on := 1, ground := Ground.data }, { on := 2, ground := Ground.data }, { on := 2, ground := Ground.chain }], guard := none }) rfl (fun K hK => ?_) AllReadyH.nil
    go_simp
    refine (HR3.out _ _ _ HC3.out).mono ?_
    rintro e v2 ⟨rfl, hb⟩
    have h2 : Below w.drew.heap.size w.drew v2 := below_trans h1 hb
    have HB4 := Lib.hid (show Below w.heap.size w v2 from below_trans (Below.refl _ _).drew h2)
    clear hb
    dsimp only
    refine hK.out _ _ h2 (fun hHeld => ?_)
    clear hK K
    try simp only [Act.put, List.setIfInBounds_toArray, List.set_cons_zero, List.set_cons_succ]
    refine wpAnyH_take (i := 4) (oi := { dst := some 4, op := Op.assign (Operand.tmp 24), type := 9, pos := "lex.go:85", after := #[{ on := 3, ground := Ground.data }, { on := 3, ground := Ground.chain }, { on := 0, ground := Ground.phase }, { on := 1, ground := Ground.phase }, { on := 2, ground := Ground.phase }, { on := 3, ground := Ground.phase }], guard := none }) (v := ?_) rfl (by kernel_rfl) (by kernel_rfl) (by kernel_rfl) (fun _ _ _ h => h) (Or.inl ⟨by rfl, ?_⟩) (by assumption) ?_
    rotate_left
    ·(intro w' hSw; go_simp; try with_reducible rfl)
    try simp only [Act.put, List.setIfInBounds_toArray, List.set_cons_zero, List.set_cons_succ]
    refine wpAnyH_done (by kernel_rfl) ?_ _
    go_wp2_with fail
    go_ret
    exact ⟨by rw [HZ.out]; rfl, HB4.out⟩
   ·rw [if_neg h34]
    have e2 : (headI s = 61 ∧ t.head? = some 61) ↔ (headI s = 61 ∧ (bys s)[1]? = some 61) := by rw [ht, List.getElem?_cons_succ, List.head?_eq_getElem?]
    have h34b : (headI s == 34) = false := beq_eq_false_iff_ne.2 h34
    by_cases h61 : headI s = 61 ∧ (bys s)[1]? = some 61
    ·rw [if_pos (e2.2 h61)]
     rw [decide_eq_true h61] at HPX
     have h2 : 2 ≤ s.size := by
      have := h61.2
      rw [List.getElem?_eq_some_iff] at this
      obtain ⟨h, _⟩ := this
      rw [bys_len] at h; omega
     have hs2 : (2 : Int) ≤ s.size := by omega
     have HE := Lib.hid (cut_at s (n := 2) h2)
     clear tk HR1 HR2 hp ht htl h61 e2 hl hd
     generalize headI s = c at *
     go_enter Try.func18, Try.ntmps18
     go_wp2_with (first
      | (go_at_call 23; refine (HL.out _).mono ?_; rintro e w1 ⟨rfl, rfl⟩)
      | (go_at_call 35; refine (HD.out _).mono ?_; rintro e w1 ⟨rfl, rfl⟩)
      | (go_at_call 33; refine (HPX.out _).mono ?_; rintro e w2 ⟨rfl, rfl⟩))
     go_ret
     exact ⟨by rw [← HE.out]; rfl, Below.refl _ _⟩
    ·rw [if_neg (fun h => h61 (e2.1 h))]
     rw [decide_eq_false h61] at HPX
     have HE := Lib.hid (cut_at s (n := 1) h0)
     have hs1 : (1 : Int) ≤ s.size := by omega
     clear tk HR1 HR2 hp ht htl h61 e2 hl hd
     generalize headI s = c at *
     go_enter Try.func18, Try.ntmps18
     go_wp2_with (first
      | (go_at_call 23; refine (HL.out _).mono ?_; rintro e w1 ⟨rfl, rfl⟩)
      | (go_at_call 35; refine (HD.out _).mono ?_; rintro e w1 ⟨rfl, rfl⟩)
      | (go_at_call 33; refine (HPX.out _).mono ?_; rintro e w2 ⟨rfl, rfl⟩))
     go_ret
     exact ⟨by rw [← HE.out]; rfl, Below.refl _ _⟩
end lx
namespace lx
set_option maxRecDepth 100000
open Go.ChangeShapes Go.WideShapes Go.ChangeAt Go.RowKit
open rows
open sec
open ly
open dsk (cell_row)
abbrev Wd.c (a : Wd) : List Value := [.int .i64 a.kind, .string a.s, .int .i64 a.n, .int .i64 a.pos]
abbrev aggW (a : Wd) : Value := .agg #[.int .i64 a.kind, .string a.s, .int .i64 a.n, .int .i64 a.pos]
def wordsC (t : List Wd) : List Value := (t.map Wd.c).flatten
theorem wordsC_app (t u : List Wd) : wordsC (t ++ u) = wordsC t ++ wordsC u := by simp [wordsC]
theorem elem_words : Elem 23 33 4 40 (.agg #[.int .i64 0, .string ByteArray.empty, .int .i64 0, .int .i64 0]) := ⟨Try.underlying23, by kernel_rfl, by decide, by decide, by decide⟩
def AtW (w : World) (g : Nat) (x : Wd) : Prop := w.heap[g]? = some (.cells #[.int .i64 x.kind, .string x.s, .int .i64 x.n, .int .i64 x.pos] 33 (0, 0))
theorem AtW.lt {w : World} {g : Nat} {x : Wd} (h : AtW w g x) : g < w.heap.size := (Array.getElem?_eq_some_iff.1 h).1
theorem AtW.later {w w' : World} {g : Nat} {x : Wd} (h : AtW w g x) (k : Below w.heap.size w w') : AtW w' g x := (k.block g h.lt).trans h
theorem atW_new (w : World) (x : Wd) : AtW (w.alloc (.cells #[.int .i64 x.kind, .string x.s, .int .i64 x.n, .int .i64 x.pos] 33)) w.heap.size x := heap_alloc_new _ _
theorem AtW.c0 {w : World} {g : Nat} {x : Wd} (h : AtW w g x) : w.cell? ⟨g, 0, none⟩ = some (.int .i64 x.kind) := cell_row h 0 _ rfl
theorem AtW.c1 {w : World} {g : Nat} {x : Wd} (h : AtW w g x) : w.cell? ⟨g, 1, none⟩ = some (.string x.s) := cell_row h 1 _ rfl
theorem AtW.c2 {w : World} {g : Nat} {x : Wd} (h : AtW w g x) : w.cell? ⟨g, 2, none⟩ = some (.int .i64 x.n) := cell_row h 2 _ rfl
theorem AtW.c3 {w : World} {g : Nat} {x : Wd} (h : AtW w g x) : w.cell? ⟨g, 3, none⟩ = some (.int .i64 x.pos) := cell_row h 3 _ rfl
theorem info_word : (Try.prog.info? 33).map (·.size) = some 4 := by kernel_rfl
theorem store_word {ops : Array Oper} {rest : List Oper} {o : Oper} {a : Act} {w : World} {Q : Exit → Act → World → Prop} (hgd : o.guard = none) (p y : Operand) (ho : o.op = .store 33 p y) (hd : o.dst = none)
  (g : Nat) (x old : Wd) (hp : a.eval p = .pointer (some ⟨g, 0, none⟩)) (hy : a.eval y = aggW x) (hg : AtW w g old)
  (h : ∀ w', AtW w' g x → Below g w w' → w'.heap.size = w.heap.size → wpList Try.prog ops Q rest a w') : wpList Try.prog ops Q (o :: rest) a w := by
 refine wpList_store_row hgd 33 p y ho g #[.int .i64 x.kind, .string x.s, .int .i64 x.n, .int .i64 x.pos] hp hy 33 _ hg (by rw [info_word]; rfl) rfl (by simp [Value.oneCell']) ?_
 rw [hd]
 exact h _ (setRow_heap w g _ _ _ _ hg) ((Below.refl g w).trans ⟨rfl, rfl, rfl, by simp [World.setRow], fun k hk => setRow_other w g k _ (by omega)⟩) (by simp [World.setRow])
theorem load_word {ops : Array Oper} {rest : List Oper} {o : Oper} {a : Act} {w : World} {Q : Exit → Act → World → Prop} (hgd : o.guard = none) (x : Operand) (ho : o.op = .load 33 x)
  (b off : Nat) (hx : a.eval x = .pointer (some ⟨b, off, none⟩)) (y : Wd) (h0 : w.cell? ⟨b, off, none⟩ = some (.int .i64 y.kind)) (h1 : w.cell? ⟨b, off + 1, none⟩ = some (.string y.s)) (h2 : w.cell? ⟨b, off + 2, none⟩ = some (.int .i64 y.n)) (h3 : w.cell? ⟨b, off + 3, none⟩ = some (.int .i64 y.pos))
  (h : wpList Try.prog ops Q rest (a.put o.dst (aggW y)) w) : wpList Try.prog ops Q (o :: rest) a w :=
 wpList_load_mid hgd 33 x ho b off hx [.int .i64 y.kind, .string y.s, .int .i64 y.n, .int .i64 y.pos] _ (fun j u hj => by
  match j, hj with
  | 0, hj => cases hj; exact h0
  | 1, hj => cases hj; exact h1
  | 2, hj => cases hj; exact h2
  | 3, hj => cases hj; exact h3
  | j + 4, hj => simp at hj) Try.underlying33 rfl (by rw [info_word]; rfl) h
theorem ret_word2 {fn : Func} {p q : Tmp} {R : Ending → World → Prop} {a : Act} {w : World} (h : fn.results = #[.cell p 33, .tmp q]) (g : Nat) (x : Wd) (v : Value) (hp : a.tmps.getD p undef = .pointer (some ⟨g, 0, none⟩)) (hq : a.tmps.getD q undef = v) (hg : AtW w g x)
  (hd : a.defers = []) (hR : R (.returned (.tuple #[aggW x, v])) w) : bodyPost Try.prog fn R .ret a w := by
 refine bodyPost_ret (v := .tuple #[aggW x, v]) ?_ hd hR
 have hp' : a.tmps[p]?.getD undef = .pointer (some ⟨g, 0, none⟩) := by simpa using hp
 have hq' : a.tmps[q]?.getD undef = v := by simpa using hq
 have hl := run_loadVar_row (P := Try.prog) w g _ 33 _ _ _ hg Try.underlying33 rfl (by rw [info_word]; rfl)
 simp [results, h, hp', hq', asAddr, hl]
theorem ret_word1 {fn : Func} {p : Tmp} {R : Ending → World → Prop} {a : Act} {w : World} (h : fn.results = #[.cell p 33]) (g : Nat) (x : Wd) (hp : a.tmps.getD p undef = .pointer (some ⟨g, 0, none⟩)) (hg : AtW w g x)
  (hd : a.defers = []) (hR : R (.returned (aggW x)) w) : bodyPost Try.prog fn R .ret a w :=
 bodyPost_ret (results_cell_row h a.tmps w g _ _ _ _ hp hg Try.underlying33 rfl (by rw [info_word]; rfl)) hd hR
theorem zero_word (w : World) : AtW (w.alloc (.cells #[.int .i64 0, .string { data := #[] }, .int .i64 0, .int .i64 0] 33)) w.heap.size wd0 := heap_alloc_new _ _
set_option maxRecDepth 100000 in
theorem clone_any (s : ByteArray) (w : World) (hs : s.size ≤ 100000) : Calls Try.prog 45 #[.string s] w fun e w' => e = .returned (.string s) ∧ Below w.heap.size w w' := by
 have HC := Lib.hid (Try.stringslite_Clone s w (by omega))
 go_enter Try.func45, Try.ntmps45
 go_wp2_with (go_at_call 55; refine HC.out.mono ?_; rintro e w1 ⟨rfl, hb⟩; have HB := Lib.hid hb; clear hb)
 go_ret
 exact ⟨rfl, HB.out⟩
set_option maxRecDepth 100000 in
theorem named_any (k : Int) (s : ByteArray) (w : World) (hs : s.size ≤ 100000) : Calls Try.prog 36 #[.int .i64 k, .string s] w fun e w' => e = .returned (aggW ⟨k, s, 0, 0⟩) ∧ Below w.heap.size w w' := by
 have HC := Lib.hid fun w' => clone_any s w' hs
 have A0 := Lib.hid (zero_word w)
 have B0 := Lib.hid (below_alloc (Below.refl w.heap.size w) (.cells #[.int .i64 0, .string { data := #[] }, .int .i64 0, .int .i64 0] 33))
 go_enter Try.func36, Try.ntmps36
 go_wp2_with (first
  | (go_at_call 45; refine (HC.out _).mono ?_; rintro e w1 ⟨rfl, hb⟩; have A1 := Lib.hid (A0.out.later hb); have B1 := Lib.hid (below_trans B0.out hb); clear hb)
  | (refine wpList_buildTo rfl 33 #[(0, .tmp 5), (1, .tmp 7)] rfl (some 8) rfl #[.int .i64 k, .string s, .int .i64 0, .int .i64 0] (by kernel_rfl) ?_)
  | (refine store_word rfl (.tmp 4) (.tmp 8) rfl rfl w.heap.size ⟨k, s, 0, 0⟩ _ rfl rfl A1.out ?_; intro w2 hA hB hZ; have A2 := Lib.hid hA; have B2 := Lib.hid (B1.out.trans hB); clear hA hB hZ))
 exact ret_word1 rfl w.heap.size _ rfl A2.out rfl ⟨rfl, B2.out⟩
end lx
end Go.Proofs.Ytahcndkifplekaa
