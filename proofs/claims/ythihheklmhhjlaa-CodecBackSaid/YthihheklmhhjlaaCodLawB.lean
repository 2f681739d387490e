/- The walk of CodecBack. -/
import Derived.Test.YthihheklmhhjlaaCodRegion
import Derived.Deep.RegionLaw
import Derived.Deep.DrawnRows
namespace Go.Proofs.Ythihheklmhhjlaa.cod
open Go.ChangeShapes Go.WideShapes Go.ChangeAt Go.RowKit
open Go.Proofs.Ythihheklmhhjlaa.codMath
set_option linter.unusedVariables false
attribute [local go_sem ↓] Go.wp_at_zero Go.wp_at_succ

theorem run_ap_rd {w : World} (ty : TypeId) (B : Nat) (v : Value) (xs ys : List Int) (hown : Own w B v xs) (y : Value) (hrd : Rd w y ys) (hl : xs.length + ys.length ≤ 1000000) (hB : B ≤ w.heap.size) :
    ∃ p n c w', (Builtin.append_ #[22, 22] ty #[v, y]).run Try.prog w = .ok (.slice p n c) w' ∧ Own w' B (.slice p n c) (xs ++ ys) ∧ Below B w w' := by
  obtain ⟨i0, hi, hz0, hz1, hz2⟩ := info_parts info8
  have key : ∀ (ad : Addr) (m c : Nat), y = .slice (some ad) m c → ys.length = m → (∀ j u, (ys.map (Value.int .u8))[j]? = some u → w.cell? (ad.add j) = some u) → ∃ p n c w', (Builtin.append_ #[22, 22] ty #[v, y]).run Try.prog w = .ok (.slice p n c) w' ∧ Own w' B (.slice p n c) (xs ++ ys) ∧ Below B w w' := by
    intro ad m c hy hm hc
    subst hy
    obtain ⟨v', w', hr, h1, h2, _⟩ := run_append_own (P := Try.prog) w B 22 ty 5 i0 (.int .u8 0) 1 1 Try.underlying22 hi hz0 hz1 hz2 rfl (by decide) v xs.length (xs.map (Value.int .u8)) hown ad m c (ys.map (Value.int .u8)) (by simp [hm]) hc (by intro u hu; obtain ⟨z, _, rfl⟩ := List.mem_map.1 hu; rfl) (by unfold maxLen; omega) (by omega) hB
    have h1' : Own w' B v' (xs ++ ys) := by
      unfold Own
      rw [List.length_append, hm, List.map_append]; exact h1
    obtain ⟨p, c', rfl, h3, h4⟩ := own_out hown hB h1' h2
    exact ⟨p, _, c', w', hr, h3, h4⟩
  rcases hrd with ⟨p, cap, rfl, rfl, hp⟩ | ⟨b, off, cap, rfl, h2, h2a, h2b, h3, h4⟩
  · cases p with
    | none =>
      obtain rfl := hp rfl
      have hr := run_append_owned_none (P := Try.prog) (w := w) B 22 ty 5 i0 1 Try.underlying22 hi v xs.length (xs.map (Value.int .u8)) hown
      obtain ⟨p, c, hv⟩ := hown.slice
      subst hv
      exact ⟨p, _, c, w, hr, by rw [List.append_nil]; exact hown, Below.refl B w⟩
    | some ad => exact key ad 0 cap rfl rfl (by simp)
  · refine key ⟨b, off, none⟩ ys.length cap rfl rfl ?_
    intro j u hj
    have hjl : j < ys.length := by
      have := (List.getElem?_eq_some_iff.1 hj).1
      simpa using this
    have hadd : (⟨b, off, none⟩ : Addr).add j = ⟨b, off + j, none⟩ := by unfold Addr.add; split <;> simp_all
    rw [hadd, h4 j hjl, ← hj]
    simp [List.getD, hjl]
/-- append as one step of a region that draws its order -/
theorem step_ap_rd {w : World} {ops : Array Oper} {o : Oper} {a : Act} {K : Act → World → Prop} {Q : Exit → Act → World → Prop} {E : Prop} (hw : Region.wanted o (yielded ops a.tmps) = true) (s x : Operand)
    (ho : o.op = .call { callee := .builtin .append, args := #[s, x], argTypes := #[22, 22] })
    (B : Nat) (v : Value) (xs ys : List Int) (hs : a.eval s = v) (hown : Own w B v xs) (y : Value) (hx : a.eval x = y) (hrd : Rd w y ys) (hl : xs.length + ys.length ≤ 1000000) (hB : B ≤ w.heap.size)
    (h : ∀ p n c w', Own w' B (.slice p n c) (xs ++ ys) → Below B w w' → K (a.put o.dst (.slice p n c)) w') :
    if Region.wanted o (yielded ops a.tmps) = true then Oper.wp Try.prog o a w K Q else E := by
  rw [if_pos hw]
  obtain ⟨p, n, c, w', hr, h1, h2⟩ := run_ap_rd (w := w) o.type B v xs ys hown y hrd hl hB
  unfold Oper.wp
  simp [execOp, ho, resolve, invoke, builtin, hs, hx, hr, Result.andThen]
  exact h p n c w' h1 h2

/-- what the walk knows of the bytes that are given -/
structure BackIn (w : World) (p : Option Addr) (len cap : Nat) (zs : List Int) (N : Nat) (m : Int) (s : ByteArray) : Prop where
  rd : Rd w (.slice p len cap) zs
  small : zs.length ≤ 500
  str : s.size ≤ 500
  num : N < 18446744073709551616
  int : (Lit.int .i64 m).wf = true
theorem dec_u {zs : List Int} {N : Nat} (h : N < 18446744073709551616) : Dec (ue N ++ zs) N zs := ⟨h, rfl⟩
theorem dec_s {zs : List Int} {s : ByteArray} (h : s.size ≤ 500) : Dec (ue s.size ++ sb s ++ zs) s.size (sb s ++ zs) := ⟨by omega, by rw [List.append_assoc]⟩
theorem take_s (zs : List Int) (s : ByteArray) : strOfNums ((sb s ++ zs).take s.size) = s := by
  rw [List.take_left' (sb_len s), sb_str]
theorem drop_s (zs : List Int) (s : ByteArray) : (sb s ++ zs).drop s.size = zs := List.drop_left' (sb_len s)

set_option maxHeartbeats 1600000 in
theorem walk_back (p : Option Addr) (len cap : Nat) (zs : List Int) (N : Nat) (m : Int) (s : ByteArray) (w : World) (hin : BackIn w p len cap zs N m s)
    (hend : (∃ M t, Dec zs M t) ∨ (NoDec zs ∧ ∀ i, 0 ≤ zs.getD i 0 ∧ zs.getD i 0 < 256)) :
    Calls Try.prog 5 #[.slice p len cap, .int .u64 (N : Int), .int .i64 m, .string s] w fun e w' => e = .returned (.bool true) ∧ Below w.heap.size w w' := by
  have HI := Lib.hid hin
  have HE := Lib.hid hend
  have hlz := hin.rd.len
  have h1 : decide (500 < (len:Int)) = false := by have := hin.small; simp; omega
  have h2 : decide (500 < (s.size:Int)) = false := by have := hin.str; simp; omega
  have hs2 : (s.size : Int) ≤ 500 := by have := hin.str; omega
  have HL : Hid (∀ k, k < 18446744073709551616 → (ue k).length ≤ 10) := Lib.hid fun k h => ue_len h
  have HFM := Lib.hid (fo_lt (wf_i64 hin.int))
  have HUF := Lib.hid (uf_fo m)
  clear hin hend hlz
  go_enter Try.func5, Try.ntmps5
  go_wp2_with (go_at_call 6; refine (knows_any _).mono ?_; rintro e w1 ⟨rfl, hb1⟩)
  refine (uint_any _ _ _ [] N _ HI.out.num (rd_nil _) (by decide)).mono ?_
  rintro e w2 ⟨p2, n2, c2, rfl, ho2, hb2⟩
  rw [List.nil_append] at ho2
  have HO2 := Lib.hid ho2
  clear ho2
  have hbw2 := below_trans hb1 hb2
  go_wp2_with (at_builtin; refine ap_rd rfl (.tmp 36) (.tmp 37) rfl w1.heap.size _ (ue N) zs rfl HO2.out _ rfl (HI.out.rd.later hbw2) (by have := HL.out N HI.out.num; have := HI.out.small; omega) hb2.size ?_; intro p3 n3 c3 w3 hnn ho3 hb3; clear hnn; have HO3 := Lib.hid ho3; clear ho3; have hbw3 := below_trans' hbw2 hb3 hb1.size)
  refine (take_yes _ _ _ _ zs N _ (dec_u HI.out.num) HO3.out.rd (by have := HL.out N HI.out.num; have := HI.out.small; rw [List.length_append]; omega)).mono ?_
  rintro e w4 ⟨p4, n4, c4, rfl, hr4, hb4⟩
  have HR4 := Lib.hid hr4
  clear hr4
  have hbw4 := below_trans hbw3 hb4
  go_wp2_with fail
  refine (int_any _ _ _ [] m _ HI.out.int (rd_nil _) (by decide)).mono ?_
  rintro e w5 ⟨p5, n5, c5, rfl, ho5, hb5⟩
  rw [List.nil_append] at ho5
  have HO5 := Lib.hid ho5
  clear ho5
  have hbw5 := below_trans hbw4 hb5
  go_wp2_with (at_builtin; refine ap_rd rfl (.tmp 45) (.tmp 46) rfl w4.heap.size _ (ue (fo m)) zs rfl HO5.out _ rfl (HI.out.rd.later hbw5) (by have := HL.out _ HFM.out; have := HI.out.small; omega) hb5.size ?_; intro p6 n6 c6 w6 hnn ho6 hb6; clear hnn; have HO6 := Lib.hid ho6; clear ho6; have hbw6 := below_trans' hbw5 hb6 hbw4.size)
  refine (takei_yes _ _ _ _ zs (fo m) _ (dec_u HFM.out) HO6.out.rd (by have := HL.out _ HFM.out; have := HI.out.small; rw [List.length_append]; omega)).mono ?_
  rintro e w7 ⟨p7, n7, c7, rfl, hr7, hb7⟩
  rw [HUF.out]
  have HR7 := Lib.hid hr7
  clear hr7
  have hbw7 := below_trans hbw6 hb7
  go_wp2_with fail
  refine (text_any _ _ _ [] s _ (by have := HI.out.str; omega) (rd_nil _) (by decide)).mono ?_
  rintro e w8 ⟨p8, n8, c8, rfl, ho8, hb8⟩
  rw [List.nil_append] at ho8
  have HO8 := Lib.hid ho8
  clear ho8
  have hbw8 := below_trans hbw7 hb8
  go_wp2_with (at_builtin; refine ap_rd rfl (.tmp 54) (.tmp 55) rfl w7.heap.size _ (ue s.size ++ sb s) zs rfl HO8.out _ rfl (HI.out.rd.later hbw8) (by have := HL.out s.size (by have := HI.out.str; omega); have := HI.out.small; have := HI.out.str; have := sb_len s; rw [List.length_append]; omega) hb8.size ?_; intro p9 n9 c9 w9 hnn ho9 hb9; clear hnn; have HO9 := Lib.hid ho9; clear ho9; have hbw9 := below_trans' hbw8 hb9 hbw7.size)
  refine (taket_yes _ _ _ _ (sb s ++ zs) s.size 500 _ (dec_s HI.out.str) (by decide) (by have := HI.out.str; omega) (by decide) (by rw [List.length_append, sb_len]; omega) HO9.out.rd (by have := HL.out s.size (by have := HI.out.str; omega); have := HI.out.small; have := HI.out.str; have := sb_len s; simp only [List.length_append]; omega)).mono ?_
  rintro e wa ⟨pa, na, ca, rfl, hra, hba⟩
  rw [take_s, drop_s] at *
  have HRA := Lib.hid hra
  have hbwa := below_trans hbw9 hba
  have cva := conv_rd hra
  have cv4 := conv_rd (HR4.out.later (below_trans (below_trans' (below_trans (below_trans' hb5 hb6 (Nat.le_refl _)) hb7) (Below.refl _ _) (Nat.le_refl _)) (below_trans (below_trans' hb8 hb9 (Nat.le_refl _)) hba)))
  have cv7 := conv_rd (HR7.out.later (below_trans (below_trans' hb8 hb9 (Nat.le_refl _)) hba))
  have cvb := conv_rd (HI.out.rd.later hbwa)
  clear hra
  go_wp2_with fail
  rcases HE.out with ⟨M, t, hd⟩ | ⟨hn, hwf⟩
  · refine (take_yes _ _ _ zs t M _ hd (HI.out.rd.later hbwa) (by have := HI.out.small; omega)).mono ?_
    rintro e wb ⟨pb, nb, cb, rfl, hrb, hbb⟩
    have HRB := Lib.hid hrb
    have HMB := Lib.hid hd.1
    have HD := Lib.hid hd.2
    have HLB : Hid (t.length ≤ 500) := Lib.hid (by have := HI.out.small; have h := congrArg List.length hd.2; rw [List.length_append] at h; omega)
    have hbwb := below_trans hbwa hbb
    have HCB := Lib.hid (HI.out.rd.later hbwb).conv
    have cvc := HCB.out wb.drew (Below.refl _ _).drew
    clear hrb hd cva cv4 cv7 cvb
    go_wp2_with fail
    refine wp_region_held_drew (S := ext wb.drew) (by kernel_rfl) (Below.refl _ _) (fun hH0 => ?_)
    refine wpAnyH_take (i := 0) (oi := { dst := some 113, op := Op.move (Operand.tmp 20), type := 4, pos := "law.go:49", after := #[], guard := none }) (v := ?_) rfl (by kernel_rfl) (by kernel_rfl) (by kernel_rfl) (fun _ _ _ h => h) (Or.inl ⟨by rfl, ?_⟩) (by assumption) ?_
    rotate_left
    · (intro w' hSw; go_simp; try with_reducible rfl)
    try simp only [Act.put, List.setIfInBounds_toArray, List.set_cons_zero, List.set_cons_succ]
    refine wpAnyH_take (i := 1) (oi := { dst := some 114, op := Op.unOp UnOp.not 4 (Operand.tmp 113), type := 4, pos := "law.go:49", after := #[{ on := 0, ground := Ground.data }], guard := none }) (v := ?_) rfl (by kernel_rfl) (by kernel_rfl) (by kernel_rfl) (fun _ _ _ h => h) (Or.inl ⟨by rfl, ?_⟩) (by assumption) ?_
    rotate_left
    · (intro w' hSw; go_simp; try with_reducible rfl)
    try simp only [Act.put, List.setIfInBounds_toArray, List.set_cons_zero, List.set_cons_succ]
    refine wpAnyH_take (i := 2) (oi := { dst := some 115, op := Op.move (Operand.tmp 114), type := 4, pos := "law.go:49", after := #[{ on := 1, ground := Ground.data }], guard := none }) (v := ?_) rfl (by kernel_rfl) (by kernel_rfl) (by kernel_rfl) (fun _ _ _ h => h) (Or.inl ⟨by rfl, ?_⟩) (by assumption) ?_
    rotate_left
    · (intro w' hSw; go_simp; try with_reducible rfl)
    try simp only [Act.put, List.setIfInBounds_toArray, List.set_cons_zero, List.set_cons_succ]
    refine wpAnyH_take (i := 3) (oi := { dst := some 116, op := Op.move (Operand.tmp 18), type := 23, pos := "law.go:49", after := #[{ on := 2, ground := Ground.guard }], guard := some (2, true) }) (v := undef) rfl (by kernel_rfl) (by kernel_rfl) (by kernel_rfl) (fun _ _ _ h => h) (Or.inr ⟨by rfl, rfl⟩) (by assumption) ?_
    try simp only [Act.put, List.setIfInBounds_toArray, List.set_cons_zero, List.set_cons_succ]
    refine wpAnyH_take (i := 4) (oi := { dst := some 117, op := Op.binOp BinOp.eql 23 (Operand.tmp 116) (Operand.const (Value.int IntKind.u64 0)) 23, type := 4, pos := "law.go:49", after := #[{ on := 3, ground := Ground.data }, { on := 2, ground := Ground.guard }], guard := some (2, true) }) (v := undef) rfl (by kernel_rfl) (by kernel_rfl) (by kernel_rfl) (fun _ _ _ h => h) (Or.inr ⟨by rfl, rfl⟩) (by assumption) ?_
    try simp only [Act.put, List.setIfInBounds_toArray, List.set_cons_zero, List.set_cons_succ]
    refine wpAnyH_take (i := 5) (oi := { dst := some 118, op := Op.pick (Operand.tmp 115) (Operand.tmp 117) (Operand.const (Value.bool false)), type := 4, pos := "law.go:49", after := #[{ on := 2, ground := Ground.data }, { on := 4, ground := Ground.data }], guard := none }) (v := ?_) rfl (by kernel_rfl) (by kernel_rfl) (by kernel_rfl) (fun _ _ _ h => h) (Or.inl ⟨by rfl, ?_⟩) (by assumption) ?_
    rotate_left
    · (intro w' hSw; go_simp; try with_reducible rfl)
    try simp only [Act.put, List.setIfInBounds_toArray, List.set_cons_zero, List.set_cons_succ]
    refine wpAnyH_take (i := 6) (oi := { dst := some 119, op := Op.move (Operand.tmp 118), type := 4, pos := "law.go:49", after := #[{ on := 5, ground := Ground.data }, { on := 2, ground := Ground.chain }], guard := none }) (v := ?_) rfl (by kernel_rfl) (by kernel_rfl) (by kernel_rfl) (fun _ _ _ h => h) (Or.inl ⟨by rfl, ?_⟩) (by assumption) ?_
    rotate_left
    · (intro w' hSw; go_simp; try with_reducible rfl)
    try simp only [Act.put, List.setIfInBounds_toArray, List.set_cons_zero, List.set_cons_succ]
    refine wpAnyH_take (i := 7) (oi := { dst := some 120, op := Op.move (Operand.tmp 19), type := 22, pos := "law.go:49", after := #[{ on := 6, ground := Ground.guard }], guard := some (6, true) }) (v := undef) rfl (by kernel_rfl) (by kernel_rfl) (by kernel_rfl) (fun _ _ _ h => h) (Or.inr ⟨by rfl, rfl⟩) (by assumption) ?_
    try simp only [Act.put, List.setIfInBounds_toArray, List.set_cons_zero, List.set_cons_succ]
    refine wpAnyH_take (i := 8) (oi := { dst := some 121, op := Op.call { callee := Callee.builtin Builtin.len, args := #[Operand.tmp 120], argTypes := #[22] }, type := 3, pos := "law.go:49", after := #[{ on := 7, ground := Ground.data }, { on := 6, ground := Ground.guard }], guard := some (6, true) }) (v := undef) rfl (by kernel_rfl) (by kernel_rfl) (by kernel_rfl) (fun _ _ _ h => h) (Or.inr ⟨by rfl, rfl⟩) (by assumption) ?_
    try simp only [Act.put, List.setIfInBounds_toArray, List.set_cons_zero, List.set_cons_succ]
    refine wpAnyH_take (i := 9) (oi := { dst := some 122, op := Op.binOp BinOp.eql 3 (Operand.tmp 121) (Operand.const (Value.int IntKind.i64 0)) 3, type := 4, pos := "law.go:49", after := #[{ on := 8, ground := Ground.data }, { on := 6, ground := Ground.guard }], guard := some (6, true) }) (v := undef) rfl (by kernel_rfl) (by kernel_rfl) (by kernel_rfl) (fun _ _ _ h => h) (Or.inr ⟨by rfl, rfl⟩) (by assumption) ?_
    try simp only [Act.put, List.setIfInBounds_toArray, List.set_cons_zero, List.set_cons_succ]
    refine wpAnyH_take (i := 10) (oi := { dst := some 123, op := Op.pick (Operand.tmp 119) (Operand.tmp 122) (Operand.const (Value.bool false)), type := 4, pos := "law.go:49", after := #[{ on := 6, ground := Ground.data }, { on := 9, ground := Ground.data }], guard := none }) (v := ?_) rfl (by kernel_rfl) (by kernel_rfl) (by kernel_rfl) (fun _ _ _ h => h) (Or.inl ⟨by rfl, ?_⟩) (by assumption) ?_
    rotate_left
    · (intro w' hSw; go_simp; try with_reducible rfl)
    try simp only [Act.put, List.setIfInBounds_toArray, List.set_cons_zero, List.set_cons_succ]
    refine wpAnyH_take (i := 11) (oi := { dst := some 124, op := Op.move (Operand.tmp 123), type := 4, pos := "law.go:49", after := #[{ on := 10, ground := Ground.data }, { on := 6, ground := Ground.chain }], guard := none }) (v := ?_) rfl (by kernel_rfl) (by kernel_rfl) (by kernel_rfl) (fun _ _ _ h => h) (Or.inl ⟨by rfl, ?_⟩) (by assumption) ?_
    rotate_left
    · (intro w' hSw; go_simp; try with_reducible rfl)
    try simp only [Act.put, List.setIfInBounds_toArray, List.set_cons_zero, List.set_cons_succ]
    refine wpAnyH_take (i := 12) (oi := { dst := some 125, op := Op.move (Operand.tmp 20), type := 4, pos := "law.go:49", after := #[{ on := 11, ground := Ground.guard }], guard := some (11, false) }) (v := ?_) rfl (by kernel_rfl) (by kernel_rfl) (by kernel_rfl) (fun _ _ _ h => h) (Or.inl ⟨by rfl, ?_⟩) (by assumption) ?_
    rotate_left
    · (intro w' hSw; go_simp; try with_reducible rfl)
    try simp only [Act.put, List.setIfInBounds_toArray, List.set_cons_zero, List.set_cons_succ]
    refine wpAnyH_take (i := 13) (oi := { dst := some 126, op := Op.move (Operand.tmp 125), type := 4, pos := "law.go:49", after := #[{ on := 12, ground := Ground.data }, { on := 11, ground := Ground.chain }, { on := 11, ground := Ground.guard }], guard := some (11, false) }) (v := ?_) rfl (by kernel_rfl) (by kernel_rfl) (by kernel_rfl) (fun _ _ _ h => h) (Or.inl ⟨by rfl, ?_⟩) (by assumption) ?_
    rotate_left
    · (intro w' hSw; go_simp; try with_reducible rfl)
    try simp only [Act.put, List.setIfInBounds_toArray, List.set_cons_zero, List.set_cons_succ]
    refine wpAnyH_take (i := 14) (oi := { dst := some 127, op := Op.move (Operand.tmp 18), type := 23, pos := "law.go:49", after := #[{ on := 13, ground := Ground.guard }], guard := some (13, true) }) (v := ?_) rfl (by kernel_rfl) (by kernel_rfl) (by kernel_rfl) (fun _ _ _ h => h) (Or.inl ⟨by rfl, ?_⟩) (by assumption) ?_
    rotate_left
    · (intro w' hSw; go_simp; try with_reducible rfl)
    try simp only [Act.put, List.setIfInBounds_toArray, List.set_cons_zero, List.set_cons_succ]
    refine wpAnyH_take (i := 16) (oi := { dst := some 129, op := Op.move (Operand.tmp 19), type := 22, pos := "law.go:49", after := #[{ on := 13, ground := Ground.guard }], guard := some (13, true) }) (v := ?_) rfl (by kernel_rfl) (by kernel_rfl) (by kernel_rfl) (fun _ _ _ h => h) (Or.inl ⟨by rfl, ?_⟩) (by assumption) ?_
    rotate_left
    · (intro w' hSw; go_simp; try with_reducible rfl)
    try simp only [Act.put, List.setIfInBounds_toArray, List.set_cons_zero, List.set_cons_succ]
    refine wpAnyH_take (i := 19) (oi := { dst := some 132, op := Op.move (Operand.tmp 0), type := 22, pos := "law.go:49", after := #[{ on := 13, ground := Ground.guard }], guard := some (13, true) }) (v := ?_) rfl (by kernel_rfl) (by kernel_rfl) (by kernel_rfl) (fun _ _ _ h => h) (Or.inl ⟨by rfl, ?_⟩) (by assumption) ?_
    rotate_left
    · (intro w' hSw; go_simp; try with_reducible rfl)
    try simp only [Act.put, List.setIfInBounds_toArray, List.set_cons_zero, List.set_cons_succ]
    refine wpAnyH_take (i := 20) (oi := { dst := some 133, op := Op.convert 22 9 (Operand.tmp 132), type := 9, pos := "law.go:49", after := #[{ on := 19, ground := Ground.data }, { on := 13, ground := Ground.guard }], guard := some (13, true) }) (v := ?_) rfl (by kernel_rfl) (by kernel_rfl) (by kernel_rfl) (fun _ _ _ h => h) (Or.inl ⟨by rfl, ?_⟩) (by assumption) ?_
    rotate_left
    · (intro w' hSw; have hcv := HCB.out w' (below_drew hSw); go_simp; try with_reducible rfl)
    try simp only [Act.put, List.setIfInBounds_toArray, List.set_cons_zero, List.set_cons_succ]
    -- call 15
    refine wpAnyH_ready (rs := [15]) (by kernel_rfl) (by simp) ?_
    refine AllReadyH.cons (o := { dst := some 128, op := Op.call { callee := Callee.value (Operand.func 7), args := #[Operand.const (Value.slice none 0 0), Operand.tmp 127], argTypes := #[22, 23] }, type := 22, pos := "law.go:49", after := #[{ on := 14, ground := Ground.data }, { on := 13, ground := Ground.chain }, { on := 13, ground := Ground.guard }], guard := some (13, true) }) rfl (fun K hK => ?_) AllReadyH.nil
    go_simp
    refine (uint_any _ _ _ [] M _ HMB.out (rd_nil _) (by decide)).mono ?_
    rintro e wc ⟨pc, nc, cc, rfl, hoc, hbc0⟩
    rw [List.nil_append] at hoc
    have hbc := below_drew hbc0
    have HOC : Hid (Own wc wb.heap.size (.slice pc nc cc) (ue M)) := Lib.hid hoc
    clear hoc
    dsimp only
    refine hK.out _ _ ?_ (fun hHeld => ?_)
    · exact hbc0
    clear hK K hH0
    try simp only [Act.put, List.setIfInBounds_toArray, List.set_cons_zero, List.set_cons_succ]
    -- call 17
    refine wpAnyH_ready (rs := [17]) (by kernel_rfl) (by simp) ?_
    refine AllReadyH.cons (o := { dst := some 130, op := Op.call { callee := Callee.builtin Builtin.append, args := #[Operand.tmp 128, Operand.tmp 129], argTypes := #[22, 22] }, type := 22, pos := "law.go:49", after := #[{ on := 15, ground := Ground.data }, { on := 16, ground := Ground.data }, { on := 15, ground := Ground.chain }, { on := 13, ground := Ground.guard }], guard := some (13, true) }) rfl (fun K hK => ?_) AllReadyH.nil
    refine step_ap_rd ?_ (.tmp 128) (.tmp 129) ?_ wb.heap.size _ (ue M) t ?_ HOC.out _ ?_ (HRB.out.later hbc) ?_ hbc.size ?_
    · rfl
    · rfl
    · rfl
    · rfl
    · (have := HL.out M HMB.out; have := HLB.out; omega)
    intro pd nd cd wd hod hbd
    have hbwd := hbc.trans hbd
    have hbx := ext_trans hbc0 hbd
    have HCD := Lib.hid (hod.rd.conv_to HD.out.symm)
    clear hod
    refine hK.out _ _ ?_ (fun hHeld2 => ?_)
    · exact hbx
    clear hK K hHeld
    refine held_more (S' := ext wd) (fun w' h => below_trans hbx h) _ _ _ _ ?_
    have hHd : ext wd wd := Below.refl _ _
    clear hHeld2
    try simp only [Act.put, List.setIfInBounds_toArray, List.set_cons_zero, List.set_cons_succ]
    refine wpAnyH_take (i := 18) (oi := { dst := some 131, op := Op.convert 22 9 (Operand.tmp 130), type := 9, pos := "law.go:49", after := #[{ on := 17, ground := Ground.data }, { on := 13, ground := Ground.guard }], guard := some (13, true) }) (v := ?_) rfl (by kernel_rfl) (by kernel_rfl) (by kernel_rfl) (fun _ _ _ h => h) (Or.inl ⟨by rfl, ?_⟩) (by assumption) ?_
    rotate_left
    · (intro w' hSw; have hcv := HCD.out w' hSw; go_simp; try with_reducible rfl)
    try simp only [Act.put, List.setIfInBounds_toArray, List.set_cons_zero, List.set_cons_succ]
    refine wpAnyH_take (i := 21) (oi := { dst := some 134, op := Op.binOp BinOp.eql 9 (Operand.tmp 131) (Operand.tmp 133) 9, type := 4, pos := "law.go:49", after := #[{ on := 18, ground := Ground.data }, { on := 20, ground := Ground.data }, { on := 13, ground := Ground.guard }], guard := some (13, true) }) (v := ?_) rfl (by kernel_rfl) (by kernel_rfl) (by kernel_rfl) (fun _ _ _ h => h) (Or.inl ⟨by rfl, ?_⟩) (by assumption) ?_
    rotate_left
    · (intro w' hSw; go_simp; try with_reducible rfl)
    try simp only [Act.put, List.setIfInBounds_toArray, List.set_cons_zero, List.set_cons_succ]
    refine wpAnyH_take (i := 22) (oi := { dst := some 135, op := Op.pick (Operand.tmp 126) (Operand.tmp 134) (Operand.const (Value.bool false)), type := 4, pos := "law.go:49", after := #[{ on := 13, ground := Ground.data }, { on := 21, ground := Ground.data }, { on := 11, ground := Ground.guard }], guard := some (11, false) }) (v := ?_) rfl (by kernel_rfl) (by kernel_rfl) (by kernel_rfl) (fun _ _ _ h => h) (Or.inl ⟨by rfl, ?_⟩) (by assumption) ?_
    rotate_left
    · (intro w' hSw; go_simp; try with_reducible rfl)
    try simp only [Act.put, List.setIfInBounds_toArray, List.set_cons_zero, List.set_cons_succ]
    refine wpAnyH_take (i := 23) (oi := { dst := some 136, op := Op.pick (Operand.tmp 124) (Operand.const (Value.bool true)) (Operand.tmp 135), type := 4, pos := "law.go:49", after := #[{ on := 11, ground := Ground.data }, { on := 22, ground := Ground.data }], guard := none }) (v := ?_) rfl (by kernel_rfl) (by kernel_rfl) (by kernel_rfl) (fun _ _ _ h => h) (Or.inl ⟨by rfl, ?_⟩) (by assumption) ?_
    rotate_left
    · (intro w' hSw; go_simp; try with_reducible rfl)
    try simp only [Act.put, List.setIfInBounds_toArray, List.set_cons_zero, List.set_cons_succ]
    refine wpAnyH_take (i := 24) (oi := { dst := some 8, op := Op.assign (Operand.tmp 136), type := 4, pos := "law.go:49", after := #[{ on := 23, ground := Ground.data }, { on := 17, ground := Ground.chain }, { on := 0, ground := Ground.phase }, { on := 1, ground := Ground.phase }, { on := 2, ground := Ground.phase }, { on := 3, ground := Ground.phase }, { on := 4, ground := Ground.phase }, { on := 5, ground := Ground.phase }, { on := 6, ground := Ground.phase }, { on := 7, ground := Ground.phase }, { on := 8, ground := Ground.phase }, { on := 9, ground := Ground.phase }, { on := 10, ground := Ground.phase }, { on := 11, ground := Ground.phase }, { on := 12, ground := Ground.phase }, { on := 13, ground := Ground.phase }, { on := 14, ground := Ground.phase }, { on := 15, ground := Ground.phase }, { on := 16, ground := Ground.phase }, { on := 17, ground := Ground.phase }, { on := 18, ground := Ground.phase }, { on := 19, ground := Ground.phase }, { on := 20, ground := Ground.phase }, { on := 21, ground := Ground.phase }, { on := 22, ground := Ground.phase }, { on := 23, ground := Ground.phase }], guard := none }) (v := ?_) rfl (by kernel_rfl) (by kernel_rfl) (by kernel_rfl) (fun _ _ _ h => h) (Or.inl ⟨by rfl, ?_⟩) (by assumption) ?_
    rotate_left
    · (intro w' hSw; go_simp; try with_reducible rfl)
    try simp only [Act.put, List.setIfInBounds_toArray, List.set_cons_zero, List.set_cons_succ]
    refine wpAnyH_done (by kernel_rfl) ?_ _
    go_wp2
    go_ret
    exact ⟨rfl, below_trans hbwb hbwd⟩
  · refine (take_no _ _ _ zs _ hn hwf (HI.out.rd.later hbwa) (by have := HI.out.small; omega)).mono ?_
    rintro e wb ⟨rfl, rfl⟩
    clear cva cv4 cv7 cvb
    go_wp2_with fail
    go_region
    all_goals go_wp2
    all_goals go_ret
    all_goals exact ⟨rfl, hbwa.drew⟩
theorem walkCodecBack (p : Option Addr) (len cap : Nat) (zs : List Int) (n : Int) (wn : (Lit.int .u64 n).wf = true) (m : Int) (wm : (Lit.int .i64 m).wf = true) (s : ByteArray) (ws : s.size ≤ maxLen) (w : World) (hrd : Rd w (.slice p len cap) zs) (hlen : len ≤ maxLen) (hwf : ∀ i, 0 ≤ zs.getD i 0 ∧ zs.getD i 0 < 256) :
    Calls Try.prog 5 #[.slice p len cap, .int .u64 n, .int .i64 m, .string s] w fun e w' => e = .returned (.bool true) ∧ Below w.heap.size w w' := by
  have hl2 : len ≤ 9223372036854775807 := hlen
  have hs2 : s.size ≤ 9223372036854775807 := ws
  by_cases h1 : 500 < len
  · have h1' : decide (500 < (len:Int)) = true := by simp; omega
    clear hrd hwf
    go_enter Try.func5, Try.ntmps5
    go_wp2_with (go_at_call 6; refine (knows_any _).mono ?_; rintro e w' ⟨rfl, hb⟩)
    go_ret
    exact ⟨rfl, hb⟩
  · have h1' : decide (500 < (len:Int)) = false := by simp; omega
    by_cases h2 : 500 < s.size
    · have h2' : decide (500 < (s.size:Int)) = true := by simp; omega
      clear hrd hwf
      go_enter Try.func5, Try.ntmps5
      go_wp2_with (go_at_call 6; refine (knows_any _).mono ?_; rintro e w' ⟨rfl, hb⟩)
      go_ret
      exact ⟨rfl, hb⟩
    · obtain ⟨N, rfl, hN⟩ := wf_u64 wn
      have hlz := hrd.len
      refine walk_back p len cap zs N m s w ⟨hrd, by omega, by omega, hN, wm⟩ ?_
      rcases Classical.em (∃ M t, Dec zs M t) with h | h
      · exact Or.inl h
      · exact Or.inr ⟨fun M t hd => h ⟨M, t, hd⟩, hwf⟩
end Go.Proofs.Ythihheklmhhjlaa.cod
