/- What LexBack wants, part 20. -/
import Derived.Test.YtahcndkifplekaaLexBackB
import Derived.Test.YtahcndkifplekaaLexBackJ
import Derived.Test.YtahcndkifplekaaLexBackR
import Derived.Test.YtahcndkifplekaaLexBackS
set_option linter.unusedVariables false
set_option linter.unusedSimpArgs false
namespace Go.Proofs.Ytahcndkifplekaa
namespace lx
set_option maxRecDepth 100000
open Go.ChangeShapes Go.WideShapes Go.ChangeAt Go.RowKit
open rows
open sec
open ly
open numMath (rN rB)
open vw (unquoteL)
def numW (s : ByteArray) : Wd × Int := if rB s.data.toList then (⟨2, ByteArray.empty, rN s.data.toList, 0⟩, 0) else (wd0, 12)
def quoW (s : ByteArray) : Wd × Int := match unquoteL (bys s) with
  | none => (wd0, 12)
  | some m => if 64 < m.length then (wd0, 14) else (⟨3, strOfNums m, 0, 0⟩, 0)
theorem rB_no {l : List UInt8} (h : rB l = false) : rN l = 0 := by
 unfold rB at h
 unfold rN
 cases hh : Go.Proofs.Ytahcndkifplekaa.numMath.readV l with
 | none => rfl
 | some m => rw [hh] at h; cases h
set_option maxRecDepth 100000 in
theorem number_any (s : ByteArray) (w : World) (hs : s.size ≤ 100000) : Calls Try.prog 37 #[.string s] w fun e w' => e = .returned (.tuple #[aggW (numW s).1, .int .i64 (numW s).2]) ∧ Below w.heap.size w w' := by
 have HR := Lib.hid fun w' => num.read_any s w' (by unfold maxLen; omega)
 have A0 := Lib.hid (zero_word w)
 have B0 := Lib.hid (below_alloc (Below.refl w.heap.size w) (.cells #[.int .i64 0, .string { data := #[] }, .int .i64 0, .int .i64 0] 33))
 unfold numW
 cases hb : rB s.data.toList with
 | true =>
  rw [hb] at HR
  generalize rN s.data.toList = n at *
  go_enter Try.func37, Try.ntmps37
  go_wp2_with (first
   | (go_at_call 50; refine (HR.out _).mono ?_; rintro e w1 ⟨rfl, rfl⟩)
   | (refine wpList_buildTo rfl 33 #[(0, .const (.int .i64 2)), (2, .tmp 14)] rfl (some 15) rfl #[.int .i64 2, .string { data := #[] }, .int .i64 n, .int .i64 0] (by kernel_rfl) ?_)
   | (refine store_word rfl (.tmp 2) (.tmp 15) rfl rfl w.heap.size ⟨2, ByteArray.empty, n, 0⟩ _ rfl rfl A0.out ?_; intro w2 hA hB hZ; have A2 := Lib.hid hA; have B2 := Lib.hid (B0.out.trans hB); clear hA hB hZ))
  exact ret_word2 rfl w.heap.size _ _ rfl rfl A2.out rfl ⟨rfl, B2.out⟩
 | false =>
  rw [hb, rB_no hb] at HR
  go_enter Try.func37, Try.ntmps37
  go_wp2_with (first
   | (go_at_call 50; refine (HR.out _).mono ?_; rintro e w1 ⟨rfl, rfl⟩)
   | (refine wpList_buildTo rfl 33 #[] rfl (some 13) rfl #[.int .i64 0, .string { data := #[] }, .int .i64 0, .int .i64 0] (by kernel_rfl) ?_)
   | (refine store_word rfl (.tmp 2) (.tmp 13) rfl rfl w.heap.size wd0 _ rfl rfl A0.out ?_; intro w2 hA hB hZ; have A2 := Lib.hid hA; have B2 := Lib.hid (B0.out.trans hB); clear hA hB hZ))
  exact ret_word2 rfl w.heap.size _ _ rfl rfl A2.out rfl ⟨rfl, B2.out⟩
theorem unq_len {s : ByteArray} {m : List Int} (h : unquoteL (bys s) = some m) : m.length ≤ s.size := by
 obtain ⟨e, _⟩ := vw.quote_unquote (bys_bytes s) h
 have h1 := vw.quote_len m
 have h2 := (vw.flat_len m).1
 have h3 := bys_len s
 rw [← e] at h3
 omega
set_option maxRecDepth 100000 in
theorem quoted_any (s : ByteArray) (w : World) (hs : s.size ≤ 100000) : Calls Try.prog 38 #[.string s] w fun e w' => e = .returned (.tuple #[aggW (quoW s).1, .int .i64 (quoW s).2]) ∧ Below w.heap.size w w' := by
 have HR := Lib.hid fun w' => vw.cunquote_any s w' hs
 have A0 := Lib.hid (zero_word w)
 have B0 := Lib.hid (below_alloc (Below.refl w.heap.size w) (.cells #[.int .i64 0, .string { data := #[] }, .int .i64 0, .int .i64 0] 33))
 unfold quoW
 cases hu : unquoteL (bys s) with
 | none =>
  rw [hu] at HR
  change Hid (∀ w', Calls Try.prog 51 #[.string s] w' fun e w'' => e = .returned (.tuple #[.string { data := #[] }, .bool false]) ∧ Below w'.heap.size w' w'') at HR
  go_enter Try.func38, Try.ntmps38
  go_wp2_with (first
   | (go_at_call 51; refine (HR.out _).mono ?_; rintro e w1 ⟨rfl, hb⟩; have A1 := Lib.hid (A0.out.later hb); have B1 := Lib.hid (below_trans B0.out hb); clear hb)
   | (refine wpList_buildTo rfl 33 #[] rfl (some 13) rfl #[.int .i64 0, .string { data := #[] }, .int .i64 0, .int .i64 0] (by kernel_rfl) ?_)
   | (refine store_word rfl (.tmp 2) (.tmp 13) rfl rfl w.heap.size wd0 _ rfl rfl A1.out ?_; intro w2 hA hB hZ; have A2 := Lib.hid hA; have B2 := Lib.hid (B1.out.trans hB); clear hA hB hZ))
  exact ret_word2 rfl w.heap.size _ _ rfl rfl A2.out rfl ⟨rfl, B2.out⟩
 | some m =>
  rw [hu] at HR
  have hml := unq_len hu
  have hz : (strOfNums m).size = m.length := strOfNums_size _
  change Hid (∀ w', Calls Try.prog 51 #[.string s] w' fun e w'' => e = .returned (.tuple #[.string (strOfNums m), .bool true]) ∧ Below w'.heap.size w' w'') at HR
  dsimp only
  obtain ⟨z, hzz⟩ : ∃ z, m.length = z := ⟨_, rfl⟩
  rw [hzz] at hz hml ⊢
  clear hzz hu
  generalize strOfNums m = r at *
  by_cases h64 : 64 < z
  ·have hi : (64 : Int) < r.size := by omega
   rw [if_pos h64]
   clear hz hml h64
   go_enter Try.func38, Try.ntmps38
   go_wp2_with (first
    | (go_at_call 51; refine (HR.out _).mono ?_; rintro e w1 ⟨rfl, hb⟩; have A1 := Lib.hid (A0.out.later hb); have B1 := Lib.hid (below_trans B0.out hb); clear hb)
    | (refine wpList_buildTo rfl 33 #[] rfl (some 17) rfl #[.int .i64 0, .string { data := #[] }, .int .i64 0, .int .i64 0] (by kernel_rfl) ?_)
    | (refine store_word rfl (.tmp 2) (.tmp 17) rfl rfl w.heap.size wd0 _ rfl rfl A1.out ?_; intro w2 hA hB hZ; have A2 := Lib.hid hA; have B2 := Lib.hid (B1.out.trans hB); clear hA hB hZ))
   exact ret_word2 rfl w.heap.size _ _ rfl rfl A2.out rfl ⟨rfl, B2.out⟩
  ·have hi : (r.size : Int) ≤ 64 := by omega
   rw [if_neg h64]
   clear hz hml h64
   go_enter Try.func38, Try.ntmps38
   go_wp2_with (first
    | (go_at_call 51; refine (HR.out _).mono ?_; rintro e w1 ⟨rfl, hb⟩; have A1 := Lib.hid (A0.out.later hb); have B1 := Lib.hid (below_trans B0.out hb); clear hb)
    | (refine wpList_buildTo rfl 33 #[(0, .const (.int .i64 3)), (1, .tmp 18)] rfl (some 19) rfl #[.int .i64 3, .string r, .int .i64 0, .int .i64 0] (by kernel_rfl) ?_)
    | (refine store_word rfl (.tmp 2) (.tmp 19) rfl rfl w.heap.size ⟨3, r, 0, 0⟩ _ rfl rfl A1.out ?_; intro w2 hA hB hZ; have A2 := Lib.hid hA; have B2 := Lib.hid (B1.out.trans hB); clear hA hB hZ))
   exact ret_word2 rfl w.heap.size _ _ rfl rfl A2.out rfl ⟨rfl, B2.out⟩
end lx
namespace lx
set_option maxRecDepth 100000
open Go.ChangeShapes Go.WideShapes Go.ChangeAt Go.RowKit
open rows
open sec
open ly
theorem readW_key {s : ByteArray} (h : keyB s = true) : readW s = (⟨4, s, 0, 0⟩, 0) := by rw [readW, if_pos h]
theorem readW_name {s : ByteArray} (h : keyB s = false) (h2 : nameB s = true) : readW s = (⟨1, s, 0, 0⟩, 0) := by rw [readW, if_neg (by rw [h]; decide), if_pos h2]
theorem readW_let {s : ByteArray} (h : keyB s = false) (h2 : nameB s = false) (h3 : letB (headI s) = true) : readW s = (wd0, 14) := by rw [readW, if_neg (by rw [h]; decide), if_neg (by rw [h2]; decide), if_pos h3]
theorem readW_num {s : ByteArray} (h : keyB s = false) (h2 : nameB s = false) (h3 : letB (headI s) = false) (h4 : digB (headI s) = true) : readW s = numW s := by
 rw [readW, if_neg (by rw [h]; decide), if_neg (by rw [h2]; decide), if_neg (by rw [h3]; decide), if_pos h4]; rfl
theorem readW_quo {s : ByteArray} (h : keyB s = false) (h2 : nameB s = false) (h3 : letB (headI s) = false) (h4 : digB (headI s) = false) (h5 : headI s = 34) : readW s = quoW s := by
 rw [readW, if_neg (by rw [h]; decide), if_neg (by rw [h2]; decide), if_neg (by rw [h3]; decide), if_neg (by rw [h4]; decide), if_pos h5]; rfl
theorem readW_sign {s : ByteArray} (h : keyB s = false) (h2 : nameB s = false) (h3 : letB (headI s) = false) (h4 : digB (headI s) = false) (h5 : headI s ≠ 34) (h6 : signB s = true) : readW s = (⟨5, s, 0, 0⟩, 0) := by
 rw [readW, if_neg (by rw [h]; decide), if_neg (by rw [h2]; decide), if_neg (by rw [h3]; decide), if_neg (by rw [h4]; decide), if_neg h5, if_pos h6]
theorem readW_bad {s : ByteArray} (h : keyB s = false) (h2 : nameB s = false) (h3 : letB (headI s) = false) (h4 : digB (headI s) = false) (h5 : headI s ≠ 34) (h6 : signB s = false) : readW s = (wd0, 12) := by
 rw [readW, if_neg (by rw [h]; decide), if_neg (by rw [h2]; decide), if_neg (by rw [h3]; decide), if_neg (by rw [h4]; decide), if_neg h5, if_neg (by rw [h6]; decide)]
set_option maxRecDepth 100000 in
set_option maxHeartbeats 4000000 in
theorem read_any (s : ByteArray) (w : World) (h0 : 0 < s.size) (hs : s.size ≤ 100000) : Calls Try.prog 19 #[.string s] w fun e w' => e = .returned (.tuple #[aggW (readW s).1, .int .i64 (readW s).2]) ∧ Below w.heap.size w w' := by
 have A0 := Lib.hid (zero_word w)
 have B0 := Lib.hid (below_alloc (Below.refl w.heap.size w) (.cells #[.int .i64 0, .string { data := #[] }, .int .i64 0, .int .i64 0] 33))
 have HK := Lib.hid fun w' => key_any s w'
 have HN := Lib.hid fun w' => name_any s w' hs
 have HL := Lib.hid fun w' => letter_any (headI s) w'
 have HD := Lib.hid fun w' => digit_any (headI s) w'
 have HU := Lib.hid fun w' => number_any s w' hs
 have HQ := Lib.hid fun w' => quoted_any s w' hs
 have HS := Lib.hid fun w' => sign_any s w'
 have HM := Lib.hid fun k w' => named_any k s w' hs
 have hg := head_get s h0
 have hbn := bys_bytes s (headI s) (by obtain ⟨t, ht⟩ := head_bys s h0; rw [ht]; exact List.mem_cons_self)
 have hs9 : (s.size : Int) ≤ 100000 := by omega
 have hs0 : (0 : Int) < s.size := by omega
 have hw32 : IntKind.i32.wrap (headI s) = headI s := IntWalk.i32_in _ (by omega)
 have ra := @readW_key s; have rb := @readW_name s; have rc := @readW_let s; have rd := @readW_num s; have re := @readW_quo s; have rf := @readW_sign s; have rg := @readW_bad s
 generalize readW s = RW at *
 generalize keyB s = kb at *
 generalize nameB s = nb at *
 generalize signB s = sb at *
 generalize letB (headI s) = lb at *
 generalize digB (headI s) = db at *
 generalize numW s = NW at *
 generalize quoW s = QW at *
 generalize headI s = c at *
 clear hbn
 have HM1 := Lib.hid fun w' => HM.out 4 w'
 have HM2 := Lib.hid fun w' => HM.out 1 w'
 have HM3 := Lib.hid fun w' => HM.out 5 w'
 clear HM
 have fin : ∀ (g : Nat) (x : Wd) (k : Int) (a : Act) (v : World), RW = (x, k) → a.tmps.getD 2 undef = .pointer (some ⟨g, 0, none⟩) → a.tmps.getD 3 undef = .int .i64 k → a.defers = [] → AtW v g x → Below w.heap.size w v → bodyPost Try.prog Try.f19 (fun e w' => e = .returned (.tuple #[aggW RW.1, .int .i64 RW.2]) ∧ Below w.heap.size w w') .ret a v := fun g x k a v h1 h2 h3 h4 h5 h6 =>
  ret_word2 rfl g x _ h2 h3 h5 h4 ⟨by rw [h1], h6⟩
 have FIN := Lib.hid fin
 clear fin
 cases kb with
 | true =>
  have hr := ra rfl
  have HRW := Lib.hid hr
  clear ra rb rc rd re rf rg hr
  go_enter Try.func19, Try.ntmps19
  go_wp2_with (first
   | (go_at_call 11; refine (HK.out _).mono ?_; rintro e w1 ⟨rfl, hw⟩; obtain rfl := hw.symm)
   | (go_at_call 36; refine (HM1.out _).mono ?_; rintro e w2 ⟨rfl, hb⟩; have A2 := Lib.hid (A0.out.later hb); have B2 := Lib.hid (below_trans B0.out hb); clear hb)
   | (refine store_word rfl (.tmp 2) (.tmp 12) rfl rfl w.heap.size ⟨4, s, 0, 0⟩ _ rfl rfl A2.out ?_; intro w3 hA hB hZ; have A3 := Lib.hid hA; have B3 := Lib.hid (B2.out.trans hB); clear hA hB hZ))
  exact FIN.out w.heap.size _ _ _ _ HRW.out rfl rfl rfl A3.out B3.out
 | false =>
  clear ra
  cases nb with
  | true =>
   have hr := rb rfl rfl
   have HRW := Lib.hid hr
   clear rb rc rd re rf rg hr
   go_enter Try.func19, Try.ntmps19
   go_wp2_with (first
    | (go_at_call 11; refine (HK.out _).mono ?_; rintro e w1 ⟨rfl, hw⟩; obtain rfl := hw.symm)
    | (go_at_call 13; refine (HN.out _).mono ?_; rintro e w1 ⟨rfl, hb⟩; have A1 := Lib.hid (A0.out.later hb); have B1 := Lib.hid (below_trans B0.out hb); clear hb)
    | (go_at_call 36; refine (HM2.out _).mono ?_; rintro e w2 ⟨rfl, hb⟩; have A2 := Lib.hid (A1.out.later hb); have B2 := Lib.hid (below_trans B1.out hb); clear hb)
    | (refine store_word rfl (.tmp 2) (.tmp 17) rfl rfl w.heap.size ⟨1, s, 0, 0⟩ _ rfl rfl A2.out ?_; intro w3 hA hB hZ; have A3 := Lib.hid hA; have B3 := Lib.hid (B2.out.trans hB); clear hA hB hZ))
   exact FIN.out w.heap.size _ _ _ _ HRW.out rfl rfl rfl A3.out B3.out
  | false =>
   clear rb
   cases lb with
   | true =>
    have hr := rc rfl rfl rfl
    have HRW := Lib.hid hr
    clear rc rd re rf rg hr
    go_enter Try.func19, Try.ntmps19
    go_wp2_with (first
     | (go_at_call 11; refine (HK.out _).mono ?_; rintro e w1 ⟨rfl, hw⟩; obtain rfl := hw.symm)
     | (go_at_call 13; refine (HN.out _).mono ?_; rintro e w1 ⟨rfl, hb⟩; have A1 := Lib.hid (A0.out.later hb); have B1 := Lib.hid (below_trans B0.out hb); clear hb)
     | (go_at_call 23; refine (HL.out _).mono ?_; rintro e w2 ⟨rfl, hw⟩; obtain rfl := hw.symm)
     | (refine wpList_buildTo rfl 33 #[] rfl (some 21) rfl #[.int .i64 0, .string { data := #[] }, .int .i64 0, .int .i64 0] (by kernel_rfl) ?_)
     | (refine store_word rfl (.tmp 2) (.tmp 21) rfl rfl w.heap.size wd0 _ rfl rfl A1.out ?_; intro w3 hA hB hZ; have A3 := Lib.hid hA; have B3 := Lib.hid (B1.out.trans hB); clear hA hB hZ))
    exact FIN.out w.heap.size _ _ _ _ HRW.out rfl rfl rfl A3.out B3.out
   | false =>
    clear rc
    cases db with
    | true =>
     have hr := rd rfl rfl rfl rfl
     have HRW := Lib.hid hr
     clear rd re rf rg hr
     obtain ⟨nx, nk⟩ := NW
     go_enter Try.func19, Try.ntmps19
     go_wp2_with (first
      | (go_at_call 11; refine (HK.out _).mono ?_; rintro e w1 ⟨rfl, hw⟩; obtain rfl := hw.symm)
      | (go_at_call 13; refine (HN.out _).mono ?_; rintro e w1 ⟨rfl, hb⟩; have A1 := Lib.hid (A0.out.later hb); have B1 := Lib.hid (below_trans B0.out hb); clear hb)
      | (go_at_call 23; refine (HL.out _).mono ?_; rintro e w2 ⟨rfl, hw⟩; obtain rfl := hw.symm)
      | (go_at_call 35; refine (HD.out _).mono ?_; rintro e w2 ⟨rfl, hw⟩; obtain rfl := hw.symm)
      | (go_at_call 37; refine (HU.out _).mono ?_; rintro e w2 ⟨rfl, hb⟩; have A2 := Lib.hid (A1.out.later hb); have B2 := Lib.hid (below_trans B1.out hb); clear hb)
      | (refine store_word rfl (.tmp 2) (.tmp 27) rfl rfl w.heap.size nx _ rfl rfl A2.out ?_; intro w3 hA hB hZ; have A3 := Lib.hid hA; have B3 := Lib.hid (B2.out.trans hB); clear hA hB hZ))
     exact FIN.out w.heap.size _ _ _ _ HRW.out rfl rfl rfl A3.out B3.out
    | false =>
     clear rd
     by_cases h34 : c = 34
     ·have hr := re rfl rfl rfl rfl h34
      have HRW := Lib.hid hr
      subst h34
      clear re rf rg hr
      obtain ⟨nx, nk⟩ := QW
      go_enter Try.func19, Try.ntmps19
      go_wp2_with (first
       | (go_at_call 11; refine (HK.out _).mono ?_; rintro e w1 ⟨rfl, hw⟩; obtain rfl := hw.symm)
       | (go_at_call 13; refine (HN.out _).mono ?_; rintro e w1 ⟨rfl, hb⟩; have A1 := Lib.hid (A0.out.later hb); have B1 := Lib.hid (below_trans B0.out hb); clear hb)
       | (go_at_call 23; refine (HL.out _).mono ?_; rintro e w2 ⟨rfl, hw⟩; obtain rfl := hw.symm)
       | (go_at_call 35; refine (HD.out _).mono ?_; rintro e w2 ⟨rfl, hw⟩; obtain rfl := hw.symm)
       | (go_at_call 38; refine (HQ.out _).mono ?_; rintro e w2 ⟨rfl, hb⟩; have A2 := Lib.hid (A1.out.later hb); have B2 := Lib.hid (below_trans B1.out hb); clear hb)
       | (refine store_word rfl (.tmp 2) (.tmp 34) rfl rfl w.heap.size nx _ rfl rfl A2.out ?_; intro w3 hA hB hZ; have A3 := Lib.hid hA; have B3 := Lib.hid (B2.out.trans hB); clear hA hB hZ))
      exact FIN.out w.heap.size _ _ _ _ HRW.out rfl rfl rfl A3.out B3.out
     ·clear re
      have h34b : (c == 34) = false := beq_eq_false_iff_ne.2 h34
      cases sb with
      | true =>
       have hr := rf rfl rfl rfl rfl h34 rfl
       have HRW := Lib.hid hr
       clear rf rg hr h34
       go_enter Try.func19, Try.ntmps19
       go_wp2_with (first
        | (go_at_call 11; refine (HK.out _).mono ?_; rintro e w1 ⟨rfl, hw⟩; obtain rfl := hw.symm)
        | (go_at_call 13; refine (HN.out _).mono ?_; rintro e w1 ⟨rfl, hb⟩; have A1 := Lib.hid (A0.out.later hb); have B1 := Lib.hid (below_trans B0.out hb); clear hb)
        | (go_at_call 23; refine (HL.out _).mono ?_; rintro e w2 ⟨rfl, hw⟩; obtain rfl := hw.symm)
        | (go_at_call 35; refine (HD.out _).mono ?_; rintro e w2 ⟨rfl, hw⟩; obtain rfl := hw.symm)
        | (go_at_call 39; refine (HS.out _).mono ?_; rintro e w2 ⟨rfl, hw⟩; obtain rfl := hw.symm)
        | (go_at_call 36; refine (HM3.out _).mono ?_; rintro e w2 ⟨rfl, hb⟩; have A2 := Lib.hid (A1.out.later hb); have B2 := Lib.hid (below_trans B1.out hb); clear hb)
        | (refine store_word rfl (.tmp 2) (.tmp 40) rfl rfl w.heap.size ⟨5, s, 0, 0⟩ _ rfl rfl A2.out ?_; intro w3 hA hB hZ; have A3 := Lib.hid hA; have B3 := Lib.hid (B2.out.trans hB); clear hA hB hZ))
       exact FIN.out w.heap.size _ _ _ _ HRW.out rfl rfl rfl A3.out B3.out
      | false =>
       have hr := rg rfl rfl rfl rfl h34 rfl
       have HRW := Lib.hid hr
       clear rf rg hr h34
       go_enter Try.func19, Try.ntmps19
       go_wp2_with (first
        | (go_at_call 11; refine (HK.out _).mono ?_; rintro e w1 ⟨rfl, hw⟩; obtain rfl := hw.symm)
        | (go_at_call 13; refine (HN.out _).mono ?_; rintro e w1 ⟨rfl, hb⟩; have A1 := Lib.hid (A0.out.later hb); have B1 := Lib.hid (below_trans B0.out hb); clear hb)
        | (go_at_call 23; refine (HL.out _).mono ?_; rintro e w2 ⟨rfl, hw⟩; obtain rfl := hw.symm)
        | (go_at_call 35; refine (HD.out _).mono ?_; rintro e w2 ⟨rfl, hw⟩; obtain rfl := hw.symm)
        | (go_at_call 39; refine (HS.out _).mono ?_; rintro e w2 ⟨rfl, hw⟩; obtain rfl := hw.symm)
        | (refine wpList_buildTo rfl 33 #[] rfl (some 41) rfl #[.int .i64 0, .string { data := #[] }, .int .i64 0, .int .i64 0] (by kernel_rfl) ?_)
        | (refine store_word rfl (.tmp 2) (.tmp 41) rfl rfl w.heap.size wd0 _ rfl rfl A1.out ?_; intro w3 hA hB hZ; have A3 := Lib.hid hA; have B3 := Lib.hid (B1.out.trans hB); clear hA hB hZ))
       exact FIN.out w.heap.size _ _ _ _ HRW.out rfl rfl rfl A3.out B3.out
end lx
namespace lx
set_option maxRecDepth 100000
open Go.ChangeShapes Go.WideShapes Go.ChangeAt Go.RowKit
open rows
open sec
open ly
theorem get_at (s : ByteArray) {i : Nat} (h : i < s.size) : (bys s)[i]? = some ((s[i]'h).toNat : Int) := by
 have h1 := get_bys h
 have h2 : s.get! i = s[i] := getElem!_pos s.data i h
 rw [h2] at h1
 exact h1
theorem drop_get (s : ByteArray) {i : Nat} (h : i < s.size) : (bys s).drop i = ((s[i]'h).toNat : Int) :: (bys s).drop (i + 1) := by
 have h1 := drop_bys h
 have h2 : s.get! i = s[i] := getElem!_pos s.data i h
 rw [h2] at h1
 exact h1
end lx
namespace lx
set_option maxRecDepth 100000
open Go.ChangeShapes Go.WideShapes Go.ChangeAt Go.RowKit
open rows
open sec
open ly
def tokS (s : ByteArray) (a : Nat) : ByteArray := strOfNums (((bys s).drop a).take (tokN ((bys s).drop a)))
theorem tok_head (s : ByteArray) {a : Nat} (h : a < s.size) : headI (tokS s a) = ((s[a]'h).toNat : Int) ∧ 1 ≤ (tokS s a).size ∧ (tokS s a).size ≤ s.size := by
 have hd := drop_get s h
 obtain ⟨t1, t2⟩ := tok_pos (c := ((s[a]'h).toNat : Int)) (t := (bys s).drop (a + 1))
 rw [← hd] at t1 t2
 have hb : bys (tokS s a) = ((bys s).drop a).take (tokN ((bys s).drop a)) := bys_strOf (fun x hx => bys_bytes s x (List.mem_of_mem_drop (List.mem_of_mem_take hx)))
 have hz : (tokS s a).size = tokN ((bys s).drop a) := by
  rw [← bys_len, hb, List.length_take]; omega
 refine ⟨?_, by omega, by rw [List.length_drop, bys_len] at t2; omega⟩
 obtain ⟨k, hk⟩ : ∃ k, tokN ((bys s).drop a) = k + 1 := ⟨tokN ((bys s).drop a) - 1, by omega⟩
 rw [headI, hb, hk, hd, List.take_succ_cons, List.getD_cons_zero]
theorem key_head {t : ByteArray} (h : keyB t = true) : letB (headI t) = true := by
 rw [keyB, List.any_eq_true] at h
 obtain ⟨k, hk, he⟩ := h
 have h1 : ∀ k ∈ keyL, letB ((k.map fun c => (c.toNat : Int)).getD 0 0) = true := by decide
 rw [headI, (bys_lit t k).1 (by simpa using he)]
 exact h1 k hk
theorem no_key {t : ByteArray} (h : letB (headI t) = false) : keyB t = false ∧ nameB t = false := by
 constructor
 ·cases hk : keyB t with
  | false => rfl
  | true => rw [key_head hk] at h; cases h
 ·rw [nameB, h]; simp
end lx
namespace lx
set_option maxRecDepth 100000
open Go.ChangeShapes Go.WideShapes Go.ChangeAt Go.RowKit
open rows
open sec
open ly
open dsk (build_one rd_laid frozen_row setCell_heap)
def wordsW (s : ByteArray) : List Wd × Int × Int := if 4096 < s.size then ([], 14, 0) else scanW (bys s)
abbrev aggF (e k : Int) : Value := .agg #[.int .i64 e, .int .i64 k]
def AtFt (w : World) (g : Nat) (e k : Int) : Prop := w.heap[g]? = some (.cells #[.int .i64 e, .int .i64 k] 26 (0, 0))
theorem AtFt.lt {w : World} {g : Nat} {e k : Int} (h : AtFt w g e k) : g < w.heap.size := (Array.getElem?_eq_some_iff.1 h).1
theorem info_fault : (Try.prog.info? 26).map (·.size) = some 2 := by kernel_rfl
theorem store_fault {ops : Array Oper} {rest : List Oper} {o : Oper} {a : Act} {w : World} {Q : Exit → Act → World → Prop} (hgd : o.guard = none) (p y : Operand) (ho : o.op = .store 26 p y) (hd : o.dst = none)
  (g : Nat) (e k e0 k0 : Int) (hp : a.eval p = .pointer (some ⟨g, 0, none⟩)) (hy : a.eval y = aggF e k) (hg : AtFt w g e0 k0)
  (h : ∀ w', AtFt w' g e k → Below g w w' → (∀ j, j ≠ g → w'.heap[j]? = w.heap[j]?) → w'.heap.size = w.heap.size → wpList Try.prog ops Q rest a w') : wpList Try.prog ops Q (o :: rest) a w := by
 refine wpList_store_row hgd 26 p y ho g #[.int .i64 e, .int .i64 k] hp hy 26 _ hg (by rw [info_fault]; rfl) rfl (by simp [Value.oneCell']) ?_
 rw [hd]
 exact h _ (setRow_heap w g _ _ _ _ hg) ((Below.refl g w).trans ⟨rfl, rfl, rfl, by simp [World.setRow], fun k hk => setRow_other w g k _ (by omega)⟩) (fun j hj => setRow_other w g j _ hj) (by simp [World.setRow])
theorem ret_fault2 {fn : Func} {p q : Tmp} {R : Ending → World → Prop} {a : Act} {w : World} (h : fn.results = #[.tmp p, .cell q 26]) (g : Nat) (e k : Int) (v : Value) (hp : a.tmps.getD p undef = v) (hq : a.tmps.getD q undef = .pointer (some ⟨g, 0, none⟩)) (hg : AtFt w g e k)
  (hd : a.defers = []) (hR : R (.returned (.tuple #[v, aggF e k])) w) : bodyPost Try.prog fn R .ret a w := by
 refine bodyPost_ret (v := .tuple #[v, aggF e k]) ?_ hd hR
 have hp' : a.tmps[p]?.getD undef = v := by simpa using hp
 have hq' : a.tmps[q]?.getD undef = .pointer (some ⟨g, 0, none⟩) := by simpa using hq
 have hl := run_loadVar_row (P := Try.prog) w g _ 26 _ _ _ hg Try.underlying26 rfl (by rw [info_fault]; rfl)
 simp [results, h, hp', hq', asAddr, hl]
theorem own_keep {w w' : World} {B n : Nat} {t : TypeId} {sz : Nat} {v : Value} {cs : List Value} (h : Own w B t sz v n cs) (hk : ∀ j, B ≤ j → j < w.heap.size → w'.heap[j]? = w.heap[j]?) : Own w' B t sz v n cs := by
 refine ⟨h.1, ?_⟩
 rcases h.2 with h2 | ⟨g, cap, cur, hv, h3, h4, h5⟩
 ·exact Or.inl h2
 ·exact Or.inr ⟨g, cap, cur, hv, h3, (hk g h3 (Array.getElem?_eq_some_iff.1 h4).1).trans h4, h5⟩
theorem words_one (x : Wd) : ∀ u ∈ x.c, u.oneCell' = true := by simp [Wd.c, Value.oneCell']
theorem wordsC_snoc (l : List Wd) (x : Wd) : wordsC l ++ x.c = wordsC (l ++ [x]) := by rw [wordsC_app]; simp [wordsC]
def WordsIs (f : Nat) (s : ByteArray) (w : World) : Prop := Calls Try.prog f #[.string s] w fun e w' => ∃ q n c, e = .returned (.tuple #[.slice q n c, aggF (wordsW s).2.1 (wordsW s).2.2]) ∧ n = (wordsW s).1.length ∧ Rd w' 4 (.slice q n c) n (wordsC (wordsW s).1) ∧ Below w.heap.size w w'
theorem tok_str (r : ByteArray) : strOfNums ((bys r).take (tokN (bys r))) = tokS r 0 := by rw [tokS, List.drop_zero]
theorem scan_word {N f : Nat} {r : ByteArray} (h0 : 0 < r.size) (hk : skipL false (bys r) = bys r) (hr : (readW (tokS r 0)).2 = 0) (pre : List Wd) :
  contW pre (scanF N (f + 1) (bys r)) = contW (pre ++ [{ (readW (tokS r 0)).1 with pos := ((N - r.size : Nat) : Int) }]) (scanF N f (skipL false ((bys r).drop (tokN (bys r))))) := by
 have hne : skipL false (bys r) ≠ [] := by rw [hk]; intro e; have := bys_len r; rw [e] at this; simp at this; omega
 have e : strOfNums ((skipL false (bys r)).take (tokN (skipL false (bys r)))) = tokS r 0 := by rw [hk, tok_str]
 rw [scan_next hne (by rw [e]; exact hr) pre, e, hk, bys_len, scan_skip]
theorem scan_fault {N f : Nat} {r : ByteArray} (h0 : 0 < r.size) (hk : skipL false (bys r) = bys r) (hr : (readW (tokS r 0)).2 ≠ 0) (pre : List Wd) :
  contW pre (scanF N (f + 1) (bys r)) = ([], (readW (tokS r 0)).2, ((N - r.size : Nat) : Int)) := by
 have hne : skipL false (bys r) ≠ [] := by rw [hk]; intro e; have := bys_len r; rw [e] at this; simp at this; omega
 have e : strOfNums ((skipL false (bys r)).take (tokN (skipL false (bys r)))) = tokS r 0 := by rw [hk, tok_str]
 rw [scan_bad hne (by rw [e]; exact hr), e, hk, bys_len, contW, if_pos hr]
theorem scan_over {N f : Nat} {l : List Int} (h : l = []) (pre : List Wd) : contW pre (scanF N (f + 1) l) = (pre ++ [⟨0, ByteArray.empty, 0, N⟩], 0, 0) := by
 subst h
 rw [scan_end rfl, contW, if_neg (by simp)]
theorem skip_skip (l : List Int) : skipL false (skipL false l) = skipL false l := by
 cases h : skipL false l with
 | nil => rfl
 | cons c t =>
  have := skip_head _ _ _ _ h
  exact skip_done (by intro e; cases e; exact this.2 rfl) (fun d hd => by cases hd; exact this.1)
theorem skip_str (l : List Int) (hb : ∀ x ∈ l, 0 ≤ x ∧ x < 256) : bys (strOfNums (skipL false l)) = skipL false l := bys_strOf fun x hx => hb x ((skip_suffix false l).subset hx)
theorem scan_norm (n : Nat) : ∀ (f : Nat) (l : List Int), (scanF n f l).2.1 = 0 → (scanF n f l).2.2 = 0
 | 0, l, _ => rfl
 | f + 1, l, h => by
  rw [scanF] at h ⊢
  split
  ·rfl
  ·rename_i h1
   rw [if_neg h1] at h
   split
   ·rename_i h2
    rw [if_pos h2] at h
    exact absurd h h2
   ·rename_i h2
    rw [if_neg h2] at h
    split
    ·rename_i h3
     rw [if_pos h3] at h
     exact absurd h h3
    ·rfl
theorem cont_nil (n f : Nat) (l : List Int) : contW [] (scanF n f l) = scanF n f l := by
 by_cases hq : (scanF n f l).2.1 = 0
 ·rw [contW, if_neg (by rw [hq]; decide), List.nil_append]
  have h2 := scan_norm n f l hq
  generalize scanF n f l = q at *
  obtain ⟨a, b, c⟩ := q
  simp only at hq h2
  subst hq h2
  rfl
 ·rw [contW, if_pos hq]
theorem words_big {s : ByteArray} (h : 4096 < s.size) : wordsW s = ([], 14, 0) := if_pos h
theorem words_small {s : ByteArray} (h : ¬ 4096 < s.size) : wordsW s = scanW (bys s) := if_neg h
set_option maxRecDepth 100000 in
set_option maxHeartbeats 4000000 in
theorem words_any (s : ByteArray) (w : World) (hs : s.size ≤ 100000) : WordsIs 7 s w := by
 have hs9 : (s.size : Int) ≤ 100000 := by omega
 have F0 : Hid (AtFt (w.alloc (.cells #[.int .i64 0, .int .i64 0] 26)) w.heap.size 0 0) := Lib.hid (heap_alloc_new _ _)
 have B0 := Lib.hid (below_alloc (Below.refl w.heap.size w) (.cells #[.int .i64 0, .int .i64 0] 26))
 have Z0 : (w.alloc (.cells #[.int .i64 0, .int .i64 0] 26)).heap.size = w.heap.size + 1 := by simp
 obtain ⟨w0, hw0⟩ : ∃ v, w.alloc (.cells #[.int .i64 0, .int .i64 0] 26) = v := ⟨_, rfl⟩
 rw [hw0] at F0 B0 Z0
 have HW0 := Lib.hid hw0
 have HZ0 := Lib.hid Z0
 clear hw0 Z0
 unfold WordsIs
 by_cases hbig : 4096 < s.size
 ·have hbi : (4096 : Int) < s.size := by omega
  rw [words_big hbig]
  clear hbig
  go_enter Try.func7, Try.ntmps7
  go_upto_region 1 with fail
  rw [HW0.out]
  go_wp2_with (first
   | (refine wpList_buildTo rfl 26 #[(0, .const (.int .i64 14))] rfl (some 13) rfl #[.int .i64 14, .int .i64 0] (by kernel_rfl) ?_)
   | (refine store_fault rfl (.tmp 3) (.tmp 13) rfl rfl w.heap.size 14 0 _ _ rfl rfl F0.out ?_; intro w2 hA hB hO hZ; have A2 := Lib.hid hA; have B2 := Lib.hid (B0.out.trans hB); clear hA hB hO hZ))
  exact ret_fault2 rfl w.heap.size _ _ _ rfl rfl A2.out rfl ⟨none, 0, 0, rfl, rfl, rd_nil _ _, B2.out⟩
 ·have hbi : (s.size : Int) ≤ 4096 := by omega
  have hsm : s.size ≤ 4096 := by omega
  rw [words_small hbig]
  clear hbig
  obtain ⟨SW, hSW⟩ : ∃ q, scanW (bys s) = q := ⟨_, rfl⟩
  rw [hSW]
  have HB := Lib.hid fun w' => bare_any s w' hs
  obtain ⟨r0, hr0⟩ : ∃ r, strOfNums (skipL false (bys s)) = r := ⟨_, rfl⟩
  have hb0 : bys r0 = skipL false (bys s) := by rw [← hr0, skip_str _ (bys_bytes s)]
  rw [hr0] at HB
  have hz0 : r0.size ≤ s.size := by rw [← bys_len, hb0, ← bys_len s]; exact skip_le _ _
  have I0 : Hid (∃ f, r0.size < f ∧ contW [] (scanF s.size f (bys r0)) = SW) := Lib.hid ⟨s.size + 1, by omega, by
   rw [hb0, scan_skip, ← hSW, scanW, bys_len, cont_nil]⟩
  have K0 := Lib.hid (show skipL false (bys r0) = bys r0 by rw [hb0, skip_skip])
  clear hSW hr0 hb0
  have HBR := Lib.hid fun (r : ByteArray) w' (h : r.size ≤ 100000) => bare_any r w' h
  have HCT := Lib.hid fun (r : ByteArray) w' (h0 : 0 < r.size) (h : r.size ≤ 100000) => cut_any r w' h0 h
  have HRD := Lib.hid fun (r : ByteArray) w' (h0 : 0 < r.size) (h : r.size ≤ 100000) => read_any r w' h0 h
  go_enter Try.func7, Try.ntmps7
  go_upto_region 1 with fail
  rw [HW0.out]
  go_upto_region 5 with (go_at_call 17; refine (HB.out _).mono ?_; rintro e w1 ⟨rfl, hb⟩; have HB1 := Lib.hid hb; clear hb)
  go_loopw [4, 5] (fun sv rv wr => ∃ (r : ByteArray) (pre : List Wd) (q : Option Addr) (c : Nat), sv = .slice q pre.length c ∧ rv = .string r ∧ Hid (∃ f, r.size < f ∧ contW pre (scanF s.size f (bys r)) = SW) ∧ Hid (skipL false (bys r) = bys r) ∧ pre.length + r.size ≤ s.size ∧ Hid (Own wr (w.heap.size + 1) 33 4 (.slice q pre.length c) pre.length (wordsC pre)) ∧ Hid (Below (w.heap.size + 1) w0 wr)) (fun _ rv _ => match rv with | .string r => r.size | _ => 0)
  case atStart => exact ⟨r0, [], none, 0, rfl, rfl, I0, K0, by simpa using hz0, Lib.hid (own_nil _ _ _ _), Lib.hid (by rw [← HZ0.out]; exact HB1.out)⟩
  case round =>
   obtain ⟨r, pre, q, c, rfl, rfl, HI, HK, hpr, HO, HBW⟩ := hrel
   have hri : (r.size : Int) ≤ s.size := by omega
   have hpri : (pre.length : Int) + r.size ≤ s.size := by omega
   have HF : Hid (AtFt wr w.heap.size 0 0) := Lib.hid ((HBW.out.block w.heap.size (by omega)).trans F0.out)
   have HZW : Hid (w.heap.size + 1 ≤ wr.heap.size) := Lib.hid (by have := HBW.out.size; rw [HZ0.out] at this; exact this)
   have HLOW : Hid (Below w.heap.size w wr) := Lib.hid (B0.out.trans (HBW.out.mono (by omega)))
   by_cases h0 : 0 < r.size
   ·have hne : (r.toList == []) = false := by rw [nil_eq, decide_eq_false (by omega)]
    obtain ⟨f, hf, hcw⟩ := HI.out
    obtain ⟨f', rfl⟩ : ∃ f', f = f' + 1 := ⟨f - 1, by omega⟩
    obtain ⟨th, t1, t2⟩ := tok_head r h0
    have htk : (tokS r 0).size = tokN (bys r) := by
     have h1 : bys (tokS r 0) = (bys r).take (tokN (bys r)) := by
      rw [← tok_str]; exact bys_strOf fun x hx => bys_bytes r x (List.mem_of_mem_take hx)
     rw [← bys_len, h1, List.length_take, bys_len]
     obtain ⟨t, ht⟩ := head_bys r h0
     have h2 := tok_pos (c := headI r) (t := t)
     rw [← ht, bys_len] at h2
     omega
    have HC1 := Lib.hid fun w' => HCT.out r w' h0 (by omega)
    rw [tok_str] at HC1
    have HR1 := Lib.hid fun w' => HRD.out (tokS r 0) w' (by omega) (by omega)
    have SA : Hid ((readW (tokS r 0)).2 ≠ 0 → SW = ([], (readW (tokS r 0)).2, ((s.size - r.size : Nat) : Int))) := Lib.hid fun h => by rw [← hcw]; exact scan_fault h0 HK.out h pre
    have SB : Hid ((readW (tokS r 0)).2 = 0 → contW (pre ++ [{ (readW (tokS r 0)).1 with pos := ((s.size - r.size : Nat) : Int) }]) (scanF s.size f' (skipL false ((bys r).drop (tokN (bys r))))) = SW) := Lib.hid fun h => by rw [← hcw]; exact (scan_word h0 HK.out h pre).symm
    have hat : (s.size : Int) - r.size = ((s.size - r.size : Nat) : Int) := by omega
    obtain ⟨T, hT⟩ : ∃ T, tokS r 0 = T := ⟨_, rfl⟩
    rw [hT] at htk HC1 HR1 SA SB t1 t2
    have ht2i : (T.size : Int) ≤ r.size := by omega
    obtain ⟨⟨x, k⟩, hx⟩ : ∃ p, readW T = p := ⟨_, rfl⟩
    rw [hx] at HR1 SA SB
    simp only at HR1 SA SB
    obtain ⟨z, hz⟩ : ∃ z : Nat, s.size - r.size = z := ⟨_, rfl⟩
    rw [hz] at SA SB hat
    have hzi : (z : Int) ≤ 4096 := by omega
    by_cases hk : k = 0
    ·subst hk
     have SB1 := Lib.hid (SB.out rfl)
     obtain ⟨r1, hr1⟩ : ∃ r1, r.extract T.size r.size = r1 := ⟨_, rfl⟩
     have hb1 : bys r1 = (bys r).drop (tokN (bys r)) := by rw [← hr1, bys_extract r t2, htk]
     have hz1 : r1.size = r.size - T.size := by rw [← hr1, ByteArray.size_extract]; omega
     obtain ⟨r2, hr2⟩ : ∃ r2, strOfNums (skipL false (bys r1)) = r2 := ⟨_, rfl⟩
     have hb2 : bys r2 = skipL false (bys r1) := by rw [← hr2, skip_str _ (bys_bytes r1)]
     have hz2 : r2.size ≤ r1.size := by rw [← bys_len, hb2, ← bys_len r1]; exact skip_le _ _
     have HB2 := Lib.hid fun w' => HBR.out r1 w' (by omega)
     rw [hr2] at HB2
     have HI2 : Hid (∃ f, r2.size < f ∧ contW (pre ++ [{ x with pos := (z : Int) }]) (scanF s.size f (bys r2)) = SW) := Lib.hid ⟨f', by omega, by rw [hb2, hb1]; exact SB1.out⟩
     have HK2 := Lib.hid (show skipL false (bys r2) = bys r2 by rw [hb2, skip_skip])
     have HR1E := Lib.hid hr1
     have hlt2 : r2.size < r.size := by omega
     have hpr2 : (pre ++ [({ x with pos := (z : Int) } : Wd)]).length + r2.size ≤ s.size := by rw [List.length_append, List.length_singleton]; omega
     have hpl : pre.length + 1 ≤ 1000000 := by omega
     clear SA SB SB1 hr1 hb1 hz1 hr2 hb2 hz2 hcw HI htk th t1 hx hT hz
     go_upto_region 9 with (first
      | (go_at_call 18; refine (HC1.out _).mono ?_; rintro e w2 ⟨rfl, hb⟩; have B2 := Lib.hid (show Below wr.heap.size wr w2 from hb); clear hb))
     go_upto_region 10 with (first
      | (go_at_call 19; refine (HR1.out _).mono ?_; rintro e w3 ⟨rfl, hb⟩; have B3 := Lib.hid (below_trans B2.out hb); clear hb)
      | (refine store_word rfl (.tmp 8) (.tmp 30) rfl rfl w3.heap.size x _ rfl rfl (zero_word w3) ?_; intro w4 hA hB hZ; have A4 := Lib.hid hA; have B4 := Lib.hid (B3.out.trans ((below_alloc (Below.refl w3.heap.size w3) (.cells #[.int .i64 0, .string { data := #[] }, .int .i64 0, .int .i64 0] 33)).trans hB |>.mono B3.out.size)); clear hA hB hZ))
     have c3 := A4.out.c3
     have f3 := frozen_row A4.out 3
     go_upto_region 13 with fail
     have A5 : Hid (AtW (w4.setCell ⟨w3.heap.size, 3, none⟩ (.int .i64 (z : Int))) w3.heap.size { x with pos := (z : Int) }) := Lib.hid (setCell_heap A4.out _)
     have B5 : Hid (Below wr.heap.size wr (w4.setCell ⟨w3.heap.size, 3, none⟩ (.int .i64 (z : Int)))) := Lib.hid (B4.out.setCell (p := ⟨w3.heap.size, 3, none⟩) (by exact B3.out.size) _)
     obtain ⟨w5, hw5⟩ : ∃ v, w4.setCell ⟨w3.heap.size, 3, none⟩ (.int .i64 (z : Int)) = v := ⟨_, rfl⟩
     rw [hw5] at A5 B5 ⊢
     have d0 := A5.out.c0
     have d1 := A5.out.c1
     have d2 := A5.out.c2
     have d3 := A5.out.c3
     simp only at d0 d1 d2 d3
     have O5 := Lib.hid (vw.own_later HO.out B5.out)
     have HL5 : Hid (Below w.heap.size w w5 ∧ Below (w.heap.size + 1) w0 w5 ∧ w.heap.size + 1 ≤ w5.heap.size) := Lib.hid ⟨HLOW.out.trans (B5.out.mono HLOW.out.size), HBW.out.trans (B5.out.mono HZW.out), Nat.le_trans HZW.out B5.out.size⟩
     clear hw5 c3 f3 A4 B4 B3 B2 A5
     go_upto_region 14 with (first
      | (refine load_word rfl (.tmp 8) rfl w3.heap.size 0 rfl { x with pos := (z : Int) } d0 d1 d2 d3 ?_)
      | (refine build_one elem_words (by decide) rfl (.tmp 40) rfl (Wd.c { x with pos := (z : Int) }) rfl rfl ?_)
      | (at_builtin; refine ap_rd elem_words rfl (.tmp 39) (.tmp 41) rfl (w.heap.size + 1) _ pre.length _ rfl (O5.out.alloc _) _ 1 (Wd.c { x with pos := (z : Int) }) rfl (rd_laid _ _ _ _ rfl) (words_one _) hpl (by have := HL5.out.2.2; rw [World.size_alloc]; omega) ?_; intro pa ca w6 ho hb; have O6 := Lib.hid ho; have B6 := Lib.hid ((HL5.out.2.1.alloc (Nat.le_trans (Nat.le_of_eq (by rw [HZ0.out])) HL5.out.2.1.size) _).trans hb); clear ho hb))
     have HZ6 : Hid (w.heap.size + 1 ≤ w6.heap.size) := Lib.hid (by have := B6.out.size; rw [HZ0.out] at this; exact this)
     have hsl : ((T.size : Int) ≤ r.size) := ht2i
     have O6b : Hid (Own w6 (w.heap.size + 1) 33 4 (.slice pa (pre ++ [({ x with pos := (z : Int) } : Wd)]).length ca) (pre ++ [({ x with pos := (z : Int) } : Wd)]).length (wordsC (pre ++ [{ x with pos := (z : Int) }]))) := Lib.hid (by
      rw [List.length_append, List.length_singleton, ← wordsC_snoc]; exact O6.out)
     go_wp2_with (first
      | (rw [HR1E.out]; go_at_call 17; refine (HB2.out _).mono ?_; rintro e w7 ⟨rfl, hb⟩; have B7 := Lib.hid (B6.out.trans (hb.mono HZ6.out)); have O7 := Lib.hid (vw.own_later O6b.out hb); clear hb)
      | (go_at_call 17; refine (HB2.out _).mono ?_; rintro e w7 ⟨rfl, hb⟩; have B7 := Lib.hid (B6.out.trans (hb.mono HZ6.out)); have O7 := Lib.hid (vw.own_later O6b.out hb); clear hb))
     exact ⟨⟨r2, _, pa, ca, by rw [List.length_append, List.length_singleton], rfl, HI2, HK2, hpr2, O7, B7⟩, hlt2⟩
    ·have hSW := SA.out hk
     have hkb : (k == 0) = false := beq_eq_false_iff_ne.2 hk
     have HSW := Lib.hid hSW
     clear SA SB hcw HI htk th t1 hx hT hz hk hSW
     go_upto_region 10 with (first
      | (go_at_call 18; refine (HC1.out _).mono ?_; rintro e w2 ⟨rfl, hb⟩; have B2 := Lib.hid (show Below wr.heap.size wr w2 from hb); clear hb)
      | (go_at_call 19; refine (HR1.out _).mono ?_; rintro e w3 ⟨rfl, hb⟩; have B3 := Lib.hid (below_trans B2.out hb); clear hb)
      | (refine store_word rfl (.tmp 8) (.tmp 30) rfl rfl w3.heap.size x _ rfl rfl (zero_word w3) ?_; intro w4 hA hB hZ; have A4 := Lib.hid hA; have B4 := Lib.hid (B3.out.trans ((below_alloc (Below.refl w3.heap.size w3) (.cells #[.int .i64 0, .string { data := #[] }, .int .i64 0, .int .i64 0] 33)).trans hB |>.mono B3.out.size)); clear hA hB hZ))
     have F4 := Lib.hid ((B4.out.block w.heap.size (by have := HZW.out; omega)).trans HF.out)
     have L4 := Lib.hid (HLOW.out.trans (B4.out.mono HLOW.out.size))
     go_wp2_with (first
      | (refine wpList_buildTo rfl 26 #[(0, .tmp 34), (1, .tmp 35)] rfl (some 36) rfl #[.int .i64 k, .int .i64 z] (by kernel_rfl) ?_)
      | (refine store_fault rfl (.tmp 3) (.tmp 36) rfl rfl w.heap.size k z _ _ rfl rfl F4.out ?_; intro w5 hA hB hO hZ; have A5 := Lib.hid hA; have B5 := Lib.hid (L4.out.trans hB); clear hA hB hO hZ))
     exact ret_fault2 rfl w.heap.size _ _ _ rfl rfl A5.out rfl (by rw [HSW.out]; exact ⟨none, 0, 0, rfl, rfl, rd_nil _ _, B5.out⟩)
   ·have hz : r.size = 0 := by omega
    have hb : bys r = [] := List.eq_nil_of_length_eq_zero (by rw [bys_len]; exact hz)
    obtain ⟨f, hf, hcw⟩ := HI.out
    obtain ⟨f', rfl⟩ : ∃ f', f = f' + 1 := ⟨f - 1, by omega⟩
    rw [scan_over hb] at hcw
    have HSW := Lib.hid hcw
    have hne : (r.toList == []) = true := by rw [nil_eq, decide_eq_true hz]
    have hpl : pre.length + 1 ≤ 1000000 := by omega
    clear hcw HI hb
    go_upto_region 15 with fail
    have L5 : Hid (Below (w.heap.size + 1) w0 (wr.alloc (.cells (Wd.c ⟨0, ByteArray.empty, 0, s.size⟩).toArray 33))) := Lib.hid (HBW.out.alloc (Nat.le_trans (Nat.le_of_eq (by rw [HZ0.out])) HBW.out.size) _)
    go_wp2_with (first
     | (refine wpList_buildTo rfl 33 #[(0, .const (.int .i64 0)), (3, .tmp 49)] rfl (some 50) rfl #[.int .i64 0, .string { data := #[] }, .int .i64 0, .int .i64 s.size] (by kernel_rfl) ?_)
     | (refine build_one elem_words (by decide) rfl (.tmp 50) rfl (Wd.c ⟨0, ByteArray.empty, 0, s.size⟩) rfl rfl ?_)
     | (at_builtin; refine ap_rd elem_words rfl (.tmp 47) (.tmp 51) rfl (w.heap.size + 1) _ pre.length _ rfl (HO.out.alloc _) _ 1 (Wd.c ⟨0, ByteArray.empty, 0, s.size⟩) rfl (rd_laid _ _ _ _ rfl) (words_one _) hpl (by have := HZW.out; rw [World.size_alloc]; omega) ?_; intro pa ca w6 ho hb; have O6 := Lib.hid ho; have B6 := Lib.hid (L5.out.trans hb); clear ho hb; have F6 : Hid (AtFt w6 w.heap.size 0 0) := Lib.hid ((B6.out.block w.heap.size (by omega)).trans F0.out))
     | (refine wpList_buildTo rfl 26 #[] rfl (some 53) rfl #[.int .i64 0, .int .i64 0] (by kernel_rfl) ?_)
     | (refine store_fault rfl (.tmp 3) (.tmp 53) rfl rfl w.heap.size 0 0 _ _ rfl rfl F6.out ?_; intro w7 hA hB hO hZ; have A7 := Lib.hid hA; have B7 := Lib.hid ((B0.out.trans (B6.out.mono (by omega))).trans hB); have O7 := Lib.hid (own_keep O6.out (fun j hj _ => hO j (by omega))); clear hA hB hO hZ))
    refine ret_fault2 rfl w.heap.size _ _ _ rfl rfl A7.out rfl ?_
    rw [← HSW.out]
    refine ⟨pa, pre.length + 1, ca, rfl, by simp, ?_, B7.out⟩
    have := O7.out.rd
    rw [wordsC_snoc] at this
    exact this
end lx
namespace lx
set_option maxRecDepth 100000
open Go.ChangeShapes Go.WideShapes Go.ChangeAt Go.RowKit
open rows
open sec
open ly
instance instWd : DecidableEq Wd := fun x y => if h : x.kind = y.kind ∧ x.s = y.s ∧ x.n = y.n ∧ x.pos = y.pos then isTrue (by obtain ⟨a, b, c, p⟩ := x; obtain ⟨d, e, f, q⟩ := y; obtain ⟨rfl, rfl, rfl, rfl⟩ := h; rfl) else isFalse (fun e => h (by subst e; exact ⟨rfl, rfl, rfl, rfl⟩))
theorem wd_eq (x y : Wd) : decide (x = y) = ((x.kind == y.kind) && ((x.s.toList == y.s.toList) && ((x.n == y.n) && (x.pos == y.pos)))) := by
 obtain ⟨a, b, c, p⟩ := x
 obtain ⟨d, e, f, q⟩ := y
 rw [str_same, Bool.eq_iff_iff]
 simp [and_assoc]
theorem fields_wd : (Try.prog.fieldsOf 33).toList.map (fun f => (f.name == "_", f.type, f.offset)) = [(false, 3, 0), (false, 9, 1), (false, 2, 2), (false, 3, 3)] := by kernel_rfl
theorem und_i64 : Try.prog.underlying 2 = some (.int .i64) := by kernel_rfl
theorem und_intW : Try.prog.underlying 3 = some (.int .i64) := Try.underlying3
theorem part_intW (w : World) (xs : Array Value) (i : Nat) (v : Value) (h : xs[i]? = some v) : (part 3 xs i).run Try.prog w = .ok v w := by
 simp [part, isAgg, run_underlying und_intW, h]
theorem part_i64 (w : World) (xs : Array Value) (i : Nat) (v : Value) (h : xs[i]? = some v) : (part 2 xs i).run Try.prog w = .ok v w := by
 simp [part, isAgg, run_underlying und_i64, h]
theorem part_strW (w : World) (xs : Array Value) (i : Nat) (v : Value) (h : xs[i]? = some v) : (part 9 xs i).run Try.prog w = .ok v w := by
 simp [part, isAgg, run_underlying Try.underlying9, h]
set_option maxRecDepth 100000 in
theorem eqIn_wd (x y : Wd) (w : World) : (Op.equalIn 10000 33 (aggW x) (aggW y)).run Try.prog w = .ok (decide (x = y)) w := by
 have hs : Try.prog.stoodInHeld 33 = false := by kernel_rfl
 rw [show (10000 : Nat) = 9999 + 1 from rfl, run_equalIn_struct w 9999 _ _ _ Try.underlying33 hs, wd_eq]
 have hf := fields_wd
 match hq : (Try.prog.fieldsOf 33).toList with
 | [] => rw [hq] at hf; simp at hf
 | [_] => rw [hq] at hf; simp at hf
 | [_, _] => rw [hq] at hf; simp at hf
 | [_, _, _] => rw [hq] at hf; simp at hf
 | [f, g, h, k] =>
  rw [hq] at hf
  simp only [List.map_cons, List.map_nil, List.cons.injEq, Prod.mk.injEq, and_true] at hf
  obtain ⟨⟨n1, t1, o1⟩, ⟨n2, t2, o2⟩, ⟨n3, t3, o3⟩, n4, t4, o4⟩ := hf
  rw [Go.Proofs.Ytahcndkifplekaa.dsk.eqFields_cons 9999 _ _ f _ (by simpa using n1) w (a := .int .i64 x.kind) (b := .int .i64 y.kind) (r := x.kind == y.kind) (by rw [t1, o1]; exact part_intW w _ 0 _ rfl) (by rw [t1, o1]; exact part_intW w _ 0 _ rfl) (by rw [t1]; exact run_equalIn_int w 9998 _ _ _ _ _ und_intW)]
  rw [Go.Proofs.Ytahcndkifplekaa.dsk.eqFields_cons 9999 _ _ g _ (by simpa using n2) w (a := .string x.s) (b := .string y.s) (r := x.s.toList == y.s.toList) (by rw [t2, o2]; exact part_strW w _ 1 _ rfl) (by rw [t2, o2]; exact part_strW w _ 1 _ rfl) (by rw [t2]; exact run_equalIn_string w 9998 _ _ _ Try.underlying9)]
  rw [Go.Proofs.Ytahcndkifplekaa.dsk.eqFields_cons 9999 _ _ h _ (by simpa using n3) w (a := .int .i64 x.n) (b := .int .i64 y.n) (r := x.n == y.n) (by rw [t3, o3]; exact part_i64 w _ 2 _ rfl) (by rw [t3, o3]; exact part_i64 w _ 2 _ rfl) (by rw [t3]; exact run_equalIn_int w 9998 _ _ _ _ _ und_i64)]
  rw [Go.Proofs.Ytahcndkifplekaa.dsk.eqFields_cons 9999 _ _ k [] (by simpa using n4) w (a := .int .i64 x.pos) (b := .int .i64 y.pos) (r := x.pos == y.pos) (by rw [t4, o4]; exact part_intW w _ 3 _ rfl) (by rw [t4, o4]; exact part_intW w _ 3 _ rfl) (by rw [t4]; exact run_equalIn_int w 9998 _ _ _ _ _ und_intW)]
  cases h1 : (x.kind == y.kind) <;> cases h2 : (x.s.toList == y.s.toList) <;> cases h3 : (x.n == y.n) <;> cases h4 : (x.pos == y.pos) <;> simp [Op.eqFields]
 | _ :: _ :: _ :: _ :: _ :: _ => rw [hq] at hf; simp at hf
theorem guard_wd : Try.prog.eqGuardType Try.prog.depth 33 = false := by kernel_rfl
set_option maxRecDepth 100000 in
set_option maxHeartbeats 3200000 in
theorem rsame_any (p : Option Addr) (n c : Nat) (l : List Wd) (q : Option Addr) (m k : Nat) (r : List Wd) (w : World) (hr : Rd w 4 (.slice p n c) n (wordsC l)) (hq : Rd w 4 (.slice q m k) m (wordsC r)) (hn : n ≤ 100000) (hm : m ≤ 100000) :
  Calls Try.prog 9 #[.slice p n c, .slice q m k] w fun e w' => e = .returned (.bool (decide (l = r))) ∧ Below w.heap.size w w' := by
 have hl : l.length = n := dsk.Rd.count Wd.c hr (fun _ _ => rfl) (by decide)
 have hrl : r.length = m := dsk.Rd.count Wd.c hq (fun _ _ => rfl) (by decide)
 have HR := Lib.hid hr
 have HQ := Lib.hid hq
 have HL := Lib.hid hl
 have HRL := Lib.hid hrl
 have hni : (n : Int) ≤ 100000 := by omega
 clear hr hq
 by_cases hnm : n = m
 ·subst hnm
  clear hl hrl
  go_enter Try.func9, Try.ntmps9
  go_upto_region 4 with fail
  go_loopw [5] (fun iv wr => ∃ i : Nat, i ≤ n ∧ iv = .int .i64 (i : Int) ∧ Hid (l.take i = r.take i) ∧ Hid (Below w.heap.size w wr)) (fun iv _ => n - (intOf iv).toNat)
  case atStart => exact ⟨0, by omega, rfl, Lib.hid rfl, Lib.hid (Below.refl _ _)⟩
  case round =>
   obtain ⟨i, hi, rfl, HE, HB⟩ := hrel
   by_cases hlt : i < n
   ·have hlti : (i : Int) < n := by omega
    have hil : i < l.length := by rw [HL.out]; exact hlt
    have hir : i < r.length := by rw [HRL.out]; exact hlt
    obtain ⟨b1, o1, rfl, hc1, hm1, hh1, hl1, HR1⟩ := dsk.Rd.chunk Wd.c HR.out (fun _ _ => rfl) (by decide) hlt
    obtain ⟨b2, o2, rfl, hc2, hm2, hh2, hl2, HR2⟩ := dsk.Rd.chunk Wd.c HQ.out (fun _ _ => rfl) (by decide) hlt
    have HW1 := Lib.hid (Rd.rangeLater (HR1 i hil) hh1 HB.out)
    have HW2 := Lib.hid (Rd.rangeLater (HR2 i hir) hh2 HB.out)
    have HT : Hid (l[i] = r[i] → l.take (i + 1) = r.take (i + 1)) := Lib.hid fun h => by rw [List.take_succ_eq_append_getElem hil, List.take_succ_eq_append_getElem hir, HE.out, h]
    have HN : Hid (l[i] ≠ r[i] → l ≠ r) := Lib.hid fun h e => by subst e; exact h rfl
    generalize l[i] = x at *
    generalize r[i] = y at *
    clear HR1 HR2 hl1 hl2
    go_upto_region 6 with fail
    have EQ := Lib.hid (eqIn_wd x y)
    obtain ⟨kx, sx, nx, px⟩ := x
    obtain ⟨ky, sy, ny, py⟩ := y
    have L1 : Hid (∀ w', Below wr.heap.size wr w' → w'.rangeAt b1 (o1 + i * 4) (Wd.c ⟨kx, sx, nx, px⟩)) := Lib.hid fun w' hb => Rd.rangeLater HW1.out (Nat.lt_of_lt_of_le hh1 HB.out.size) hb
    have L2 : Hid (∀ w', Below wr.heap.size wr w' → w'.rangeAt b2 (o2 + i * 4) (Wd.c ⟨ky, sy, ny, py⟩)) := Lib.hid fun w' hb => Rd.rangeLater HW2.out (Nat.lt_of_lt_of_le hh2 HB.out.size) hb
    refine wp_region_held_drew (S := ext wr.drew) (by kernel_rfl) (Below.refl _ _) (fun hH0 => ?_)
    refine wpAnyH_take (i := 0) (oi := { dst := some 17, op := Op.move (Operand.tmp 0), type := 23, pos := "ref.go:163", after := #[], guard := none }) (v := ?_) rfl (by kernel_rfl) (by kernel_rfl) (by kernel_rfl) (fun _ _ _ h => h) (Or.inl ⟨by rfl, ?_⟩) (by assumption) ?_
    rotate_left
    ·(intro w' hSw; go_simp; try with_reducible rfl)
    try simp only [Act.put, List.setIfInBounds_toArray, List.set_cons_zero, List.set_cons_succ]
    refine wpAnyH_take (i := 1) (oi := { dst := some 18, op := Op.move (Operand.tmp 5), type := 3, pos := "ref.go:163", after := #[], guard := none }) (v := ?_) rfl (by kernel_rfl) (by kernel_rfl) (by kernel_rfl) (fun _ _ _ h => h) (Or.inl ⟨by rfl, ?_⟩) (by assumption) ?_
    rotate_left
    ·(intro w' hSw; go_simp; try with_reducible rfl)
    try simp only [Act.put, List.setIfInBounds_toArray, List.set_cons_zero, List.set_cons_succ]
    refine wpAnyH_take (i := 2) (oi := { dst := some 19, op := Op.indexAddr 23 (Operand.tmp 17) (Operand.tmp 18), type := 0, pos := "ref.go:163", after := #[{ on := 0, ground := Ground.data }, { on := 1, ground := Ground.data }], guard := none }) (v := ?_) rfl (by kernel_rfl) (by kernel_rfl) (by kernel_rfl) (fun _ _ _ h => h) (Or.inl ⟨by rfl, ?_⟩) (by assumption) ?_
    rotate_left
    ·(intro w' hSw; go_simp; try with_reducible rfl)
    try simp only [Act.put, List.setIfInBounds_toArray, List.set_cons_zero, List.set_cons_succ]
    refine' wpAnyH_take (i := 3) (oi := { dst := some 20, op := Op.load 33 (Operand.tmp 19), type := 33, pos := "ref.go:163", after := #[{ on := 2, ground := Ground.data }], guard := none }) (v := _) rfl (by kernel_rfl) (by kernel_rfl) (by kernel_rfl) (fun _ _ _ h => h) ((Go.yieldsIf_load_mid (by rfl) 33 _ rfl b1 (o1 + i * 4) rfl (Wd.c ⟨kx, sx, nx, px⟩) _ (fun w' hw => L1.out w' (below_drew hw)) Try.underlying33 rfl (by rw [info_word]; rfl))) (by assumption) ?_
    try simp only [Act.put, List.setIfInBounds_toArray, List.set_cons_zero, List.set_cons_succ]
    refine wpAnyH_take (i := 4) (oi := { dst := some 21, op := Op.move (Operand.tmp 1), type := 23, pos := "ref.go:163", after := #[], guard := none }) (v := ?_) rfl (by kernel_rfl) (by kernel_rfl) (by kernel_rfl) (fun _ _ _ h => h) (Or.inl ⟨by rfl, ?_⟩) (by assumption) ?_
    rotate_left
    ·(intro w' hSw; go_simp; try with_reducible rfl)
    try simp only [Act.put, List.setIfInBounds_toArray, List.set_cons_zero, List.set_cons_succ]
    refine wpAnyH_take (i := 5) (oi := { dst := some 22, op := Op.move (Operand.tmp 5), type := 3, pos := "ref.go:163", after := #[], guard := none }) (v := ?_) rfl (by kernel_rfl) (by kernel_rfl) (by kernel_rfl) (fun _ _ _ h => h) (Or.inl ⟨by rfl, ?_⟩) (by assumption) ?_
    rotate_left
    ·(intro w' hSw; go_simp; try with_reducible rfl)
    try simp only [Act.put, List.setIfInBounds_toArray, List.set_cons_zero, List.set_cons_succ]
    refine wpAnyH_take (i := 6) (oi := { dst := some 23, op := Op.indexAddr 23 (Operand.tmp 21) (Operand.tmp 22), type := 0, pos := "ref.go:163", after := #[{ on := 4, ground := Ground.data }, { on := 5, ground := Ground.data }], guard := none }) (v := ?_) rfl (by kernel_rfl) (by kernel_rfl) (by kernel_rfl) (fun _ _ _ h => h) (Or.inl ⟨by rfl, ?_⟩) (by assumption) ?_
    rotate_left
    ·(intro w' hSw; go_simp; try with_reducible rfl)
    try simp only [Act.put, List.setIfInBounds_toArray, List.set_cons_zero, List.set_cons_succ]
    refine' wpAnyH_take (i := 7) (oi := { dst := some 24, op := Op.load 33 (Operand.tmp 23), type := 33, pos := "ref.go:163", after := #[{ on := 6, ground := Ground.data }], guard := none }) (v := _) rfl (by kernel_rfl) (by kernel_rfl) (by kernel_rfl) (fun _ _ _ h => h) ((Go.yieldsIf_load_mid (by rfl) 33 _ rfl b2 (o2 + i * 4) rfl (Wd.c ⟨ky, sy, ny, py⟩) _ (fun w' hw => L2.out w' (below_drew hw)) Try.underlying33 rfl (by rw [info_word]; rfl))) (by assumption) ?_
    try simp only [Act.put, List.setIfInBounds_toArray, List.set_cons_zero, List.set_cons_succ]
    refine' wpAnyH_take (i := 8) (oi := { dst := some 25, op := Op.binOp BinOp.neq 33 (Operand.tmp 20) (Operand.tmp 24) 33, type := 4, pos := "ref.go:163", after := #[{ on := 3, ground := Ground.data }, { on := 7, ground := Ground.data }], guard := none }) (v := _) rfl (by kernel_rfl) (by kernel_rfl) (by kernel_rfl) (fun _ _ _ h => h) ((dsk.neq_yields (by rfl) 33 _ _ _ rfl #[.int .i64 kx, .string sx, .int .i64 nx, .int .i64 px] #[.int .i64 ky, .string sy, .int .i64 ny, .int .i64 py] (by rfl) (by rfl) guard_wd (decide ((⟨kx, sx, nx, px⟩ : Wd) = ⟨ky, sy, ny, py⟩)) EQ.out)) (by assumption) ?_
    try simp only [Act.put, List.setIfInBounds_toArray, List.set_cons_zero, List.set_cons_succ]
    refine wpAnyH_done (by kernel_rfl) ?_ _
    have HB1 := Lib.hid (blw_drewN HB.out 1)
    clear hH0
    by_cases hxy : (⟨kx, sx, nx, px⟩ : Wd) = ⟨ky, sy, ny, py⟩
    ·rw [decide_eq_true hxy]
     have HT1 := Lib.hid (HT.out hxy)
     clear hxy HT HN
     go_wp2_with fail
     exact ⟨⟨i + 1, by omega, by go_num, HT1, HB1⟩, by simp [intOf]; omega⟩
    ·rw [decide_eq_false hxy]
     have HN1 := Lib.hid (HN.out hxy)
     clear hxy HT HN
     go_wp2_with fail
     go_ret
     exact ⟨by rw [decide_eq_false HN1.out]; rfl, HB1.out⟩
   ·obtain rfl : i = n := by omega
    have he : l = r := by
     have h := HE.out
     rw [← HL.out, List.take_length, HL.out, ← HRL.out, List.take_length] at h
     exact h
    have HE2 := Lib.hid he
    clear he
    go_wp2_with fail
    go_ret
    exact ⟨by rw [decide_eq_true HE2.out]; rfl, HB.out⟩
 ·have hne : l ≠ r := fun h => hnm (by rw [← hl, ← hrl, h])
  have g0 : ((n : Int) != (m : Int)) = true := by simp; omega
  have HE := Lib.hid hne
  clear hl hrl hne hnm
  go_enter Try.func9, Try.ntmps9
  go_wp2_with fail
  go_ret
  exact ⟨by rw [decide_eq_false HE.out]; rfl, Below.refl _ _⟩
end lx
namespace lx
set_option maxRecDepth 100000
open Go.ChangeShapes Go.WideShapes Go.ChangeAt Go.RowKit
open rows
open sec
open ly
open numMath (rN rB digS digI)
open vw (quoteL)
def notW (x : Wd) : ByteArray := if 64 < x.s.size then ByteArray.empty else if x.kind = 2 then digS x.n else if x.kind = 3 then strOfNums (quoteL (bys x.s)) else x.s
def showW (x : Wd) : Option ByteArray :=
 if x.kind = 2 then (if x.s.size = 0 ∧ 0 ≤ x.n ∧ x.n ≤ 1000000000000 then some (digS x.n) else none)
 else if x.n ≠ 0 then none
 else if x.kind = 3 ∧ x.s.size ≤ 64 then some (strOfNums (quoteL (bys x.s)))
 else if (x.kind = 1 ∧ nameB x.s = true) ∨ (x.kind = 4 ∧ keyB x.s = true) ∨ (x.kind = 5 ∧ signB x.s = true) then some x.s
 else none
theorem readW_zero (t : ByteArray) : (readW t).1.pos = 0 := by
 unfold readW
 split
 ·rfl
 split
 ·rfl
 split
 ·rfl
 split
 ·split <;> rfl
 split
 ·split
  ·rfl
  ·split <;> rfl
 split <;> rfl
theorem digS_bys (n : Int) : (digS n).data.toList = digI n := by simp [digS]
theorem dig_head (n : Int) (h : 0 ≤ n) : digB (headI (digS n)) = true := by
 obtain ⟨c, t, hc⟩ : ∃ c t, Go.Proofs.Ytahcndkifplekaa.numMath.dig n.natAbs = c :: t := by
  cases hd : Go.Proofs.Ytahcndkifplekaa.numMath.dig n.natAbs with
  | nil => exact absurd hd (Go.Proofs.Ytahcndkifplekaa.numMath.dig_ne _)
  | cons c t => exact ⟨c, t, rfl⟩
 have ha := (Go.Proofs.Ytahcndkifplekaa.numMath.dig_all n.natAbs n.natAbs (Nat.le_refl _)).1
 rw [hc, List.all_cons, Bool.and_eq_true] at ha
 have hb : bys (digS n) = ((c :: t).map fun c => (c.toNat : Int)) := by
  unfold bys
  rw [digS_bys, digI, if_neg (by omega), hc]
 rw [headI, hb, List.map_cons, List.getD_cons_zero]
 exact ha.1
theorem neg_head (n : Int) (h : n < 0) : headI (digS n) = 45 ∧ 2 ≤ (digS n).size := by
 have hb : bys (digS n) = ((45 :: Go.Proofs.Ytahcndkifplekaa.numMath.dig n.natAbs).map fun c => (c.toNat : Int)) := by
  unfold bys
  rw [digS_bys, digI, if_pos h]
 refine ⟨by rw [headI, hb]; rfl, ?_⟩
 rw [← bys_len, hb, List.length_map, List.length_cons]
 have := List.length_pos_iff.2 (Go.Proofs.Ytahcndkifplekaa.numMath.dig_ne n.natAbs)
 omega
theorem sign_len {t : ByteArray} (h : signB t = true) : t.size ≤ 2 ∧ (t.size = 2 → headI t = 61) := by
 rw [signB, List.any_eq_true] at h
 obtain ⟨k, hk, he⟩ := h
 have h1 : ∀ k ∈ signL, k.length ≤ 2 ∧ (k.length = 2 → (k.map fun c => (c.toNat : Int)).getD 0 0 = 61) := by decide
 have hb := (bys_lit t k).1 (by simpa using he)
 have := h1 k hk
 rw [← bys_len, hb, List.length_map, headI, hb]
 exact this
theorem read_dig (n : Int) : readW (digS n) = if 0 ≤ n ∧ n ≤ 1000000000000 then (⟨2, ByteArray.empty, n, 0⟩, 0) else (wd0, 12) := by
 by_cases h : 0 ≤ n
 ·have hd := dig_head n h
  have hl : letB (headI (digS n)) = false := by
   unfold digB at hd
   unfold letB
   rw [Bool.and_eq_true, decide_eq_true_eq, decide_eq_true_eq] at hd
   rw [decide_eq_false (by omega), Bool.false_and]
  obtain ⟨k1, k2⟩ := no_key hl
  rw [readW_num k1 k2 hl hd, numW, digS_bys]
  have hr := Go.Proofs.Ytahcndkifplekaa.numMath.readV_digI n
  unfold rB rN
  rw [hr]
  by_cases h2 : 0 ≤ n ∧ n ≤ 1000000000000
  ·rw [if_pos h2, if_pos h2, if_pos (show (some n.toNat).isSome = true from rfl)]
   simp only [Option.getD_some]
   rw [Int.toNat_of_nonneg h]
  ·rw [if_neg h2, if_neg h2, if_neg (by simp)]
 ·obtain ⟨h1, h2⟩ := neg_head n (by omega)
  have hl : letB (headI (digS n)) = false := by rw [h1]; rfl
  have hd : digB (headI (digS n)) = false := by rw [h1]; rfl
  obtain ⟨k1, k2⟩ := no_key hl
  rw [if_neg (by omega)]
  refine readW_bad k1 k2 hl hd (by rw [h1]; decide) ?_
  cases hs : signB (digS n) with
  | false => rfl
  | true =>
   have := sign_len hs
   have h3 := this.2 (by omega)
   rw [h1] at h3; cases h3
theorem quote_head (l : List Int) (hb : ∀ x ∈ l, 0 ≤ x ∧ x < 256) : headI (strOfNums (quoteL l)) = 34 ∧ bys (strOfNums (quoteL l)) = quoteL l := by
 have : bys (strOfNums (quoteL l)) = quoteL l := bys_strOf fun x hx => by
  have : ∀ x ∈ quoteL l, 0 ≤ x ∧ x < 256 := by
   intro x hx
   rw [quoteL] at hx
   rcases List.mem_cons.1 hx with rfl | hx
   ·omega
   ·rcases List.mem_append.1 hx with hx | hx
    ·obtain ⟨m, hm, hxm⟩ := List.mem_flatten.1 hx
     obtain ⟨c, hc, rfl⟩ := List.mem_map.1 hm
     have := vw.sign_bytes (hb c hc) x hxm; omega
    ·rw [List.mem_singleton.1 hx]; omega
  exact this x hx
 exact ⟨by rw [headI, this]; rfl, this⟩
theorem read_quote (s : ByteArray) : readW (strOfNums (quoteL (bys s))) = if 64 < s.size then (wd0, 14) else (⟨3, s, 0, 0⟩, 0) := by
 obtain ⟨h1, h2⟩ := quote_head (bys s) (bys_bytes s)
 have hl : letB (headI (strOfNums (quoteL (bys s)))) = false := by rw [h1]; rfl
 have hd : digB (headI (strOfNums (quoteL (bys s)))) = false := by rw [h1]; rfl
 obtain ⟨k1, k2⟩ := no_key hl
 rw [readW_quo k1 k2 hl hd h1, quoW, h2, vw.unquote_quote (bys s) (bys_bytes s)]
 simp only
 rw [bys_len, strOf_bys]
theorem show_is (x : Wd) : (if (notW x).size = 0 then none else if (readW (notW x)).2 ≠ 0 ∨ (readW (notW x)).1 ≠ { x with pos := 0 } then none else some (notW x)) = showW x := by
 obtain ⟨k, s, n, p⟩ := x
 simp only
 by_cases h64 : 64 < s.size
 ·have e : notW ⟨k, s, n, p⟩ = ByteArray.empty := by rw [notW, if_pos h64]
  rw [e, if_pos (show ByteArray.empty.size = 0 from rfl), showW]
  simp only
  split
  ·rw [if_neg (by omega)]
  split
  ·rfl
  rw [if_neg (by omega), if_neg]
  rintro (⟨_, h⟩ | ⟨_, h⟩ | ⟨_, h⟩)
  ·rw [nameB, decide_eq_false (p := s.size ≤ 8) (by omega)] at h
   simp at h
  ·rw [keyB, List.any_eq_true] at h
   obtain ⟨q, hq, he⟩ := h
   have h1 : ∀ q ∈ keyL, q.length ≤ 9 := by decide
   have hb := (bys_lit s q).1 (by simpa using he)
   have := h1 q hq
   rw [← bys_len, hb, List.length_map] at h64
   omega
  ·have := (sign_len h).1; omega
 ·by_cases h2 : k = 2
  ·subst h2
   have e : notW ⟨2, s, n, p⟩ = digS n := by rw [notW, if_neg h64, if_pos rfl]
   have hne : (digS n).size ≠ 0 := by
    intro h0
    have := bys_len (digS n)
    rw [h0] at this
    have hz := List.eq_nil_of_length_eq_zero this
    unfold bys at hz
    rw [digS_bys, List.map_eq_nil_iff] at hz
    unfold digI at hz
    split at hz
    ·cases hz
    ·exact Go.Proofs.Ytahcndkifplekaa.numMath.dig_ne _ hz
   rw [e, if_neg hne, read_dig, showW]
   simp only [if_true]
   by_cases hr : 0 ≤ n ∧ n ≤ 1000000000000
   ·rw [if_pos hr]
    by_cases hs : s.size = 0
    ·have hs2 : s = ByteArray.empty := by
      apply bys_inj
      have hb : bys s = [] := List.eq_nil_of_length_eq_zero (by rw [bys_len]; exact hs)
      rw [hb]; rfl
     subst hs2
     rw [if_neg (by simp), if_pos ⟨rfl, hr⟩]
    ·rw [if_pos, if_neg (fun h => hs h.1)]
     refine Or.inr ?_
     intro h
     have := congrArg (fun x => x.s.size) h
     simp only at this
     exact hs this.symm
   ·rw [if_neg hr, if_pos (Or.inl (by decide)), if_neg (fun h => hr h.2)]
  ·by_cases h3 : k = 3
   ·subst h3
    have e : notW ⟨3, s, n, p⟩ = strOfNums (quoteL (bys s)) := by rw [notW, if_neg h64, if_neg (show ¬ ((3 : Int) = 2) by decide), if_pos rfl]
    have hne : (strOfNums (quoteL (bys s))).size ≠ 0 := by rw [strOfNums_size, vw.quote_len]; omega
    rw [e, if_neg hne, read_quote, if_neg h64, showW]
    rw [if_neg (show ¬ ((3 : Int) = 2) by decide)]
    simp only
    by_cases hn : n = 0
    ·subst hn
     rw [if_neg (by rintro (h | h); exact h rfl; exact h rfl), if_neg (by simp), if_pos ⟨trivial, by omega⟩]
    ·rw [if_pos (Or.inr (by intro h; exact hn (congrArg Wd.n h).symm)), if_pos hn]
   ·have e : notW ⟨k, s, n, p⟩ = s := by rw [notW, if_neg h64, if_neg h2, if_neg h3]
    rw [e, showW]
    simp only
    rw [if_neg h2, if_neg (show ¬ (k = 3 ∧ s.size ≤ 64) from fun h => h3 h.1)]
    by_cases h0 : s.size = 0
    ·rw [if_pos h0]
     have hb : bys s = [] := List.eq_nil_of_length_eq_zero (by rw [bys_len]; exact h0)
     have hh : headI s = 0 := by rw [headI, hb]; rfl
     obtain ⟨k1, k2⟩ := no_key (t := s) (by rw [hh]; rfl)
     have hs : signB s = false := by
      cases hq : signB s with
      | false => rfl
      | true =>
       rw [signB, List.any_eq_true] at hq
       obtain ⟨q, hq, he⟩ := hq
       have h1 : ∀ q ∈ signL, q.length ≠ 0 := by decide
       have hb2 := (bys_lit s q).1 (by simpa using he)
       have := h1 q hq
       rw [hb] at hb2
       have := congrArg List.length hb2
       simp at this
       omega
     split
     ·rfl
     ·rw [if_neg]
      rintro (⟨_, h⟩ | ⟨_, h⟩ | ⟨_, h⟩)
      ·rw [k2] at h; cases h
      ·rw [k1] at h; cases h
      ·rw [hs] at h; cases h
    ·rw [if_neg h0]
     have eqn : ∀ j : Int, ((⟨j, s, 0, 0⟩ : Wd) ≠ ⟨k, s, n, 0⟩) ↔ ¬ (k = j ∧ n = 0) := fun j => by
      constructor
      ·rintro h ⟨rfl, rfl⟩; exact h rfl
      ·intro h e; cases e; exact h ⟨rfl, rfl⟩
     have excl : ∀ t : ByteArray, (keyB t = true → signB t = false) := fun t hk => by
      have hl := key_head hk
      cases hq : signB t with
      | false => rfl
      | true =>
       rw [signB, List.any_eq_true] at hq
       obtain ⟨q, hq, he⟩ := hq
       have h1 : ∀ q ∈ signL, letB ((q.map fun c => (c.toNat : Int)).getD 0 0) = false := by decide
       rw [headI, (bys_lit t q).1 (by simpa using he), h1 q hq] at hl
       cases hl
     have excl2 : ∀ t : ByteArray, (letB (headI t) = true → signB t = false) := fun t hl => by
      cases hq : signB t with
      | false => rfl
      | true =>
       rw [signB, List.any_eq_true] at hq
       obtain ⟨q, hq, he⟩ := hq
       have h1 : ∀ q ∈ signL, letB ((q.map fun c => (c.toNat : Int)).getD 0 0) = false := by decide
       rw [headI, (bys_lit t q).1 (by simpa using he), h1 q hq] at hl
       cases hl
     cases hk : keyB s with
     | true =>
      have hs := excl s hk
      have hn : nameB s = false := by rw [nameB, hk]; simp
      rw [readW_key hk]
      by_cases hc : k = 4 ∧ n = 0
      ·rw [if_neg (by rintro (h | h); exact h rfl; exact (eqn 4).1 h hc), if_neg (by rw [hc.2]; simp), if_pos (Or.inr (Or.inl ⟨hc.1, rfl⟩))]
      ·rw [if_pos (Or.inr ((eqn 4).2 hc))]
       by_cases hn0 : n = 0
       ·rw [if_neg (by rw [hn0]; simp), if_neg]
        rintro (⟨_, h⟩ | ⟨h, _⟩ | ⟨_, h⟩)
        ·rw [hn] at h; cases h
        ·exact hc ⟨h, hn0⟩
        ·rw [hs] at h; cases h
       ·rw [if_pos hn0]
     | false =>
      cases hn : nameB s with
      | true =>
       have hl : letB (headI s) = true := by
        cases hq : letB (headI s) with
        | true => rfl
        | false => rw [(no_key hq).2] at hn; cases hn
       have hs := excl2 s hl
       rw [readW_name hk hn]
       by_cases hc : k = 1 ∧ n = 0
       ·rw [if_neg (by rintro (h | h); exact h rfl; exact (eqn 1).1 h hc), if_neg (by rw [hc.2]; simp), if_pos (Or.inl ⟨hc.1, rfl⟩)]
       ·rw [if_pos (Or.inr ((eqn 1).2 hc))]
        by_cases hn0 : n = 0
        ·rw [if_neg (by rw [hn0]; simp), if_neg]
         rintro (⟨h, _⟩ | ⟨_, h⟩ | ⟨_, h⟩)
         ·exact hc ⟨h, hn0⟩
         ·cases h
         ·rw [hs] at h; cases h
        ·rw [if_pos hn0]
      | false =>
       have none3 : ∀ b : Bool, signB s = false → (if ¬ n = 0 then (none : Option ByteArray) else if (k = 1 ∧ false = true) ∨ (k = 4 ∧ false = true) ∨ (k = 5 ∧ signB s = true) then some s else none) = none := fun b hs => by
        split
        ·rfl
        ·rw [if_neg]
         rintro (⟨_, h⟩ | ⟨_, h⟩ | ⟨_, h⟩)
         ·cases h
         ·cases h
         ·rw [hs] at h; cases h
       have sgn : ∀ q : ByteArray, signB q = true → digB (headI q) = false ∧ headI q ≠ 34 := fun q hq => by
        rw [signB, List.any_eq_true] at hq
        obtain ⟨u, hu, he⟩ := hq
        have h1 : ∀ u ∈ signL, digB ((u.map fun c => (c.toNat : Int)).getD 0 0) = false ∧ (u.map fun c => (c.toNat : Int)).getD 0 0 ≠ 34 := by decide
        rw [headI, (bys_lit q u).1 (by simpa using he)]
        exact h1 u hu
       have nos : ∀ h : (digB (headI s) = true ∨ headI s = 34 ∨ letB (headI s) = true), signB s = false := fun h => by
        cases hq : signB s with
        | false => rfl
        | true =>
         have := sgn s hq
         rcases h with h | h | h
         ·rw [this.1] at h; cases h
         ·exact absurd h this.2
         ·rw [excl2 s h] at hq; cases hq
       cases hl : letB (headI s) with
       | true =>
        rw [readW_let hk hn hl, if_pos (Or.inl (by decide))]
        exact (none3 true (nos (Or.inr (Or.inr hl)))).symm
       | false =>
        cases hd : digB (headI s) with
        | true =>
         rw [readW_num hk hn hl hd, numW, if_pos]
         ·exact (none3 true (nos (Or.inl hd))).symm
         ·split
          ·exact Or.inr (by intro e; cases e; exact h2 rfl)
          ·exact Or.inl (by decide)
        | false =>
         by_cases h34 : headI s = 34
         ·rw [readW_quo hk hn hl hd h34, quoW, if_pos]
          ·exact (none3 true (nos (Or.inr (Or.inl h34)))).symm
          ·split
           ·exact Or.inl (by decide)
           ·split
            ·exact Or.inl (by decide)
            ·exact Or.inr (by intro e; cases e; exact h3 rfl)
         ·cases hs : signB s with
          | true =>
           rw [readW_sign hk hn hl hd h34 hs]
           by_cases hc : k = 5 ∧ n = 0
           ·rw [if_neg (by rintro (h | h); exact h rfl; exact (eqn 5).1 h hc), if_neg (by rw [hc.2]; simp), if_pos (Or.inr (Or.inr ⟨hc.1, rfl⟩))]
           ·rw [if_pos (Or.inr ((eqn 5).2 hc))]
            by_cases hn0 : n = 0
            ·rw [if_neg (by rw [hn0]; simp), if_neg]
             rintro (⟨_, h⟩ | ⟨_, h⟩ | ⟨h, _⟩)
             ·cases h
             ·cases h
             ·exact hc ⟨h, hn0⟩
            ·rw [if_pos hn0]
          | false =>
           rw [readW_bad hk hn hl hd h34 hs, if_pos (Or.inl (by decide))]
           have := none3 true hs
           rw [hs] at this
           exact this.symm
end lx
namespace lx
set_option maxRecDepth 100000
open Go.ChangeShapes Go.WideShapes Go.ChangeAt Go.RowKit
open rows
open sec
open ly
open dsk (frozen_row setCell_heap)
open numMath (digS)
open vw (quoteL)
set_option maxRecDepth 100000 in
set_option maxHeartbeats 2000000 in
theorem notation_any (x : Wd) (w : World) (hn : (Lit.int .i64 x.n).wf = true) (hs : x.s.size ≤ 100000) : Calls Try.prog 27 #[aggW x] w fun e w' => e = .returned (.string (notW x)) ∧ Below w.heap.size w w' := by
 have A0 := Lib.hid (atW_new w x)
 have B0 := Lib.hid (below_alloc (Below.refl w.heap.size w) (.cells #[.int .i64 x.kind, .string x.s, .int .i64 x.n, .int .i64 x.pos] 33))
 have HD := Lib.hid fun w' => num.digits_any x.n w' hn
 have HQ := Lib.hid fun w' => vw.cquote_any x.s w' hs
 have HC := Lib.hid fun w' => clone_any x.s w' hs
 have hs9 : (x.s.size : Int) ≤ 100000 := by omega
 obtain ⟨k, s, n, p⟩ := x
 simp only at *
 unfold notW
 simp only
 by_cases h64 : 64 < s.size
 ·have hi : (64 : Int) < s.size := by omega
  rw [if_pos h64]
  go_enter Try.func27, Try.ntmps27
  go_wp2_with fail
  go_ret
  exact ⟨rfl, B0.out⟩
 ·have hi : (s.size : Int) ≤ 64 := by omega
  rw [if_neg h64]
  by_cases h2 : k = 2
  ·subst h2
   rw [if_pos rfl]
   generalize digS n = r at *
   go_enter Try.func27, Try.ntmps27
   go_wp2_with (go_at_call 43; refine (HD.out _).mono ?_; rintro e w1 ⟨rfl, hb⟩; have B1 := Lib.hid (below_trans B0.out hb); clear hb)
   go_ret
   exact ⟨rfl, B1.out⟩
  ·have g2 : (k == 2) = false := beq_eq_false_iff_ne.2 h2
   rw [if_neg h2]
   by_cases h3 : k = 3
   ·subst h3
    rw [if_pos rfl]
    generalize strOfNums (quoteL (bys s)) = r at *
    go_enter Try.func27, Try.ntmps27
    go_wp2_with (go_at_call 44; refine (HQ.out _).mono ?_; rintro e w1 ⟨rfl, hb⟩; have B1 := Lib.hid (below_trans B0.out hb); clear hb)
    go_ret
    exact ⟨rfl, B1.out⟩
   ·have g3 : (k == 3) = false := beq_eq_false_iff_ne.2 h3
    rw [if_neg h3]
    go_enter Try.func27, Try.ntmps27
    go_wp2_with (go_at_call 45; refine (HC.out _).mono ?_; rintro e w1 ⟨rfl, hb⟩; have B1 := Lib.hid (below_trans B0.out hb); clear hb)
    go_ret
    exact ⟨rfl, B1.out⟩
theorem of_list {a b : ByteArray} (h : a.toList = b.toList) : a = b := by
 have := str_same a b
 rw [h, beq_self_eq_true] at this
 exact of_decide_eq_true this.symm
theorem not_len (x : Wd) (hn : (Lit.int .i64 x.n).wf = true) : (notW x).size ≤ 1000 := by
 have hz := num.wf_i64 hn
 unfold notW
 split
 ·exact Nat.zero_le _
 ·split
  ·have := Go.Proofs.Ytahcndkifplekaa.numMath.digS_small x.n (by omega); omega
  ·split
   ·rw [strOfNums_size, vw.quote_len]
    have := (vw.flat_len (bys x.s)).2
    rw [bys_len] at this
    omega
   ·omega
set_option maxRecDepth 100000 in
set_option maxHeartbeats 2000000 in
theorem show_any (x : Wd) (w : World) (hn : (Lit.int .i64 x.n).wf = true) (hs : x.s.size ≤ 100000) : Calls Try.prog 15 #[aggW x] w fun e w' => e = .returned (.tuple #[.string ((showW x).getD ByteArray.empty), .bool (showW x).isSome]) ∧ Below w.heap.size w w' := by
 have A0 := Lib.hid (atW_new w x)
 have B0 := Lib.hid (below_alloc (Below.refl w.heap.size w) (.cells #[.int .i64 x.kind, .string x.s, .int .i64 x.n, .int .i64 x.pos] 33))
 have HN := Lib.hid fun w' => notation_any x w' hn hs
 have hl := not_len x hn
 have hsi := show_is x
 have hrd := fun (h : 0 < (notW x).size) w' => read_any (notW x) w' h (by omega)
 have hp0 := readW_zero (notW x)
 rw [← hsi]
 clear hsi
 generalize notW x = t at *
 generalize readW t = RW at *
 obtain ⟨⟨k', s', n', p'⟩, er⟩ := RW
 obtain ⟨k, s, n, p⟩ := x
 simp only at *
 subst hp0
 by_cases h0 : t.size = 0
 ·have ht : (t.toList == []) = true := by rw [nil_eq, decide_eq_true h0]
  rw [if_pos h0]
  go_enter Try.func15, Try.ntmps15
  have c0 := A0.out.c0
  have c1 := A0.out.c1
  have c2 := A0.out.c2
  have c3 := A0.out.c3
  simp only at c0 c1 c2 c3
  go_wp2_with (first
   | (refine load_word rfl (.tmp 1) rfl w.heap.size 0 rfl ⟨k, s, n, p⟩ c0 c1 c2 c3 ?_)
   | (go_at_call 27; refine (HN.out _).mono ?_; rintro e w1 ⟨rfl, hb⟩; have B1 := Lib.hid (below_trans B0.out hb); clear hb))
  go_ret2
  exact ⟨rfl, B1.out⟩
 ·have ht : (t.toList == []) = false := by rw [nil_eq, decide_eq_false h0]
  rw [if_neg h0]
  have HR := Lib.hid (hrd (by omega))
  have EQ := Lib.hid (eqIn_wd ⟨k', s', n', 0⟩ ⟨k, s, n, 0⟩)
  clear hrd h0
  obtain ⟨b, hb⟩ : ∃ b, decide ((⟨k', s', n', 0⟩ : Wd) = ⟨k, s, n, 0⟩) = b := ⟨_, rfl⟩
  rw [hb] at EQ
  obtain ⟨R, hR⟩ : ∃ R, (if er ≠ 0 ∨ (⟨k', s', n', 0⟩ : Wd) ≠ ⟨k, s, n, 0⟩ then none else some t) = R := ⟨_, rfl⟩
  rw [hR]
  go_enter Try.func15, Try.ntmps15
  have c0 := A0.out.c0
  have c1 := A0.out.c1
  have c2 := A0.out.c2
  have c3 := A0.out.c3
  simp only at c0 c1 c2 c3
  go_upto_region 4 with (first
   | (refine load_word rfl (.tmp 1) rfl w.heap.size 0 rfl ⟨k, s, n, p⟩ c0 c1 c2 c3 ?_)
   | (go_at_call 27; refine (HN.out _).mono ?_; rintro e w1 ⟨rfl, hb1⟩; have B1 := Lib.hid (below_trans B0.out hb1); have A1 := Lib.hid (A0.out.later hb1); clear hb1))
  have d3 := A1.out.c3
  have f3 := frozen_row A1.out 3
  go_upto_region 5 with fail
  have A2 : Hid (AtW (w1.setCell ⟨w.heap.size, 3, none⟩ (.int .i64 0)) w.heap.size ⟨k, s, n, 0⟩) := Lib.hid (setCell_heap A1.out _)
  have B2 : Hid (Below w.heap.size w (w1.setCell ⟨w.heap.size, 3, none⟩ (.int .i64 0))) := Lib.hid (B1.out.setCell (p := ⟨w.heap.size, 3, none⟩) (Nat.le_refl _) _)
  obtain ⟨w2, hw2⟩ : ∃ v, w1.setCell ⟨w.heap.size, 3, none⟩ (.int .i64 0) = v := ⟨_, rfl⟩
  rw [hw2] at A2 B2 ⊢
  clear hw2 d3 f3 A1 B1 c0 c1 c2 c3
  go_upto_region 6 with (first
   | (go_at_call 19; refine (HR.out _).mono ?_; rintro e w3 ⟨rfl, hb3⟩; have B3 := Lib.hid (below_trans B2.out hb3); have A3 := Lib.hid (A2.out.later hb3); clear hb3)
   | (refine store_word rfl (.tmp 5) (.tmp 15) rfl rfl w3.heap.size ⟨k', s', n', 0⟩ _ rfl rfl (zero_word w3) ?_; intro w4 hA hB hZ; have hB4 := (below_alloc (Below.refl w3.heap.size w3) (.cells #[.int .i64 0, .string { data := #[] }, .int .i64 0, .int .i64 0] 33)).trans hB; have A4 := Lib.hid hA; have B4 := Lib.hid (B3.out.trans (hB4.mono B3.out.size)); have X4 := Lib.hid (A3.out.later hB4); clear hA hB hZ hB4))
  have c0 := A4.out.c0
  have c1 := A4.out.c1
  have c2 := A4.out.c2
  have c3 := A4.out.c3
  have d0 := X4.out.c0
  have d1 := X4.out.c1
  have d2 := X4.out.c2
  have d3 := X4.out.c3
  simp only at c0 c1 c2 c3 d0 d1 d2 d3
  have HRN := Lib.hid hR
  by_cases her : er = 0
  ·subst her
   cases b with
   | true =>
    have hR1 : some t = R := by
     have := of_decide_eq_true hb
     rw [← hR, if_neg]; rintro (h | h)
     ·exact h rfl
     ·exact h this
    subst hR1
    have hsame := of_decide_eq_true hb
    cases hsame
    clear hR HRN hb
    go_wp2_with (first
     | (refine load_word rfl (.tmp 5) rfl w3.heap.size 0 rfl ⟨k, s, n, 0⟩ c0 c1 c2 c3 ?_)
     | (refine load_word rfl (.tmp 1) rfl w.heap.size 0 rfl ⟨k, s, n, 0⟩ d0 d1 d2 d3 ?_))
    go_ret2
    exact ⟨rfl, B4.out⟩
   | false =>
    have hR1 : none = R := by
     have := of_decide_eq_false hb
     rw [← hR, if_pos (Or.inr this)]
    subst hR1
    have HNE := Lib.hid (of_decide_eq_false hb)
    clear hR HRN hb
    go_wp2_with (first
     | (refine load_word rfl (.tmp 5) rfl w3.heap.size 0 rfl ⟨k', s', n', 0⟩ c0 c1 c2 c3 ?_)
     | (refine load_word rfl (.tmp 1) rfl w.heap.size 0 rfl ⟨k, s, n, 0⟩ d0 d1 d2 d3 ?_))
    all_goals go_ret2
    all_goals first | exact ⟨rfl, B4.out⟩ | exact absurd (by rw [of_list (a := s') (b := s) (by assumption), show k' = k by assumption, show n' = n by assumption]) HNE.out
  ·have hR1 : none = R := by rw [← hR, if_pos (Or.inl her)]
   subst hR1
   have g0 : (er == 0) = false := beq_eq_false_iff_ne.2 her
   have HER := Lib.hid her
   have h9 : ¬ er = 0 := her
   clear hR HRN hb her
   go_wp2_with (first
    | (refine load_word rfl (.tmp 5) rfl w3.heap.size 0 rfl ⟨k', s', n', 0⟩ c0 c1 c2 c3 ?_)
    | (refine load_word rfl (.tmp 1) rfl w.heap.size 0 rfl ⟨k, s, n, 0⟩ d0 d1 d2 d3 ?_))
   all_goals go_ret2
   all_goals first | exact ⟨rfl, B4.out⟩ | exact absurd (by assumption) HER.out | exact absurd rfl HER.out
end lx
namespace lx
set_option maxRecDepth 100000
open Go.ChangeShapes Go.WideShapes Go.ChangeAt Go.RowKit
open rows
open sec
open ly
set_option maxRecDepth 100000 in
theorem fault_any (e k e' k' : Int) (w : World) : Calls Try.prog 10 #[aggF e k, aggF e' k'] w fun o w' => o = .returned (.bool (e == e' && k == k')) ∧ Below w.heap.size w w' := by
 have B0 := Lib.hid (below_alloc (below_alloc (Below.refl w.heap.size w) (.cells #[.int .i64 e, .int .i64 k] 26)) (.cells #[.int .i64 e', .int .i64 k'] 26))
 obtain ⟨b, hb⟩ : ∃ b, (e == e') = b := ⟨_, rfl⟩
 rw [hb]
 cases b
 all_goals
  go_enter Try.func10, Try.ntmps10
  go_wp2_with fail
  go_ret
  exact ⟨rfl, B0.out⟩
end lx
namespace lx
set_option maxRecDepth 100000
open Go.ChangeShapes Go.WideShapes Go.ChangeAt Go.RowKit
open rows
open sec
open ly
open dsk (cell_row)
def kwS : ByteArray := { data := #[108, 101, 116, 32, 97, 61, 49, 59] }
def kwL : List Wd := [⟨4, { data := #[108, 101, 116] }, 0, 0⟩, ⟨1, { data := #[97] }, 0, 4⟩, ⟨5, { data := #[61] }, 0, 5⟩, ⟨2, { data := #[] }, 1, 6⟩, ⟨5, { data := #[59] }, 0, 7⟩, ⟨0, { data := #[] }, 0, 8⟩]
theorem kw_is : wordsW kwS = (kwL, 0, 0) := by kernel_rfl
theorem ks_is : showW ⟨3, { data := #[120] }, 0, 0⟩ = some { data := #[34, 120, 34] } := by kernel_rfl
theorem kk_is : keyB { data := #[108, 101, 116] } = true := by kernel_rfl
theorem kn_is : nameB { data := #[97] } = true := by kernel_rfl
theorem row_wd {w : World} {q : Option Addr} {n c : Nat} {L : List Wd} (h : Rd w 4 (.slice q n c) n (wordsC L)) {j : Nat} (hj : j < n) (hl : L.length = n) :
  ∃ b o, q = some ⟨b, o, none⟩ ∧ w.cell? ⟨b, o + j * 4, none⟩ = some (.int .i64 (L[j]'(by omega)).kind) ∧ w.cell? ⟨b, o + j * 4 + 1, none⟩ = some (.string (L[j]'(by omega)).s) ∧ w.cell? ⟨b, o + j * 4 + 2, none⟩ = some (.int .i64 (L[j]'(by omega)).n) ∧ w.cell? ⟨b, o + j * 4 + 3, none⟩ = some (.int .i64 (L[j]'(by omega)).pos) ∧ b < w.heap.size := by
 obtain ⟨b1, o1, rfl, hc1, hmm1, hh1, hl1, HR1⟩ := dsk.Rd.chunk Wd.c h (fun x hx => rfl) (by decide) hj
 have hg := HR1 j (by omega)
 exact ⟨b1, o1, rfl, by simpa using hg 0 _ rfl, hg 1 _ rfl, hg 2 _ rfl, hg 3 _ rfl, hh1⟩
theorem same_addr {b o b' o' : Nat} (h : (some (⟨b, o, none⟩ : Addr)) = some ⟨b', o', none⟩) : b = b' ∧ o = o' := by
 injection h with h
 injection h with h1 h2
 exact ⟨h1, h2⟩
theorem atFt_new (w : World) : AtFt (w.alloc (.cells #[.int .i64 0, .int .i64 0] 26)) w.heap.size 0 0 := heap_alloc_new _ _
theorem AtFt.later {w w' : World} {g : Nat} {e k : Int} (h : AtFt w g e k) (hb : Below w.heap.size w w') : AtFt w' g e k := (hb.block g h.lt).trans h
theorem load_fault {ops : Array Oper} {rest : List Oper} {o : Oper} {a : Act} {w : World} {Q : Exit → Act → World → Prop} (hgd : o.guard = none) (x : Operand) (ho : o.op = .load 26 x)
  (b : Nat) (e k : Int) (hx : a.eval x = .pointer (some ⟨b, 0, none⟩)) (hg : AtFt w b e k)
  (h : wpList Try.prog ops Q rest (a.put o.dst (aggF e k)) w) : wpList Try.prog ops Q (o :: rest) a w :=
 wpList_load_mid hgd 26 x ho b 0 hx [.int .i64 e, .int .i64 k] _ (fun j u hj => by
  match j, hj with
  | 0, hj => cases hj; exact cell_row hg 0 _ rfl
  | 1, hj => cases hj; exact cell_row hg 1 _ rfl
  | j + 2, hj => simp at hj) Try.underlying26 rfl (by rw [info_fault]; rfl) h
set_option maxRecDepth 100000 in
set_option maxHeartbeats 4000000 in
theorem knows15 (w : World) : Calls Try.prog 6 #[] w fun e w' => e = .returned (.bool true) ∧ Below w.heap.size w w' := by
 have KW : Hid (∀ w', Calls Try.prog 7 #[.string { data := #[108, 101, 116, 32, 97, 61, 49, 59] }] w' fun e w'' => ∃ q c, e = .returned (.tuple #[.slice q 6 c, aggF 0 0]) ∧ Rd w'' 4 (.slice q 6 c) 6 (wordsC kwL) ∧ Below w'.heap.size w' w'') := Lib.hid fun w' => by
  have h := words_any kwS w' (by decide)
  unfold WordsIs at h
  rw [kw_is] at h
  refine h.mono ?_
  rintro e w'' ⟨q, n, c, rfl, rfl, h1, h2⟩
  exact ⟨q, c, rfl, h1, h2⟩
 have KS := Lib.hid fun w' => show_any ⟨3, { data := #[120] }, 0, 0⟩ w' (by decide) (by decide)
 rw [ks_is] at KS
 change Hid (∀ w', Calls Try.prog 15 #[.agg #[.int .i64 3, .string { data := #[120] }, .int .i64 0, .int .i64 0]] w' fun e w'' => e = .returned (.tuple #[.string { data := #[34, 120, 34] }, .bool true]) ∧ Below w'.heap.size w' w'') at KS
 have KK := Lib.hid fun w' => key_any { data := #[108, 101, 116] } w'
 rw [kk_is] at KK
 have KN := Lib.hid fun w' => name_any { data := #[97] } w' (by decide)
 rw [kn_is] at KN
 have KF := Lib.hid fun w' => fault_any 0 0 0 0 w'
 change Hid (∀ w', Calls Try.prog 10 #[aggF 0 0, aggF 0 0] w' fun o w'' => o = .returned (.bool true) ∧ Below w'.heap.size w' w'') at KF
 go_enter Try.func6, Try.ntmps6
 go_upto_region 3 with (first
  | (go_at_call 7; refine (KW.out _).mono ?_; rintro e w1 ⟨q1, c1, rfl, hr, hb⟩; have B1 := Lib.hid (show Below w.heap.size w w1 from hb); have R1 := Lib.hid hr; clear hb hr)
  | (refine store_fault rfl (.tmp 2) (.tmp 8) rfl rfl w1.heap.size 0 0 _ _ rfl rfl (atFt_new w1) ?_; intro w2 hA hB hO hZ; have A2 := Lib.hid hA; have B2 := Lib.hid (B1.out.trans (((below_alloc (Below.refl w1.heap.size w1) (.cells #[.int .i64 0, .int .i64 0] 26)).trans hB).mono B1.out.size)); have X2 := Lib.hid ((below_alloc (Below.refl w1.heap.size w1) (.cells #[.int .i64 0, .int .i64 0] 26)).trans hB); clear hA hB hO hZ)
  | (refine wpList_buildTo rfl 33 #[(0, .const (.int .i64 3)), (1, .const (.string { data := #[120] }))] rfl (some 10) rfl #[.int .i64 3, .string { data := #[120] }, .int .i64 0, .int .i64 0] (by kernel_rfl) ?_)
  | (go_at_call 15; refine (KS.out _).mono ?_; rintro e w3 ⟨rfl, hb⟩; have B3 := Lib.hid (below_trans B2.out hb); have A3 := Lib.hid (A2.out.later hb); have R3 := Lib.hid (R1.out.later (X2.out.trans (hb.mono X2.out.size))); clear hb))
 go_wp2_with (first
  | (refine load_fault rfl (.tmp 2) rfl w1.heap.size 0 0 rfl A3.out ?_)
  | (refine wpList_buildTo rfl 26 #[] rfl (some 15) rfl #[.int .i64 0, .int .i64 0] (by kernel_rfl) ?_)
  | (go_at_call 10; refine (KF.out _).mono ?_; rintro e w4 ⟨rfl, hb⟩; have B4 := Lib.hid (below_trans B3.out hb); obtain ⟨b4, o4, hq4, x0, x1, x2, x3, _⟩ := row_wd (R3.out.later hb) (j := 3) (by decide) rfl; obtain ⟨b5, o5, hq5, _, _, _, z3, _⟩ := row_wd (R3.out.later hb) (j := 5) (by decide) rfl; subst hq4; obtain ⟨rfl, rfl⟩ := same_addr hq5; have y0 : w4.cell? ⟨b4, o4 + 12, none⟩ = some (.int .i64 2) := x0; have y1 : w4.cell? ⟨b4, o4 + 13, none⟩ = some (.string { data := #[] }) := x1; have y2 : w4.cell? ⟨b4, o4 + 14, none⟩ = some (.int .i64 1) := x2; have y3 : w4.cell? ⟨b4, o4 + 15, none⟩ = some (.int .i64 6) := x3; have y4 : w4.cell? ⟨b4, o4 + 23, none⟩ = some (.int .i64 8) := z3; clear hb x0 x1 x2 x3 z3 hq5)
  | (refine load_word rfl (.tmp 24) rfl b4 (o4 + 12) rfl ⟨2, { data := #[] }, 1, 6⟩ y0 y1 y2 y3 ?_)
  | (refine wpList_buildTo rfl 33 #[(0, .const (.int .i64 2)), (2, .const (.int .i64 1)), (3, .const (.int .i64 6))] rfl (some 26) rfl #[.int .i64 2, .string { data := #[] }, .int .i64 1, .int .i64 6] (by kernel_rfl) ?_)
  | (go_at_call 11; refine (KK.out _).mono ?_; rintro e w5 ⟨rfl, hw⟩; obtain rfl := hw.symm)
  | (go_at_call 13; refine (KN.out _).mono ?_; rintro e w6 ⟨rfl, hb⟩; have B6 := Lib.hid (below_trans B4.out hb); clear hb))
 go_ret
 exact ⟨rfl, B6.out⟩
end lx
namespace lx
set_option maxRecDepth 100000
open Go.ChangeShapes Go.WideShapes Go.ChangeAt Go.RowKit
open rows
open sec
open dsk (field_trod cut_piece)
theorem cellsWd : Try.prog.cellsOf 33 = 4 := by kernel_rfl
theorem cellsIntW : Try.prog.cellsOf 3 = 1 := by kernel_rfl
theorem cellsI64 : Try.prog.cellsOf 2 = 1 := by kernel_rfl
theorem cellsStrW : Try.prog.cellsOf 9 = 1 := by kernel_rfl
theorem und_wd : Try.prog.underlying 33 = some (.struct (Try.prog.fieldsOf 33)) := by kernel_rfl
theorem und_wds : Try.prog.underlying 23 = some (.slice 33) := by kernel_rfl
theorem fields_wd2 : (Try.prog.fieldsOf 33).toList.map (fun f => (f.type, f.offset)) = [(3, 0), (9, 1), (2, 2), (3, 3)] := by kernel_rfl
def Wd.ok (x : Wd) : Prop := (Lit.int .i64 x.n).wf = true ∧ x.s.size ≤ maxLen
section
variable {H : Type} {enc : TypeId × Value → H} {W : World} {base : Nat} {spare : Nat → Bool} {held : Bool}
theorem wd_of_cells {n : Nat} {cs : List Value} {x : DataW H × List MemPlace} (h : DataW.trod enc Try.prog W base spare held n 33 cs = some x) : ∃ a : Wd, a.ok ∧ cs = a.c := by
 obtain ⟨hl, hf⟩ := field_trod und_wd fields_wd2 h
 rw [cellsWd] at hl
 obtain ⟨_, _, h0⟩ := hf 0 _ _ rfl
 obtain ⟨_, _, h1⟩ := hf 1 _ _ rfl
 obtain ⟨_, _, h2⟩ := hf 2 _ _ rfl
 obtain ⟨_, _, h3⟩ := hf 3 _ _ rfl
 rw [cellsIntW] at h0 h3
 rw [cellsStrW] at h1
 rw [cellsI64] at h2
 obtain ⟨k, e0, _, wk⟩ := DataW.trod_int Try.underlying3 h0
 obtain ⟨s, e1, _, ws⟩ := DataW.trod_string Try.underlying9 h1
 obtain ⟨m, e2, _, wm⟩ := DataW.trod_int und_i64 h2
 obtain ⟨p, e3, _, wp⟩ := DataW.trod_int Try.underlying3 h3
 refine ⟨⟨k, s, m, p⟩, ⟨wm, ws⟩, ?_⟩
 have q0 := cut_piece cs 0 1
 have q1 := cut_piece cs 1 1
 have q2 := cut_piece cs 2 1
 have q3 := cut_piece cs 3 1
 rw [e0] at q0
 rw [e1] at q1
 rw [e2] at q2
 rw [e3, List.drop_of_length_le (i := 3 + 1) (by omega), List.append_nil] at q3
 simp only [Nat.reduceAdd] at q0 q1 q2
 rw [List.drop_zero, ← q1, ← q2, ← q3] at q0
 exact q0.symm
theorem wds_of_trod {p : Option Addr} {len cap : Nat} {d : DataW H} {ps : List MemPlace}
  (h : DataW.Trod enc Try.prog W 0 (fun _ => true) true 23 (.slice p len cap) d ps) : ∃ l : List Wd, (∀ x ∈ l, x.ok) ∧ Rd W 4 (.slice p len cap) len (wordsC l) ∧ len ≤ maxLen := by
 obtain ⟨fuel, hf⟩ := h
 obtain ⟨p', len', cap', l, hcs, hg, hll, hr, hm⟩ := open_slice Wd.c (by decide) und_wds cellsWd Wd.ok (fun x hx => rfl) (fun _ _ _ h => wd_of_cells h) hf
 simp [Value.cells] at hcs
 obtain ⟨rfl, rfl, rfl⟩ := hcs
 exact ⟨l, hg, hr, hm⟩
end
end lx
namespace lx
set_option maxRecDepth 100000
open ly
open numMath (rB readV)
open vw (unquoteL quoteL)
theorem while_app {q : Int → Bool} {l : List Int} (h : ∀ x ∈ l, q x = true) {c : Int} (hc : q c = false) (r : List Int) : (l ++ c :: r).takeWhile q = l := by
 rw [List.takeWhile_append_of_pos h, List.takeWhile_cons, if_neg (by rw [hc]; decide), List.append_nil]
theorem sign_cases {t : ByteArray} (h : signB t = true) (r : List Int) : tokN (bys t ++ 32 :: r) = t.size ∧ wsB (headI t) = false ∧ headI t ≠ 35 ∧ 1 ≤ t.size := by
 rw [signB, List.any_eq_true] at h
 obtain ⟨k, hk, he⟩ := h
 have hb := (bys_lit t k).1 (by simpa using he)
 have hz : t.size = k.length := by rw [← bys_len, hb, List.length_map]
 rw [hz, headI, hb]
 simp only [signL, List.mem_cons, List.not_mem_nil, or_false] at hk
 rcases hk with rfl | rfl | rfl | rfl | rfl | rfl | rfl | rfl | rfl | rfl | rfl | rfl
 all_goals exact ⟨rfl, rfl, by decide, by decide⟩
theorem let_ws {c : Int} (h : letB c = true) : wsB c = false ∧ c ≠ 35 := by
 unfold letB at h
 rw [Bool.and_eq_true, decide_eq_true_eq, decide_eq_true_eq] at h
 unfold wsB
 rw [beq_eq_false_iff_ne.2 (show c ≠ 32 by omega), beq_eq_false_iff_ne.2 (show c ≠ 9 by omega), beq_eq_false_iff_ne.2 (show c ≠ 10 by omega)]
 exact ⟨rfl, by omega⟩
theorem dig_ws {c : Int} (h : digB c = true) : wsB c = false ∧ c ≠ 35 := by
 unfold digB at h
 rw [Bool.and_eq_true, decide_eq_true_eq, decide_eq_true_eq] at h
 unfold wsB
 rw [beq_eq_false_iff_ne.2 (show c ≠ 32 by omega), beq_eq_false_iff_ne.2 (show c ≠ 9 by omega), beq_eq_false_iff_ne.2 (show c ≠ 10 by omega)]
 exact ⟨rfl, by omega⟩
theorem key_inn {t : ByteArray} (h : keyB t = true) : ∀ x ∈ bys t, innB x = true := by
 rw [keyB, List.any_eq_true] at h
 obtain ⟨k, hk, he⟩ := h
 have h1 : ∀ k ∈ keyL, (k.map fun c => (c.toNat : Int)).all innB = true := by decide
 rw [(bys_lit t k).1 (by simpa using he)]
 exact List.all_eq_true.1 (h1 k hk)
theorem name_inn {t : ByteArray} (h : nameB t = true) : (∀ x ∈ bys t, innB x = true) ∧ letB (headI t) = true ∧ 1 ≤ t.size := by
 rw [nameB, Bool.and_eq_true, Bool.and_eq_true, Bool.and_eq_true, Bool.and_eq_true, decide_eq_true_eq] at h
 exact ⟨List.all_eq_true.1 h.1.2, h.1.1.2, h.1.1.1.1⟩
theorem num_dig {t : ByteArray} (h : rB t.data.toList = true) : ∀ x ∈ bys t, digB x = true := by
 unfold rB readV at h
 split at h
 ·cases h
 ·rename_i hn
  have hall : t.data.toList.all Go.Proofs.Ytahcndkifplekaa.numMath.isDig = true := by
   cases hh : t.data.toList.all Go.Proofs.Ytahcndkifplekaa.numMath.isDig with
   | true => rfl
   | false => exact absurd (Or.inr (Or.inr (Or.inr hh))) hn
  intro x hx
  unfold bys at hx
  obtain ⟨c, hc, rfl⟩ := List.mem_map.1 hx
  exact List.all_eq_true.1 hall c hc
theorem tok_of {t : ByteArray} (h0 : 1 ≤ t.size) (h : (readW t).2 = 0) (r : List Int) : tokN (bys t ++ 32 :: r) = t.size ∧ wsB (headI t) = false ∧ headI t ≠ 35 := by
 obtain ⟨u, hu⟩ := head_bys t h0
 have hz := bys_len t
 have let1 : letB (headI t) = true → (∀ x ∈ bys t, innB x = true) → tokN (bys t ++ 32 :: r) = t.size := fun hl ha => by
  have := while_app ha (c := 32) (by rfl) r
  rw [hu] at this ⊢
  rw [List.cons_append, tok_is, if_pos hl, ← List.cons_append, this, ← hu, hz]
 cases hk : keyB t with
 | true => exact ⟨let1 (key_head hk) (key_inn hk), let_ws (key_head hk)⟩
 | false =>
  cases hn : nameB t with
  | true =>
   obtain ⟨a1, a2, _⟩ := name_inn hn
   exact ⟨let1 a2 a1, let_ws a2⟩
  | false =>
   cases hl : letB (headI t) with
   | true => rw [readW_let hk hn hl] at h; cases h
   | false =>
    cases hd : digB (headI t) with
    | true =>
     rw [readW_num hk hn hl hd, numW] at h
     cases hr : rB t.data.toList with
     | false => rw [hr] at h; cases h
     | true =>
      have := while_app (num_dig hr) (c := 32) (by rfl) r
      refine ⟨?_, dig_ws hd⟩
      rw [hu] at this ⊢
      rw [List.cons_append, tok_is, if_neg (by rw [hl]; decide), if_pos hd, ← List.cons_append, this, ← hu, hz]
    | false =>
     by_cases h34 : headI t = 34
     ·rw [readW_quo hk hn hl hd h34, quoW] at h
      cases hq : unquoteL (bys t) with
      | none => rw [hq] at h; cases h
      | some m =>
       obtain ⟨e, hm⟩ := vw.quote_unquote (bys_bytes t) hq
       refine ⟨?_, by rw [h34]; rfl, by rw [h34]; decide⟩
       have hne : ∀ x ∈ (m.map vw.signL).flatten, (x != 34) = true := by
        intro x hx
        obtain ⟨y, hy, hxy⟩ := List.mem_flatten.1 hx
        obtain ⟨c, hc, rfl⟩ := List.mem_map.1 hy
        have := (vw.sign_bytes (hm c hc) x hxy).2.2
        simpa using this
       have hw := while_app hne (c := 34) (by rfl) (32 :: r)
       rw [← e] at hz ⊢
       rw [← hz, vw.quote_len]
       have ee : quoteL m ++ 32 :: r = 34 :: ((m.map vw.signL).flatten ++ 34 :: 32 :: r) := by simp [quoteL]
       rw [ee, tok_is, if_neg (by decide), if_neg (by decide), if_pos rfl, hw]
       rw [List.length_append, List.length_cons, List.length_cons]
       omega
     ·cases hs : signB t with
      | true =>
       have := sign_cases hs r
       exact ⟨this.1, this.2.1, this.2.2.1⟩
      | false => rw [readW_bad hk hn hl hd h34 hs] at h; cases h
theorem show_some {x : Wd} {t : ByteArray} (h : showW x = some t) : 1 ≤ t.size ∧ readW t = ({ x with pos := 0 }, 0) := by
 rw [← show_is] at h
 split at h
 ·cases h
 ·rename_i h1
  split at h
  ·cases h
  ·rename_i h2
   cases h
   rw [not_or, Decidable.not_not, Decidable.not_not] at h2
   exact ⟨by omega, Prod.ext h2.2 h2.1⟩
theorem scan_same {n f g : Nat} {l m : List Int} (hs : skipL false l = skipL false m) (hl : l.length < f) (hm : m.length < g) : scanF n f l = scanF n g m := by
 rw [← scan_skip n f l, ← scan_skip n g m, hs]
 have h1 := skip_le false m
 have h2 := skip_le false l
 rw [hs] at h2
 rcases Nat.le_total f g with h | h
 ·obtain ⟨k, rfl⟩ : ∃ k, g = f + k := ⟨g - f, by omega⟩
  exact (scanF_more n f _ (by omega) k).symm
 ·obtain ⟨k, rfl⟩ : ∃ k, f = g + k := ⟨f - g, by omega⟩
  exact scanF_more n g _ (by omega) k
def Gives (S : List Int) (want : List Wd) : Prop := ∀ (rest : List Int) (N f : Nat), N = S.length + rest.length → N < f → scanF N f (S ++ rest) = contW want (scanF N f rest)
theorem skip_note : ∀ (l : List Int), (∀ x ∈ l, x ≠ 10) → ∀ r, skipL true (l ++ 10 :: r) = skipL false r
 | [], _, r => by rw [List.nil_append, skipL, if_pos rfl]
 | c :: t, h, r => by
  rw [List.cons_append, skipL, if_neg (h c List.mem_cons_self), skip_note t (fun x hx => h x (List.mem_cons_of_mem _ hx)) r]
theorem skip_note2 : ∀ (l : List Int), (∀ x ∈ l, x ≠ 10) → skipL true l = []
 | [], _ => rfl
 | c :: t, h => by
  rw [skipL, if_neg (h c List.mem_cons_self), skip_note2 t (fun x hx => h x (List.mem_cons_of_mem _ hx))]
theorem gives_head {note : List Int} (h : ∀ x ∈ note, x ≠ 10) : Gives (32 :: 9 :: 35 :: (note ++ [10])) [] := by
 intro rest N f hN hf
 have e : (32 :: 9 :: 35 :: (note ++ [10])) ++ rest = 32 :: 9 :: 35 :: (note ++ 10 :: rest) := by simp
 rw [cont_nil]
 refine scan_same ?_ (by rw [List.length_append]; omega) (by omega)
 rw [e, skipL, if_pos (by rfl), skipL, if_pos (by rfl), skipL, if_neg (by decide), if_pos rfl, skip_note note h rest]
theorem gives_word {S : List Int} {want : List Wd} (hg : Gives S want) {x : Wd} {t : ByteArray} (hx : showW x = some t) : Gives (S ++ bys t ++ [32]) (want ++ [{ x with pos := (S.length : Int) }]) := by
 intro rest N f hN hf
 obtain ⟨h1, h2⟩ := show_some hx
 obtain ⟨t1, t2, t3⟩ := tok_of h1 (by rw [h2]) rest
 have hz := bys_len t
 obtain ⟨u, hu⟩ := head_bys t h1
 have e : (S ++ bys t ++ [32]) ++ rest = S ++ (bys t ++ 32 :: rest) := by simp
 have hN2 : N = S.length + (bys t ++ 32 :: rest).length := by rw [hN]; simp; omega
 rw [e, hg _ N f hN2 hf]
 obtain ⟨f', rfl⟩ : ∃ f', f = f' + 1 := ⟨f - 1, by omega⟩
 have hsk : skipL false (bys t ++ 32 :: rest) = bys t ++ 32 :: rest := by
  rw [hu, List.cons_append, skipL, if_neg (by rw [t2]; decide), if_neg t3]
 have hst : strOfNums ((skipL false (bys t ++ 32 :: rest)).take (tokN (skipL false (bys t ++ 32 :: rest)))) = t := by
  rw [hsk, t1, ← hz, List.take_left', strOf_bys]
  rfl
 have hne : skipL false (bys t ++ 32 :: rest) ≠ [] := by rw [hsk, hu]; exact List.cons_ne_nil _ _
 rw [scan_next hne (by rw [hst, h2]) want, hst, h2, hsk, t1, ← hz, List.drop_left]
 have hpos : N - (bys t ++ 32 :: rest).length = S.length := by omega
 rw [hpos]
 congr 1
 refine scan_same ?_ (by rw [hN2, List.length_append] at hf; rw [List.length_cons] at hf ⊢; omega) (by rw [hN2, List.length_append, List.length_cons] at hf; omega)
 rw [skipL, if_pos (by rfl)]
theorem gives_all {S note : List Int} {want : List Wd} (hg : Gives S want) (h : ∀ x ∈ note, x ≠ 10) : scanW (S ++ 35 :: note) = (want ++ [⟨0, ByteArray.empty, 0, ((S.length + 1 + note.length : Nat) : Int)⟩], 0, 0) := by
 have hl : (S ++ 35 :: note).length = S.length + (35 :: note).length := List.length_append
 rw [scanW, hg (35 :: note) _ _ hl (by omega)]
 have hs : skipL false (35 :: note) = [] := by rw [skipL, if_neg (by decide), if_pos rfl, skip_note2 note h]
 rw [scan_end hs, contW, if_neg (by simp)]
 have : (S ++ 35 :: note).length = S.length + 1 + note.length := by rw [hl, List.length_cons]; omega
 rw [this]
end lx
namespace lx
set_option maxRecDepth 100000
open Go.ChangeShapes Go.WideShapes Go.ChangeAt Go.RowKit
open rows
open sec
open ly
open dsk (build_one rd_laid frozen_row setCell_heap)
theorem bys_app (a b : ByteArray) : bys (a ++ b) = bys a ++ bys b := by
 unfold bys; rw [ByteArray.data_append, Array.toList_append, List.map_append]
theorem no_ten {s : ByteArray} (h : ∀ j (hj : j < s.size), ((s[j]'hj).toNat : Int) ≠ 10) : ∀ x ∈ bys s, x ≠ 10 := by
 intro x hx
 obtain ⟨i, hi⟩ := List.mem_iff_getElem?.1 hx
 have hl : i < s.size := by
  have := (List.getElem?_eq_some_iff.1 hi).1
  rw [bys_len] at this; exact this
 rw [get_at s hl] at hi
 rw [← Option.some.inj hi]
 exact h i hl
theorem show_len {x : Wd} {t : ByteArray} (hn : (Lit.int .i64 x.n).wf = true) (h : showW x = some t) : t.size ≤ 1000 := by
 have h2 := h
 rw [← show_is] at h2
 split at h2
 ·cases h2
 ·split at h2
  ·cases h2
  ·cases h2
   exact not_len x hn
set_option maxRecDepth 1000000 in
set_option maxHeartbeats 8000000 in
theorem walkLexBack (p : Option Addr) (n c : Nat) (l : List Wd) (s : ByteArray) (hs : s.size ≤ maxLen) (w : World) (hr : Rd w 4 (.slice p n c) n (wordsC l)) (hn : n ≤ maxLen) (hok : ∀ x ∈ l, x.ok) :
  Calls Try.prog 5 #[.slice p n c, .string s] w fun e w' => e = .returned (.bool true) ∧ Below w.heap.size w w' := by
 have HK := Lib.hid fun w' => knows15 w'
 have hn9 : (n : Int) ≤ 9223372036854775807 := by unfold maxLen at hn; omega
 have hs9 : (s.size : Int) ≤ 9223372036854775807 := by unfold maxLen at hs; omega
 by_cases hbig : 60 < n ∨ 100 < s.size
 ·have h3 : 60 < n ∨ (n ≤ 60 ∧ 100 < s.size) := by omega
  clear hr hbig hok hs hn
  rcases h3 with h | ⟨h, h'⟩
  all_goals
   first | (have j1 : (60 : Int) < n := by omega) | (have j1 : (n : Int) ≤ 60 := by omega)
   first | (have j2 : (100 : Int) < s.size := by omega) | skip
   go_enter Try.func5, Try.ntmps5
   go_wp2_with (go_at_call 6; refine (HK.out _).mono ?_; rintro e w2 ⟨rfl, hb2⟩)
   go_ret
   exact ⟨rfl, hb2⟩
 ·have j1 : (n : Int) ≤ 60 := by omega
  have j2 : (s.size : Int) ≤ 100 := by omega
  have j3 : s.size ≤ 100 := by omega
  have j4 : n ≤ 60 := by omega
  have HR := Lib.hid hr
  have hl : l.length = n := dsk.Rd.count Wd.c hr (fun _ _ => rfl) (by decide)
  have HL := Lib.hid hl
  have HOK := Lib.hid hok
  have HSH := Lib.hid fun (x : Wd) w' (hx : x.ok) (h : x.s.size ≤ 100000) => show_any x w' hx.1 h
  clear hbig hr hl hok hs hn
  go_enter Try.func5, Try.ntmps5
  go_upto_region 4 with (go_at_call 6; refine (HK.out _).mono ?_; rintro e w1 ⟨rfl, hb⟩; have B1 := Lib.hid hb; clear hb)
  go_loop [5] (fun iv => ∃ i : Nat, i ≤ s.size ∧ iv = .int .i64 (i : Int) ∧ Hid (∀ j, j < i → ∀ h : j < s.size, ((s[j]'h).toNat : Int) ≠ 10)) (fun iv => s.size - (intOf iv).toNat)
  case atStart => exact ⟨0, by omega, rfl, Lib.hid fun j hj => by omega⟩
  case round =>
   obtain ⟨i, hi, rfl, HN⟩ := hrel
   by_cases hlt : i < s.size
   ·have hlti : (i : Int) < s.size := by omega
    by_cases h10 : ((s[i]'hlt).toNat : Int) = 10
    ·have h10b : (((s[i]'hlt).toNat : Int) == 10) = true := by simpa using h10
     clear h10
     go_wp2_with fail
     go_ret
     exact ⟨rfl, B1.out⟩
    ·have h10b : (((s[i]'hlt).toNat : Int) == 10) = false := by simpa using h10
     have HN1 : Hid (∀ j, j < i + 1 → ∀ h : j < s.size, ((s[j]'h).toNat : Int) ≠ 10) := Lib.hid fun j hj h => by
      by_cases hji : j < i
      ·exact HN.out j hji h
      ·obtain rfl : j = i := by omega
       exact h10
     clear h10
     go_wp2_with fail
     go_round
     case rel => exact ⟨i + 1, by omega, by go_num, HN1⟩
     case measure => simp [intOf]; omega
   ·obtain rfl : i = s.size := by omega
    have HTEN := Lib.hid (no_ten fun j hj => HN.out j hj hj)
    clear HN
    have e3 : ({ data := #[32, 9, 35] } : ByteArray).size = 3 := rfl
    have z1 : (({ data := #[32, 9, 35] } : ByteArray) ++ s).size = 3 + s.size := by rw [ByteArray.size_append, e3]
    have z2 : ((({ data := #[32, 9, 35] } : ByteArray) ++ s) ++ ({ data := #[10] } : ByteArray)).size = 3 + s.size + 1 := by rw [ByteArray.size_append, z1]; rfl
    have s1 : (3 : Int) + (s.size : Int) ≤ 9223372036854775807 := by omega
    have s2 : ((({ data := #[32, 9, 35] } : ByteArray) ++ s).size : Int) + 1 ≤ 9223372036854775807 := by rw [z1]; omega
    have G0 : Hid (Gives (bys ((({ data := #[32, 9, 35] } : ByteArray) ++ s) ++ ({ data := #[10] } : ByteArray))) []) := Lib.hid (by
     have h := gives_head HTEN.out
     rw [bys_app, bys_app]
     exact h)
    go_upto_region 9 with fail
    obtain ⟨S0, hS0⟩ : ∃ S0, (({ data := #[32, 9, 35] } : ByteArray) ++ s) ++ ({ data := #[10] } : ByteArray) = S0 := ⟨_, rfl⟩
    rw [hS0] at G0 z2 ⊢
    clear hS0 e3 z1 s1 s2
    go_upto_region 12 with fail
    go_loopw [7, 8, 9] (fun sv lv iv wr => ∃ (i : Nat) (S : ByteArray) (want : List Wd) (q : Option Addr) (cw : Nat), i ≤ n ∧ sv = .string S ∧ lv = .slice q want.length cw ∧ iv = .int .i64 (i : Int) ∧ Hid (Gives (bys S) want) ∧ (S.size : Int) ≤ 104 + 1001 * (i : Int) ∧ want.length ≤ i ∧ Hid (Own wr w1.heap.size 33 4 (.slice q want.length cw) want.length (wordsC want)) ∧ Hid (Below w1.heap.size w1 wr)) (fun _ _ iv _ => n - (intOf iv).toNat)
    case atStart => exact ⟨0, S0, [], none, 0, by omega, rfl, rfl, rfl, G0, by omega, by simp, Lib.hid (own_nil _ _ _ _), Lib.hid (Below.refl _ _)⟩
    case round =>
     obtain ⟨i, S, want, q, cw, hi, rfl, rfl, rfl, HG, hSz, hwl, HO, HBW⟩ := hrel
     have HLOW := Lib.hid (below_trans B1.out HBW.out)
     have hSi : (S.size : Int) ≤ 61000 := by omega
     by_cases hlt : i < n
     ·have hlti : (i : Int) < n := by omega
      have hil : i < l.length := by rw [HL.out]; exact hlt
      obtain ⟨b1, o1, rfl, hc1, hm1, hh1, hl1, HR1⟩ := dsk.Rd.chunk Wd.c HR.out (fun _ _ => rfl) (by decide) hlt
      have HRNG := Lib.hid (Rd.rangeLater (HR1 i hil) hh1 HLOW.out)
      have hxok := HOK.out _ (List.getElem_mem hil)
      have HSH1 := Lib.hid fun w' (hz9 : (l[i]'hil).s.size ≤ 100000) => HSH.out (l[i]'hil) w' hxok hz9
      have HSOME := Lib.hid fun t (h : showW l[i] = some t) => gives_word HG.out h
      have HSL := Lib.hid fun t (h : showW l[i] = some t) => show_len hxok.1 h
      have hxs := hxok.2
      generalize l[i] = x at *
      obtain ⟨kx, sx, nx, px⟩ := x
      simp only at hxs
      have hb1w : b1 < wr.heap.size := Nat.lt_of_lt_of_le hh1 HLOW.out.size
      have e0 : wr.cell? ⟨b1, o1 + i * 4, none⟩ = some (.int .i64 kx) := by simpa using HRNG.out 0 _ rfl
      have e1 : wr.cell? ⟨b1, o1 + i * 4 + 1, none⟩ = some (.string sx) := by simpa using HRNG.out 1 _ rfl
      have e2 : wr.cell? ⟨b1, o1 + i * 4 + 2, none⟩ = some (.int .i64 nx) := by simpa using HRNG.out 2 _ rfl
      have e3 : wr.cell? ⟨b1, o1 + i * 4 + 3, none⟩ = some (.int .i64 px) := by simpa using HRNG.out 3 _ rfl
      have hsx9 : (sx.size : Int) ≤ 9223372036854775807 := by unfold maxLen at hxs; omega
      clear HR1 hl1 hxok
      by_cases h100 : 100 < sx.size
      ·have h100i : (100 : Int) < sx.size := by omega
       go_wp2_with fail
       go_ret
       exact ⟨rfl, HLOW.out⟩
      ·have h100i : (sx.size : Int) ≤ 100 := by omega
       have HSH2 := Lib.hid fun w' => HSH1.out w' (by show sx.size ≤ 100000; omega)
       obtain ⟨so, hso⟩ : ∃ so, showW ⟨kx, sx, nx, px⟩ = so := ⟨_, rfl⟩
       rw [hso] at HSH2 HSOME HSL
       clear HSH1 hso h100 hxs
       cases so with
       | none =>
        change Hid (∀ w', Calls Try.prog 15 #[aggW ⟨kx, sx, nx, px⟩] w' fun e w'' => e = .returned (.tuple #[.string ByteArray.empty, .bool false]) ∧ Below w'.heap.size w' w'') at HSH2
        clear HSOME HSL
        go_wp2_with (first
         | (refine load_word rfl (.tmp 58) rfl b1 (o1 + i * 4) rfl ⟨kx, sx, nx, px⟩ e0 e1 e2 e3 ?_)
         | (go_at_call 15; refine (HSH2.out _).mono ?_; rintro e w2 ⟨rfl, hb⟩; have B2 := Lib.hid (HBW.out.trans (hb.mono HBW.out.size)); have O2 := Lib.hid (vw.own_later HO.out hb); clear hb))
        exact ⟨⟨i + 1, S, want, q, cw, by omega, rfl, rfl, by go_num, HG, by omega, by omega, O2, B2⟩, by simp [intOf]; omega⟩
       | some t =>
        change Hid (∀ w', Calls Try.prog 15 #[aggW ⟨kx, sx, nx, px⟩] w' fun e w'' => e = .returned (.tuple #[.string t, .bool true]) ∧ Below w'.heap.size w' w'') at HSH2
        have HG1 := Lib.hid (HSOME.out t rfl)
        have htl := HSL.out t rfl
        have HG2 : Hid (Gives (bys (S ++ t ++ ({ data := #[32] } : ByteArray))) (want ++ [⟨kx, sx, nx, (S.size : Int)⟩])) := Lib.hid (by
         have h := HG1.out
         rw [bys_len] at h
         rw [bys_app, bys_app]
         exact h)
        have y3 : ((S ++ t ++ ({ data := #[32] } : ByteArray)).size : Int) ≤ 104 + 1001 * ((i + 1 : Nat) : Int) := by rw [ByteArray.size_append, ByteArray.size_append, show ({ data := #[32] } : ByteArray).size = 1 from rfl]; omega
        have hpl : want.length + 1 ≤ 1000000 := by omega
        have Y3 := Lib.hid y3
        have HTL := Lib.hid htl
        clear HSOME HSL HG1 htl y3 hpl hSz
        go_upto_region 18 with (first
         | (refine load_word rfl (.tmp 58) rfl b1 (o1 + i * 4) rfl ⟨kx, sx, nx, px⟩ e0 e1 e2 e3 ?_)
         | (go_at_call 15; refine (HSH2.out _).mono ?_; rintro e w2 ⟨rfl, hb⟩; have C2 := Lib.hid hb; clear hb))
        have HRNG2 := Rd.rangeLater HRNG.out hb1w C2.out
        have f0 : w2.cell? ⟨b1, o1 + i * 4, none⟩ = some (.int .i64 kx) := by simpa using HRNG2 0 _ rfl
        have f1 : w2.cell? ⟨b1, o1 + i * 4 + 1, none⟩ = some (.string sx) := by simpa using HRNG2 1 _ rfl
        have f2 : w2.cell? ⟨b1, o1 + i * 4 + 2, none⟩ = some (.int .i64 nx) := by simpa using HRNG2 2 _ rfl
        have f3 : w2.cell? ⟨b1, o1 + i * 4 + 3, none⟩ = some (.int .i64 px) := by simpa using HRNG2 3 _ rfl
        clear HRNG2
        go_upto_region 19 with (first
         | (refine load_word rfl (.tmp 67) rfl b1 (o1 + i * 4) rfl ⟨kx, sx, nx, px⟩ f0 f1 f2 f3 ?_)
         | (refine store_word rfl (.tmp 12) (.tmp 68) rfl rfl w2.heap.size ⟨kx, sx, nx, px⟩ _ rfl rfl (zero_word w2) ?_; intro w4 hA hB hZ; have A4 := Lib.hid hA; have B4 := Lib.hid (C2.out.trans ((below_alloc (Below.refl w2.heap.size w2) (.cells #[.int .i64 0, .string { data := #[] }, .int .i64 0, .int .i64 0] 33)).trans hB |>.mono C2.out.size)); clear hA hB hZ))
        have c3 := A4.out.c3
        have f3 := frozen_row A4.out 3
        go_upto_region 20 with fail
        have A5 : Hid (AtW (w4.setCell ⟨w2.heap.size, 3, none⟩ (.int .i64 (S.size : Int))) w2.heap.size ⟨kx, sx, nx, (S.size : Int)⟩) := Lib.hid (setCell_heap A4.out _)
        have B5 : Hid (Below wr.heap.size wr (w4.setCell ⟨w2.heap.size, 3, none⟩ (.int .i64 (S.size : Int)))) := Lib.hid (B4.out.setCell (p := ⟨w2.heap.size, 3, none⟩) (by exact C2.out.size) _)
        obtain ⟨w5, hw5⟩ : ∃ v, w4.setCell ⟨w2.heap.size, 3, none⟩ (.int .i64 (S.size : Int)) = v := ⟨_, rfl⟩
        rw [hw5] at A5 B5 ⊢
        have d0 := A5.out.c0
        have d1 := A5.out.c1
        have d2 := A5.out.c2
        have d3 := A5.out.c3
        simp only at d0 d1 d2 d3
        have O5 := Lib.hid (vw.own_later HO.out B5.out)
        have HL5 : Hid (Below w1.heap.size w1 w5) := Lib.hid (HBW.out.trans (B5.out.mono HBW.out.size))
        clear hw5 c3 f3 A4 B4 A5 f0 f1 f2
        go_upto_region 21 with (first
         | (refine load_word rfl (.tmp 12) rfl w2.heap.size 0 rfl ⟨kx, sx, nx, (S.size : Int)⟩ d0 d1 d2 d3 ?_)
         | (refine build_one elem_words (by decide) rfl (.tmp 73) rfl (Wd.c ⟨kx, sx, nx, (S.size : Int)⟩) rfl rfl ?_)
         | (at_builtin; refine ap_rd elem_words rfl (.tmp 72) (.tmp 74) rfl w1.heap.size _ want.length _ rfl (O5.out.alloc _) _ 1 (Wd.c ⟨kx, sx, nx, (S.size : Int)⟩) rfl (rd_laid _ _ _ _ rfl) (words_one _) (by omega) (by have := HL5.out.size; rw [World.size_alloc]; omega) ?_; intro pa ca w6 ho hb; have O6 := Lib.hid ho; have B6 := Lib.hid ((HL5.out.alloc HL5.out.size _).trans hb); clear ho hb))
        have y1 : ¬ 9223372036854775807 < S.size + t.size := by have := HTL.out; omega
        have y2 : ¬ 9223372036854775807 < S.size + t.size + 1 := by have := HTL.out; omega
        go_wp2_with fail
        have O6b : Hid (Own w6 w1.heap.size 33 4 (.slice pa (want ++ [(⟨kx, sx, nx, (S.size : Int)⟩ : Wd)]).length ca) (want ++ [(⟨kx, sx, nx, (S.size : Int)⟩ : Wd)]).length (wordsC (want ++ [⟨kx, sx, nx, (S.size : Int)⟩]))) := Lib.hid (by
         rw [List.length_append, List.length_singleton, ← wordsC_snoc]; exact O6.out)
        exact ⟨⟨i + 1, _, _, pa, ca, by omega, rfl, by rw [List.length_append, List.length_singleton], by go_num, HG2, Y3.out, by rw [List.length_append, List.length_singleton]; omega, O6b, B6⟩, by simp [intOf]; omega⟩
     ·obtain rfl : i = n := by omega
      have hend := gives_all HG.out HTEN.out
      have y0 : (S.size : Int) + 1 + (s.size : Int) ≤ 100000 := by omega
      have hAz : (S ++ ({ data := #[35] } : ByteArray) ++ s).size = S.size + 1 + s.size := by rw [ByteArray.size_append, ByteArray.size_append]; rfl
      have hAb : bys (S ++ ({ data := #[35] } : ByteArray) ++ s) = bys S ++ 35 :: bys s := by rw [bys_app, bys_app, List.append_assoc]; rfl
      have HW := Lib.hid fun w' => words_any (S ++ ({ data := #[35] } : ByteArray) ++ s) w' (by rw [hAz]; omega)
      unfold WordsIs at HW
      rw [bys_len, bys_len] at hend
      have hWR : wordsW (S ++ ({ data := #[35] } : ByteArray) ++ s) = if 4096 < S.size + 1 + s.size then ([], 14, 0) else (want ++ [⟨0, ByteArray.empty, 0, ((S.size + 1 + s.size : Nat) : Int)⟩], 0, 0) := by
       rw [wordsW, hAz, hAb, hend]
      rw [hWR] at HW
      clear hWR hend hAb
      have hpl : want.length + 1 ≤ 1000000 := by omega
      have hwl2 : (want ++ [(⟨0, ByteArray.empty, 0, ((S.size + 1 + s.size : Nat) : Int)⟩ : Wd)]).length = want.length + 1 := by simp
      have LA : Hid (Below w1.heap.size w1 (wr.alloc (.cells (Wd.c ⟨0, ByteArray.empty, 0, ((S.size + 1 + s.size : Nat) : Int)⟩).toArray 33))) := Lib.hid (HBW.out.alloc HBW.out.size _)
      go_upto_region 23 with (first
       | (refine wpList_buildTo rfl 33 #[(0, .const (.int .i64 0)), (3, .tmp 86)] rfl (some 87) rfl #[.int .i64 0, .string { data := #[] }, .int .i64 0, .int .i64 ((S.size + 1 + s.size : Nat) : Int)] (by kernel_rfl) ?_)
       | (refine build_one elem_words (by decide) rfl (.tmp 87) rfl (Wd.c ⟨0, ByteArray.empty, 0, ((S.size + 1 + s.size : Nat) : Int)⟩) rfl rfl ?_)
       | (at_builtin; refine ap_rd elem_words rfl (.tmp 80) (.tmp 88) rfl w1.heap.size _ want.length _ rfl (HO.out.alloc _) _ 1 (Wd.c ⟨0, ByteArray.empty, 0, ((S.size + 1 + s.size : Nat) : Int)⟩) rfl (rd_laid _ _ _ _ rfl) (words_one _) hpl (by have := HBW.out.size; rw [World.size_alloc]; omega) ?_; intro pa ca w6 ho hb; have O6 := Lib.hid ho; have B6 := Lib.hid (LA.out.trans hb); clear ho hb))
      have HA := Lib.hid fun A (hA : S ++ ({ data := #[35] } : ByteArray) ++ s = A) => hA
      have O6b : Hid (Own w6 w1.heap.size 33 4 (.slice pa (want.length + 1) ca) (want.length + 1) (wordsC (want ++ [⟨0, ByteArray.empty, 0, ((S.size + 1 + s.size : Nat) : Int)⟩]))) := Lib.hid (by rw [← wordsC_snoc]; exact O6.out)
      have L6 := Lib.hid (below_trans B1.out B6.out)
      clear O6 HO LA HR HSH HG hSz hpl hwl2 HA HTEN
      clear hAz
      have y1 : ¬ 9223372036854775807 < S.size + 1 := by omega
      have y2 : ¬ 9223372036854775807 < (S ++ ({ data := #[35] } : ByteArray)).size + s.size := by rw [ByteArray.size_append, show ({ data := #[35] } : ByteArray).size = 1 from rfl]; omega
      by_cases h4 : 4096 < S.size + 1 + s.size
      ·have h4i : (4096 : Int) < (S.size : Int) + 1 + (s.size : Int) := by omega
       simp only [if_pos h4] at HW
       clear h4
       have HF := Lib.hid fun w' => fault_any 14 0 14 0 w'
       change Hid (∀ w', Calls Try.prog 10 #[aggF 14 0, aggF 14 0] w' fun o w'' => o = .returned (.bool true) ∧ Below w'.heap.size w' w'') at HF
       go_wp2_with (first
        | (go_at_call 7; refine (HW.out _).mono ?_; rintro e w7 ⟨q7, n7, c7, rfl, hn7, hr7, hb⟩; have hn0 : n7 = 0 := hn7; subst hn0; have B7 := Lib.hid (below_trans L6.out hb); clear hb hr7 hn7)
        | (refine store_fault rfl (.tmp 14) (.tmp 97) rfl rfl w7.heap.size 14 0 _ _ rfl rfl (atFt_new w7) ?_; intro w8 hA8 hB hO hZ; have hX := (below_alloc (Below.refl w7.heap.size w7) (.cells #[.int .i64 0, .int .i64 0] 26)).trans hB; have A8 := Lib.hid hA8; have B8 := Lib.hid (B7.out.trans (hX.mono B7.out.size)); clear hA8 hB hO hZ hX)
        | (refine load_fault rfl (.tmp 14) rfl w7.heap.size 14 0 rfl A8.out ?_)
        | (refine wpList_buildTo rfl 26 #[(0, .const (.int .i64 14))] rfl (some 106) rfl #[.int .i64 14, .int .i64 0] (by kernel_rfl) ?_)
        | (go_at_call 10; refine (HF.out _).mono ?_; rintro e w9 ⟨rfl, hb⟩; have B9 := Lib.hid (below_trans B8.out hb); clear hb))
       go_ret
       exact ⟨rfl, B9.out⟩
      ·have h4i : (S.size : Int) + 1 + (s.size : Int) ≤ 4096 := by omega
       simp only [if_neg h4] at HW
       have HF := Lib.hid fun w' => fault_any 0 0 0 0 w'
       change Hid (∀ w', Calls Try.prog 10 #[aggF 0 0, aggF 0 0] w' fun o w'' => o = .returned (.bool true) ∧ Below w'.heap.size w' w'') at HF
       have HSM := Lib.hid fun w' q7 n7 c7 (h7 : n7 = (want ++ [(⟨0, ByteArray.empty, 0, ((S.size + 1 + s.size : Nat) : Int)⟩ : Wd)]).length) hr7 hr8 => by
        have h := rsame_any q7 n7 c7 (want ++ [⟨0, ByteArray.empty, 0, ((S.size + 1 + s.size : Nat) : Int)⟩]) pa (want.length + 1) ca (want ++ [⟨0, ByteArray.empty, 0, ((S.size + 1 + s.size : Nat) : Int)⟩]) w' hr7 hr8 (by rw [h7, List.length_append, List.length_singleton]; omega) (by omega)
        rw [decide_eq_true rfl] at h
        exact h
       clear h4
       go_wp2_with (first
        | (go_at_call 7; refine (HW.out _).mono ?_; rintro e w7 ⟨q7, n7, c7, rfl, hn7, hr7, hb⟩; have N7 := Lib.hid hn7; have R7 := Lib.hid hr7; have O7 := Lib.hid (vw.own_later O6b.out hb); have B7 := Lib.hid (below_trans L6.out hb); clear hb hr7 hn7)
        | (refine store_fault rfl (.tmp 14) (.tmp 97) rfl rfl w7.heap.size 0 0 _ _ rfl rfl (atFt_new w7) ?_; intro w8 hA8 hB hO hZ; have hX := (below_alloc (Below.refl w7.heap.size w7) (.cells #[.int .i64 0, .int .i64 0] 26)).trans hB; have A8 := Lib.hid hA8; have B8 := Lib.hid (B7.out.trans (hX.mono B7.out.size)); have R8 := Lib.hid (R7.out.later hX); have O8 := Lib.hid (vw.own_later O7.out hX); clear hA8 hB hO hZ hX)
        | (refine load_fault rfl (.tmp 14) rfl w7.heap.size 0 0 rfl A8.out ?_)
        | (refine wpList_buildTo rfl 26 #[] rfl (some 114) rfl #[.int .i64 0, .int .i64 0] (by kernel_rfl) ?_)
        | (go_at_call 10; refine (HF.out _).mono ?_; rintro e w9 ⟨rfl, hb⟩; have B9 := Lib.hid (below_trans B8.out hb); have R9 := Lib.hid (R8.out.later hb); have O9 := Lib.hid (vw.own_later O8.out hb); clear hb)
        | (go_at_call 9; refine (HSM.out _ _ _ _ N7.out R9.out O9.out.rd).mono ?_; rintro e wa ⟨rfl, hb⟩; have Ba := Lib.hid (below_trans B9.out hb); clear hb))
       go_ret
       exact ⟨rfl, Ba.out⟩
end lx
end Go.Proofs.Ytahcndkifplekaa
