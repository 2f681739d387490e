/- The walks of the two laws of layer 2 that take epochs. -/
import Derived.Test.YtbnmnopjbfbohaaChoLaws
import Derived.ChangeSlices
namespace Go.Proofs.Ytbnmnopjbfbohaa.cho
open Go.ChangeShapes Go.WideShapes Go.ChangeAt Go.RowKit
open Go.Proofs.Ytbnmnopjbfbohaa.choMath
set_option linter.unusedVariables false

theorem cells_int : Try.prog.cellsOf 3 = 1 := by kernel_rfl
theorem ints_of_trod {H : Type} {enc : TypeId × Value → H} {W : World} {p : Option Addr} {len cap : Nat} {d : DataW H} {ps : List MemPlace}
    (h : DataW.Trod enc Try.prog W 0 (fun _ => true) true 33 (.slice p len cap) d ps) : ∃ zs, IntsIn W (.slice p len cap) zs ∧ len ≤ maxLen ∧ ∀ n ∈ zs, (Lit.int .i64 n).wf = true := by
  obtain ⟨fuel, hf⟩ := h
  rcases Go.ChangeShapes.open_ints Try.underlying33 Try.underlying3 cells_int hf with ⟨hcs, hx⟩ | ⟨a, len', cap', zs, hcs, _, hl, hm, hz, hx, hcell, hwz⟩
  · simp [Value.cells] at hcs
    obtain ⟨rfl, rfl, rfl⟩ := hcs
    exact ⟨[], Or.inl ⟨_, _, rfl, rfl⟩, Nat.zero_le _, by simp⟩
  · simp [Value.cells] at hcs
    obtain ⟨rfl, rfl, rfl⟩ := hcs
    simp only [if_true] at hz
    by_cases h0 : len = 0
    · subst h0
      exact ⟨[], Or.inl ⟨_, _, rfl, rfl⟩, Nat.zero_le _, by simp⟩
    · obtain ⟨b, off, spot⟩ := a
      have hspot : spot = none := by
        have := hcell 0 (by omega)
        cases spot with
        | none => rfl
        | some s =>
          simp [Addr.add, World.cell?] at this
          split at this <;> cases this
      subst hspot
      have hlen : (zs.take len).length = len := by rw [List.length_take]; omega
      have hadd : ∀ i, (⟨b, off, none⟩ : Addr).add i = ⟨b, off + i, none⟩ := fun i => by unfold Addr.add; split <;> simp_all
      refine ⟨zs.take len, Or.inr ⟨b, off, cap, by rw [hlen], by omega, ?_, ?_⟩, by omega, fun n hn => hwz n (List.mem_of_mem_take hn)⟩
      · have := hcell 0 (by omega)
        rw [hadd] at this
        exact block_lt_of_cell this
      · intro i hi
        rw [hlen] at hi
        have := hcell i (by omega)
        rw [hadd] at this
        rw [this]
        simp [List.getD_eq_getElem?_getD, hi]
theorem IntsIn.len {w : World} {p : Option Addr} {len cap : Nat} {zs : List Int} (h : IntsIn w (.slice p len cap) zs) : zs.length = len := by
  rcases h with ⟨p', cap', h1, rfl⟩ | ⟨b, off, cap', h1, _⟩
  · cases h1; rfl
  · cases h1; rfl

set_option maxHeartbeats 800000 in
theorem walkChoiceAllowed (a0 : Int) (w0 : (Lit.int .u64 a0).wf = true) (p : Option Addr) (len cap : Nat) (zs : List Int) (a2 : Int) (w2 : (Lit.int .i64 a2).wf = true) (a3 : ByteArray) (w3 : a3.size ≤ maxLen) (w : World)
    (hin : IntsIn w (.slice p len cap) zs) (hlen : len ≤ maxLen) :
    Calls Try.prog 5 #[.int .u64 a0, .slice p len cap, .int .i64 a2, .string a3] w fun e w' => e = .returned (.bool true) ∧ Below w.heap.size w w' := by
  obtain ⟨c, rfl, hc⟩ := wf_u64 w0
  have HC := Lib.hid hc
  have HIN := Lib.hid hin
  have HM := Lib.hid w3
  have hw3 : a3.size ≤ 9223372036854775807 := w3
  have hl2 : len ≤ 9223372036854775807 := hlen
  clear hc hin w0 w2
  by_cases h1 : 100 < len
  · have h1' : decide (100 < (len:Int)) = true := by simp; omega
    go_enter Try.func5, Try.ntmps5
    go_wp2_with (go_at_call 13; refine (knows_any _).mono ?_; rintro e w' ⟨rfl, hb⟩)
    go_ret
    exact ⟨rfl, hb⟩
  · have h1' : decide (100 < (len:Int)) = false := by simp; omega
    by_cases h2 : 200 < a3.size
    · have h2' : decide (200 < (a3.size:Int)) = true := by simp; omega
      clear h1
      go_enter Try.func5, Try.ntmps5
      go_wp2_with (go_at_call 13; refine (knows_any _).mono ?_; rintro e w' ⟨rfl, hb⟩)
      go_ret
      exact ⟨rfl, hb⟩
    · have h2' : decide (200 < (a3.size:Int)) = false := by simp; omega
      clear h1 h2
      go_enter Try.func5, Try.ntmps5
      go_wp2_with (first | (go_at_call 20; refine (read_any _ _ HM.out).mono ?_; rintro e wa ⟨rfl, hba⟩) | (go_at_call 21; refine (rread_any _ _ HM.out).mono ?_; rintro e wb ⟨rfl, hbb⟩))
      have hbw := below_trans hba hbb
      have HI2 := Lib.hid (HIN.out.later hbw)
      refine (allowed_any c zs _ _ HC.out HI2.out).mono ?_
      rintro e w1 ⟨rfl, rfl⟩
      go_wp2_with (first
        | (go_at_call 23; refine (rallowed_any c zs _ _ HC.out HI2.out).mono ?_; rintro e w2 ⟨rfl, hb2⟩)
        | (go_at_call 24; refine (show_any c _ _ HC.out).mono ?_; rintro e w3 ⟨rfl, hb3⟩)
        | (go_at_call 25; refine (rshow_any c _ _ HC.out).mono ?_; rintro e w4 ⟨rfl, hb4⟩)
        | (go_at_call 13; refine (knows_any _).mono ?_; rintro e w5 ⟨rfl, hb5⟩))
      all_goals go_ret
      all_goals
        refine ⟨rfl, ?_⟩
        repeat (first | assumption | refine below_trans ?_ (by assumption))

/-! the stage's theorem -/
theorem nth_eq (K : Int) (k : Nat) (n : Int) (t : Bool) (c : Nat) (w : World) (hK : K = (k:Int)) (hk : k < 18446744073709551616) (h : nth k n t = c) :
    Calls Try.prog 18 #[.int .u64 K, .int .i64 n, .bool t] w fun e w' => e = .returned (.int .u64 (c : Int)) ∧ Below w.heap.size w w' := by subst hK; subst h; exact nth_any k n t w hk
theorem rank_eq (c : Nat) (n : Int) (t : Bool) (K : Int) (w : World) (hc : c < 18446744073709551616) (h1 : (rkN c n t : Int) = K) (h2 : rkB c n t = true) :
    Calls Try.prog 14 #[.int .u64 (c : Int), .int .i64 n, .bool t] w fun e w' => e = .returned (.tuple #[.int .u64 K, .bool true]) ∧ w = w' := by
  have := rank_any c n t w hc
  rw [h1, h2] at this
  exact this
theorem read_eq (s : ByteArray) (c n : Int) (w : World) (hm : s.size ≤ maxLen) (h1 : (rdN s.data.toList : Int) = c) (h2 : (rdL s.data.toList : Int) = n) (h3 : rdB s.data.toList = true) :
    Calls Try.prog 20 #[.string s] w fun e w' => e = .returned (.tuple #[.int .u64 c, .int .i64 n, .bool true]) ∧ Below w.heap.size w w' := by
  refine (read_any s w hm).mono ?_
  rintro e w' ⟨he, hb⟩
  rw [h1, h2, h3] at he
  exact ⟨he, hb⟩
def BackFacts (k n a : Nat) (t : Bool) (c : Nat) (S : ByteArray) : Prop :=
  nth (k % a) n t = c ∧ rkN c n t = k % a ∧ rkB c n t = true ∧ riB c n = true ∧ sh c n = S ∧ S.size ≤ maxLen ∧ rdN S.data.toList = c ∧ rdL S.data.toList = n ∧ rdB S.data.toList = true ∧ c < 18446744073709551616
theorem back_facts (k n : Nat) (t : Bool) (hn : n ≤ 32) : ∃ a c S, cnt n t = a ∧ 0 < a ∧ (a:Int) ≤ 1853020188851841 ∧ BackFacts k n a t c S := by
  have hc : cnt n t = base t ^ n := by rw [cnt, if_pos (by omega)]; rfl
  have hp : 0 < base t ^ n := Nat.pow_pos (base_pos t)
  have hle := pow_le t n hn
  have hlt : k % base t ^ n < base t ^ n := Nat.mod_lt _ hp
  refine ⟨base t ^ n, ofl (pref (ng (k % base t ^ n) (base t)) n), sh (ofl (pref (ng (k % base t ^ n) (base t)) n)) n, hc, hp, by omega, ?_, ?_, ?_, ?_, rfl, ?_, ?_, ?_, ?_, ?_⟩
  · rw [nth, if_pos (by rw [hc]; exact hlt)]; rfl
  · exact nth_rkN _ n t hn hlt
  · exact nth_rkB _ n t hn
  · exact nth_riB _ n t hn
  · have e : (sh (ofl (pref (ng (k % base t ^ n) (base t)) n)) n).size = shN n := by
      show (shL _ _).toArray.size = _
      simp [shL_len]
    rw [e, shN]; unfold maxLen; omega
  all_goals
    have e : (sh (ofl (pref (ng (k % base t ^ n) (base t)) n)) n).data.toList = shL (ofl (pref (ng (k % base t ^ n) (base t)) n)) n := by
      show shL _ (shN n) = _
      rw [show shN (n:Int) = n by rw [shN]; omega]
  · rw [e]; exact (shL_rdN _ n (fun i => (ng_lt _ t i).1) hn).1
  · rw [e]; exact (shL_rdN _ n (fun i => (ng_lt _ t i).1) hn).2.1
  · rw [e]; exact (shL_rdN _ n (fun i => (ng_lt _ t i).1) hn).2.2
  · exact ofl32 _ (pref_lt _ _ fun i => (ng_lt _ t i).2) (pref_len _ _)
theorem walk_out (a0 n : Int) (t : Bool) (p : Option Addr) (len cap : Nat) (w : World) (hlen : len ≤ maxLen) (h : n < 0 ∨ 32 < n ∨ 32 < len) :
    Calls Try.prog 6 #[.int .u64 a0, .int .i64 n, .bool t, .slice p len cap] w fun e w' => e = .returned (.bool true) ∧ Below w.heap.size w w' := by
  have hl2 : len ≤ 9223372036854775807 := hlen
  have h' : n < 0 ∨ (0 ≤ n ∧ 32 < n) ∨ (0 ≤ n ∧ n ≤ 32 ∧ 32 < len) := by omega
  clear h hlen
  rcases h' with h | ⟨h1, h2⟩ | ⟨h1, h2, h3⟩
  · go_enter Try.func6, Try.ntmps6
    go_wp2_with (go_at_call 13; refine (knows_any _).mono ?_; rintro e w' ⟨rfl, hb⟩)
    go_ret
    exact ⟨rfl, hb⟩
  · go_enter Try.func6, Try.ntmps6
    go_wp2_with (go_at_call 13; refine (knows_any _).mono ?_; rintro e w' ⟨rfl, hb⟩)
    go_ret
    exact ⟨rfl, hb⟩
  · have h4 : decide (32 < (len:Int)) = true := by simp; omega
    go_enter Try.func6, Try.ntmps6
    go_wp2_with (go_at_call 13; refine (knows_any _).mono ?_; rintro e w' ⟨rfl, hb⟩)
    go_ret
    exact ⟨rfl, hb⟩
set_option maxHeartbeats 1600000 in
theorem walk_in (k n : Nat) (t : Bool) (p : Option Addr) (len cap : Nat) (zs : List Int) (w : World) (hn : n ≤ 32) (hl : len ≤ 32) (hin : IntsIn w (.slice p len cap) zs) (hk : k < 18446744073709551616) :
    Calls Try.prog 6 #[.int .u64 (k : Int), .int .i64 (n : Int), .bool t, .slice p len cap] w fun e w' => e = .returned (.bool true) ∧ Below w.heap.size w w' := by
  have hlz : zs.length = len := hin.len
  have HZ := Lib.hid (alB_zero zs (by omega))
  have HKP := Lib.hid (alB_kept zs (by omega))
  have HLZ := Lib.hid hlz
  obtain ⟨a, c, S, hA, hA0, hA1, hF⟩ := back_facts k n t hn
  have HF := Lib.hid hF
  have HA : Hid ((cnt (n:Int) t : Int) = (a:Int)) := Lib.hid (by rw [hA])
  have HIN := Lib.hid hin
  have hn2 : (n:Int) ≤ 32 := by omega
  have hl2 : (len:Int) ≤ 32 := by omega
  have hl3 : decide (32 < (len:Int)) = false := by simp; omega
  have ha2 : (0:Int) < (a:Int) := by omega
  have hkb : (k:Int) ≤ 18446744073709551615 := by omega
  have HK : Hid (k % a < 18446744073709551616) := Lib.hid (by have := Nat.mod_le k a; omega)
  clear hlz hA hA0 hF hin hk
  go_enter Try.func6, Try.ntmps6
  go_wp2_with (go_at_call 13; refine (knows_any _).mono ?_; rintro e w1 ⟨rfl, hb1⟩)
  go_wp2_with (go_at_call 16; refine (count_eq _ _ _ _ HA.out).mono ?_; rintro e w2 ⟨rfl, rfl⟩)
  refine (nth_eq _ (k % a) n t c _ (by simp) HK.out HF.out.1).mono ?_
  rintro e w2 ⟨rfl, hb2⟩
  go_wp2_with fail
  refine (rank_eq c n t ((k:Int) % (a:Int)) _ HF.out.2.2.2.2.2.2.2.2.2 (by rw [HF.out.2.1]; simp) HF.out.2.2.1).mono ?_
  rintro e w3 ⟨rfl, rfl⟩
  go_wp2_with (first
    | (go_at_call 24; refine (show_eq c n S _ HF.out.2.2.2.2.2.2.2.2.2 HF.out.2.2.2.2.1).mono ?_; rintro e w3 ⟨rfl, hb3⟩)
    | (go_at_call 20; refine (read_eq S c n _ HF.out.2.2.2.2.2.1 (by rw [HF.out.2.2.2.2.2.2.1]) (by rw [HF.out.2.2.2.2.2.2.2.1]) HF.out.2.2.2.2.2.2.2.2.1).mono ?_; rintro e w4 ⟨rfl, hb4⟩)
    | (go_at_call 11; refine (right_eq c n true _ HF.out.2.2.2.2.2.2.2.2.2 HF.out.2.2.2.1).mono ?_; rintro e w5 ⟨rfl, rfl⟩))
  have hbw := below_trans (below_trans (below_trans hb1 hb2) hb3) hb4
  clear hb1 hb2 hb3 hb4
  go_loopw [16, 17] (fun v i wr => ∃ q an : Nat, q ≤ len ∧ an = ofl (pref (fun _ => 1) q) ∧ v = .int .u64 (an : Int) ∧ i = .int .i64 (q : Int) ∧ Below w.heap.size w wr) (fun _ i _ => len - (intOf i).toNat)
  case atStart => exact ⟨0, 0, by omega, by rw [ofl_zero], rfl, rfl, hbw⟩
  case round =>
    obtain ⟨q, an, hq, han, rfl, rfl, hbr⟩ := hrel
    clear hbw
    have HAN := Lib.hid han
    have HAL : Hid (an < 18446744073709551616) := Lib.hid (by rw [han]; exact ofl32 _ (pref_lt _ _ fun _ => by omega) (pref_len _ _))
    clear han
    by_cases hlt : q < len
    · go_wp2_with (go_at_call 9; refine (with_any an _ _ _ HAL.out).mono ?_; rintro e w6 ⟨rfl, hb6⟩)
      go_roundw
      case rel =>
        refine ⟨q + 1, _, by omega, ?_, rfl, by go_num, below_trans hbr hb6⟩
        rw [← putd_pref (fun _ => 1) _ (fun _ => by omega) (by omega), ← HAN.out, wit, if_pos (by omega)]
        rfl
      case measure => simp [intOf]; omega
    · obtain rfl : q = len := by omega
      have HI2 := Lib.hid (HIN.out.later hbr)
      have HKP2 : Hid (alB an zs = true) := Lib.hid (by rw [HAN.out, ← HLZ.out]; exact HKP.out)
      go_wp2_with fail
      refine (allowed_eq 0 zs _ true _ (by decide) HI2.out HZ.out).mono ?_
      rintro e w7 ⟨rfl, rfl⟩
      go_wp2_with fail
      refine (allowed_eq an zs _ true _ HAL.out HI2.out HKP2.out).mono ?_
      rintro e w8 ⟨rfl, rfl⟩
      go_wp2_with fail
      go_ret
      exact ⟨rfl, hbr⟩
theorem walkChoiceBack (a0 : Int) (w0 : (Lit.int .u64 a0).wf = true) (a1 : Int) (w1 : (Lit.int .i64 a1).wf = true) (a2 : Bool) (p : Option Addr) (len cap : Nat) (zs : List Int) (w : World)
    (hin : IntsIn w (.slice p len cap) zs) (hlen : len ≤ maxLen) :
    Calls Try.prog 6 #[.int .u64 a0, .int .i64 a1, .bool a2, .slice p len cap] w fun e w' => e = .returned (.bool true) ∧ Below w.heap.size w w' := by
  by_cases h : a1 < 0 ∨ 32 < a1 ∨ 32 < len
  · exact walk_out a0 a1 a2 p len cap w hlen h
  · obtain ⟨c, rfl, hc⟩ := wf_u64 w0
    obtain ⟨n, rfl⟩ := Int.eq_ofNat_of_zero_le (show 0 ≤ a1 by omega)
    exact walk_in c n a2 p len cap zs w (by omega) (by omega) hin hc
end Go.Proofs.Ytbnmnopjbfbohaa.cho
