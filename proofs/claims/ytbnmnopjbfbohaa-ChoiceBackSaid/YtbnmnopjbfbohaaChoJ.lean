/- What Read gives. -/
import Derived.Test.YtbnmnopjbfbohaaChoI
import Derived.Outline
namespace Go.Proofs.Ytbnmnopjbfbohaa.cho
open Go.ChangeShapes Go.WideShapes Go.ChangeAt Go.RowKit
open Go.Proofs.Ytbnmnopjbfbohaa.choMath
set_option linter.unusedVariables false

theorem index_of (b : UInt8) (d : Int) (h : idx b = d) (w : World) :
    Calls Try.prog 30 #[.string ⟨#[108, 107, 116, 63]⟩, .int .u8 (b.toNat : Int)] w fun e w' => e = .returned (.int .i64 d) ∧ w = w' := by
  refine (Try.strings_IndexByte ⟨#[108, 107, 116, 63]⟩ (b.toNat : Int) w).mono ?_
  rintro e w' ⟨rfl, rfl⟩
  refine ⟨ret_int ?_, rfl⟩
  rw [← h, idx]
  congr 1
  simp
theorem len_toList (s : ByteArray) : s.data.toList.length = s.size := Array.length_toList
theorem rdB_long (s : ByteArray) (h : 32 < s.size) : rdB s.data.toList = false := by
  rw [rdB, len_toList, decide_eq_false (by omega)]; rfl
def readPost (s : ByteArray) (w : World) (e : Ending) (w' : World) : Prop :=
  e = .returned (.tuple #[.int .u64 (rdN s.data.toList : Int), .int .i64 (rdL s.data.toList : Int), .bool (rdB s.data.toList)]) ∧ Below w.heap.size w w'
theorem readPost_no (s : ByteArray) (w w' : World) (h : rdB s.data.toList = false) (hb : Below w.heap.size w w') : readPost s w (.returned (.tuple #[.int .u64 0, .int .i64 0, .bool false])) w' := by
  refine ⟨?_, hb⟩
  rw [rdN, rdL, h]; rfl
theorem readPost_yes (s : ByteArray) (w w' : World) (h : rdB s.data.toList = true) (hb : Below w.heap.size w w') : readPost s w (.returned (.tuple #[.int .u64 (ofl (pref (rg s.data.toList) s.size) : Int), .int .i64 (s.size : Int), .bool true])) w' := by
  refine ⟨?_, hb⟩
  rw [rdN, rdL, h, len_toList]; rfl
theorem read_long (s : ByteArray) (w : World) (hm : s.size ≤ maxLen) (h : 32 < s.size) :
    Calls Try.prog 20 #[.string s] w (readPost s w) := by
  unfold maxLen at hm
  have hP := Lib.hid (readPost_no s w w (rdB_long s h) (Below.refl _ _))
  have hne : ¬ s = ByteArray.empty := by rintro rfl; simp at h
  go_enter Try.func20, Try.ntmps20
  go_wp2
  all_goals first | (exfalso; omega) | skip
  go_ret3
  exact hP.out
theorem rread_long (s : ByteArray) (w : World) (hm : s.size ≤ maxLen) (h : 32 < s.size) :
    Calls Try.prog 21 #[.string s] w (readPost s w) := by
  unfold maxLen at hm
  have hP := Lib.hid (readPost_no s w w (rdB_long s h) (Below.refl _ _))
  have hne : ¬ s = ByteArray.empty := by rintro rfl; simp at h
  go_enter Try.func21, Try.ntmps21
  go_wp2
  all_goals first | (exfalso; omega) | skip
  go_ret3
  exact hP.out
theorem read_short (s : ByteArray) (w : World) (h : s.size ≤ 32) :
    Calls Try.prog 20 #[.string s] w (readPost s w) := by
  have h2 : (s.size : Int) ≤ 32 := by omega
  have h3 : decide (32 < (s.size : Int)) = false := by simp; omega
  have HB : Hid (rdB s.data.toList = s.data.toList.all okc) := Lib.hid (by rw [rdB, len_toList, decide_eq_true h]; rfl)
  have HG := Lib.hid (rg_lt s.data.toList)
  go_enter Try.func20, Try.ntmps20
  go_wp2
  go_loopw [5, 6, 7, 13] (fun a _ _ i wr => ∃ k an : Nat, k ≤ s.size ∧ (s.data.toList.take k).all okc = true ∧ an = ofl (pref (rg s.data.toList) k) ∧ a = .int .u64 (an : Int) ∧ i = .int .i64 (k : Int) ∧ Below w.heap.size w wr) (fun _ _ _ i _ => s.size - (intOf i).toNat)
  case atStart => exact ⟨0, 0, by omega, rfl, by rw [ofl_zero], rfl, rfl, Below.refl _ _⟩
  case round =>
    obtain ⟨k, an, hk, hall, han, rfl, rfl, hbw⟩ := hrel
    have HA := Lib.hid hall
    have HAN := Lib.hid han
    clear hall han
    by_cases hlt : k < s.size
    · have HAL : Hid (an < 18446744073709551616) := Lib.hid (by rw [HAN.out]; exact ofl32 _ (pref_lt _ _ HG.out) (pref_len _ _))
      have HT := Lib.hid (take_all_step s k hlt)
      have HRG := Lib.hid (rg_at s k hlt)
      have HC := Lib.hid (byte_cases s[k])
      by_cases hok : okc s[k] = true
      · have hd2 : dg s[k] ≤ 2 := by simpa [okc] using hok
        have HI := Lib.hid ((idx_dg s[k]).1 hd2)
        obtain ⟨d, hd⟩ : ∃ d, dg s[k] = d := ⟨_, rfl⟩
        have HD := Lib.hid hd
        have HOK := Lib.hid hok
        rw [hd] at hd2
        clear hd hok
        have hd3 : (d:Int) ≤ 2 := by omega
        have hd4 : (0:Int) ≤ (d:Int) := by omega
        have HI2 : Hid (idx s[k] = (d:Int)) := Lib.hid (by rw [HI.out, HD.out])
        go_wp2_with (first | (go_at_call 30; refine (index_of _ _ HI2.out _).mono ?_; rintro e w1 ⟨rfl, rfl⟩) | (go_at_call 9; refine (with_any an _ _ _ HAL.out).mono ?_; rintro e w1 ⟨rfl, hb1⟩))
        go_roundw
        case rel =>
          refine ⟨k + 1, _, by omega, by rw [HT.out, HA.out, HOK.out]; rfl, ?_, rfl, by go_num, below_trans hbw hb1⟩
          rw [← putd_pref _ _ HG.out (by omega), ← HAN.out, HRG.out, HD.out, wit, if_pos (by omega)]
          rfl
        case measure => simp [intOf]; omega
      · have hd2 : ¬ dg s[k] ≤ 2 := by simpa [okc] using hok
        have HOK := Lib.hid hok
        have hI := (idx_dg s[k]).2 hd2
        clear hd2 hok
        rcases hI with hI | hI
        all_goals
          have HI2 := Lib.hid hI
          clear hI
          go_wp2_with (go_at_call 30; refine (index_of _ _ HI2.out _).mono ?_; rintro e w1 ⟨rfl, rfl⟩)
          go_ret3
          refine readPost_no s w _ ?_ hbw
          rw [HB.out]
          exact take_all_false _ (k + 1) (by rw [HT.out]; simp [HOK.out])
    · obtain rfl : k = s.size := by omega
      go_wp2
      go_ret3
      have hall : s.data.toList.all okc = true := by
        have := HA.out
        rw [List.take_of_length_le (by rw [len_toList]; exact Nat.le_refl _)] at this
        exact this
      have := readPost_yes s w wr (by rw [HB.out, hall]) hbw
      rw [HAN.out]
      exact this
theorem read_any (s : ByteArray) (w : World) (hm : s.size ≤ maxLen) : Calls Try.prog 20 #[.string s] w (readPost s w) := by
  by_cases h : s.size ≤ 32
  · exact read_short s w h
  · exact read_long s w hm (by omega)

theorem rread_short (s : ByteArray) (w : World) (h : s.size ≤ 32) :
    Calls Try.prog 21 #[.string s] w (readPost s w) := by
  have h2 : (s.size : Int) ≤ 32 := by omega
  have h3 : decide (32 < (s.size : Int)) = false := by simp; omega
  have HB : Hid (rdB s.data.toList = s.data.toList.all okc) := Lib.hid (by rw [rdB, len_toList, decide_eq_true h]; rfl)
  have HG := Lib.hid (rg_lt s.data.toList)
  go_enter Try.func21, Try.ntmps21
  go_wp2
  rw [← zeros (rg s.data.toList)]
  go_loopw [6] (fun i wr => ∃ k : Nat, k ≤ s.size ∧ (s.data.toList.take k).all okc = true ∧ i = .int .i64 (k : Int) ∧ wr = w.alloc (Obj.cells (arr (pref (rg s.data.toList) k)) 40)) (fun i _ => s.size - (intOf i).toNat)
  case atStart => exact ⟨0, by omega, rfl, rfl, rfl⟩
  case round =>
    obtain ⟨k, hk, hall, rfl, rfl⟩ := hrel
    have HA := Lib.hid hall
    clear hall
    by_cases hlt : k < s.size
    · have hk32 : (k:Int) < 32 := by omega
      have HT := Lib.hid (take_all_step s k hlt)
      have hrg := rg_at s k hlt
      have hat : (arr (pref (rg s.data.toList) k))[k]? = some (.int .i64 0) := by
        rw [arr_get _ k (by rw [pref_len]; omega), pref_get _ _ _ (by omega)]; simp
      have hset := arr_set (pref (rg s.data.toList) k) k (rg s.data.toList k)
      rw [pref_set _ _ (by omega)] at hset
      have HC := byte_cases s[k]
      rcases HC with ⟨h0, h1, hok⟩ | ⟨h0, h1, h4, hok⟩ | ⟨h0, h1, h4, h5, hok⟩ | ⟨h1, h4, h5, hok⟩
      · rw [hrg, h0] at hset
        have HS : Hid ((arr (pref (rg s.data.toList) k)).setIfInBounds k (.int .i64 0) = arr (pref (rg s.data.toList) (k + 1))) := Lib.hid hset
        have HOK := Lib.hid hok
        clear hset hrg h0 hok
        go_wp2
        go_roundw
        case rel => exact ⟨k + 1, by omega, by rw [HT.out, HA.out, HOK.out]; rfl, by go_num, by rw [HS.out]⟩
        case measure => simp [intOf]; omega
      · rw [hrg, h0] at hset
        have HS : Hid ((arr (pref (rg s.data.toList) k)).setIfInBounds k (.int .i64 1) = arr (pref (rg s.data.toList) (k + 1))) := Lib.hid hset
        have HOK := Lib.hid hok
        clear hset hrg h0 hok
        go_wp2
        go_roundw
        case rel => exact ⟨k + 1, by omega, by rw [HT.out, HA.out, HOK.out]; rfl, by go_num, by rw [HS.out]⟩
        case measure => simp [intOf]; omega
      · rw [hrg, h0] at hset
        have HS : Hid ((arr (pref (rg s.data.toList) k)).setIfInBounds k (.int .i64 2) = arr (pref (rg s.data.toList) (k + 1))) := Lib.hid hset
        have HOK := Lib.hid hok
        clear hset hrg h0 hok
        go_wp2
        go_roundw
        case rel => exact ⟨k + 1, by omega, by rw [HT.out, HA.out, HOK.out]; rfl, by go_num, by rw [HS.out]⟩
        case measure => simp [intOf]; omega
      · have HOK := Lib.hid hok
        clear hset hrg hok
        go_wp2
        go_ret3
        refine readPost_no s w _ ?_ (below_alloc (Below.refl _ _) _)
        rw [HB.out]
        exact take_all_false _ (k + 1) (by rw [HT.out]; simp [HOK.out])
    · obtain rfl : k = s.size := by omega
      have hall : s.data.toList.all okc = true := by
        have := HA.out
        rw [List.take_of_length_le (by rw [len_toList]; exact Nat.le_refl _)] at this
        exact this
      have HALL := Lib.hid hall
      clear hall
      go_wp2_with (first | (refine load32 rfl _ rfl w (pref (rg s.data.toList) s.size) _ rfl rfl (pref_len _ _) ?_) | (go_at_call 27; refine (of_any (pref (rg s.data.toList) s.size) _ (pref_len _ _) (pref_lt _ _ HG.out)).mono ?_; rintro e w2 ⟨rfl, hb2⟩))
      go_ret3
      exact readPost_yes s w _ (by rw [HB.out, HALL.out]) (below_trans (below_alloc (Below.refl _ _) _) hb2)
theorem rread_any (s : ByteArray) (w : World) (hm : s.size ≤ maxLen) : Calls Try.prog 21 #[.string s] w (readPost s w) := by
  by_cases h : s.size ≤ 32
  · exact rread_short s w h
  · exact rread_long s w hm (by omega)
end Go.Proofs.Ytbnmnopjbfbohaa.cho
