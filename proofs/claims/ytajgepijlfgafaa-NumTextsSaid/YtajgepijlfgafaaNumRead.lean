/- What the functions of package num, and the reference's, give: one contract a function. -/
import Derived.Test.YtajgepijlfgafaaRows
import Derived.Test.YtajgepijlfgafaaNumMath
import Derived.Test.YtajgepijlfgafaaNumWalks
import Derived.WalkKit
import Derived.ProofKit
import Derived.OpenShut
import Derived.Handy
import Derived.Deep.RegionWith
import Derived.Lib.Hide
namespace Go.Proofs.Ytajgepijlfgafaa.num
open Go.ChangeShapes Go.WideShapes Go.ChangeAt Go.RowKit
open Go.Proofs.Ytajgepijlfgafaa.numMath
set_option linter.unusedVariables false



theorem read_none0 (s : ByteArray) (w : World) (hm : s.size ≤ maxLen) (h : s.size = 0 ∨ 13 < s.size) :
    Calls Try.prog 7 #[.string s] w fun e w' => e = .returned (.tuple #[.int .i64 0, .bool false]) ∧ w = w' := by
  unfold maxLen at hm
  rcases h with h | h
  · go_enter Try.func7, Try.ntmps7
    go_wp2
    all_goals first | (exfalso; omega) | skip
    go_ret2
    exact ⟨rfl, rfl⟩
  · have hne : ¬ s = ByteArray.empty := by rintro rfl; simp at h
    go_enter Try.func7, Try.ntmps7
    go_wp2
    all_goals first | (exfalso; omega) | skip
    go_ret2
    exact ⟨rfl, rfl⟩
theorem read_none1 (s : ByteArray) (w : World) (hm : s.size ≤ maxLen) (h : 1 < s.size) (h2 : s.size ≤ 13) (h3 : (s[0].toNat : Int) = 48) :
    Calls Try.prog 7 #[.string s] w fun e w' => e = .returned (.tuple #[.int .i64 0, .bool false]) ∧ w = w' := by
  unfold maxLen at hm
  have hne : ¬ s = ByteArray.empty := by rintro rfl; simp at h
  go_enter Try.func7, Try.ntmps7
  go_wp2
  all_goals first | (exfalso; omega) | skip
  go_ret2
  exact ⟨rfl, rfl⟩

/-- the loop, behind the length's tests -/
def readPost (s : ByteArray) (w : World) (e : Ending) (w' : World) : Prop :=
  (if s.data.toList.all isDig = false ∨ 1000000000000 < val s.data.toList then e = .returned (.tuple #[.int .i64 0, .bool false]) else e = .returned (.tuple #[.int .i64 (val s.data.toList), .bool true])) ∧ w = w'

theorem read_loop (s : ByteArray) (w : World) (hm : s.size ≤ maxLen) (h : 0 < s.size) (h2 : s.size ≤ 13) (h3 : s.size = 1 ∨ ((s[0].toNat : Int) == 48) = false) :
    Calls Try.prog 7 #[.string s] w (readPost s w) := by
  unfold maxLen at hm
  have hne : ¬ s = ByteArray.empty := by rintro rfl; simp at h
  have H3 := Lib.hid h3
  clear h3
  by_cases h1 : 1 < s.size
  all_goals
    have h3 : 1 < s.size → ((s[0].toNat : Int) == 48) = false := fun k => by rcases H3.out with h | h; exact absurd k (by omega); exact h
    first | (have h4 := h3 h1) | (have h4 : decide (1 < (s.size : Int)) = false := by simp; omega)
    clear h3 H3
    have h0 : ((s.size : Int) == 0) = false := by simp; omega
    have h01 : decide ((s.size : Int) < 1) = false := by simp; omega
    have h13 : decide (13 < (s.size : Int)) = false := by simp; omega
    go_enter Try.func7, Try.ntmps7
    go_wp2
    all_goals first | (exfalso; omega) | (exfalso; exact hne ‹_›) | skip
    go_loop [4, 26] (fun n i => ∃ k : Nat, k ≤ s.size ∧ (s.data.toList.take k).all isDig = true ∧ i = .int .i64 k ∧ n = .int .i64 (val (s.data.toList.take k))) (fun _ i => s.size - (intOf i).toNat)
    case atStart => exact ⟨0, Nat.zero_le _, rfl, rfl, rfl⟩
    case round =>
      obtain ⟨k, hk, hall, rfl, rfl⟩ := hrel
      have ha := Lib.hid hall
      have hv : (val (s.data.toList.take k) : Int) ≤ 9999999999999 := by
        have h1 := val_lt _ hall
        have h2 : 10 ^ (s.data.toList.take k).length ≤ 10 ^ 13 := Nat.pow_le_pow_right (by omega) (by simp; omega)
        have h3 : (10:Nat) ^ 13 = 10000000000000 := by rfl
        omega
      have hv2 : k < s.size → (val (s.data.toList.take k) : Int) ≤ 999999999999 := by
        intro hks
        have h1 := val_lt _ hall
        have h2 : 10 ^ (s.data.toList.take k).length ≤ 10 ^ 12 := Nat.pow_le_pow_right (by omega) (by simp; omega)
        have h3 : (10:Nat) ^ 12 = 1000000000000 := by rfl
        omega
      clear hall
      have hv0 : (0:Int) ≤ (val (s.data.toList.take k) : Int) := by omega
      by_cases hlt : k < s.size
      · have hv3 := hv2 hlt
        clear hv2
        have A1 := Lib.hid (all_take_succ s k hlt)
        have A2 := Lib.hid (val_take_succ s k hlt)
        have A3 := Lib.hid (all_take_false s k hlt)
        by_cases hd : 48 ≤ (s[k].toNat : Int) ∧ (s[k].toNat : Int) ≤ 57
        · obtain ⟨hd1, hd2⟩ := hd
          go_wp2
          all_goals first | (exfalso; omega) | skip
          go_round
          case rel =>
            refine ⟨k + 1, by omega, ?_, by go_num, ?_⟩
            · rw [A1.out, ha.out, isDig]; simp [hd1, hd2]
            · rw [A2.out]; congr 1; omega
          case measure => simp [intOf]; omega
        · have A4 := Lib.hid (A3.out (by rw [isDig]; simp; omega))
          go_wp2
          all_goals first | (exfalso; omega) | skip
          all_goals
            go_ret2
            exact ⟨by rw [if_pos (Or.inl A4.out)]; rfl, rfl⟩
      · have A5 := Lib.hid (take_all s k hlt)
        clear hv2
        go_wp2
        all_goals first | (exfalso; omega) | skip
        all_goals go_ret2
        · refine ⟨?_, rfl⟩
          have e := congrArg val A5.out
          rw [if_pos (Or.inr (by omega))]
          rfl
        · refine ⟨?_, rfl⟩
          have e := congrArg val A5.out
          rw [if_neg (by rw [← A5.out, ha.out]; simp; omega)]
          exact congrArg (fun n : Nat => Ending.returned (.tuple #[.int .i64 (n : Int), .bool true])) e

theorem rread_none0 (s : ByteArray) (w : World) (hm : s.size ≤ maxLen) (h : s.size = 0 ∨ 13 < s.size) :
    Calls Try.prog 8 #[.string s] w fun e w' => e = .returned (.tuple #[.int .i64 0, .bool false]) ∧ w = w' := by
  unfold maxLen at hm
  rcases h with h | h
  · go_enter Try.func8, Try.ntmps8
    go_wp2
    all_goals first | (exfalso; omega) | skip
    go_ret2
    exact ⟨rfl, rfl⟩
  · have hne : ¬ s = ByteArray.empty := by rintro rfl; simp at h
    go_enter Try.func8, Try.ntmps8
    go_wp2
    all_goals first | (exfalso; omega) | skip
    go_ret2
    exact ⟨rfl, rfl⟩
theorem rread_none1 (s : ByteArray) (w : World) (hm : s.size ≤ maxLen) (h : 1 < s.size) (h2 : s.size ≤ 13) (h3 : (s[0].toNat : Int) = 48) :
    Calls Try.prog 8 #[.string s] w fun e w' => e = .returned (.tuple #[.int .i64 0, .bool false]) ∧ w = w' := by
  unfold maxLen at hm
  have hne : ¬ s = ByteArray.empty := by rintro rfl; simp at h
  go_enter Try.func8, Try.ntmps8
  go_wp2
  all_goals first | (exfalso; omega) | skip
  go_ret2
  exact ⟨rfl, rfl⟩

/-- the loop, behind the length's tests -/
def rreadPost (s : ByteArray) (w : World) (e : Ending) (w' : World) : Prop :=
  (if s.data.toList.all isDig = false ∨ 1000000000000 < val s.data.toList then e = .returned (.tuple #[.int .i64 0, .bool false]) else e = .returned (.tuple #[.int .i64 (val s.data.toList), .bool true])) ∧ w = w'

theorem rread_loop (s : ByteArray) (w : World) (hm : s.size ≤ maxLen) (h : 0 < s.size) (h2 : s.size ≤ 13) (h3 : s.size = 1 ∨ ((s[0].toNat : Int) == 48) = false) :
    Calls Try.prog 8 #[.string s] w (rreadPost s w) := by
  unfold maxLen at hm
  have hne : ¬ s = ByteArray.empty := by rintro rfl; simp at h
  have H3 := Lib.hid h3
  clear h3
  by_cases h1 : 1 < s.size
  all_goals
    have h3 : 1 < s.size → ((s[0].toNat : Int) == 48) = false := fun k => by rcases H3.out with h | h; exact absurd k (by omega); exact h
    first | (have h4 := h3 h1) | (have h4 : decide (1 < (s.size : Int)) = false := by simp; omega)
    clear h3 H3
    have h0 : ((s.size : Int) == 0) = false := by simp; omega
    have h01 : decide ((s.size : Int) < 1) = false := by simp; omega
    have h13 : decide (13 < (s.size : Int)) = false := by simp; omega
    go_enter Try.func8, Try.ntmps8
    go_wp2
    all_goals first | (exfalso; omega) | (exfalso; exact hne ‹_›) | skip
    go_loop [4, 5] (fun n i => ∃ k : Nat, k ≤ s.size ∧ (s.data.toList.take k).all isDig = true ∧ i = .int .i64 k ∧ n = .int .i64 (val (s.data.toList.take k))) (fun _ i => s.size - (intOf i).toNat)
    case atStart => exact ⟨0, Nat.zero_le _, rfl, rfl, rfl⟩
    case round =>
      obtain ⟨k, hk, hall, rfl, rfl⟩ := hrel
      have ha := Lib.hid hall
      have hv : (val (s.data.toList.take k) : Int) ≤ 9999999999999 := by
        have h1 := val_lt _ hall
        have h2 : 10 ^ (s.data.toList.take k).length ≤ 10 ^ 13 := Nat.pow_le_pow_right (by omega) (by simp; omega)
        have h3 : (10:Nat) ^ 13 = 10000000000000 := by rfl
        omega
      have hv2 : k < s.size → (val (s.data.toList.take k) : Int) ≤ 999999999999 := by
        intro hks
        have h1 := val_lt _ hall
        have h2 : 10 ^ (s.data.toList.take k).length ≤ 10 ^ 12 := Nat.pow_le_pow_right (by omega) (by simp; omega)
        have h3 : (10:Nat) ^ 12 = 1000000000000 := by rfl
        omega
      clear hall
      have hv0 : (0:Int) ≤ (val (s.data.toList.take k) : Int) := by omega
      by_cases hlt : k < s.size
      · have hv3 := hv2 hlt
        clear hv2
        have A1 := Lib.hid (all_take_succ s k hlt)
        have A2 := Lib.hid (val_take_succ s k hlt)
        have A3 := Lib.hid (all_take_false s k hlt)
        by_cases hd : 48 ≤ (s[k].toNat : Int) ∧ (s[k].toNat : Int) ≤ 57
        · obtain ⟨hd1, hd2⟩ := hd
          go_wp2
          all_goals first | (exfalso; omega) | skip
          go_round
          case rel =>
            refine ⟨k + 1, by omega, ?_, by go_num, ?_⟩
            · rw [A1.out, ha.out, isDig]; simp [hd1, hd2]
            · rw [A2.out]; congr 1; omega
          case measure => simp [intOf]; omega
        · have A4 := Lib.hid (A3.out (by rw [isDig]; simp; omega))
          go_wp2
          all_goals first | (exfalso; omega) | skip
          all_goals
            go_ret2
            exact ⟨by rw [if_pos (Or.inl A4.out)]; rfl, rfl⟩
      · have A5 := Lib.hid (take_all s k hlt)
        clear hv2
        go_wp2
        all_goals first | (exfalso; omega) | skip
        all_goals go_ret2
        · refine ⟨?_, rfl⟩
          have e := congrArg val A5.out
          rw [if_pos (Or.inr (by omega))]
          rfl
        · refine ⟨?_, rfl⟩
          have e := congrArg val A5.out
          rw [if_neg (by rw [← A5.out, ha.out]; simp; omega)]
          exact congrArg (fun n : Nat => Ending.returned (.tuple #[.int .i64 (n : Int), .bool true])) e

theorem len_toList (s : ByteArray) : s.data.toList.length = s.size := Array.length_toList
theorem head48 (s : ByteArray) (h : 0 < s.size) : s.data.toList.head? = some 48 ↔ (s[0].toNat : Int) = 48 := by
  have e : s.data.toList.head? = some s[0] := by
    rw [List.head?_eq_getElem?, List.getElem?_eq_getElem (by rw [len_toList]; exact h)]
    rfl
  rw [e]
  constructor
  · intro hh
    simp only [Option.some.injEq] at hh
    rw [hh]; rfl
  · intro hh
    congr 1
    apply UInt8.toNat_inj.1
    have : (48 : UInt8).toNat = 48 := rfl
    omega

theorem read_any (s : ByteArray) (w : World) (hm : s.size ≤ maxLen) :
    Calls Try.prog 7 #[.string s] w fun e w' => e = .returned (.tuple #[.int .i64 (rN s.data.toList), .bool (rB s.data.toList)]) ∧ w = w' := by
  by_cases h : s.size = 0 ∨ 13 < s.size
  · have e : readV s.data.toList = none := by rw [readV, if_pos (by rw [len_toList]; omega)]
    rw [rN, rB, e]
    exact read_none0 s w hm h
  · by_cases h1 : 1 < s.size ∧ s.data.toList.head? = some 48
    · have e : readV s.data.toList = none := by rw [readV, if_pos (Or.inr (Or.inr (Or.inl (by rw [len_toList]; exact h1))))]
      rw [rN, rB, e]
      exact read_none1 s w hm h1.1 (by omega) ((head48 s (by omega)).1 h1.2)
    · refine (read_loop s w hm (by omega) (by omega) ?_).mono ?_
      · by_cases hs : s.size = 1
        · exact Or.inl hs
        · refine Or.inr ?_
          have := (not_congr (head48 s (by omega))).1 (fun hh => h1 ⟨by omega, hh⟩)
          simpa using this
      · intro e w' he
        refine ⟨?_, he.2⟩
        have he1 := he.1
        rw [rN, rB]
        unfold readV
        by_cases hd : s.data.toList.all isDig = false
        · rw [if_pos (Or.inl hd)] at he1
          rw [if_pos (Or.inr (Or.inr (Or.inr hd)))]
          exact he1
        · rw [if_neg (by rw [len_toList]; exact fun hh => by rcases hh with hh | hh | hh | hh; omega; omega; exact h1 hh; exact hd hh)]
          by_cases hv : 1000000000000 < val s.data.toList
          · rw [if_pos (Or.inr hv)] at he1
            rw [if_pos hv]
            exact he1
          · rw [if_neg (by rintro (hh | hh); exact hd hh; exact hv hh)] at he1
            rw [if_neg hv]
            exact he1

theorem rread_any (s : ByteArray) (w : World) (hm : s.size ≤ maxLen) :
    Calls Try.prog 8 #[.string s] w fun e w' => e = .returned (.tuple #[.int .i64 (rN s.data.toList), .bool (rB s.data.toList)]) ∧ w = w' := by
  by_cases h : s.size = 0 ∨ 13 < s.size
  · have e : readV s.data.toList = none := by rw [readV, if_pos (by rw [len_toList]; omega)]
    rw [rN, rB, e]
    exact rread_none0 s w hm h
  · by_cases h1 : 1 < s.size ∧ s.data.toList.head? = some 48
    · have e : readV s.data.toList = none := by rw [readV, if_pos (Or.inr (Or.inr (Or.inl (by rw [len_toList]; exact h1))))]
      rw [rN, rB, e]
      exact rread_none1 s w hm h1.1 (by omega) ((head48 s (by omega)).1 h1.2)
    · refine (rread_loop s w hm (by omega) (by omega) ?_).mono ?_
      · by_cases hs : s.size = 1
        · exact Or.inl hs
        · refine Or.inr ?_
          have := (not_congr (head48 s (by omega))).1 (fun hh => h1 ⟨by omega, hh⟩)
          simpa using this
      · intro e w' he
        refine ⟨?_, he.2⟩
        have he1 := he.1
        rw [rN, rB]
        unfold readV
        by_cases hd : s.data.toList.all isDig = false
        · rw [if_pos (Or.inl hd)] at he1
          rw [if_pos (Or.inr (Or.inr (Or.inr hd)))]
          exact he1
        · rw [if_neg (by rw [len_toList]; exact fun hh => by rcases hh with hh | hh | hh | hh; omega; omega; exact h1 hh; exact hd hh)]
          by_cases hv : 1000000000000 < val s.data.toList
          · rw [if_pos (Or.inr hv)] at he1
            rw [if_pos hv]
            exact he1
          · rw [if_neg (by rintro (hh | hh); exact hd hh; exact hv hh)] at he1
            rw [if_neg hv]
            exact he1

end Go.Proofs.Ytajgepijlfgafaa.num
