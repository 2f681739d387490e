/- What AllocTells wants, part 9. -/
import Derived.WalkKit
import Derived.Laws.BitsAllLaws
import Derived.Shelf.Small.Strs
/- Plain mathematics of choices: digits in base 4, digits in base 2 or 3, and arrays of 32 digits. -/
namespace Go.Proofs.Ytpckdjnddoaffaa.choMath
set_option maxRecDepth 100000
open Go.RowKit
set_option linter.unusedVariables false

def fd (c i : Nat) : Nat := c / 4^i % 4
theorem fd_lt (c i : Nat) : fd c i < 4 := Nat.mod_lt _ (by omega)
def ofl : List Nat → Nat
  | [] => 0
  | d :: l => d + 4 * ofl l
def fl (c : Nat) : List Nat := (List.range 32).map (fd c)
theorem fl_len (c : Nat) : (fl c).length = 32 := by simp [fl]
theorem fl_get (c k : Nat) (h : k < 32) : (fl c)[k]'(by rw [fl_len]; exact h) = fd c k := by simp [fl]
theorem ofl_range (n c : Nat) : ofl ((List.range n).map (fd c)) = c % 4^n := by
  induction n generalizing c with
  | zero => simp [ofl, Nat.mod_one]
  | succ n ih =>
    rw [List.range_succ_eq_map, List.map_cons, List.map_map]
    have e : (fd c ∘ Nat.succ) = fd (c / 4) := by
      funext i
      show c / 4^(i+1) % 4 = c / 4 / 4^i % 4
      rw [Nat.div_div_eq_div_mul, Nat.pow_succ, Nat.mul_comm]
    rw [e, ofl, ih]
    show c / 4^0 % 4 + _ = _
    rw [Nat.pow_zero, Nat.div_one, Nat.pow_succ, Nat.mul_comm (4^n) 4, Nat.mod_mul]
theorem ofl_lt (l : List Nat) (h : ∀ d ∈ l, d < 4) : ofl l < 4^l.length := by
  induction l with
  | nil => simp [ofl]
  | cons d l ih =>
    have h1 := h d (by simp)
    have h2 := ih (fun x hx => h x (by simp [hx]))
    rw [ofl, List.length_cons, Nat.pow_succ]
    omega
theorem ofl_inj (n : Nat) (c d : Nat) (hc : c < 4^n) (hd : d < 4^n) (h : ∀ i, i < n → fd c i = fd d i) : c = d := by
  rw [← Nat.mod_eq_of_lt hc, ← Nat.mod_eq_of_lt hd, ← ofl_range, ← ofl_range]
  congr 1
  apply List.map_congr_left
  intro i hi
  exact h i (List.mem_range.1 hi)
theorem fd_ofl (l : List Nat) (h : ∀ d ∈ l, d < 4) (i : Nat) (hi : i < l.length) : fd (ofl l) i = l[i] := by
  induction l generalizing i with
  | nil => simp at hi
  | cons d l ih =>
    have h1 := h d (by simp)
    cases i with
    | zero => simp [ofl, fd]; omega
    | succ i =>
      have e : fd (ofl (d :: l)) (i + 1) = fd (ofl l) i := by
        show (d + 4 * ofl l) / 4^(i+1) % 4 = ofl l / 4^i % 4
        rw [Nat.pow_succ, Nat.mul_comm (4^i) 4, ← Nat.div_div_eq_div_mul]
        rw [show (d + 4 * ofl l) / 4 = ofl l from by omega]
      rw [e, ih (fun x hx => h x (by simp [hx])) i (by simpa using hi)]
      rfl
theorem set_lt (l : List Nat) (k d : Nat) (h : ∀ x ∈ l, x < 4) (hd : d < 4) : ∀ x ∈ l.set k d, x < 4 := by
  intro x hx
  rcases List.mem_or_eq_of_mem_set hx with e | e
  · exact h x e
  · omega
theorem fl_lt (c : Nat) : ∀ x ∈ fl c, x < 4 := by
  intro x hx
  simp only [fl, List.mem_map] at hx
  obtain ⟨i, _, rfl⟩ := hx
  exact fd_lt _ _

/-! the fates -/
def putd (c k f : Nat) : Nat := ofl ((fl c).set k f)
def wit (c : Nat) (i f : Int) : Nat := if (0 ≤ i ∧ i < 32) ∧ 0 ≤ f ∧ f ≤ 2 then putd c i.toNat f.toNat else c
theorem pow_two (k : Nat) : 4^k = 2^(2*k) := by rw [Nat.pow_mul]
theorem fd_bit (c i j : Nat) : (fd c i).testBit j = (decide (j < 2) && c.testBit (2 * i + j)) := by
  rw [fd, pow_two, show (4:Nat) = 2^2 from rfl, Nat.testBit_mod_two_pow, Nat.testBit_div_two_pow, Nat.add_comm]
theorem small_bit (f j : Nat) (hf : f < 4) (hj : 2 ≤ j) : f.testBit j = false :=
  Nat.testBit_lt_two_pow (Nat.lt_of_lt_of_le hf (show 2^2 ≤ 2^j from Nat.pow_le_pow_right (by omega) hj))
theorem three_bit (j : Nat) : (3:Nat).testBit j = decide (j < 2) := by
  have := Nat.testBit_two_pow_sub_one 2 j
  simpa using this
theorem putd_bits (c k f : Nat) (hc : c < 2^64) (hk : k < 32) (hf : f < 4) :
    (c &&& (2^64 - (3 * 2^(2*k) + 1))) ||| (f * 2^(2*k)) = putd c k f := by
  have h4 : (4:Nat)^32 = 2^64 := by decide
  have hp : 3 * 2^(2*k) < 2^64 := by
    have : 2^(2*k) ≤ 2^62 := Nat.pow_le_pow_right (by omega) (by omega)
    have e : (2:Nat)^64 = 4 * 2^62 := by decide
    omega
  have hp2 : f * 2^(2*k) < 2^64 := Nat.lt_of_le_of_lt (Nat.mul_le_mul_right _ (by omega)) hp
  apply ofl_inj 32
  · rw [h4]
    exact Nat.or_lt_two_pow (Nat.lt_of_le_of_lt Nat.and_le_left hc) hp2
  · have := ofl_lt ((fl c).set k f) (set_lt _ _ _ (fl_lt c) hf)
    rw [putd]; simpa [fl_len] using this
  · intro i hi
    rw [putd, fd_ofl _ (set_lt _ _ _ (fl_lt c) hf) i (by simpa [fl_len] using hi), List.getElem_set]
    apply Nat.eq_of_testBit_eq
    intro j
    rw [fd_bit]
    by_cases hj : j < 2
    · rw [Nat.testBit_or, Nat.testBit_and, Nat.testBit_two_pow_sub_succ hp, Nat.testBit_mul_two_pow, Nat.testBit_mul_two_pow, three_bit]
      by_cases e : k = i
      · subst e
        rw [if_pos rfl]
        have e1 : 2 * k + j - 2 * k = j := by omega
        simp [e1, hj]
      · rw [if_neg e, fl_get c i hi, fd_bit]
        by_cases l : 2 * k ≤ 2 * i + j
        · have g : 2 ≤ 2 * i + j - 2 * k := by omega
          rw [small_bit f _ hf g]
          have g' : ¬ (2 * i + j - 2 * k < 2) := by omega
          have g2 : 2 * i + j < 64 := by omega
          simp [g', g2, hj]
        · have g2 : 2 * i + j < 64 := by omega
          simp [l, g2, hj]
    · by_cases e : k = i
      · rw [if_pos e, small_bit f j hf (by omega)]; simp [hj]
      · rw [if_neg e, fl_get c i hi, fd_bit]; simp [hj]
/-- what the walk writes for With -/
theorem with_walk (c k f : Nat) (hc : c < 18446744073709551616) (hk : k < 32) (hf : f < 4) :
    bits .or .u64 (bits .andNot .u64 (c:Int) (IntKind.u64.wrap (3 * 2 ^ (2 * k)))) (IntKind.u64.wrap ((f:Int) * 2 ^ (2 * k))) = (putd c k f : Int) := by
  have hp : 3 * 2^(2*k) < 18446744073709551616 := by
    have : 2^(2*k) ≤ 2^62 := Nat.pow_le_pow_right (by omega) (by omega)
    have e : (2:Nat)^62 = 4611686018427387904 := by decide
    omega
  have hp2 : f * 2^(2*k) < 18446744073709551616 := Nat.lt_of_le_of_lt (Nat.mul_le_mul_right _ (by omega)) hp
  have e1 : (3 * 2 ^ (2 * k) : Int) = ((3 * 2^(2*k) : Nat) : Int) := by norm_cast
  have e2 : ((f:Int) * 2 ^ (2 * k)) = ((f * 2^(2*k) : Nat) : Int) := by norm_cast
  rw [e1, e2, IntWalk.u64_in _ (by omega), IntWalk.u64_in _ (by omega), u64_andNot_nat _ _ hc hp, u64_or_nat _ _ (Nat.lt_of_le_of_lt Nat.and_le_left hc) hp2]
  have := putd_bits c k f hc hk hf
  rw [← this]
  have e3 : 18446744073709551615 - 3 * 2^(2*k) = 2^64 - (3 * 2^(2*k) + 1) := by
    have e : (2:Nat)^64 = 18446744073709551616 := by decide
    omega
  rw [e3]

/-! whether a number is a choice -/
/-! how many, which one, which number -/
def base (t : Bool) : Nat := if t then 3 else 2
def cnt (n : Int) (t : Bool) : Nat := if 0 ≤ n ∧ n ≤ 32 then base t ^ n.toNat else 0
/-! which choices are allowed -/
/-! texts -/
/-! forth and back -/
end Go.Proofs.Ytpckdjnddoaffaa.choMath
