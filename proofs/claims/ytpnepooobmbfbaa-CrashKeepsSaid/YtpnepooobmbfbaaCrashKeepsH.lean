/- What CrashKeeps wants, part 8. -/
import Derived.WalkKit
import Derived.Laws.BitsAllLaws
import Derived.Shelf.Small.Strs
/- Plain mathematics of choices: digits in base 4, digits in base 2 or 3, and arrays of 32 digits. -/
namespace Go.Proofs.Ytpnepooobmbfbaa.choMath
set_option maxRecDepth 100000
open Go.RowKit
set_option linter.unusedVariables false

def fd (c i : Nat) : Nat := c / 4^i % 4
theorem fd_lt (c i : Nat) : fd c i < 4 := Nat.mod_lt _ (by omega)
def ofl : List Nat → Nat
  | [] => 0
  | d :: l => d + 4 * ofl l
def fl (c : Nat) : List Nat := (List.range 32).map (fd c)
theorem fl_len (c : Nat) : (fl c).length = 32 := by simp [fl]
theorem fl_get (c k : Nat) (h : k < 32) : (fl c)[k]'(by rw [fl_len]; exact h) = fd c k := by simp [fl]
def arr (l : List Nat) : Array Value := (l.map fun (d : Nat) => Value.int .i64 (d : Int)).toArray
theorem arr_size (l : List Nat) : (arr l).size = l.length := by simp [arr]
theorem arr_get (l : List Nat) (k : Nat) (h : k < l.length) : (arr l)[k]? = some (.int .i64 (l[k] : Int)) := by simp [arr, h]
theorem arr_set (l : List Nat) (k d : Nat) : (arr l).setIfInBounds k (.int .i64 (d : Int)) = arr (l.set k d) := by
  simp [arr, List.map_set]
/-- the first j digits are there, the others are 0 -/
def pref (g : Nat → Nat) (j : Nat) : List Nat := (List.range 32).map fun i => if i < j then g i else 0
theorem pref_len (g : Nat → Nat) (j : Nat) : (pref g j).length = 32 := by simp [pref]
theorem pref_set (g : Nat → Nat) (j : Nat) (h : j < 32) : (pref g j).set j (g j) = pref g (j + 1) := by
  apply List.ext_getElem
  · simp [pref]
  · intro i h1 h2
    simp only [pref, List.getElem_set, List.getElem_map, List.getElem_range]
    by_cases e : j = i
    · subst e; simp
    · rw [if_neg e]
      by_cases l : i < j
      · rw [if_pos l, if_pos (by omega)]
      · rw [if_neg l, if_neg (by omega)]
theorem pref_all (g : Nat → Nat) : pref g 32 = (List.range 32).map g := by
  apply List.ext_getElem
  · simp [pref]
  · intro i h1 h2
    simp only [pref, List.getElem_map, List.getElem_range]
    rw [if_pos (by simpa [pref] using h1)]
theorem pref_get (g : Nat → Nat) (j k : Nat) (h : k < 32) : (pref g j)[k]'(by rw [pref_len]; exact h) = if k < j then g k else 0 := by simp [pref]
theorem zeros (g : Nat → Nat) : arr (pref g 0) = #[.int .i64 0, .int .i64 0, .int .i64 0, .int .i64 0, .int .i64 0, .int .i64 0, .int .i64 0, .int .i64 0, .int .i64 0, .int .i64 0, .int .i64 0, .int .i64 0, .int .i64 0, .int .i64 0, .int .i64 0, .int .i64 0, .int .i64 0, .int .i64 0, .int .i64 0, .int .i64 0, .int .i64 0, .int .i64 0, .int .i64 0, .int .i64 0, .int .i64 0, .int .i64 0, .int .i64 0, .int .i64 0, .int .i64 0, .int .i64 0, .int .i64 0, .int .i64 0] := rfl

theorem ofl_range (n c : Nat) : ofl ((List.range n).map (fd c)) = c % 4^n := by
  induction n generalizing c with
  | zero => simp [ofl, Nat.mod_one]
  | succ n ih =>
    rw [List.range_succ_eq_map, List.map_cons, List.map_map]
    have e : (fd c ∘ Nat.succ) = fd (c / 4) := by
      funext i
      show c / 4^(i+1) % 4 = c / 4 / 4^i % 4
      rw [Nat.div_div_eq_div_mul, Nat.pow_succ, Nat.mul_comm]
    rw [e, ofl, ih]
    show c / 4^0 % 4 + _ = _
    rw [Nat.pow_zero, Nat.div_one, Nat.pow_succ, Nat.mul_comm (4^n) 4, Nat.mod_mul]
theorem ofl_drop (l : List Nat) (k : Nat) (h : k < l.length) : ofl (l.drop k) = l[k] + 4 * ofl (l.drop (k + 1)) := by
  rw [List.drop_eq_getElem_cons h, ofl]
theorem ofl_lt (l : List Nat) (h : ∀ d ∈ l, d < 4) : ofl l < 4^l.length := by
  induction l with
  | nil => simp [ofl]
  | cons d l ih =>
    have h1 := h d (by simp)
    have h2 := ih (fun x hx => h x (by simp [hx]))
    rw [ofl, List.length_cons, Nat.pow_succ]
    omega
theorem ofl_inj (n : Nat) (c d : Nat) (hc : c < 4^n) (hd : d < 4^n) (h : ∀ i, i < n → fd c i = fd d i) : c = d := by
  rw [← Nat.mod_eq_of_lt hc, ← Nat.mod_eq_of_lt hd, ← ofl_range, ← ofl_range]
  congr 1
  apply List.map_congr_left
  intro i hi
  exact h i (List.mem_range.1 hi)
theorem fd_ofl (l : List Nat) (h : ∀ d ∈ l, d < 4) (i : Nat) (hi : i < l.length) : fd (ofl l) i = l[i] := by
  induction l generalizing i with
  | nil => simp at hi
  | cons d l ih =>
    have h1 := h d (by simp)
    cases i with
    | zero => simp [ofl, fd]; omega
    | succ i =>
      have e : fd (ofl (d :: l)) (i + 1) = fd (ofl l) i := by
        show (d + 4 * ofl l) / 4^(i+1) % 4 = ofl l / 4^i % 4
        rw [Nat.pow_succ, Nat.mul_comm (4^i) 4, ← Nat.div_div_eq_div_mul]
        rw [show (d + 4 * ofl l) / 4 = ofl l from by omega]
      rw [e, ih (fun x hx => h x (by simp [hx])) i (by simpa using hi)]
      rfl
theorem set_lt (l : List Nat) (k d : Nat) (h : ∀ x ∈ l, x < 4) (hd : d < 4) : ∀ x ∈ l.set k d, x < 4 := by
  intro x hx
  rcases List.mem_or_eq_of_mem_set hx with e | e
  · exact h x e
  · omega
theorem fl_lt (c : Nat) : ∀ x ∈ fl c, x < 4 := by
  intro x hx
  simp only [fl, List.mem_map] at hx
  obtain ⟨i, _, rfl⟩ := hx
  exact fd_lt _ _

/-! the fates -/
def fate (c : Nat) (i : Int) : Int := if 0 ≤ i ∧ i < 32 then (fd c i.toNat : Int) else 0
def putd (c k f : Nat) : Nat := ofl ((fl c).set k f)
def wit (c : Nat) (i f : Int) : Nat := if (0 ≤ i ∧ i < 32) ∧ 0 ≤ f ∧ f ≤ 2 then putd c i.toNat f.toNat else c
theorem pow_two (k : Nat) : 4^k = 2^(2*k) := by rw [Nat.pow_mul]
theorem fd_bit (c i j : Nat) : (fd c i).testBit j = (decide (j < 2) && c.testBit (2 * i + j)) := by
  rw [fd, pow_two, show (4:Nat) = 2^2 from rfl, Nat.testBit_mod_two_pow, Nat.testBit_div_two_pow, Nat.add_comm]
theorem small_bit (f j : Nat) (hf : f < 4) (hj : 2 ≤ j) : f.testBit j = false :=
  Nat.testBit_lt_two_pow (Nat.lt_of_lt_of_le hf (show 2^2 ≤ 2^j from Nat.pow_le_pow_right (by omega) hj))
theorem three_bit (j : Nat) : (3:Nat).testBit j = decide (j < 2) := by
  have := Nat.testBit_two_pow_sub_one 2 j
  simpa using this
theorem putd_bits (c k f : Nat) (hc : c < 2^64) (hk : k < 32) (hf : f < 4) :
    (c &&& (2^64 - (3 * 2^(2*k) + 1))) ||| (f * 2^(2*k)) = putd c k f := by
  have h4 : (4:Nat)^32 = 2^64 := by decide
  have hp : 3 * 2^(2*k) < 2^64 := by
    have : 2^(2*k) ≤ 2^62 := Nat.pow_le_pow_right (by omega) (by omega)
    have e : (2:Nat)^64 = 4 * 2^62 := by decide
    omega
  have hp2 : f * 2^(2*k) < 2^64 := Nat.lt_of_le_of_lt (Nat.mul_le_mul_right _ (by omega)) hp
  apply ofl_inj 32
  · rw [h4]
    exact Nat.or_lt_two_pow (Nat.lt_of_le_of_lt Nat.and_le_left hc) hp2
  · have := ofl_lt ((fl c).set k f) (set_lt _ _ _ (fl_lt c) hf)
    rw [putd]; simpa [fl_len] using this
  · intro i hi
    rw [putd, fd_ofl _ (set_lt _ _ _ (fl_lt c) hf) i (by simpa [fl_len] using hi), List.getElem_set]
    apply Nat.eq_of_testBit_eq
    intro j
    rw [fd_bit]
    by_cases hj : j < 2
    · rw [Nat.testBit_or, Nat.testBit_and, Nat.testBit_two_pow_sub_succ hp, Nat.testBit_mul_two_pow, Nat.testBit_mul_two_pow, three_bit]
      by_cases e : k = i
      · subst e
        rw [if_pos rfl]
        have e1 : 2 * k + j - 2 * k = j := by omega
        simp [e1, hj]
      · rw [if_neg e, fl_get c i hi, fd_bit]
        by_cases l : 2 * k ≤ 2 * i + j
        · have g : 2 ≤ 2 * i + j - 2 * k := by omega
          rw [small_bit f _ hf g]
          have g' : ¬ (2 * i + j - 2 * k < 2) := by omega
          have g2 : 2 * i + j < 64 := by omega
          simp [g', g2, hj]
        · have g2 : 2 * i + j < 64 := by omega
          simp [l, g2, hj]
    · by_cases e : k = i
      · rw [if_pos e, small_bit f j hf (by omega)]; simp [hj]
      · rw [if_neg e, fl_get c i hi, fd_bit]; simp [hj]
/-- what the walk writes for Fate -/
theorem fate_walk (c k : Nat) (hc : c < 18446744073709551616) : wrap64 (bits .and .u64 ((c:Int) / 2 ^ (2 * k)) 3) = (fd c k : Int) := by
  have hd : c / 2^(2*k) < 18446744073709551616 := Nat.lt_of_le_of_lt (Nat.div_le_self _ _) hc
  have e : ((c:Int) / 2 ^ (2 * k)) = ((c / 2^(2*k) : Nat) : Int) := by norm_cast
  rw [e, show (3:Int) = ((3:Nat):Int) from rfl, u64_and_nat _ _ hd (by omega)]
  have : c / 2^(2*k) &&& 3 = fd c k := by
    rw [fd, pow_two]
    exact Nat.and_two_pow_sub_one_eq_mod _ 2
  rw [this]
  have := fd_lt c k
  unfold wrap64; omega

/-- what the walk writes for With -/
theorem with_walk (c k f : Nat) (hc : c < 18446744073709551616) (hk : k < 32) (hf : f < 4) :
    bits .or .u64 (bits .andNot .u64 (c:Int) (IntKind.u64.wrap (3 * 2 ^ (2 * k)))) (IntKind.u64.wrap ((f:Int) * 2 ^ (2 * k))) = (putd c k f : Int) := by
  have hp : 3 * 2^(2*k) < 18446744073709551616 := by
    have : 2^(2*k) ≤ 2^62 := Nat.pow_le_pow_right (by omega) (by omega)
    have e : (2:Nat)^62 = 4611686018427387904 := by decide
    omega
  have hp2 : f * 2^(2*k) < 18446744073709551616 := Nat.lt_of_le_of_lt (Nat.mul_le_mul_right _ (by omega)) hp
  have e1 : (3 * 2 ^ (2 * k) : Int) = ((3 * 2^(2*k) : Nat) : Int) := by norm_cast
  have e2 : ((f:Int) * 2 ^ (2 * k)) = ((f * 2^(2*k) : Nat) : Int) := by norm_cast
  rw [e1, e2, IntWalk.u64_in _ (by omega), IntWalk.u64_in _ (by omega), u64_andNot_nat _ _ hc hp, u64_or_nat _ _ (Nat.lt_of_le_of_lt Nat.and_le_left hc) hp2]
  have := putd_bits c k f hc hk hf
  rw [← this]
  have e3 : 18446744073709551615 - 3 * 2^(2*k) = 2^64 - (3 * 2^(2*k) + 1) := by
    have e : (2:Nat)^64 = 18446744073709551616 := by decide
    omega
  rw [e3]

/-! whether a number is a choice -/
def riB (c : Nat) (n : Int) : Bool := decide (0 ≤ n ∧ n ≤ 32) && (List.range 32).all fun i => fd c i != 3 && (decide ((i:Int) < n) || fd c i == 0)
theorem fd_hi (c n i : Nat) (h : c / 4^n = 0) (hi : n ≤ i) : fd c i = 0 := by
  rw [fd]
  have : c / 4^i = 0 := by
    rw [Nat.div_eq_zero_iff] at h ⊢
    rcases h with h | h
    · exact absurd h (by simp)
    · exact Or.inr (Nat.lt_of_lt_of_le h (Nat.pow_le_pow_right (by omega) hi))
  rw [this]
theorem hi_zero (c n : Nat) (hc : c < 4^32) (hn : n ≤ 32) (h : ∀ i, n ≤ i → i < 32 → fd c i = 0) : c / 4^n = 0 := by
  rw [Nat.div_eq_zero_iff]
  refine Or.inr ?_
  have : c = c % 4^n := by
    apply ofl_inj 32 _ _ hc (Nat.lt_of_le_of_lt (Nat.mod_le _ _) hc)
    intro i hi
    by_cases l : i < n
    · rw [fd, fd]
      have : c % 4^n / 4^i % 4 = c / 4^i % 4 := by
        rw [show (4:Nat)^n = 4^i * 4^(n-i) from by rw [← Nat.pow_add]; congr 1; omega, Nat.mod_mul_right_div_self, show n - i = 1 + (n-i-1) from by omega, Nat.pow_add, Nat.pow_one, Nat.mod_mul_right_mod]
      rw [this]
    · rw [h i (by omega) hi, fd, Nat.div_eq_of_lt (Nat.lt_of_lt_of_le (Nat.mod_lt _ (Nat.pow_pos (by omega))) (Nat.pow_le_pow_right (by omega) (by omega)))]
  rw [this]
  exact Nat.mod_lt _ (Nat.pow_pos (by omega))
/-- the developer's way: a digit 3 below n, or bits behind it -/
theorem riB_in (c n : Nat) (hc : c < 4^32) (hn : n ≤ 32) : riB c n = ((List.range n).all (fun i => decide (fd c i ≤ 2)) && decide (c / 4^n = 0)) := by
  rw [Bool.eq_iff_iff]
  simp only [riB, Bool.and_eq_true, decide_eq_true_eq, List.all_eq_true, List.mem_range, bne_iff_ne, Bool.or_eq_true, beq_iff_eq]
  constructor
  · rintro ⟨_, h⟩
    refine ⟨fun i hi => ?_, hi_zero c n hc hn fun i hi h32 => ?_⟩
    · have := (h i (by omega)).1
      have := fd_lt c i
      omega
    · rcases (h i h32).2 with e | e
      · omega
      · exact e
  · rintro ⟨h, h0⟩
    refine ⟨by omega, fun i hi => ⟨?_, ?_⟩⟩
    · by_cases l : i < n
      · have := h i l; omega
      · rw [fd_hi c n i h0 (by omega)]; omega
    · by_cases l : i < n
      · exact Or.inl (by omega)
      · exact Or.inr (fd_hi c n i h0 (by omega))
theorem riB_out (c : Nat) (n : Int) (h : n < 0 ∨ 32 < n) : riB c n = false := by
  rw [riB, decide_eq_false (by omega)]; rfl
/-! how many, which one, which number -/
def base (t : Bool) : Nat := if t then 3 else 2
def cnt (n : Int) (t : Bool) : Nat := if 0 ≤ n ∧ n ≤ 32 then base t ^ n.toNat else 0
theorem pow_le (t : Bool) (j : Nat) (h : j ≤ 32) : base t ^ j ≤ 1853020188851841 := by
  have h1 : base t ^ j ≤ 3 ^ j := Nat.pow_le_pow_left (by cases t <;> decide) j
  have h2 : (3:Nat) ^ j ≤ 3 ^ 32 := Nat.pow_le_pow_right (by omega) h
  have h3 : (3:Nat) ^ 32 = 1853020188851841 := by decide
  omega
def nth (k : Nat) (n : Int) (t : Bool) : Nat := if k < cnt n t then ofl (pref (fun i => k / base t ^ i % base t) n.toNat) else 0
theorem fl_ofl (l : List Nat) (h : ∀ d ∈ l, d < 4) (hl : l.length = 32) : fl (ofl l) = l := by
  apply List.ext_getElem
  · rw [fl_len, hl]
  · intro i h1 h2
    rw [fl_get _ i (by rw [fl_len] at h1; exact h1), fd_ofl l h i h2]
theorem pref_lt (g : Nat → Nat) (j : Nat) (hg : ∀ i, g i < 4) : ∀ d ∈ pref g j, d < 4 := by
  intro d hd
  simp only [pref, List.mem_map] at hd
  obtain ⟨i, _, rfl⟩ := hd
  split
  · exact hg i
  · omega
theorem putd_pref (g : Nat → Nat) (j : Nat) (hg : ∀ i, g i < 4) (hj : j < 32) : putd (ofl (pref g j)) j (g j) = ofl (pref g (j + 1)) := by
  rw [putd, fl_ofl _ (pref_lt g j hg) (pref_len g j), pref_set g j hj]
theorem ofl32 (l : List Nat) (h : ∀ d ∈ l, d < 4) (hl : l.length = 32) : ofl l < 18446744073709551616 := by
  have h1 := ofl_lt l h
  have h4 : (4:Nat)^32 = 18446744073709551616 := by decide
  rw [hl] at h1; omega
theorem ofl_zero (g : Nat → Nat) : ofl (pref g 0) = 0 := by
  have e : pref g 0 = (List.range 32).map (fd 0) := by
    rw [pref]
    apply List.map_congr_left
    intro i _
    rw [if_neg (by omega), fd, Nat.zero_div]
  rw [e, ofl_range, Nat.zero_mod]
def ng (k b : Nat) (i : Nat) : Nat := k / b ^ i % b
theorem ng_lt (k : Nat) (t : Bool) (i : Nat) : ng k (base t) i < 3 ∧ ng k (base t) i < 4 := by
  have : ng k (base t) i < base t := Nat.mod_lt _ (by cases t <;> decide)
  have : base t ≤ 3 := by cases t <;> decide
  omega
theorem right_walk (c k : Nat) : ((c:Int) / 2 ^ (2 * k) == 0) = decide (c / 4^k = 0) := by
  have e : ((c:Int) / 2 ^ (2 * k)) = ((c / 2^(2*k) : Nat) : Int) := by norm_cast
  rw [e, pow_two]
  generalize c / 2^(2*k) = m
  by_cases h : m = 0 <;> simp [h]
/-- the reference's test at place i -/
def rp (c : Nat) (n : Int) (i : Nat) : Bool := fd c i != 3 && (decide ((i:Int) < n) || fd c i == 0)
theorem riB_rp (c : Nat) (n : Int) (h0 : 0 ≤ n) (h : n ≤ 32) : riB c n = (List.range 32).all (rp c n) := by
  rw [riB, decide_eq_true (by omega)]; rfl

/-! which choices are allowed -/
def alP (c : Nat) (zs : List Int) (i k : Nat) : Bool := fd c k == 0 || !(decide (zs.getD i 0 < zs.getD k 0)) || fd c i == 1
def alB (c : Nat) (zs : List Int) : Bool := riB c zs.length && (List.range zs.length).all fun i => (List.range zs.length).all (alP c zs i)
/-- the highest epoch reached by the first j writes -/
def lr (c : Nat) (zs : List Int) : Nat → Int × Bool
  | 0 => (0, false)
  | j + 1 => if fd c j ≠ 0 ∧ ((lr c zs j).2 = false ∨ (lr c zs j).1 < zs.getD j 0) then (zs.getD j 0, true) else lr c zs j
theorem lr_spec (c : Nat) (zs : List Int) (j : Nat) : ((lr c zs j).2 = false → ∀ k, k < j → fd c k = 0) ∧
    ((lr c zs j).2 = true → (∃ k, k < j ∧ fd c k ≠ 0 ∧ zs.getD k 0 = (lr c zs j).1) ∧ ∀ k, k < j → fd c k ≠ 0 → zs.getD k 0 ≤ (lr c zs j).1) := by
  induction j with
  | zero => exact ⟨fun _ k h => absurd h (by omega), (fun h => by cases h)⟩
  | succ j ih =>
    obtain ⟨h1, h2⟩ := ih
    rw [lr]
    by_cases hc : fd c j ≠ 0 ∧ ((lr c zs j).2 = false ∨ (lr c zs j).1 < zs.getD j 0)
    · rw [if_pos hc]
      refine ⟨(fun h => by cases h), fun _ => ⟨⟨j, by omega, hc.1, rfl⟩, fun k hk hf => ?_⟩⟩
      by_cases e : k = j
      · subst e; exact Int.le_refl _
      · rcases hc.2 with h | h
        · exact absurd (h1 h k (by omega)) hf
        · by_cases hr : (lr c zs j).2 = true
          · have := (h2 hr).2 k (by omega) hf
            show zs.getD k 0 ≤ zs.getD j 0
            omega
          · exact absurd (h1 (by simpa using hr) k (by omega)) hf
    · rw [if_neg hc]
      refine ⟨fun h k hk => ?_, fun h => ?_⟩
      · by_cases e : k = j
        · subst e
          by_cases hz : fd c k = 0
          · exact hz
          · exact absurd ⟨hz, Or.inl h⟩ hc
        · exact h1 h k (by omega)
      · obtain ⟨⟨k0, a, b, d⟩, h4⟩ := h2 h
        refine ⟨⟨k0, by omega, b, d⟩, fun k hk hf => ?_⟩
        by_cases e : k = j
        · subst e
          by_cases hl : (lr c zs k).1 < zs.getD k 0
          · exact absurd ⟨hf, Or.inr hl⟩ hc
          · omega
        · exact h4 k (by omega) hf
/-- the developer's test at place i -/
def dvP (c : Nat) (zs : List Int) (L : Int) (i : Nat) : Bool := !(decide (zs.getD i 0 < L)) || fd c i == 1
theorem alB_dev (c : Nat) (zs : List Int) (hr : riB c zs.length = true) : alB c zs = (!(lr c zs zs.length).2 || (List.range zs.length).all (dvP c zs (lr c zs zs.length).1)) := by
  have hs := lr_spec c zs zs.length
  rw [alB, hr, Bool.true_and, Bool.eq_iff_iff, Bool.or_eq_true, List.all_eq_true, List.all_eq_true]
  cases hR : (lr c zs zs.length).2 with
  | false =>
    have h0 := hs.1 hR
    constructor
    · intro _; exact Or.inl rfl
    · intro _ i hi
      rw [List.all_eq_true]
      intro k hk
      rw [alP, h0 k (List.mem_range.1 hk)]; rfl
  | true =>
    obtain ⟨⟨k0, hk0, hf0, he0⟩, hall⟩ := hs.2 hR
    constructor
    · intro h
      refine Or.inr fun i hi => ?_
      have h1 := h i hi
      rw [List.all_eq_true] at h1
      have h2 := h1 k0 (List.mem_range.2 hk0)
      rw [alP, he0] at h2
      rw [dvP]
      simp only [Bool.or_eq_true, beq_iff_eq] at h2 ⊢
      rcases h2 with (h2 | h2) | h2
      · exact absurd h2 hf0
      · exact Or.inl h2
      · exact Or.inr h2
    · rintro (h | h) i hi
      · cases h
      · rw [List.all_eq_true]
        intro k hk
        have h1 := h i hi
        rw [dvP] at h1
        rw [alP]
        simp only [Bool.or_eq_true, beq_iff_eq, Bool.not_eq_true', decide_eq_false_iff_not] at h1 ⊢
        by_cases hz : fd c k = 0
        · exact Or.inl (Or.inl hz)
        · have := hall k (List.mem_range.1 hk) hz
          rcases h1 with h1 | h1
          · exact Or.inl (Or.inr (by omega))
          · exact Or.inr h1

/-! texts -/
/-! forth and back -/
theorem fd_pref (g : Nat → Nat) (n i : Nat) (hg : ∀ i, g i < 4) (hi : i < 32) : fd (ofl (pref g n)) i = if i < n then g i else 0 := by
  rw [fd_ofl _ (pref_lt g n hg) i (by rw [pref_len]; exact hi), pref_get g n i hi]
theorem pref_congr (f g : Nat → Nat) (n : Nat) (h : ∀ i, i < n → f i = g i) : pref f n = pref g n := by
  rw [pref, pref]
  apply List.map_congr_left
  intro i _
  by_cases l : i < n
  · rw [if_pos l, if_pos l, h i l]
  · rw [if_neg l, if_neg l]
theorem alB_zero (zs : List Int) (h : zs.length ≤ 32) : alB 0 zs = true := by
  have h0 : ∀ i, fd 0 i = 0 := fun i => by rw [fd, Nat.zero_div]
  have hr : riB 0 zs.length = true := by
    rw [riB_rp _ _ (by omega) (by omega), List.all_eq_true]
    intro i _
    rw [rp, h0]; simp
  rw [alB, hr, Bool.true_and, List.all_eq_true]
  intro i _
  rw [List.all_eq_true]
  intro k _
  rw [alP, h0 k]; rfl
theorem alB_kept (zs : List Int) (h : zs.length ≤ 32) : alB (ofl (pref (fun _ => 1) zs.length)) zs = true := by
  have hf : ∀ i, i < 32 → fd (ofl (pref (fun _ => 1) zs.length)) i = if i < zs.length then 1 else 0 := fun i hi => fd_pref _ _ _ (fun _ => by omega) hi
  have hr : riB (ofl (pref (fun _ => 1) zs.length)) zs.length = true := by
    rw [riB_rp _ _ (by omega) (by omega), List.all_eq_true]
    intro i hi
    rw [rp, hf i (List.mem_range.1 hi)]
    by_cases l : i < zs.length
    · simp [l]
    · simp [l]
  rw [alB, hr, Bool.true_and, List.all_eq_true]
  intro i hi
  rw [List.all_eq_true]
  intro k _
  rw [alP, hf i (by have := List.mem_range.1 hi; omega), if_pos (List.mem_range.1 hi)]
  simp
end Go.Proofs.Ytpnepooobmbfbaa.choMath
