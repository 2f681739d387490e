/- What LexBack wants, part 12. -/
import Derived.Test.YtahcndkifplekaaRows
namespace Go.Proofs.Ytahcndkifplekaa
namespace numMath
set_option maxRecDepth 100000
def dig (n : Nat) : List UInt8 := if n < 10 then [UInt8.ofNat (48 + n)] else dig (n / 10) ++ [UInt8.ofNat (48 + n % 10)]
termination_by n
decreasing_by omega
theorem dig_lt {n : Nat} (h : n < 10) : dig n = [UInt8.ofNat (48 + n)] := by unfold dig; rw [if_pos h]
theorem dig_ge {n : Nat} (h : 10 ≤ n) : dig n = dig (n / 10) ++ [UInt8.ofNat (48 + n % 10)] := by
 conv => lhs; unfold dig
 rw [if_neg (by omega)]
def digI (n : Int) : List UInt8 := if n < 0 then 45 :: dig n.natAbs else dig n.natAbs
def digS (n : Int) : ByteArray := ⟨(digI n).toArray⟩
theorem dig_ne (n : Nat) : dig n ≠ [] := by
 by_cases h : n < 10
 ·rw [dig_lt h]; simp
 ·rw [dig_ge (by omega)]; simp
structure Inv (m s r : Nat) (l : List UInt8) : Prop where
 len : l.length + s = 20
 pos : 1 ≤ s
 bound : r * 10 ^ (20 - s) ≤ m
 start : s = 20 → r = m
 done : s < 20 → dig m = (if r = 0 then [] else dig r) ++ l
theorem Inv.first (m : Nat) : Inv m 20 m [] := ⟨rfl, by omega, by simp, fun _ => rfl, fun h => by omega⟩
theorem Inv.low {m s r : Nat} {l : List UInt8} (h : Inv m s r l) (hm : m ≤ 9223372036854775808) (hc : 0 < r ∨ s = 20) : 2 ≤ s := by
 rcases hc with hr | rfl
 ·rcases Nat.lt_or_ge s 2 with hs | hs
  ·have hb := h.bound
   have : s = 1 := by have := h.pos; omega
   subst this
   have : r * 10 ^ 19 ≥ 1 * 10 ^ 19 := Nat.mul_le_mul_right _ hr
   have e : (20 - 1 : Nat) = 19 := rfl
   rw [e] at hb
   omega
  ·exact hs
 ·omega
theorem Inv.low_r {m s r : Nat} {l : List UInt8} (h : Inv m s r l) : r ≤ m := by
 have h1 : r * 1 ≤ r * 10 ^ (20 - s) := Nat.mul_le_mul_left _ (Nat.pos_of_ne_zero (by simp))
 have := h.bound
 omega
theorem dig_byte (r : Nat) : ((UInt8.ofNat (48 + r % 10)).toNat : Int) = 48 + (r : Int) % 10 := by
 rw [UInt8.toNat_ofNat_of_lt' (by simp [UInt8.size]; omega)]
 omega
theorem Inv.next {m s r : Nat} {l : List UInt8} (h : Inv m s r l) (hm : m ≤ 9223372036854775808) (hc : 0 < r ∨ s = 20) :
  Inv m (s - 1) (r / 10) (UInt8.ofNat (48 + r % 10) :: l) := by
 have hs := h.low hm hc
 have hl := h.len
 refine ⟨by simp; omega, by omega, ?_, fun e => by omega, fun _ => ?_⟩
 ·have hb := h.bound
  have e : 20 - (s - 1) = (20 - s) + 1 := by omega
  rw [e, Nat.pow_succ]
  have h1 : r / 10 * 10 ≤ r := Nat.div_mul_le_self r 10
  have e1 : r / 10 * (10 ^ (20 - s) * 10) = (r / 10 * 10) * 10 ^ (20 - s) := by
   rw [Nat.mul_comm (10 ^ (20 - s)) 10, Nat.mul_assoc]
  rw [e1]
  exact Nat.le_trans (Nat.mul_le_mul_right _ h1) hb
 ·have key : (if r / 10 = 0 then [] else dig (r / 10)) ++ [UInt8.ofNat (48 + r % 10)] = dig r := by
   by_cases h10 : r < 10
   ·rw [if_pos (by omega), dig_lt h10, Nat.mod_eq_of_lt h10]; rfl
   ·rw [if_neg (by omega), ← dig_ge (by omega)]
  have : (if r / 10 = 0 then [] else dig (r / 10)) ++ UInt8.ofNat (48 + r % 10) :: l = dig r ++ l := by
   rw [← key, List.append_assoc]; rfl
  rw [this]
  by_cases h20 : s = 20
  ·have := h.start h20
   subst this
   have : l = [] := List.eq_nil_of_length_eq_zero (by omega)
   subst this; simp
  ·have hr : r ≠ 0 := by rcases hc with h | h <;> omega
   have := h.done (by omega)
   rw [if_neg hr] at this
   exact this
theorem Inv.last {m s r : Nat} {l : List UInt8} (h : Inv m s r l) (hr : ¬ (0 < r)) (hs : ¬ s = 20) : dig m = l := by
 have := h.done (by have := h.len; omega)
 rw [if_pos (by omega)] at this
 simpa using this
def row (s : Nat) (l : List UInt8) : Array Value := ((List.replicate s (0 : UInt8) ++ l).map fun c => Value.int .u8 c.toNat).toArray
theorem row_at (s k : Nat) (l : List UInt8) (h : k < s) : (row s l)[k]? = some (.int .u8 0) := by
 simp only [row, List.map_append, List.map_replicate, List.getElem?_toArray]
 rw [List.getElem?_append_left (by simpa using h)]
 simp [h]
theorem row_set (s : Nat) (c : UInt8) (l : List UInt8) (h : 1 ≤ s) : (row s l).setIfInBounds (s - 1) (.int .u8 c.toNat) = row (s - 1) (c :: l) := by
 obtain ⟨t, rfl⟩ : ∃ t, s = t + 1 := ⟨s - 1, by omega⟩
 simp only [Nat.add_sub_cancel, row]
 rw [List.replicate_succ']
 simp only [List.append_assoc, List.map_append, List.setIfInBounds_toArray]
 congr 1
 rw [List.set_append_right _ _ (by simp)]
 simp
theorem snocRec {α : Type} {p : List α → Prop} (nil : p []) (snoc : ∀ l c, p l → p (l ++ [c])) (l : List α) : p l := by
 have : ∀ (k : Nat) (l : List α), l.length = k → p l := by
  intro k
  induction k with
  | zero => intro l h; rw [List.eq_nil_of_length_eq_zero h]; exact nil
  | succ k ih =>
   intro l h
   have hne : l ≠ [] := by intro e; subst e; simp at h
   rw [← List.dropLast_concat_getLast hne]
   exact snoc _ _ (ih _ (by simp; omega))
 exact this _ l rfl
def isDig (c : UInt8) : Bool := decide (48 ≤ (c.toNat : Int)) && decide ((c.toNat : Int) ≤ 57)
def val (l : List UInt8) : Nat := l.foldl (fun n c => n * 10 + (c.toNat - 48)) 0
def readV (l : List UInt8) : Option Nat :=
 if l.length = 0 ∨ 13 < l.length ∨ (1 < l.length ∧ l.head? = some 48) ∨ l.all isDig = false then none
 else if 1000000000000 < val l then none else some (val l)
theorem val_snoc (l : List UInt8) (c : UInt8) : val (l ++ [c]) = val l * 10 + (c.toNat - 48) := by simp [val]
theorem val_lt : ∀ (l : List UInt8), l.all isDig = true → val l < 10 ^ l.length := by
 intro l
 induction l using snocRec with
 | nil => simp [val]
 | snoc l c ih =>
  intro h
  simp only [List.all_append, List.all_cons, List.all_nil, Bool.and_true, Bool.and_eq_true] at h
  have := ih h.1
  have hc : c.toNat ≤ 57 := by have := h.2; simp [isDig] at this; omega
  rw [val_snoc, List.length_append, List.length_singleton, Nat.pow_succ]
  omega
theorem take_snoc (s : ByteArray) (k : Nat) (h : k < s.size) : s.data.toList.take (k + 1) = s.data.toList.take k ++ [s[k]] := by
 rw [List.take_succ_eq_append_getElem (by simpa using h)]; rfl
theorem all_take_succ (s : ByteArray) (k : Nat) (h : k < s.size) : (s.data.toList.take (k + 1)).all isDig = ((s.data.toList.take k).all isDig && isDig s[k]) := by
 rw [take_snoc s k h]; simp [List.all_append]
theorem val_take_succ (s : ByteArray) (k : Nat) (h : k < s.size) : val (s.data.toList.take (k + 1)) = val (s.data.toList.take k) * 10 + (s[k].toNat - 48) := by
 rw [take_snoc s k h, val_snoc]
theorem all_take_false (s : ByteArray) (k : Nat) (h : k < s.size) (hd : isDig s[k] = false) : s.data.toList.all isDig = false := by
 rw [← List.take_append_drop (k + 1) s.data.toList, List.all_append, all_take_succ s k h, hd]; simp
theorem take_all (s : ByteArray) (k : Nat) (h : ¬ k < s.size) : s.data.toList.take k = s.data.toList := List.take_of_length_le (by simp; omega)
def rN (l : List UInt8) : Int := ((readV l).getD 0 : Nat)
def rB (l : List UInt8) : Bool := (readV l).isSome
theorem isDig_ofNat {r : Nat} (h : r ≤ 9) : isDig (UInt8.ofNat (48 + r)) = true := by
 rw [isDig, UInt8.toNat_ofNat_of_lt' (by simp [UInt8.size]; omega)]
 simp; omega
theorem toNat_ofNat48 {r : Nat} (h : r ≤ 9) : (UInt8.ofNat (48 + r)).toNat - 48 = r := by
 rw [UInt8.toNat_ofNat_of_lt' (by simp [UInt8.size]; omega)]; omega
theorem dig_all : ∀ (k n : Nat), n ≤ k → (dig n).all isDig = true ∧ val (dig n) = n ∧ (dig n).length ≥ 1 ∧ (9 < n → (dig n).head? ≠ some 48) ∧ (0 < n → (dig n).head? ≠ some 48) := by
 intro k
 induction k with
 | zero =>
  intro n h
  obtain rfl : n = 0 := by omega
  rw [dig_lt (by omega)]
  exact ⟨by decide, by decide, by decide, by omega, by omega⟩
 | succ k ih =>
  intro n h
  by_cases h9 : n < 10
  ·rw [dig_lt h9]
   refine ⟨by rw [List.all_cons, isDig_ofNat (show n ≤ 9 by omega)]; rfl, ?_, by simp, by omega, ?_⟩
   ·have := toNat_ofNat48 (show n ≤ 9 by omega)
    show 0 * 10 + ((UInt8.ofNat (48 + n)).toNat - 48) = n
    omega
   ·intro h0 e
    simp only [List.head?_cons, Option.some.injEq] at e
    have e2 := congrArg UInt8.toNat e
    rw [UInt8.toNat_ofNat_of_lt' (by simp [UInt8.size]; omega)] at e2
    have : (48 : UInt8).toNat = 48 := rfl
    omega
  ·obtain ⟨a1, a2, a3, a4, a5⟩ := ih (n / 10) (by omega)
   have hh : (dig (n / 10) ++ [UInt8.ofNat (48 + n % 10)]).head? = (dig (n / 10)).head? := by
    cases h : dig (n / 10) with
    | nil => rw [h] at a3; simp at a3
    | cons x r => rfl
   rw [dig_ge (by omega)]
   refine ⟨?_, ?_, by simp, ?_, ?_⟩
   ·rw [List.all_append, a1, List.all_cons, isDig_ofNat (show n % 10 ≤ 9 by omega)]; rfl
   ·rw [val_snoc, a2, toNat_ofNat48 (by omega)]; omega
   ·intro _; rw [hh]; exact a5 (by omega)
   ·intro _; rw [hh]; exact a5 (by omega)
theorem dig_length_le : ∀ (k n : Nat), n < 10 ^ (k + 1) → (dig n).length ≤ k + 1 := by
 intro k
 induction k with
 | zero => intro n h; rw [dig_lt (by simpa using h)]; simp
 | succ k ih =>
  intro n h
  by_cases h9 : n < 10
  ·rw [dig_lt h9]; simp
  ·rw [dig_ge (by omega)]
   have := ih (n / 10) (by rw [Nat.pow_succ] at h; omega)
   simp; omega
theorem digS_small (n : Int) (h : n.natAbs ≤ 9223372036854775808) : (digS n).size ≤ 21 := by
 have hl := dig_length_le 19 n.natAbs (by have : (10:Nat) ^ (19 + 1) = 100000000000000000000 := rfl; omega)
 rw [digS]; simp only [ByteArray.size, List.size_toArray]
 unfold digI; split
 ·simp only [List.length_cons]; omega
 ·omega
theorem dig_zero : dig 0 = [48] := dig_lt (by omega)
theorem readV_digI (n : Int) : readV (digI n) = if 0 ≤ n ∧ n ≤ 1000000000000 then some n.toNat else none := by
 by_cases h0 : n < 0
 ·rw [if_neg (by omega)]
  rw [readV, if_pos]
  refine Or.inr (Or.inr (Or.inr ?_))
  rw [digI, if_pos h0, List.all_cons]
  rfl
 ·obtain ⟨a1, a2, a3, a4, a5⟩ := dig_all n.natAbs n.natAbs (Nat.le_refl _)
  have e : digI n = dig n.natAbs := by rw [digI, if_neg h0]
  rw [e]
  by_cases h1 : n ≤ 1000000000000
  ·have hl := dig_length_le 12 n.natAbs (by have : (10:Nat) ^ (12 + 1) = 10000000000000 := rfl; omega)
   rw [if_pos (by omega), readV, if_neg, if_neg (by omega), a2]
   ·congr 1; omega
   ·intro h
    rcases h with h | h | h | h
    ·omega
    ·omega
    ·by_cases hz : n = 0
     ·subst hz
      have := h.1
      simp [dig_zero] at this
     ·exact a5 (by omega) h.2
    ·rw [a1] at h; cases h
  ·rw [if_neg (by omega), readV]
   split
   ·rfl
   ·rw [if_pos (by omega)]
end numMath
end Go.Proofs.Ytahcndkifplekaa
