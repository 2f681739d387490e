/- Plain mathematics of the variable-length encoding: groups of seven bits. -/
import Derived.WalkKit
import Derived.Laws.BitsAllLaws
import Derived.Laws.BytesArg
import Derived.Lib.AppendStr
import Derived.Laws.DeepNot64
namespace Go.Proofs.Ythihheklmhhjlaa.codMath
open Go.RowKit
set_option linter.unusedVariables false

/-- the encoding of n -/
def ue (n : Nat) : List Int := if n < 128 then [(n:Int)] else ((n % 128 + 128 : Nat) : Int) :: ue (n / 128)
termination_by n
decreasing_by omega
theorem ue_small {n : Nat} (h : n < 128) : ue n = [(n:Int)] := by rw [ue, if_pos h]
theorem ue_big {n : Nat} (h : ¬ n < 128) : ue n = ((n % 128 + 128 : Nat) : Int) :: ue (n / 128) := by rw [ue, if_neg h]
def vl : List Int → Nat
  | [] => 0
  | z :: t => (z % 128).toNat + 128 * vl t
def Hi (p : List Int) : Prop := ∀ x ∈ p, 128 ≤ x ∧ x < 256
theorem vl_snoc (p : List Int) (z : Int) : vl (p ++ [z]) = vl p + 128^p.length * (z % 128).toNat := by
  induction p with
  | nil => simp [vl]
  | cons x p ih =>
    simp only [List.cons_append, vl, ih, List.length_cons, Nat.pow_succ, Nat.mul_add]
    rw [Nat.mul_comm (128^p.length) 128, Nat.mul_assoc]; omega
theorem vl_lt (p : List Int) : vl p < 128^p.length := by
  induction p with
  | nil => simp [vl]
  | cons x p ih =>
    simp only [vl, List.length_cons, Nat.pow_succ]
    omega
theorem ue_form (n : Nat) : ∃ p z, ue n = p ++ [z] ∧ Hi p ∧ 0 ≤ z ∧ z < 128 ∧ (p = [] ∨ z ≠ 0) ∧ vl p + 128^p.length * z.toNat = n := by
  induction n using Nat.strongRecOn with
  | _ n ih =>
    by_cases h : n < 128
    · exact ⟨[], (n:Int), by rw [ue_small h]; rfl, by simp [Hi], by omega, by omega, Or.inl rfl, by simp [vl]⟩
    · obtain ⟨p, z, h1, h2, h3, h4, h5, h6⟩ := ih (n / 128) (by omega)
      refine ⟨((n % 128 + 128 : Nat) : Int) :: p, z, by rw [ue_big h, h1]; rfl, ?_, h3, h4, Or.inr ?_, ?_⟩
      · intro x hx
        rcases List.mem_cons.1 hx with rfl | hx
        · omega
        · exact h2 x hx
      · rcases h5 with rfl | h5
        · simp [vl] at h6; omega
        · exact h5
      · have e : ((((n % 128 + 128 : Nat) : Int)) % 128).toNat = n % 128 := by omega
        simp only [vl, List.length_cons, Nat.pow_succ, e]
        rw [Nat.mul_comm (128^p.length) 128, Nat.mul_assoc, Nat.add_assoc, ← Nat.mul_add, h6]
        omega
theorem ue_of (p : List Int) (z : Int) (hp : Hi p) (h0 : 0 ≤ z) (h1 : z < 128) (h : p = [] ∨ z ≠ 0) : ue (vl p + 128^p.length * z.toNat) = p ++ [z] := by
  induction p with
  | nil =>
    simp only [vl, List.length_nil, Nat.pow_zero, Nat.one_mul, Nat.zero_add]
    rw [ue_small (by omega), Int.toNat_of_nonneg h0]; rfl
  | cons x p ih =>
    have hz : z ≠ 0 := by rcases h with h | h; cases h; exact h
    have ih' := ih (fun y hy => hp y (List.mem_cons_of_mem _ hy)) (Or.inr hz)
    have hx := hp x (List.mem_cons_self ..)
    have hm : 0 < 128^p.length * z.toNat := Nat.mul_pos (Nat.pow_pos (by omega)) (by omega)
    have hx2 : (x % 128).toNat = x.toNat - 128 := by omega
    have e : vl (x :: p) + 128^(x :: p).length * z.toNat = (x.toNat - 128) + 128 * (vl p + 128^p.length * z.toNat) := by
      simp only [vl, List.length_cons, Nat.pow_succ, hx2]
      rw [Nat.mul_comm (128^p.length) 128, Nat.mul_assoc, Nat.mul_add, Nat.add_assoc]
    have hm2 : 0 < vl p + 128^p.length * z.toNat := by omega
    clear hm
    generalize vl p + 128^p.length * z.toNat = M at *
    rw [e, ue_big (by omega)]
    have e1 : (x.toNat - 128 + 128 * M) % 128 + 128 = x.toNat := by omega
    have e2 : (x.toNat - 128 + 128 * M) / 128 = M := by omega
    rw [e1, e2, ih', Int.toNat_of_nonneg (by omega)]
    rfl
theorem ue_len {n : Nat} (h : n < 18446744073709551616) : (ue n).length ≤ 10 := by
  obtain ⟨p, z, h1, h2, h3, h4, h5, h6⟩ := ue_form n
  rw [h1]
  simp only [List.length_append, List.length_cons, List.length_nil]
  rcases Nat.lt_or_ge p.length 10 with hl | hl
  · omega
  · exfalso
    have hz : 1 ≤ z.toNat := by
      rcases h5 with rfl | h5
      · simp at hl
      · omega
    have hp : 128^10 ≤ 128^p.length := Nat.pow_le_pow_right (by omega) hl
    have : 128^p.length * 1 ≤ 128^p.length * z.toNat := Nat.mul_le_mul_left _ hz
    have e : (128:Nat)^10 = 1180591620717411303424 := by decide
    omega
theorem ue_pos (n : Nat) : 0 < (ue n).length := by
  obtain ⟨p, z, h1, _⟩ := ue_form n
  rw [h1]; simp

/-- zs begins with the encoding of n, and t is behind it -/
def Dec (zs : List Int) (n : Nat) (t : List Int) : Prop := n < 18446744073709551616 ∧ zs = ue n ++ t
def NoDec (zs : List Int) : Prop := ∀ n t, ¬ Dec zs n t

/-- what a walk of the groups needs of an encoding -/
theorem dec_form {zs t : List Int} {n : Nat} (h : Dec zs n t) : ∃ p z, ue n = p ++ [z] ∧ zs = p ++ z :: t ∧ Hi p ∧ 0 ≤ z ∧ z < 128 ∧ (p = [] ∨ z ≠ 0) ∧ vl p + 128^p.length * z.toNat = n ∧ p.length ≤ 9 ∧ (p.length = 9 → z ≤ 1) := by
  obtain ⟨hn, hz⟩ := h
  obtain ⟨p, z, h1, h2, h3, h4, h5, h6⟩ := ue_form n
  have hl := ue_len hn
  rw [h1] at hl
  simp at hl
  refine ⟨p, z, h1, by rw [hz, h1]; simp, h2, h3, h4, h5, h6, hl, ?_⟩
  intro h9
  rw [h9] at h6
  have e : (128:Nat)^9 = 9223372036854775808 := by decide
  rw [e] at h6
  omega
theorem vl_bound (p : List Int) (z : Nat) (hz : z < 128) (hl : p.length ≤ 9) (h9 : p.length = 9 → z ≤ 1) : vl p + 128^p.length * z < 18446744073709551616 := by
  have hv := vl_lt p
  have e : (128:Nat)^9 = 9223372036854775808 := by decide
  rcases Nat.lt_or_ge p.length 9 with h | h
  · have : 128^p.length ≤ 128^8 := Nat.pow_le_pow_right (by omega) (by omega)
    have e8 : (128:Nat)^8 = 72057594037927936 := by decide
    have : 128^p.length * z ≤ 128^p.length * 127 := Nat.mul_le_mul_left _ (by omega)
    omega
  · have h9' : p.length = 9 := by omega
    have := h9 h9'
    rw [h9', e] at hv ⊢
    omega
theorem dec_at {zs : List Int} {j : Nat} (hj : j < zs.length) (hp : Hi (zs.take j)) (h0 : 0 ≤ zs.getD j 0) (h1 : zs.getD j 0 < 128) (hc : j = 0 ∨ zs.getD j 0 ≠ 0) (hl : j ≤ 9) (h9 : j = 9 → zs.getD j 0 ≤ 1) :
    Dec zs (vl (zs.take j) + 128^j * (zs.getD j 0).toNat) (zs.drop (j + 1)) := by
  have hlen : (zs.take j).length = j := by rw [List.length_take]; omega
  generalize hz : zs.getD j 0 = z at *
  have hu := ue_of (zs.take j) z hp h0 h1 (by rcases hc with rfl | h; exact Or.inl (by simp); exact Or.inr h)
  have hb := vl_bound (zs.take j) z.toNat (by omega) (by omega) (by intro h; have := h9 (by omega); omega)
  rw [hlen] at hu hb
  refine ⟨hb, ?_⟩
  rw [hu]
  have e : zs.drop j = z :: zs.drop (j + 1) := by
    rw [List.drop_eq_getElem_cons hj]
    congr 1
    rw [← hz]; simp [List.getD, hj]
  calc zs = zs.take j ++ zs.drop j := (List.take_append_drop ..).symm
    _ = _ := by rw [e]; simp
/-- the first byte below 128 is the encoding's last -/
theorem dec_last {zs t : List Int} {n j : Nat} (h : Dec zs n t) (hp : Hi (zs.take j)) (hj : j < zs.length) (h1 : zs.getD j 0 < 128) : ue n = zs.take (j + 1) ∧ t = zs.drop (j + 1) := by
  obtain ⟨p, z, h1', h2, h3, h4, h5, h6, h7, h8, h9⟩ := dec_form h
  have hpj : p.length = j := by
    rcases Nat.lt_trichotomy p.length j with hlt | heq | hgt
    · exfalso
      have hm : z ∈ zs.take j := by
        rw [h2, List.mem_take_iff_getElem]
        exact ⟨p.length, by simp; omega, by simp⟩
      have := hp z hm
      omega
    · exact heq
    · exfalso
      have : zs.getD j 0 ∈ p := by
        rw [h2]; simp [List.getD, List.getElem?_append_left hgt, hgt]
      have := h3 _ this
      omega
  subst hpj
  rw [h1', h2]
  constructor
  · simp [List.take_append, List.take_of_length_le]
  · simp [List.drop_append]
theorem nodec_low {zs : List Int} {j : Nat} (hj : j < zs.length) (hp : Hi (zs.take j)) (h1 : zs.getD j 0 < 128) (hb : (zs.getD j 0 = 0 ∧ 0 < j) ∨ (1 < zs.getD j 0 ∧ j = 9)) : NoDec zs := by
  intro n t h
  obtain ⟨p, z, h1', h2, h3, h4, h5, h6, h7, h8, h9⟩ := dec_form h
  have hl := (dec_last h hp hj h1).1
  have hlen := congrArg List.length hl
  rw [h1', List.length_take] at hlen
  simp at hlen
  have hz : zs.getD j 0 = z := by
    rw [h2, show j = p.length by omega]; simp [List.getD]
  rw [hz] at hb
  rcases hb with ⟨hb, hb2⟩ | ⟨hb, hb2⟩
  · rcases h6 with rfl | h6
    · simp at hlen; omega
    · omega
  · have := h9 (by omega)
    omega
theorem nodec_end {zs : List Int} {j : Nat} (hp : Hi (zs.take j)) (hj : j = zs.length ∨ 10 ≤ j) : NoDec zs := by
  intro n t h
  obtain ⟨p, z, h1', h2, h3, h4, h5, h6, h7, h8, h9⟩ := dec_form h
  have hm : z ∈ zs.take j := by
    rw [h2, List.mem_take_iff_getElem]
    refine ⟨p.length, ?_, by simp⟩
    simp
    rcases hj with hj | hj
    · have := congrArg List.length h2
      simp at this; omega
    · omega
  have := hp z hm
  omega
theorem dec_unique {zs t t' : List Int} {n n' : Nat} (h : Dec zs n t) (h' : Dec zs n' t') : n = n' ∧ t = t' := by
  obtain ⟨p, z, h1, h2, h3, h4, h5, h6, h7, h8, h9⟩ := dec_form h
  have hj : p.length < zs.length := by rw [h2]; simp
  have ht : zs.take p.length = p := by rw [h2]; simp
  have hz : zs.getD p.length 0 = z := by rw [h2]; simp [List.getD]
  have a := dec_last h (by rw [ht]; exact h3) hj (by rw [hz]; exact h5)
  have b := dec_last h' (by rw [ht]; exact h3) hj (by rw [hz]; exact h5)
  refine ⟨?_, by rw [a.2, b.2]⟩
  obtain ⟨p', z', k1, k2, k3, k4, k5, k6, k7, k8, k9⟩ := dec_form h'
  have e : p ++ [z] = p' ++ [z'] := by rw [← h1, ← k1, a.1, b.1]
  have e1 := List.append_inj' e rfl
  obtain ⟨rfl, e2⟩ := e1
  cases e2
  omega

/-! the program's words -/
theorem or_more (m : Nat) : bits .or .u8 ((m:Int) % 128) 128 = ((m % 128 + 128 : Nat) : Int) := by
  have h := u8_or_nat (m % 128) 128 (by omega) (by omega)
  have e : (m % 128) ||| 128 = m % 128 + 128 := by
    have := nat_join 7 128 (m % 128) (by decide) (Nat.mod_lt _ (by decide))
    rw [Nat.or_comm]; omega
  rw [e] at h
  exact_mod_cast h
/-- one round: the group z goes above the j groups before -/
theorem or_step (N z j : Nat) (hN : N < 128^j) (hj : j ≤ 9) (hz : z < 128) (h9 : j = 9 → z ≤ 1) :
    bits .or .u64 (N : Int) (IntKind.u64.wrap ((z : Int) * 2^(7*j))) = ((N + 128^j * z : Nat) : Int) := by
  have hp : (2:Nat)^(7*j) = 128^j := by rw [Nat.pow_mul]
  have hb : 128^j * z < 18446744073709551616 ∧ 128^j ≤ 9223372036854775808 := by
    have e : (128:Nat)^9 = 9223372036854775808 := by decide
    rcases Nat.lt_or_ge j 9 with h | h
    · have : 128^j ≤ 128^8 := Nat.pow_le_pow_right (by omega) (by omega)
      have e8 : (128:Nat)^8 = 72057594037927936 := by decide
      have : 128^j * z ≤ 128^j * 127 := Nat.mul_le_mul_left _ (by omega)
      omega
    · obtain rfl : j = 9 := by omega
      have := h9 rfl
      rw [e]; omega
  have hw : IntKind.u64.wrap ((z : Int) * 2^(7*j)) = ((128^j * z : Nat) : Int) := by
    have e : (z : Int) * 2^(7*j) = ((128^j * z : Nat) : Int) := by
      rw [← hp]; push_cast; rw [Int.mul_comm]
    rw [e, IntWalk.u64_in _ (by omega)]
  rw [hw, u64_or_nat _ _ (by omega) hb.1, Nat.or_comm, nat_join (7*j) (128^j * z) N (by rw [hp]; exact Nat.mul_mod_right _ _) (by rw [hp]; exact hN), Nat.add_comm]

theorem or_step' (N j : Nat) (x : Int) (hN : N < 128^j) (hj : j ≤ 9) (h0 : 0 ≤ x) (h9 : j = 9 → x % 128 ≤ 1) :
    bits .or .u64 (N : Int) (IntKind.u64.wrap (x % 128 * 2^(7*j))) = ((N + 128^j * (x % 128).toNat : Nat) : Int) := by
  have := or_step N (x % 128).toNat j hN hj (by omega) (by intro h; have := h9 h; omega)
  rw [Int.toNat_of_nonneg (by omega)] at this
  exact this
theorem vl_take (zs : List Int) (j : Nat) (hj : j < zs.length) : vl (zs.take (j + 1)) = vl (zs.take j) + 128^j * (zs.getD j 0 % 128).toNat := by
  have e : zs.take (j + 1) = zs.take j ++ [zs.getD j 0] := by
    rw [List.take_succ_eq_append_getElem hj]
    simp [List.getD, hj]
  rw [e, vl_snoc, List.length_take, Nat.min_eq_left (by omega)]
theorem vl_take_lt (zs : List Int) (j : Nat) (hj : j ≤ zs.length) : vl (zs.take j) < 128^j := by
  have := vl_lt (zs.take j)
  rwa [List.length_take, Nat.min_eq_left hj] at this
theorem hi_at {p t : List Int} {z : Int} {zs : List Int} (h : zs = p ++ z :: t) (hp : Hi p) {j : Nat} (hj : j < p.length) : 128 ≤ zs.getD j 0 ∧ zs.getD j 0 < 256 := by
  refine hp _ ?_
  rw [h]; simp [List.getD, List.getElem?_append_left hj, hj]
theorem low_at {p t : List Int} {z : Int} {zs : List Int} (h : zs = p ++ z :: t) {j : Nat} (hj : p.length = j) : zs.getD j 0 = z := by
  subst hj; rw [h]; simp [List.getD]
theorem hi_next {zs : List Int} {j : Nat} (hp : Hi (zs.take j)) (hj : j < zs.length) (h0 : 128 ≤ zs.getD j 0) (h1 : zs.getD j 0 < 256) : Hi (zs.take (j + 1)) := by
  intro x hx
  rw [List.take_succ_eq_append_getElem hj] at hx
  rcases List.mem_append.1 hx with hx | hx
  · exact hp x hx
  · simp at hx
    have e : zs.getD j 0 = zs[j] := by simp [List.getD, hj]
    rw [hx, ← e]; exact ⟨h0, h1⟩
theorem low_end {zs : List Int} {j : Nat} (hn : NoDec zs) (hp : Hi (zs.take j)) (hj : j < zs.length) (hl : j ≤ 9) (h0 : 0 ≤ zs.getD j 0) (h1 : zs.getD j 0 < 128) : (zs.getD j 0 = 0 ∧ 0 < j) ∨ (1 < zs.getD j 0 ∧ j = 9) := by
  rcases Classical.em (j = 0 ∨ zs.getD j 0 ≠ 0) with hc | hc
  · rcases Classical.em (j = 9 → zs.getD j 0 ≤ 1) with h9 | h9
    · exact absurd (dec_at hj hp h0 h1 hc hl h9) (hn _ _)
    · right; omega
  · left; omega
theorem or_any (N j : Nat) (x : Int) (hN : N < 18446744073709551616) (h0 : 0 ≤ x) :
    ∃ N' : Nat, N' < 18446744073709551616 ∧ bits .or .u64 (N : Int) (IntKind.u64.wrap (x * 2^(7*j))) = (N' : Int) := by
  have hw : ∃ y : Nat, y < 18446744073709551616 ∧ IntKind.u64.wrap (x * 2^(7*j)) = (y : Int) := by
    rw [IntKind.wrap_u64]
    exact ⟨(x * 2^(7*j) % 18446744073709551616).toNat, by omega, by omega⟩
  obtain ⟨y, hy, he⟩ := hw
  rw [he]
  exact ⟨N ||| y, Nat.or_lt_two_pow (n := 64) hN hy, u64_or_nat N y hN hy⟩
theorem and_low (x : Int) (h0 : 0 ≤ x) (h1 : x < 256) : bits .and .u8 x 127 = x % 128 := by
  rw [u8_and x 127 h0 h1 (by decide) (by decide)]
  have : (127 : Int).toNat = 127 := rfl
  rw [this, nat_mask7]
  omega
theorem str_inj {a b : List Int} (ha : ∀ x ∈ a, 0 ≤ x ∧ x < 256) (hb : ∀ x ∈ b, 0 ≤ x ∧ x < 256) (h : strOfNums a = strOfNums b) : a = b := by
  have h1 : (a.map fun n => UInt8.ofNat n.toNat) = b.map fun n => UInt8.ofNat n.toNat := by
    have := congrArg (fun s : ByteArray => s.data.toList) h
    simpa [strOfNums] using this
  have hl : a.length = b.length := by simpa using congrArg List.length h1
  apply List.ext_getElem hl
  intro i hi1 hi2
  have h2 : UInt8.ofNat a[i].toNat = UInt8.ofNat b[i].toNat := by
    have := congrArg (fun l : List UInt8 => l[i]?) h1
    simpa [hi1, hi2] using this
  have h3 := ha _ (List.getElem_mem hi1)
  have h4 := hb _ (List.getElem_mem hi2)
  have h5 := congrArg UInt8.toNat h2
  simp only [UInt8.toNat_ofNat'] at h5
  omega
theorem ue_bytes (n : Nat) : ∀ x ∈ ue n, 0 ≤ x ∧ x < 256 := by
  obtain ⟨p, z, h1, h2, h3, h4, _⟩ := ue_form n
  intro x hx
  rw [h1] at hx
  rcases List.mem_append.1 hx with hx | hx
  · have := h2 x hx; omega
  · simp at hx; omega
theorem take_bytes {zs : List Int} (h : ∀ i, 0 ≤ zs.getD i 0 ∧ zs.getD i 0 < 256) (k : Nat) : ∀ x ∈ zs.take k, 0 ≤ x ∧ x < 256 := by
  intro x hx
  obtain ⟨i, hi⟩ := List.getElem?_of_mem (List.mem_of_mem_take hx)
  have := h i
  rw [List.getD, hi] at this
  exact this
/-- the reference asks so whether the bytes are an encoding -/
theorem nodec_str {zs : List Int} (hn : NoDec zs) (hw : ∀ i, 0 ≤ zs.getD i 0 ∧ zs.getD i 0 < 256) (N k : Nat) (hN : N < 18446744073709551616) : ((strOfNums (ue N)).toList == (strOfNums (zs.take k)).toList) = false := by
  cases h : ((strOfNums (ue N)).toList == (strOfNums (zs.take k)).toList) with
  | false => rfl
  | true =>
    exfalso
    have h1 := eq_of_beq h
    rw [ByteArray.toList_eq, ByteArray.toList_eq] at h1
    have h2 : strOfNums (ue N) = strOfNums (zs.take k) := by
      have h3 : (strOfNums (ue N)).data = (strOfNums (zs.take k)).data := Array.toList_inj.1 h1
      cases hx : strOfNums (ue N); cases hy : strOfNums (zs.take k)
      rw [hx, hy] at h3
      simp at h3
      rw [h3]
    have e := str_inj (ue_bytes N) (take_bytes hw k) h2
    exact hn N (zs.drop k) ⟨hN, by rw [e, List.take_append_drop]⟩
theorem nat_not64 (x : Nat) (h : x < 18446744073709551616) : 18446744073709551615 ^^^ x = 18446744073709551615 - x := by
  have e : (18446744073709551615 : Nat) - x = 2^64 - (x + 1) := by omega
  have e1 : (18446744073709551615 : Nat) = 2^64 - 1 := by decide
  rw [e]
  apply Nat.eq_of_testBit_eq
  intro i
  rw [Nat.testBit_two_pow_sub_succ (show x < 2^64 from h), Nat.testBit_xor, e1, Nat.testBit_two_pow_sub_one]
  by_cases hi : i < 64
  · simp [hi]
  · have hx : x.testBit i = false := Nat.testBit_lt_two_pow (Nat.lt_of_lt_of_le (show x < 2^64 from h) (Nat.pow_le_pow_right (by decide) (by omega)))
    simp [hi, hx]
theorem u64_not (x : Int) (h0 : 0 ≤ x) (h : x < 18446744073709551616) : bits .xor .u64 IntKind.u64.max x = 18446744073709551615 - x := by
  obtain ⟨n, rfl⟩ := Int.eq_ofNat_of_zero_le h0
  have e : IntKind.u64.max = ((18446744073709551615 : Nat) : Int) := by decide
  rw [e, u64_xor_nat _ _ (by omega) (by omega), nat_not64 n (by omega)]
  omega
/-- a signed number's unsigned number -/
def fo (m : Int) : Nat := if m < 0 then (-2 * m - 1).toNat else (2 * m).toNat
def uf (n : Nat) : Int := if n % 2 = 1 then -((n / 2 : Nat) : Int) - 1 else ((n / 2 : Nat) : Int)
theorem fo_lt {m : Int} (h : -9223372036854775808 ≤ m ∧ m ≤ 9223372036854775807) : fo m < 18446744073709551616 := by
  unfold fo; split <;> omega
theorem uf_fo (m : Int) : uf (fo m) = m := by
  unfold fo uf; split <;> split <;> omega
def sb (s : ByteArray) : List Int := s.data.toList.map fun b => (b.toNat : Int)
theorem sb_str (s : ByteArray) : strOfNums (sb s) = s := by
  unfold strOfNums sb
  rw [List.map_map]
  have : (s.data.toList.map ((fun n : Int => UInt8.ofNat n.toNat) ∘ fun b : UInt8 => (b.toNat : Int))) = s.data.toList := by
    rw [List.map_congr_left (g := id) (fun a _ => by simp)]
    simp
  rw [this]
theorem sb_len (s : ByteArray) : (sb s).length = s.size := by
  unfold sb
  rw [List.length_map, Array.length_toList]
  rfl
theorem sb_cells (s : ByteArray) : Lib.strCells s = (sb s).map (Value.int .u8) := by
  unfold Lib.strCells sb
  rw [List.map_map]
  rfl
end Go.Proofs.Ythihheklmhhjlaa.codMath
