/- What LexBack wants, part 11. -/
import Derived.Test.YtahcndkifplekaaLexBackJ
import Derived.Shelf.Strings.FuncGrows
set_option linter.unusedVariables false
namespace Go.Proofs.Ytahcndkifplekaa
namespace lx
set_option maxRecDepth 100000
open ly
def clsB (p : Nat → Bool) (v : Bool) (c : Int) : Bool := if c < 128 then p c.toNat else v
theorem dec_low {s : ByteArray} {pos : Nat} (hb : (s.get! pos).toNat < 128) : Utf8.decode s pos = ((s.get! pos).toNat, 1) := by
 unfold Utf8.decode
 simp only [Nat.add_zero]
 rw [if_pos hb]
theorem dec_high {s : ByteArray} {pos : Nat} (hp : pos < s.size) (hb : 128 ≤ (s.get! pos).toNat) :
  128 ≤ (Utf8.decode s pos).1 ∧ 1 ≤ (Utf8.decode s pos).2 ∧ ∀ k, k < (Utf8.decode s pos).2 → pos + k < s.size ∧ 128 ≤ (s.get! (pos + k)).toNat := by
 have one : ∀ k, k < 1 → pos + k < s.size ∧ 128 ≤ (s.get! (pos + k)).toNat := fun k hk => by
  obtain rfl : k = 0 := by omega
  exact ⟨hp, hb⟩
 have bad : 128 ≤ (Utf8.runeError, 1).1 ∧ 1 ≤ (Utf8.runeError, 1).2 ∧ ∀ k, k < (Utf8.runeError, 1).2 → pos + k < s.size ∧ 128 ≤ (s.get! (pos + k)).toNat := ⟨by decide, by decide, one⟩
 have co : ∀ k, (decide (pos + k < s.size) && (s.get! (pos + k)).toNat / 64 == 2) = true → pos + k < s.size ∧ 128 ≤ (s.get! (pos + k)).toNat := fun k h => by
  rw [Bool.and_eq_true, decide_eq_true_eq, beq_iff_eq] at h
  exact ⟨h.1, by have := h.2; omega⟩
 unfold Utf8.decode
 simp only [Nat.add_zero]
 rw [if_neg (by omega)]
 split
 ·rename_i h1
  rw [Bool.and_eq_true] at h1
  split
  ·rename_i h2
   refine ⟨h2, by omega, fun k hk => ?_⟩
   match k, hk with
   | 0, _ => exact ⟨hp, hb⟩
   | 1, _ => exact co 1 h1.2
  ·exact bad
 ·split
  ·rename_i h1
   rw [Bool.and_eq_true, Bool.and_eq_true] at h1
   split
   ·rename_i h2
    rw [Bool.and_eq_true, decide_eq_true_eq] at h2
    refine ⟨by have := h2.1; omega, by omega, fun k hk => ?_⟩
    match k, hk with
    | 0, _ => exact ⟨hp, hb⟩
    | 1, _ => exact co 1 h1.1.2
    | 2, _ => exact co 2 h1.2
   ·exact bad
  ·split
   ·rename_i h1
    rw [Bool.and_eq_true, Bool.and_eq_true, Bool.and_eq_true] at h1
    split
    ·rename_i h2
     rw [Bool.and_eq_true, decide_eq_true_eq] at h2
     refine ⟨by have := h2.1; omega, by omega, fun k hk => ?_⟩
     match k, hk with
     | 0, _ => exact ⟨hp, hb⟩
     | 1, _ => exact co 1 h1.1.1.2
     | 2, _ => exact co 2 h1.1.2
     | 3, _ => exact co 3 h1.2
    ·exact bad
   ·exact bad
theorem get_bys {s : ByteArray} {i : Nat} (h : i < s.size) : (bys s)[i]? = some ((s.get! i).toNat : Int) := by
 unfold bys
 have h2 : i < s.data.size := h
 rw [List.getElem?_map, Array.getElem?_toList, Array.getElem?_eq_getElem h2]
 simp only [Option.map_some, ByteArray.get!]
 rw [getElem!_pos s.data i h2]
theorem drop_bys {s : ByteArray} {i : Nat} (h : i < s.size) : (bys s).drop i = ((s.get! i).toNat : Int) :: (bys s).drop (i + 1) := by
 have hl : i < (bys s).length := by rw [bys_len]; exact h
 rw [List.drop_eq_getElem_cons hl]
 congr 1
 have := get_bys h
 rw [List.getElem?_eq_getElem hl] at this
 exact Option.some.inj this
theorem drop_more {q : Int → Bool} {s : ByteArray} : ∀ (k pos : Nat), (∀ j, j < k → pos + j < s.size ∧ q ((s.get! (pos + j)).toNat : Int) = true) → ((bys s).drop pos).dropWhile q = ((bys s).drop (pos + k)).dropWhile q
 | 0, _, _ => rfl
 | k + 1, pos, h => by
  have h0 := h 0 (by omega)
  rw [Nat.add_zero] at h0
  rw [drop_bys h0.1, List.dropWhile_cons, if_pos h0.2, drop_more k (pos + 1) fun j hj => by
   have := h (j + 1) (by omega)
   rw [show pos + (j + 1) = pos + 1 + j by omega] at this
   exact this]
  congr 2
  omega
theorem idx_from {p : Nat → Bool} {v : Bool} (hv : ∀ x, 128 ≤ x → p x = v) {s : ByteArray} : ∀ (f pos : Nat), pos ≤ s.size → s.size ≤ pos + f →
  Lib.idxFuncFrom p false s f pos = if ((bys s).drop pos).dropWhile (clsB p v) = [] then -1 else ((s.size - (((bys s).drop pos).dropWhile (clsB p v)).length : Nat) : Int)
 | 0, pos, h1, h2 => by
  have : (bys s).drop pos = [] := List.drop_eq_nil_of_le (by rw [bys_len]; omega)
  rw [this]; rfl
 | f + 1, pos, h1, h2 => by
  rw [Lib.idxFuncFrom]
  by_cases hp : pos < s.size
  ·rw [if_pos hp]
   have hlen : ((bys s).drop pos).length = s.size - pos := by rw [List.length_drop, bys_len]
   have stop : clsB p v ((s.get! pos).toNat : Int) = false → ((pos : Nat) : Int) = if ((bys s).drop pos).dropWhile (clsB p v) = [] then -1 else ((s.size - (((bys s).drop pos).dropWhile (clsB p v)).length : Nat) : Int) := fun h => by
    have e : ((bys s).drop pos).dropWhile (clsB p v) = (bys s).drop pos := by
     rw [drop_bys hp, List.dropWhile_cons, if_neg (by rw [h]; decide)]
    rw [e, if_neg (by rw [drop_bys hp]; exact List.cons_ne_nil _ _), hlen, show s.size - (s.size - pos) = pos by omega]
   by_cases hb : (s.get! pos).toNat < 128
   ·rw [dec_low hb]
    have hc : clsB p v ((s.get! pos).toNat : Int) = p (s.get! pos).toNat := by rw [clsB, if_pos (by omega)]; rfl
    cases hq : p (s.get! pos).toNat with
    | false =>
     rw [if_pos rfl]
     exact stop (by rw [hc, hq])
    | true =>
     have e := drop_more (q := clsB p v) (s := s) 1 pos fun j hj => by
      obtain rfl : j = 0 := by omega
      exact ⟨hp, by rw [Nat.add_zero, hc, hq]⟩
     rw [if_neg (by decide), idx_from hv f (pos + 1) (by omega) (by omega), e]
   ·obtain ⟨d1, d2, d3⟩ := dec_high hp (by omega)
    have hc : ∀ c : Nat, 128 ≤ c → clsB p v (c : Int) = v := fun c h => by rw [clsB, if_neg (by omega)]
    rw [hv _ d1]
    cases hvv : v with
    | false =>
     rw [if_pos rfl]
     rw [← hvv]
     exact stop (by rw [hc _ (by omega), hvv])
    | true =>
     rw [if_neg (by decide)]
     rw [← hvv]
     have hle : pos + (Utf8.decode s pos).2 ≤ s.size := by
      have := (d3 ((Utf8.decode s pos).2 - 1) (by omega)).1
      omega
     have e := drop_more (q := clsB p v) (s := s) (Utf8.decode s pos).2 pos fun j hj => ⟨(d3 j hj).1, by rw [hc _ (d3 j hj).2, hvv]⟩
     rw [idx_from hv f (pos + (Utf8.decode s pos).2) hle (by omega), e]
  ·rw [if_neg hp]
   have : (bys s).drop pos = [] := List.drop_eq_nil_of_le (by rw [bys_len]; omega)
   rw [this]; rfl
theorem bys_extract (R : ByteArray) {n : Nat} (h : n ≤ R.size) : bys (R.extract n R.size) = (bys R).drop n := by
 unfold bys
 rw [ByteArray.data_extract, Array.toList_extract, List.extract_eq_take_drop, ← List.map_drop, List.take_of_length_le]
 rw [List.length_drop]
 have : R.data.toList.length = R.size := Array.length_toList
 omega
theorem trim_is {p : Nat → Bool} {v : Bool} (hv : ∀ x, 128 ≤ x → p x = v) (s : ByteArray) : bys (Lib.trimLeftF p s) = (bys s).dropWhile (clsB p v) := by
 have h := idx_from hv (s := s) s.size 0 (by omega) (by omega)
 rw [List.drop_zero] at h
 have hs := List.dropWhile_suffix (l := bys s) (clsB p v)
 have hl := hs.length_le
 rw [bys_len] at hl
 rw [Lib.trimLeftF, show Lib.idxFunc p false s = _ from h]
 by_cases he : (bys s).dropWhile (clsB p v) = []
 ·rw [if_pos he, if_pos rfl, he]; rfl
 ·rw [if_neg he, if_neg (by omega), Int.toNat_natCast, bys_extract s (by omega)]
  obtain ⟨t, ht⟩ := hs
  have : s.size - ((bys s).dropWhile (clsB p v)).length = t.length := by
   have := congrArg List.length ht
   rw [List.length_append, bys_len] at this
   omega
  rw [this]
  conv => lhs; rw [← ht, List.drop_left]
end lx
end Go.Proofs.Ytahcndkifplekaa
