/- What PathBack wants, part 12. -/
import Derived.Test.YtpfpibmnhnjpmaaDoorPathBackB
import Derived.Test.YtpfpibmnhnjpmaaDoorPathBackD
import Derived.Test.YtpfpibmnhnjpmaaDoorPathBackE
import Derived.Test.YtpfpibmnhnjpmaaDoorPathBackG
import Derived.Test.YtpfpibmnhnjpmaaDoorPathBackI
import Derived.Test.YtpfpibmnhnjpmaaDoorPathBackK
import Derived.Outline
import Derived.Laws.BytesArg
import Derived.Deep.DrawnRows
/- Plain mathematics of the on-disk format: names, inodes, entries and their sectors. -/
namespace Go.Proofs.YtpfpibmnhnjpmaaDoor.ly
set_option maxRecDepth 100000
open Go.RowKit
open Go.Proofs.YtpfpibmnhnjpmaaDoor.rows
open Go.Proofs.YtpfpibmnhnjpmaaDoor.sec
open Go.Proofs.YtpfpibmnhnjpmaaDoor.dsk (wf64)
set_option linter.unusedVariables false

/-! names -/
def bys (s : ByteArray) : List Int := s.data.toList.map fun c => (c.toNat : Int)
def inNm (c : Int) : Bool := decide (97 ≤ c) && decide (c ≤ 122) || (decide (48 ≤ c) && decide (c ≤ 57)) || c == 46 || c == 95
def nameB (s : ByteArray) : Bool := decide (1 ≤ s.size) && decide (s.size ≤ 8) && !(bys s == [46]) && !(bys s == [46, 46]) && (bys s).all inNm
theorem bys_len (s : ByteArray) : (bys s).length = s.size := by simp [bys]
theorem bys_at (s : ByteArray) (k : Nat) (h : k < s.size) : (bys s)[k]? = some (s[k].toNat : Int) := by
  simp [bys, h]; rfl
theorem bys_bytes (s : ByteArray) : ∀ x ∈ bys s, 0 ≤ x ∧ x < 256 := by
  intro x hx
  obtain ⟨c, _, rfl⟩ := List.mem_map.1 hx
  have := c.toNat_lt
  omega
theorem bys_inj {s t : ByteArray} (h : bys s = bys t) : s = t := by
  have h2 : s.data.toList = t.data.toList := by
    have hi : Function.Injective (fun c : UInt8 => (c.toNat : Int)) := fun a b hab => by
      have : (a.toNat : Int) = (b.toNat : Int) := hab
      exact UInt8.toNat_inj.1 (by omega)
    exact (List.map_inj_right (fun a b hab => hi hab)).1 h
  cases s; cases t
  simp only [ByteArray.mk.injEq]
  exact Array.toList_inj.1 h2
theorem bys_lit (s : ByteArray) (l : List UInt8) : s.toList = l ↔ bys s = l.map fun c => (c.toNat : Int) := by
  have hi : Function.Injective (fun c : UInt8 => (c.toNat : Int)) := fun a b hab => by
    have : (a.toNat : Int) = (b.toNat : Int) := hab
    exact UInt8.toNat_inj.1 (by omega)
  rw [ByteArray.toList_eq]
  exact (List.map_inj_right (fun a b hab => hi hab)).symm
theorem dot1 (s : ByteArray) : s.toList = [46] ↔ bys s = [46] := bys_lit s [46]
theorem dot2 (s : ByteArray) : s.toList = [46, 46] ↔ bys s = [46, 46] := bys_lit s [46, 46]
theorem bys_strOf {xs : List Int} (h : ∀ x ∈ xs, 0 ≤ x ∧ x < 256) : bys (strOfNums xs) = xs := by
  rw [bys, strOfNums_data, List.map_map]
  conv => rhs; rw [← List.map_id xs]
  apply List.map_congr_left
  intro x hx
  have := h x hx
  simp
  omega
theorem strOf_bys (s : ByteArray) : strOfNums (bys s) = s := bys_inj (bys_strOf (bys_bytes s))
/-- the first k characters are a name's -/
def nmUpto (s : ByteArray) (k : Nat) : Bool := ((bys s).take k).all inNm
theorem nmUpto_succ (s : ByteArray) (k : Nat) (h : k < s.size) : nmUpto s (k + 1) = (nmUpto s k && inNm (s[k].toNat : Int)) := by
  have e : (bys s).take (k + 1) = (bys s).take k ++ [(s[k].toNat : Int)] := by
    rw [List.take_add_one, bys_at s k h]; rfl
  rw [nmUpto, e, List.all_append]
  simp [nmUpto]
theorem nmUpto_all (s : ByteArray) : nmUpto s s.size = (bys s).all inNm := by
  rw [nmUpto, List.take_of_length_le (by rw [bys_len]; exact Nat.le_refl _)]
theorem nmUpto_false {s : ByteArray} {k : Nat} (h : nmUpto s k = false) : (bys s).all inNm = false := by
  rw [← List.take_append_drop k (bys s), List.all_append]
  rw [nmUpto] at h
  rw [h]; rfl
theorem nameB_no {s : ByteArray} (h : s.size < 1 ∨ 8 < s.size ∨ s.toList = [46] ∨ s.toList = [46, 46] ∨ (bys s).all inNm = false) : nameB s = false := by
  rw [dot1, dot2] at h
  unfold nameB
  rcases h with h | h | h | h | h
  · simp [show ¬ 1 ≤ s.size by omega]
  · simp [show ¬ s.size ≤ 8 by omega]
  · simp [h]
  · simp [h]
  · simp [h]
theorem nameB_yes {s : ByteArray} (h1 : 1 ≤ s.size) (h2 : s.size ≤ 8) (h3 : s.toList ≠ [46]) (h4 : s.toList ≠ [46, 46]) (h5 : nmUpto s s.size = true) : nameB s = true := by
  rw [ne_eq, dot1] at h3
  rw [ne_eq, dot2] at h4
  rw [nmUpto_all] at h5
  unfold nameB
  simp [h1, h2, h3, h4, h5]
end Go.Proofs.YtpfpibmnhnjpmaaDoor.ly
/- Plain mathematics of paths: their names, and names joined. -/
namespace Go.Proofs.YtpfpibmnhnjpmaaDoor.pa
set_option maxRecDepth 100000
open Go.RowKit
open Go.Proofs.YtpfpibmnhnjpmaaDoor.ly
set_option linter.unusedVariables false

def isNm (l : List Int) : Bool := decide (1 ≤ l.length) && decide (l.length ≤ 8) && !(l == [46]) && !(l == [46, 46]) && l.all inNm
theorem nameB_bys (s : ByteArray) : nameB s = isNm (bys s) := by rw [nameB, isNm, bys_len]
theorem isNm_len {l : List Int} (h : isNm l = true) : 1 ≤ l.length ∧ l.length ≤ 8 := by
  unfold isNm at h
  simp only [Bool.and_eq_true, decide_eq_true_eq] at h
  exact ⟨h.1.1.1.1, h.1.1.1.2⟩
theorem isNm_all {l : List Int} (h : isNm l = true) : ∀ x ∈ l, x ≠ 47 := by
  unfold isNm at h
  rw [Bool.and_eq_true] at h
  intro x hx h47
  have := List.all_eq_true.1 h.2 x hx
  rw [h47] at this
  exact absurd this (by decide)
/-- up to the next slash -/
def seg (l : List Int) : List Int := l.takeWhile fun x => x != 47
theorem seg_le (l : List Int) : (seg l).length ≤ l.length := (List.takeWhile_prefix _).length_le
def parse (l : List Int) : Option (List (List Int)) :=
  match l with
  | [] => some []
  | c :: t => if c = 47 ∧ isNm (seg t) = true then (parse (t.drop (seg t).length)).map (seg t :: ·) else none
termination_by l.length
decreasing_by simp; omega
theorem parse_nil : parse [] = some [] := by rw [parse]
theorem parse_cons (c : Int) (t : List Int) : parse (c :: t) = if c = 47 ∧ isNm (seg t) = true then (parse (t.drop (seg t).length)).map (seg t :: ·) else none := by rw [parse]
theorem parse_bad {c : Int} (t : List Int) (h : c ≠ 47) : parse (c :: t) = none := by rw [parse_cons, if_neg (fun hh => h hh.1)]
theorem parse_noname {c : Int} {t : List Int} (h : isNm (seg t) = false) : parse (c :: t) = none := by rw [parse_cons, if_neg (fun hh => by rw [h] at hh; exact absurd hh.2 (by decide))]
theorem parse_good {t : List Int} (h : isNm (seg t) = true) : parse (47 :: t) = (parse (t.drop (seg t).length)).map (seg t :: ·) := by rw [parse_cons, if_pos ⟨rfl, h⟩]
theorem seg_app {a b : List Int} (h : ∀ x ∈ a, x ≠ 47) (hb : b = [] ∨ ∃ t, b = 47 :: t) : seg (a ++ b) = a := by
  unfold seg
  rw [List.takeWhile_append_of_pos (fun x hx => by simpa using h x hx)]
  rcases hb with rfl | ⟨t, rfl⟩
  · simp
  · simp
/-- names joined -/
def joinL (ns : List (List Int)) : List Int := (ns.map fun n => 47 :: n).flatten
theorem joinL_cons (n : List Int) (ns : List (List Int)) : joinL (n :: ns) = 47 :: (n ++ joinL ns) := by simp [joinL]
theorem joinL_head (ns : List (List Int)) : joinL ns = [] ∨ ∃ t, joinL ns = 47 :: t := by
  cases ns with
  | nil => exact Or.inl rfl
  | cons n ns => exact Or.inr ⟨_, joinL_cons n ns⟩
theorem parse_join : ∀ (ns : List (List Int)), (∀ n ∈ ns, isNm n = true) → parse (joinL ns) = some ns
  | [], _ => parse_nil
  | n :: ns, h => by
    have hn := h n (List.mem_cons_self ..)
    have e : seg (n ++ joinL ns) = n := seg_app (isNm_all hn) (joinL_head ns)
    rw [joinL_cons, parse_good (by rw [e]; exact hn), e, List.drop_left, parse_join ns (fun x hx => h x (List.mem_cons_of_mem _ hx))]
    rfl
theorem join_parse : ∀ (k : Nat) (l : List Int) (ns : List (List Int)), l.length ≤ k → parse l = some ns → joinL ns = l ∧ ∀ n ∈ ns, isNm n = true
  | k, [], ns, _, h => by
    rw [parse_nil] at h
    cases h
    exact ⟨rfl, by simp⟩
  | 0, c :: t, ns, hk, _ => by simp at hk
  | k + 1, c :: t, ns, hk, h => by
    rw [parse_cons] at h
    split at h
    · rename_i hc
      obtain ⟨rfl, hn⟩ := hc
      cases hp : parse (t.drop (seg t).length) with
      | none => rw [hp] at h; cases h
      | some ms =>
        rw [hp] at h
        cases h
        obtain ⟨i1, i2⟩ := join_parse k (t.drop (seg t).length) ms (by simp at hk ⊢; omega) hp
        refine ⟨?_, fun n hn' => ?_⟩
        · rw [joinL_cons, i1]
          congr 1
          have : seg t ++ t.drop (seg t).length = t := by
            have h1 : seg t = t.take (seg t).length := by
              unfold seg
              exact (List.prefix_iff_eq_take.1 (List.takeWhile_prefix _))
            conv => lhs; lhs; rw [h1]
            exact List.take_append_drop _ _
          exact this
        · rcases List.mem_cons.1 hn' with rfl | h2
          · exact hn
          · exact i2 n h2
    · cases h
/-- a path's names, if it is one -/
def splitL (l : List Int) : Option (List (List Int)) :=
  if l = [47] then some [] else match parse l with
    | some ns => if 1 ≤ ns.length ∧ ns.length ≤ 4 then some ns else none
    | none => none
def nms (l : List Int) : List (List Int) := (splitL l).getD []
def errS (l : List Int) : Int := if (splitL l).isSome then 0 else 9
theorem splitL_root : splitL [47] = some [] := by rw [splitL, if_pos rfl]
theorem splitL_none {l : List Int} (h : l ≠ [47]) (hp : parse l = none) : splitL l = none := by rw [splitL, if_neg h, hp]
theorem splitL_some {l : List Int} {ns : List (List Int)} (h : l ≠ [47]) (hp : parse l = some ns) : splitL l = if 1 ≤ ns.length ∧ ns.length ≤ 4 then some ns else none := by rw [splitL, if_neg h, hp]
def joinP (ns : List (List Int)) : List Int := if ns = [] then [47] else joinL ns
/-- Split inverts Join -/
theorem split_join {ns : List (List Int)} (h : ∀ n ∈ ns, isNm n = true) (hl : ns.length ≤ 4) : splitL (joinP ns) = some ns := by
  unfold joinP
  split
  · rename_i h0
    rw [h0]
    exact splitL_root
  · rename_i h0
    have hne : joinL ns ≠ [47] := by
      intro e
      cases ns with
      | nil => exact h0 rfl
      | cons n ns =>
        rw [joinL_cons] at e
        have h1 := congrArg List.length e
        have := (isNm_len (h n (List.mem_cons_self ..))).1
        simp only [List.length_cons, List.length_append, List.length_nil] at h1
        omega
    have h1 : 1 ≤ ns.length := by
      cases ns with
      | nil => exact absurd rfl h0
      | cons n ns => simp
    rw [splitL_some hne (parse_join ns h), if_pos ⟨h1, hl⟩]
/-- Join inverts Split -/
theorem join_split {l : List Int} {ns : List (List Int)} (h : splitL l = some ns) : joinP ns = l ∧ (∀ n ∈ ns, isNm n = true) ∧ ns.length ≤ 4 ∧ (ns = [] → l = [47]) := by
  unfold splitL at h
  split at h
  · rename_i h0
    cases h
    exact ⟨by rw [joinP, if_pos rfl, h0], by simp, by simp, fun _ => h0⟩
  · rename_i h0
    cases hp : parse l with
    | none => rw [hp] at h; cases h
    | some ms =>
      rw [hp] at h
      simp only at h
      split at h
      · rename_i hl
        cases h
        obtain ⟨i1, i2⟩ := join_parse l.length l ns (Nat.le_refl _) hp
        have hne : ns ≠ [] := by rintro rfl; simp at hl
        exact ⟨by rw [joinP, if_neg hne, i1], i2, hl.2, fun h => absurd h hne⟩
      · cases h
end Go.Proofs.YtpfpibmnhnjpmaaDoor.pa
/- What Name, the code's and the reference's, gives. -/
namespace Go.Proofs.YtpfpibmnhnjpmaaDoor.ly
set_option maxRecDepth 100000
open Go.ChangeShapes Go.WideShapes Go.ChangeAt Go.RowKit
open Go.Proofs.YtpfpibmnhnjpmaaDoor.rows
open Go.Proofs.YtpfpibmnhnjpmaaDoor.sec
set_option linter.unusedVariables false

theorem inName_any (c : UInt8) (w : World) :
    Calls Tryd.prog 25 #[.int .u8 (c.toNat : Int)] w fun e w' => e = .returned (.bool (inNm (c.toNat : Int))) ∧ w = w' := by
  go_enter Tryd.func25, Tryd.ntmps25
  go_wp2
  all_goals go_ret
  all_goals
    refine ⟨ret_bool ?_, rfl⟩
    unfold inNm
    rw [Bool.eq_iff_iff]
    simp
    try omega
theorem name_any (s : ByteArray) (w : World) (hm : s.size ≤ maxLen) :
    Calls Tryd.prog 19 #[.string s] w fun e w' => e = .returned (.bool (nameB s)) ∧ w = w' := by
  unfold maxLen at hm
  by_cases ha : s.size < 1 ∨ 8 < s.size ∨ s.toList = [46] ∨ s.toList = [46, 46]
  · have HN := Lib.hid (nameB_no (s := s) (by rcases ha with h | h | h | h <;> simp [h]))
    go_enter Tryd.func19, Tryd.ntmps19
    go_wp2
    all_goals first | (go_ret; exact ⟨ret_bool HN.out.symm, rfl⟩) | skip
    all_goals (exfalso; rcases ha with h | h | h | h <;> first | omega | simp_all)
  · have h1 : 1 ≤ s.size := by omega
    have h2 : s.size ≤ 8 := by omega
    have h3 : ¬ s.toList = [46] := fun h => ha (by simp [h])
    have h4 : ¬ s.toList = [46, 46] := fun h => ha (by simp [h])
    have HY := Lib.hid (nameB_yes h1 h2 h3 h4)
    have g3 : (s.toList == [46]) = false := by simpa using h3
    have g4 : (s.toList == [46, 46]) = false := by simpa using h4
    have g1 : (1 : Int) ≤ s.size := by omega
    have g2 : (s.size : Int) ≤ 8 := by omega
    have hne : ¬ s = ByteArray.empty := by rintro rfl; simp at h1
    clear ha h3 h4
    go_enter Tryd.func19, Tryd.ntmps19
    go_wp2
    go_loop [3, 22] (fun x i => ∃ k : Nat, k ≤ s.size ∧ i = .int .i64 (k : Int) ∧ nmUpto s k = true) (fun _ i => s.size - (intOf i).toNat)
    case atStart => exact ⟨0, by omega, rfl, rfl⟩
    case round =>
      obtain ⟨k, hk, rfl, hu⟩ := hrel
      have HU := Lib.hid hu
      clear hu
      by_cases hlt : k < s.size
      · have hlti : (k : Int) < s.size := by omega
        have HS := Lib.hid (nmUpto_succ s k hlt)
        cases hc : inNm (s[k].toNat : Int) with
        | true =>
          have HC := Lib.hid hc
          clear hc
          go_wp2_with (go_at_call 25; refine (inName_any s[k] _).mono ?_; rw [HC.out]; rintro e w1 ⟨rfl, rfl⟩)
          go_round
          case rel => exact ⟨k + 1, by omega, by go_num, by rw [HS.out, HU.out, HC.out]; rfl⟩
          case measure => simp [intOf]; omega
        | false =>
          have HC := Lib.hid hc
          clear hc
          have HN := Lib.hid (nameB_no (s := s) (by right; right; right; right; exact nmUpto_false (k := k + 1) (by rw [HS.out, HC.out]; simp)))
          go_wp2_with (go_at_call 25; refine (inName_any s[k] _).mono ?_; rw [HC.out]; rintro e w1 ⟨rfl, rfl⟩)
          go_ret
          exact ⟨ret_bool HN.out.symm, rfl⟩
      · obtain rfl : k = s.size := by omega
        go_wp2
        go_ret
        exact ⟨ret_bool (HY.out HU.out).symm, rfl⟩
theorem inNm_iff (c : Int) : inNm c = true ↔ (97 ≤ c ∧ c ≤ 122) ∨ (48 ≤ c ∧ c ≤ 57) ∨ c = 46 ∨ c = 95 := by
  unfold inNm
  simp [or_assoc]
theorem rname_any (s : ByteArray) (w : World) (hm : s.size ≤ maxLen) :
    Calls Tryd.prog 16 #[.string s] w fun e w' => e = .returned (.bool (nameB s)) ∧ w = w' := by
  unfold maxLen at hm
  by_cases ha : s.size < 1 ∨ 8 < s.size ∨ s.toList = [46] ∨ s.toList = [46, 46]
  · have HN := Lib.hid (nameB_no (s := s) (by rcases ha with h | h | h | h <;> simp [h]))
    go_enter Tryd.func16, Tryd.ntmps16
    go_wp2
    all_goals first | (go_ret; exact ⟨ret_bool HN.out.symm, rfl⟩) | skip
    all_goals (exfalso; rcases ha with h | h | h | h <;> first | omega | simp_all)
  · have h1 : 1 ≤ s.size := by omega
    have h2 : s.size ≤ 8 := by omega
    have h3 : ¬ s.toList = [46] := fun h => ha (by simp [h])
    have h4 : ¬ s.toList = [46, 46] := fun h => ha (by simp [h])
    have HY := Lib.hid (nameB_yes h1 h2 h3 h4)
    have g3 : (s.toList == [46]) = false := by simpa using h3
    have g4 : (s.toList == [46, 46]) = false := by simpa using h4
    have g1 : (1 : Int) ≤ s.size := by omega
    have g2 : (s.size : Int) ≤ 8 := by omega
    have hne : ¬ s = ByteArray.empty := by rintro rfl; simp at h1
    clear ha h3 h4
    go_enter Tryd.func16, Tryd.ntmps16
    go_wp2
    go_loop [3, 4] (fun i x => ∃ k : Nat, k ≤ s.size ∧ i = .int .i64 (k : Int) ∧ nmUpto s k = true) (fun i _ => s.size - (intOf i).toNat)
    case atStart => exact ⟨0, by omega, rfl, rfl⟩
    case round =>
      obtain ⟨k, hk, rfl, hu⟩ := hrel
      have HU := Lib.hid hu
      clear hu
      by_cases hlt : k < s.size
      · have hlti : (k : Int) < s.size := by omega
        have HS := Lib.hid (nmUpto_succ s k hlt)
        have HI := Lib.hid (inNm_iff (s[k].toNat : Int))
        cases hc : inNm (s[k].toNat : Int) with
        | true =>
          have HC := Lib.hid hc
          have hcs := HI.out.1 hc
          clear hc
          rcases hcs with ⟨c1, c2⟩ | ⟨c1, c2⟩ | c1 | c1
          all_goals
            first | (have d1 : ((s[k].toNat : Int) == 46) = false := by (rw [beq_eq_false_iff_ne]; omega)) | skip
            first | (have d2 : ((s[k].toNat : Int) == 95) = false := by (rw [beq_eq_false_iff_ne]; omega)) | skip
            first | (have d3 : (s[k].toNat : Int) < 97 := by omega) | skip
            first | (have d4 : (57:Int) < (s[k].toNat : Int) := by omega) | skip
            first | (have d5 : (s[k].toNat : Int) < 48 := by omega) | skip
            go_wp2
            go_round
            case rel => exact ⟨k + 1, by omega, by go_num, by rw [HS.out, HU.out, HC.out]; rfl⟩
            case measure => simp [intOf]; omega
        | false =>
          have HC := Lib.hid hc
          have hcs : ¬ _ := fun h => by have := HI.out.2 h; rw [hc] at this; cases this
          clear hc
          have HN := Lib.hid (nameB_no (s := s) (by right; right; right; right; exact nmUpto_false (k := k + 1) (by rw [HS.out, HC.out]; simp)))
          have d1 : ((s[k].toNat : Int) == 46) = false := by (rw [beq_eq_false_iff_ne]; omega)
          have d2 : ((s[k].toNat : Int) == 95) = false := by (rw [beq_eq_false_iff_ne]; omega)
          have h3 : (122 : Int) < (s[k].toNat : Int) ∨ ((57:Int) < (s[k].toNat : Int) ∧ (s[k].toNat : Int) < 97) ∨ (s[k].toNat : Int) < 48 := by omega
          clear hcs
          rcases h3 with c1 | ⟨c1, c2⟩ | c1
          all_goals
            first | (have d3 : (97 : Int) ≤ (s[k].toNat : Int) := by omega) | skip
            first | (have d4 : (57:Int) < (s[k].toNat : Int) := by omega) | skip
            first | (have d6 : (48:Int) ≤ (s[k].toNat : Int) := by omega) | skip
            first | (have d7 : (s[k].toNat : Int) < 97 := by omega) | skip
            first | (have e1 : decide ((s[k].toNat : Int) ≤ 122) = false := by (rw [decide_eq_false_iff_not]; omega)) | skip
            first | (have e2 : decide ((s[k].toNat : Int) ≤ 57) = false := by (rw [decide_eq_false_iff_not]; omega)) | skip
            go_wp2
            go_ret
            exact ⟨ret_bool HN.out.symm, rfl⟩
      · obtain rfl : k = s.size := by omega
        go_wp2
        go_ret
        exact ⟨ret_bool (HY.out HU.out).symm, rfl⟩
theorem name_of (s : ByteArray) (b : Bool) (h : nameB s = b) (hm : s.size ≤ maxLen) (w : World) :
    Calls Tryd.prog 19 #[.string s] w fun e w' => e = .returned (.bool b) ∧ w = w' := by subst h; exact name_any s w hm
theorem rname_of (s : ByteArray) (b : Bool) (h : nameB s = b) (hm : s.size ≤ maxLen) (w : World) :
    Calls Tryd.prog 16 #[.string s] w fun e w' => e = .returned (.bool b) ∧ w = w' := by subst h; exact rname_any s w hm
end Go.Proofs.YtpfpibmnhnjpmaaDoor.ly
/- What the reference's functions on paths give. -/
namespace Go.Proofs.YtpfpibmnhnjpmaaDoor.pa
set_option maxRecDepth 100000
open Go.ChangeShapes Go.WideShapes Go.ChangeAt Go.RowKit
open Go.Proofs.YtpfpibmnhnjpmaaDoor.rows
open Go.Proofs.YtpfpibmnhnjpmaaDoor.ly
set_option linter.unusedVariables false
set_option linter.unusedSimpArgs false

def strC (ns : List (List Int)) : List Value := ns.map fun n => .string (strOfNums n)
theorem slash1 (s : ByteArray) : s.toList = [47] ↔ bys s = [47] := bys_lit s [47]
theorem strC_len (ns : List (List Int)) : (strC ns).length = ns.length := by simp [strC]
end Go.Proofs.YtpfpibmnhnjpmaaDoor.pa
/- What the reference's Join, Parent and Under give, over its Split. -/
namespace Go.Proofs.YtpfpibmnhnjpmaaDoor.pa
set_option maxRecDepth 100000
open Go.ChangeShapes Go.WideShapes Go.ChangeAt Go.RowKit
open Go.Proofs.YtpfpibmnhnjpmaaDoor.rows
open Go.Proofs.YtpfpibmnhnjpmaaDoor.ly
set_option linter.unusedVariables false
set_option linter.unusedSimpArgs false

/-- texts of bytes -/
def Bs (ns : List (List Int)) : Prop := ∀ n ∈ ns, ∀ x ∈ n, 0 ≤ x ∧ x < 256
theorem str_inj {a b : List Int} (ha : ∀ x ∈ a, 0 ≤ x ∧ x < 256) (hb : ∀ x ∈ b, 0 ≤ x ∧ x < 256) (h : strOfNums a = strOfNums b) : a = b := by
  rw [← bys_strOf ha, ← bys_strOf hb, h]
theorem str_at {w : World} {p : Option Addr} {n c : Nat} {ns : List (List Int)} (h : Rd w 1 (.slice p n c) n (strC ns)) {i : Nat} (hi : i < n) :
    ∃ b off, p = some ⟨b, off, none⟩ ∧ n ≤ c ∧ c ≤ maxLen ∧ b < w.heap.size ∧ ns.length = n ∧ ∀ i, i < n → w.cell? ⟨b, off + i, none⟩ = some (.string (strOfNums (ns.getD i []))) := by
  rcases h with ⟨p', cap', h1, rfl, _⟩ | ⟨b, off, cap', h1, h2, h3, h4, h5, h6, h7⟩
  · omega
  · cases h1
    have hl : ns.length = n := by simpa [strC] using h6
    refine ⟨b, off, rfl, h3, h4, h5, hl, fun i hi => h7 i _ ?_⟩
    simp [strC, List.getD, show i < ns.length by omega]
theorem joinL_len {ns : List (List Int)} (m : Nat) (h : ∀ x ∈ ns, x.length ≤ m) : (joinL ns).length ≤ ns.length * (m + 1) := by
  induction ns with
  | nil => simp [joinL]
  | cons n ns ih =>
    have h1 := h n (List.mem_cons_self ..)
    have h2 := ih fun x hx => h x (List.mem_cons_of_mem _ hx)
    rw [joinL_cons]
    simp only [List.length_cons, List.length_append, Nat.succ_mul]
    omega
def JoinIs (f : Nat) : Prop := ∀ (p : Option Addr) (n c : Nat) (ns : List (List Int)) (w : World), Rd w 1 (.slice p n c) n (strC ns) → n ≤ 1000 → (∀ x ∈ ns, x.length ≤ 100000) →
  Calls Tryd.prog f #[.slice p n c] w fun e w' => e = .returned (.string (strOfNums (joinP ns))) ∧ Below w.heap.size w w'
end Go.Proofs.YtpfpibmnhnjpmaaDoor.pa
/- What Texts of two lists that hold the same gives; what the reference's Parent and Under give. -/
namespace Go.Proofs.YtpfpibmnhnjpmaaDoor.pa
set_option maxRecDepth 100000
open Go.ChangeShapes Go.WideShapes Go.ChangeAt Go.RowKit
open Go.Proofs.YtpfpibmnhnjpmaaDoor.rows
open Go.Proofs.YtpfpibmnhnjpmaaDoor.ly
set_option linter.unusedVariables false
set_option linter.unusedSimpArgs false

theorem texts_same (p1 p2 : Option Addr) (n c1 c2 : Nat) (ns : List (List Int)) (w : World) (h1 : Rd w 1 (.slice p1 n c1) n (strC ns)) (h2 : Rd w 1 (.slice p2 n c2) n (strC ns)) (hn : n ≤ 100000) :
    Calls Tryd.prog 10 #[.slice p1 n c1, .slice p2 n c2] w fun e w' => e = .returned (.bool true) ∧ Below w.heap.size w w' := by
  have H1 := Lib.hid h1
  have H2 := Lib.hid h2
  have hni : (n : Int) ≤ 100000 := by omega
  clear h1 h2
  go_enter Tryd.func10, Tryd.ntmps10
  go_wp2_with fail
  go_loopw [5] (fun iv wr => ∃ i : Nat, i ≤ n ∧ iv = .int .i64 (i : Int) ∧ Hid (Below w.heap.size w wr)) (fun iv _ => n - (intOf iv).toNat)
  case atStart => exact ⟨0, by omega, rfl, Lib.hid (Below.refl _ _)⟩
  case round =>
    obtain ⟨i, hi, rfl, HB⟩ := hrel
    by_cases hlt : i < n
    · have hlti : (i : Int) < n := by omega
      obtain ⟨b1, o1, rfl, _, _, _, _, hc1⟩ := str_at (H1.out.later HB.out) hlt
      obtain ⟨b2, o2, rfl, _, _, _, _, hc2⟩ := str_at (H2.out.later HB.out) hlt
      have k1 := hc1 i hlt
      have k2 := hc2 i hlt
      clear hc1 hc2
      generalize strOfNums (ns.getD i []) = x at k1 k2
      go_wp2_with fail
      go_quiet (fail)
      go_wp2_with fail
      go_roundw
      case rel => exact ⟨i + 1, by omega, by go_num, Lib.hid (blw_drewN HB.out _)⟩
      case measure => simp [intOf]; omega
    · obtain rfl : i = n := by omega
      go_wp2_with fail
      go_ret
      exact ⟨rfl, HB.out⟩
/-- a path's parent, its last name, and the error -/
def parL (l : List Int) : List Int := match splitL l with | some (n :: ns) => joinP (n :: ns).dropLast | _ => []
def lastL (l : List Int) : List Int := match splitL l with | some (n :: ns) => (n :: ns).getLastD [] | _ => []
def errP (l : List Int) : Int := match splitL l with | some (n :: ns) => 0 | some [] => 1 | none => 9
theorem rd_pre {w : World} {a : Addr} {n c : Nat} {ns : List (List Int)} (h : Rd w 1 (.slice (some a) n c) n (strC ns)) (k : Nat) (hk : k ≤ n) : Rd w 1 (.slice (some a) k c) k (strC (ns.take k)) := by
  by_cases h0 : k = 0
  · subst h0
    exact Or.inl ⟨_, _, rfl, rfl, rfl, fun h => by cases h⟩
  · rcases h with ⟨p', cap', h1, rfl, _⟩ | ⟨b, off, cap', h1, h2, h3, h4, h5, h6, h7⟩
    · omega
    · cases h1
      have hl : ns.length = n := by simpa [strC] using h6
      refine Or.inr ⟨b, off, c, rfl, by omega, by omega, h4, h5, by rw [strC_len, List.length_take]; omega, fun i u hi => h7 i u ?_⟩
      simp only [strC, List.getElem?_map, List.getElem?_take] at hi ⊢
      by_cases hik : i < k
      · simpa [hik] using hi
      · simp [hik] at hi
end Go.Proofs.YtpfpibmnhnjpmaaDoor.pa
/- What the reference's Under gives. -/
namespace Go.Proofs.YtpfpibmnhnjpmaaDoor.pa
set_option maxRecDepth 100000
open Go.ChangeShapes Go.WideShapes Go.ChangeAt Go.RowKit
open Go.Proofs.YtpfpibmnhnjpmaaDoor.rows
open Go.Proofs.YtpfpibmnhnjpmaaDoor.ly
set_option linter.unusedVariables false
set_option linter.unusedSimpArgs false

theorem isNm_bytes {l : List Int} (h : isNm l = true) : ∀ x ∈ l, 0 ≤ x ∧ x < 256 := by
  unfold isNm at h
  rw [Bool.and_eq_true] at h
  intro x hx
  have := (inNm_iff x).1 (List.all_eq_true.1 h.2 x hx)
  omega
def underB (a b : List Int) : Bool := match splitL a, splitL b with
  | some x, some y => decide (y.length ≤ x.length) && decide (x.take y.length = y)
  | _, _ => false
end Go.Proofs.YtpfpibmnhnjpmaaDoor.pa
/- The arguments of layer 8's laws: slices of texts. -/
namespace Go.Proofs.YtpfpibmnhnjpmaaDoor.pa
set_option maxRecDepth 100000
open Go.ChangeShapes Go.WideShapes Go.ChangeAt Go.RowKit
open Go.Proofs.YtpfpibmnhnjpmaaDoor.rows
open Go.Proofs.YtpfpibmnhnjpmaaDoor.ly
set_option linter.unusedVariables false
set_option linter.unusedSimpArgs false

theorem cellsString : Tryd.prog.cellsOf 9 = 1 := by kernel_rfl
theorem flat_one (ns : List (List Int)) : (ns.map fun n => [Value.string (strOfNums n)]).flatten = strC ns := by
  induction ns with
  | nil => rfl
  | cons n ns ih => rw [List.map_cons, List.flatten_cons, ih]; rfl
theorem strs_of_trod {H : Type} {enc : TypeId × Value → H} {W : World} {p : Option Addr} {len cap : Nat} {d : DataW H} {ps : List MemPlace}
    (h : DataW.Trod enc Tryd.prog W 0 (fun _ => true) true 22 (.slice p len cap) d ps) : ∃ ns : List (List Int), Bs ns ∧ Rd W 1 (.slice p len cap) len (strC ns) ∧ len ≤ maxLen ∧ ∀ n ∈ ns, n.length ≤ maxLen := by
  obtain ⟨fuel, hf⟩ := h
  obtain ⟨p', len', cap', l, hcs, hg, hll, hr, hm⟩ := open_slice (fun n : List Int => [Value.string (strOfNums n)]) (by decide) Tryd.underlying22 cellsString (fun n : List Int => (∀ x ∈ n, 0 ≤ x ∧ x < 256) ∧ n.length ≤ maxLen) (fun _ _ => rfl) (fun n cs x hx => by
    obtain ⟨s, hs, _, hl⟩ := DataW.trod_string Tryd.underlying9 hx
    exact ⟨bys s, ⟨bys_bytes s, by rw [bys_len]; exact hl⟩, by rw [hs, strOf_bys]⟩) hf
  simp [Value.cells] at hcs
  obtain ⟨rfl, rfl, rfl⟩ := hcs
  rw [flat_one] at hr
  exact ⟨l, fun n hn => (hg n hn).1, hr, hm, fun n hn => (hg n hn).2⟩
end Go.Proofs.YtpfpibmnhnjpmaaDoor.pa
/- knows of layer 8, over what the code's functions give. -/
namespace Go.Proofs.YtpfpibmnhnjpmaaDoor.pa
set_option maxRecDepth 100000
open Go.ChangeShapes Go.WideShapes Go.ChangeAt Go.RowKit
open Go.Proofs.YtpfpibmnhnjpmaaDoor.rows
open Go.Proofs.YtpfpibmnhnjpmaaDoor.ly
set_option linter.unusedVariables false
set_option linter.unusedSimpArgs false

/-- the library's search reads a variable of the library's, which holds some integer -/
def Mx (w : World) : Prop := ∃ m, w.cell? ⟨0, 0, none⟩ = some (.int .i64 m)
theorem Mx.later {w w' : World} (h : Mx w) (hb : Below w.heap.size w w') : Mx w' := by
  obtain ⟨m, hm⟩ := h
  exact ⟨m, by rw [hb.cell (World.block_lt_of_cell? _ _ hm)]; exact hm⟩
theorem Mx.lt {w : World} (h : Mx w) : 0 < w.heap.size := by
  obtain ⟨m, hm⟩ := h
  exact World.block_lt_of_cell? _ _ hm
def SplitMx (f : Nat) : Prop := ∀ (s : ByteArray) (w : World), Mx w → s.size ≤ 100000 →
  Calls Tryd.prog f #[.string s] w fun e w' => ∃ p n c, e = .returned (.tuple #[.slice p n c, .int .i64 (errS (bys s))]) ∧ n = (nms (bys s)).length ∧ Rd w' 1 (.slice p n c) n (strC (nms (bys s))) ∧ Below w.heap.size w w'
def ParentMx (f : Nat) : Prop := ∀ (s : ByteArray) (w : World), Mx w → s.size ≤ 100000 →
  Calls Tryd.prog f #[.string s] w fun e w' => e = .returned (.tuple #[.string (strOfNums (parL (bys s))), .string (strOfNums (lastL (bys s))), .int .i64 (errP (bys s))]) ∧ Below w.heap.size w w'
def UnderMx (f : Nat) : Prop := ∀ (s t : ByteArray) (w : World), Mx w → s.size ≤ 100000 → t.size ≤ 100000 →
  Calls Tryd.prog f #[.string s, .string t] w fun e w' => e = .returned (.bool (underB (bys s) (bys t))) ∧ Below w.heap.size w w'
/-- what is asked of the code -/
structure CodeIs : Prop where
  split : SplitMx 6
  join : JoinIs 12
  parent : ParentMx 8
  under : UnderMx 14
theorem num_any (n : Int) (w : World) : Calls Tryd.prog 11 #[.int .i64 n] w fun e w' => e = .returned (.int .i64 n) ∧ w = w' := by
  go_enter Tryd.func11, Tryd.ntmps11
  go_wp2
  go_ret
  exact ⟨rfl, rfl⟩
def abS : ByteArray := { data := #[47, 97, 47, 98] }
theorem abS_bys : bys abS = [47, 97, 47, 98] := rfl
theorem ab_split : splitL [47, 97, 47, 98] = some [[97], [98]] := split_join (ns := [[97], [98]]) (by decide) (by decide)
theorem root_split : splitL [47] = some [] := splitL_root
set_option maxHeartbeats 1600000 in
theorem knows_of (C : CodeIs) (w : World) (hmx : Mx w) : Calls Tryd.prog 5 #[] w fun e w' => e = .returned (.bool true) ∧ Below w.heap.size w w' := by
  have HM := Lib.hid hmx
  have HP : Hid (∀ w, Mx w → Calls Tryd.prog 8 #[.string { data := #[47, 97, 47, 98] }] w fun e w' => e = .returned (.tuple #[.string { data := #[47, 97] }, .string { data := #[98] }, .int .i64 0]) ∧ Below w.heap.size w w') := Lib.hid fun w hm => by
    have h := C.parent abS w hm (by decide)
    rw [abS_bys] at h
    have e1 : parL [47, 97, 47, 98] = [47, 97] := by rw [parL, ab_split]; rfl
    have e2 : lastL [47, 97, 47, 98] = [98] := by rw [lastL, ab_split]; rfl
    have e3 : errP [47, 97, 47, 98] = 0 := by rw [errP, ab_split]
    rw [e1, e2, e3] at h
    exact h
  have HS : Hid (∀ w, Mx w → Calls Tryd.prog 6 #[.string { data := #[47, 97, 47, 98] }] w fun e w' => (∃ p c, e = .returned (.tuple #[.slice p 2 c, .int .i64 0])) ∧ Below w.heap.size w w') := Lib.hid fun w hm => by
    refine (C.split abS w hm (by decide)).mono ?_
    rintro e w' ⟨p, n, c, rfl, hn, _, hb⟩
    rw [abS_bys] at hn ⊢
    have e1 : errS [47, 97, 47, 98] = 0 := by rw [errS, ab_split]; rfl
    have e2 : nms [47, 97, 47, 98] = [[97], [98]] := by rw [nms, ab_split]; rfl
    rw [e2] at hn
    obtain rfl : n = 2 := hn
    rw [e1]
    exact ⟨⟨p, c, rfl⟩, hb⟩
  have HJ : Hid (∀ w, Calls Tryd.prog 12 #[.slice none 0 0] w fun e w' => e = .returned (.string { data := #[47] }) ∧ Below w.heap.size w w') := Lib.hid fun w => C.join none 0 0 [] w (rd_nil _ 1) (by decide) (by simp)
  have HU : Hid (∀ w, Mx w → Calls Tryd.prog 14 #[.string { data := #[47, 97, 47, 98] }, .string { data := #[47] }] w fun e w' => e = .returned (.bool true) ∧ Below w.heap.size w w') := Lib.hid fun w hm => by
    have h := C.under abS { data := #[47] } w hm (by decide) (by decide)
    have e1 : underB (bys abS) (bys { data := #[47] }) = true := by
      rw [abS_bys, show bys { data := #[47] } = [47] from rfl, underB, ab_split, root_split]; rfl
    rw [e1] at h
    exact h
  clear C hmx
  go_enter Tryd.func5, Tryd.ntmps5
  go_wp2_with (first | (go_at_call 8; refine (HP.out _ HM.out).mono ?_; rintro e w1 ⟨rfl, hb⟩; have B1 := Lib.hid hb; clear hb) | (go_at_call 6; refine (HS.out _ (HM.out.later B1.out)).mono ?_; rintro e w2 ⟨⟨p, c, rfl⟩, hb⟩; have B2 := Lib.hid (below_trans B1.out hb); clear hb) | (go_at_call 11; refine (num_any _ _).mono ?_; rintro e w9 ⟨rfl, rfl⟩) | (go_at_call 12; refine (HJ.out _).mono ?_; rintro e w3 ⟨rfl, hb⟩; have B3 := Lib.hid (below_trans B2.out hb); clear hb) | (go_at_call 14; refine (HU.out _ (HM.out.later B3.out)).mono ?_; rintro e w4 ⟨rfl, hb⟩; have B4 := Lib.hid (below_trans B3.out hb); clear hb))
  go_ret
  exact ⟨rfl, B4.out⟩
end Go.Proofs.YtpfpibmnhnjpmaaDoor.pa
/- PathBack's walk, over what the code's functions give. -/
namespace Go.Proofs.YtpfpibmnhnjpmaaDoor.pa
set_option maxRecDepth 100000
open Go.ChangeShapes Go.WideShapes Go.ChangeAt Go.RowKit
open Go.Proofs.YtpfpibmnhnjpmaaDoor.rows
open Go.Proofs.YtpfpibmnhnjpmaaDoor.ly
set_option linter.unusedVariables false
set_option linter.unusedSimpArgs false

theorem allNm_take {ns : List (List Int)} {i : Nat} (h : i < ns.length) : (ns.take (i + 1)).all isNm = ((ns.take i).all isNm && isNm (ns.getD i [])) := by
  rw [List.take_succ_eq_append_getElem h, List.all_append]
  simp [List.getD, h]
theorem joinP_bytes {ns : List (List Int)} (h : Bs ns) : ∀ x ∈ joinP ns, 0 ≤ x ∧ x < 256 := by
  intro x hx
  unfold joinP at hx
  split at hx
  · simp at hx; omega
  · obtain ⟨l, hl, hxl⟩ := List.mem_flatten.1 hx
    obtain ⟨n, hn, rfl⟩ := List.mem_map.1 hl
    rcases List.mem_cons.1 hxl with rfl | h2
    · omega
    · exact h n hn x h2
theorem joinP_len {ns : List (List Int)} (h : ∀ x ∈ ns, x.length ≤ 100) (hn : ns.length ≤ 20) : (joinP ns).length ≤ 10000 := by
  unfold joinP
  split
  · simp
  · have h1 := joinL_len 100 h
    have h3 : ns.length * (100 + 1) ≤ 20 * (100 + 1) := Nat.mul_le_mul_right _ hn
    omega
/-- a path that is one, and not the root: what is known of its parent -/
theorem back_facts {s : ByteArray} {x : List Int} {xs : List (List Int)} (h : splitL (bys s) = some (x :: xs)) :
    strOfNums (joinP (x :: xs)) = s ∧ parL (bys s) = joinP ((x :: xs).take xs.length) ∧ lastL (bys s) = (x :: xs).getD xs.length [] ∧ errP (bys s) = 0 ∧ (parL (bys s)).length ≤ 10000 ∧
      (∀ y ∈ parL (bys s), 0 ≤ y ∧ y < 256) ∧ underB (bys s) (parL (bys s)) = true ∧ underB (parL (bys s)) (bys s) = false ∧ underB (bys s) (bys s) = true ∧ xs.length ≤ 3 := by
  obtain ⟨j1, j2, j3, j4⟩ := join_split h
  have e1 : parL (bys s) = joinP ((x :: xs).take xs.length) := by
    rw [parL, h]
    simp only
    rw [List.dropLast_eq_take]
    rfl
  have hnm : ∀ n ∈ (x :: xs).take xs.length, isNm n = true := fun n hn => j2 n (List.mem_of_mem_take hn)
  have hl4 : xs.length ≤ 3 := by simp at j3; omega
  have hlt : ((x :: xs).take xs.length).length = xs.length := by rw [List.length_take]; simp
  have hsp : splitL (joinP ((x :: xs).take xs.length)) = some ((x :: xs).take xs.length) := split_join hnm (by rw [hlt]; omega)
  refine ⟨by rw [j1, strOf_bys], e1, ?_, by simp [errP, h], ?_, ?_, ?_, ?_, ?_, hl4⟩
  · rw [lastL, h]
    simp only
    rw [List.getLastD_eq_getLast?, List.getLast?_eq_getElem?, List.getD]
    rfl
  · rw [e1]
    exact joinP_len (fun y hy => by have := (isNm_len (hnm y hy)).2; omega) (by rw [hlt]; omega)
  · rw [e1]
    exact joinP_bytes fun n hn => isNm_bytes (hnm n hn)
  · rw [e1, underB, h, hsp]
    simp [hlt]
  · rw [e1, underB, h, hsp]
    simp [hlt]
    intro h
    omega
  · rw [underB, h]
    simp
set_option maxRecDepth 100000 in
set_option maxHeartbeats 6400000 in
theorem back_of (C : CodeIs) (s : ByteArray) (hs : s.size ≤ maxLen) (p : Option Addr) (n c : Nat) (ns : List (List Int)) (w : World) (hr : Rd w 1 (.slice p n c) n (strC ns)) (hn : n ≤ maxLen) (hb : Bs ns) (hm : ∀ x ∈ ns, x.length ≤ maxLen) (hmx : Mx w) :
    Calls Tryd.prog 4 #[.string s, .slice p n c] w fun e w' => e = .returned (.bool true) ∧ Below w.heap.size w w' := by
  have HK := Lib.hid (knows_of C)
  have HM := Lib.hid hmx
  clear hmx
  have hn9 : (n : Int) ≤ 9223372036854775807 := by unfold maxLen at hn; omega
  have hs9 : (s.size : Int) ≤ 9223372036854775807 := by unfold maxLen at hs; omega
  by_cases hbig : 200 < s.size ∨ 20 < n
  · have h3 : 200 < s.size ∨ (s.size ≤ 200 ∧ 20 < n) := by omega
    clear hr hb hbig
    rcases h3 with h | ⟨h, h'⟩
    all_goals
      first | (have i1 : (200 : Int) < s.size := by omega) | (have i1 : (s.size : Int) ≤ 200 := by omega)
      first | (have i3 : (20 : Int) < n := by omega) | skip
      clear hn hs
      go_enter Tryd.func4, Tryd.ntmps4
      go_wp2_with (go_at_call 5; refine (HK.out _ HM.out).mono ?_; rintro e w2 ⟨rfl, hb2⟩)
      go_ret
      exact ⟨rfl, hb2⟩
  · have i1 : (s.size : Int) ≤ 200 := by omega
    have i3 : (n : Int) ≤ 20 := by omega
    have n20 : n ≤ 20 := by omega
    have HR := Lib.hid hr
    have hl : ns.length = n := by have h := hr.cells; rw [strC_len] at h; omega
    have HL := Lib.hid hl
    have HBS := Lib.hid hb
    have HC := Lib.hid C
    have HMX := Lib.hid hm
    have hs2 : s.size ≤ 100000 := by omega
    clear hb hbig hl hn hs hr hm
    go_enter Tryd.func4, Tryd.ntmps4
    go_upto_region 3 with (go_at_call 5; refine (HK.out _ HM.out).mono ?_; rintro e w0 ⟨rfl, hb⟩; have B0 := Lib.hid hb; clear hb)
    go_wp2_with fail
    go_loop [5, 6] (fun fv iv => ∃ i : Nat, i ≤ n ∧ iv = .int .i64 (i : Int) ∧ fv = .bool (decide (n ≤ 4) && (ns.take i).all isNm) ∧ Hid (∀ k, k < i → (ns.getD k []).length ≤ 100)) (fun _ iv => n - (intOf iv).toNat)
    case atStart => exact ⟨0, by omega, rfl, by simp; omega, Lib.hid (fun k hk => by omega)⟩
    case round =>
      obtain ⟨i, hi, rfl, rfl, HU⟩ := hrel
      by_cases hlt : i < n
      · have hlti : (i : Int) < n := by omega
        obtain ⟨b, o, rfl, _, _, _, _, hc1⟩ := str_at (HR.out.later B0.out) hlt
        have k1 := hc1 i hlt
        clear hc1
        have HT := Lib.hid (allNm_take (ns := ns) (i := i) (by rw [HL.out]; exact hlt))
        have hbx : ∀ y ∈ ns.getD i [], 0 ≤ y ∧ y < 256 := by
          have h : i < ns.length := by rw [HL.out]; exact hlt
          rw [show ns.getD i [] = ns[i] by simp [List.getD, h]]
          exact HBS.out _ (List.getElem_mem h)
        obtain ⟨x, hx⟩ : ∃ x, ns.getD i [] = x := ⟨_, rfl⟩
        rw [hx] at k1 HT hbx
        have HX := Lib.hid hx
        have HNM : Hid (∀ w, (strOfNums x).size ≤ maxLen → Calls Tryd.prog 16 #[.string (strOfNums x)] w fun e w' => e = .returned (.bool (isNm x)) ∧ w = w') := Lib.hid fun w hm => rname_of (strOfNums x) (isNm x) (by rw [nameB_bys, bys_strOf hbx]) hm w
        have hxs := strOfNums_size x
        clear hx hbx
        have HXM : Hid ((strOfNums x).size ≤ maxLen) := Lib.hid (by
          have h : i < ns.length := by rw [HL.out]; exact hlt
          rw [hxs, ← HX.out, show ns.getD i [] = ns[i] by simp [List.getD, h]]
          exact HMX.out _ (List.getElem_mem h))
        generalize isNm x = nx at HNM HT
        generalize hf : (decide (n ≤ 4) && (ns.take i).all isNm) = fb
        have HF : Hid ((decide (n ≤ 4) && (ns.take (i + 1)).all isNm) = (fb && nx)) := Lib.hid (by rw [HT.out, ← hf, Bool.and_assoc])
        clear hf HT
        by_cases hxl : 100 < x.length
        · have hxi : (100 : Int) < (strOfNums x).size := by rw [hxs]; omega
          clear hxs HX
          generalize strOfNums x = z at *
          cases fb with
          | true =>
            go_wp2_with (go_at_call 16; refine (HNM.out _ HXM.out).mono ?_; rintro e w1 ⟨rfl, rfl⟩)
            go_ret
            exact ⟨rfl, B0.out⟩
          | false =>
            go_wp2_with fail
            go_ret
            exact ⟨rfl, B0.out⟩
        · have hxi : ((strOfNums x).size : Int) ≤ 100 := by rw [hxs]; omega
          have HXL : Hid (x.length ≤ 100) := Lib.hid (by omega)
          clear hxs
          generalize strOfNums x = z at *
          cases fb with
          | true =>
            go_wp2_with (go_at_call 16; refine (HNM.out _ HXM.out).mono ?_; rintro e w1 ⟨rfl, rfl⟩)
            go_round
            case rel => exact ⟨i + 1, by omega, by go_num, by rw [HF.out]; rfl, Lib.hid (fun k hk => by
              by_cases h : k = i
              · rw [h, HX.out]; exact HXL.out
              · exact HU.out k (by omega))⟩
            case measure => simp [intOf]; omega
          | false =>
            go_wp2_with fail
            go_round
            case rel => exact ⟨i + 1, by omega, by go_num, by rw [HF.out]; rfl, Lib.hid (fun k hk => by
              by_cases h : k = i
              · rw [h, HX.out]; exact HXL.out
              · exact HU.out k (by omega))⟩
            case measure => simp [intOf]; omega
      · obtain rfl : i = n := by omega
        rw [List.take_of_length_le (by rw [HL.out]; exact Nat.le_refl _)]
        have hxs : ∀ x ∈ ns, x.length ≤ 100 := fun x hx => by
          obtain ⟨k, hk, rfl⟩ := List.mem_iff_getElem.1 hx
          have := HU.out k (by rw [← HL.out]; exact hk)
          simpa [List.getD, hk] using this
        have hjl := joinP_len hxs (by rw [HL.out]; exact n20)
        have CJ := Lib.hid fun w' (hw : Below w.heap.size w w') => HC.out.join p i c ns w' (HR.out.later hw) (by omega) (fun x hx => by have := hxs x hx; omega)
        have hbz : bys (strOfNums (joinP ns)) = joinP ns := bys_strOf (joinP_bytes HBS.out)
        have CS := Lib.hid fun w' (hw : Below w.heap.size w w') => HC.out.split (strOfNums (joinP ns)) w' (HM.out.later hw) (by rw [strOfNums_size]; omega)
        rw [hbz] at CS
        have HFI : Hid ((decide (i ≤ 4) && ns.all isNm) = true → errS (joinP ns) = 0 ∧ nms (joinP ns) = ns) := Lib.hid (fun h => by
          rw [Bool.and_eq_true, decide_eq_true_eq, List.all_eq_true] at h
          have hsp := split_join h.2 (by rw [HL.out]; exact h.1)
          rw [errS, nms, hsp]
          exact ⟨rfl, rfl⟩)
        generalize errS (joinP ns) = ej at CS HFI
        generalize nms (joinP ns) = nj at CS HFI
        generalize (decide (i ≤ 4) && ns.all isNm) = fi at HFI
        generalize strOfNums (joinP ns) = z at CJ CS
        clear hxs hjl hbz HU
        go_upto_region 11 with (first | (go_at_call 12; refine (CJ.out _ B0.out).mono ?_; rintro e w1 ⟨rfl, hb⟩; have B1 := Lib.hid (below_trans B0.out hb); clear hb) | (go_at_call 6; refine (CS.out _ B1.out).mono ?_; rintro e w2 ⟨pm, nm, cm, rfl, hnm, hrm, hb⟩; have B2 := Lib.hid (below_trans B1.out hb); have RM := Lib.hid hrm; have NM := Lib.hid hnm; clear hb hrm hnm))
        clear CJ CS B0 B1
        go_cut [67] from 56 (fun tv wc => tv = .bool false ∧ Below w.heap.size w wc)
        case first =>
          cases fi with
          | false =>
            go_wp2_with fail
            go_meet
            case rel => exact ⟨rfl, B2.out⟩
          | true =>
            obtain ⟨rfl, rfl⟩ := HFI.out rfl
            obtain rfl : nm = i := by rw [NM.out, HL.out]
            go_wp2_with (first | (go_at_call 11; refine (num_any _ _).mono ?_; rintro e w9 ⟨rfl, rfl⟩) | (go_at_call 10; refine (texts_same p pm _ c cm _ _ (HR.out.later B2.out) RM.out (by omega)).mono ?_; rintro e w5 ⟨rfl, hb⟩; have B5 := Lib.hid (below_trans B2.out hb); clear hb))
            go_meet
            case rel => exact ⟨rfl, B5.out⟩
        case rest =>
          obtain ⟨rfl, hbc⟩ := hcut
          have BC := Lib.hid hbc
          clear hbc B2 RM NM HFI
          clear n20 i3 HR HL HBS HMX
          have CS := Lib.hid fun w' (hw : Below w.heap.size w w') => HC.out.split s w' (HM.out.later hw) hs2
          have CP := Lib.hid fun w' (hw : Below w.heap.size w w') => HC.out.parent s w' (HM.out.later hw) hs2
          have CU := Lib.hid fun w' (hw : Below w.heap.size w w') => HC.out.under s s w' (HM.out.later hw) hs2 hs2
          cases hsp : splitL (bys s) with
          | none =>
            have E1 : errS (bys s) = 9 := by simp [errS, hsp]
            have E2 : nms (bys s) = [] := by simp [nms, hsp]
            have E3 : underB (bys s) (bys s) = false := by simp [underB, hsp]
            rw [E1, E2] at CS
            rw [E3] at CU
            clear E1 E2 E3 hsp
            go_wp2_with (first | (go_at_call 11; refine (num_any _ _).mono ?_; rintro e w9 ⟨rfl, rfl⟩) | (go_at_call 6; refine (CS.out _ BC.out).mono ?_; rintro e w5 ⟨pq, nq, cq, rfl, hnq, hrq, hb⟩; have B5 := Lib.hid (below_trans BC.out hb); obtain rfl : nq = 0 := hnq; clear hb hrq) | (go_at_call 14; refine (CU.out _ B5.out).mono ?_; rintro e w6 ⟨rfl, hb⟩; have B6 := Lib.hid (below_trans B5.out hb); clear hb))
            go_ret
            exact ⟨rfl, B6.out⟩
          | some xs =>
            cases xs with
            | nil =>
              have E1 : errS (bys s) = 0 := by simp [errS, hsp]
              have E2 : nms (bys s) = [] := by simp [nms, hsp]
              have E3 : errP (bys s) = 1 := by simp [errP, hsp]
              have E4 : s.toList = [47] := by
                have h := (join_split hsp).2.2.2 rfl
                have h1 := congrArg strOfNums h
                rw [strOf_bys] at h1
                rw [h1, show strOfNums [47] = { data := #[47] } from rfl, ByteArray.toList_eq]
              rw [E1, E2] at CS
              rw [E3] at CP
              generalize strOfNums (parL (bys s)) = q1 at CP
              generalize strOfNums (lastL (bys s)) = q2 at CP
              clear E1 E2 E3 hsp CU
              go_wp2_with (first | (go_at_call 11; refine (num_any _ _).mono ?_; rintro e w9 ⟨rfl, rfl⟩) | (go_at_call 6; refine (CS.out _ BC.out).mono ?_; rintro e w5 ⟨pq, nq, cq, rfl, hnq, hrq, hb⟩; have B5 := Lib.hid (below_trans BC.out hb); obtain rfl : nq = 0 := hnq; clear hb hrq) | (go_at_call 8; refine (CP.out _ B5.out).mono ?_; rintro e w6 ⟨rfl, hb⟩; have B6 := Lib.hid (below_trans B5.out hb); clear hb))
              go_ret
              exact ⟨by simp [E4], B6.out⟩
            | cons x xs =>
              have E1 : errS (bys s) = 0 := by simp [errS, hsp]
              have E2 : nms (bys s) = x :: xs := by simp [nms, hsp]
              obtain ⟨f1, f2, f3, f4, f5, f6, f7, f8, f9, f10⟩ := back_facts hsp
              have hjm := (join_split hsp).2.1
              have hmx : ∀ y ∈ x :: xs, y.length ≤ 100000 := fun y hy => by have := (isNm_len (hjm y hy)).2; omega
              have h8 : (x :: xs).getD xs.length [] = lastL (bys s) := f3.symm
              have hup : bys (strOfNums (parL (bys s))) = parL (bys s) := bys_strOf f6
              have hpu : (strOfNums (parL (bys s))).size ≤ 100000 := by rw [strOfNums_size]; omega
              have CU1 := Lib.hid fun w' (hw : Below w.heap.size w w') => HC.out.under s (strOfNums (parL (bys s))) w' (HM.out.later hw) hs2 hpu
              have CU2 := Lib.hid fun w' (hw : Below w.heap.size w w') => HC.out.under (strOfNums (parL (bys s))) s w' (HM.out.later hw) hpu hs2
              rw [hup, f7] at CU1
              rw [hup, f8] at CU2
              rw [f9] at CU
              rw [f4] at CP
              rw [E1, E2] at CS
              have CJ := Lib.hid fun p' n' c' w' hr' hn' => HC.out.join p' n' c' (x :: xs) w' hr' hn' hmx
              rw [f1] at CJ
              have HX := Lib.hid h8
              have h10i : (xs.length : Int) ≤ 3 := by omega
              clear E1 E2 hsp f1 f2 f3 f4 f5 f6 f7 f8 f9 f10 hjm hmx h8 hup hpu
              rw [← HX.out] at CP
              generalize hq1 : strOfNums (parL (bys s)) = q1 at CP CU1 CU2
              generalize hq2 : strOfNums ((x :: xs).getD xs.length []) = q2 at CP
              have HQ := Lib.hid hq2
              clear hq1 hq2 HX
              go_wp2_with (first
                | (go_at_call 11; refine (num_any _ _).mono ?_; rintro e w9 ⟨rfl, rfl⟩)
                | (go_at_call 6; refine (CS.out _ BC.out).mono ?_; rintro e w5 ⟨pq, nq, cq, rfl, hnq, hrq, hb⟩; have B5 := Lib.hid (below_trans BC.out hb); have hnn : nq = xs.length + 1 := hnq; subst hnn; have R5 := Lib.hid hrq; clear hb hrq hnq)
                | (go_at_call 8; refine (CP.out _ B5.out).mono ?_; rintro e w6 ⟨rfl, hb⟩; have B6 := Lib.hid (below_trans B5.out hb); have R6 := Lib.hid (R5.out.later hb); clear hb)
                | (go_at_call 12; refine (CJ.out _ _ _ _ R6.out (by omega)).mono ?_; rintro e w7 ⟨rfl, hb⟩; have B7 := Lib.hid (below_trans B6.out hb); have R7 := Lib.hid (R6.out.later hb); clear hb)
                | (go_at_call 14; with_reducible refine (CU1.out _ B7.out).mono ?_; rintro e w8 ⟨rfl, hb⟩; have B8 := Lib.hid (below_trans B7.out hb); have R8 := Lib.hid (R7.out.later hb); clear hb)
                | (go_at_call 14; with_reducible refine (CU2.out _ B8.out).mono ?_; rintro e w10 ⟨rfl, hb⟩; have B10 := Lib.hid (below_trans B8.out hb); have R10 := Lib.hid (R8.out.later hb); clear hb)
                | (go_at_call 14; with_reducible refine (CU.out _ B10.out).mono ?_; rintro e w11 ⟨rfl, hb⟩; have B11 := Lib.hid (below_trans B10.out hb); obtain ⟨b, o, rfl, _, _, _, _, hc1⟩ := str_at (R10.out.later hb) (Nat.lt_succ_self xs.length); have k1 := hc1 xs.length (Nat.lt_succ_self _); rw [HQ.out] at k1; clear hb hc1))
              go_ret
              exact ⟨by simp, B11.out⟩
end Go.Proofs.YtpfpibmnhnjpmaaDoor.pa
