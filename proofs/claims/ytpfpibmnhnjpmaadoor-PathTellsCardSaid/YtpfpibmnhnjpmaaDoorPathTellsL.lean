/- What PathTells wants, part 12. -/
import Derived.Test.YtpfpibmnhnjpmaaDoorPathTellsB
import Derived.Test.YtpfpibmnhnjpmaaDoorPathTellsD
import Derived.Test.YtpfpibmnhnjpmaaDoorPathTellsE
import Derived.Test.YtpfpibmnhnjpmaaDoorPathTellsG
import Derived.Test.YtpfpibmnhnjpmaaDoorPathTellsI
import Derived.Test.YtpfpibmnhnjpmaaDoorPathTellsK
import Derived.Outline
import Derived.Laws.BytesArg
import Derived.Deep.DrawnRows
/- Plain mathematics of the on-disk format: names, inodes, entries and their sectors. -/
namespace Go.Proofs.YtpfpibmnhnjpmaaDoor.ly
set_option maxRecDepth 100000
open Go.RowKit
open Go.Proofs.YtpfpibmnhnjpmaaDoor.rows
open Go.Proofs.YtpfpibmnhnjpmaaDoor.sec
open Go.Proofs.YtpfpibmnhnjpmaaDoor.dsk (wf64)
set_option linter.unusedVariables false

/-! names -/
def bys (s : ByteArray) : List Int := s.data.toList.map fun c => (c.toNat : Int)
def inNm (c : Int) : Bool := decide (97 ≤ c) && decide (c ≤ 122) || (decide (48 ≤ c) && decide (c ≤ 57)) || c == 46 || c == 95
def nameB (s : ByteArray) : Bool := decide (1 ≤ s.size) && decide (s.size ≤ 8) && !(bys s == [46]) && !(bys s == [46, 46]) && (bys s).all inNm
theorem bys_len (s : ByteArray) : (bys s).length = s.size := by simp [bys]
theorem bys_at (s : ByteArray) (k : Nat) (h : k < s.size) : (bys s)[k]? = some (s[k].toNat : Int) := by
  simp [bys, h]; rfl
theorem bys_bytes (s : ByteArray) : ∀ x ∈ bys s, 0 ≤ x ∧ x < 256 := by
  intro x hx
  obtain ⟨c, _, rfl⟩ := List.mem_map.1 hx
  have := c.toNat_lt
  omega
theorem bys_inj {s t : ByteArray} (h : bys s = bys t) : s = t := by
  have h2 : s.data.toList = t.data.toList := by
    have hi : Function.Injective (fun c : UInt8 => (c.toNat : Int)) := fun a b hab => by
      have : (a.toNat : Int) = (b.toNat : Int) := hab
      exact UInt8.toNat_inj.1 (by omega)
    exact (List.map_inj_right (fun a b hab => hi hab)).1 h
  cases s; cases t
  simp only [ByteArray.mk.injEq]
  exact Array.toList_inj.1 h2
theorem bys_lit (s : ByteArray) (l : List UInt8) : s.toList = l ↔ bys s = l.map fun c => (c.toNat : Int) := by
  have hi : Function.Injective (fun c : UInt8 => (c.toNat : Int)) := fun a b hab => by
    have : (a.toNat : Int) = (b.toNat : Int) := hab
    exact UInt8.toNat_inj.1 (by omega)
  rw [ByteArray.toList_eq]
  exact (List.map_inj_right (fun a b hab => hi hab)).symm
theorem dot1 (s : ByteArray) : s.toList = [46] ↔ bys s = [46] := bys_lit s [46]
theorem dot2 (s : ByteArray) : s.toList = [46, 46] ↔ bys s = [46, 46] := bys_lit s [46, 46]
theorem bys_strOf {xs : List Int} (h : ∀ x ∈ xs, 0 ≤ x ∧ x < 256) : bys (strOfNums xs) = xs := by
  rw [bys, strOfNums_data, List.map_map]
  conv => rhs; rw [← List.map_id xs]
  apply List.map_congr_left
  intro x hx
  have := h x hx
  simp
  omega
theorem strOf_bys (s : ByteArray) : strOfNums (bys s) = s := bys_inj (bys_strOf (bys_bytes s))
/-- the first k characters are a name's -/
def nmUpto (s : ByteArray) (k : Nat) : Bool := ((bys s).take k).all inNm
theorem nmUpto_succ (s : ByteArray) (k : Nat) (h : k < s.size) : nmUpto s (k + 1) = (nmUpto s k && inNm (s[k].toNat : Int)) := by
  have e : (bys s).take (k + 1) = (bys s).take k ++ [(s[k].toNat : Int)] := by
    rw [List.take_add_one, bys_at s k h]; rfl
  rw [nmUpto, e, List.all_append]
  simp [nmUpto]
theorem nmUpto_all (s : ByteArray) : nmUpto s s.size = (bys s).all inNm := by
  rw [nmUpto, List.take_of_length_le (by rw [bys_len]; exact Nat.le_refl _)]
theorem nmUpto_false {s : ByteArray} {k : Nat} (h : nmUpto s k = false) : (bys s).all inNm = false := by
  rw [← List.take_append_drop k (bys s), List.all_append]
  rw [nmUpto] at h
  rw [h]; rfl
theorem nameB_no {s : ByteArray} (h : s.size < 1 ∨ 8 < s.size ∨ s.toList = [46] ∨ s.toList = [46, 46] ∨ (bys s).all inNm = false) : nameB s = false := by
  rw [dot1, dot2] at h
  unfold nameB
  rcases h with h | h | h | h | h
  · simp [show ¬ 1 ≤ s.size by omega]
  · simp [show ¬ s.size ≤ 8 by omega]
  · simp [h]
  · simp [h]
  · simp [h]
theorem nameB_yes {s : ByteArray} (h1 : 1 ≤ s.size) (h2 : s.size ≤ 8) (h3 : s.toList ≠ [46]) (h4 : s.toList ≠ [46, 46]) (h5 : nmUpto s s.size = true) : nameB s = true := by
  rw [ne_eq, dot1] at h3
  rw [ne_eq, dot2] at h4
  rw [nmUpto_all] at h5
  unfold nameB
  simp [h1, h2, h3, h4, h5]
end Go.Proofs.YtpfpibmnhnjpmaaDoor.ly
/- Plain mathematics of paths: their names, and names joined. -/
namespace Go.Proofs.YtpfpibmnhnjpmaaDoor.pa
set_option maxRecDepth 100000
open Go.RowKit
open Go.Proofs.YtpfpibmnhnjpmaaDoor.ly
set_option linter.unusedVariables false

def isNm (l : List Int) : Bool := decide (1 ≤ l.length) && decide (l.length ≤ 8) && !(l == [46]) && !(l == [46, 46]) && l.all inNm
theorem nameB_bys (s : ByteArray) : nameB s = isNm (bys s) := by rw [nameB, isNm, bys_len]
theorem isNm_len {l : List Int} (h : isNm l = true) : 1 ≤ l.length ∧ l.length ≤ 8 := by
  unfold isNm at h
  simp only [Bool.and_eq_true, decide_eq_true_eq] at h
  exact ⟨h.1.1.1.1, h.1.1.1.2⟩
theorem isNm_all {l : List Int} (h : isNm l = true) : ∀ x ∈ l, x ≠ 47 := by
  unfold isNm at h
  rw [Bool.and_eq_true] at h
  intro x hx h47
  have := List.all_eq_true.1 h.2 x hx
  rw [h47] at this
  exact absurd this (by decide)
/-- up to the next slash -/
def seg (l : List Int) : List Int := l.takeWhile fun x => x != 47
theorem seg_le (l : List Int) : (seg l).length ≤ l.length := (List.takeWhile_prefix _).length_le
def parse (l : List Int) : Option (List (List Int)) :=
  match l with
  | [] => some []
  | c :: t => if c = 47 ∧ isNm (seg t) = true then (parse (t.drop (seg t).length)).map (seg t :: ·) else none
termination_by l.length
decreasing_by simp; omega
theorem parse_nil : parse [] = some [] := by rw [parse]
theorem parse_cons (c : Int) (t : List Int) : parse (c :: t) = if c = 47 ∧ isNm (seg t) = true then (parse (t.drop (seg t).length)).map (seg t :: ·) else none := by rw [parse]
theorem parse_bad {c : Int} (t : List Int) (h : c ≠ 47) : parse (c :: t) = none := by rw [parse_cons, if_neg (fun hh => h hh.1)]
theorem parse_noname {c : Int} {t : List Int} (h : isNm (seg t) = false) : parse (c :: t) = none := by rw [parse_cons, if_neg (fun hh => by rw [h] at hh; exact absurd hh.2 (by decide))]
theorem parse_good {t : List Int} (h : isNm (seg t) = true) : parse (47 :: t) = (parse (t.drop (seg t).length)).map (seg t :: ·) := by rw [parse_cons, if_pos ⟨rfl, h⟩]
theorem seg_app {a b : List Int} (h : ∀ x ∈ a, x ≠ 47) (hb : b = [] ∨ ∃ t, b = 47 :: t) : seg (a ++ b) = a := by
  unfold seg
  rw [List.takeWhile_append_of_pos (fun x hx => by simpa using h x hx)]
  rcases hb with rfl | ⟨t, rfl⟩
  · simp
  · simp
theorem seg_take {t : List Int} {m : Nat} (hm : m ≤ t.length) (h : ∀ i, i < m → t.getD i 0 ≠ 47) (he : m = t.length ∨ t.getD m 0 = 47) : seg t = t.take m := by
  have e := seg_app (a := t.take m) (b := t.drop m) (fun x hx => by
    obtain ⟨i, hi, rfl⟩ := List.getElem_of_mem hx
    have hi2 : i < m := by simp at hi; omega
    have := h i hi2
    simpa [List.getD, show i < t.length by omega] using this) (by
    rcases he with he | he
    · exact Or.inl (by rw [he]; simp)
    · by_cases hl : m = t.length
      · exact Or.inl (by rw [hl]; simp)
      · right
        refine ⟨t.drop (m + 1), ?_⟩
        rw [List.drop_eq_getElem_cons (by omega)]
        congr 1
        simpa [List.getD, show m < t.length by omega] using he)
  rwa [List.take_append_drop] at e
/-- names joined -/
def joinL (ns : List (List Int)) : List Int := (ns.map fun n => 47 :: n).flatten
theorem joinL_cons (n : List Int) (ns : List (List Int)) : joinL (n :: ns) = 47 :: (n ++ joinL ns) := by simp [joinL]
theorem joinL_snoc (n : List Int) (ns : List (List Int)) : joinL (ns ++ [n]) = joinL ns ++ (47 :: n) := by simp [joinL]
theorem joinL_head (ns : List (List Int)) : joinL ns = [] ∨ ∃ t, joinL ns = 47 :: t := by
  cases ns with
  | nil => exact Or.inl rfl
  | cons n ns => exact Or.inr ⟨_, joinL_cons n ns⟩
theorem parse_join : ∀ (ns : List (List Int)), (∀ n ∈ ns, isNm n = true) → parse (joinL ns) = some ns
  | [], _ => parse_nil
  | n :: ns, h => by
    have hn := h n (List.mem_cons_self ..)
    have e : seg (n ++ joinL ns) = n := seg_app (isNm_all hn) (joinL_head ns)
    rw [joinL_cons, parse_good (by rw [e]; exact hn), e, List.drop_left, parse_join ns (fun x hx => h x (List.mem_cons_of_mem _ hx))]
    rfl
theorem join_parse : ∀ (k : Nat) (l : List Int) (ns : List (List Int)), l.length ≤ k → parse l = some ns → joinL ns = l ∧ ∀ n ∈ ns, isNm n = true
  | k, [], ns, _, h => by
    rw [parse_nil] at h
    cases h
    exact ⟨rfl, by simp⟩
  | 0, c :: t, ns, hk, _ => by simp at hk
  | k + 1, c :: t, ns, hk, h => by
    rw [parse_cons] at h
    split at h
    · rename_i hc
      obtain ⟨rfl, hn⟩ := hc
      cases hp : parse (t.drop (seg t).length) with
      | none => rw [hp] at h; cases h
      | some ms =>
        rw [hp] at h
        cases h
        obtain ⟨i1, i2⟩ := join_parse k (t.drop (seg t).length) ms (by simp at hk ⊢; omega) hp
        refine ⟨?_, fun n hn' => ?_⟩
        · rw [joinL_cons, i1]
          congr 1
          have : seg t ++ t.drop (seg t).length = t := by
            have h1 : seg t = t.take (seg t).length := by
              unfold seg
              exact (List.prefix_iff_eq_take.1 (List.takeWhile_prefix _))
            conv => lhs; lhs; rw [h1]
            exact List.take_append_drop _ _
          exact this
        · rcases List.mem_cons.1 hn' with rfl | h2
          · exact hn
          · exact i2 n h2
    · cases h
/-- a path's names, if it is one -/
def splitL (l : List Int) : Option (List (List Int)) :=
  if l = [47] then some [] else match parse l with
    | some ns => if 1 ≤ ns.length ∧ ns.length ≤ 4 then some ns else none
    | none => none
def nms (l : List Int) : List (List Int) := (splitL l).getD []
def errS (l : List Int) : Int := if (splitL l).isSome then 0 else 9
theorem splitL_root : splitL [47] = some [] := by rw [splitL, if_pos rfl]
theorem splitL_none {l : List Int} (h : l ≠ [47]) (hp : parse l = none) : splitL l = none := by rw [splitL, if_neg h, hp]
theorem splitL_some {l : List Int} {ns : List (List Int)} (h : l ≠ [47]) (hp : parse l = some ns) : splitL l = if 1 ≤ ns.length ∧ ns.length ≤ 4 then some ns else none := by rw [splitL, if_neg h, hp]
def joinP (ns : List (List Int)) : List Int := if ns = [] then [47] else joinL ns
/-- Split inverts Join -/
theorem split_join {ns : List (List Int)} (h : ∀ n ∈ ns, isNm n = true) (hl : ns.length ≤ 4) : splitL (joinP ns) = some ns := by
  unfold joinP
  split
  · rename_i h0
    rw [h0]
    exact splitL_root
  · rename_i h0
    have hne : joinL ns ≠ [47] := by
      intro e
      cases ns with
      | nil => exact h0 rfl
      | cons n ns =>
        rw [joinL_cons] at e
        have h1 := congrArg List.length e
        have := (isNm_len (h n (List.mem_cons_self ..))).1
        simp only [List.length_cons, List.length_append, List.length_nil] at h1
        omega
    have h1 : 1 ≤ ns.length := by
      cases ns with
      | nil => exact absurd rfl h0
      | cons n ns => simp
    rw [splitL_some hne (parse_join ns h), if_pos ⟨h1, hl⟩]
/-- Join inverts Split -/
theorem join_split {l : List Int} {ns : List (List Int)} (h : splitL l = some ns) : joinP ns = l ∧ (∀ n ∈ ns, isNm n = true) ∧ ns.length ≤ 4 ∧ (ns = [] → l = [47]) := by
  unfold splitL at h
  split at h
  · rename_i h0
    cases h
    exact ⟨by rw [joinP, if_pos rfl, h0], by simp, by simp, fun _ => h0⟩
  · rename_i h0
    cases hp : parse l with
    | none => rw [hp] at h; cases h
    | some ms =>
      rw [hp] at h
      simp only at h
      split at h
      · rename_i hl
        cases h
        obtain ⟨i1, i2⟩ := join_parse l.length l ns (Nat.le_refl _) hp
        have hne : ns ≠ [] := by rintro rfl; simp at hl
        exact ⟨by rw [joinP, if_neg hne, i1], i2, hl.2, fun h => absurd h hne⟩
      · cases h
end Go.Proofs.YtpfpibmnhnjpmaaDoor.pa
/- What Name, the code's and the reference's, gives. -/
namespace Go.Proofs.YtpfpibmnhnjpmaaDoor.ly
set_option maxRecDepth 100000
open Go.ChangeShapes Go.WideShapes Go.ChangeAt Go.RowKit
open Go.Proofs.YtpfpibmnhnjpmaaDoor.rows
open Go.Proofs.YtpfpibmnhnjpmaaDoor.sec
set_option linter.unusedVariables false

theorem inName_any (c : UInt8) (w : World) :
    Calls Tryd.prog 25 #[.int .u8 (c.toNat : Int)] w fun e w' => e = .returned (.bool (inNm (c.toNat : Int))) ∧ w = w' := by
  go_enter Tryd.func25, Tryd.ntmps25
  go_wp2
  all_goals go_ret
  all_goals
    refine ⟨ret_bool ?_, rfl⟩
    unfold inNm
    rw [Bool.eq_iff_iff]
    simp
    try omega
theorem name_any (s : ByteArray) (w : World) (hm : s.size ≤ maxLen) :
    Calls Tryd.prog 19 #[.string s] w fun e w' => e = .returned (.bool (nameB s)) ∧ w = w' := by
  unfold maxLen at hm
  by_cases ha : s.size < 1 ∨ 8 < s.size ∨ s.toList = [46] ∨ s.toList = [46, 46]
  · have HN := Lib.hid (nameB_no (s := s) (by rcases ha with h | h | h | h <;> simp [h]))
    go_enter Tryd.func19, Tryd.ntmps19
    go_wp2
    all_goals first | (go_ret; exact ⟨ret_bool HN.out.symm, rfl⟩) | skip
    all_goals (exfalso; rcases ha with h | h | h | h <;> first | omega | simp_all)
  · have h1 : 1 ≤ s.size := by omega
    have h2 : s.size ≤ 8 := by omega
    have h3 : ¬ s.toList = [46] := fun h => ha (by simp [h])
    have h4 : ¬ s.toList = [46, 46] := fun h => ha (by simp [h])
    have HY := Lib.hid (nameB_yes h1 h2 h3 h4)
    have g3 : (s.toList == [46]) = false := by simpa using h3
    have g4 : (s.toList == [46, 46]) = false := by simpa using h4
    have g1 : (1 : Int) ≤ s.size := by omega
    have g2 : (s.size : Int) ≤ 8 := by omega
    have hne : ¬ s = ByteArray.empty := by rintro rfl; simp at h1
    clear ha h3 h4
    go_enter Tryd.func19, Tryd.ntmps19
    go_wp2
    go_loop [3, 22] (fun x i => ∃ k : Nat, k ≤ s.size ∧ i = .int .i64 (k : Int) ∧ nmUpto s k = true) (fun _ i => s.size - (intOf i).toNat)
    case atStart => exact ⟨0, by omega, rfl, rfl⟩
    case round =>
      obtain ⟨k, hk, rfl, hu⟩ := hrel
      have HU := Lib.hid hu
      clear hu
      by_cases hlt : k < s.size
      · have hlti : (k : Int) < s.size := by omega
        have HS := Lib.hid (nmUpto_succ s k hlt)
        cases hc : inNm (s[k].toNat : Int) with
        | true =>
          have HC := Lib.hid hc
          clear hc
          go_wp2_with (go_at_call 25; refine (inName_any s[k] _).mono ?_; rw [HC.out]; rintro e w1 ⟨rfl, rfl⟩)
          go_round
          case rel => exact ⟨k + 1, by omega, by go_num, by rw [HS.out, HU.out, HC.out]; rfl⟩
          case measure => simp [intOf]; omega
        | false =>
          have HC := Lib.hid hc
          clear hc
          have HN := Lib.hid (nameB_no (s := s) (by right; right; right; right; exact nmUpto_false (k := k + 1) (by rw [HS.out, HC.out]; simp)))
          go_wp2_with (go_at_call 25; refine (inName_any s[k] _).mono ?_; rw [HC.out]; rintro e w1 ⟨rfl, rfl⟩)
          go_ret
          exact ⟨ret_bool HN.out.symm, rfl⟩
      · obtain rfl : k = s.size := by omega
        go_wp2
        go_ret
        exact ⟨ret_bool (HY.out HU.out).symm, rfl⟩
theorem inNm_iff (c : Int) : inNm c = true ↔ (97 ≤ c ∧ c ≤ 122) ∨ (48 ≤ c ∧ c ≤ 57) ∨ c = 46 ∨ c = 95 := by
  unfold inNm
  simp [or_assoc]
theorem rname_any (s : ByteArray) (w : World) (hm : s.size ≤ maxLen) :
    Calls Tryd.prog 16 #[.string s] w fun e w' => e = .returned (.bool (nameB s)) ∧ w = w' := by
  unfold maxLen at hm
  by_cases ha : s.size < 1 ∨ 8 < s.size ∨ s.toList = [46] ∨ s.toList = [46, 46]
  · have HN := Lib.hid (nameB_no (s := s) (by rcases ha with h | h | h | h <;> simp [h]))
    go_enter Tryd.func16, Tryd.ntmps16
    go_wp2
    all_goals first | (go_ret; exact ⟨ret_bool HN.out.symm, rfl⟩) | skip
    all_goals (exfalso; rcases ha with h | h | h | h <;> first | omega | simp_all)
  · have h1 : 1 ≤ s.size := by omega
    have h2 : s.size ≤ 8 := by omega
    have h3 : ¬ s.toList = [46] := fun h => ha (by simp [h])
    have h4 : ¬ s.toList = [46, 46] := fun h => ha (by simp [h])
    have HY := Lib.hid (nameB_yes h1 h2 h3 h4)
    have g3 : (s.toList == [46]) = false := by simpa using h3
    have g4 : (s.toList == [46, 46]) = false := by simpa using h4
    have g1 : (1 : Int) ≤ s.size := by omega
    have g2 : (s.size : Int) ≤ 8 := by omega
    have hne : ¬ s = ByteArray.empty := by rintro rfl; simp at h1
    clear ha h3 h4
    go_enter Tryd.func16, Tryd.ntmps16
    go_wp2
    go_loop [3, 4] (fun i x => ∃ k : Nat, k ≤ s.size ∧ i = .int .i64 (k : Int) ∧ nmUpto s k = true) (fun i _ => s.size - (intOf i).toNat)
    case atStart => exact ⟨0, by omega, rfl, rfl⟩
    case round =>
      obtain ⟨k, hk, rfl, hu⟩ := hrel
      have HU := Lib.hid hu
      clear hu
      by_cases hlt : k < s.size
      · have hlti : (k : Int) < s.size := by omega
        have HS := Lib.hid (nmUpto_succ s k hlt)
        have HI := Lib.hid (inNm_iff (s[k].toNat : Int))
        cases hc : inNm (s[k].toNat : Int) with
        | true =>
          have HC := Lib.hid hc
          have hcs := HI.out.1 hc
          clear hc
          rcases hcs with ⟨c1, c2⟩ | ⟨c1, c2⟩ | c1 | c1
          all_goals
            first | (have d1 : ((s[k].toNat : Int) == 46) = false := by (rw [beq_eq_false_iff_ne]; omega)) | skip
            first | (have d2 : ((s[k].toNat : Int) == 95) = false := by (rw [beq_eq_false_iff_ne]; omega)) | skip
            first | (have d3 : (s[k].toNat : Int) < 97 := by omega) | skip
            first | (have d4 : (57:Int) < (s[k].toNat : Int) := by omega) | skip
            first | (have d5 : (s[k].toNat : Int) < 48 := by omega) | skip
            go_wp2
            go_round
            case rel => exact ⟨k + 1, by omega, by go_num, by rw [HS.out, HU.out, HC.out]; rfl⟩
            case measure => simp [intOf]; omega
        | false =>
          have HC := Lib.hid hc
          have hcs : ¬ _ := fun h => by have := HI.out.2 h; rw [hc] at this; cases this
          clear hc
          have HN := Lib.hid (nameB_no (s := s) (by right; right; right; right; exact nmUpto_false (k := k + 1) (by rw [HS.out, HC.out]; simp)))
          have d1 : ((s[k].toNat : Int) == 46) = false := by (rw [beq_eq_false_iff_ne]; omega)
          have d2 : ((s[k].toNat : Int) == 95) = false := by (rw [beq_eq_false_iff_ne]; omega)
          have h3 : (122 : Int) < (s[k].toNat : Int) ∨ ((57:Int) < (s[k].toNat : Int) ∧ (s[k].toNat : Int) < 97) ∨ (s[k].toNat : Int) < 48 := by omega
          clear hcs
          rcases h3 with c1 | ⟨c1, c2⟩ | c1
          all_goals
            first | (have d3 : (97 : Int) ≤ (s[k].toNat : Int) := by omega) | skip
            first | (have d4 : (57:Int) < (s[k].toNat : Int) := by omega) | skip
            first | (have d6 : (48:Int) ≤ (s[k].toNat : Int) := by omega) | skip
            first | (have d7 : (s[k].toNat : Int) < 97 := by omega) | skip
            first | (have e1 : decide ((s[k].toNat : Int) ≤ 122) = false := by (rw [decide_eq_false_iff_not]; omega)) | skip
            first | (have e2 : decide ((s[k].toNat : Int) ≤ 57) = false := by (rw [decide_eq_false_iff_not]; omega)) | skip
            go_wp2
            go_ret
            exact ⟨ret_bool HN.out.symm, rfl⟩
      · obtain rfl : k = s.size := by omega
        go_wp2
        go_ret
        exact ⟨ret_bool (HY.out HU.out).symm, rfl⟩
theorem name_of (s : ByteArray) (b : Bool) (h : nameB s = b) (hm : s.size ≤ maxLen) (w : World) :
    Calls Tryd.prog 19 #[.string s] w fun e w' => e = .returned (.bool b) ∧ w = w' := by subst h; exact name_any s w hm
theorem rname_of (s : ByteArray) (b : Bool) (h : nameB s = b) (hm : s.size ≤ maxLen) (w : World) :
    Calls Tryd.prog 16 #[.string s] w fun e w' => e = .returned (.bool b) ∧ w = w' := by subst h; exact rname_any s w hm
end Go.Proofs.YtpfpibmnhnjpmaaDoor.ly
/- What the reference's functions on paths give. -/
namespace Go.Proofs.YtpfpibmnhnjpmaaDoor.pa
set_option maxRecDepth 100000
open Go.ChangeShapes Go.WideShapes Go.ChangeAt Go.RowKit
open Go.Proofs.YtpfpibmnhnjpmaaDoor.rows
open Go.Proofs.YtpfpibmnhnjpmaaDoor.ly
set_option linter.unusedVariables false
set_option linter.unusedSimpArgs false

theorem elem_strs : Elem 22 9 1 16 (.string ByteArray.empty) := ⟨Tryd.underlying22, by kernel_rfl, by decide, by decide, by decide⟩
def strC (ns : List (List Int)) : List Value := ns.map fun n => .string (strOfNums n)
def SplitIs (f : Nat) : Prop := ∀ (s : ByteArray) (w : World), s.size ≤ 100000 →
  Calls Tryd.prog f #[.string s] w fun e w' => ∃ p n c, e = .returned (.tuple #[.slice p n c, .int .i64 (errS (bys s))]) ∧ n = (nms (bys s)).length ∧ Rd w' 1 (.slice p n c) n (strC (nms (bys s))) ∧ Below w.heap.size w w'
theorem slash1 (s : ByteArray) : s.toList = [47] ↔ bys s = [47] := bys_lit s [47]
theorem bys_extract (s : ByteArray) (a b : Nat) (hb : b ≤ s.size) : bys (s.extract a b) = ((bys s).drop a).take (b - a) := by
  unfold bys
  rw [← List.map_drop, ← List.map_take]
  congr 1
  rw [ByteArray.data_extract, Array.toList_extract, List.extract]
theorem strC_len (ns : List (List Int)) : (strC ns).length = ns.length := by simp [strC]
theorem bys_getD (s : ByteArray) (k : Nat) (h : k < s.size) : (bys s).getD k 0 = (s[k].toNat : Int) := by
  rw [List.getD, bys_at s k h]; rfl
theorem drop_cons {l : List Int} {j : Nat} (h : j < l.length) : l.drop j = l.getD j 0 :: l.drop (j + 1) := by
  rw [List.drop_eq_getElem_cons h]
  congr 1
  simp [List.getD, h]
set_option maxHeartbeats 3200000 in
theorem rsplit_is : SplitIs 7 := by
  intro s w hs
  have hsi : (s.size : Int) ≤ 100000 := by omega
  by_cases h47 : s.toList = [47]
  · have e1 : bys s = [47] := (slash1 s).1 h47
    have E1 : Hid (nms (bys s) = [] ∧ errS (bys s) = 0) := Lib.hid (by rw [e1, nms, errS, splitL_root]; exact ⟨rfl, rfl⟩)
    clear e1
    go_enter Tryd.func7, Tryd.ntmps7
    go_wp2_with fail
    go_ret2
    refine ⟨none, 0, 0, by rw [E1.out.2]; rfl, by rw [E1.out.1]; rfl, by rw [E1.out.1]; exact rd_nil _ 1, Below.refl _ _⟩
  · have hne : bys s ≠ [47] := fun h => h47 ((slash1 s).2 h)
    have g47 : (s.toList == [47]) = false := by simpa using h47
    have HNO := Lib.hid fun (hp : parse (bys s) = none) => splitL_none hne hp
    have HYE := Lib.hid fun ns (hp : parse (bys s) = some ns) => splitL_some hne hp
    have HLEN := Lib.hid (bys_len s)
    clear h47 hne
    go_enter Tryd.func7, Tryd.ntmps7
    go_wp2_with fail
    go_loopw [4, 5, 6] (fun l i kx wr => ∃ (j : Nat) (ns : List (List Int)) (p : Option Addr) (n c : Nat), j ≤ s.size ∧ i = .int .i64 (j : Int) ∧ l = .slice p n c ∧ n = ns.length ∧ n ≤ j ∧ Hid (parse (bys s) = (parse ((bys s).drop j)).map (ns ++ ·)) ∧ Hid (Own wr w.heap.size 9 1 (.slice p n c) n (strC ns)) ∧ Below w.heap.size w wr) (fun _ i _ _ => s.size - (intOf i).toNat)
    case atStart => exact ⟨0, [], none, 0, 0, by omega, rfl, rfl, rfl, by omega, Lib.hid (by simp), Lib.hid (own_nil _ _ _ _), Below.refl _ _⟩
    case round =>
      obtain ⟨j, ns, p, n, c, hj, rfl, rfl, hn, hnj, HP, HO, hbr⟩ := hrel
      have HN := Lib.hid hn
      clear hn
      have hji5 : (j : Int) ≤ 100000 := by omega
      by_cases hlt : j < s.size
      · have hlti : (j : Int) < s.size := by omega
        have HD := Lib.hid (drop_cons (l := bys s) (j := j) (by rw [HLEN.out]; exact hlt))
        have hgd := bys_getD s j hlt
        rw [hgd] at HD
        cases hc : ((s[j].toNat : Int) == 47) with
        | false =>
          have hc' : (s[j].toNat : Int) ≠ 47 := by simpa using hc
          have HZ := Lib.hid (HNO.out (by rw [HP.out, HD.out, parse_bad _ hc']; rfl))
          have hcn : ((s[j].toNat : Int) != 47) = true := by rw [bne, hc]; rfl
          clear hc' hgd
          go_wp2_with fail
          go_ret2
          refine ⟨none, 0, 0, by rw [errS, HZ.out]; rfl, by rw [nms, HZ.out]; rfl, by rw [nms, HZ.out]; exact rd_nil _ 1, hbr⟩
        | true =>
          have hc' : (s[j].toNat : Int) = 47 := by simpa using hc
          have hcn : ((s[j].toNat : Int) != 47) = false := by rw [bne, hc]; rfl
          rw [hc'] at HD
          clear hgd
          have HC' := Lib.hid hc'
          clear hc'
          have HT : Hid (((bys s).drop (j + 1)).length = s.size - (j + 1)) := Lib.hid (by rw [List.length_drop, HLEN.out])
          have HG : Hid (∀ i, i < s.size - (j + 1) → ∀ (h : j + 1 + i < s.size), ((bys s).drop (j + 1)).getD i 0 = (s[j + 1 + i].toNat : Int)) := Lib.hid (fun i hi h => by
            rw [← bys_getD s (j + 1 + i) h, List.getD, List.getElem?_drop, List.getD])
          go_wp2_with fail
          go_loop [6] (fun kx => ∃ k : Nat, j + 1 ≤ k ∧ k ≤ s.size ∧ kx = .int .i64 (k : Int) ∧ Hid (∀ i, i < k - (j + 1) → ((bys s).drop (j + 1)).getD i 0 ≠ 47)) (fun kx => s.size - (intOf kx).toNat)
          case atStart => exact ⟨j + 1, by omega, by omega, by go_num, Lib.hid (fun i hi => by omega)⟩
          case round =>
            obtain ⟨k, hkj, hk, rfl, HM⟩ := hrel
            have hki : (k : Int) ≤ 100000 := by omega
            -- where the inner loop ends
            have HEND : Hid ((k = s.size ∨ ((bys s).drop (j + 1)).getD (k - (j + 1)) 0 = 47) → seg ((bys s).drop (j + 1)) = ((bys s).drop (j + 1)).take (k - (j + 1))) := Lib.hid fun h =>
              seg_take (by rw [HT.out]; omega) HM.out (by
                rcases h with h | h
                · exact Or.inl (by rw [HT.out]; omega)
                · exact Or.inr h)
            by_cases hlt2 : k < s.size
            · have hlt2i : (k : Int) < s.size := by omega
              have HGM : Hid (((bys s).drop (j + 1)).getD (k - (j + 1)) 0 = (s[k].toNat : Int)) := Lib.hid (by
                rw [← bys_getD s k hlt2, List.getD, List.getElem?_drop, List.getD, show j + 1 + (k - (j + 1)) = k by omega])
              cases hd : ((s[k].toNat : Int) == 47) with
              | false =>
                have hd' : (s[k].toNat : Int) ≠ 47 := by simpa using hd
                have hdn : ((s[k].toNat : Int) != 47) = true := by rw [bne, hd]; rfl
                have HN2 : Hid (∀ i, i < k + 1 - (j + 1) → ((bys s).drop (j + 1)).getD i 0 ≠ 47) := Lib.hid (fun i hi => by
                  by_cases h : i = k - (j + 1)
                  · rw [h, HGM.out]; exact hd'
                  · exact HM.out i (by omega))
                clear hd'
                go_wp2_with fail
                go_round
                case rel => exact ⟨k + 1, by omega, by omega, by go_num, HN2⟩
                case measure => simp [intOf]; omega
              | true =>
                have hdn : ((s[k].toNat : Int) != 47) = false := by rw [bne, hd]; rfl
                have HSEG := Lib.hid (HEND.out (Or.inr (by rw [HGM.out]; simpa using hd)))
                clear HEND HM HGM
                have HX : Hid (bys (s.extract (j + 1) k) = seg ((bys s).drop (j + 1))) := Lib.hid (by rw [bys_extract s (j + 1) k hk, HSEG.out])
                have HSL : Hid ((seg ((bys s).drop (j + 1))).length = k - (j + 1)) := Lib.hid (by rw [HSEG.out, List.length_take, HT.out]; omega)
                have HXS : Hid ((s.extract (j + 1) k).size ≤ maxLen) := Lib.hid (by rw [← bys_len, HX.out, HSL.out]; unfold maxLen; omega)
                have HSV : Hid (Value.string (s.extract (j + 1) k) = .string (strOfNums (seg ((bys s).drop (j + 1))))) := Lib.hid (by rw [← HX.out, strOf_bys])
                cases hnm : isNm (seg ((bys s).drop (j + 1))) with
                | false =>
                  have HZ := Lib.hid (HNO.out (by rw [HP.out, HD.out, parse_noname hnm]; rfl))
                  have HNM := Lib.hid (rname_of (s.extract (j + 1) k) false (by rw [nameB_bys, HX.out]; exact hnm) HXS.out)
                  clear hnm
                  go_wp2_with (go_at_call 16; refine (HNM.out _).mono ?_; rintro e w1 ⟨rfl, rfl⟩)
                  go_ret2
                  exact ⟨none, 0, 0, by rw [errS, HZ.out]; rfl, by rw [nms, HZ.out]; rfl, by rw [nms, HZ.out]; exact rd_nil _ 1, hbr⟩
                | true =>
                  have HP3 : Hid (parse (bys s) = (parse ((bys s).drop k)).map ((ns ++ [seg ((bys s).drop (j + 1))]) ++ ·)) := Lib.hid (by
                    rw [HP.out, HD.out, parse_good hnm, HSL.out, List.drop_drop, show j + 1 + (k - (j + 1)) = k by omega, Option.map_map]
                    congr 1
                    funext x
                    simp)
                  have HNM := Lib.hid (rname_of (s.extract (j + 1) k) true (by rw [nameB_bys, HX.out]; exact hnm) HXS.out)
                  clear hnm
                  go_wp2_with (first | (go_at_call 16; refine (HNM.out _).mono ?_; rintro e w1 ⟨rfl, rfl⟩) | (at_builtin; refine ap_rd elem_strs rfl (.tmp 38) (.tmp 44) rfl w.heap.size _ n (strC ns) rfl (HO.out.alloc _) _ 1 [.string (s.extract (j + 1) k)] rfl (rd_one _ _ 1 #[.string (s.extract (j + 1) k)] rfl) (by simp [Value.oneCell']) (by omega) (by have := hbr.size; simp; omega) ?_; intro pa ca wa ho hb; have HO2 := Lib.hid ho; clear ho))
                  go_roundw
                  case rel => exact ⟨k, ns ++ [seg ((bys s).drop (j + 1))], pa, n + 1, ca, hk, rfl, rfl, by rw [List.length_append, HN.out]; rfl, by omega, HP3, Lib.hid (by have h := HO2.out; rw [HSV.out] at h; simpa [strC] using h), below_trans' (below_alloc hbr _) hb (Nat.le_refl _)⟩
                  case measure => simp [intOf]; omega
            · obtain rfl : k = s.size := by omega
              have HSEG := Lib.hid (HEND.out (Or.inl rfl))
              clear HEND HM
              have HX : Hid (bys (s.extract (j + 1) s.size) = seg ((bys s).drop (j + 1))) := Lib.hid (by rw [bys_extract s (j + 1) s.size hk, HSEG.out])
              have HSL : Hid ((seg ((bys s).drop (j + 1))).length = s.size - (j + 1)) := Lib.hid (by rw [HSEG.out, List.length_take, HT.out]; omega)
              have HXS : Hid ((s.extract (j + 1) s.size).size ≤ maxLen) := Lib.hid (by rw [← bys_len, HX.out, HSL.out]; unfold maxLen; omega)
              have HSV : Hid (Value.string (s.extract (j + 1) s.size) = .string (strOfNums (seg ((bys s).drop (j + 1))))) := Lib.hid (by rw [← HX.out, strOf_bys])
              cases hnm : isNm (seg ((bys s).drop (j + 1))) with
              | false =>
                have HZ := Lib.hid (HNO.out (by rw [HP.out, HD.out, parse_noname hnm]; rfl))
                have HNM := Lib.hid (rname_of (s.extract (j + 1) s.size) false (by rw [nameB_bys, HX.out]; exact hnm) HXS.out)
                clear hnm
                go_wp2_with (go_at_call 16; refine (HNM.out _).mono ?_; rintro e w1 ⟨rfl, rfl⟩)
                go_ret2
                exact ⟨none, 0, 0, by rw [errS, HZ.out]; rfl, by rw [nms, HZ.out]; rfl, by rw [nms, HZ.out]; exact rd_nil _ 1, hbr⟩
              | true =>
                have HP3 : Hid (parse (bys s) = (parse ((bys s).drop s.size)).map ((ns ++ [seg ((bys s).drop (j + 1))]) ++ ·)) := Lib.hid (by
                  rw [HP.out, HD.out, parse_good hnm, HSL.out, List.drop_drop, show j + 1 + (s.size - (j + 1)) = s.size by omega, Option.map_map]
                  congr 1
                  funext x
                  simp)
                have HNM := Lib.hid (rname_of (s.extract (j + 1) s.size) true (by rw [nameB_bys, HX.out]; exact hnm) HXS.out)
                clear hnm
                go_wp2_with (first | (go_at_call 16; refine (HNM.out _).mono ?_; rintro e w1 ⟨rfl, rfl⟩) | (at_builtin; refine ap_rd elem_strs rfl (.tmp 38) (.tmp 44) rfl w.heap.size _ n (strC ns) rfl (HO.out.alloc _) _ 1 [.string (s.extract (j + 1) s.size)] rfl (rd_one _ _ 1 #[.string (s.extract (j + 1) s.size)] rfl) (by simp [Value.oneCell']) (by omega) (by have := hbr.size; simp; omega) ?_; intro pa ca wa ho hb; have HO2 := Lib.hid ho; clear ho))
                go_roundw
                case rel => exact ⟨s.size, ns ++ [seg ((bys s).drop (j + 1))], pa, n + 1, ca, hk, rfl, rfl, by rw [List.length_append, HN.out]; rfl, by omega, HP3, Lib.hid (by have h := HO2.out; rw [HSV.out] at h; simpa [strC] using h), below_trans' (below_alloc hbr _) hb (Nat.le_refl _)⟩
                case measure => simp [intOf]; omega
      · obtain rfl : j = s.size := by omega
        have HP2 : Hid (parse (bys s) = some ns) := Lib.hid (by
          have h := HP.out
          rw [List.drop_of_length_le (by rw [HLEN.out]; exact Nat.le_refl _), parse_nil] at h
          rw [h]; simp)
        by_cases h1 : 1 ≤ n ∧ n ≤ 4
        · obtain ⟨h1a, h1b⟩ := h1
          have HZ : Hid (splitL (bys s) = some ns) := Lib.hid (by rw [HYE.out ns HP2.out, if_pos ⟨by rw [← HN.out]; exact h1a, by rw [← HN.out]; exact h1b⟩])
          have h1c : (1 : Int) ≤ n := by omega
          have h1d : (n : Int) ≤ 4 := by omega
          go_wp2_with fail
          go_ret2
          exact ⟨p, n, c, by rw [errS, HZ.out]; rfl, by rw [nms, HZ.out]; exact HN.out, by rw [nms, HZ.out]; exact HO.out.rd, hbr⟩
        · have HZ : Hid (splitL (bys s) = none) := Lib.hid (by rw [HYE.out ns HP2.out, if_neg (by rw [← HN.out]; exact h1)])
          have h2 : n < 1 ∨ (1 ≤ n ∧ 4 < n) := by omega
          rcases h2 with h2 | ⟨h2, h3⟩
          · have h1c : (n : Int) < 1 := by omega
            go_wp2_with fail
            go_ret2
            exact ⟨none, 0, 0, by rw [errS, HZ.out]; rfl, by rw [nms, HZ.out]; rfl, by rw [nms, HZ.out]; exact rd_nil _ 1, hbr⟩
          · have h1c : (1 : Int) ≤ n := by omega
            have h1d : (4 : Int) < n := by omega
            go_wp2_with fail
            go_ret2
            exact ⟨none, 0, 0, by rw [errS, HZ.out]; rfl, by rw [nms, HZ.out]; rfl, by rw [nms, HZ.out]; exact rd_nil _ 1, hbr⟩
end Go.Proofs.YtpfpibmnhnjpmaaDoor.pa
/- What the reference's Join, Parent and Under give, over its Split. -/
namespace Go.Proofs.YtpfpibmnhnjpmaaDoor.pa
set_option maxRecDepth 100000
open Go.ChangeShapes Go.WideShapes Go.ChangeAt Go.RowKit
open Go.Proofs.YtpfpibmnhnjpmaaDoor.rows
open Go.Proofs.YtpfpibmnhnjpmaaDoor.ly
set_option linter.unusedVariables false
set_option linter.unusedSimpArgs false

/-- texts of bytes -/
def Bs (ns : List (List Int)) : Prop := ∀ n ∈ ns, ∀ x ∈ n, 0 ≤ x ∧ x < 256
theorem str_inj {a b : List Int} (ha : ∀ x ∈ a, 0 ≤ x ∧ x < 256) (hb : ∀ x ∈ b, 0 ≤ x ∧ x < 256) (h : strOfNums a = strOfNums b) : a = b := by
  rw [← bys_strOf ha, ← bys_strOf hb, h]
theorem str_app (a b : List Int) : strOfNums a ++ strOfNums b = strOfNums (a ++ b) := by
  have h : (strOfNums a ++ strOfNums b).data = (strOfNums (a ++ b)).data := by
    rw [ByteArray.data_append]
    simp [strOfNums]
  generalize strOfNums a ++ strOfNums b = x at h
  generalize strOfNums (a ++ b) = y at h
  cases x; cases y
  simpa using h
theorem str_at {w : World} {p : Option Addr} {n c : Nat} {ns : List (List Int)} (h : Rd w 1 (.slice p n c) n (strC ns)) {i : Nat} (hi : i < n) :
    ∃ b off, p = some ⟨b, off, none⟩ ∧ n ≤ c ∧ c ≤ maxLen ∧ b < w.heap.size ∧ ns.length = n ∧ ∀ i, i < n → w.cell? ⟨b, off + i, none⟩ = some (.string (strOfNums (ns.getD i []))) := by
  rcases h with ⟨p', cap', h1, rfl, _⟩ | ⟨b, off, cap', h1, h2, h3, h4, h5, h6, h7⟩
  · omega
  · cases h1
    have hl : ns.length = n := by simpa [strC] using h6
    refine ⟨b, off, rfl, h3, h4, h5, hl, fun i hi => h7 i _ ?_⟩
    simp [strC, List.getD, show i < ns.length by omega]
theorem joinL_len {ns : List (List Int)} (m : Nat) (h : ∀ x ∈ ns, x.length ≤ m) : (joinL ns).length ≤ ns.length * (m + 1) := by
  induction ns with
  | nil => simp [joinL]
  | cons n ns ih =>
    have h1 := h n (List.mem_cons_self ..)
    have h2 := ih fun x hx => h x (List.mem_cons_of_mem _ hx)
    rw [joinL_cons]
    simp only [List.length_cons, List.length_append, Nat.succ_mul]
    omega
def JoinIs (f : Nat) : Prop := ∀ (p : Option Addr) (n c : Nat) (ns : List (List Int)) (w : World), Rd w 1 (.slice p n c) n (strC ns) → n ≤ 1000 → (∀ x ∈ ns, x.length ≤ 100000) →
  Calls Tryd.prog f #[.slice p n c] w fun e w' => e = .returned (.string (strOfNums (joinP ns))) ∧ Below w.heap.size w w'
theorem joinL_take {ns : List (List Int)} {i : Nat} (h : i < ns.length) : joinL (ns.take (i + 1)) = joinL (ns.take i) ++ [47] ++ ns.getD i [] := by
  rw [List.take_succ_eq_append_getElem h, joinL_snoc]
  simp [List.getD, h]
theorem rjoin_is : JoinIs 13 := by
  intro p n c ns w hr hn hs
  have hl : ns.length = n := by have h := hr.cells; rw [strC_len] at h; omega
  have HR := Lib.hid hr
  have HL := Lib.hid hl
  have hni : (n : Int) ≤ 1000 := by omega
  have hsl : strOfNums [47] = { data := #[47] } := rfl
  have HSL := Lib.hid hsl
  clear hr hl hsl
  by_cases h0 : n = 0
  · subst h0
    have h1 : ns = [] := List.eq_nil_of_length_eq_zero HL.out
    subst h1
    go_enter Tryd.func13, Tryd.ntmps13
    go_wp2_with fail
    go_loop [3, 4] (fun a i => a = .string { data := #[] } ∧ i = .int .i64 0) (fun _ i => 0)
    case atStart => exact ⟨rfl, rfl⟩
    case round =>
      obtain ⟨rfl, rfl⟩ := hrel
      go_wp2_with fail
      go_ret
      exact ⟨rfl, Below.refl _ _⟩
  · have hne : ns ≠ [] := by rintro rfl; exact h0 HL.out.symm
    have HJ : Hid (joinP ns = joinL ns) := Lib.hid (by rw [joinP, if_neg hne])
    have hn0 : ((n : Int) == 0) = false := by rw [beq_eq_false_iff_ne]; omega
    go_enter Tryd.func13, Tryd.ntmps13
    go_wp2_with fail
    go_loop [3, 4] (fun a iv => ∃ i : Nat, i ≤ n ∧ a = .string (strOfNums (joinL (ns.take i))) ∧ iv = .int .i64 (i : Int)) (fun _ iv => n - (intOf iv).toNat)
    case atStart => exact ⟨0, by omega, rfl, rfl⟩
    case round =>
      obtain ⟨i, hi, rfl, rfl⟩ := hrel
      by_cases hlt : i < n
      · have hlti : (i : Int) < n := by omega
        obtain ⟨b, off, rfl, _, _, _, _, hcell⟩ := str_at HR.out hlt
        have hck := hcell i hlt
        have HT := Lib.hid (joinL_take (ns := ns) (i := i) (by rw [HL.out]; exact hlt))
        have hA : (strOfNums (joinL (ns.take i))).size ≤ 200000000 := by
          rw [strOfNums_size]
          have h1 := joinL_len 100000 (ns := ns.take i) fun x hx => hs x (List.mem_of_mem_take hx)
          have h2 : (ns.take i).length ≤ 1000 := by rw [List.length_take]; omega
          have h3 : (ns.take i).length * 100001 ≤ 1000 * 100001 := Nat.mul_le_mul_right _ h2
          omega
        have hB : (strOfNums (ns.getD i [])).size ≤ 100000 := by
          rw [strOfNums_size]
          have hi2 : i < ns.length := by rw [HL.out]; exact hlt
          have e : ns.getD i [] = ns[i] := by simp [List.getD, hi2]
          rw [e]
          exact hs _ (List.getElem_mem hi2)
        clear hcell
        generalize ns.getD i [] = x at hck hB HT
        go_wp2_with fail
        go_round
        case rel => exact ⟨i + 1, by omega, by rw [HT.out, ← str_app, ← str_app, HSL.out], by go_num⟩
        case measure => simp [intOf]; omega
      · obtain rfl : i = n := by omega
        rw [List.take_of_length_le (by rw [HL.out]; exact Nat.le_refl _)]
        go_wp2_with fail
        go_ret
        exact ⟨by rw [HJ.out]; rfl, Below.refl _ _⟩
end Go.Proofs.YtpfpibmnhnjpmaaDoor.pa
/- What Texts of two lists that hold the same gives; what the reference's Parent and Under give. -/
namespace Go.Proofs.YtpfpibmnhnjpmaaDoor.pa
set_option maxRecDepth 100000
open Go.ChangeShapes Go.WideShapes Go.ChangeAt Go.RowKit
open Go.Proofs.YtpfpibmnhnjpmaaDoor.rows
open Go.Proofs.YtpfpibmnhnjpmaaDoor.ly
set_option linter.unusedVariables false
set_option linter.unusedSimpArgs false

theorem texts_same (p1 p2 : Option Addr) (n c1 c2 : Nat) (ns : List (List Int)) (w : World) (h1 : Rd w 1 (.slice p1 n c1) n (strC ns)) (h2 : Rd w 1 (.slice p2 n c2) n (strC ns)) (hn : n ≤ 100000) :
    Calls Tryd.prog 10 #[.slice p1 n c1, .slice p2 n c2] w fun e w' => e = .returned (.bool true) ∧ Below w.heap.size w w' := by
  have H1 := Lib.hid h1
  have H2 := Lib.hid h2
  have hni : (n : Int) ≤ 100000 := by omega
  clear h1 h2
  go_enter Tryd.func10, Tryd.ntmps10
  go_wp2_with fail
  go_loopw [5] (fun iv wr => ∃ i : Nat, i ≤ n ∧ iv = .int .i64 (i : Int) ∧ Hid (Below w.heap.size w wr)) (fun iv _ => n - (intOf iv).toNat)
  case atStart => exact ⟨0, by omega, rfl, Lib.hid (Below.refl _ _)⟩
  case round =>
    obtain ⟨i, hi, rfl, HB⟩ := hrel
    by_cases hlt : i < n
    · have hlti : (i : Int) < n := by omega
      obtain ⟨b1, o1, rfl, _, _, _, _, hc1⟩ := str_at (H1.out.later HB.out) hlt
      obtain ⟨b2, o2, rfl, _, _, _, _, hc2⟩ := str_at (H2.out.later HB.out) hlt
      have k1 := hc1 i hlt
      have k2 := hc2 i hlt
      clear hc1 hc2
      generalize strOfNums (ns.getD i []) = x at k1 k2
      go_wp2_with fail
      go_quiet (fail)
      go_wp2_with fail
      go_roundw
      case rel => exact ⟨i + 1, by omega, by go_num, Lib.hid (blw_drewN HB.out _)⟩
      case measure => simp [intOf]; omega
    · obtain rfl : i = n := by omega
      go_wp2_with fail
      go_ret
      exact ⟨rfl, HB.out⟩
/-- a path's parent, its last name, and the error -/
def parL (l : List Int) : List Int := match splitL l with | some (n :: ns) => joinP (n :: ns).dropLast | _ => []
def lastL (l : List Int) : List Int := match splitL l with | some (n :: ns) => (n :: ns).getLastD [] | _ => []
def errP (l : List Int) : Int := match splitL l with | some (n :: ns) => 0 | some [] => 1 | none => 9
def ParentIs (f : Nat) : Prop := ∀ (s : ByteArray) (w : World), s.size ≤ 100000 →
  Calls Tryd.prog f #[.string s] w fun e w' => e = .returned (.tuple #[.string (strOfNums (parL (bys s))), .string (strOfNums (lastL (bys s))), .int .i64 (errP (bys s))]) ∧ Below w.heap.size w w'
theorem rd_pre {w : World} {a : Addr} {n c : Nat} {ns : List (List Int)} (h : Rd w 1 (.slice (some a) n c) n (strC ns)) (k : Nat) (hk : k ≤ n) : Rd w 1 (.slice (some a) k c) k (strC (ns.take k)) := by
  by_cases h0 : k = 0
  · subst h0
    exact Or.inl ⟨_, _, rfl, rfl, rfl, fun h => by cases h⟩
  · rcases h with ⟨p', cap', h1, rfl, _⟩ | ⟨b, off, cap', h1, h2, h3, h4, h5, h6, h7⟩
    · omega
    · cases h1
      have hl : ns.length = n := by simpa [strC] using h6
      refine Or.inr ⟨b, off, c, rfl, by omega, by omega, h4, h5, by rw [strC_len, List.length_take]; omega, fun i u hi => h7 i u ?_⟩
      simp only [strC, List.getElem?_map, List.getElem?_take] at hi ⊢
      by_cases hik : i < k
      · simpa [hik] using hi
      · simp [hik] at hi
set_option maxHeartbeats 1600000 in
theorem rparent_is : ParentIs 9 := by
  intro s w hs
  have HSP := Lib.hid (rsplit_is s w hs)
  have hjs : ∀ l ns, splitL l = some ns → (∀ n ∈ ns, isNm n = true) ∧ ns.length ≤ 4 := fun l ns h => ⟨(join_split h).2.1, (join_split h).2.2.1⟩
  cases hsp : splitL (bys s) with
  | none =>
    have E1 : Hid (errS (bys s) = 9 ∧ nms (bys s) = [] ∧ parL (bys s) = [] ∧ lastL (bys s) = [] ∧ errP (bys s) = 9) := Lib.hid (by simp [errS, nms, parL, lastL, errP, hsp])
    clear hjs hsp
    go_enter Tryd.func9, Tryd.ntmps9
    go_wp2_with (go_at_call 7; refine HSP.out.mono ?_; rintro e w1 ⟨p, n, c, rfl, hn, hr, hb⟩; rw [E1.out.1]; have HB := Lib.hid hb; clear hb hn hr)
    go_ret3
    exact ⟨by rw [E1.out.2.2.1, E1.out.2.2.2.1, E1.out.2.2.2.2]; rfl, HB.out⟩
  | some ns =>
    cases ns with
    | nil =>
      have E1 : Hid (errS (bys s) = 0 ∧ nms (bys s) = [] ∧ parL (bys s) = [] ∧ lastL (bys s) = [] ∧ errP (bys s) = 1) := Lib.hid (by simp [errS, nms, parL, lastL, errP, hsp])
      clear hjs hsp
      go_enter Tryd.func9, Tryd.ntmps9
      go_wp2_with (go_at_call 7; refine HSP.out.mono ?_; rintro e w1 ⟨p, n, c, rfl, hn, hr, hb⟩; rw [E1.out.1]; have HB := Lib.hid hb; rw [E1.out.2.1] at hn; obtain rfl : n = 0 := hn; clear hb hr)
      go_ret3
      exact ⟨by rw [E1.out.2.2.1, E1.out.2.2.2.1, E1.out.2.2.2.2]; rfl, HB.out⟩
    | cons x xs =>
      obtain ⟨hnm, hl4⟩ := hjs _ _ hsp
      have E1 : Hid (errS (bys s) = 0 ∧ nms (bys s) = x :: xs ∧ parL (bys s) = joinP ((x :: xs).take xs.length) ∧ lastL (bys s) = (x :: xs).getD xs.length [] ∧ errP (bys s) = 0) := Lib.hid (by
        refine ⟨by simp [errS, hsp], by simp [nms, hsp], ?_, ?_, by simp [errP, hsp]⟩
        · rw [parL, hsp]
          simp only
          rw [List.dropLast_eq_take]
          rfl
        · rw [lastL, hsp]
          simp only
          rw [List.getLastD_eq_getLast?, List.getLast?_eq_getElem?, List.getD]
          rfl)
      have HJ := Lib.hid fun (a : Addr) c w' (hr : Rd w' 1 (.slice (some a) (xs.length + 1) c) (xs.length + 1) (strC (x :: xs))) => rjoin_is (some a) xs.length c ((x :: xs).take xs.length) w' (rd_pre hr xs.length (by omega)) (by simp at hl4; omega) (fun y hy => by have := (isNm_len (hnm y (List.mem_of_mem_take hy))).2; omega)
      have hk4 : xs.length ≤ 3 := by simp at hl4; omega
      clear hjs hsp hnm hl4
      have HGL : Hid ((x :: xs).length = xs.length + 1) := Lib.hid rfl
      generalize xs.length = k at *
      generalize x :: xs = L at *
      have hki : (k : Int) ≤ 3 := by omega
      have W1 : Hid (IntKind.i64.wrap (k : Int) = (k : Int)) := Lib.hid (by
        simp [IntKind.wrap, IntKind.signed, IntKind.bits]
        omega)
      go_enter Tryd.func9, Tryd.ntmps9
      go_upto_region 6 with (go_at_call 7; refine HSP.out.mono ?_; rintro e w1 ⟨p, n, c, rfl, hn, hr, hb⟩; rw [E1.out.1]; have HB := Lib.hid hb; rw [E1.out.2.1] at hn hr; rw [HGL.out] at hn; subst hn; have HR := Lib.hid hr; clear hb hr)
      obtain ⟨b, off, rfl, hc1, hc2, hbl, hll, hcell⟩ := str_at HR.out (i := k) (by omega)
      have HC := Lib.hid fun w' (hw : Below w1.heap.size w1 w') => (hw.cell (p := ⟨b, off + k, none⟩) hbl).trans (hcell k (by omega))
      have HJ2 := Lib.hid fun w' (hw : Below w1.heap.size w1 w') => HJ.out ⟨b, off, none⟩ c w' (HR.out.later hw)
      clear hcell hll hbl hc2
      have hck : (k : Int) ≤ c := by omega
      have hkk : (k : Int) < (k : Int) + 1 := by omega
      have h0 := Below.refl w1.drew.heap.size w1.drew
      refine wp_region_held_drew (S := ext w1.drew) (by kernel_rfl) (Below.refl _ _) (fun hH0 => ?_)
      refine wpAnyH_take (i := 0) (oi := { dst := some 18, op := Op.move (Operand.tmp 5), type := 22, pos := "ref.go:57", after := #[], guard := none }) (v := ?_) rfl (by kernel_rfl) (by kernel_rfl) (by kernel_rfl) (fun _ _ _ h => h) (Or.inl ⟨by rfl, ?_⟩) (by assumption) ?_
      rotate_left
      · (intro w' hSw; go_simp; try with_reducible rfl)
      try simp only [Act.put, List.setIfInBounds_toArray, List.set_cons_zero, List.set_cons_succ]
      refine wpAnyH_take (i := 1) (oi := { dst := some 19, op := Op.move (Operand.tmp 5), type := 22, pos := "ref.go:57", after := #[], guard := none }) (v := ?_) rfl (by kernel_rfl) (by kernel_rfl) (by kernel_rfl) (fun _ _ _ h => h) (Or.inl ⟨by rfl, ?_⟩) (by assumption) ?_
      rotate_left
      · (intro w' hSw; go_simp; try with_reducible rfl)
      try simp only [Act.put, List.setIfInBounds_toArray, List.set_cons_zero, List.set_cons_succ]
      refine wpAnyH_take (i := 2) (oi := { dst := some 20, op := Op.call { callee := Callee.builtin Builtin.len, args := #[Operand.tmp 19], argTypes := #[22] }, type := 3, pos := "ref.go:57", after := #[{ on := 1, ground := Ground.data }], guard := none }) (v := ?_) rfl (by kernel_rfl) (by kernel_rfl) (by kernel_rfl) (fun _ _ _ h => h) (Or.inl ⟨by rfl, ?_⟩) (by assumption) ?_
      rotate_left
      · (intro w' hSw; go_simp; try with_reducible rfl)
      try simp only [Act.put, List.setIfInBounds_toArray, List.set_cons_zero, List.set_cons_succ]
      refine wpAnyH_take (i := 3) (oi := { dst := some 21, op := Op.binOp BinOp.sub 3 (Operand.tmp 20) (Operand.const (Value.int IntKind.i64 1)) 3, type := 3, pos := "ref.go:57", after := #[{ on := 2, ground := Ground.data }], guard := none }) (v := ?_) rfl (by kernel_rfl) (by kernel_rfl) (by kernel_rfl) (fun _ _ _ h => h) (Or.inl ⟨by rfl, ?_⟩) (by assumption) ?_
      rotate_left
      · (intro w' hSw; have e := W1.out; go_simp; try with_reducible rfl)
      try simp only [Act.put, List.setIfInBounds_toArray, List.set_cons_zero, List.set_cons_succ]
      refine wpAnyH_take (i := 4) (oi := { dst := some 22, op := Op.slice 22 (Operand.tmp 18) none (some (Operand.tmp 21)) none, type := 22, pos := "ref.go:57", after := #[{ on := 0, ground := Ground.data }, { on := 3, ground := Ground.data }], guard := none }) (v := ?_) rfl (by kernel_rfl) (by kernel_rfl) (by kernel_rfl) (fun _ _ _ h => h) (Or.inl ⟨by rfl, ?_⟩) (by assumption) ?_
      rotate_left
      · (intro w' hSw; go_simp; try with_reducible rfl)
      try simp only [Act.put, List.setIfInBounds_toArray, List.set_cons_zero, List.set_cons_succ]
      refine wpAnyH_take (i := 6) (oi := { dst := some 24, op := Op.move (Operand.tmp 5), type := 22, pos := "ref.go:57", after := #[{ on := 12, ground := Ground.gcOnly Departure.lateStores }], guard := none }) (v := ?_) rfl (by kernel_rfl) (by kernel_rfl) (by kernel_rfl) (fun _ _ _ h => h) (Or.inl ⟨by rfl, ?_⟩) (by assumption) ?_
      rotate_left
      · (intro w' hSw; go_simp; try with_reducible rfl)
      try simp only [Act.put, List.setIfInBounds_toArray, List.set_cons_zero, List.set_cons_succ]
      refine wpAnyH_take (i := 7) (oi := { dst := some 25, op := Op.move (Operand.tmp 5), type := 22, pos := "ref.go:57", after := #[], guard := none }) (v := ?_) rfl (by kernel_rfl) (by kernel_rfl) (by kernel_rfl) (fun _ _ _ h => h) (Or.inl ⟨by rfl, ?_⟩) (by assumption) ?_
      rotate_left
      · (intro w' hSw; go_simp; try with_reducible rfl)
      try simp only [Act.put, List.setIfInBounds_toArray, List.set_cons_zero, List.set_cons_succ]
      refine wpAnyH_take (i := 8) (oi := { dst := some 26, op := Op.call { callee := Callee.builtin Builtin.len, args := #[Operand.tmp 25], argTypes := #[22] }, type := 3, pos := "ref.go:57", after := #[{ on := 7, ground := Ground.data }], guard := none }) (v := ?_) rfl (by kernel_rfl) (by kernel_rfl) (by kernel_rfl) (fun _ _ _ h => h) (Or.inl ⟨by rfl, ?_⟩) (by assumption) ?_
      rotate_left
      · (intro w' hSw; go_simp; try with_reducible rfl)
      try simp only [Act.put, List.setIfInBounds_toArray, List.set_cons_zero, List.set_cons_succ]
      refine wpAnyH_take (i := 9) (oi := { dst := some 27, op := Op.binOp BinOp.sub 3 (Operand.tmp 26) (Operand.const (Value.int IntKind.i64 1)) 3, type := 3, pos := "ref.go:57", after := #[{ on := 8, ground := Ground.data }, { on := 12, ground := Ground.gcOnly Departure.lateStores }], guard := none }) (v := ?_) rfl (by kernel_rfl) (by kernel_rfl) (by kernel_rfl) (fun _ _ _ h => h) (Or.inl ⟨by rfl, ?_⟩) (by assumption) ?_
      rotate_left
      · (intro w' hSw; have e := W1.out; go_simp; try with_reducible rfl)
      try simp only [Act.put, List.setIfInBounds_toArray, List.set_cons_zero, List.set_cons_succ]
      refine wpAnyH_take (i := 10) (oi := { dst := some 28, op := Op.indexAddr 22 (Operand.tmp 24) (Operand.tmp 27), type := 0, pos := "ref.go:57", after := #[{ on := 6, ground := Ground.data }, { on := 9, ground := Ground.data }, { on := 12, ground := Ground.gcOnly Departure.lateStores }], guard := none }) (v := ?_) rfl (by kernel_rfl) (by kernel_rfl) (by kernel_rfl) (fun _ _ _ h => h) (Or.inl ⟨by rfl, ?_⟩) (by assumption) ?_
      rotate_left
      · (intro w' hSw; go_simp; try with_reducible rfl)
      try simp only [Act.put, List.setIfInBounds_toArray, List.set_cons_zero, List.set_cons_succ]
      refine' wpAnyH_take (i := 11) (oi := { dst := some 29, op := Op.load 9 (Operand.tmp 28), type := 9, pos := "ref.go:57", after := #[{ on := 10, ground := Ground.data }, { on := 12, ground := Ground.gcOnly Departure.lateStores }], guard := none }) (v := _) rfl (by kernel_rfl) (by kernel_rfl) (by kernel_rfl) (fun _ _ _ h => h) (Go.Proofs.YtpfpibmnhnjpmaaDoor.dsk.ld_cell (by rfl) 9 _ Tryd.underlying9 rfl _ rfl b (off + k) rfl _ (fun w' hw => HC.out w' (below_drew hw))) (by assumption) ?_
      try simp only [Act.put, List.setIfInBounds_toArray, List.set_cons_zero, List.set_cons_succ]
      -- 5
      refine wpAnyH_ready (rs := [5]) (by kernel_rfl) (by simp) ?_
      refine AllReadyH.cons (o := { dst := some 23, op := Op.call { callee := Callee.value (Operand.func 13), args := #[Operand.tmp 22], argTypes := #[22] }, type := 9, pos := "ref.go:57", after := #[{ on := 4, ground := Ground.data }], guard := none }) rfl (fun K hK => ?_) AllReadyH.nil
      go_simp
      refine (HJ2.out _ (below_drew h0)).mono ?_
      rintro e v1 ⟨rfl, hb1⟩
      have h1 := below_trans h0 hb1
      dsimp only
      refine hK.out _ _ ?_ (fun hHeld => ?_)
      · exact h1
      clear hK K
      try simp only [Act.put, List.setIfInBounds_toArray, List.set_cons_zero, List.set_cons_succ]
      refine wpAnyH_take (i := 12) (oi := { dst := some 2, op := Op.assign (Operand.tmp 23), type := 9, pos := "ref.go:57", after := #[{ on := 5, ground := Ground.data }, { on := 5, ground := Ground.chain }, { on := 0, ground := Ground.phase }, { on := 1, ground := Ground.phase }, { on := 2, ground := Ground.phase }, { on := 3, ground := Ground.phase }, { on := 4, ground := Ground.phase }, { on := 5, ground := Ground.phase }, { on := 6, ground := Ground.textOnly Departure.lateStores }, { on := 7, ground := Ground.textOnly Departure.lateStores }, { on := 8, ground := Ground.textOnly Departure.lateStoresUnsure }, { on := 9, ground := Ground.textOnly Departure.lateStores }, { on := 10, ground := Ground.textOnly Departure.lateStores }, { on := 11, ground := Ground.textOnly Departure.lateStores }], guard := none }) (v := ?_) rfl (by kernel_rfl) (by kernel_rfl) (by kernel_rfl) (fun _ _ _ h => h) (Or.inl ⟨by rfl, ?_⟩) (by assumption) ?_
      rotate_left
      · (intro w' hSw; go_simp; try with_reducible rfl)
      try simp only [Act.put, List.setIfInBounds_toArray, List.set_cons_zero, List.set_cons_succ]
      refine wpAnyH_take (i := 13) (oi := { dst := some 3, op := Op.assign (Operand.tmp 29), type := 9, pos := "ref.go:57", after := #[{ on := 11, ground := Ground.data }, { on := 12, ground := Ground.chain }, { on := 0, ground := Ground.phase }, { on := 1, ground := Ground.phase }, { on := 2, ground := Ground.phase }, { on := 3, ground := Ground.phase }, { on := 4, ground := Ground.phase }, { on := 5, ground := Ground.phase }, { on := 6, ground := Ground.phase }, { on := 7, ground := Ground.phase }, { on := 8, ground := Ground.phase }, { on := 9, ground := Ground.phase }, { on := 10, ground := Ground.phase }, { on := 11, ground := Ground.phase }, { on := 12, ground := Ground.phase }], guard := none }) (v := ?_) rfl (by kernel_rfl) (by kernel_rfl) (by kernel_rfl) (fun _ _ _ h => h) (Or.inl ⟨by rfl, ?_⟩) (by assumption) ?_
      rotate_left
      · (intro w' hSw; go_simp; try with_reducible rfl)
      try simp only [Act.put, List.setIfInBounds_toArray, List.set_cons_zero, List.set_cons_succ]
      refine wpAnyH_take (i := 14) (oi := { dst := some 4, op := Op.assign (Operand.const (Value.int IntKind.i64 0)), type := 24, pos := "ref.go:57", after := #[{ on := 13, ground := Ground.chain }, { on := 0, ground := Ground.phase }, { on := 1, ground := Ground.phase }, { on := 2, ground := Ground.phase }, { on := 3, ground := Ground.phase }, { on := 4, ground := Ground.phase }, { on := 5, ground := Ground.phase }, { on := 6, ground := Ground.phase }, { on := 7, ground := Ground.phase }, { on := 8, ground := Ground.phase }, { on := 9, ground := Ground.phase }, { on := 10, ground := Ground.phase }, { on := 11, ground := Ground.phase }, { on := 12, ground := Ground.phase }, { on := 13, ground := Ground.phase }], guard := none }) (v := ?_) rfl (by kernel_rfl) (by kernel_rfl) (by kernel_rfl) (fun _ _ _ h => h) (Or.inl ⟨by rfl, ?_⟩) (by assumption) ?_
      rotate_left
      · (intro w' hSw; go_simp; try with_reducible rfl)
      try simp only [Act.put, List.setIfInBounds_toArray, List.set_cons_zero, List.set_cons_succ]
      refine wpAnyH_done (by kernel_rfl) ?_ _
      go_wp2_with fail
      go_ret3
      exact ⟨by rw [E1.out.2.2.1, E1.out.2.2.2.1, E1.out.2.2.2.2]; rfl, below_trans HB.out (below_drew h1)⟩
end Go.Proofs.YtpfpibmnhnjpmaaDoor.pa
/- What the reference's Under gives. -/
namespace Go.Proofs.YtpfpibmnhnjpmaaDoor.pa
set_option maxRecDepth 100000
open Go.ChangeShapes Go.WideShapes Go.ChangeAt Go.RowKit
open Go.Proofs.YtpfpibmnhnjpmaaDoor.rows
open Go.Proofs.YtpfpibmnhnjpmaaDoor.ly
set_option linter.unusedVariables false
set_option linter.unusedSimpArgs false

theorem isNm_bytes {l : List Int} (h : isNm l = true) : ∀ x ∈ l, 0 ≤ x ∧ x < 256 := by
  unfold isNm at h
  rw [Bool.and_eq_true] at h
  intro x hx
  have := (inNm_iff x).1 (List.all_eq_true.1 h.2 x hx)
  omega
theorem str_eq {a b : List Int} (ha : ∀ x ∈ a, 0 ≤ x ∧ x < 256) (hb : ∀ x ∈ b, 0 ≤ x ∧ x < 256) : ((strOfNums a).toList == (strOfNums b).toList) = decide (a = b) := by
  rw [Bool.eq_iff_iff, beq_iff_eq, decide_eq_true_eq, ByteArray.toList_eq, ByteArray.toList_eq]
  constructor
  · intro h
    apply str_inj ha hb
    generalize strOfNums a = x at h
    generalize strOfNums b = y at h
    cases x; cases y
    simpa using h
  · rintro rfl; rfl
def underB (a b : List Int) : Bool := match splitL a, splitL b with
  | some x, some y => decide (y.length ≤ x.length) && decide (x.take y.length = y)
  | _, _ => false
def UnderIs (f : Nat) : Prop := ∀ (s t : ByteArray) (w : World), s.size ≤ 100000 → t.size ≤ 100000 →
  Calls Tryd.prog f #[.string s, .string t] w fun e w' => e = .returned (.bool (underB (bys s) (bys t))) ∧ Below w.heap.size w w'
theorem take_next {x y : List (List Int)} {i : Nat} (h : x.take i = y.take i) (hx : i < x.length) (hy : i < y.length) : (x.take (i + 1) = y.take (i + 1)) ↔ x.getD i [] = y.getD i [] := by
  have e1 : x.getD i [] = x[i] := by simp [List.getD, hx]
  have e2 : y.getD i [] = y[i] := by simp [List.getD, hy]
  rw [e1, e2, List.take_succ_eq_append_getElem hx, List.take_succ_eq_append_getElem hy, h]
  constructor
  · intro h2
    have := List.append_cancel_left h2
    simpa using this
  · intro h2
    rw [h2]
set_option maxHeartbeats 1600000 in
theorem runder_is : UnderIs 15 := by
  intro s t w hs ht
  have HSP := Lib.hid fun w => rsplit_is s w hs
  have HTP := Lib.hid fun w => rsplit_is t w ht
  cases hsp : splitL (bys s) with
  | none =>
    have HU : Hid (underB (bys s) (bys t) = false) := Lib.hid (by simp [underB, hsp])
    have E1 : Hid (errS (bys s) = 9) := Lib.hid (by simp [errS, hsp])
    clear hsp
    go_enter Tryd.func15, Tryd.ntmps15
    go_upto_region 2 with (go_at_call 7; refine (HSP.out _).mono ?_; rintro e w1 ⟨p, n, c, rfl, hn, hr, hb⟩; rw [E1.out]; have HB := Lib.hid hb; clear hb hn hr)
    go_wp2_with (go_at_call 7; refine (HTP.out _).mono ?_; rintro e w2 ⟨q, m, d, rfl, hm, hr2, hb2⟩; have HB2 := Lib.hid (below_trans HB.out hb2); clear hb2 hm hr2)
    go_ret
    exact ⟨by rw [HU.out]; rfl, HB2.out⟩
  | some x =>
    cases htp : splitL (bys t) with
    | none =>
      have HU : Hid (underB (bys s) (bys t) = false) := Lib.hid (by simp [underB, hsp, htp])
      have E1 : Hid (errS (bys s) = 0) := Lib.hid (by simp [errS, hsp])
      have E2 : Hid (errS (bys t) = 9) := Lib.hid (by simp [errS, htp])
      clear hsp htp
      go_enter Tryd.func15, Tryd.ntmps15
      go_upto_region 2 with (go_at_call 7; refine (HSP.out _).mono ?_; rintro e w1 ⟨p, n, c, rfl, hn, hr, hb⟩; rw [E1.out]; have HB := Lib.hid hb; clear hb hn hr)
      go_wp2_with (go_at_call 7; refine (HTP.out _).mono ?_; rintro e w2 ⟨q, m, d, rfl, hm, hr2, hb2⟩; rw [E2.out]; have HB2 := Lib.hid (below_trans HB.out hb2); clear hb2 hm hr2)
      go_ret
      exact ⟨by rw [HU.out]; rfl, HB2.out⟩
    | some y =>
      have HU : Hid (underB (bys s) (bys t) = (decide (y.length ≤ x.length) && decide (x.take y.length = y))) := Lib.hid (by simp [underB, hsp, htp])
      have E1 : Hid (errS (bys s) = 0 ∧ nms (bys s) = x) := Lib.hid (by simp [errS, nms, hsp])
      have E2 : Hid (errS (bys t) = 0 ∧ nms (bys t) = y) := Lib.hid (by simp [errS, nms, htp])
      have NX := Lib.hid (join_split hsp).2.1
      have NY := Lib.hid (join_split htp).2.1
      have hx4 := (join_split hsp).2.2.1
      have hy4 := (join_split htp).2.2.1
      have LX : Hid (x.length = x.length) := Lib.hid rfl
      have LY : Hid (y.length = y.length) := Lib.hid rfl
      clear hsp htp
      obtain ⟨n, hn⟩ : ∃ n, x.length = n := ⟨_, rfl⟩
      obtain ⟨m, hm⟩ : ∃ m, y.length = m := ⟨_, rfl⟩
      rw [hn] at hx4
      rw [hm] at hy4
      have HN := Lib.hid hn
      have HM := Lib.hid hm
      rw [hn, hm] at HU
      clear LX LY hn hm
      by_cases hlen : n < m
      · have hleni : (n : Int) < m := by omega
        have HF : Hid (underB (bys s) (bys t) = false) := Lib.hid (by rw [HU.out, decide_eq_false (by omega)]; rfl)
        go_enter Tryd.func15, Tryd.ntmps15
        go_upto_region 2 with (go_at_call 7; refine (HSP.out _).mono ?_; rintro e w1 ⟨p, n', c, rfl, hn, hr, hb⟩; rw [E1.out.1]; rw [E1.out.2, HN.out] at hn; subst hn; have HB := Lib.hid hb; clear hb hr)
        go_wp2_with (go_at_call 7; refine (HTP.out _).mono ?_; rintro e w2 ⟨q, m', d, rfl, hm, hr2, hb2⟩; rw [E2.out.1]; rw [E2.out.2, HM.out] at hm; subst hm; have HB2 := Lib.hid (below_trans HB.out hb2); clear hb2 hr2)
        go_ret
        exact ⟨by rw [HF.out]; rfl, HB2.out⟩
      · have hleni : (m : Int) ≤ n := by omega
        have HF : Hid (underB (bys s) (bys t) = decide (x.take m = y)) := Lib.hid (by rw [HU.out, decide_eq_true (by omega)]; rfl)
        have hmi : (m : Int) ≤ 4 := by omega
        go_enter Tryd.func15, Tryd.ntmps15
        go_upto_region 2 with (go_at_call 7; refine (HSP.out _).mono ?_; rintro e w1 ⟨p, n', c, rfl, hn, hr, hb⟩; rw [E1.out.1]; rw [E1.out.2, HN.out] at hn; subst hn; rw [E1.out.2] at hr; have HB := Lib.hid hb; have HR := Lib.hid hr; clear hb hr)
        go_wp2_with (go_at_call 7; refine (HTP.out _).mono ?_; rintro e w2 ⟨q, m', d, rfl, hm, hr2, hb2⟩; rw [E2.out.1]; rw [E2.out.2, HM.out] at hm; subst hm; rw [E2.out.2] at hr2; have HB2 := Lib.hid (below_trans HB.out hb2); have HR1 := Lib.hid (HR.out.later hb2); have HR2 := Lib.hid hr2; clear hb2 hr2)
        go_loopw [9] (fun iv wr => ∃ i : Nat, i ≤ m' ∧ iv = .int .i64 (i : Int) ∧ Hid (x.take i = y.take i) ∧ Hid (Below w2.heap.size w2 wr)) (fun iv _ => m' - (intOf iv).toNat)
        case atStart => exact ⟨0, by omega, rfl, Lib.hid rfl, Lib.hid (Below.refl _ _)⟩
        case round =>
          obtain ⟨i, hi, rfl, HE, HBr⟩ := hrel
          by_cases hlt : i < m'
          · have hlti : (i : Int) < m' := by omega
            have hltn : (i : Int) < n' := by omega
            obtain ⟨b1, o1, rfl, _, _, _, l1, hc1⟩ := str_at (HR1.out.later HBr.out) (i := i) (by omega)
            obtain ⟨b2, o2, rfl, _, _, _, l2, hc2⟩ := str_at (HR2.out.later HBr.out) (i := i) hlt
            have k1 := hc1 i (by omega)
            have k2 := hc2 i hlt
            have HNX := Lib.hid (take_next HE.out (by omega) (by omega))
            have hbx := isNm_bytes (NX.out (x.getD i []) (by have h : i < x.length := by omega
                                                             rw [show x.getD i [] = x[i] by simp [List.getD, h]]; exact List.getElem_mem h))
            have hby := isNm_bytes (NY.out (y.getD i []) (by have h : i < y.length := by omega
                                                             rw [show y.getD i [] = y[i] by simp [List.getD, h]]; exact List.getElem_mem h))
            have hq := str_eq hbx hby
            clear hc1 hc2 l1 l2 hbx hby
            cases hd : decide (x.getD i [] = y.getD i []) with
            | true =>
              have HT := Lib.hid (HNX.out.2 (of_decide_eq_true hd))
              rw [hd] at hq
              generalize x.getD i [] = u at k1 hq
              generalize y.getD i [] = v at k2 hq
              clear hd HNX
              go_wp2_with fail
              go_quiet (fail)
              go_wp2_with fail
              go_roundw
              case rel => exact ⟨i + 1, by omega, by go_num, HT, Lib.hid (blw_drewN HBr.out _)⟩
              case measure => simp [intOf]; omega
            | false =>
              have HZ : Hid (underB (bys s) (bys t) = false) := Lib.hid (by
                rw [HF.out, decide_eq_false_iff_not]
                intro h
                apply of_decide_eq_false hd
                rw [← HNX.out]
                have h2 := congrArg (List.take (i + 1)) h
                rw [List.take_take, Nat.min_eq_left (by omega)] at h2
                exact h2)
              rw [hd] at hq
              generalize x.getD i [] = u at k1 hq
              generalize y.getD i [] = v at k2 hq
              clear hd HNX
              go_wp2_with fail
              go_quiet (fail)
              go_wp2_with fail
              go_ret
              exact ⟨by rw [HZ.out]; rfl, below_trans HB2.out (blw_drewN HBr.out _)⟩
          · obtain rfl : i = m' := by omega
            have HZ : Hid (underB (bys s) (bys t) = true) := Lib.hid (by
              rw [HF.out, HE.out, List.take_of_length_le (by rw [HM.out]; exact Nat.le_refl _)]
              simp)
            go_wp2_with fail
            go_ret
            exact ⟨by rw [HZ.out]; rfl, below_trans HB2.out HBr.out⟩
end Go.Proofs.YtpfpibmnhnjpmaaDoor.pa
/- The arguments of layer 8's laws: slices of texts. -/
namespace Go.Proofs.YtpfpibmnhnjpmaaDoor.pa
set_option maxRecDepth 100000
open Go.ChangeShapes Go.WideShapes Go.ChangeAt Go.RowKit
open Go.Proofs.YtpfpibmnhnjpmaaDoor.rows
open Go.Proofs.YtpfpibmnhnjpmaaDoor.ly
set_option linter.unusedVariables false
set_option linter.unusedSimpArgs false

theorem cellsString : Tryd.prog.cellsOf 9 = 1 := by kernel_rfl
theorem flat_one (ns : List (List Int)) : (ns.map fun n => [Value.string (strOfNums n)]).flatten = strC ns := by
  induction ns with
  | nil => rfl
  | cons n ns ih => rw [List.map_cons, List.flatten_cons, ih]; rfl
theorem strs_of_trod {H : Type} {enc : TypeId × Value → H} {W : World} {p : Option Addr} {len cap : Nat} {d : DataW H} {ps : List MemPlace}
    (h : DataW.Trod enc Tryd.prog W 0 (fun _ => true) true 22 (.slice p len cap) d ps) : ∃ ns : List (List Int), Bs ns ∧ Rd W 1 (.slice p len cap) len (strC ns) ∧ len ≤ maxLen ∧ ∀ n ∈ ns, n.length ≤ maxLen := by
  obtain ⟨fuel, hf⟩ := h
  obtain ⟨p', len', cap', l, hcs, hg, hll, hr, hm⟩ := open_slice (fun n : List Int => [Value.string (strOfNums n)]) (by decide) Tryd.underlying22 cellsString (fun n : List Int => (∀ x ∈ n, 0 ≤ x ∧ x < 256) ∧ n.length ≤ maxLen) (fun _ _ => rfl) (fun n cs x hx => by
    obtain ⟨s, hs, _, hl⟩ := DataW.trod_string Tryd.underlying9 hx
    exact ⟨bys s, ⟨bys_bytes s, by rw [bys_len]; exact hl⟩, by rw [hs, strOf_bys]⟩) hf
  simp [Value.cells] at hcs
  obtain ⟨rfl, rfl, rfl⟩ := hcs
  rw [flat_one] at hr
  exact ⟨l, fun n hn => (hg n hn).1, hr, hm, fun n hn => (hg n hn).2⟩
end Go.Proofs.YtpfpibmnhnjpmaaDoor.pa
/- knows of layer 8, over what the code's functions give. -/
namespace Go.Proofs.YtpfpibmnhnjpmaaDoor.pa
set_option maxRecDepth 100000
open Go.ChangeShapes Go.WideShapes Go.ChangeAt Go.RowKit
open Go.Proofs.YtpfpibmnhnjpmaaDoor.rows
open Go.Proofs.YtpfpibmnhnjpmaaDoor.ly
set_option linter.unusedVariables false
set_option linter.unusedSimpArgs false

/-- the library's search reads a variable of the library's, which holds some integer -/
def Mx (w : World) : Prop := ∃ m, w.cell? ⟨0, 0, none⟩ = some (.int .i64 m)
theorem Mx.later {w w' : World} (h : Mx w) (hb : Below w.heap.size w w') : Mx w' := by
  obtain ⟨m, hm⟩ := h
  exact ⟨m, by rw [hb.cell (World.block_lt_of_cell? _ _ hm)]; exact hm⟩
theorem Mx.lt {w : World} (h : Mx w) : 0 < w.heap.size := by
  obtain ⟨m, hm⟩ := h
  exact World.block_lt_of_cell? _ _ hm
def SplitMx (f : Nat) : Prop := ∀ (s : ByteArray) (w : World), Mx w → s.size ≤ 100000 →
  Calls Tryd.prog f #[.string s] w fun e w' => ∃ p n c, e = .returned (.tuple #[.slice p n c, .int .i64 (errS (bys s))]) ∧ n = (nms (bys s)).length ∧ Rd w' 1 (.slice p n c) n (strC (nms (bys s))) ∧ Below w.heap.size w w'
def ParentMx (f : Nat) : Prop := ∀ (s : ByteArray) (w : World), Mx w → s.size ≤ 100000 →
  Calls Tryd.prog f #[.string s] w fun e w' => e = .returned (.tuple #[.string (strOfNums (parL (bys s))), .string (strOfNums (lastL (bys s))), .int .i64 (errP (bys s))]) ∧ Below w.heap.size w w'
def UnderMx (f : Nat) : Prop := ∀ (s t : ByteArray) (w : World), Mx w → s.size ≤ 100000 → t.size ≤ 100000 →
  Calls Tryd.prog f #[.string s, .string t] w fun e w' => e = .returned (.bool (underB (bys s) (bys t))) ∧ Below w.heap.size w w'
/-- what is asked of the code -/
structure CodeIs : Prop where
  split : SplitMx 6
  join : JoinIs 12
  parent : ParentMx 8
  under : UnderMx 14
theorem num_any (n : Int) (w : World) : Calls Tryd.prog 11 #[.int .i64 n] w fun e w' => e = .returned (.int .i64 n) ∧ w = w' := by
  go_enter Tryd.func11, Tryd.ntmps11
  go_wp2
  go_ret
  exact ⟨rfl, rfl⟩
def abS : ByteArray := { data := #[47, 97, 47, 98] }
theorem abS_bys : bys abS = [47, 97, 47, 98] := rfl
theorem ab_split : splitL [47, 97, 47, 98] = some [[97], [98]] := split_join (ns := [[97], [98]]) (by decide) (by decide)
theorem root_split : splitL [47] = some [] := splitL_root
set_option maxHeartbeats 1600000 in
theorem knows_of (C : CodeIs) (w : World) (hmx : Mx w) : Calls Tryd.prog 5 #[] w fun e w' => e = .returned (.bool true) ∧ Below w.heap.size w w' := by
  have HM := Lib.hid hmx
  have HP : Hid (∀ w, Mx w → Calls Tryd.prog 8 #[.string { data := #[47, 97, 47, 98] }] w fun e w' => e = .returned (.tuple #[.string { data := #[47, 97] }, .string { data := #[98] }, .int .i64 0]) ∧ Below w.heap.size w w') := Lib.hid fun w hm => by
    have h := C.parent abS w hm (by decide)
    rw [abS_bys] at h
    have e1 : parL [47, 97, 47, 98] = [47, 97] := by rw [parL, ab_split]; rfl
    have e2 : lastL [47, 97, 47, 98] = [98] := by rw [lastL, ab_split]; rfl
    have e3 : errP [47, 97, 47, 98] = 0 := by rw [errP, ab_split]
    rw [e1, e2, e3] at h
    exact h
  have HS : Hid (∀ w, Mx w → Calls Tryd.prog 6 #[.string { data := #[47, 97, 47, 98] }] w fun e w' => (∃ p c, e = .returned (.tuple #[.slice p 2 c, .int .i64 0])) ∧ Below w.heap.size w w') := Lib.hid fun w hm => by
    refine (C.split abS w hm (by decide)).mono ?_
    rintro e w' ⟨p, n, c, rfl, hn, _, hb⟩
    rw [abS_bys] at hn ⊢
    have e1 : errS [47, 97, 47, 98] = 0 := by rw [errS, ab_split]; rfl
    have e2 : nms [47, 97, 47, 98] = [[97], [98]] := by rw [nms, ab_split]; rfl
    rw [e2] at hn
    obtain rfl : n = 2 := hn
    rw [e1]
    exact ⟨⟨p, c, rfl⟩, hb⟩
  have HJ : Hid (∀ w, Calls Tryd.prog 12 #[.slice none 0 0] w fun e w' => e = .returned (.string { data := #[47] }) ∧ Below w.heap.size w w') := Lib.hid fun w => C.join none 0 0 [] w (rd_nil _ 1) (by decide) (by simp)
  have HU : Hid (∀ w, Mx w → Calls Tryd.prog 14 #[.string { data := #[47, 97, 47, 98] }, .string { data := #[47] }] w fun e w' => e = .returned (.bool true) ∧ Below w.heap.size w w') := Lib.hid fun w hm => by
    have h := C.under abS { data := #[47] } w hm (by decide) (by decide)
    have e1 : underB (bys abS) (bys { data := #[47] }) = true := by
      rw [abS_bys, show bys { data := #[47] } = [47] from rfl, underB, ab_split, root_split]; rfl
    rw [e1] at h
    exact h
  clear C hmx
  go_enter Tryd.func5, Tryd.ntmps5
  go_wp2_with (first | (go_at_call 8; refine (HP.out _ HM.out).mono ?_; rintro e w1 ⟨rfl, hb⟩; have B1 := Lib.hid hb; clear hb) | (go_at_call 6; refine (HS.out _ (HM.out.later B1.out)).mono ?_; rintro e w2 ⟨⟨p, c, rfl⟩, hb⟩; have B2 := Lib.hid (below_trans B1.out hb); clear hb) | (go_at_call 11; refine (num_any _ _).mono ?_; rintro e w9 ⟨rfl, rfl⟩) | (go_at_call 12; refine (HJ.out _).mono ?_; rintro e w3 ⟨rfl, hb⟩; have B3 := Lib.hid (below_trans B2.out hb); clear hb) | (go_at_call 14; refine (HU.out _ (HM.out.later B3.out)).mono ?_; rintro e w4 ⟨rfl, hb⟩; have B4 := Lib.hid (below_trans B3.out hb); clear hb))
  go_ret
  exact ⟨rfl, B4.out⟩
end Go.Proofs.YtpfpibmnhnjpmaaDoor.pa
/- PathTells' walk, over what the code's functions give. -/
namespace Go.Proofs.YtpfpibmnhnjpmaaDoor.pa
set_option maxRecDepth 100000
open Go.ChangeShapes Go.WideShapes Go.ChangeAt Go.RowKit
open Go.Proofs.YtpfpibmnhnjpmaaDoor.rows
open Go.Proofs.YtpfpibmnhnjpmaaDoor.ly
set_option linter.unusedVariables false
set_option linter.unusedSimpArgs false

set_option maxRecDepth 100000 in
set_option maxHeartbeats 6400000 in
theorem tells_of (C : CodeIs) (s : ByteArray) (hs : s.size ≤ maxLen) (t : ByteArray) (ht : t.size ≤ maxLen) (p : Option Addr) (n c : Nat) (ns : List (List Int)) (w : World) (hr : Rd w 1 (.slice p n c) n (strC ns)) (hn : n ≤ maxLen) (hb : Bs ns) (hmx : Mx w) :
    Calls Tryd.prog 3 #[.string s, .string t, .slice p n c] w fun e w' => e = .returned (.bool true) ∧ Below w.heap.size w w' := by
  have HK := Lib.hid (knows_of C)
  have HM := Lib.hid hmx
  clear hmx
  have hn9 : (n : Int) ≤ 9223372036854775807 := by unfold maxLen at hn; omega
  have hs9 : (s.size : Int) ≤ 9223372036854775807 := by unfold maxLen at hs; omega
  have ht9 : (t.size : Int) ≤ 9223372036854775807 := by unfold maxLen at ht; omega
  by_cases hbig : 200 < s.size ∨ 200 < t.size ∨ 20 < n
  · have h3 : 200 < s.size ∨ (s.size ≤ 200 ∧ 200 < t.size) ∨ (s.size ≤ 200 ∧ t.size ≤ 200 ∧ 20 < n) := by omega
    clear hr hb hbig
    rcases h3 with h | ⟨h, h'⟩ | ⟨h, h', h''⟩
    all_goals
      first | (have i1 : (200 : Int) < s.size := by omega) | (have i1 : (s.size : Int) ≤ 200 := by omega)
      first | (have i2 : (200 : Int) < t.size := by omega) | (have i2 : (t.size : Int) ≤ 200 := by omega) | skip
      first | (have i3 : (20 : Int) < n := by omega) | skip
      clear hn hs ht
      go_enter Tryd.func3, Tryd.ntmps3
      go_wp2_with (go_at_call 5; refine (HK.out _ HM.out).mono ?_; rintro e w2 ⟨rfl, hb2⟩)
      go_ret
      exact ⟨rfl, hb2⟩
  · have i1 : (s.size : Int) ≤ 200 := by omega
    have i2 : (t.size : Int) ≤ 200 := by omega
    have i3 : (n : Int) ≤ 20 := by omega
    have n20 : n ≤ 20 := by omega
    have HR := Lib.hid hr
    have hl : ns.length = n := by have h := hr.cells; rw [strC_len] at h; omega
    have HL := Lib.hid hl
    have C1 := Lib.hid fun w' (hw : Below w.heap.size w w') => C.split s w' (HM.out.later hw) (by omega)
    have C2 := Lib.hid fun w => rsplit_is s w (by omega)
    have C3 := Lib.hid fun w' (hw : Below w.heap.size w w') => C.parent s w' (HM.out.later hw) (by omega)
    have C4 := Lib.hid fun w => rparent_is s w (by omega)
    have C5 := Lib.hid fun w' (hw : Below w.heap.size w w') (hx : ∀ x ∈ ns, x.length ≤ 100000) => C.join p n c ns w' (hr.later hw) (by omega) hx
    have C6 := Lib.hid fun w' (hw : Below w.heap.size w w') (hx : ∀ x ∈ ns, x.length ≤ 100000) => rjoin_is p n c ns w' (hr.later hw) (by omega) hx
    have C7 := Lib.hid fun w' (hw : Below w.heap.size w w') => C.under s t w' (HM.out.later hw) (by omega) (by omega)
    have C8 := Lib.hid fun w => runder_is s t w (by omega) (by omega)
    have N4 : Hid ((nms (bys s)).length ≤ 100000) := Lib.hid (by
      rw [nms]
      cases hsp : splitL (bys s) with
      | none => simp
      | some x =>
        have := (join_split hsp).2.2.1
        simp
        omega)
    generalize underB (bys s) (bys t) = ub at C7 C8
    generalize strOfNums (parL (bys s)) = q1 at C3 C4
    generalize strOfNums (lastL (bys s)) = q2 at C3 C4
    generalize errP (bys s) = q3 at C3 C4
    generalize errS (bys s) = q4 at C1 C2
    generalize nms (bys s) = q5 at C1 C2 N4
    generalize strOfNums (joinP ns) = q6 at C5 C6
    clear hr hb hbig hl hn hs ht
    go_enter Tryd.func3, Tryd.ntmps3
    go_wp2_with fail
    go_loop [7] (fun iv => ∃ i : Nat, i ≤ n ∧ iv = .int .i64 (i : Int) ∧ Hid (∀ k, k < i → (ns.getD k []).length ≤ 100)) (fun iv => n - (intOf iv).toNat)
    case atStart => exact ⟨0, by omega, rfl, Lib.hid (fun k hk => by omega)⟩
    case round =>
      obtain ⟨i, hi, rfl, HU⟩ := hrel
      by_cases hlt : i < n
      · have hlti : (i : Int) < n := by omega
        obtain ⟨b, o, rfl, _, _, _, _, hc1⟩ := str_at HR.out hlt
        have k1 := hc1 i hlt
        clear hc1
        obtain ⟨x, hx⟩ : ∃ x, ns.getD i [] = x := ⟨_, rfl⟩
        rw [hx] at k1
        have HX := Lib.hid hx
        clear hx
        by_cases hxl : 100 < x.length
        · have hxi : (100 : Int) < (strOfNums x).size := by rw [strOfNums_size]; omega
          go_wp2_with fail
          go_ret
          exact ⟨rfl, Below.refl _ _⟩
        · have hxi : ((strOfNums x).size : Int) ≤ 100 := by rw [strOfNums_size]; omega
          go_wp2_with fail
          go_round
          case rel => exact ⟨i + 1, by omega, by go_num, Lib.hid (fun k hk => by
            by_cases h : k = i
            · rw [h, HX.out]; omega
            · exact HU.out k (by omega))⟩
          case measure => simp [intOf]; omega
      · obtain rfl : i = n := by omega
        have HXS : Hid (∀ x ∈ ns, x.length ≤ 100000) := Lib.hid (fun x hx => by
          obtain ⟨k, hk, rfl⟩ := List.mem_iff_getElem.1 hx
          have := HU.out k (by rw [← HL.out]; exact hk)
          simp [List.getD, hk] at this
          omega)
        go_wp2_with (first
          | (go_at_call 6; refine (C1.out _ (Below.refl _ _)).mono ?_; rintro e w1 ⟨p1, n1, c1, rfl, hn1, hr1, hb⟩; have B1 := Lib.hid hb; have R1 := Lib.hid hr1; have N1 := Lib.hid hn1; clear hb hr1 hn1)
          | (go_at_call 7; refine (C2.out _).mono ?_; rintro e w2 ⟨p2, n2, c2, rfl, hn2, hr2, hb⟩; have B2 := Lib.hid (below_trans B1.out hb); have R2 := Lib.hid hr2; have R12 := Lib.hid (R1.out.later hb); obtain rfl : n2 = n1 := hn2.trans N1.out.symm; clear hb hr2 hn2)
          | (go_at_call 8; refine (C3.out _ B2.out).mono ?_; rintro e w3 ⟨rfl, hb⟩; have B3 := Lib.hid (below_trans B2.out hb); have R13 := Lib.hid (R12.out.later hb); have R23 := Lib.hid (R2.out.later hb); clear hb)
          | (go_at_call 9; refine (C4.out _).mono ?_; rintro e w4 ⟨rfl, hb⟩; have B4 := Lib.hid (below_trans B3.out hb); have R14 := Lib.hid (R13.out.later hb); have R24 := Lib.hid (R23.out.later hb); clear hb)
          | (go_at_call 10; refine (texts_same p1 p2 _ c1 c2 q5 _ R14.out R24.out (by rw [N1.out]; exact N4.out)).mono ?_; rintro e w5 ⟨rfl, hb⟩; have B5 := Lib.hid (below_trans B4.out hb); clear hb)
          | (go_at_call 11; refine (num_any _ _).mono ?_; rintro e w9 ⟨rfl, rfl⟩)
          | (go_at_call 12; refine (C5.out _ B5.out HXS.out).mono ?_; rintro e w6 ⟨rfl, hb⟩; have B6 := Lib.hid (below_trans B5.out hb); clear hb)
          | (go_at_call 13; refine (C6.out _ B6.out HXS.out).mono ?_; rintro e w7 ⟨rfl, hb⟩; have B7 := Lib.hid (below_trans B6.out hb); clear hb)
          | (go_at_call 14; refine (C7.out _ B7.out).mono ?_; rintro e w8 ⟨rfl, hb⟩; have B8 := Lib.hid (below_trans B7.out hb); clear hb)
          | (go_at_call 15; refine (C8.out _).mono ?_; rintro e w10 ⟨rfl, hb⟩; have B10 := Lib.hid (below_trans B8.out hb); clear hb)
          | (go_at_call 5; refine (HK.out _ (HM.out.later B10.out)).mono ?_; rintro e w11 ⟨rfl, hb⟩; have B11 := Lib.hid (below_trans B10.out hb); clear hb))
        go_ret
        exact ⟨rfl, B11.out⟩
end Go.Proofs.YtpfpibmnhnjpmaaDoor.pa
