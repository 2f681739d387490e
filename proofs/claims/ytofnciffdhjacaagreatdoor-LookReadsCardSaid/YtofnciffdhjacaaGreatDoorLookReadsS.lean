/- What LookReads wants, part 19. -/
import Derived.Test.YtofnciffdhjacaaGreatDoorLookReadsR
import Derived.Laws.Cover1
/- Layer 9: the names in a folder, in increasing byte order, each once; what the reference's List gives. -/
namespace Go.Proofs.YtofnciffdhjacaaGreatDoor.lk
set_option maxRecDepth 100000
open Go.ChangeShapes Go.WideShapes Go.ChangeAt Go.RowKit
open Go.Proofs.YtofnciffdhjacaaGreatDoor.rows
open Go.Proofs.YtofnciffdhjacaaGreatDoor.sec
open Go.Proofs.YtofnciffdhjacaaGreatDoor.dsk (wf64 cell_row frozen_row row_later)
open Go.Proofs.YtofnciffdhjacaaGreatDoor.ly
open Go.Proofs.YtofnciffdhjacaaGreatDoor.pa
set_option linter.unusedVariables false
set_option linter.unusedSimpArgs false

/-- the byte order of names -/
def ltS (a b : ByteArray) : Bool := Op.bytesLess a.toList b.toList
theorem less_dec (x : List UInt8) : ∀ (y : List UInt8), Op.bytesLess x y = decide (x < y) := by
  induction x with
  | nil => intro y; cases y <;> simp [Op.bytesLess]
  | cons a x ih =>
    intro y
    cases y with
    | nil => simp [Op.bytesLess]
    | cons b y =>
      simp only [Op.bytesLess, ih y, List.cons_lt_cons_iff, Bool.decide_or, Bool.decide_and]
      rcases Decidable.em (a < b) with h1 | h1 <;> rcases Decidable.em (a = b) with h2 | h2 <;> simp [h1, h2]
theorem ltS_eq (a b : ByteArray) : ltS a b = decide (a.toList < b.toList) := less_dec _ _
theorem ltS_irrefl (a : ByteArray) : ltS a a = false := by
  rw [ltS_eq, decide_eq_false_iff_not]
  exact List.lt_irrefl _
theorem ltS_trans {a b c : ByteArray} (h : ltS a b = true) (k : ltS b c = true) : ltS a c = true := by
  rw [ltS_eq, decide_eq_true_eq] at *
  exact List.lt_trans h k
theorem str_ext {a b : ByteArray} (h : a.toList = b.toList) : a = b := by
  have h2 : a.data.toList = b.data.toList := by rw [← ByteArray.toList_eq, ← ByteArray.toList_eq]; exact h
  cases a; cases b
  simpa using h2
theorem ltS_total {a b : ByteArray} (h : ltS a b = false) (k : ltS b a = false) : a = b := by
  rw [ltS_eq, decide_eq_false_iff_not] at *
  exact str_ext (List.le_antisymm (List.not_lt.1 k) (List.not_lt.1 h))
theorem ltS_chain {a b c : ByteArray} (h : ltS b a = false) (k : ltS b c = true) : ltS a c = true := by
  cases hab : ltS a b with
  | true => exact ltS_trans hab k
  | false =>
    have := ltS_total hab h
    subst this
    exact k
/-- is x a name in folder d by one of the first k entries? -/
def nmIn (ss : List (List Int)) (d : Int) (k : Nat) (x : ByteArray) : Prop := ∃ j, j < k ∧ standB ss j = true ∧ (entAt ss (j : Int)).parent = d ∧ (entAt ss (j : Int)).name = x
/-- does a name stand in folder d by entry j? -/
def atB (ss : List (List Int)) (d : Int) (j : Nat) : Bool := standB ss j && decide ((entAt ss (j : Int)).parent = d)
theorem nmIn_succ {ss : List (List Int)} {d : Int} {k : Nat} {x : ByteArray} : nmIn ss d (k + 1) x ↔ nmIn ss d k x ∨ (atB ss d k = true ∧ (entAt ss (k : Int)).name = x) := by
  constructor
  · rintro ⟨j, hj, h1, h2, h3⟩
    by_cases e : j = k
    · subst e
      exact Or.inr ⟨by rw [atB, h1, h2]; simp, h3⟩
    · exact Or.inl ⟨j, by omega, h1, h2, h3⟩
  · rintro (⟨j, hj, h⟩ | ⟨h1, h2⟩)
    · exact ⟨j, by omega, h⟩
    · rw [atB, Bool.and_eq_true, decide_eq_true_eq] at h1
      exact ⟨k, by omega, h1.1, h1.2, h2⟩
/-- all names in folder d, in increasing byte order, each once -/
def IsList (ss : List (List Int)) (d : Int) (L : List ByteArray) : Prop := L.Pairwise (fun a b => ltS a b = true) ∧ ∀ x, x ∈ L ↔ nmIn ss d 24 x
theorem sorted_unique : ∀ {a b : List ByteArray}, a.Pairwise (fun x y => ltS x y = true) → b.Pairwise (fun x y => ltS x y = true) → (∀ x, x ∈ a ↔ x ∈ b) → a = b
  | [], [], _, _, _ => rfl
  | [], y :: b, _, _, h => by have := (h y).2 (List.mem_cons_self ..); cases this
  | x :: a, [], _, _, h => by have := (h x).1 (List.mem_cons_self ..); cases this
  | x :: a, y :: b, ha, hb, h => by
    rw [List.pairwise_cons] at ha hb
    have hxy : x = y := by
      rcases List.mem_cons.1 ((h x).1 (List.mem_cons_self ..)) with e | hx
      · exact e
      · rcases List.mem_cons.1 ((h y).2 (List.mem_cons_self ..)) with e | hy
        · exact e.symm
        · have h1 := hb.1 x hx
          have h2 := ha.1 y hy
          have := ltS_trans h1 h2
          rw [ltS_irrefl] at this
          cases this
    subst hxy
    have ih := sorted_unique ha.2 hb.2 fun z => by
      constructor
      · intro hz
        rcases List.mem_cons.1 ((h z).1 (List.mem_cons_of_mem _ hz)) with e | hz2
        · subst e
          have := ha.1 z hz
          rw [ltS_irrefl] at this
          cases this
        · exact hz2
      · intro hz
        rcases List.mem_cons.1 ((h z).2 (List.mem_cons_of_mem _ hz)) with e | hz2
        · subst e
          have := hb.1 z hz
          rw [ltS_irrefl] at this
          cases this
        · exact hz2
    rw [ih]
/-- L has the names up to last -/
structure UpTo (ss : List (List Int)) (d : Int) (L : List ByteArray) (last : ByteArray) : Prop where
  sorted : L.Pairwise (fun a b => ltS a b = true)
  mem : ∀ x, x ∈ L ↔ nmIn ss d 24 x ∧ ltS last x = false
/-- the least name behind last among those by the first k entries, if there is one -/
structure Least (ss : List (List Int)) (d : Int) (last : ByteArray) (k : Nat) (next : ByteArray) (some : Bool) : Prop where
  yes : some = true → nmIn ss d k next ∧ ltS last next = true ∧ ∀ x, nmIn ss d k x → ltS last x = true → ltS x next = false
  no : some = false → ∀ x, nmIn ss d k x → ltS last x = false
theorem Least.zero (ss : List (List Int)) (d : Int) (last next : ByteArray) : Least ss d last 0 next false :=
  ⟨(fun h => by cases h), (fun _ x ⟨j, hj, _⟩ => by omega)⟩
theorem Least.skip {ss : List (List Int)} {d : Int} {last next : ByteArray} {k : Nat} {some : Bool} (h : Least ss d last k next some)
    (hs : atB ss d k = false ∨ ltS last (entAt ss (k : Int)).name = false ∨ (some = true ∧ ltS (entAt ss (k : Int)).name next = false)) : Least ss d last (k + 1) next some := by
  refine ⟨fun hy => ?_, fun hn x hx => ?_⟩
  · obtain ⟨h1, h2, h3⟩ := h.yes hy
    refine ⟨nmIn_succ.2 (Or.inl h1), h2, fun x hx hl => ?_⟩
    rcases nmIn_succ.1 hx with hx | ⟨ha, rfl⟩
    · exact h3 x hx hl
    · rcases hs with hs | hs | ⟨_, hs⟩
      · rw [ha] at hs; cases hs
      · rw [hl] at hs; cases hs
      · exact hs
  · rcases nmIn_succ.1 hx with hx | ⟨ha, rfl⟩
    · exact h.no hn x hx
    · rcases hs with hs | hs | ⟨hs, _⟩
      · rw [ha] at hs; cases hs
      · exact hs
      · rw [hn] at hs; cases hs
theorem Least.take {ss : List (List Int)} {d : Int} {last next : ByteArray} {k : Nat} {some : Bool} (h : Least ss d last k next some)
    (ha : atB ss d k = true) (hl : ltS last (entAt ss (k : Int)).name = true) (hs : some = false ∨ ltS (entAt ss (k : Int)).name next = true) : Least ss d last (k + 1) (entAt ss (k : Int)).name true := by
  refine ⟨fun _ => ⟨nmIn_succ.2 (Or.inr ⟨ha, rfl⟩), hl, fun x hx hlx => ?_⟩, fun h => by cases h⟩
  rcases nmIn_succ.1 hx with hx | ⟨_, rfl⟩
  · cases hsm : some with
    | false => have := h.no hsm x hx; rw [hlx] at this; cases this
    | true =>
      rcases hs with hs | hs
      · rw [hsm] at hs; cases hs
      · have h3 := (h.yes hsm).2.2 x hx hlx
        cases hxn : ltS x (entAt ss (k : Int)).name with
        | false => rfl
        | true => have := ltS_trans hxn hs; rw [h3] at this; cases this
  · exact ltS_irrefl _
theorem UpTo.done {ss : List (List Int)} {d : Int} {L : List ByteArray} {last next : ByteArray} (h : UpTo ss d L last) (k : Least ss d last 24 next false) : IsList ss d L :=
  ⟨h.sorted, fun x => ⟨fun hx => ((h.mem x).1 hx).1, fun hx => (h.mem x).2 ⟨hx, k.no rfl x hx⟩⟩⟩
theorem UpTo.more {ss : List (List Int)} {d : Int} {L : List ByteArray} {last next : ByteArray} (h : UpTo ss d L last) (k : Least ss d last 24 next true) : UpTo ss d (L ++ [next]) next := by
  obtain ⟨k1, k2, k3⟩ := k.yes rfl
  refine ⟨?_, fun x => ?_⟩
  · rw [List.pairwise_append]
    refine ⟨h.sorted, List.pairwise_singleton _ _, fun x hx y hy => ?_⟩
    rw [List.mem_singleton.1 hy]
    exact ltS_chain ((h.mem x).1 hx).2 k2
  · rw [List.mem_append, List.mem_singleton]
    constructor
    · rintro (hx | rfl)
      · obtain ⟨h1, h2⟩ := (h.mem x).1 hx
        refine ⟨h1, ?_⟩
        have h3 := ltS_chain h2 k2
        cases hn : ltS next x with
        | false => rfl
        | true => have := ltS_trans h3 hn; rw [ltS_irrefl] at this; cases this
      · exact ⟨k1, ltS_irrefl _⟩
    · rintro ⟨h1, h2⟩
      cases hl : ltS last x with
      | false => exact Or.inl ((h.mem x).2 ⟨h1, hl⟩)
      | true => exact Or.inr (ltS_total (k3 x h1 hl) h2)
theorem elem_names : Elem 55 9 1 16 (.string ByteArray.empty) := ⟨Tryz.underlying55, by kernel_rfl, by decide, by decide, by decide⟩
def strV (L : List ByteArray) : List Value := L.map .string
end Go.Proofs.YtofnciffdhjacaaGreatDoor.lk
/- What is asked of the code's Find, Lookup and List on any disk; what knows asks follows. -/
namespace Go.Proofs.YtofnciffdhjacaaGreatDoor.lk
set_option maxRecDepth 100000
open Go.ChangeShapes Go.WideShapes Go.ChangeAt Go.RowKit
open Go.Proofs.YtofnciffdhjacaaGreatDoor.rows
open Go.Proofs.YtofnciffdhjacaaGreatDoor.sec
open Go.Proofs.YtofnciffdhjacaaGreatDoor.dsk (wf64)
open Go.Proofs.YtofnciffdhjacaaGreatDoor.ly
open Go.Proofs.YtofnciffdhjacaaGreatDoor.pa
set_option linter.unusedVariables false
set_option linter.unusedSimpArgs false

structure FindsIs : Prop where
  find : ∀ (w : World) (d : Value) (ss : List (List Int)) (i : Int) (nm : ByteArray), Dk w d ss → wf64 i → nm.size ≤ maxLen → Calls Tryz.prog 17 #[d, .int .i64 i, .string nm] w fun e w' => e = .returned (optV (findO ss i nm)) ∧ Below w.heap.size w w'
  lookup : ∀ (w : World) (d : Value) (ss : List (List Int)) (s : ByteArray), Mx w → Dk w d ss → s.size ≤ 100000 → Calls Tryz.prog 16 #[d, .string s] w fun e w' => e = .returned (lookT (lookV ss (bys s))) ∧ Below w.heap.size w w'
  list : ∀ (w : World) (d : Value) (ss : List (List Int)) (i : Int), Dk w d ss → wf64 i → Calls Tryz.prog 19 #[d, .int .i64 i] w fun e w' => ∃ L q m k, IsList ss i L ∧ e = .returned (.slice q m k) ∧ m = L.length ∧ Rd w' 1 (.slice q m k) m (strV L) ∧ Below w.heap.size w w'
theorem kn_stand0 : standB knImg 0 = true := by decide +kernel
theorem kn_stand : ∀ j, j < 24 → j ≠ 0 → standB knImg j = false := by
  have h : ((List.range 24).all fun j => j == 0 || !standB knImg j) = true := by decide +kernel
  intro j hj h0
  have := List.all_eq_true.1 h j (List.mem_range.2 hj)
  simpa [h0] using this
theorem kn_nm (x : ByteArray) : nmIn knImg 0 24 x ↔ x = { data := #[97] } := by
  constructor
  · rintro ⟨j, hj, h1, _, rfl⟩
    by_cases e : j = 0
    · subst e
      rw [show ((0 : Nat) : Int) = 0 from rfl, kn_ent]
    · rw [kn_stand j hj e] at h1; cases h1
  · rintro rfl
    exact ⟨0, by omega, kn_stand0, by rw [show ((0 : Nat) : Int) = 0 from rfl, kn_ent], by rw [show ((0 : Nat) : Int) = 0 from rfl, kn_ent]⟩
theorem kn_list {L : List ByteArray} (h : IsList knImg 0 L) : L.length = 1 := by
  have e : L = [{ data := #[97] }] := sorted_unique h.1 (List.pairwise_singleton _ _) fun x => (h.2 x).trans ((kn_nm x).trans (by simp))
  rw [e]; rfl
theorem kn_find (nm : ByteArray) : findO knImg 0 nm = if nm = { data := #[97] } then some 0 else none := by
  have h0 : ∀ j, j ≠ 0 → j < 24 → inB knImg 0 nm j = false := fun j h0 hj => by rw [inB, kn_stand j hj h0]; rfl
  have hz : inB knImg 0 nm 0 = decide (nm = { data := #[97] }) := by
    rw [inB, kn_stand0, show ((0 : Nat) : Int) = 0 from rfl, kn_ent]
    simp only [Bool.true_and, decide_true]
    congr 1
    exact propext ⟨fun h => h.symm, fun h => h.symm⟩
  by_cases h : nm = { data := #[97] }
  · rw [if_pos h]
    exact upto_hit (upto_zero _) (by rw [hz, decide_eq_true h]) 24 (by omega)
  · rw [if_neg h]
    exact upto_none.2 fun i hi => by
      by_cases e : i = 0
      · subst e; rw [hz, decide_eq_false h]
      · exact h0 i e hi
theorem kn_root : (inoAt knImg 0).kind = 2 := by decide +kernel
theorem kn_lookA : lookV knImg [47, 97] = (2, 0) := by
  have hs : splitL [47, 97] = some [[97]] := split_join (ns := [[97]]) (by decide) (by decide)
  rw [look_some hs, lookG_some kn_root (k := 0) (by rw [kn_find, if_pos (show strOfNums [97] = { data := #[97] } from rfl)]), show ((0 : Nat) : Int) = 0 from rfl, kn_ent]
  rfl
theorem kn_lookB : lookV knImg [47, 98] = (0, 4) := by
  have hs : splitL [47, 98] = some [[98]] := split_join (ns := [[98]]) (by decide) (by decide)
  rw [look_some hs, lookG_none kn_root (by rw [kn_find, if_neg (by decide)])]
theorem known_of (F : FindsIs) : KnownIs where
  lookA w d hm hd := by
    have h := F.lookup w d knImg { data := #[47, 97] } hm hd (by decide)
    rw [show bys { data := #[47, 97] } = [47, 97] from rfl, kn_lookA] at h
    exact h
  lookB w d hm hd := by
    have h := F.lookup w d knImg { data := #[47, 98] } hm hd (by decide)
    rw [show bys { data := #[47, 98] } = [47, 98] from rfl, kn_lookB] at h
    exact h
  find w d hd := by
    have h := F.find w d knImg 0 { data := #[97] } hd (wf_byte (by omega)) (by decide)
    rw [kn_find, if_pos rfl] at h
    exact h
  list w d hd := by
    refine (F.list w d knImg 0 hd (wf_byte (by omega))).mono ?_
    rintro e w' ⟨L, q, m, k, hL, rfl, hm, _, hb⟩
    rw [kn_list hL] at hm
    subst hm
    exact ⟨⟨q, k, rfl⟩, hb⟩
end Go.Proofs.YtofnciffdhjacaaGreatDoor.lk
