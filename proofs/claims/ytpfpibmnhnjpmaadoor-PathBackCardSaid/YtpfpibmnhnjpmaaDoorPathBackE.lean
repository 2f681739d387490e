/- What PathBack wants, part 5. -/
import Derived.Test.YtpfpibmnhnjpmaaDoorPathBackC
import Derived.Deep.CutRange
import Derived.Great.BuildSlice
/- The walk of SectorBack, over what the code's functions give. -/
namespace Go.Proofs.YtpfpibmnhnjpmaaDoor.sec
set_option maxRecDepth 100000
open Go.ChangeShapes Go.WideShapes Go.ChangeAt Go.RowKit
open Go.Proofs.YtpfpibmnhnjpmaaDoor.rows
set_option linter.unusedVariables false
set_option linter.unusedSimpArgs false

theorem below_setRow {B g : Nat} {a w : World} (h : Below B a w) (cs : Array Value) (hg : B ≤ g) : Below B a (w.setRow g cs) :=
  h.trans ⟨rfl, rfl, rfl, by simp [World.setRow], fun k hk => setRow_other w g k _ (by omega)⟩
def cutOk (i k : Int) : Prop := 0 ≤ i ∧ 0 ≤ k ∧ i + k ≤ 32
instance (i k : Int) : Decidable (cutOk i k) := by unfold cutOk; infer_instance
def cutN (i k : Int) : Nat := if cutOk i k then k.toNat else 0
def cutOf (s : List Int) (i k : Int) : List Int := if cutOk i k then (s.drop i.toNat).take k.toNat else []
def CutIs (f : Nat) : Prop := ∀ (s : List Int) (i k : Int) (w : World), Sec s → (Lit.int .i64 i).wf = true → (Lit.int .i64 k).wf = true →
  Calls Tryd.prog f #[agg s, .int .i64 i, .int .i64 k] w fun e w' => ∃ p c, e = .returned (.slice p (cutN i k) c) ∧ Rd w' 1 (.slice p (cutN i k) c) (cutN i k) (u8s (cutOf s i k)) ∧ Below w.heap.size w w'
/-- what was cut out put back -/
def PutBack (f : Nat) : Prop := ∀ (s : List Int) (i : Int) (p : Option Addr) (c : Nat) (w : World), Sec s → (Lit.int .i64 i).wf = true → Rd w 1 (.slice p (cutN i 4) c) (cutN i 4) (u8s (cutOf s i 4)) →
  Calls Tryd.prog f #[agg s, .int .i64 i, .slice p (cutN i 4) c] w fun e w' => ∃ x q, e = .returned (.tuple #[agg x, .bool q]) ∧ Sec x ∧ (q = true → x = s) ∧ Below w.heap.size w w'
theorem torn_sec {s o : List Int} (hs : Sec s) (ho : Sec o) : Sec (o.take 16 ++ s.drop 16) := by
  refine ⟨by simp [hs.1, ho.1], fun x hx => ?_⟩
  rcases List.mem_append.1 hx with hx | hx
  · exact ho.2 x (List.mem_of_mem_take hx)
  · exact hs.2 x (List.mem_of_mem_drop hx)
theorem torn_twice (s o : List Int) (ho : o.length = 32) : o.take 16 ++ (o.take 16 ++ s.drop 16).drop 16 = o.take 16 ++ s.drop 16 := by
  rw [List.drop_append, List.drop_of_length_le (by simp [ho])]
  simp [ho]
theorem torn_self (s : List Int) : s.take 16 ++ s.drop 16 = s := List.take_append_drop ..
theorem spr_back (zs : List Int) : gOf (spr zs) ((zs.length + 31) / 32) zs.length = zs ∧ gOk ((zs.length + 31) / 32) zs.length = true ∧ gN ((zs.length + 31) / 32) zs.length = zs.length := by
  have h : gOk ((zs.length + 31) / 32) zs.length = true := by simp [gOk]; omega
  refine ⟨?_, h, by rw [gN, if_pos h]; simp⟩
  rw [gOf, if_pos h, spr_flat]
  simp

structure BackIn (w : World) (p1 : Option Addr) (n1 c1 : Nat) (zs : List Int) (s o : List Int) (p2 : Option Addr) (n2 c2 : Nat) (xs : List (List Int)) (i : Int) : Prop where
  b : Rd w 1 (.slice p1 n1 c1) n1 (u8s zs)
  bb : Bytes zs
  bn : n1 ≤ 500
  s : Sec s
  o : Sec o
  l : Rd w 32 (.slice p2 n2 c2) n2 (cellsOf xs)
  lb : Secs xs
  ln : n2 ≤ 40
  i : (Lit.int .i64 i).wf = true
theorem own_later {w w' : World} {B : Nat} {e : TypeId} {sz n : Nat} {v : Value} {cs : List Value} (h : Own w B e sz v n cs) (hb : Below w.heap.size w w') : Own w' B e sz v n cs := by
  refine ⟨h.1, ?_⟩
  rcases h.2 with h2 | ⟨g, cap, cur, hv, h3, h4, h5⟩
  · exact Or.inl h2
  · exact Or.inr ⟨g, cap, cur, hv, h3, (hb.block g (Array.getElem?_eq_some_iff.1 h4).1).trans h4, h5⟩
theorem fill_list : ∀ (l : List Value) (k : Nat) (A : Array Value), A.size = k + l.length → ((l.zipIdx k).foldl (fun cs x => cs.setIfInBounds (0 + x.2) x.1) A).toList = A.toList.take k ++ l
  | [], k, A, h => by
    simp only [List.zipIdx_nil, List.foldl_nil, List.append_nil]
    rw [List.take_of_length_le]
    simp at h ⊢; omega
  | c :: t, k, A, h => by
    rw [List.zipIdx_cons, List.foldl_cons, fill_list t (k + 1) _ (by simp at h ⊢; omega)]
    have hk : k < A.toList.length := by simp at h ⊢; omega
    simp only [Nat.zero_add, Array.toList_setIfInBounds]
    rw [List.take_succ_eq_append_getElem (by simpa using hk), List.take_set_of_le (Nat.le_refl k)]
    simp
theorem fill_sec (s : List Int) (old : Array Value) (hs : s.length = 32) (ho : old.size = 32) : Instr.fill (fun i => some (i * 32, 32)) old [(0, agg s)] = some (u8s s).toArray := by
  have hl : (u8s s).length = 32 := by simp [u8s, hs]
  have h1 : (Value.cells (agg s)) = (u8s s).toArray := rfl
  unfold Instr.fill
  simp only [h1, Nat.zero_mul, Nat.zero_add, List.size_toArray, hl, ho, ne_eq, not_true_eq_false, decide_false, Bool.false_or, Nat.lt_irrefl, gt_iff_lt, Bool.false_eq_true, if_false]
  unfold Instr.fill
  congr 1
  apply Array.ext'
  have := fill_list (u8s s) 0 old (by rw [ho, hl])
  simpa using this
theorem unl_snoc (xs : List (List Int)) (s : List Int) : ∀ k, k = xs.length → unl (xs ++ [s]) xs (k + 1) = [(k:Int)] := by
  intro k hk
  have hne : (xs ++ [s])[k]? ≠ xs[k]? := by
    rw [List.getElem?_append_right (by omega), List.getElem?_eq_none (l := xs) (by omega)]
    simp [hk]
  rw [unl_hit hne]
  have h0 : ∀ j, j ≤ xs.length → unl (xs ++ [s]) xs j = [] := by
    intro j
    induction j with
    | zero => intro _; simp [unl]
    | succ j ih =>
      intro hj
      rw [unl_miss (by rw [List.getElem?_append_left (by omega)]), ih (by omega)]
  rw [h0 k (by omega)]
  rfl
end Go.Proofs.YtpfpibmnhnjpmaaDoor.sec
