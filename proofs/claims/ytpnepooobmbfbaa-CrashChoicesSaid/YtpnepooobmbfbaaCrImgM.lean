/- What an image is, and the small functions of the code that it wants. -/
import Derived.Test.YtpnepooobmbfbaaCrEp
import Derived.Test.YtpnepooobmbfbaaCrTorn
namespace Go.Proofs.Ytpnepooobmbfbaa.dsk
set_option maxRecDepth 100000
open Go.ChangeShapes Go.WideShapes Go.ChangeAt Go.RowKit
open Go.Proofs.Ytpnepooobmbfbaa.rows
open Go.Proofs.Ytpnepooobmbfbaa.sec
open Go.Proofs.Ytpnepooobmbfbaa.cho (IntsIn allowed_any rallowed_any)
open Go.Proofs.Ytpnepooobmbfbaa.choMath
set_option linter.unusedVariables false
set_option linter.unusedSimpArgs false

def missB (n : Nat) (x : Wr) : Bool := !decide (0 ≤ x.pos ∧ x.pos < (n : Int))
def tornOf (o s : List Int) : List Int := s.take 16 ++ o.drop 16
def imgStep (c : Nat) (o : List (List Int)) (i : Nat) (x : Wr) : List (List Int) :=
  if fate c (i : Int) = 1 then o.set x.pos.toNat x.s else if fate c (i : Int) = 2 then o.set x.pos.toNat (tornOf (o.getD x.pos.toNat []) x.s) else o
def imgUpto (c : Nat) (ws : List Wr) (ss : List (List Int)) : Nat → List (List Int)
  | 0 => ss
  | j + 1 => match ws[j]? with | some x => imgStep c (imgUpto c ws ss j) j x | none => imgUpto c ws ss j
theorem imgUpto_snoc (c : Nat) (ws : List Wr) (ss : List (List Int)) (j : Nat) (h : j < ws.length) : imgUpto c ws ss (j + 1) = imgStep c (imgUpto c ws ss j) j ws[j] := by
  rw [imgUpto, List.getElem?_eq_getElem h]
theorem imgStep_len (c : Nat) (o : List (List Int)) (i : Nat) (x : Wr) : (imgStep c o i x).length = o.length := by
  unfold imgStep; split
  · simp
  · split <;> simp
theorem imgUpto_len (c : Nat) (ws : List Wr) (ss : List (List Int)) : ∀ j, (imgUpto c ws ss j).length = ss.length
  | 0 => rfl
  | j + 1 => by
    rw [imgUpto]
    split
    · rw [imgStep_len, imgUpto_len c ws ss j]
    · exact imgUpto_len c ws ss j
theorem torn_secs {o s : List Int} (ho : Sec o) (hs : Sec s) : Sec (tornOf o s) := by
  refine ⟨by simp [tornOf, ho.1, hs.1], fun x hx => ?_⟩
  rcases List.mem_append.1 hx with h | h
  · exact hs.2 x (List.mem_of_mem_take h)
  · exact ho.2 x (List.mem_of_mem_drop h)
theorem secs_getD {o : List (List Int)} (h : Secs o) {i : Nat} (hi : i < o.length) : Sec (o.getD i []) := by
  have : o.getD i [] = o[i] := by simp [List.getD, hi]
  rw [this]; exact h _ (List.getElem_mem hi)
theorem imgStep_secs (c : Nat) {o : List (List Int)} (i : Nat) {x : Wr} (h : Secs o) (hx : Sec x.s) (hp : missB o.length x = false) : Secs (imgStep c o i x) := by
  have hp2 : x.pos.toNat < o.length := by
    rw [missB, Bool.not_eq_false', decide_eq_true_eq] at hp
    omega
  unfold imgStep; split
  · exact secs_set h hx _
  · split
    · exact secs_set h (torn_secs (secs_getD h hp2) hx) _
    · exact h
theorem imgUpto_secs (c : Nat) (ws : List Wr) (ss : List (List Int)) (hs : Secs ss) (hw : ∀ x ∈ ws, Sec x.s) : ∀ j, (∀ k (hk : k < ws.length), k < j → missB ss.length ws[k] = false) → Secs (imgUpto c ws ss j)
  | 0, _ => hs
  | j + 1, hm => by
    have ih := imgUpto_secs c ws ss hs hw j fun k hk hj => hm k hk (by omega)
    rw [imgUpto]
    split
    · rename_i x hx
      obtain ⟨hj, rfl⟩ := List.getElem?_eq_some_iff.1 hx
      exact imgStep_secs c j ih (hw _ (List.getElem_mem hj)) (by rw [imgUpto_len]; exact hm j hj (by omega))
    · exact ih
def imgOk (c : Nat) (ws : List Wr) (n : Nat) : Bool := alB c (eps ws) && !(ws.any (missB n))
/-- what Image answers -/
def ImgDone (c : Nat) (ss : List (List Int)) (ws : List Wr) (n : Nat) (w : World) (e : Ending) (w' : World) : Prop :=
  Below w.heap.size w w' ∧ ((imgOk c ws n = false ∧ e = .returned (.tuple #[.slice none 0 0, .bool false])) ∨
    (imgOk c ws n = true ∧ ∃ p cc, e = .returned (.tuple #[.slice p n cc, .bool true]) ∧ Own w' w.heap.size 62 32 (.slice p n cc) n (cellsOf (imgUpto c ws ss ws.length))))

theorem cwithin (i : Int) (n : Nat) (w : World) (hn : n ≤ 1000) :
    Calls Try.prog 42 #[.int .i64 i, .int .i64 (n : Int)] w fun e w' => e = .returned (.bool (decide (0 ≤ i ∧ i < (n : Int)))) ∧ w = w' := by
  obtain ⟨d, hd⟩ : ∃ d, decide (0 ≤ i ∧ i < (n : Int)) = d := ⟨_, rfl⟩
  have HD := Lib.hid hd
  rw [hd]; clear hd
  by_cases h0 : 0 ≤ i
  · by_cases h1 : i < (n : Int)
    · have hdt : d = true := by rw [← HD.out]; exact decide_eq_true ⟨h0, h1⟩
      subst hdt
      go_enter Try.func42, Try.ntmps42
      go_wp2
      go_ret
      exact ⟨rfl, rfl⟩
    · have hdt : d = false := by rw [← HD.out]; exact decide_eq_false (by omega)
      subst hdt
      go_enter Try.func42, Try.ntmps42
      go_wp2
      go_ret
      exact ⟨rfl, rfl⟩
  · have hdt : d = false := by rw [← HD.out]; exact decide_eq_false (by omega)
    subst hdt
    go_enter Try.func42, Try.ntmps42
    go_wp2
    go_ret
    exact ⟨rfl, rfl⟩
set_option maxRecDepth 100000 in
theorem cmissing (bx : Nat) (ps : Option Addr) (n cs : Nat) (vw : Value) (x : Wr) (w : World) (hb : w.heap[bx]? = some (.cells #[.slice ps n cs, vw] 28 (0, 0))) (hs : Sec x.s) (hn : n ≤ 1000) :
    Calls Try.prog 41 #[.agg x.c.toArray, .pointer (some ⟨bx, 0, none⟩)] w fun e w' => e = .returned (.bool (missB n x)) ∧ Below w.heap.size w w' := by
  have HB := Lib.hid hb
  have HS := Lib.hid hs
  have hn1 : (n : Int) ≤ 1000 := by omega
  have hx1 : AtW (w.alloc (.cells x.c.toArray 79)) w.heap.size x := heap_alloc_new _ _
  have cb : (w.alloc (.cells x.c.toArray 79)).cell? ⟨bx, 0, none⟩ = some (.slice ps n cs) := cell_row (row_alloc hb _) 0 _ rfl
  obtain ⟨c0, _⟩ := AtW.parts hx1 hs
  have hbw : Below w.heap.size w (w.alloc (.cells x.c.toArray 79)) := below_alloc (Below.refl _ _) _
  have HW := Lib.hid cwithin
  obtain ⟨d, hd⟩ : ∃ d, decide (0 ≤ x.pos ∧ x.pos < (n : Int)) = d := ⟨_, rfl⟩
  have HD := Lib.hid hd
  have hmd : missB n x = !d := by rw [missB, hd]
  rw [hmd]
  clear hb hs hx1 hd hmd
  go_enter Try.func41, Try.ntmps41
  have HBW := Lib.hid hbw
  clear hbw
  go_wp2_with (go_at_call 42; refine (HW.out x.pos n _ hn).mono ?_; rintro e w2 ⟨he, rfl⟩; rw [HD.out] at he; subst he)
  go_ret
  exact ⟨rfl, HBW.out⟩
end Go.Proofs.Ytpnepooobmbfbaa.dsk
