/- What the reference's New and From give. -/
import Derived.Test.YtpnepooobmbfbaaDskSame
namespace Go.Proofs.Ytpnepooobmbfbaa.dsk
set_option maxRecDepth 100000
open Go.ChangeShapes Go.WideShapes Go.ChangeAt Go.RowKit
open Go.Proofs.Ytpnepooobmbfbaa.rows
open Go.Proofs.Ytpnepooobmbfbaa.sec
set_option linter.unusedVariables false
set_option linter.unusedSimpArgs false

def zero32 : List Int := List.replicate 32 0
theorem sec_zero : Sec zero32 := by
  refine ⟨by simp [zero32], fun x hx => ?_⟩
  have := List.eq_of_mem_replicate hx
  omega
theorem cellsOf_map (ss : List (List Int)) : cellsOf ss = (ss.map u8s).flatten := by
  simp only [cellsOf, u8s, List.map_flatten]
  rfl
theorem u8s_len (s : List Int) : (u8s s).length = s.length := by simp [u8s]
theorem secs_zero (n : Nat) : Secs (List.replicate n zero32) := fun s hs => by rw [List.eq_of_mem_replicate hs]; exact sec_zero
theorem cellsOf_zero (n : Nat) : cellsOf (List.replicate n zero32) = List.replicate (n * 32) (.int .u8 0) := by
  unfold cellsOf u8s zero32
  rw [List.flatten_replicate_replicate, List.map_replicate]
theorem made_rep (k n : Nat) (v : Value) (hk : 0 < k) : (madeCells (List.replicate k v).toArray n).toList = List.replicate n v := by
  apply List.ext_getElem
  · simp [size_madeCells]
  · intro i h1 h2
    have : i % k < k := Nat.mod_lt _ hk
    simp [madeCells, this]
theorem made_secs (n : Nat) : (madeCells (Value.agg (u8s (List.replicate 32 0)).toArray).cells (n * 32)).toList = cellsOf (List.replicate n zero32) := by
  rw [cellsOf_zero]
  have hz : (Value.agg (u8s (List.replicate 32 0)).toArray).cells = (List.replicate 32 (Value.int .u8 0)).toArray := by simp [Value.cells, u8s]
  rw [hz, made_rep 32 _ _ (by decide)]
theorem put_chunk {α : Type} (enc : α → List Value) (sz : Nat) : ∀ (l : List α) (i : Nat) (x : α), (∀ y ∈ l, (enc y).length = sz) → (enc x).length = sz → i < l.length →
    ((l.map enc).flatten).take (i * sz) ++ enc x ++ ((l.map enc).flatten).drop (i * sz + sz) = ((l.set i x).map enc).flatten
  | [], i, _, _, _, h => by simp at h
  | y :: t, 0, x, hl, hx, _ => by
    have hy := hl y (List.mem_cons_self ..)
    rw [List.map_cons, List.flatten_cons, Nat.zero_mul, List.take_zero, List.nil_append, Nat.zero_add, List.drop_left' hy]
    rfl
  | y :: t, i + 1, x, hl, hx, h => by
    have hy := hl y (List.mem_cons_self ..)
    have ih := put_chunk enc sz t i x (fun z hz => hl z (List.mem_cons_of_mem _ hz)) hx (by simpa using h)
    rw [List.map_cons, List.flatten_cons, List.set_cons_succ, List.map_cons, List.flatten_cons, ← ih]
    have e1 : (i + 1) * sz = (enc y).length + i * sz := by rw [hy, Nat.succ_mul]; omega
    have e2 : (i + 1) * sz + sz = (enc y).length + (i * sz + sz) := by rw [e1]; omega
    rw [e1, show (enc y).length + i * sz + sz = (enc y).length + (i * sz + sz) by omega, List.take_length_add_append, List.drop_length_add_append]
    simp [List.append_assoc]
/-- block g holds the sectors ss, all of it -/
def Rows (w : World) (g : Nat) (ss : List (List Int)) : Prop := w.heap[g]? = some (.cells (cellsOf ss).toArray 62 (0, 0))
theorem rows_rd {w : World} {g : Nat} {ss : List (List Int)} (h : Rows w g ss) (hs : Secs ss) (hm : ss.length ≤ maxLen) : Rd w 32 (.slice (some ⟨g, 0, none⟩) ss.length ss.length) ss.length (cellsOf ss) := by
  by_cases h0 : ss.length = 0
  · have : ss = [] := List.eq_nil_of_length_eq_zero h0
    subst this
    exact Or.inl ⟨_, _, rfl, rfl, rfl, fun h => by cases h⟩
  · refine Or.inr ⟨g, 0, _, rfl, by omega, Nat.le_refl _, hm, (Array.getElem?_eq_some_iff.1 h).1, cellsOf_len hs, fun i u hi => ?_⟩
    rw [Nat.zero_add, cell_of_row _ _ i _ _ (0, 0) h]
    simpa using hi
theorem rows_made {w : World} {B g n : Nat} {ss : List (List Int)} (h : w.ownsRow B 62 32 (.slice (some ⟨g, 0, none⟩) n n) n (cellsOf ss)) : Rows w g ss := by
  rcases h.2 with ⟨h2, _⟩ | ⟨g', cap, cur, h1, h2, h3, h4, h5, h6, h7⟩
  · cases h2
  · cases h1
    rw [List.take_of_length_le (by simp [h6])] at h7
    rw [Rows, ← h7]
    exact h3
theorem touch_setRow (w : World) (g : Nat) (cs : Array Value) : Touch (· = g) w (w.setRow g cs) := ⟨rfl, rfl, rfl, by simp [World.setRow], fun k _ hk => setRow_other w g k cs hk⟩
theorem secs_set {ss : List (List Int)} (hs : Secs ss) {s : List Int} (h : Sec s) (i : Nat) : Secs (ss.set i s) := fun x hx => by
  rcases List.mem_or_eq_of_mem_set hx with h1 | rfl
  · exact hs x h1
  · exact h

end Go.Proofs.Ytpnepooobmbfbaa.dsk
