/- How the code's settle works, over lists: for each sector how many of the first writes no longer matter to it; and that what is read stays. -/
import Derived.Test.YteobhljkjgocdaaDcTags
namespace Go.Proofs.Yteobhljkjgocdaa.dsk
open Go.ChangeShapes Go.WideShapes Go.ChangeAt Go.RowKit
open Go.Proofs.Yteobhljkjgocdaa.rows
open Go.Proofs.Yteobhljkjgocdaa.sec
open Go.Maps
set_option linter.unusedVariables false
set_option linter.unusedSimpArgs false

/-- the array settled behind the first j writes -/
def setl (mk : Wr → Bool) (ws : List Wr) : Nat → List Nat
  | 0 => List.replicate 65 0
  | j + 1 => match ws[j]? with
    | some x => if mk x = true then (setl mk ws j).set x.pos.toNat (j + 1) else setl mk ws j
    | none => setl mk ws j
theorem rep0 (n p : Nat) : (List.replicate n 0).getD p 0 = 0 := by
  rw [List.getD_eq_getElem?_getD, List.getElem?_replicate]; split <;> rfl
theorem setl_len (mk : Wr → Bool) (ws : List Wr) : ∀ j, (setl mk ws j).length = 65
  | 0 => by simp [setl]
  | j + 1 => by
    rw [setl]
    have ih := setl_len mk ws j
    split
    · split
      · simp [ih]
      · exact ih
    · exact ih
theorem setl_snoc (mk : Wr → Bool) (ws : List Wr) (j : Nat) (h : j < ws.length) : setl mk ws (j + 1) = if mk ws[j] = true then (setl mk ws j).set ws[j].pos.toNat (j + 1) else setl mk ws j := by
  rw [setl, List.getElem?_eq_getElem h]
theorem setl_le (mk : Wr → Bool) (ws : List Wr) (i p : Nat) (hp : p < 65) : ∀ j, j ≤ ws.length → ((setl mk ws j).getD p 0 ≤ i ↔ ∀ k (hk : k < ws.length), i ≤ k → k < j → ¬ (mk ws[k] = true ∧ ws[k].pos.toNat = p))
  | 0, _ => by rw [setl, rep0]; exact ⟨fun _ k _ _ h => by omega, fun _ => Nat.zero_le _⟩
  | j + 1, hj => by
    have hjl : j < ws.length := by omega
    have ih := setl_le mk ws i p hp j (by omega)
    have hlen := setl_len mk ws j
    rw [setl_snoc mk ws j hjl]
    have step : (∀ k (hk : k < ws.length), i ≤ k → k < j + 1 → ¬ (mk ws[k] = true ∧ ws[k].pos.toNat = p)) ↔ (∀ k (hk : k < ws.length), i ≤ k → k < j → ¬ (mk ws[k] = true ∧ ws[k].pos.toNat = p)) ∧ (i ≤ j → ¬ (mk ws[j] = true ∧ ws[j].pos.toNat = p)) := by
      constructor
      · intro h
        exact ⟨fun k hk h1 h2 => h k hk h1 (by omega), fun h1 => h j hjl h1 (by omega)⟩
      · rintro ⟨h1, h2⟩ k hk h3 h4
        by_cases e : k = j
        · subst e; exact h2 h3
        · exact h1 k hk h3 (by omega)
    rw [step, ← ih]
    by_cases hm : mk ws[j] = true
    · rw [if_pos hm]
      by_cases hp2 : ws[j].pos.toNat = p
      · rw [hp2]
        have e : ((setl mk ws j).set p (j + 1)).getD p 0 = j + 1 := by simp [List.getD, hlen, hp]
        rw [e]
        constructor
        · intro h
          refine ⟨?_, fun h1 => by omega⟩
          rw [ih]; intro k hk h1 h2; omega
        · rintro ⟨_, h2⟩
          by_cases h3 : i ≤ j
          · exact absurd ⟨hm, rfl⟩ (h2 h3)
          · omega
      · have e : ((setl mk ws j).set ws[j].pos.toNat (j + 1)).getD p 0 = (setl mk ws j).getD p 0 := by
          simp [List.getD, List.getElem?_set, hp2]
        rw [e]
        exact ⟨fun h => ⟨h, fun _ h2 => hp2 h2.2⟩, fun h => h.1⟩
    · rw [if_neg hm]
      exact ⟨fun h => ⟨h, fun _ h2 => hm h2.1⟩, fun h => h.1⟩
theorem setl_bound (mk : Wr → Bool) (ws : List Wr) (p : Nat) : ∀ j, (setl mk ws j).getD p 0 ≤ j
  | 0 => by rw [setl, rep0]; exact Nat.le_refl _
  | j + 1 => by
    rw [setl]
    have ih := setl_bound mk ws p j
    split
    · split
      · simp only [List.getD, List.getElem?_set]
        simp only [List.getD] at ih
        split
        · split <;> simp
        · omega
      · omega
    · omega
/-- a write is left if none of those that matter to its sector is behind it -/
theorem stays_setl (mk : Wr → Bool) (ws : List Wr) (hpos : ∀ x ∈ ws, 0 ≤ x.pos ∧ x.pos < 65) (i : Nat) (hi : i < ws.length) :
    staysB mk ws i ws[i] = decide ((setl mk ws ws.length).getD ws[i].pos.toNat 0 ≤ i) := by
  have hp := hpos _ (List.getElem_mem hi)
  have h1 := setl_le mk ws i ws[i].pos.toNat (by omega) ws.length (Nat.le_refl _)
  rw [Bool.eq_iff_iff, decide_eq_true_iff, h1]
  unfold staysB
  rw [Bool.and_eq_true, Bool.not_eq_true', Bool.not_eq_true', List.any_eq_false]
  constructor
  · rintro ⟨h2, h3⟩ k hk h4 _ ⟨h5, h6⟩
    by_cases e : k = i
    · subst e; rw [h2] at h5; cases h5
    · have hmem : ws[k] ∈ ws.drop (i + 1) := by
        rw [List.mem_iff_getElem]
        exact ⟨k - (i + 1), by simp; omega, by simp; congr 1; omega⟩
      have hk0 := hpos _ (List.getElem_mem hk)
      refine h3 _ hmem ?_
      rw [h5]
      have : ws[k].pos = ws[i].pos := by omega
      simp [this]
  · intro h2
    refine ⟨?_, fun y hy h3 => ?_⟩
    · have := h2 i hi (Nat.le_refl _) hi
      cases hm : mk ws[i]
      · rfl
      · exact absurd ⟨hm, rfl⟩ this
    · rw [List.mem_iff_getElem] at hy
      obtain ⟨k, hk, rfl⟩ := hy
      have hk2 : k < ws.length - (i + 1) := by simpa using hk
      have := h2 (i + 1 + k) (by omega) (by omega) (by omega)
      rw [List.getElem_drop] at h3
      simp only [Bool.and_eq_true, beq_iff_eq] at h3
      exact this ⟨h3.1, by rw [h3.2]⟩
/-! what is read stays -/
theorem set_comm2 {α : Type} (l : List α) {i j : Nat} (a b : α) (h : i ≠ j) : (l.set i a).set j b = (l.set j b).set i a := List.set_comm _ _ h
theorem out_filter (p : Nat) (s : List Int) : ∀ (l : List Wr) (a : List (List Int)), outOf (fun _ => true) (l.filter fun y => y.pos.toNat != p) (a.set p s) = (outOf (fun _ => true) l a).set p s
  | [], a => rfl
  | y :: l, a => by
    have e0 : outOf (fun _ => true) (y :: l) a = outOf (fun _ => true) l (a.set y.pos.toNat y.s) := rfl
    rw [e0, ← out_filter p s l (a.set y.pos.toNat y.s)]
    by_cases h : y.pos.toNat = p
    · rw [List.filter_cons_of_neg (by simp [h]), h, List.set_set]
    · rw [List.filter_cons_of_pos (by simp [h])]
      show outOf (fun _ => true) (l.filter fun y => y.pos.toNat != p) ((a.set p s).set y.pos.toNat y.s) = _
      rw [set_comm2 _ _ _ (fun e => h e.symm)]
theorem left_snoc (mk : Wr → Bool) (ws : List Wr) (x : Wr) (hx : 0 ≤ x.pos) (hpos : ∀ y ∈ ws, 0 ≤ y.pos) : ∀ j, j ≤ ws.length → leftUpto mk (ws ++ [x]) j = if mk x = true then (leftUpto mk ws j).filter (fun y => y.pos.toNat != x.pos.toNat) else leftUpto mk ws j
  | 0, _ => by simp [leftUpto]
  | j + 1, hj => by
    have hjl : j < ws.length := by omega
    have hjl2 : j < (ws ++ [x]).length := by simp; omega
    have ih := left_snoc mk ws x hx hpos j (by omega)
    have eg : (ws ++ [x])[j] = ws[j] := List.getElem_append_left hjl
    have hj0 := hpos _ (List.getElem_mem hjl)
    rw [leftUpto_snoc mk _ j hjl2, leftUpto_snoc mk ws j hjl, ih, eg]
    have es : staysB mk (ws ++ [x]) j ws[j] = (staysB mk ws j ws[j] && !(mk x && x.pos == ws[j].pos)) := by
      unfold staysB
      rw [List.drop_append_of_le_length (by omega), List.any_append]
      simp [Bool.and_assoc]
    rw [es]
    by_cases hm : mk x = true
    · rw [if_pos hm, if_pos hm, List.filter_append]
      congr 1
      cases hs : staysB mk ws j ws[j]
      · simp
      · by_cases e : x.pos = ws[j].pos
        · simp [hm, e]
        · have e2 : ws[j].pos.toNat ≠ x.pos.toNat := by omega
          simp [hm, e, e2]
    · rw [if_neg hm, if_neg hm]
      simp [hm]
theorem left_all (mk : Wr → Bool) (ws : List Wr) (x : Wr) (hx : 0 ≤ x.pos) (hpos : ∀ y ∈ ws, 0 ≤ y.pos) : leftUpto mk (ws ++ [x]) (ws ++ [x]).length = if mk x = true then (leftUpto mk ws ws.length).filter (fun y => y.pos.toNat != x.pos.toNat) else leftUpto mk ws ws.length ++ [x] := by
  have hl : (ws ++ [x]).length = ws.length + 1 := by simp
  rw [hl, leftUpto_snoc mk _ ws.length (by simp), left_snoc mk ws x hx hpos _ (Nat.le_refl _)]
  have eg : (ws ++ [x])[ws.length]'(by simp) = x := by simp
  rw [eg]
  have es : staysB mk (ws ++ [x]) ws.length x = !mk x := by simp [staysB]
  rw [es]
  cases hm : mk x <;> simp
theorem out_left (mk : Wr → Bool) (safe : List (List Int)) (ws : List Wr) (hpos : ∀ x ∈ ws, 0 ≤ x.pos) : outOf (fun _ => true) (leftUpto mk ws ws.length) (outOf mk ws safe) = outOf (fun _ => true) ws safe := by
  have snocO : ∀ (m : Wr → Bool) (l : List Wr) (x : Wr) (a : List (List Int)), outOf m (l ++ [x]) a = outStep m (outOf m l a) x := fun m l x a => by unfold outOf; rw [List.foldl_append]; rfl
  generalize hn : ws.length = n
  induction n generalizing ws with
  | zero =>
    obtain rfl := List.eq_nil_of_length_eq_zero hn
    rfl
  | succ n ih =>
    obtain ⟨l, x, rfl⟩ : ∃ l x, ws = l ++ [x] := ⟨ws.dropLast, ws.getLast (by intro e; subst e; cases hn), (List.dropLast_concat_getLast _).symm⟩
    have hl : l.length = n := by simpa using hn
    have ihl := ih l (fun y hy => hpos y (List.mem_append_left _ hy)) hl
    rw [← hn, left_all mk l x (hpos x (by simp)) (fun y hy => hpos y (List.mem_append_left _ hy)), snocO, snocO, hl]
    by_cases hm : mk x = true
    · rw [if_pos hm]
      show outOf _ _ (if mk x = true then _ else _) = (if true = true then _ else _)
      rw [if_pos hm, if_pos rfl, out_filter, ihl]
    · rw [if_neg hm, snocO]
      show (if true = true then _ else _) = (if true = true then _ else _)
      rw [if_pos rfl, if_pos rfl]
      show (outOf _ _ (if mk x = true then _ else _)).set _ _ = _
      rw [if_neg hm, ihl]
theorem seen_settled (safe : List (List Int)) (ws : List Wr) (ts : List (Int × Int)) (hpos : ∀ x ∈ ws, 0 ≤ x.pos) : outOf (fun _ => true) (settle safe ws ts).2 (settle safe ws ts).1 = outOf (fun _ => true) ws safe := out_left _ _ _ hpos
end Go.Proofs.Yteobhljkjgocdaa.dsk
/- A slice that is filtered in place: what is left lies at the beginning of the row, what is still to come behind it where it was. -/
namespace Go.Proofs.Yteobhljkjgocdaa.dsk
open Go.ChangeShapes Go.WideShapes Go.ChangeAt Go.RowKit
open Go.Proofs.Yteobhljkjgocdaa.rows
open Go.Proofs.Yteobhljkjgocdaa.sec
open Go.Maps
set_option linter.unusedVariables false
set_option linter.unusedSimpArgs false

def LeftRow (w : World) (gw c : Nat) (ls ws : List Wr) (j : Nat) : Prop := ∃ mid rest : List Value, w.heap[gw]? = some (.cells (wrsC ls ++ mid ++ (wrsC (ws.drop j) ++ rest)).toArray 74 (0, 0)) ∧
  (wrsC ls).length + mid.length = j * 36 ∧ (wrsC (ws.drop j) ++ rest).length + j * 36 = c * 36
theorem wrsC_len {ws : List Wr} (h : ∀ x ∈ ws, Sec x.s) : (wrsC ws).length = ws.length * 36 := chunk_len Wr.c 36 ws fun x hx => Wr.c_len (h x hx)
theorem wrsC_drop {ws : List Wr} {j : Nat} (h : j < ws.length) : wrsC (ws.drop j) = ws[j].c ++ wrsC (ws.drop (j + 1)) := by
  unfold wrsC
  rw [List.drop_eq_getElem_cons h, List.map_cons, List.flatten_cons]
theorem wrsC_snoc (ls : List Wr) (x : Wr) : wrsC (ls ++ [x]) = wrsC ls ++ x.c := by simp [wrsC]
theorem LeftRow.lt {w : World} {gw c j : Nat} {ls ws : List Wr} (h : LeftRow w gw c ls ws j) : gw < w.heap.size := by
  obtain ⟨mid, rest, h1, _⟩ := h
  exact (Array.getElem?_eq_some_iff.1 h1).1
theorem LeftRow.next {w w' : World} {gw c j : Nat} {ls ws : List Wr} (h : LeftRow w gw c ls ws j) (hb : w'.heap[gw]? = w.heap[gw]?) : LeftRow w' gw c ls ws j := by
  obtain ⟨mid, rest, h1, h2⟩ := h
  exact ⟨mid, rest, hb.trans h1, h2⟩
theorem LeftRow.below {w w' : World} {gw c j : Nat} {ls ws : List Wr} (h : LeftRow w gw c ls ws j) (hb : Below w.heap.size w w') : LeftRow w' gw c ls ws j := h.next (hb.block gw h.lt)
theorem LeftRow.range {w : World} {gw c j : Nat} {ls ws : List Wr} (h : LeftRow w gw c ls ws j) (hj : j < ws.length) : w.rangeAt gw (j * 36) ws[j].c := by
  obtain ⟨mid, rest, h1, h2, h3⟩ := h
  intro i u hi
  refine cell_row h1 _ _ ?_
  rw [List.getElem?_toArray, ← h2, ← List.length_append, List.getElem?_append_right (by omega), wrsC_drop hj]
  rw [Nat.add_sub_cancel_left, List.append_assoc, List.getElem?_append_left (List.getElem?_eq_some_iff.1 hi).1]
  exact hi
theorem LeftRow.skip {w : World} {gw c j : Nat} {ls ws : List Wr} (h : LeftRow w gw c ls ws j) (hj : j < ws.length) (hs : Sec ws[j].s) : LeftRow w gw c ls ws (j + 1) := by
  obtain ⟨mid, rest, h1, h2, h3⟩ := h
  have hc := Wr.c_len hs
  rw [wrsC_drop hj] at h1 h3
  refine ⟨mid ++ ws[j].c, rest, ?_, by simp [hc]; omega, by simp [hc] at h3 ⊢; omega⟩
  rw [h1]
  simp [List.append_assoc]
/-- append within the row -/
theorem LeftRow.append {w : World} {gw c j : Nat} {ls ws : List Wr} (h : LeftRow w gw c ls ws j) (hj : j < ws.length) (hs : Sec ws[j].s) (hls : ∀ x ∈ ls, Sec x.s) (hl : ls.length ≤ j) {x : Wr} (hx : ws[j] = x) (ty : TypeId) (ad : Addr) (c2 : Nat) (hn : ∀ i u, x.c[i]? = some u → w.cell? (ad.add i) = some u) :
    ∃ w', (Builtin.append_ #[50, 50] ty #[.slice (some ⟨gw, 0, none⟩) ls.length c, .slice (some ad) 1 c2]).run Try.prog w = .ok (.slice (some ⟨gw, 0, none⟩) (ls.length + 1) c) w' ∧ LeftRow w' gw c (ls ++ [x]) ws (j + 1) ∧ Touch (· = gw) w w' := by
  obtain ⟨mid, rest, h1, h2, h3⟩ := h
  obtain ⟨i0, hi, hz0, hz1, hz2⟩ := info_parts elem_wrs.info
  have hc := Wr.c_len hs
  have hll := wrsC_len hls
  rw [wrsC_drop hj] at h1 h3
  rw [hx] at h1 h3 hc
  have hdl : (wrsC (ws.drop (j + 1)) ++ rest).length + (j + 1) * 36 = c * 36 := by simp [hc] at h3 ⊢; omega
  have hjc : j + 1 ≤ c := by omega
  have hr := run_append_room (P := Try.prog) w 50 ty 74 i0 elem_wrs.und hi gw ls.length c _ h1 ad 1 c2 x.c (by rw [hz1, hc]) hn (wr_ones x) (by omega) (by rw [hz1]; simp [hc, hll]; omega)
  refine ⟨_, hr, ⟨(mid ++ x.c).drop 36, rest, ?_, ?_, hdl⟩, touch_setRow w gw _⟩
  · rw [setRow_heap w gw _ _ _ _ h1, hz1, hc, ← hll, wrsC_snoc]
    have e1 : wrsC ls ++ mid ++ (x.c ++ wrsC (ws.drop (j + 1)) ++ rest) = wrsC ls ++ ((mid ++ x.c) ++ (wrsC (ws.drop (j + 1)) ++ rest)) := by simp [List.append_assoc]
    rw [e1]
    have e2 : ((mid ++ x.c) ++ (wrsC (ws.drop (j + 1)) ++ rest)).drop 36 = (mid ++ x.c).drop 36 ++ (wrsC (ws.drop (j + 1)) ++ rest) := List.drop_append_of_le_length (by simp [hc])
    rw [List.take_left, ← List.drop_drop, List.drop_left, e2]
    simp [List.append_assoc]
  · rw [wrsC_snoc]; simp [hc]; omega
theorem LeftRow.start {w : World} {gw c m : Nat} {ws : List Wr} {B : Nat} (h : Own w B 74 36 (.slice (some ⟨gw, 0, none⟩) m c) m (wrsC ws)) : LeftRow w gw c [] ws 0 := by
  rcases h.2 with ⟨h2, _⟩ | ⟨g', cap, cur, h1, h2, h3, h4, h5, h6, h7⟩
  · cases h2
  · cases h1
    have e : cur.toList = wrsC ws ++ cur.toList.drop (m * 36) := by rw [← h7, List.take_append_drop]
    refine ⟨[], cur.toList.drop (m * 36), ?_, by simp [wrsC], ?_⟩
    · rw [h3]; simp only [wrsC, List.map_nil, List.flatten_nil, List.nil_append, List.drop_zero] at e ⊢; rw [← e]
    · rw [List.drop_zero, ← e, Array.length_toList, h6]; simp
theorem LeftRow.own {w : World} {gw c j : Nat} {ls ws : List Wr} (h : LeftRow w gw c ls ws j) (hls : ∀ x ∈ ls, Sec x.s) (hl : ls.length ≤ j) (hj : j ≤ c) (hc : c ≤ maxLen) : Own w 0 74 36 (.slice (some ⟨gw, 0, none⟩) ls.length c) ls.length (wrsC ls) := by
  obtain ⟨mid, rest, h1, h2, h3⟩ := h
  have hll := wrsC_len hls
  refine ⟨hll, Or.inr ⟨gw, c, _, rfl, Nat.zero_le _, h1, by omega, hc, ?_, ?_⟩⟩
  · simp only [List.size_toArray]
    simp only [List.length_append] at h3 ⊢
    omega
  · show (wrsC ls ++ mid ++ _).take _ = _
    rw [List.append_assoc, ← hll, List.take_left]
/-- the same, at the operation -/
theorem ap_left {w : World} {ops : Array Oper} {rest : List Oper} {o : Oper} {a : Act} {Q : Exit → Act → World → Prop} (hgd : o.guard = none) (s x : Operand) (ho : o.op = .call { callee := .builtin .append, args := #[s, x], argTypes := #[50, 50] })
    {gw c j : Nat} {ls ws : List Wr} (h : LeftRow w gw c ls ws j) (hj : j < ws.length) (hs : Sec ws[j].s) (hls : ∀ x ∈ ls, Sec x.s) (hl : ls.length ≤ j) {y : Wr} (hy : ws[j] = y) (nl : Nat) (hnl : ls.length = nl) (hv : a.eval s = .slice (some ⟨gw, 0, none⟩) nl c) (b c2 : Nat) (hx : a.eval x = .slice (some ⟨b, 0, none⟩) 1 c2) (hr : w.rangeAt b 0 y.c)
    (k : ∀ w', LeftRow w' gw c (ls ++ [y]) ws (j + 1) → Touch (· = gw) w w' → wpList Try.prog ops Q rest (a.put o.dst (.slice (some ⟨gw, 0, none⟩) (nl + 1) c)) w') : wpList Try.prog ops Q (o :: rest) a w := by
  subst hnl
  refine wpList_plain hgd fun K hK => ?_
  obtain ⟨w', hrun, h2, h3⟩ := h.append hj hs hls hl hy o.type ⟨b, 0, none⟩ c2 (fun i u hi => by rw [Addr.add_mid]; exact hr i u hi)
  unfold Oper.wp
  simp [execOp, ho, resolve, invoke, builtin, hv, hx, hrun, Result.andThen]
  exact hK _ _ (k w' h2 h3)
end Go.Proofs.Yteobhljkjgocdaa.dsk
