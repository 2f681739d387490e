/- An event more in the log of the code's disk. -/
import Derived.Test.YteobhljkjgocdaaDcCount
import Derived.Maps.AppendAt
namespace Go.Proofs.Yteobhljkjgocdaa.dsk
open Go.ChangeShapes Go.WideShapes Go.ChangeAt Go.RowKit
open Go.Proofs.Yteobhljkjgocdaa.rows
open Go.Proofs.Yteobhljkjgocdaa.sec
open Go.Maps
set_option linter.unusedVariables false
set_option linter.unusedSimpArgs false

/-- where the new slice lies: in the old one's row, or in the block that was just made -/
theorem run_ap3 {t e : TypeId} {sz by_ : Nat} {z : Value} (E : Elem t e sz by_ z) {w : World} (ty : TypeId) (v : Value) (n : Nat) (cs : List Value) (hown : Own w 0 e sz v n cs)
    (y : Value) (m : Nat) (ds : List Value) (hrd : Rd w sz y m ds) (h1 : ∀ u ∈ ds, u.oneCell' = true) (hl : n + m ≤ 1000000) :
    ∃ p c w', (Builtin.append_ #[t, t] ty #[v, y]).run Try.prog w = .ok (.slice p (n + m) c) w' ∧ Own w' 0 e sz (.slice p (n + m) c) (n + m) (cs ++ ds) ∧ Touch (fun k => v.ownBlock = some k) w w' ∧ ∀ k, (Value.slice p (n + m) c).ownBlock = some k → v.ownBlock = some k ∨ (w.heap.size ≤ k ∧ k < w'.heap.size) := by
  obtain ⟨i0, hi, hz0, hz1, hz2⟩ := info_parts E.info
  have hby : (n + m) * by_ ≤ 140737488355328 := by
    have : (n + m) * by_ ≤ 1000000 * 1000 := Nat.mul_le_mul hl E.few
    omega
  have key : ∀ (ad : Addr) (c : Nat), y = .slice (some ad) m c → ds.length = m * sz → (∀ j u, ds[j]? = some u → w.cell? (ad.add j) = some u) → ∃ p c w', (Builtin.append_ #[t, t] ty #[v, y]).run Try.prog w = .ok (.slice p (n + m) c) w' ∧ Own w' 0 e sz (.slice p (n + m) c) (n + m) (cs ++ ds) ∧ Touch (fun k => v.ownBlock = some k) w w' ∧ ∀ k, (Value.slice p (n + m) c).ownBlock = some k → v.ownBlock = some k ∨ (w.heap.size ≤ k ∧ k < w'.heap.size) := by
    intro ad c hy hm hc
    subst hy
    obtain ⟨v', w', hr, h2, h3, _, h5⟩ := run_append_own_at (P := Try.prog) w 0 t ty e i0 z sz by_ E.und hi hz0 hz1 hz2 E.zs E.pos v n cs hown ad m c ds hm hc h1 (by unfold maxLen; omega) hby (Nat.zero_le _)
    obtain ⟨p, c', rfl, h4, _⟩ := own_out hown (Nat.zero_le _) h2 h3
    refine ⟨p, c', w', hr, h4, ⟨h3.os, h3.tape, h3.output, h3.size, fun k hk hn => h3.block k hk (fun e => hn e.symm)⟩, fun k hk => ?_⟩
    rcases h5 with h5 | h5
    · exact Or.inl (h5.symm.trans hk)
    · have : w.heap.size = k := Option.some.inj (h5.symm.trans hk)
      exact Or.inr ⟨by omega, (own_blk h4 hk).2⟩
  rcases hrd with ⟨p, cap, rfl, rfl, rfl, hp⟩ | ⟨b, off, cap, rfl, h2, h2a, h2b, h3, h4, h5⟩
  · cases p with
    | none =>
      obtain rfl := hp rfl
      have hr := run_append_owned_none (P := Try.prog) (w := w) 0 t ty e i0 sz E.und hi v n cs hown
      obtain ⟨p, c, hv⟩ := hown.slice
      subst hv
      exact ⟨p, c, w, hr, by rw [List.append_nil]; exact hown, Touch.refl _ w, fun k hk => Or.inl hk⟩
    | some ad => exact key ad cap rfl (by simp) (by simp)
  · refine key ⟨b, off, none⟩ cap rfl h4 ?_
    intro j u hj
    rw [Addr.add_mid]
    exact h5 j u hj
theorem ap_rd3 {t e : TypeId} {sz by_ : Nat} {z : Value} (E : Elem t e sz by_ z) {w : World} {ops : Array Oper} {rest : List Oper} {o : Oper} {a : Act} {Q : Exit → Act → World → Prop} (hgd : o.guard = none) (s x : Operand)
    (ho : o.op = .call { callee := .builtin .append, args := #[s, x], argTypes := #[t, t] })
    (v : Value) (n : Nat) (cs : List Value) (hs : a.eval s = v) (hown : Own w 0 e sz v n cs) (y : Value) (m : Nat) (ds : List Value) (hx : a.eval x = y) (hrd : Rd w sz y m ds) (h1 : ∀ u ∈ ds, u.oneCell' = true) (hl : n + m ≤ 1000000)
    (h : ∀ p c w', Own w' 0 e sz (.slice p (n + m) c) (n + m) (cs ++ ds) → Touch (fun k => v.ownBlock = some k) w w' → (∀ k, (Value.slice p (n + m) c).ownBlock = some k → v.ownBlock = some k ∨ (w.heap.size ≤ k ∧ k < w'.heap.size)) → wpList Try.prog ops Q rest (a.put o.dst (.slice p (n + m) c)) w') : wpList Try.prog ops Q (o :: rest) a w := by
  refine wpList_plain hgd fun K hK => ?_
  obtain ⟨p, c, w', hr, h2, h3, h4⟩ := run_ap3 E (w := w) o.type v n cs hown y m ds hrd h1 hl
  unfold Oper.wp
  simp [execOp, ho, resolve, invoke, builtin, hs, hx, hr, Result.andThen]
  exact hK _ _ (h p c w' h2 h3 h4)
theorem step_ap3 {t e : TypeId} {sz by_ : Nat} {z : Value} (E : Elem t e sz by_ z) {w : World} {ops : Array Oper} {o : Oper} {a : Act} {K : Act → World → Prop} {Q : Exit → Act → World → Prop} {F : Prop} (hw : Region.wanted o (yielded ops a.tmps) = true) (s x : Operand)
    (ho : o.op = .call { callee := .builtin .append, args := #[s, x], argTypes := #[t, t] })
    (v : Value) (n : Nat) (cs : List Value) (hs : a.eval s = v) (hown : Own w 0 e sz v n cs) (y : Value) (m : Nat) (ds : List Value) (hx : a.eval x = y) (hrd : Rd w sz y m ds) (h1 : ∀ u ∈ ds, u.oneCell' = true) (hl : n + m ≤ 1000000)
    (h : ∀ p c w', Own w' 0 e sz (.slice p (n + m) c) (n + m) (cs ++ ds) → Touch (fun k => v.ownBlock = some k) w w' → (∀ k, (Value.slice p (n + m) c).ownBlock = some k → v.ownBlock = some k ∨ (w.heap.size ≤ k ∧ k < w'.heap.size)) → K (a.put o.dst (.slice p (n + m) c)) w') :
    if Region.wanted o (yielded ops a.tmps) = true then Oper.wp Try.prog o a w K Q else F := by
  rw [if_pos hw]
  obtain ⟨p, c, w', hr, h2, h3, h4⟩ := run_ap3 E (w := w) o.type v n cs hown y m ds hrd h1 hl
  unfold Oper.wp
  simp [execOp, ho, resolve, invoke, builtin, hs, hx, hr, Result.andThen]
  exact h p c w' h2 h3 h4
theorem log_more {T T' : Nat → Prop} {w w' : World} {v v' t : Value} {es : List Ev} {vs : List Value} {ev : Ev} (h : LogIn T w v es vs) (k : Keeps T w w') (hT : ∀ b, b < w.heap.size → T b → T' b)
    (own : Own w' 0 79 38 v' (es.length + 1) (((es.zip vs).map fun x => evC x.1 x.2).flatten ++ evC ev t)) (ht : ∃ p c, t = .slice p ev.2.2.length c ∧ Rd w' 2 (.slice p ev.2.2.length c) ev.2.2.length (tagsC ev.2.2) ∧ InS T' (.slice p ev.2.2.length c)) : LogIn T' w' v' (es ++ [ev]) (vs ++ [t]) := by
  refine ⟨by simp [h.len], ?_, fun i hi => ?_⟩
  · have hz : (es ++ [ev]).zip (vs ++ [t]) = es.zip vs ++ [(ev, t)] := by rw [List.zip_append h.len.symm]; rfl
    rw [hz, List.map_append, List.flatten_append]
    simpa using own
  · by_cases hlt : i < es.length
    · obtain ⟨p, c, h1, h2, h3⟩ := (h.mono hT).tags i hlt
      refine ⟨p, c, ?_, ?_, ?_⟩
      · rw [List.getElem_append_left hlt, List.getElem?_append_left (by rw [h.len]; exact hlt)]; exact h1
      · rw [List.getElem_append_left hlt]
        obtain ⟨p', c', h1', h2', h3'⟩ := h.tags i hlt
        have := h1.symm.trans h1'
        cases this
        exact Rd.kept h2' h3' k
      · rw [List.getElem_append_left hlt]; exact h3
    · have : i = es.length := by simp at hi; omega
      subst this
      rw [List.getElem_append_right (Nat.le_refl _), List.getElem?_append_right (by rw [h.len]; exact Nat.le_refl _)]
      obtain ⟨p, c, h1, h2, h3⟩ := ht
      exact ⟨p, c, by simp [h.len, h1], by simpa using h2, by simpa using h3⟩
/-- an event more, and another epoch -/
theorem codeAt_log {w w' : World} {F T : Nat → Prop} {z z' : Nat → Nat} {g : Nat} {st : St} {vs vw vn vl vf vl' t : Value} {es : List Value} {ev : Ev} {ep : Int} (h : CodeAt w F z g st vs vw vn vl vf) (he : LogIn (Zn F z 6) w vl st.log es) (ht : Touch T w w') (hT : ∀ b, T b → F b ∧ (z b = 0 ∨ z b = 4)) (hz : ∀ b, b < w.heap.size → z' b = z b)
    (row : w'.heap[g]? = some (.cells #[.pointer (some ⟨g, 0, none⟩), vs, vw, vn, .int .i64 ep, vl', .int .i64 st.asked, vf] 70 (0, 0)))
    (own : Own w' 0 79 38 vl' (st.log.length + 1) (((st.log.zip es).map fun x => evC x.1 x.2).flatten ++ evC ev t)) (loc : ∀ k, vl'.ownBlock = some k → vl.ownBlock = some k ∨ (w.heap.size ≤ k ∧ k < w'.heap.size ∧ z' k = 4))
    (htg : ∃ p c, t = .slice p ev.2.2.length c ∧ Rd w' 2 (.slice p ev.2.2.length c) ev.2.2.length (tagsC ev.2.2) ∧ InS (Zn (grow F w w') z' 6) (.slice p ev.2.2.length c)) :
    CodeAt w' (grow F w w') z' g { st with ep := ep, log := st.log ++ [ev] } vs vw vn vl' vf := by
  have hF : ∀ b, F b → grow F w w' b := fun b hb => Or.inl hb
  have off : ∀ k, k ≠ 0 → k ≠ 4 → Keeps (Zn F z k) w w' := fun k h0 h4 => zn_off ht fun b hb hb2 => by have h1 := (hT b hb).2; have h2 := hb2.2; omega
  refine ⟨row, ⟨hF _ h.own.1, (hz _ h.lt).trans h.own.2⟩, own_kept h.safe h.safeS (off 1 (by decide) (by decide)), h.safeS.next h.safe hF hz, own_kept h.wait h.waitS (off 2 (by decide) (by decide)), h.waitS.next h.wait hF hz, own_kept h.seen h.seenS (off 3 (by decide) (by decide)), h.seenS.next h.seen hF hz,
    ⟨es ++ [t], ?_⟩, ?_, faults_next h.faults (off 5 (by decide) (by decide)) fun b hb hb2 => ⟨hF b hb2.1, (hz b hb).trans hb2.2⟩, h.eps⟩
  · exact log_more he (off 6 (by decide) (by decide)) (fun b hb hb2 => ⟨hF b hb2.1, (hz b hb).trans hb2.2⟩) own htg
  · intro k hk
    rcases loc k hk with h1 | ⟨h1, h2, h3⟩
    · exact h.logS.next he.own hF hz k h1
    · exact ⟨Or.inr ⟨h1, h2⟩, h3⟩
end Go.Proofs.Yteobhljkjgocdaa.dsk
