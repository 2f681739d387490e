/- An event more in the log of the code's disk. -/
import Derived.Test.YtpnepooobmbfbaaDcMath
import Derived.LaidEqlPtr
import Derived.Maps.AppendAt
namespace Go.Proofs.Ytpnepooobmbfbaa.dsk
set_option maxRecDepth 100000
open Go.ChangeShapes Go.WideShapes Go.ChangeAt Go.RowKit
open Go.Proofs.Ytpnepooobmbfbaa.rows
open Go.Proofs.Ytpnepooobmbfbaa.sec
open Go.Maps
set_option linter.unusedVariables false
set_option linter.unusedSimpArgs false

/-- where the new slice lies: in the old one's row, or in the block that was just made -/
theorem run_ap3 {t e : TypeId} {sz by_ : Nat} {z : Value} (E : Elem t e sz by_ z) {w : World} (ty : TypeId) (v : Value) (n : Nat) (cs : List Value) (hown : Own w 0 e sz v n cs)
    (y : Value) (m : Nat) (ds : List Value) (hrd : Rd w sz y m ds) (h1 : ∀ u ∈ ds, u.oneCell' = true) (hl : n + m ≤ 1000000) :
    ∃ p c w', (Builtin.append_ #[t, t] ty #[v, y]).run Try.prog w = .ok (.slice p (n + m) c) w' ∧ Own w' 0 e sz (.slice p (n + m) c) (n + m) (cs ++ ds) ∧ Touch (fun k => v.ownBlock = some k) w w' ∧ ∀ k, (Value.slice p (n + m) c).ownBlock = some k → v.ownBlock = some k ∨ (w.heap.size ≤ k ∧ k < w'.heap.size) := by
  obtain ⟨i0, hi, hz0, hz1, hz2⟩ := info_parts E.info
  have hby : (n + m) * by_ ≤ 140737488355328 := by
    have : (n + m) * by_ ≤ 1000000 * 1000 := Nat.mul_le_mul hl E.few
    omega
  have key : ∀ (ad : Addr) (c : Nat), y = .slice (some ad) m c → ds.length = m * sz → (∀ j u, ds[j]? = some u → w.cell? (ad.add j) = some u) → ∃ p c w', (Builtin.append_ #[t, t] ty #[v, y]).run Try.prog w = .ok (.slice p (n + m) c) w' ∧ Own w' 0 e sz (.slice p (n + m) c) (n + m) (cs ++ ds) ∧ Touch (fun k => v.ownBlock = some k) w w' ∧ ∀ k, (Value.slice p (n + m) c).ownBlock = some k → v.ownBlock = some k ∨ (w.heap.size ≤ k ∧ k < w'.heap.size) := by
    intro ad c hy hm hc
    subst hy
    obtain ⟨v', w', hr, h2, h3, _, h5⟩ := run_append_own_at (P := Try.prog) w 0 t ty e i0 z sz by_ E.und hi hz0 hz1 hz2 E.zs E.pos v n cs hown ad m c ds hm hc h1 (by unfold maxLen; omega) hby (Nat.zero_le _)
    obtain ⟨p, c', rfl, h4, _⟩ := own_out hown (Nat.zero_le _) h2 h3
    refine ⟨p, c', w', hr, h4, ⟨h3.os, h3.tape, h3.output, h3.size, fun k hk hn => h3.block k hk (fun e => hn e.symm)⟩, fun k hk => ?_⟩
    rcases h5 with h5 | h5
    · exact Or.inl (h5.symm.trans hk)
    · have : w.heap.size = k := Option.some.inj (h5.symm.trans hk)
      exact Or.inr ⟨by omega, (own_blk h4 hk).2⟩
  rcases hrd with ⟨p, cap, rfl, rfl, rfl, hp⟩ | ⟨b, off, cap, rfl, h2, h2a, h2b, h3, h4, h5⟩
  · cases p with
    | none =>
      obtain rfl := hp rfl
      have hr := run_append_owned_none (P := Try.prog) (w := w) 0 t ty e i0 sz E.und hi v n cs hown
      obtain ⟨p, c, hv⟩ := hown.slice
      subst hv
      exact ⟨p, c, w, hr, by rw [List.append_nil]; exact hown, Touch.refl _ w, fun k hk => Or.inl hk⟩
    | some ad => exact key ad cap rfl (by simp) (by simp)
  · refine key ⟨b, off, none⟩ cap rfl h4 ?_
    intro j u hj
    rw [Addr.add_mid]
    exact h5 j u hj
theorem ap_rd3 {t e : TypeId} {sz by_ : Nat} {z : Value} (E : Elem t e sz by_ z) {w : World} {ops : Array Oper} {rest : List Oper} {o : Oper} {a : Act} {Q : Exit → Act → World → Prop} (hgd : o.guard = none) (s x : Operand)
    (ho : o.op = .call { callee := .builtin .append, args := #[s, x], argTypes := #[t, t] })
    (v : Value) (n : Nat) (cs : List Value) (hs : a.eval s = v) (hown : Own w 0 e sz v n cs) (y : Value) (m : Nat) (ds : List Value) (hx : a.eval x = y) (hrd : Rd w sz y m ds) (h1 : ∀ u ∈ ds, u.oneCell' = true) (hl : n + m ≤ 1000000)
    (h : ∀ p c w', Own w' 0 e sz (.slice p (n + m) c) (n + m) (cs ++ ds) → Touch (fun k => v.ownBlock = some k) w w' → (∀ k, (Value.slice p (n + m) c).ownBlock = some k → v.ownBlock = some k ∨ (w.heap.size ≤ k ∧ k < w'.heap.size)) → wpList Try.prog ops Q rest (a.put o.dst (.slice p (n + m) c)) w') : wpList Try.prog ops Q (o :: rest) a w := by
  refine wpList_plain hgd fun K hK => ?_
  obtain ⟨p, c, w', hr, h2, h3, h4⟩ := run_ap3 E (w := w) o.type v n cs hown y m ds hrd h1 hl
  unfold Oper.wp
  simp [execOp, ho, resolve, invoke, builtin, hs, hx, hr, Result.andThen]
  exact hK _ _ (h p c w' h2 h3 h4)
end Go.Proofs.Ytpnepooobmbfbaa.dsk
