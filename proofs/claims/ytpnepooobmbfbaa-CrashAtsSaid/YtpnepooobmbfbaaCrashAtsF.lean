/- What CrashAts wants, part 6. -/
import Derived.Test.YtpnepooobmbfbaaCrashAtsE
import Derived.LaidEqlPtr
import Derived.Maps.AppendAt
import Derived.Lib.SliceRun
/- An event more in the log of the code's disk. -/
namespace Go.Proofs.Ytpnepooobmbfbaa.dsk
set_option maxRecDepth 100000
open Go.ChangeShapes Go.WideShapes Go.ChangeAt Go.RowKit
open Go.Proofs.Ytpnepooobmbfbaa.rows
open Go.Proofs.Ytpnepooobmbfbaa.sec
open Go.Maps
set_option linter.unusedVariables false
set_option linter.unusedSimpArgs false

/-- where the new slice lies: in the old one's row, or in the block that was just made -/
theorem run_ap3 {t e : TypeId} {sz by_ : Nat} {z : Value} (E : Elem t e sz by_ z) {w : World} (ty : TypeId) (v : Value) (n : Nat) (cs : List Value) (hown : Own w 0 e sz v n cs)
    (y : Value) (m : Nat) (ds : List Value) (hrd : Rd w sz y m ds) (h1 : ∀ u ∈ ds, u.oneCell' = true) (hl : n + m ≤ 1000000) :
    ∃ p c w', (Builtin.append_ #[t, t] ty #[v, y]).run Try.prog w = .ok (.slice p (n + m) c) w' ∧ Own w' 0 e sz (.slice p (n + m) c) (n + m) (cs ++ ds) ∧ Touch (fun k => v.ownBlock = some k) w w' ∧ ∀ k, (Value.slice p (n + m) c).ownBlock = some k → v.ownBlock = some k ∨ (w.heap.size ≤ k ∧ k < w'.heap.size) := by
  obtain ⟨i0, hi, hz0, hz1, hz2⟩ := info_parts E.info
  have hby : (n + m) * by_ ≤ 140737488355328 := by
    have : (n + m) * by_ ≤ 1000000 * 1000 := Nat.mul_le_mul hl E.few
    omega
  have key : ∀ (ad : Addr) (c : Nat), y = .slice (some ad) m c → ds.length = m * sz → (∀ j u, ds[j]? = some u → w.cell? (ad.add j) = some u) → ∃ p c w', (Builtin.append_ #[t, t] ty #[v, y]).run Try.prog w = .ok (.slice p (n + m) c) w' ∧ Own w' 0 e sz (.slice p (n + m) c) (n + m) (cs ++ ds) ∧ Touch (fun k => v.ownBlock = some k) w w' ∧ ∀ k, (Value.slice p (n + m) c).ownBlock = some k → v.ownBlock = some k ∨ (w.heap.size ≤ k ∧ k < w'.heap.size) := by
    intro ad c hy hm hc
    subst hy
    obtain ⟨v', w', hr, h2, h3, _, h5⟩ := run_append_own_at (P := Try.prog) w 0 t ty e i0 z sz by_ E.und hi hz0 hz1 hz2 E.zs E.pos v n cs hown ad m c ds hm hc h1 (by unfold maxLen; omega) hby (Nat.zero_le _)
    obtain ⟨p, c', rfl, h4, _⟩ := own_out hown (Nat.zero_le _) h2 h3
    refine ⟨p, c', w', hr, h4, ⟨h3.os, h3.tape, h3.output, h3.size, fun k hk hn => h3.block k hk (fun e => hn e.symm)⟩, fun k hk => ?_⟩
    rcases h5 with h5 | h5
    · exact Or.inl (h5.symm.trans hk)
    · have : w.heap.size = k := Option.some.inj (h5.symm.trans hk)
      exact Or.inr ⟨by omega, (own_blk h4 hk).2⟩
  rcases hrd with ⟨p, cap, rfl, rfl, rfl, hp⟩ | ⟨b, off, cap, rfl, h2, h2a, h2b, h3, h4, h5⟩
  · cases p with
    | none =>
      obtain rfl := hp rfl
      have hr := run_append_owned_none (P := Try.prog) (w := w) 0 t ty e i0 sz E.und hi v n cs hown
      obtain ⟨p, c, hv⟩ := hown.slice
      subst hv
      exact ⟨p, c, w, hr, by rw [List.append_nil]; exact hown, Touch.refl _ w, fun k hk => Or.inl hk⟩
    | some ad => exact key ad cap rfl (by simp) (by simp)
  · refine key ⟨b, off, none⟩ cap rfl h4 ?_
    intro j u hj
    rw [Addr.add_mid]
    exact h5 j u hj
theorem ap_rd3 {t e : TypeId} {sz by_ : Nat} {z : Value} (E : Elem t e sz by_ z) {w : World} {ops : Array Oper} {rest : List Oper} {o : Oper} {a : Act} {Q : Exit → Act → World → Prop} (hgd : o.guard = none) (s x : Operand)
    (ho : o.op = .call { callee := .builtin .append, args := #[s, x], argTypes := #[t, t] })
    (v : Value) (n : Nat) (cs : List Value) (hs : a.eval s = v) (hown : Own w 0 e sz v n cs) (y : Value) (m : Nat) (ds : List Value) (hx : a.eval x = y) (hrd : Rd w sz y m ds) (h1 : ∀ u ∈ ds, u.oneCell' = true) (hl : n + m ≤ 1000000)
    (h : ∀ p c w', Own w' 0 e sz (.slice p (n + m) c) (n + m) (cs ++ ds) → Touch (fun k => v.ownBlock = some k) w w' → (∀ k, (Value.slice p (n + m) c).ownBlock = some k → v.ownBlock = some k ∨ (w.heap.size ≤ k ∧ k < w'.heap.size)) → wpList Try.prog ops Q rest (a.put o.dst (.slice p (n + m) c)) w') : wpList Try.prog ops Q (o :: rest) a w := by
  refine wpList_plain hgd fun K hK => ?_
  obtain ⟨p, c, w', hr, h2, h3, h4⟩ := run_ap3 E (w := w) o.type v n cs hown y m ds hrd h1 hl
  unfold Oper.wp
  simp [execOp, ho, resolve, invoke, builtin, hs, hx, hr, Result.andThen]
  exact hK _ _ (h p c w' h2 h3 h4)
theorem step_ap3 {t e : TypeId} {sz by_ : Nat} {z : Value} (E : Elem t e sz by_ z) {w : World} {ops : Array Oper} {o : Oper} {a : Act} {K : Act → World → Prop} {Q : Exit → Act → World → Prop} {F : Prop} (hw : Region.wanted o (yielded ops a.tmps) = true) (s x : Operand)
    (ho : o.op = .call { callee := .builtin .append, args := #[s, x], argTypes := #[t, t] })
    (v : Value) (n : Nat) (cs : List Value) (hs : a.eval s = v) (hown : Own w 0 e sz v n cs) (y : Value) (m : Nat) (ds : List Value) (hx : a.eval x = y) (hrd : Rd w sz y m ds) (h1 : ∀ u ∈ ds, u.oneCell' = true) (hl : n + m ≤ 1000000)
    (h : ∀ p c w', Own w' 0 e sz (.slice p (n + m) c) (n + m) (cs ++ ds) → Touch (fun k => v.ownBlock = some k) w w' → (∀ k, (Value.slice p (n + m) c).ownBlock = some k → v.ownBlock = some k ∨ (w.heap.size ≤ k ∧ k < w'.heap.size)) → K (a.put o.dst (.slice p (n + m) c)) w') :
    if Region.wanted o (yielded ops a.tmps) = true then Oper.wp Try.prog o a w K Q else F := by
  rw [if_pos hw]
  obtain ⟨p, c, w', hr, h2, h3, h4⟩ := run_ap3 E (w := w) o.type v n cs hown y m ds hrd h1 hl
  unfold Oper.wp
  simp [execOp, ho, resolve, invoke, builtin, hs, hx, hr, Result.andThen]
  exact h p c w' h2 h3 h4
end Go.Proofs.Ytpnepooobmbfbaa.dsk
/- What slices.Clone gives at the four element types, and what the readers of the code's disk give. -/
namespace Go.Proofs.Ytpnepooobmbfbaa.dsk
set_option maxRecDepth 100000
open Go.ChangeShapes Go.WideShapes Go.ChangeAt Go.RowKit
open Go.Proofs.Ytpnepooobmbfbaa.rows
open Go.Proofs.Ytpnepooobmbfbaa.sec
open Go.Maps
set_option linter.unusedVariables false
set_option linter.unusedSimpArgs false

/-- a clone of a slice: cells of its own -/
def CloneDone (e0 : TypeId) (sz n : Nat) (cs : List Value) (w : World) (e : Ending) (w' : World) : Prop := ∃ p' c', e = .returned (.slice p' n c') ∧ Own w' w.heap.size e0 sz (.slice p' n c') n cs ∧ Below w.heap.size w w'
theorem clone_secs (p : Option Addr) (n c : Nat) (cs : List Value) (w : World) (h : Rd w 32 (.slice p n c) n cs) (h1 : ∀ u ∈ cs, u.oneCell' = true) (hn : n ≤ 1000) :
    Calls Try.prog 36 #[.slice p n c] w (CloneDone 62 32 n cs w) := by
  cases p with
  | none =>
    have h0 : n = 0 ∧ c = 0 ∧ cs = [] := by
      rcases h with ⟨p', cap', e1, e2, e3, e4⟩ | ⟨b, off, cap', e1, _⟩
      · cases e1; exact ⟨e2, e4 rfl, e3⟩
      · cases e1
    obtain ⟨rfl, rfl, rfl⟩ := h0
    have q22 : ∀ (w : World) (a : Option Addr) (n c n' c' : Nat), (binOp .eql 22 (.slice a n c) (.slice none n' c')).run Try.prog w = .ok (.bool a.isNone) w := fun w a n c n' c' => Lib.run_eql_slice_nil w _ _ a n c n' c' Try.underlying22
    go_enter Try.func36, Try.ntmps36
    go_wp2
    go_ret
    exact ⟨none, 0, rfl, own_nil _ _ _ _, Below.refl _ _⟩
  | some a =>
    have H := Lib.hid h
    have H1 := Lib.hid h1
    clear h h1
    have q22 : ∀ (w : World) (a : Option Addr) (n c n' c' : Nat), (binOp .eql 22 (.slice a n c) (.slice none n' c')).run Try.prog w = .ok (.bool a.isNone) w := fun w a n c n' c' => Lib.run_eql_slice_nil w _ _ a n c n' c' Try.underlying22
    go_enter Try.func36, Try.ntmps36
    go_wp2_with (at_builtin; refine ap_rd elem_secs rfl (.tmp 5) (.tmp 6) rfl w.heap.size _ 0 [] rfl (own_made w _ _ (Nat.le_refl _)) _ n cs rfl (H.out.later (below_alloc (Below.refl _ _) _)) H1.out (by omega) (by rw [size_alloc]; omega) ?_; intro pa ca wa ho hb; rw [Nat.zero_add, List.nil_append] at ho; have HO := Lib.hid ho; have HB := Lib.hid hb; clear ho hb)
    go_ret
    exact ⟨pa, ca, by simp, HO.out, (below_alloc (Below.refl _ w) _).trans HB.out⟩
end Go.Proofs.Ytpnepooobmbfbaa.dsk
