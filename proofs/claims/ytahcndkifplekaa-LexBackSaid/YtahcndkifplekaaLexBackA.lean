/- What LexBack wants, part 1. -/
import Derived.Test.YtahcndkifplekaaRows
import Derived.WalkKit
import Derived.ProofKit
import Derived.OpenShut
import Derived.Handy
import Derived.ChangeSlices
import Derived.Deep.RegionHeld3
import Derived.Deep.QuietTactic
import Derived.Deep.DrawnRows
import Derived.Deep.MidRow
import Derived.BigQuiet
import Derived.Lib.Hide
import Derived.Lib.AppendStr
import Derived.Laws.AppendOwnNone
import Derived.Laws.BytesArg
import Derived.Laws.BitsAllLaws
import Derived.OwnWalk
import Derived.WalkSpells
import Derived.Outline
set_option linter.unusedVariables false
namespace Go.Proofs.Ytahcndkifplekaa
namespace rows
set_option maxRecDepth 100000
open Go.ChangeShapes Go.WideShapes Go.ChangeAt Go.RowKit
theorem ret_int {k : IntKind} {a b : Int} (h : a = b) : Ending.returned (.int k a) = .returned (.int k b) := by rw [h]
theorem ret_str {a b : ByteArray} (h : a = b) : Ending.returned (.string a) = .returned (.string b) := by rw [h]
theorem ret_bool {a b : Bool} (h : a = b) : Ending.returned (.bool a) = .returned (.bool b) := by rw [h]
theorem wf_i64 {n : Int} (h : (Lit.int .i64 n).wf = true) : -9223372036854775808 ≤ n ∧ n ≤ 9223372036854775807 := by
 simpa [Lit.wf, IntKind.min, IntKind.max, IntKind.signed, IntKind.bits] using h
theorem below_alloc {a w : World} (h : Below a.heap.size a w) (o : Obj) : Below a.heap.size a (w.alloc o) := h.alloc h.size o
theorem below_trans {a b c : World} (h : Below a.heap.size a b) (k : Below b.heap.size b c) : Below a.heap.size a c := h.trans (k.mono h.size)
theorem below_drew {w w2 : World} (h : Below w.drew.heap.size w.drew w2) : Below w.heap.size w w2 := (Below.refl w.heap.size w).drew.trans (c := w2) h
structure Elem (t e : TypeId) (sz by_ : Nat) (z : Value) : Prop where
 und : Try.prog.underlying t = some (.slice e)
 info : (Try.prog.info? e).map (fun i => (i.zero, i.size, i.bytes)) = some (some z, sz, by_)
 zs : z.cells.size = sz
 pos : 0 < sz
 few : by_ ≤ 1000
def Own (w : World) (B : Nat) (e : TypeId) (sz : Nat) (v : Value) (n : Nat) (cs : List Value) : Prop := w.ownsRow B e sz v n cs
def Rd (w : World) (sz : Nat) (v : Value) (n : Nat) (cs : List Value) : Prop :=
 (∃ p cap, v = .slice p 0 cap ∧ n = 0 ∧ cs = [] ∧ (p = none → cap = 0)) ∨
 (∃ b off cap, v = .slice (some ⟨b, off, none⟩) n cap ∧ 0 < n ∧ n ≤ cap ∧ cap ≤ maxLen ∧ b < w.heap.size ∧ cs.length = n * sz ∧ w.rangeAt b off cs)
theorem Rd.later {w w' : World} {sz n : Nat} {v : Value} {cs : List Value} (h : Rd w sz v n cs) (hb : Below w.heap.size w w') : Rd w' sz v n cs := by
 rcases h with h | ⟨b, off, cap, h1, h2, h2a, h2b, h3, h4, h5⟩
 ·exact Or.inl h
 ·refine Or.inr ⟨b, off, cap, h1, h2, h2a, h2b, Nat.lt_of_lt_of_le h3 hb.size, h4, fun i u hi => ?_⟩
  rw [hb.cell (p := ⟨b, off + i, none⟩) h3]
  exact h5 i u hi
theorem Rd.cells {w : World} {sz n : Nat} {v : Value} {cs : List Value} (h : Rd w sz v n cs) : cs.length = n * sz := by
 rcases h with ⟨p', cap', h1, rfl, rfl, _⟩ | ⟨b, off, cap', _, _, _, _, _, h, _⟩
 ·simp
 ·exact h
theorem rd_nil (w : World) (sz : Nat) : Rd w sz (.slice none 0 0) 0 [] := Or.inl ⟨none, 0, rfl, rfl, rfl, fun _ => rfl⟩
theorem Own.slice {w : World} {B : Nat} {e : TypeId} {sz n : Nat} {v : Value} {cs : List Value} (h : Own w B e sz v n cs) : ∃ p c, v = .slice p n c := by
 rcases h.2 with ⟨h1, h2⟩ | ⟨g, cap, cur, h1, _⟩
 ·exact ⟨none, 0, by rw [h1, h2]⟩
 ·exact ⟨_, _, h1⟩
theorem Own.rd {w : World} {B : Nat} {e : TypeId} {sz n : Nat} {v : Value} {cs : List Value} (h : Own w B e sz v n cs) : Rd w sz v n cs := by
 have h' := h
 rcases h.2 with ⟨h1, h2⟩ | ⟨g, cap, cur, rfl, hb, hg, hn, hm, hs, ht⟩
 ·refine Or.inl ⟨none, 0, by rw [h1], h2, ?_, fun _ => rfl⟩
  have := h.1
  rw [h2, Nat.zero_mul] at this
  exact List.eq_nil_of_length_eq_zero this
 ·by_cases h0 : n = 0
  ·subst h0
   refine Or.inl ⟨some ⟨g, 0, none⟩, cap, rfl, rfl, ?_, fun h => by cases h⟩
   have := h'.1
   rw [Nat.zero_mul] at this
   exact List.eq_nil_of_length_eq_zero this
  ·refine Or.inr ⟨g, 0, cap, rfl, by omega, hn, hm, (Array.getElem?_eq_some_iff.1 hg).1, h'.1, ?_⟩
   intro i u hi
   have hil : i < n * sz := by
    have := (List.getElem?_eq_some_iff.1 hi).1
    rw [h'.1] at this; exact this
   rw [Nat.zero_add, World.ownsRow.cellAt h' i hil, hi]
theorem Own.alloc {w : World} {B : Nat} {e : TypeId} {sz n : Nat} {v : Value} {cs : List Value} (h : Own w B e sz v n cs) (o : Obj) : Own (w.alloc o) B e sz v n cs := World.ownsRow.alloc h o
theorem Own.drewN {w : World} {B : Nat} {e : TypeId} {sz n : Nat} {v : Value} {cs : List Value} (h : Own w B e sz v n cs) (k : Nat) : Own (w.drewN k) B e sz v n cs := ⟨h.1, h.2⟩
theorem Own.drew {w : World} {B : Nat} {e : TypeId} {sz n : Nat} {v : Value} {cs : List Value} (h : Own w B e sz v n cs) : Own w.drew B e sz v n cs := ⟨h.1, h.2⟩
theorem blw_drewN {B : Nat} {a w : World} (h : Below B a w) (n : Nat) : Below B a (w.drewN n) := h.trans ⟨rfl, rfl, rfl, Nat.le_refl _, fun _ _ => rfl⟩
theorem own_nil (w : World) (B : Nat) (e : TypeId) (sz : Nat) : Own w B e sz (.slice none 0 0) 0 [] := World.ownsRow_nil w B e sz
theorem rd_one (w : World) (e : TypeId) (sz : Nat) (cs : Array Value) (h : cs.size = sz) : Rd (w.alloc (.cells cs e)) sz (.slice (some ⟨w.heap.size, 0, none⟩) 1 1) 1 cs.toList := by
 refine Or.inr ⟨w.heap.size, 0, 1, rfl, by simp, by simp, by unfold maxLen; omega, by simp, by simp [h], ?_⟩
 intro i u hi
 rw [World.cell?_alloc_new, Nat.zero_add]
 simpa using hi
theorem own_out {w w' : World} {B : Nat} {e : TypeId} {sz n m : Nat} {v v' : Value} {cs ds : List Value} (hown : Own w B e sz v n cs) (hB : B ≤ w.heap.size) (h1 : Own w' B e sz v' m ds) (hg : w.grownBy w' v.ownBlock) : ∃ p c, v' = .slice p m c ∧ Own w' B e sz (.slice p m c) m ds ∧ Below B w w' := by
 obtain ⟨p, c, hv⟩ := h1.slice
 subst hv
 exact ⟨p, c, rfl, h1, (Below.refl B w).grown hg hB (fun k hk => (World.ownsRow.lt hown k hk).1)⟩
theorem run_ap {t e : TypeId} {sz by_ : Nat} {z : Value} (E : Elem t e sz by_ z) {w : World} (ty : TypeId) (B : Nat) (v : Value) (n : Nat) (cs : List Value) (hown : Own w B e sz v n cs)
  (y : Value) (m : Nat) (ds : List Value) (hrd : Rd w sz y m ds) (h1 : ∀ u ∈ ds, u.oneCell' = true) (hl : n + m ≤ 1000000) (hB : B ≤ w.heap.size) :
  ∃ p c w', (Builtin.append_ #[t, t] ty #[v, y]).run Try.prog w = .ok (.slice p (n + m) c) w' ∧ Own w' B e sz (.slice p (n + m) c) (n + m) (cs ++ ds) ∧ Below B w w' := by
 obtain ⟨i0, hi, hz0, hz1, hz2⟩ := info_parts E.info
 have hby : (n + m) * by_ ≤ 140737488355328 := by
  have : (n + m) * by_ ≤ 1000000 * 1000 := Nat.mul_le_mul hl E.few
  omega
 have key : ∀ (ad : Addr) (c : Nat), y = .slice (some ad) m c → ds.length = m * sz → (∀ j u, ds[j]? = some u → w.cell? (ad.add j) = some u) → ∃ p c w', (Builtin.append_ #[t, t] ty #[v, y]).run Try.prog w = .ok (.slice p (n + m) c) w' ∧ Own w' B e sz (.slice p (n + m) c) (n + m) (cs ++ ds) ∧ Below B w w' := by
  intro ad c hy hm hc
  subst hy
  obtain ⟨v', w', hr, h2, h3, _⟩ := run_append_own (P := Try.prog) w B t ty e i0 z sz by_ E.und hi hz0 hz1 hz2 E.zs E.pos v n cs hown ad m c ds hm hc h1 (by unfold maxLen; omega) hby hB
  obtain ⟨p, c', rfl, h4, h5⟩ := own_out hown hB h2 h3
  exact ⟨p, c', w', hr, h4, h5⟩
 rcases hrd with ⟨p, cap, rfl, rfl, rfl, hp⟩ | ⟨b, off, cap, rfl, h2, h2a, h2b, h3, h4, h5⟩
 ·cases p with
  | none =>
   obtain rfl := hp rfl
   have hr := run_append_owned_none (P := Try.prog) (w := w) B t ty e i0 sz E.und hi v n cs hown
   obtain ⟨p, c, hv⟩ := hown.slice
   subst hv
   exact ⟨p, c, w, hr, by rw [List.append_nil]; exact hown, Below.refl B w⟩
  | some ad => exact key ad cap rfl (by simp) (by simp)
 ·refine key ⟨b, off, none⟩ cap rfl h4 ?_
  intro j u hj
  rw [Addr.add_mid]
  exact h5 j u hj
theorem ap_rd {t e : TypeId} {sz by_ : Nat} {z : Value} (E : Elem t e sz by_ z) {w : World} {ops : Array Oper} {rest : List Oper} {o : Oper} {a : Act} {Q : Exit → Act → World → Prop} (hgd : o.guard = none) (s x : Operand)
  (ho : o.op = .call { callee := .builtin .append, args := #[s, x], argTypes := #[t, t] })
  (B : Nat) (v : Value) (n : Nat) (cs : List Value) (hs : a.eval s = v) (hown : Own w B e sz v n cs) (y : Value) (m : Nat) (ds : List Value) (hx : a.eval x = y) (hrd : Rd w sz y m ds) (h1 : ∀ u ∈ ds, u.oneCell' = true) (hl : n + m ≤ 1000000) (hB : B ≤ w.heap.size)
  (h : ∀ p c w', Own w' B e sz (.slice p (n + m) c) (n + m) (cs ++ ds) → Below B w w' → wpList Try.prog ops Q rest (a.put o.dst (.slice p (n + m) c)) w') : wpList Try.prog ops Q (o :: rest) a w := by
 refine wpList_plain hgd fun K hK => ?_
 obtain ⟨p, c, w', hr, h2, h3⟩ := run_ap E (w := w) o.type B v n cs hown y m ds hrd h1 hl hB
 unfold Oper.wp
 simp [execOp, ho, resolve, invoke, builtin, hs, hx, hr, Result.andThen]
 exact hK _ _ (h p c w' h2 h3)
theorem step_ap {t e : TypeId} {sz by_ : Nat} {z : Value} (E : Elem t e sz by_ z) {w : World} {ops : Array Oper} {o : Oper} {a : Act} {K : Act → World → Prop} {Q : Exit → Act → World → Prop} {F : Prop} (hw : Region.wanted o (yielded ops a.tmps) = true) (s x : Operand)
  (ho : o.op = .call { callee := .builtin .append, args := #[s, x], argTypes := #[t, t] })
  (B : Nat) (v : Value) (n : Nat) (cs : List Value) (hs : a.eval s = v) (hown : Own w B e sz v n cs) (y : Value) (m : Nat) (ds : List Value) (hx : a.eval x = y) (hrd : Rd w sz y m ds) (h1 : ∀ u ∈ ds, u.oneCell' = true) (hl : n + m ≤ 1000000) (hB : B ≤ w.heap.size)
  (h : ∀ p c w', Own w' B e sz (.slice p (n + m) c) (n + m) (cs ++ ds) → Below B w w' → K (a.put o.dst (.slice p (n + m) c)) w') :
  if Region.wanted o (yielded ops a.tmps) = true then Oper.wp Try.prog o a w K Q else F := by
 rw [if_pos hw]
 obtain ⟨p, c, w', hr, h2, h3⟩ := run_ap E (w := w) o.type B v n cs hown y m ds hrd h1 hl hB
 unfold Oper.wp
 simp [execOp, ho, resolve, invoke, builtin, hs, hx, hr, Result.andThen]
 exact h p c w' h2 h3
def ext (w1 : World) : World → Prop := fun w' => Below w1.heap.size w1 w'
end rows
end Go.Proofs.Ytahcndkifplekaa
