/- When two writes, two tags are the same. -/
import Derived.Test.YteobhljkjgocdaaDskRef
namespace Go.Proofs.Yteobhljkjgocdaa.dsk
open Go.ChangeShapes Go.WideShapes Go.ChangeAt Go.RowKit
open Go.Proofs.Yteobhljkjgocdaa.rows
open Go.Proofs.Yteobhljkjgocdaa.sec
set_option linter.unusedVariables false
set_option linter.unusedSimpArgs false

theorem eqIn_secD (d : Nat) (w : World) {a b : List Int} (ha : Sec a) (hb : Sec b) : (Op.equalIn (d + 2) 35 (.agg (u8s a).toArray) (.agg (u8s b).toArray)).run Try.prog w = .ok (decide (a = b)) w := by
  rw [bytes_back ha.2, bytes_back hb.2, run_equalIn_bytes w d 35 5 32 Try.underlying35 Try.underlying5 size8 _ _ (by simp [ha.1]) (by simp [hb.1])]
  congr 1
  rw [Bool.eq_iff_iff]
  simp only [beq_iff_eq, decide_eq_true_eq]
  exact ⟨fun h => bytes_inj ha.2 hb.2 h, fun h => by rw [h]⟩
theorem und_tag : Try.prog.underlying 37 = some (.struct (Try.prog.fieldsOf 37)) := by kernel_rfl
theorem und_wr : Try.prog.underlying 74 = some (.struct (Try.prog.fieldsOf 74)) := by kernel_rfl
theorem und_int : Try.prog.underlying 3 = some (.int .i64) := Try.underlying3
theorem fields_tag : (Try.prog.fieldsOf 37).toList.map (fun f => (f.name, f.type, f.offset)) = [("Kind", 3, 0), ("ID", 3, 1)] := by kernel_rfl
theorem fields_wr : (Try.prog.fieldsOf 74).toList.map (fun f => (f.name, f.type, f.offset)) = [("At", 3, 0), ("S", 35, 1), ("Tag", 37, 33), ("Epoch", 3, 35)] := by kernel_rfl
theorem part_int (w : World) (xs : Array Value) (i : Nat) (v : Value) (h : xs[i]? = some v) : (part 3 xs i).run Try.prog w = .ok v w := by
  simp [part, isAgg, run_underlying und_int, h]
theorem size_sec (w : World) : (sizeOf 35).run Try.prog w = .ok 32 w := by kernel_rfl
theorem size_tag (w : World) : (sizeOf 37).run Try.prog w = .ok 2 w := by kernel_rfl
theorem part_sec (w : World) (xs : Array Value) (i : Nat) : (part 35 xs i).run Try.prog w = .ok (.agg (xs.extract i (i + 32))) w := by
  simp [part, isAgg, run_underlying Try.underlying35, size_sec]
theorem part_tag (w : World) (xs : Array Value) (i : Nat) : (part 37 xs i).run Try.prog w = .ok (.agg (xs.extract i (i + 2))) w := by
  simp [part, isAgg, run_underlying und_tag, size_tag]
theorem eqFields_cons (d : Nat) (xs ys : Array Value) (f : Field) (fs : List Field) (hn : f.name ≠ "_") (w : World) {a b : Value} {r : Bool} (ha : (part f.type xs f.offset).run Try.prog w = .ok a w) (hb : (part f.type ys f.offset).run Try.prog w = .ok b w)
    (hr : (Op.equalIn d f.type a b).run Try.prog w = .ok r w) : (Op.eqFields d xs ys (f :: fs)).run Try.prog w = if r = true then (Op.eqFields d xs ys fs).run Try.prog w else .ok false w := by
  simp only [Op.eqFields, hn, ne_eq, not_false_eq_true, if_true, Sem.run_bind, ha, hb, hr, Result.andThen_ok]
  cases r <;> simp
theorem eqIn_tagD (d : Nat) (w : World) (k i k' i' : Int) : (Op.equalIn (d + 2) 37 (.agg #[.int .i64 k, .int .i64 i]) (.agg #[.int .i64 k', .int .i64 i'])).run Try.prog w = .ok (k == k' && i == i') w := by
  have hs : Try.prog.stoodInHeld 37 = false := by kernel_rfl
  rw [run_equalIn_struct w (d + 1) _ _ _ und_tag hs]
  have hf := fields_tag
  match hq : (Try.prog.fieldsOf 37).toList with
  | [] => rw [hq] at hf; simp at hf
  | [_] => rw [hq] at hf; simp at hf
  | [f, g] =>
    rw [hq] at hf
    simp only [List.map_cons, List.map_nil, List.cons.injEq, Prod.mk.injEq, and_true] at hf
    obtain ⟨⟨n1, t1, o1⟩, n2, t2, o2⟩ := hf
    rw [eqFields_cons (d + 1) _ _ f [g] (by rw [n1]; decide) w (a := .int .i64 k) (b := .int .i64 k') (r := k == k') (by rw [t1, o1]; exact part_int w _ 0 _ rfl) (by rw [t1, o1]; exact part_int w _ 0 _ rfl) (by rw [t1]; exact run_equalIn_int w d _ _ _ _ _ und_int)]
    rw [eqFields_cons (d + 1) _ _ g [] (by rw [n2]; decide) w (a := .int .i64 i) (b := .int .i64 i') (r := i == i') (by rw [t2, o2]; exact part_int w _ 1 _ rfl) (by rw [t2, o2]; exact part_int w _ 1 _ rfl) (by rw [t2]; exact run_equalIn_int w d _ _ _ _ _ und_int)]
    cases h1 : (k == k') <;> cases h2 : (i == i') <;> simp [Op.eqFields]
  | _ :: _ :: _ :: _ => rw [hq] at hf; simp at hf
theorem eqIn_tag (w : World) (k i k' i' : Int) : (Op.equalIn 10000 37 (.agg #[.int .i64 k, .int .i64 i]) (.agg #[.int .i64 k', .int .i64 i'])).run Try.prog w = .ok (k == k' && i == i') w := eqIn_tagD 9998 w k i k' i'
/-- are two writes the same? -/
def Wr.eqB (x y : Wr) : Bool := x.pos == y.pos && (decide (x.s = y.s) && ((x.kind == y.kind && x.id == y.id) && x.ep == y.ep))
theorem Wr.eqB_self (x : Wr) : x.eqB x = true := by simp [Wr.eqB]
theorem Wr.eqB_iff (x y : Wr) : x.eqB y = true ↔ x = y := by
  obtain ⟨a, b, c, d, e⟩ := x
  obtain ⟨a', b', c', d', e'⟩ := y
  simp [Wr.eqB, and_assoc]
theorem wr_get0 (x : Wr) : x.c.toArray[0]? = some (.int .i64 x.pos) := rfl
theorem wr_get35 {x : Wr} (h : Sec x.s) : x.c.toArray[35]? = some (.int .i64 x.ep) := by
  have hl : (u8s x.s).length = 32 := by simp [u8s, h.1]
  simp only [Wr.c, List.getElem?_toArray, List.getElem?_cons_succ]
  rw [List.getElem?_append_right (by omega), hl]
  rfl
theorem wr_sec {x : Wr} (h : Sec x.s) : x.c.toArray.extract 1 (1 + 32) = (u8s x.s).toArray := by
  have hl : (u8s x.s).length = 32 := by simp [u8s, h.1]
  apply Array.ext'
  simp only [Wr.c, List.extract_toArray, List.extract, List.drop_succ_cons, List.drop_zero]
  rw [List.take_append_of_le_length (by omega), List.take_of_length_le (by omega)]
theorem wr_tag {x : Wr} (h : Sec x.s) : x.c.toArray.extract 33 (33 + 2) = #[.int .i64 x.kind, .int .i64 x.id] := by
  have hl : (u8s x.s).length = 32 := by simp [u8s, h.1]
  apply Array.ext'
  simp only [Wr.c, List.extract_toArray, List.extract, List.drop_succ_cons]
  rw [List.drop_append, List.drop_of_length_le (by omega), hl]
  rfl
theorem eqIn_wrD (d : Nat) (w : World) {x y : Wr} (hx : Sec x.s) (hy : Sec y.s) : (Op.equalIn (d + 3) 74 (.agg x.c.toArray) (.agg y.c.toArray)).run Try.prog w = .ok (x.eqB y) w := by
  have hs : Try.prog.stoodInHeld 74 = false := by kernel_rfl
  rw [run_equalIn_struct w (d + 2) _ _ _ und_wr hs]
  have hf := fields_wr
  match hq : (Try.prog.fieldsOf 74).toList with
  | [] => rw [hq] at hf; simp at hf
  | [_] => rw [hq] at hf; simp at hf
  | [_, _] => rw [hq] at hf; simp at hf
  | [_, _, _] => rw [hq] at hf; simp at hf
  | [f, g, h, k] =>
    rw [hq] at hf
    simp only [List.map_cons, List.map_nil, List.cons.injEq, Prod.mk.injEq, and_true] at hf
    obtain ⟨⟨n1, t1, o1⟩, ⟨n2, t2, o2⟩, ⟨n3, t3, o3⟩, n4, t4, o4⟩ := hf
    rw [eqFields_cons (d + 2) _ _ f _ (by rw [n1]; decide) w (a := .int .i64 x.pos) (b := .int .i64 y.pos) (r := x.pos == y.pos) (by rw [t1, o1]; exact part_int w _ 0 _ (wr_get0 x)) (by rw [t1, o1]; exact part_int w _ 0 _ (wr_get0 y)) (by rw [t1]; exact run_equalIn_int w (d + 1) _ _ _ _ _ und_int)]
    rw [eqFields_cons (d + 2) _ _ g _ (by rw [n2]; decide) w (a := .agg (u8s x.s).toArray) (b := .agg (u8s y.s).toArray) (r := decide (x.s = y.s)) (by rw [t2, o2, part_sec, wr_sec hx]) (by rw [t2, o2, part_sec, wr_sec hy]) (by rw [t2]; exact eqIn_secD d w hx hy)]
    rw [eqFields_cons (d + 2) _ _ h _ (by rw [n3]; decide) w (a := .agg #[.int .i64 x.kind, .int .i64 x.id]) (b := .agg #[.int .i64 y.kind, .int .i64 y.id]) (r := x.kind == y.kind && x.id == y.id) (by rw [t3, o3, part_tag, wr_tag hx]) (by rw [t3, o3, part_tag, wr_tag hy]) (by rw [t3]; exact eqIn_tagD d w _ _ _ _)]
    rw [eqFields_cons (d + 2) _ _ k [] (by rw [n4]; decide) w (a := .int .i64 x.ep) (b := .int .i64 y.ep) (r := x.ep == y.ep) (by rw [t4, o4]; exact part_int w _ 35 _ (wr_get35 hx)) (by rw [t4, o4]; exact part_int w _ 35 _ (wr_get35 hy)) (by rw [t4]; exact run_equalIn_int w (d + 1) _ _ _ _ _ und_int)]
    unfold Wr.eqB
    cases h1 : (x.pos == y.pos) <;> cases h2 : decide (x.s = y.s) <;> cases h3 : (x.kind == y.kind && x.id == y.id) <;> cases h4 : (x.ep == y.ep) <;> simp [Op.eqFields]
  | _ :: _ :: _ :: _ :: _ :: _ => rw [hq] at hf; simp at hf
theorem eqIn_wr (w : World) {x y : Wr} (hx : Sec x.s) (hy : Sec y.s) : (Op.equalIn 10000 74 (.agg x.c.toArray) (.agg y.c.toArray)).run Try.prog w = .ok (x.eqB y) w := eqIn_wrD 9997 w hx hy
theorem guard_wr : Try.prog.eqGuardType Try.prog.depth 74 = false := by kernel_rfl
theorem guard_tag : Try.prog.eqGuardType Try.prog.depth 37 = false := by kernel_rfl
end Go.Proofs.Yteobhljkjgocdaa.dsk
