/- Writes and events put together out of their parts. -/
import Derived.Test.YteobhljkjgocdaaDskRead
namespace Go.Proofs.Yteobhljkjgocdaa.dsk
open Go.ChangeShapes Go.WideShapes Go.ChangeAt Go.RowKit
open Go.Proofs.Yteobhljkjgocdaa.rows
open Go.Proofs.Yteobhljkjgocdaa.sec
set_option linter.unusedVariables false
set_option linter.unusedSimpArgs false

theorem fold_at (off : Nat) : ∀ (l : List Value) (k : Nat) (A : Array Value), off + k + l.length ≤ A.size → ((l.zipIdx k).foldl (fun cs x => cs.setIfInBounds (off + x.2) x.1) A).toList = A.toList.take (off + k) ++ l ++ A.toList.drop (off + k + l.length)
  | [], k, A, h => by simp
  | c :: t, k, A, h => by
    simp only [List.length_cons] at h
    rw [List.zipIdx_cons, List.foldl_cons, fold_at off t (k + 1) _ (by simp; omega)]
    have hk : off + k < A.toList.length := by simp; omega
    simp only [Array.toList_setIfInBounds]
    rw [show off + (k + 1) = (off + k) + 1 by omega, List.take_succ_eq_append_getElem (by simpa using hk), List.take_set_of_le (Nat.le_refl _), List.drop_set_of_lt (by omega), List.length_cons, show off + k + 1 + t.length = off + k + (t.length + 1) by omega]
    simp
theorem fill_part (place : Nat → Option (Nat × Nat)) (old : List Value) (i off sz : Nat) (v : Value) (cs : List Value) (rest : List (Nat × Value)) (hp : place i = some (off, sz)) (hv : v.cells = cs.toArray) (hs : cs.length = sz) (hf : off + sz ≤ old.length) :
    Instr.fill place old.toArray ((i, v) :: rest) = Instr.fill place (old.take off ++ cs ++ old.drop (off + sz)).toArray rest := by
  have h := fold_at off cs 0 old.toArray (by simp; omega)
  rw [Nat.add_zero] at h
  rw [Instr.fill, hp]
  simp only [hv, List.size_toArray, hs, ne_eq, not_true_eq_false, decide_false, Bool.false_or, gt_iff_lt, show ¬ (old.length < off + sz) by omega, Bool.false_eq_true, if_false]
  congr 1
  apply Array.ext'
  have e : cs.toArray.zipIdx.foldl (fun cs x => cs.setIfInBounds (off + x.2) x.1) old.toArray = (cs.zipIdx 0).foldl (fun cs x => cs.setIfInBounds (off + x.2) x.1) old.toArray := by
    simp
  rw [← hs] 
  simpa using h
/-- the cells of a struct that is put together -/
theorem built_of (T : TypeId) (fs : Array Field) (places : List (Nat × Nat)) (z : List Value) (hu : Try.prog.underlying T = some (.struct fs)) (hz : (Try.prog.info? T).map (·.zero) = some (some (.agg z.toArray))) (hp : fs.toList.mapM (fun f => (Try.prog.info? f.type).map fun i => (f.offset, i.size)) = some places) (parts : List (Nat × Value)) :
    Try.prog.built T parts = Instr.fill (places.toArray[·]?) z.toArray parts := by
  unfold Program.built
  cases hq : Try.prog.info? T with
  | none => simp [hq] at hz
  | some it =>
    have h0 : it.zero = some (.agg z.toArray) := by simpa [hq] using hz
    simp only [hu, h0, hp]
    rfl
theorem zero_wr : (Try.prog.info? 74).map (·.zero) = some (some (.agg (w0.c).toArray)) := by kernel_rfl
theorem zero_ev : (Try.prog.info? 79).map (·.zero) = some (some (.agg (evC (0, w0, []) (.slice none 0 0)).toArray)) := by kernel_rfl
theorem und_ev : Try.prog.underlying 79 = some (.struct (Try.prog.fieldsOf 79)) := by kernel_rfl
theorem places_wr : (Try.prog.fieldsOf 74).toList.mapM (fun f => (Try.prog.info? f.type).map fun i => (f.offset, i.size)) = some [(0, 1), (1, 32), (33, 2), (35, 1)] := by kernel_rfl
theorem places_ev : (Try.prog.fieldsOf 79).toList.mapM (fun f => (Try.prog.info? f.type).map fun i => (f.offset, i.size)) = some [(0, 1), (1, 36), (37, 1)] := by kernel_rfl
theorem built_wr (x : Wr) (h : Sec x.s) : Try.prog.built 74 [(0, .int .i64 x.pos), (1, .agg (u8s x.s).toArray), (2, .agg #[.int .i64 x.kind, .int .i64 x.id]), (3, .int .i64 x.ep)] = some x.c.toArray := by
  have hl : (u8s x.s).length = 32 := by simp [u8s, h.1]
  have hz : (u8s zero32).length = 32 := by simp [u8s, zero32]
  rw [built_of _ _ _ _ und_wr zero_wr places_wr]
  rw [fill_part _ _ 0 0 1 _ [.int .i64 x.pos] _ rfl rfl rfl (by rw [Wr.c_len sec_zero]; omega)]
  have e0 : (w0.c).take 0 ++ [Value.int .i64 x.pos] ++ (w0.c).drop (0 + 1) = .int .i64 x.pos :: (u8s zero32 ++ [.int .i64 0, .int .i64 0, .int .i64 0]) := rfl
  rw [e0, fill_part _ _ 1 1 32 _ (u8s x.s) _ rfl rfl hl (by simp [hz])]
  have e1 : (Value.int .i64 x.pos :: (u8s zero32 ++ [Value.int .i64 0, .int .i64 0, .int .i64 0])).take 1 ++ u8s x.s ++ (Value.int .i64 x.pos :: (u8s zero32 ++ [Value.int .i64 0, .int .i64 0, .int .i64 0])).drop (1 + 32) = .int .i64 x.pos :: (u8s x.s ++ [.int .i64 0, .int .i64 0, .int .i64 0]) := by
    rw [show 1 + 32 = 32 + 1 by omega, List.drop_succ_cons, List.drop_left' hz]; rfl
  rw [e1, fill_part _ _ 2 33 2 _ [.int .i64 x.kind, .int .i64 x.id] _ rfl rfl rfl (by simp [hl])]
  have e2 : (Value.int .i64 x.pos :: (u8s x.s ++ [Value.int .i64 0, .int .i64 0, .int .i64 0])).take 33 ++ [Value.int .i64 x.kind, .int .i64 x.id] ++ (Value.int .i64 x.pos :: (u8s x.s ++ [Value.int .i64 0, .int .i64 0, .int .i64 0])).drop (33 + 2) = .int .i64 x.pos :: (u8s x.s ++ [.int .i64 x.kind, .int .i64 x.id, .int .i64 0]) := by
    rw [List.take_succ_cons, List.take_left' hl, show 33 + 2 = (32 + 2) + 1 by omega, List.drop_succ_cons, ← List.drop_drop, List.drop_left' hl]
    simp
  rw [e2, fill_part _ _ 3 35 1 _ [.int .i64 x.ep] _ rfl rfl rfl (by simp [hl])]
  have e3 : (Value.int .i64 x.pos :: (u8s x.s ++ [Value.int .i64 x.kind, .int .i64 x.id, .int .i64 0])).take 35 ++ [Value.int .i64 x.ep] ++ (Value.int .i64 x.pos :: (u8s x.s ++ [Value.int .i64 x.kind, .int .i64 x.id, .int .i64 0])).drop (35 + 1) = x.c := by
    rw [List.take_succ_cons, show 34 = 32 + 2 by omega, List.take_add, List.take_left' hl, List.drop_left' hl, show 35 + 1 = (32 + 3) + 1 by omega, List.drop_succ_cons, ← List.drop_drop, List.drop_left' hl]
    simp [Wr.c]
  rw [e3]
  rfl
theorem built_evw (x : Wr) (h : Sec x.s) : Try.prog.built 79 [(0, .int .i64 1), (1, .agg x.c.toArray)] = some (evC (1, x, []) (.slice none 0 0)).toArray := by
  have hl := Wr.c_len h
  have hz : (w0.c).length = 36 := Wr.c_len sec_zero
  rw [built_of _ _ _ _ und_ev zero_ev places_ev]
  rw [fill_part _ _ 0 0 1 _ [.int .i64 1] _ rfl rfl rfl (by rw [evC_len (by exact sec_zero)]; omega)]
  have e0 : (evC (0, w0, []) (.slice none 0 0)).take 0 ++ [Value.int .i64 1] ++ (evC (0, w0, []) (.slice none 0 0)).drop (0 + 1) = .int .i64 1 :: (w0.c ++ [.slice none 0 0]) := rfl
  rw [e0, fill_part _ _ 1 1 36 _ x.c _ rfl rfl hl (by simp [hz])]
  have e1 : (Value.int .i64 1 :: (w0.c ++ [Value.slice none 0 0])).take 1 ++ x.c ++ (Value.int .i64 1 :: (w0.c ++ [Value.slice none 0 0])).drop (1 + 36) = evC (1, x, []) (.slice none 0 0) := by
    rw [show 1 + 36 = 36 + 1 by omega, List.drop_succ_cons, List.drop_left' hz]
    simp [evC]
  rw [e1]
  rfl
theorem built_evs (ts : List (Int × Int)) (v : Value) (hv : v.cells = #[v]) : Try.prog.built 79 [(0, .int .i64 2), (2, v)] = some (evC (2, w0, ts) v).toArray := by
  have hz : (w0.c).length = 36 := Wr.c_len sec_zero
  rw [built_of _ _ _ _ und_ev zero_ev places_ev]
  rw [fill_part _ _ 0 0 1 _ [.int .i64 2] _ rfl rfl rfl (by rw [evC_len (by exact sec_zero)]; omega)]
  have e0 : (evC (0, w0, []) (.slice none 0 0)).take 0 ++ [Value.int .i64 2] ++ (evC (0, w0, []) (.slice none 0 0)).drop (0 + 1) = .int .i64 2 :: (w0.c ++ [.slice none 0 0]) := rfl
  rw [e0, fill_part _ _ 2 37 1 _ [v] _ rfl hv rfl (by simp [hz])]
  have e1 : (Value.int .i64 2 :: (w0.c ++ [Value.slice none 0 0])).take 37 ++ [v] ++ (Value.int .i64 2 :: (w0.c ++ [Value.slice none 0 0])).drop (37 + 1) = evC (2, w0, ts) v := by
    rw [List.take_succ_cons, List.take_left' hz, List.drop_of_length_le (by simp [hz])]
    simp [evC]
  rw [e1]
  rfl
theorem build_yields {ops : Array Oper} {S : World → Prop} {op : Oper} {a : Act} (hw : Region.wanted op (yielded ops a.tmps) = true) (T : TypeId) (parts : Array (Nat × Operand)) (ho : op.op = .build T parts) (vs : List (Nat × Value)) (hx : (parts.toList.map fun x => (x.1, a.eval x.2)) = vs) (cells : Array Value) (hf : Try.prog.built T vs = some cells) : YieldsIf Try.prog ops S op (.agg cells) a :=
  .inl ⟨hw, fun w _ => by
    have hr := run_build (P := Try.prog) w T (parts.map fun x => (x.1, a.eval x.2)) cells (by rw [Array.toList_map, hx]; exact hf)
    unfold execOp
    simp only [ho, Sem.run_bind, hr, Result.andThen_ok]
    rfl⟩
end Go.Proofs.Yteobhljkjgocdaa.dsk
