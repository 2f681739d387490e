/- What FlushNone wants, part 17. -/
import Derived.Test.YtpahnfnfoldbhaaGreatDoorFlushNoneA
import Derived.Test.YtpahnfnfoldbhaaGreatDoorFlushNoneB
import Derived.Test.YtpahnfnfoldbhaaGreatDoorFlushNoneC
import Derived.Test.YtpahnfnfoldbhaaGreatDoorFlushNoneE
import Derived.Test.YtpahnfnfoldbhaaGreatDoorFlushNoneG
import Derived.Test.YtpahnfnfoldbhaaGreatDoorFlushNoneN
import Derived.Test.YtpahnfnfoldbhaaGreatDoorFlushNoneO
import Derived.Test.YtpahnfnfoldbhaaGreatDoorFlushNoneP
import Derived.Laws.Cover1
set_option linter.unusedVariables false
set_option linter.unusedSimpArgs false
namespace Go.Proofs.YtpahnfnfoldbhaaGreatDoor
namespace lk
set_option maxRecDepth 100000
open Go.ChangeShapes Go.WideShapes Go.ChangeAt Go.RowKit
open rows
open sec
open ly
open pa
def ltS (a b : ByteArray) : Bool := Op.bytesLess a.toList b.toList
theorem less_dec (x : List UInt8) : ∀ (y : List UInt8), Op.bytesLess x y = decide (x < y) := by
 induction x with
 | nil => intro y; cases y <;> simp [Op.bytesLess]
 | cons a x ih =>
  intro y
  cases y with
  | nil => simp [Op.bytesLess]
  | cons b y =>
   simp only [Op.bytesLess, ih y, List.cons_lt_cons_iff, Bool.decide_or, Bool.decide_and]
   rcases Decidable.em (a < b) with h1 | h1 <;> rcases Decidable.em (a = b) with h2 | h2 <;> simp [h1, h2]
theorem ltS_eq (a b : ByteArray) : ltS a b = decide (a.toList < b.toList) := less_dec _ _
theorem str_ext {a b : ByteArray} (h : a.toList = b.toList) : a = b := by
 have h2 : a.data.toList = b.data.toList := by rw [← ByteArray.toList_eq, ← ByteArray.toList_eq]; exact h
 cases a; cases b
 simpa using h2
def nmIn (ss : List (List Int)) (d : Int) (k : Nat) (x : ByteArray) : Prop := ∃ j, j < k ∧ standB ss j = true ∧ (entAt ss (j : Int)).parent = d ∧ (entAt ss (j : Int)).name = x
def atB (ss : List (List Int)) (d : Int) (j : Nat) : Bool := standB ss j && decide ((entAt ss (j : Int)).parent = d)
def IsList (ss : List (List Int)) (d : Int) (L : List ByteArray) : Prop := L.Pairwise (fun a b => ltS a b = true) ∧ ∀ x, x ∈ L ↔ nmIn ss d 24 x
theorem elem_names : Elem 94 9 1 16 (.string ByteArray.empty) := ⟨Tryz.underlying94, by kernel_rfl, by decide, by decide, by decide⟩
def strV (L : List ByteArray) : List Value := L.map .string
end lk
namespace fs
set_option maxRecDepth 100000
open Go.ChangeShapes Go.WideShapes Go.ChangeAt Go.RowKit
open rows
open sec
open ly
open pa
open lk
structure Spot where
 dir : Int
 name : ByteArray
 k : Int
 is : Bool
def spot0 : Spot := ⟨0, ByteArray.empty, 0, false⟩
theorem lookG_fine {ss : List (List Int)} (hs : Secs ss) : ∀ (ns : List (List Int)) (n : Int), 0 ≤ n → n ≤ 255 → 0 ≤ (lookG ss n ns).1 ∧ (lookG ss n ns).1 ≤ 255
 | [], n, h0, h1 => ⟨h0, h1⟩
 | x :: r, n, h0, h1 => by
  rw [lookG]
  split
  ·split
   ·rename_i k _
    obtain ⟨_, _, h2, h3⟩ := ent_fine hs (k : Int)
    exact lookG_fine hs r _ h2 h3
   ·exact ⟨Int.le_refl _, by decide⟩
  ·exact ⟨Int.le_refl _, by decide⟩
theorem lookV_fine {ss : List (List Int)} (hs : Secs ss) (s : List Int) : 0 ≤ (lookV ss s).1 ∧ (lookV ss s).1 ≤ 255 := by
 unfold lookV
 split
 ·exact ⟨Int.le_refl _, by decide⟩
 ·exact lookG_fine hs _ 0 (Int.le_refl _) (by decide)
theorem parL_len (s : List Int) : (parL s).length ≤ 36 := by
 unfold parL
 split
 ·rename_i x xs h
  obtain ⟨_, h2, h3, _⟩ := join_split h
  have hm : ∀ y ∈ (x :: xs).dropLast, y.length ≤ 8 := fun y hy => (isNm_len (h2 y (List.dropLast_subset _ hy))).2
  have hl : (x :: xs).dropLast.length ≤ 3 := by rw [List.length_dropLast]; omega
  unfold joinP
  split
  ·simp
  ·have := joinL_len 8 hm
   have h4 : (x :: xs).dropLast.length * (8 + 1) ≤ 3 * 9 := Nat.mul_le_mul_right _ hl
   omega
 ·simp
def placeV (ss : List (List Int)) (s : ByteArray) : Spot × Int :=
 if errP (bys s) ≠ 0 then (spot0, errP (bys s))
 else if (lookV ss (bys (strOfNums (parL (bys s))))).2 ≠ 0 then (spot0, (lookV ss (bys (strOfNums (parL (bys s))))).2)
 else if (inoAt ss (lookV ss (bys (strOfNums (parL (bys s))))).1).kind ≠ 2 then (spot0, 6)
 else (⟨(lookV ss (bys (strOfNums (parL (bys s))))).1, strOfNums (lastL (bys s)), (((findO ss (lookV ss (bys (strOfNums (parL (bys s))))).1 (strOfNums (lastL (bys s)))).getD 0 : Nat) : Int), (findO ss (lookV ss (bys (strOfNums (parL (bys s))))).1 (strOfNums (lastL (bys s)))).isSome⟩, 0)
theorem ret_ino3 {fn : Func} {q p r : Tmp} {R : Ending → World → Prop} {a : Act} {w : World} (h : fn.results = #[.tmp q, .cell p 122, .tmp r]) (g : Nat) (x : Ino) (u v : Value) (hu : a.tmps.getD q undef = u) (hp : a.tmps.getD p undef = .pointer (some ⟨g, 0, none⟩)) (hv : a.tmps.getD r undef = v) (hx : x.b.length = 4) (hg : AtI w g x)
  (hd : a.defers = []) (hR : R (.returned (.tuple #[u, aggI x, v])) w) : bodyPost Tryz.prog fn R .ret a w := by
 refine bodyPost_ret (v := .tuple #[u, aggI x, v]) ?_ hd hR
 have hp' : a.tmps[p]?.getD undef = .pointer (some ⟨g, 0, none⟩) := by simpa using hp
 have hu' : a.tmps[q]?.getD undef = u := by simpa using hu
 have hv' : a.tmps[r]?.getD undef = v := by simpa using hv
 have hl := run_loadVar_row (P := Tryz.prog) w g _ 122 _ _ _ hg und_ino rfl (by rw [info_ino]; simp [ino_len hx])
 simp [results, h, hp', hu', hv', asAddr, hl]
theorem step_store_i {w : World} {ops : Array Oper} {o : Oper} {a : Act} {K : Act → World → Prop} {Q : Exit → Act → World → Prop} {F : Prop} (hw : Region.wanted o (yielded ops a.tmps) = true) (p y : Operand) (ho : o.op = .store 122 p y)
  (g : Nat) (hp : a.eval p = .pointer (some ⟨g, 0, none⟩)) (x : Ino) (hy : a.eval y = aggI x) (hx : x.b.length = 4) (old : Ino) (hold : old.b.length = 4) (hg : AtI w g old)
  (h : ∀ w', AtI w' g x → dsk.Touch (fun k => k = g) w w' → K (a.put o.dst undef) w') : if Region.wanted o (yielded ops a.tmps) = true then Oper.wp Tryz.prog o a w K Q else F := by
 rw [if_pos hw]
 exact wp_store_row 122 p y ho g x.c.toArray hp hy 122 _ hg (by rw [info_ino]; simp [ino_len hx]) (by simp [ino_len hx, ino_len hold]) (by rw [List.all_toArray]; exact ino_ones x)
  (h _ (setRow_heap w g _ _ _ _ hg) (dsk.touch_setRow w g _))
def fileV (ss : List (List Int)) (s : ByteArray) : Int × Ino × Int :=
 if (lookV ss (bys s)).2 ≠ 0 then (0, ino0, (lookV ss (bys s)).2)
 else if (inoAt ss (lookV ss (bys s)).1).kind ≠ 1 then (0, ino0, 6)
 else ((lookV ss (bys s)).1, inoAt ss (lookV ss (bys s)).1, 0)
def fileT (x : Int × Ino × Int) : Value := .tuple #[.int .i64 x.1, aggI x.2.1, .int .i64 x.2.2]
end fs
namespace fs
set_option maxRecDepth 100000
open Go.ChangeShapes Go.WideShapes Go.ChangeAt Go.RowKit
open rows
open sec
open ly
open pa
open lk
def byteAt (ss : List (List Int)) (x : Ino) (i : Nat) : Int := (ss.getD (40 + (x.b.getD (i / 32) 0).toNat) zero32).getD (i % 32) 0
def readL (ss : List (List Int)) (x : Ino) : List Int := (List.range x.size.toNat).map (byteAt ss x)
def readV (ss : List (List Int)) (s : ByteArray) : List Int × Int := if (fileV ss s).2.2 ≠ 0 then ([], (fileV ss s).2.2) else (readL ss (fileV ss s).2.1, 0)
theorem ino_file {ss : List (List Int)} (hs : Secs ss) (z : Int) (h : (inoAt ss z).kind = 1) : 0 ≤ (inoAt ss z).size ∧ (inoAt ss z).size ≤ 128 ∧ ∀ i : Nat, (i : Int) < (inoAt ss z).size → 1 ≤ (inoAt ss z).b.getD (i / 32) 0 ∧ (inoAt ss z).b.getD (i / 32) 0 ≤ 24 := by
 have hk0 : ino0.kind ≠ 1 := by decide
 unfold inoAt at h ⊢
 split
 ·rename_i hin
  rw [if_pos hin] at h
  rw [inoOfV] at h ⊢
  split
  ·rename_i hb
   rw [if_pos hb] at h
   rw [inoOfB, Bool.and_eq_true] at hb
   have hr := hb.1
   rw [rightI_file h, Bool.and_eq_true, Bool.and_eq_true, decide_eq_true_eq, decide_eq_true_eq] at hr
   refine ⟨hr.1.1, hr.1.2, fun i hi => ?_⟩
   have hn : i / 32 < need (inoOf (secAt ss (1 + z))).size.toNat := by unfold need; omega
   have h4 := need_le (z := (inoOf (secAt ss (1 + z))).size.toNat) (by omega)
   have hbk := blks_at hr.2 (i / 32) (by omega)
   rw [blkOk_used hn, Bool.and_eq_true, Bool.and_eq_true, decide_eq_true_eq, decide_eq_true_eq] at hbk
   exact hbk.1
  ·rename_i hb
   rw [if_neg hb] at h
   exact absurd h hk0
 ·rename_i hin
  rw [if_neg hin] at h
  exact absurd h hk0
theorem file_ok {ss : List (List Int)} (hs : Secs ss) (s : ByteArray) (h : (fileV ss s).2.2 = 0) : ∃ z, (fileV ss s).2.1 = inoAt ss z ∧ (inoAt ss z).kind = 1 := by
 unfold fileV at h ⊢
 split at h
 ·rename_i he; exact absurd h he
 ·rename_i he
  split at h
  ·simp at h
  ·rename_i hk
   rw [if_neg he, if_neg hk]
   exact ⟨_, rfl, by simpa using hk⟩
theorem file_four {ss : List (List Int)} (hs : Secs ss) (s : ByteArray) : (fileV ss s).2.1.b.length = 4 := by
 unfold fileV
 split
 ·rfl
 ·split
  ·rfl
  ·exact inoAt_four hs _
end fs
namespace fs
set_option maxRecDepth 100000
open Go.ChangeShapes Go.WideShapes Go.ChangeAt Go.RowKit
open rows
open sec
open dsk (St Wr secs_set)
open ly
open lk
def nowL (st : St) : List (List Int) := over st.safe st.wait st.wait.length
theorem over_secs' {ss : List (List Int)} {ws : List Wr} (hs : Secs ss) (hw : ∀ x ∈ ws, Sec x.s) : ∀ i, i ≤ ws.length → Secs (over ss ws i)
 | 0, _ => hs
 | i + 1, h => by
  rw [over_succ (show i < ws.length by omega), wr1]
  split
  ·exact secs_set (over_secs' hs hw i (by omega)) (hw _ (List.getElem_mem _)) _
  ·exact over_secs' hs hw i (by omega)
theorem now_upto (ss : List (List Int)) (ws : List Wr) (hp : ∀ x ∈ ws, 0 ≤ x.pos ∧ x.pos < (ss.length : Int)) : ∀ k, k ≤ ws.length → dsk.outOf (fun _ => true) (ws.take k) ss = over ss ws k
 | 0, _ => rfl
 | k + 1, h => by
  have hk : k < ws.length := by omega
  have ih := now_upto ss ws hp k (by omega)
  have hx := hp _ (List.getElem_mem hk)
  rw [List.take_succ_eq_append_getElem hk, over_succ hk, wr1, if_pos (by rw [over_len ss ws k (by omega)]; exact hx), ← ih]
  exact dsk.seenOf_more ⟨ss, ws.take k, 0, [], [], 0⟩ ws[k]
theorem now_seen (st : St) (hp : ∀ x ∈ st.wait, 0 ≤ x.pos ∧ x.pos < (st.safe.length : Int)) : nowL st = dsk.seenOf st := by
 have h := now_upto st.safe st.wait hp st.wait.length (Nat.le_refl _)
 rw [List.take_of_length_le (Nat.le_refl _)] at h
 exact h.symm
def mountV (st : St) : Int := if st.safe.length = 0 then 1 else if mountsB (nowL st) then 0 else 8
theorem now_len (st : St) : (nowL st).length = st.safe.length := over_len _ _ _ (Nat.le_refl _)
theorem now_secs {st : St} (hs : Secs st.safe) (hws : ∀ x ∈ st.wait, Sec x.s) : Secs (nowL st) := over_secs' hs hws _ (Nat.le_refl _)
end fs
namespace fs
set_option maxRecDepth 100000
open Go.ChangeShapes Go.WideShapes Go.ChangeAt Go.RowKit
open rows
open sec
open dsk (St Wr writeR)
open ly
open lk
theorem write_good {k : Nat} {st : St} (h : st.good k) (i : Int) (s : List Int) (kd id : Int) (hs : Sec s) : (writeR st i s kd id).2.good (k + 1) := by
 unfold writeR
 split
 ·rename_i hin
  split
  ·exact ⟨h.ss, h.n1, h.ws, h.es, by have := h.wn; show st.wait.length ≤ k + 1; omega, by have := h.ln; show st.log.length ≤ k + 1; omega, h.bn, ⟨h.ep.1, by have := h.ep.2; show st.ep ≤ ((k + 1 : Nat) : Int); omega⟩, ⟨by have := h.asked.1; show 0 ≤ st.asked + 1; omega, by have := h.asked.2; show st.asked + 1 ≤ ((k + 1 : Nat) : Int); omega⟩⟩
  ·refine ⟨h.ss, h.n1, fun y hy => ?_, fun e he => ?_, ?_, ?_, h.bn, ⟨h.ep.1, by have := h.ep.2; show st.ep ≤ ((k + 1 : Nat) : Int); omega⟩, ⟨by have := h.asked.1; show 0 ≤ st.asked + 1; omega, by have := h.asked.2; show st.asked + 1 ≤ ((k + 1 : Nat) : Int); omega⟩⟩
   ·rcases List.mem_append.1 hy with hy | hy
    ·exact h.ws y hy
    ·rw [List.mem_singleton.1 hy]; exact ⟨hs, hin⟩
   ·rcases List.mem_append.1 he with he | he
    ·exact h.es e he
    ·rw [List.mem_singleton.1 he]; exact ⟨hs, Nat.zero_le _⟩
   ·have := h.wn; simp; omega
   ·have := h.ln; simp; omega
 ·exact ⟨h.ss, h.n1, h.ws, h.es, by have := h.wn; show st.wait.length ≤ k + 1; omega, by have := h.ln; show st.log.length ≤ k + 1; omega, h.bn, ⟨h.ep.1, by have := h.ep.2; show st.ep ≤ ((k + 1 : Nat) : Int); omega⟩, ⟨by have := h.asked.1; show 0 ≤ st.asked + 1; omega, by have := h.asked.2; show st.asked + 1 ≤ ((k + 1 : Nat) : Int); omega⟩⟩
theorem info_tag : (Tryz.prog.info? 90).map (·.size) = some 2 := by kernel_rfl
theorem ld_tag {ops : Array Oper} {S : World → Prop} {op : Oper} {a : Act} (hw : Region.wanted op (yielded ops a.tmps) = true) (x : Operand) (ho : op.op = .load 90 x)
  (b o : Nat) (hx : a.eval x = .pointer (some ⟨b, o, none⟩)) (k id : Int) (hS : ∀ w, S w → w.cell? ⟨b, o, none⟩ = some (.int .i64 k) ∧ w.cell? ⟨b, o + 1, none⟩ = some (.int .i64 id)) : YieldsIf Tryz.prog ops S op (.agg #[.int .i64 k, .int .i64 id]) a :=
 yieldsIf_load_mid hw _ x ho b o hx [.int .i64 k, .int .i64 id] _ (fun w h j u hj => by
  obtain ⟨h1, h2⟩ := hS w h
  match j, hj with
  | 0, hj => cases hj; exact h1
  | 1, hj => cases hj; exact h2
  | j + 2, hj => simp at hj) Tryz.underlying90 rfl (by rw [info_tag]; rfl)
def doR (st : St) : List Wr → Int × St
 | [] => (0, st)
 | x :: r => if (writeR st x.pos x.s x.kind x.id).1 ≠ 0 then writeR st x.pos x.s x.kind x.id else doR (writeR st x.pos x.s x.kind x.id).2 r
theorem do_good {ws : List Wr} (hw : ∀ x ∈ ws, Sec x.s) : ∀ {k : Nat} {st : St}, st.good k → (doR st ws).2.good (k + ws.length) := by
 induction ws with
 | nil => intro k st h; exact h
 | cons x r ih =>
  intro k st h
  have h1 := write_good h x.pos x.s x.kind x.id (hw x (List.mem_cons_self ..))
  rw [doR]
  split
  ·exact ⟨h1.ss, h1.n1, h1.ws, h1.es, by have := h1.wn; simp; omega, by have := h1.ln; simp; omega, h1.bn, ⟨h1.ep.1, by have := h1.ep.2; simp; omega⟩, ⟨h1.asked.1, by have := h1.asked.2; simp; omega⟩⟩
  ·have h2 := ih (fun y hy => hw y (List.mem_cons_of_mem _ hy)) h1
   rw [List.length_cons, show k + (r.length + 1) = k + 1 + r.length by omega]
   exact h2
end fs
namespace fs
set_option maxRecDepth 100000
open Go.ChangeShapes Go.WideShapes Go.ChangeAt Go.RowKit
open rows
open sec
open dsk (St Wr Wr.ok barrier)
open ly
open pa
open lk
open al
def wIno (n : Int) (x : Ino) : Wr := ⟨1 + n, inoV x, 2, n, 0⟩
def wEnt (k : Int) (x : Ent) (f : Int) : Wr := ⟨17 + k, entV x, 3, f, 0⟩
theorem wIno_ok {n : Int} {x : Ino} (hn : 0 ≤ n ∧ n ≤ 200) (hx : x.b.length = 4) : (wIno n x).ok := ⟨inoV_sec hx, wf_byte (by show 0 ≤ 1 + n ∧ 1 + n < 256; omega), wf_byte (by show (0 : Int) ≤ 2 ∧ (2 : Int) < 256; omega), wf_byte (by show 0 ≤ n ∧ n < 256; omega), wf_byte (by show (0 : Int) ≤ 0 ∧ (0 : Int) < 256; omega)⟩
theorem wEnt_ok {k f : Int} {x : Ent} (hk : 0 ≤ k ∧ k ≤ 200) (hf : 0 ≤ f ∧ f ≤ 255) : (wEnt k x f).ok := ⟨entV_sec x, wf_byte (by show 0 ≤ 17 + k ∧ 17 + k < 256; omega), wf_byte (by show (0 : Int) ≤ 3 ∧ (3 : Int) < 256; omega), wf_byte (by show 0 ≤ f ∧ f < 256; omega), wf_byte (by show (0 : Int) ≤ 0 ∧ (0 : Int) < 256; omega)⟩
def makeV (st : St) (s : ByteArray) (kind : Int) : Int × St :=
 if (placeV (nowL st) s).2 ≠ 0 then ((placeV (nowL st) s).2, st)
 else if (placeV (nowL st) s).1.is then (5, st)
 else match frI (nowL st), frE (nowL st) with
  | some n, some k => doR st [wIno (n : Int) ⟨kind, 0, [0, 0, 0, 0]⟩, wEnt (k : Int) ⟨true, (placeV (nowL st) s).1.dir, (placeV (nowL st) s).1.name, (n : Int)⟩ (placeV (nowL st) s).1.dir]
  | _, _ => (2, st)
def cutB (b : List Int) (j : Nat) : List Int := b.take j ++ List.replicate (4 - j) 0
def truncV (st : St) (s : ByteArray) (z : Int) : Int × St :=
 if (fileV (nowL st) s).2.2 ≠ 0 then ((fileV (nowL st) s).2.2, st)
 else if z < 0 ∨ (fileV (nowL st) s).2.1.size < z then (1, st)
 else if z = (fileV (nowL st) s).2.1.size then (0, st)
 else doR st [wIno (fileV (nowL st) s).1 ⟨(fileV (nowL st) s).2.1.kind, z, cutB (fileV (nowL st) s).2.1.b (need z.toNat)⟩]
def fullB (ss : List (List Int)) (d : Int) : Bool := (List.range 24).any (atB ss d)
def unlinkV (st : St) (s : ByteArray) : Int × St :=
 if (placeV (nowL st) s).2 ≠ 0 then ((placeV (nowL st) s).2, st)
 else if (placeV (nowL st) s).1.is = false then (4, st)
 else if (inoAt (nowL st) (entAt (nowL st) (placeV (nowL st) s).1.k).target).kind = 2 ∧ fullB (nowL st) (entAt (nowL st) (placeV (nowL st) s).1.k).target = true then (7, st)
 else doR st [wEnt (placeV (nowL st) s).1.k ent0 (placeV (nowL st) s).1.dir]
def deeperB (s t : ByteArray) : Bool := underB (bys t) (bys s) || decide ((nms (bys s)).length < (nms (bys t)).length)
def moveR (st : St) (x y : Wr) : Int × St :=
 if (doR st [x]).1 ≠ 0 then doR st [x]
 else if (barrier (doR st [x]).2).1 ≠ 0 then barrier (doR st [x]).2
 else doR (barrier (doR st [x]).2).2 [y]
def renameV (st : St) (s t : ByteArray) : Int × St :=
 let L := nowL st
 let a := (placeV L s).1
 let b := (placeV L t).1
 let n := (entAt L a.k).target
 let dir := decide ((inoAt L n).kind = 2)
 let x : Ent := ⟨true, b.dir, b.name, n⟩
 if errP (bys s) ≠ 0 then (errP (bys s), st)
 else if errP (bys t) ≠ 0 then (errP (bys t), st)
 else if (placeV L s).2 ≠ 0 then ((placeV L s).2, st)
 else if a.is = false then (4, st)
 else if (placeV L t).2 ≠ 0 then ((placeV L t).2, st)
 else if s = t ∨ (b.is = true ∧ b.k = a.k) then (0, st)
 else if dir = true ∧ deeperB s t = true then (1, st)
 else if b.is = true then
  if dir = true ∨ (inoAt L (entAt L b.k).target).kind = 2 then (5, st)
  else moveR st (wEnt b.k x b.dir) (wEnt a.k ent0 a.dir)
 else if a.dir = b.dir then doR st [wEnt a.k x b.dir]
 else match frE L with
  | none => (2, st)
  | some k => moveR st (wEnt (k : Int) x b.dir) (wEnt a.k ent0 a.dir)
def grownI (x : Ino) (off m : Nat) (f : List Int) : Ino := ⟨x.kind, max x.size (off + m : Nat), x.b.take (need x.size.toNat) ++ f ++ x.b.drop (need x.size.toNat + f.length)⟩
def hitB (off m i : Nat) : Bool := decide (0 < m ∧ off < 32 * i + 32 ∧ 32 * i < off + m)
def putL (old : List Int) (off : Nat) (b : List Int) (i : Nat) : List Int := (List.range 32).map fun j => if off ≤ 32 * i + j ∧ 32 * i + j < off + b.length then b.getD (32 * i + j - off) 0 else old.getD j 0
def blksW (L : List (List Int)) (n : Int) (y : Ino) (had off : Nat) (b : List Int) (k : Nat) : List Wr :=
 ((List.range k).filter (hitB off b.length)).map fun i => ⟨40 + y.b.getD i 0, putL (if i < had then L.getD (40 + y.b.getD i 0).toNat zero32 else zero32) off b i, 1, n, 0⟩
def writeFV (st : St) (s : ByteArray) (off : Int) (b : List Int) : Int × St :=
 let L := nowL st
 let x := (fileV L s).2.1
 let n := (fileV L s).1
 if (fileV L s).2.2 ≠ 0 then ((fileV L s).2.2, st)
 else if off < 0 ∨ x.size < off then (1, st)
 else if 128 - off < (b.length : Int) then (2, st)
 else
  let w := ((need (max x.size (off + b.length)).toNat : Nat) : Int) - (need x.size.toNat : Nat)
  if blkB L w = false then (2, st)
  else
   let y := grownI x off.toNat b.length (blkL L w)
   doR st (blksW L n y (need x.size.toNat) off.toNat b 4 ++ if y = x then [] else [wIno n y])
def appendV (st : St) (s : ByteArray) (b : List Int) : Int × St :=
 if (fileV (nowL st) s).2.2 ≠ 0 then ((fileV (nowL st) s).2.2, st) else writeFV st s (fileV (nowL st) s).2.1.size b
end fs
namespace fs
set_option maxRecDepth 100000
open Go.ChangeShapes Go.WideShapes Go.ChangeAt Go.RowKit
open rows
open sec
open dsk (Wr Wr.c Wr.c_len w0 fill_part built_of und_wr zero_wr places_wr)
open ly
open pa
open lk
theorem built_wr3 (p k i : Int) (s : List Int) (h : Sec s) : Tryz.prog.built 92 [(0, .int .i64 p), (1, .agg (u8s s).toArray), (2, .agg #[.int .i64 k, .int .i64 i])] = some (Wr.c ⟨p, s, k, i, 0⟩).toArray := by
 have hl : (u8s s).length = 32 := by simp [u8s, h.1]
 have hz : (u8s zero32).length = 32 := by simp [u8s, zero32]
 rw [built_of _ _ _ _ und_wr zero_wr places_wr]
 rw [fill_part _ _ 0 0 1 _ [.int .i64 p] _ rfl rfl rfl (by rw [Wr.c_len sec_zero]; omega)]
 have e0 : (w0.c).take 0 ++ [Value.int .i64 p] ++ (w0.c).drop (0 + 1) = .int .i64 p :: (u8s zero32 ++ [.int .i64 0, .int .i64 0, .int .i64 0]) := rfl
 rw [e0, fill_part _ _ 1 1 32 _ (u8s s) _ rfl rfl hl (by simp [hz])]
 have e1 : (Value.int .i64 p :: (u8s zero32 ++ [Value.int .i64 0, .int .i64 0, .int .i64 0])).take 1 ++ u8s s ++ (Value.int .i64 p :: (u8s zero32 ++ [Value.int .i64 0, .int .i64 0, .int .i64 0])).drop (1 + 32) = .int .i64 p :: (u8s s ++ [.int .i64 0, .int .i64 0, .int .i64 0]) := by
  rw [show 1 + 32 = 32 + 1 by omega, List.drop_succ_cons, List.drop_left' hz]; rfl
 rw [e1, fill_part _ _ 2 33 2 _ [.int .i64 k, .int .i64 i] _ rfl rfl rfl (by simp [hl])]
 have e2 : (Value.int .i64 p :: (u8s s ++ [Value.int .i64 0, .int .i64 0, .int .i64 0])).take 33 ++ [Value.int .i64 k, .int .i64 i] ++ (Value.int .i64 p :: (u8s s ++ [Value.int .i64 0, .int .i64 0, .int .i64 0])).drop (33 + 2) = .int .i64 p :: (u8s s ++ [.int .i64 k, .int .i64 i, .int .i64 0]) := by
  rw [List.take_succ_cons, List.take_left' hl, show 33 + 2 = (32 + 2) + 1 by omega, List.drop_succ_cons, ← List.drop_drop, List.drop_left' hl]
  simp
 rw [e2]
 rfl
end fs
namespace fs
set_option maxRecDepth 100000
open Go.ChangeShapes Go.WideShapes Go.ChangeAt Go.RowKit
open rows
open sec
open ly
open pa
open lk
open al
theorem place_fine {ss : List (List Int)} (hs : Secs ss) (s : ByteArray) : 0 ≤ (placeV ss s).1.dir ∧ (placeV ss s).1.dir ≤ 255 ∧ 0 ≤ (placeV ss s).1.k ∧ (placeV ss s).1.k < 24 := by
 have h0 : 0 ≤ spot0.dir ∧ spot0.dir ≤ 255 ∧ 0 ≤ spot0.k ∧ spot0.k < 24 := by decide
 unfold placeV
 split
 ·exact h0
 ·split
  ·exact h0
  ·split
   ·exact h0
   ·have h1 := lookV_fine hs (bys (strOfNums (parL (bys s))))
    refine ⟨h1.1, h1.2, by simp, ?_⟩
    cases hf : findO ss (lookV ss (bys (strOfNums (parL (bys s))))).1 (strOfNums (lastL (bys s))) with
    | none => simp
    | some k => have := findO_lt hf; simp; omega
theorem list_full {ss : List (List Int)} {d : Int} {l : List ByteArray} (h : IsList ss d l) : decide (0 < (l.length : Int)) = fullB ss d := by
 rw [fullB, Bool.eq_iff_iff, decide_eq_true_eq, List.any_eq_true]
 constructor
 ·intro hl
  cases l with
  | nil => simp at hl
  | cons x r =>
   obtain ⟨j, h1, h2, h3, _⟩ := (h.2 x).1 (List.mem_cons_self ..)
   exact ⟨j, List.mem_range.2 h1, by rw [atB, h2, h3]; simp⟩
 ·rintro ⟨j, h1, h2⟩
  rw [atB, Bool.and_eq_true, decide_eq_true_eq] at h2
  have := (h.2 _).2 ⟨j, List.mem_range.1 h1, h2.1, h2.2, rfl⟩
  have := List.length_pos_of_mem this
  omega
end fs
namespace fs
set_option maxRecDepth 100000
open Go.ChangeShapes Go.WideShapes Go.ChangeAt Go.RowKit
open rows
open sec
open dsk (St Wr.ok)
open ly
open pa
open lk
open al
theorem good_secs {st : St} {k : Nat} (hg : st.good k) : Secs (nowL st) := now_secs hg.ss fun x hx => (hg.ws x hx).1
theorem last_len (l : List Int) : (lastL l).length ≤ 8 ∧ ∀ x ∈ lastL l, 0 ≤ x ∧ x < 256 := by
 unfold lastL
 split
 ·rename_i n ns h
  have hm : (n :: ns).getLastD [] ∈ (n :: ns) := by
   rw [List.getLastD_eq_getLast?, List.getLast?_eq_some_getLast (by simp), Option.getD_some]
   exact List.getLast_mem _
  have hn := (join_split h).2.1 _ hm
  exact ⟨(isNm_len hn).2, isNm_bytes hn⟩
 ·simp
theorem place_name (ss : List (List Int)) (s : ByteArray) : (placeV ss s).1.name.size ≤ 8 := by
 have h0 : spot0.name.size ≤ 8 := by decide
 unfold placeV
 split
 ·exact h0
 ·split
  ·exact h0
  ·split
   ·exact h0
   ·obtain ⟨h1, h2⟩ := last_len (bys s)
    show (strOfNums (lastL (bys s))).size ≤ 8
    rw [← bys_len, bys_strOf h2]
    exact h1
theorem ino_new_ok {kind : Int} (h : 0 ≤ kind ∧ kind < 256) : (⟨kind, 0, [0, 0, 0, 0]⟩ : Ino).ok := ⟨rfl, wf_byte h, wf_byte (by show (0 : Int) ≤ 0 ∧ (0 : Int) < 256; omega), fun z hz => by
 have : z = 0 := by simpa using hz
 subst this
 exact wf_byte (by omega)⟩
end fs
namespace fs
set_option maxRecDepth 100000
open Go.ChangeShapes Go.WideShapes Go.ChangeAt Go.RowKit
open rows
open sec
open dsk (wf64 Wr.ok setCell_heap)
open ly
open pa
open lk
open al
theorem ino_okAt {ss : List (List Int)} (hs : Secs ss) (i : Int) : (inoAt ss i).ok := by
 unfold inoAt
 split
 ·exact inoOfV_ok (secAt_sec hs _)
 ·exact ino0_ok
theorem file_is {ss : List (List Int)} (hs : Secs ss) (s : ByteArray) (h : (fileV ss s).2.2 = 0) : (fileV ss s).2.1 = inoAt ss (fileV ss s).1 ∧ (inoAt ss (fileV ss s).1).kind = 1 ∧ 0 ≤ (fileV ss s).1 ∧ (fileV ss s).1 < 16 := by
 unfold fileV at h ⊢
 split at h
 ·rename_i h1; exact absurd h h1
 ·rename_i h1
  rw [if_neg h1]
  split at h
  ·exact absurd h (by decide)
  ·rename_i h2
   rw [if_neg h2]
   have hk : (inoAt ss (lookV ss (bys s)).1).kind = 1 := Decidable.not_not.1 h2
   refine ⟨rfl, hk, ?_⟩
   show 0 ≤ (lookV ss (bys s)).1 ∧ (lookV ss (bys s)).1 < 16
   unfold inoAt at hk
   split at hk
   ·assumption
   ·exact absurd hk (by decide)
theorem AtI.setS {w : World} {g : Nat} {x : Ino} (h : AtI w g x) (z : Int) : AtI (w.setCell ⟨g, 1, none⟩ (.int .i64 z)) g {x with size := z} := setCell_heap h _
theorem cut_ok {x : Ino} (hx : x.ok) {z : Int} (hz : wf64 z) (j : Nat) (hj : j ≤ 4) : (⟨x.kind, z, cutB x.b j⟩ : Ino).ok := ⟨by simp [cutB, hx.four]; omega, hx.kind, hz, fun y hy => by
 rcases List.mem_append.1 hy with hy | hy
 ·exact hx.b y (List.mem_of_mem_take hy)
 ·rw [(List.mem_replicate.1 hy).2]; exact wf_byte (by omega)⟩
theorem wf64_of (m : Nat) (h : m ≤ 1000) : wf64 (m : Int) := WalkArith.wf_i64 (by omega)
end fs
namespace fs
set_option maxRecDepth 100000
open sec
open ly
open lk
open pa
open al
theorem ino_rightI {ss : List (List Int)} (m : Int) : rightI (inoAt ss m) = true := by
 unfold inoAt
 split
 ·rw [inoOfV]
  split
  ·rename_i h
   rw [inoOfB, Bool.and_eq_true] at h
   exact h.1
  ·decide
 ·decide
theorem ino_kinds {ss : List (List Int)} (m : Int) : (inoAt ss m).kind = 0 ∨ (inoAt ss m).kind = 1 ∨ (inoAt ss m).kind = 2 := by
 by_cases h0 : (inoAt ss m).kind = 0
 ·exact Or.inl h0
 ·by_cases h1 : (inoAt ss m).kind = 1
  ·exact Or.inr (Or.inl h1)
  ·by_cases h2 : (inoAt ss m).kind = 2
   ·exact Or.inr (Or.inr h2)
   ·have := ino_rightI (ss := ss) m
    rw [rightI_none h0 h1 h2] at this
    cases this
theorem ino_bare {ss : List (List Int)} {m : Int} (h : (inoAt ss m).kind ≠ 1) : (inoAt ss m).size = 0 ∧ (inoAt ss m).b = [0, 0, 0, 0] := by
 have h02 : (inoAt ss m).kind = 0 ∨ (inoAt ss m).kind = 2 := by
  rcases ino_kinds (ss := ss) m with h0 | h1 | h2
  ·exact Or.inl h0
  ·exact absurd h1 h
  ·exact Or.inr h2
 have hr := ino_rightI (ss := ss) m
 rw [rightI_plain h02, Bool.and_eq_true, beq_iff_eq, beq_iff_eq] at hr
 exact hr
theorem ino_sizes {ss : List (List Int)} (m : Int) : 0 ≤ (inoAt ss m).size ∧ (inoAt ss m).size ≤ 128 := by
 by_cases h : (inoAt ss m).kind = 1
 ·have hr := ino_rightI (ss := ss) m
  rw [rightI_file h, Bool.and_eq_true, Bool.and_eq_true, decide_eq_true_eq, decide_eq_true_eq] at hr
  exact hr.1
 ·rw [(ino_bare h).1]; decide
end fs
namespace fs
set_option maxRecDepth 100000
open Go.ChangeShapes Go.WideShapes Go.ChangeAt Go.RowKit
open rows
open sec
open dsk (InS)
open ly
open pa
open lk
theorem rd_inS {w : World} {sz n : Nat} {v : Value} {cs : List Value} (h : Rd w sz v n cs) : InS (fun b => b < w.heap.size) v := fun a m c hv hm => by
 rcases h with ⟨p, cap, h1, _⟩ | ⟨b, off, cap, h1, _, _, _, h2, _⟩
 ·rw [hv] at h1
  cases h1
  omega
 ·rw [hv] at h1
  cases h1
  exact h2
end fs
namespace fs
set_option maxRecDepth 100000
open sec
open ly
open lk
open pa
open al
section
variable {L : List (List Int)} {n off : Nat} {b : List Int} {f : List Nat}
theorem putL_sec {old : List Int} (h : Sec old) {b : List Int} (hb : ∀ z ∈ b, 0 ≤ z ∧ z < 256) (off i : Nat) : Sec (putL old off b i) := by
 refine ⟨by simp [putL], fun z hz => ?_⟩
 unfold putL at hz
 obtain ⟨j, hj, rfl⟩ := List.mem_map.1 hz
 split
 ·rename_i hin
  have hl : 32 * i + j - off < b.length := by omega
  simp only [List.getD, List.getElem?_eq_getElem hl, Option.getD_some]
  exact hb _ (List.getElem_mem hl)
 ·exact sec_getD h j
theorem secAt_list {l : List (List Int)} (h : Secs l) (p : Nat) : Sec (l.getD p zero32) := by
 by_cases hp : p < l.length
 ·simp only [List.getD, List.getElem?_eq_getElem hp, Option.getD_some]
  exact h _ (List.getElem_mem hp)
 ·simp only [List.getD, List.getElem?_eq_none (Nat.le_of_not_lt hp), Option.getD_none]
  exact sec_zero
end
end fs
namespace fs
set_option maxRecDepth 100000
open Go.ChangeShapes Go.WideShapes Go.ChangeAt Go.RowKit
open rows
open sec
open ly
open pa
open lk
structure FAct where
 kind : Int
 p : ByteArray
 q : ByteArray
 n : Int
 b : List Int
 bad : List Int
def fDo (st : dsk.St) (a : FAct) : Int × dsk.St :=
 if a.kind = 0 then makeV st a.p 1 else if a.kind = 1 then makeV st a.p 2
 else if a.kind = 2 then writeFV st a.p a.n a.b else if a.kind = 3 then appendV st a.p a.b
 else if a.kind = 4 then truncV st a.p a.n else if a.kind = 5 then renameV st a.p a.q else if a.kind = 6 then unlinkV st a.p else (0, st)
end fs
namespace fs
set_option maxRecDepth 100000
open Go.ChangeShapes Go.WideShapes Go.ChangeAt Go.RowKit
open rows
open sec
open dsk (wf64)
open ly
open pa
open lk
structure ActIn (w : World) (a : FAct) (vb vf : Value) : Prop where
 kind : wf64 a.kind
 n : wf64 a.n
 p : a.p.size ≤ 100
 q : a.q.size ≤ 100
 bl : a.b.length ≤ 300
 bb : ∀ z ∈ a.b, 0 ≤ z ∧ z < 256
 rd : Rd w 1 vb a.b.length (a.b.map (Value.int .u8))
theorem ActIn.later {w w' : World} {a : FAct} {vb vf : Value} (h : ActIn w a vb vf) (k : Below w.heap.size w w') : ActIn w' a vb vf := ⟨h.kind, h.n, h.p, h.q, h.bl, h.bb, h.rd.later k⟩
abbrev actC (a : FAct) (vb vf : Value) : Array Value := #[.int .i64 a.kind, .string a.p, .string a.q, .int .i64 a.n, vb, vf]
end fs
namespace fs
set_option maxRecDepth 100000
open Go.ChangeShapes Go.WideShapes Go.ChangeAt Go.RowKit
open rows
open sec
open dsk (wf64 InS Keeps grow)
open ly
open pa
open lk
def FDone (FI : World → (Nat → Prop) → Value → dsk.St → Prop) (F : Nat → Prop) (f : Value) (w : World) (r : Int × dsk.St) (e : Ending) (w' : World) : Prop := e = .returned (.int .i64 r.1) ∧ FI w' (grow F w w') f r.2 ∧ dsk.Touch F w w'
structure SfsIs (FI : World → (Nat → Prop) → Value → dsk.St → Prop) : Prop where
 kept : ∀ (w w' : World) (F : Nat → Prop) (f : Value) (st : dsk.St), FI w F f st → Keeps F w w' → FI w' F f st
 mono : ∀ (w : World) (F G : Nat → Prop) (f : Value) (st : dsk.St), FI w F f st → (∀ b, F b → G b) → FI w G f st
 read : ∀ (w : World) (F : Nat → Prop) (f : Value) (st : dsk.St) (k : Nat) (s : ByteArray), FI w F f st → st.good k → k ≤ 880 → Mx w → s.size ≤ 100000 → Calls Tryz.prog 32 #[f, .string s] w fun e w' => ∃ p n c, e = .returned (.tuple #[.slice p n c, .int .i64 (readV (nowL st) s).2]) ∧ n = (readV (nowL st) s).1.length ∧ Rd w' 1 (.slice p n c) n ((readV (nowL st) s).1.map (Value.int .u8)) ∧ Below w.heap.size w w'
 exist : ∀ (w : World) (F : Nat → Prop) (f : Value) (st : dsk.St) (k : Nat) (s : ByteArray), FI w F f st → st.good k → k ≤ 880 → Mx w → s.size ≤ 100000 → Calls Tryz.prog 57 #[f, .string s] w fun e w' => e = .returned (.bool (decide ((lookV (nowL st) (bys s)).2 = 0))) ∧ Below w.heap.size w w'
 create : ∀ (w : World) (F : Nat → Prop) (f : Value) (st : dsk.St) (k : Nat) (s : ByteArray), FI w F f st → st.good k → k ≤ 880 → Mx w → s.size ≤ 100000 → Calls Tryz.prog 54 #[f, .string s] w (FDone FI F f w (makeV st s 1))
 mkdir : ∀ (w : World) (F : Nat → Prop) (f : Value) (st : dsk.St) (k : Nat) (s : ByteArray), FI w F f st → st.good k → k ≤ 880 → Mx w → s.size ≤ 100000 → Calls Tryz.prog 79 #[f, .string s] w (FDone FI F f w (makeV st s 2))
 write : ∀ (w : World) (F : Nat → Prop) (f : Value) (st : dsk.St) (k : Nat) (s : ByteArray) (off : Int) (p : Option Addr) (m c : Nat) (b : List Int), FI w F f st → st.good k → k ≤ 880 → Mx w → s.size ≤ 100000 → wf64 off → Rd w 1 (.slice p m c) m (b.map (Value.int .u8)) → InS (fun x => ¬ F x) (.slice p m c) → m ≤ 300 → (∀ x ∈ b, 0 ≤ x ∧ x < 256) → Calls Tryz.prog 55 #[f, .string s, .int .i64 off, .slice p m c] w (FDone FI F f w (writeFV st s off b))
 append : ∀ (w : World) (F : Nat → Prop) (f : Value) (st : dsk.St) (k : Nat) (s : ByteArray) (p : Option Addr) (m c : Nat) (b : List Int), FI w F f st → st.good k → k ≤ 880 → Mx w → s.size ≤ 100000 → Rd w 1 (.slice p m c) m (b.map (Value.int .u8)) → InS (fun x => ¬ F x) (.slice p m c) → m ≤ 300 → (∀ x ∈ b, 0 ≤ x ∧ x < 256) → Calls Tryz.prog 80 #[f, .string s, .slice p m c] w (FDone FI F f w (appendV st s b))
 trunc : ∀ (w : World) (F : Nat → Prop) (f : Value) (st : dsk.St) (k : Nat) (s : ByteArray) (z : Int), FI w F f st → st.good k → k ≤ 880 → Mx w → s.size ≤ 100000 → wf64 z → Calls Tryz.prog 81 #[f, .string s, .int .i64 z] w (FDone FI F f w (truncV st s z))
 rename : ∀ (w : World) (F : Nat → Prop) (f : Value) (st : dsk.St) (k : Nat) (s : ByteArray) (u : ByteArray), FI w F f st → st.good k → k ≤ 880 → Mx w → s.size ≤ 100000 → u.size ≤ 100000 → Calls Tryz.prog 33 #[f, .string s, .string u] w (FDone FI F f w (renameV st s u))
 unlink : ∀ (w : World) (F : Nat → Prop) (f : Value) (st : dsk.St) (k : Nat) (s : ByteArray), FI w F f st → st.good k → k ≤ 880 → Mx w → s.size ≤ 100000 → Calls Tryz.prog 58 #[f, .string s] w (FDone FI F f w (unlinkV st s))
theorem SfsIs.later {FI : World → (Nat → Prop) → Value → dsk.St → Prop} (C : SfsIs FI) {w w' : World} {F : Nat → Prop} {f : Value} {st : dsk.St} (h : FI w F f st) (hb : Below w.heap.size w w') : FI w' F f st :=
 C.kept _ _ _ _ _ h ⟨hb.size, fun k hk _ => hb.block k hk⟩
end fs
namespace fs
set_option maxRecDepth 100000
open Go.ChangeShapes Go.WideShapes Go.ChangeAt Go.RowKit
open rows
open sec
open dsk (InS)
open ly
open pa
open lk
theorem fdone_from {FI : World → (Nat → Prop) → Value → dsk.St → Prop} (C : SfsIs FI) {F : Nat → Prop} {f : Value} {w w1 : World} {r : Int × dsk.St} {e : Ending} {w' : World} (hb : Below w.heap.size w w1) (h : FDone FI F f w1 r e w') : FDone FI F f w r e w' := by
 obtain ⟨h1, h2, h3⟩ := h
 refine ⟨h1, C.mono _ _ _ _ _ h2 fun b hb' => ?_, (dsk.Touch.of_below hb).trans h3⟩
 rcases hb' with h | h
 ·exact Or.inl h
 ·exact Or.inr ⟨Nat.le_trans hb.size h.1, h.2⟩
theorem fdone_same {FI : World → (Nat → Prop) → Value → dsk.St → Prop} (C : SfsIs FI) {F : Nat → Prop} {f : Value} {st : dsk.St} {w w1 : World} (h : FI w F f st) (hb : Below w.heap.size w w1) (r : Int) : FDone FI F f w (r, st) (.returned (.int .i64 r)) w1 :=
 ⟨rfl, C.mono _ _ _ _ _ (C.later h hb) fun b hb => Or.inl hb, dsk.Touch.of_below hb⟩
set_option maxRecDepth 100000 in
set_option maxHeartbeats 6400000 in
theorem ldo_any {FI : World → (Nat → Prop) → Value → dsk.St → Prop} (C : SfsIs FI) (w : World) (F : Nat → Prop) (f : Value) (st : dsk.St) (k : Nat) (hf : FI w F f st) (hg : st.good k) (hk : k ≤ 880) (hm : Mx w) (a : FAct) (p1 : Option Addr) (n1 c1 : Nat) (p2 : Option Addr) (n2 c2 : Nat) (ha : ActIn w a (.slice p1 n1 c1) (.slice p2 n2 c2)) (hin : InS (fun x => ¬ F x) (.slice p1 n1 c1)) (h7 : a.kind ≠ 7) :
  Calls Tryz.prog 23 #[f, .agg (actC a (.slice p1 n1 c1) (.slice p2 n2 c2))] w (FDone FI F f w (fDo st a)) := by
 have HF := Lib.hid hf
 obtain ⟨kd, pp, qq, nn, bb, bad⟩ := a
 have hbox : Hid (Below w.heap.size w (w.alloc (.cells #[.int .i64 kd, .string pp, .string qq, .int .i64 nn, .slice p1 n1 c1, .slice p2 n2 c2] 41))) := Lib.hid (below_alloc (Below.refl _ _) _)
 have HV : Hid (fDo st ⟨kd, pp, qq, nn, bb, bad⟩ = if kd = 0 then makeV st pp 1 else if kd = 1 then makeV st pp 2 else if kd = 2 then writeFV st pp nn bb else if kd = 3 then appendV st pp bb else if kd = 4 then truncV st pp nn else if kd = 5 then renameV st pp qq else if kd = 6 then unlinkV st pp else (0, st)) := Lib.hid rfl
 have hpz := ha.p
 have hqz := ha.q
 have hnw := ha.n
 have hbl := ha.bl
 have hbb := ha.bb
 have hrl : n1 = bb.length := ha.rd.len
 simp only at hpz hqz hnw hbl hbb
 rw [← hrl] at hbl
 have R1 : Hid (Rd (w.alloc (.cells #[.int .i64 kd, .string pp, .string qq, .int .i64 nn, .slice p1 n1 c1, .slice p2 n2 c2] 41)) 1 (.slice p1 n1 c1) n1 (bb.map (Value.int .u8))) := Lib.hid (by have := ha.rd.later hbox.out; simp only at this; rw [← hrl] at this; exact this)
 have IN1 := Lib.hid hin
 have F1 := Lib.hid (C.later HF.out hbox.out)
 have M1 := Lib.hid (hm.later hbox.out)
 generalize hW : w.alloc (.cells #[.int .i64 kd, .string pp, .string qq, .int .i64 nn, .slice p1 n1 c1, .slice p2 n2 c2] 41) = W at *
 simp only at h7
 clear hf hm ha hin hrl
 by_cases h0 : kd = 0
 ·subst h0
  have HC := Lib.hid (C.create W F f st k pp F1.out hg hk M1.out (by omega))
  rw [HV.out.trans (if_pos rfl)]
  clear HV
  subst hW
  go_enter Tryz.func23, Tryz.ntmps23
  go_wp2_with (go_at_call 54; refine HC.out.mono ?_; rintro e w2 hd; have D2 := Lib.hid (fdone_from C hbox.out hd); obtain ⟨rfl, _⟩ := hd)
  go_ret
  exact D2.out
 have k0 : (kd == 0) = false := beq_eq_false_iff_ne.2 h0
 have HV := Lib.hid (HV.out.trans (if_neg h0))
 by_cases h1 : kd = 1
 ·subst h1
  have HC := Lib.hid (C.mkdir W F f st k pp F1.out hg hk M1.out (by omega))
  rw [HV.out.trans (if_pos rfl)]
  clear HV h0
  subst hW
  go_enter Tryz.func23, Tryz.ntmps23
  go_wp2_with (go_at_call 79; refine HC.out.mono ?_; rintro e w2 hd; have D2 := Lib.hid (fdone_from C hbox.out hd); obtain ⟨rfl, _⟩ := hd)
  go_ret
  exact D2.out
 have k1 : (kd == 1) = false := beq_eq_false_iff_ne.2 h1
 have HV := Lib.hid (HV.out.trans (if_neg h1))
 by_cases h2 : kd = 2
 ·subst h2
  have HC := Lib.hid (C.write W F f st k pp nn p1 n1 c1 bb F1.out hg hk M1.out (by omega) hnw R1.out IN1.out hbl hbb)
  rw [HV.out.trans (if_pos rfl)]
  clear HV h0 h1
  subst hW
  go_enter Tryz.func23, Tryz.ntmps23
  go_wp2_with (go_at_call 55; refine HC.out.mono ?_; rintro e w2 hd; have D2 := Lib.hid (fdone_from C hbox.out hd); obtain ⟨rfl, _⟩ := hd)
  go_ret
  exact D2.out
 have k2 : (kd == 2) = false := beq_eq_false_iff_ne.2 h2
 have HV := Lib.hid (HV.out.trans (if_neg h2))
 by_cases h3 : kd = 3
 ·subst h3
  have HC := Lib.hid (C.append W F f st k pp p1 n1 c1 bb F1.out hg hk M1.out (by omega) R1.out IN1.out hbl hbb)
  rw [HV.out.trans (if_pos rfl)]
  clear HV h0 h1 h2
  subst hW
  go_enter Tryz.func23, Tryz.ntmps23
  go_wp2_with (go_at_call 80; refine HC.out.mono ?_; rintro e w2 hd; have D2 := Lib.hid (fdone_from C hbox.out hd); obtain ⟨rfl, _⟩ := hd)
  go_ret
  exact D2.out
 have k3 : (kd == 3) = false := beq_eq_false_iff_ne.2 h3
 have HV := Lib.hid (HV.out.trans (if_neg h3))
 by_cases h4 : kd = 4
 ·subst h4
  have HC := Lib.hid (C.trunc W F f st k pp nn F1.out hg hk M1.out (by omega) hnw)
  rw [HV.out.trans (if_pos rfl)]
  clear HV h0 h1 h2 h3
  subst hW
  go_enter Tryz.func23, Tryz.ntmps23
  go_wp2_with (go_at_call 81; refine HC.out.mono ?_; rintro e w2 hd; have D2 := Lib.hid (fdone_from C hbox.out hd); obtain ⟨rfl, _⟩ := hd)
  go_ret
  exact D2.out
 have k4 : (kd == 4) = false := beq_eq_false_iff_ne.2 h4
 have HV := Lib.hid (HV.out.trans (if_neg h4))
 by_cases h5 : kd = 5
 ·subst h5
  have HC := Lib.hid (C.rename W F f st k pp qq F1.out hg hk M1.out (by omega) (by omega))
  rw [HV.out.trans (if_pos rfl)]
  clear HV h0 h1 h2 h3 h4
  subst hW
  go_enter Tryz.func23, Tryz.ntmps23
  go_wp2_with (go_at_call 33; refine HC.out.mono ?_; rintro e w2 hd; have D2 := Lib.hid (fdone_from C hbox.out hd); obtain ⟨rfl, _⟩ := hd)
  go_ret
  exact D2.out
 have k5 : (kd == 5) = false := beq_eq_false_iff_ne.2 h5
 have HV := Lib.hid (HV.out.trans (if_neg h5))
 by_cases h6 : kd = 6
 ·subst h6
  have HC := Lib.hid (C.unlink W F f st k pp F1.out hg hk M1.out (by omega))
  rw [HV.out.trans (if_pos rfl)]
  clear HV h0 h1 h2 h3 h4 h5
  subst hW
  go_enter Tryz.func23, Tryz.ntmps23
  go_wp2_with (go_at_call 58; refine HC.out.mono ?_; rintro e w2 hd; have D2 := Lib.hid (fdone_from C hbox.out hd); obtain ⟨rfl, _⟩ := hd)
  go_ret
  exact D2.out
 have k6 : (kd == 6) = false := beq_eq_false_iff_ne.2 h6
 have HV := Lib.hid (HV.out.trans (if_neg h6))
 rw [HV.out]
 have k7 : (kd == 7) = false := beq_eq_false_iff_ne.2 h7
 clear HV h0 h1 h2 h3 h4 h5 h6 h7
 subst hW
 go_enter Tryz.func23, Tryz.ntmps23
 go_wp2_with fail
 go_ret
 exact fdone_same C HF.out hbox.out _
end fs
namespace fs
set_option maxRecDepth 100000
open Go.ChangeShapes Go.WideShapes Go.ChangeAt Go.RowKit
open rows
open sec
open dsk (St Wr barrier)
open ly
open pa
open lk
open al
theorem good_more {st : St} {k m : Nat} (h : st.good k) (hm : k ≤ m) : st.good m :=
 ⟨h.ss, h.n1, h.ws, h.es, Nat.le_trans h.wn hm, Nat.le_trans h.ln hm, h.bn, ⟨h.ep.1, by have := h.ep.2; omega⟩, ⟨h.asked.1, by have := h.asked.2; omega⟩⟩
theorem doR_good {st : St} {k : Nat} (h : st.good k) (ws : List Wr) (hw : ∀ x ∈ ws, Sec x.s) (hl : ws.length ≤ 5) : (doR st ws).2.good (k + 10) := good_more (do_good hw h) (by omega)
theorem barrier_good {st : St} {k : Nat} (h : st.good k) : (barrier st).2.good (k + 1) := by
 unfold barrier
 split
 ·exact ⟨h.ss, h.n1, h.ws, h.es, by have := h.wn; show st.wait.length ≤ k + 1; omega, by have := h.ln; show st.log.length ≤ k + 1; omega, h.bn, ⟨h.ep.1, by have := h.ep.2; show st.ep ≤ ((k + 1 : Nat) : Int); omega⟩, ⟨by have := h.asked.1; show 0 ≤ st.asked + 1; omega, by have := h.asked.2; show st.asked + 1 ≤ ((k + 1 : Nat) : Int); omega⟩⟩
 ·refine ⟨h.ss, h.n1, h.ws, fun e he => ?_, by have := h.wn; show st.wait.length ≤ k + 1; omega, by have := h.ln; simp; omega, h.bn, ⟨by have := h.ep.1; show 0 ≤ st.ep + 1; omega, by have := h.ep.2; show st.ep + 1 ≤ ((k + 1 : Nat) : Int); omega⟩, ⟨by have := h.asked.1; show 0 ≤ st.asked + 1; omega, by have := h.asked.2; show st.asked + 1 ≤ ((k + 1 : Nat) : Int); omega⟩⟩
  rcases List.mem_append.1 he with he | he
  ·exact h.es e he
  ·rw [List.mem_singleton.1 he]; exact ⟨by show Sec dsk.w0.s; exact sec_zero, by simp⟩
theorem moveR_good {st : St} {k : Nat} (h : st.good k) (x y : Wr) (hx : Sec x.s) (hy : Sec y.s) : (moveR st x y).2.good (k + 10) := by
 have h1 : (doR st [x]).2.good (k + 1) := do_good (ws := [x]) (fun z hz => by rw [List.mem_singleton.1 hz]; exact hx) h
 have h2 := barrier_good h1
 have h3 : (doR (barrier (doR st [x]).2).2 [y]).2.good (k + 1 + 1 + 1) := do_good (ws := [y]) (fun z hz => by rw [List.mem_singleton.1 hz]; exact hy) h2
 unfold moveR
 split
 ·exact good_more h1 (by omega)
 ·split
  ·exact good_more h2 (by omega)
  ·exact good_more h3 (by omega)
theorem make_good {st : St} {k : Nat} (h : st.good k) (s : ByteArray) (kind : Int) : (makeV st s kind).2.good (k + 10) := by
 have h0 := good_more h (show k ≤ k + 10 by omega)
 unfold makeV
 split
 ·exact h0
 ·split
  ·exact h0
  ·split
   ·exact doR_good h _ (fun x hx => by
     rcases List.mem_cons.1 hx with rfl | hx
     ·exact inoV_sec rfl
     ·rw [List.mem_singleton.1 hx]; exact entV_sec _) (by simp)
   ·exact h0
theorem trunc_good {st : St} {k : Nat} (h : st.good k) (s : ByteArray) (z : Int) : (truncV st s z).2.good (k + 10) := by
 have h0 := good_more h (show k ≤ k + 10 by omega)
 have hs := good_secs h
 unfold truncV
 split
 ·exact h0
 ·split
  ·exact h0
  ·split
   ·exact h0
   ·rename_i hz _
    refine doR_good h _ (fun x hx => by
     rw [List.mem_singleton.1 hx]
     refine inoV_sec ?_
     have h4 := file_four hs s
     have hn : need z.toNat ≤ 4 := by
      by_cases he : (fileV (nowL st) s).2.2 = 0
      ·have h1 := (file_is hs s he).1
       have h2 := ino_sizes (ss := nowL st) (fileV (nowL st) s).1
       rw [← h1] at h2
       exact need_le (by omega)
      ·rename_i hne _
       exact absurd he (by assumption)
     show (cutB (fileV (nowL st) s).2.1.b (need z.toNat)).length = 4
     unfold cutB
     rw [List.length_append, List.length_take, List.length_replicate, h4]; omega) (by simp)
theorem unlink_good {st : St} {k : Nat} (h : st.good k) (s : ByteArray) : (unlinkV st s).2.good (k + 10) := by
 have h0 := good_more h (show k ≤ k + 10 by omega)
 unfold unlinkV
 split
 ·exact h0
 ·split
  ·exact h0
  ·split
   ·exact h0
   ·exact doR_good h _ (fun x hx => by rw [List.mem_singleton.1 hx]; exact entV_sec _) (by simp)
theorem rename_good {st : St} {k : Nat} (h : st.good k) (s u : ByteArray) : (renameV st s u).2.good (k + 10) := by
 have h0 := good_more h (show k ≤ k + 10 by omega)
 unfold renameV
 simp only
 repeat' split
 all_goals first
  | exact h0
  | exact moveR_good h _ _ (entV_sec _) (entV_sec _)
  | exact doR_good h _ (fun x hx => by rw [List.mem_singleton.1 hx]; exact entV_sec _) (by simp)
theorem blksW_fewS {L : List (List Int)} {n : Int} {y : Ino} {had off : Nat} {b : List Int} : (blksW L n y had off b 4).length ≤ 4 := by
 unfold blksW
 rw [List.length_map]
 exact Nat.le_trans (List.length_filter_le ..) (by simp)
theorem write_goodA {st : St} {k : Nat} (h : st.good k) (s : ByteArray) (off : Int) (b : List Int) (hb : ∀ z ∈ b, 0 ≤ z ∧ z < 256) : (writeFV st s off b).2.good (k + 10) := by
 have h0 := good_more h (show k ≤ k + 10 by omega)
 have hs := good_secs h
 unfold writeFV
 simp only
 split
 ·exact h0
 ·split
  ·exact h0
  ·split
   ·exact h0
   ·split
    ·exact h0
    ·rename_i g1 g2 g3 g4
     refine doR_good h _ (fun x hx => ?_) ?_
     ·rcases List.mem_append.1 hx with hx | hx
      ·unfold blksW at hx
       obtain ⟨i, _, rfl⟩ := List.mem_map.1 hx
       refine putL_sec ?_ hb _ _
       split
       ·exact secAt_list hs _
       ·exact sec_zero
      ·split at hx
       ·cases hx
       ·rw [List.mem_singleton.1 hx]
        refine inoV_sec ?_
        have he : (fileV (nowL st) s).2.2 = 0 := Decidable.not_not.1 g1
        have h1 := (file_is hs s he).1
        have h2 := ino_sizes (ss := nowL st) (fileV (nowL st) s).1
        rw [← h1] at h2
        have h4 := file_four hs s
        have hB : blkB (nowL st) (((need (max (fileV (nowL st) s).2.1.size (off + b.length)).toNat : Nat) : Int) - (need (fileV (nowL st) s).2.1.size.toNat : Nat)) = true := by simpa using g4
        have hn1 := need_le (z := (max (fileV (nowL st) s).2.1.size (off + b.length)).toNat) (by omega)
        have hB2 := hB
        rw [blkB, decide_eq_true_eq] at hB2
        show ((fileV (nowL st) s).2.1.b.take (need (fileV (nowL st) s).2.1.size.toNat) ++ blkL (nowL st) _ ++ (fileV (nowL st) s).2.1.b.drop (need (fileV (nowL st) s).2.1.size.toNat + (blkL (nowL st) _).length)).length = 4
        rw [blkL, if_pos hB, List.length_append, List.length_append, List.length_take, List.length_drop, ofNats_len, List.length_take, h4]
        omega
     ·rw [List.length_append]
      have := blksW_fewS (L := nowL st) (n := (fileV (nowL st) s).1) (y := grownI (fileV (nowL st) s).2.1 off.toNat b.length (blkL (nowL st) (((need (max (fileV (nowL st) s).2.1.size (off + b.length)).toNat : Nat) : Int) - (need (fileV (nowL st) s).2.1.size.toNat : Nat)))) (had := need (fileV (nowL st) s).2.1.size.toNat) (off := off.toNat) (b := b)
      split <;> simp <;> omega
theorem append_goodA {st : St} {k : Nat} (h : st.good k) (s : ByteArray) (b : List Int) (hb : ∀ z ∈ b, 0 ≤ z ∧ z < 256) : (appendV st s b).2.good (k + 10) := by
 unfold appendV
 split
 ·exact good_more h (by omega)
 ·exact write_goodA h s _ b hb
theorem fdo_good {st : St} {k : Nat} (h : st.good k) (a : FAct) (hb : ∀ z ∈ a.b, 0 ≤ z ∧ z < 256) : (fDo st a).2.good (k + 10) := by
 unfold fDo
 repeat' split
 all_goals first
  | exact make_good h _ _
  | exact write_goodA h _ _ _ hb
  | exact append_goodA h _ _ hb
  | exact trunc_good h _ _
  | exact rename_good h _ _
  | exact unlink_good h _
  | exact good_more h (by omega)
structure AX where
 a : FAct
 p1 : Option Addr
 n1 : Nat
 c1 : Nat
 p2 : Option Addr
 n2 : Nat
 c2 : Nat
abbrev AX.c (x : AX) : List Value := [.int .i64 x.a.kind, .string x.a.p, .string x.a.q, .int .i64 x.a.n, .slice x.p1 x.n1 x.c1, .slice x.p2 x.n2 x.c2]
theorem info_act : (Tryz.prog.info? 41).map (·.size) = some 6 := by kernel_rfl
end fs
namespace fs
set_option maxRecDepth 100000
open Go.ChangeShapes Go.WideShapes Go.ChangeAt Go.RowKit
open rows
open sec
open dsk (wf64)
open ly
open pa
open lk
open al
structure AX.ok (W : World) (x : AX) : Prop where
 kind : wf64 x.a.kind
 n : wf64 x.a.n
 p : x.a.p.size ≤ maxLen
 q : x.a.q.size ≤ maxLen
 bl : x.a.b.length = x.n1
 bm : x.n1 ≤ maxLen
 bb : ∀ z ∈ x.a.b, 0 ≤ z ∧ z < 256
 rd : Rd W 1 (.slice x.p1 x.n1 x.c1) x.n1 (x.a.b.map (Value.int .u8))
 fm : x.n2 ≤ maxLen
 bad : Rd W 1 (.slice x.p2 x.n2 x.c2) x.n2 (i64s x.a.bad)
 bw : ∀ z ∈ x.a.bad, wf64 z
theorem cellsActF : Tryz.prog.cellsOf 41 = 6 := by kernel_rfl
theorem und_actF : Tryz.prog.underlying 41 = some (.struct (Tryz.prog.fieldsOf 41)) := by kernel_rfl
theorem fields_actF : (Tryz.prog.fieldsOf 41).toList.map (fun f => (f.type, f.offset)) = [(3, 0), (9, 1), (9, 2), (3, 3), (38, 4), (39, 5)] := by kernel_rfl
theorem und_intF : Tryz.prog.underlying 3 = some (.int .i64) := by kernel_rfl
theorem und_u8F : Tryz.prog.underlying 5 = some (.int .u8) := by kernel_rfl
theorem und_strF : Tryz.prog.underlying 9 = some .string := by kernel_rfl
theorem und_bsF : Tryz.prog.underlying 38 = some (.slice 5) := by kernel_rfl
theorem und_isF : Tryz.prog.underlying 39 = some (.slice 3) := by kernel_rfl
theorem und_actsF : Tryz.prog.underlying 23 = some (.slice 41) := by kernel_rfl
theorem cellsIntF : Tryz.prog.cellsOf 3 = 1 := by kernel_rfl
theorem cellsU8F : Tryz.prog.cellsOf 5 = 1 := by kernel_rfl
theorem cellsStrF : Tryz.prog.cellsOf 9 = 1 := by kernel_rfl
theorem cellsBsF : Tryz.prog.cellsOf 38 = 1 := by kernel_rfl
theorem cellsIsF : Tryz.prog.cellsOf 39 = 1 := by kernel_rfl
theorem wf_u8F {n : Int} (h : (Lit.int .u8 n).wf = true) : 0 ≤ n ∧ n < 256 := by
 have : 0 ≤ n ∧ n ≤ 255 := by simpa [Lit.wf, IntKind.min, IntKind.max, IntKind.signed, IntKind.bits] using h
 omega
theorem cut_pieceF {α : Type} (cs : List α) (n m : Nat) : (cs.drop n).take m ++ cs.drop (n + m) = cs.drop n := by
 rw [← List.drop_drop, List.take_append_drop]
theorem u8_flatF (l : List Int) : (l.map fun a => [Value.int .u8 a]).flatten = l.map (Value.int .u8) := by
 induction l with
 | nil => rfl
 | cons a t ih => simp at ih ⊢; exact ih
theorem i64_flatF (l : List Int) : (l.map fun a => [Value.int .i64 a]).flatten = i64s l := by
 induction l with
 | nil => rfl
 | cons a t ih => simp [i64s] at ih ⊢; exact ih
section
variable {H : Type} {enc : TypeId × Value → H} {W : World} {base : Nat} {spare : Nat → Bool} {held : Bool}
theorem field_trodF {T : TypeId} {fs : Array Field} (ht : Tryz.prog.underlying T = some (.struct fs)) {L : List (TypeId × Nat)} (hL : fs.toList.map (fun f => (f.type, f.offset)) = L) {fuel : Nat} {cs : List Value} {x : DataW H × List MemPlace}
  (h : DataW.trod enc Tryz.prog W base spare held fuel T cs = some x) : cs.length = Tryz.prog.cellsOf T ∧ ∀ (i : Nat) (ty : TypeId) (off : Nat), L[i]? = some (ty, off) → ∃ n y, DataW.trod enc Tryz.prog W base spare held n ty ((cs.drop off).take (Tryz.prog.cellsOf ty)) = some y := by
 obtain ⟨xs, n, _, _, hl, hx, hf⟩ := DataW.trod_struct ht h
 refine ⟨hl, fun i ty off hi => ?_⟩
 rw [← hL, List.getElem?_map] at hi
 cases hq : fs[i]? with
 | none => simp [hq] at hi
 | some f =>
  have h1 : (f.type, f.offset) = (ty, off) := by simpa [hq] using hi
  have h2 := hf i f hq
  have hix : i < xs.length := by rw [hx]; exact (Array.getElem?_eq_some_iff.1 hq).1
  rw [List.getElem?_eq_getElem hix] at h2
  cases h1
  exact ⟨n, _, h2⟩
theorem act_of_cellsF {n : Nat} {cs : List Value} {x : DataW H × List MemPlace} (h : DataW.trod enc Tryz.prog W base spare held n 41 cs = some x) : ∃ a : AX, a.ok W ∧ cs = a.c := by
 obtain ⟨hl, hf⟩ := field_trodF und_actF fields_actF h
 rw [cellsActF] at hl
 obtain ⟨_, _, h0⟩ := hf 0 _ _ rfl
 obtain ⟨_, _, h1⟩ := hf 1 _ _ rfl
 obtain ⟨_, _, h2⟩ := hf 2 _ _ rfl
 obtain ⟨_, _, h3⟩ := hf 3 _ _ rfl
 obtain ⟨_, _, h4⟩ := hf 4 _ _ rfl
 obtain ⟨_, _, h5⟩ := hf 5 _ _ rfl
 rw [cellsIntF] at h0 h3
 rw [cellsStrF] at h1 h2
 rw [cellsBsF] at h4
 rw [cellsIsF] at h5
 obtain ⟨kd, e0, _, wkd⟩ := DataW.trod_int und_intF h0
 obtain ⟨s, e1, _, ws⟩ := DataW.trod_string und_strF h1
 obtain ⟨u, e2, _, wu⟩ := DataW.trod_string und_strF h2
 obtain ⟨z, e3, _, wz⟩ := DataW.trod_int und_intF h3
 obtain ⟨p4, l4, c4, bs, e4, hg4, hl4, hr4, hm4⟩ := open_slice (fun a : Int => [Value.int .u8 a]) (by decide) und_bsF cellsU8F (fun a : Int => 0 ≤ a ∧ a < 256) (fun _ _ => rfl) (fun _ _ _ h => by
  obtain ⟨a, ha, _, wa⟩ := DataW.trod_int und_u8F h
  exact ⟨a, wf_u8F wa, ha⟩) h4
 obtain ⟨p5, l5, c5, zs, e5, hg5, hl5, hr5, hm5⟩ := open_slice (fun a : Int => [Value.int .i64 a]) (by decide) und_isF cellsIntF wf64 (fun _ _ => rfl) (fun _ _ _ h => by
  obtain ⟨a, ha, _, wa⟩ := DataW.trod_int und_intF h
  exact ⟨a, wa, ha⟩) h5
 rw [u8_flatF] at hr4
 rw [i64_flatF] at hr5
 refine ⟨⟨⟨kd, s, u, z, bs, zs⟩, p4, l4, c4, p5, l5, c5⟩, ⟨wkd, wz, ws, wu, hl4, hm4, hg4, hr4, hm5, hr5, hg5⟩, ?_⟩
 have q0 := cut_pieceF cs 0 1
 have q1 := cut_pieceF cs 1 1
 have q2 := cut_pieceF cs 2 1
 have q3 := cut_pieceF cs 3 1
 have q4 := cut_pieceF cs 4 1
 have q5 := cut_pieceF cs 5 1
 rw [e0] at q0
 rw [e1] at q1
 rw [e2] at q2
 rw [e3] at q3
 rw [e4] at q4
 rw [e5, List.drop_of_length_le (i := 5 + 1) (by omega), List.append_nil] at q5
 simp only [Nat.reduceAdd] at q0 q1 q2 q3 q4
 rw [List.drop_zero, ← q1, ← q2, ← q3, ← q4, ← q5] at q0
 rw [← q0]
 rfl
theorem facts_of_trod {p : Option Addr} {len cap : Nat} {d : DataW H} {ps : List MemPlace}
  (h : DataW.Trod enc Tryz.prog W 0 (fun _ => true) true 23 (.slice p len cap) d ps) : ∃ l : List AX, (∀ a ∈ l, a.ok W) ∧ l.length = len ∧ Rd W 6 (.slice p len cap) len ((l.map AX.c).flatten) ∧ len ≤ maxLen := by
 obtain ⟨fuel, hf⟩ := h
 obtain ⟨p', len', cap', l, hcs, hg, hl, hr, hm⟩ := open_slice AX.c (by decide) und_actsF cellsActF (fun a => a.ok W) (fun a ha => rfl) (fun _ _ _ h => act_of_cellsF h) hf
 simp [Value.cells] at hcs
 obtain ⟨rfl, rfl, rfl⟩ := hcs
 exact ⟨l, hg, hl, hr, hm⟩
end
def AX.light (x : AX) : Prop := x.a.p.size ≤ 100 ∧ x.a.q.size ≤ 100 ∧ x.n1 ≤ 300 ∧ x.n2 ≤ 30
theorem AX.actIn {W : World} {x : AX} (h : x.ok W) (hl : x.light) : ActIn W x.a (.slice x.p1 x.n1 x.c1) (.slice x.p2 x.n2 x.c2) :=
 ⟨h.kind, h.n, hl.1, hl.2.1, by rw [h.bl]; exact hl.2.2.1, h.bb, by rw [h.bl]; exact h.rd⟩
def FLightPost (n m : Nat) (l : List AX) (w : World) (e : Ending) (w' : World) : Prop := ∃ b : Bool, e = .returned (.bool b) ∧ w = w' ∧ (b = true → n ≤ m ∧ ∀ a ∈ l, a.light)
theorem ax_parts {w : World} {x : AX} {b o : Nat} (hr : w.rangeAt b o x.c) : w.cell? ⟨b, o + 1, none⟩ = some (.string x.a.p) ∧ w.cell? ⟨b, o + 2, none⟩ = some (.string x.a.q) ∧ w.cell? ⟨b, o + 4, none⟩ = some (.slice x.p1 x.n1 x.c1) ∧ w.cell? ⟨b, o + 5, none⟩ = some (.slice x.p2 x.n2 x.c2) :=
 ⟨hr 1 _ rfl, hr 2 _ rfl, hr 4 _ rfl, hr 5 _ rfl⟩
set_option maxHeartbeats 1600000 in
theorem flight_any {W : World} (p : Option Addr) (n c m : Nat) (l : List AX) (w : World) (hm0 : m ≤ 99) (hw : Below W.heap.size W w) (hg : ∀ a ∈ l, a.ok W) (hr : Rd W 6 (.slice p n c) n ((l.map AX.c).flatten)) (hm : n ≤ maxLen) :
  Calls Tryz.prog 8 #[.slice p n c, .int .i64 (m : Int)] w (FLightPost n m l w) := by
 have hle : ∀ a ∈ l, a.c.length = 6 := fun a ha => rfl
 have HZ : Hid (l.length = n) := Lib.hid (dsk.Rd.count AX.c hr hle (by decide))
 have HR := Lib.hid hr
 have HLE := Lib.hid hle
 have HG := Lib.hid hg
 have hm2 : (n : Int) ≤ 9223372036854775807 := by unfold maxLen at hm; omega
 clear hr hle hg
 go_enter Tryz.func8, Tryz.ntmps8
 go_wp2
 go_loop [5] (fun iv => ∃ (j : Nat), j ≤ n ∧ j ≤ 100 ∧ Hid (∀ i (h : i < l.length), i < j → l[i].light) ∧ iv = .int .i64 (j : Int)) (fun iv => n - (intOf iv).toNat)
 case atStart => exact ⟨0, by omega, by omega, Lib.hid (fun _ _ h => by omega), rfl⟩
 case round =>
  obtain ⟨j, hj, hj2, HL, rfl⟩ := hrel
  by_cases ha : j < n
  ·have ha1 : (j:Int) < n := by omega
   by_cases hb : j < 100
   ·have hb1 : decide ((j:Int) < 100) = true := by simp; omega
    have hjl : j < l.length := by rw [HZ.out]; exact ha
    obtain ⟨b1, o1, rfl, hc1, hm1, hh1, hl1, HR1⟩ := dsk.Rd.chunk AX.c HR.out HLE.out (by decide) ha
    have hok := HG.out _ (List.getElem_mem hjl)
    obtain ⟨hP, hQ, hB, hF⟩ := ax_parts (Rd.rangeLater (HR1 j hjl) hh1 hw)
    have HLL : Hid (l[j].light → ∀ i (h : i < l.length), i < j + 1 → l[i].light) := Lib.hid (fun hq i h hi => by
     rcases Nat.lt_or_ge i j with h1 | h1
     ·exact HL.out i h h1
     ·obtain rfl : i = j := by omega
      exact hq)
    obtain ⟨x, hx⟩ : ∃ x, l[j] = x := ⟨_, rfl⟩
    rw [hx] at hP hQ hB hF hok
    have HX := Lib.hid hx
    clear hx HR1 hl1
    obtain ⟨⟨kd, s, u, z, bs, zs⟩, p1, n1, c1, p2, n2, c2⟩ := x
    have m1 : s.size ≤ maxLen := hok.p
    have m2 : u.size ≤ maxLen := hok.q
    have m3 : n1 ≤ maxLen := hok.bm
    have m4 : n2 ≤ maxLen := hok.fm
    clear hok
    unfold maxLen at m1 m2 m3 m4
    simp only [] at hP hQ hB hF
    by_cases h1 : s.size ≤ 100
    ·have d1 : decide ((100:Int) < s.size) = false := by simp; omega
     by_cases h2 : u.size ≤ 100
     ·have d2 : decide ((100:Int) < u.size) = false := by simp; omega
      by_cases h3 : n1 ≤ 300
      ·have d3 : decide ((300:Int) < n1) = false := by simp; omega
       by_cases h4 : n2 ≤ 30
       ·have d4 : decide ((30:Int) < n2) = false := by simp; omega
        go_wp2_with fail
        go_round
        case rel => exact ⟨j + 1, by omega, by omega, Lib.hid (HLL.out (by rw [HX.out]; exact ⟨h1, h2, h3, h4⟩)), by go_num⟩
        case measure => simp [intOf]; omega
       ·have d4 : decide ((30:Int) < n2) = true := by simp; omega
        go_wp2_with fail
        go_ret
        exact ⟨false, rfl, rfl, by simp⟩
      ·have d3 : decide ((300:Int) < n1) = true := by simp; omega
       go_wp2_with fail
       go_ret
       exact ⟨false, rfl, rfl, by simp⟩
     ·have d2 : decide ((100:Int) < u.size) = true := by simp; omega
      go_wp2_with fail
      go_ret
      exact ⟨false, rfl, rfl, by simp⟩
    ·have d1 : decide ((100:Int) < s.size) = true := by simp; omega
     go_wp2_with fail
     go_ret
     exact ⟨false, rfl, rfl, by simp⟩
   ·have hb1 : decide ((j:Int) < 100) = false := by simp; omega
    have hn : decide ((n:Int) ≤ m) = false := by simp; omega
    have hn2 : decide (n ≤ m) = false := by simp; omega
    go_wp2_with fail
    go_ret
    exact ⟨false, rfl, rfl, by simp⟩
  ·by_cases hn : n ≤ m
   ·have hn1 : decide ((n:Int) ≤ m) = true := by simp; omega
    have hn2 : decide (n ≤ m) = true := by simp; omega
    go_wp2_with fail
    go_ret
    exact ⟨true, rfl, rfl, fun _ => ⟨hn, fun a ham => by
     obtain ⟨i, hi, rfl⟩ := List.getElem_of_mem ham
     exact HL.out i hi (by have := HZ.out; omega)⟩⟩
   ·have hn1 : decide ((n:Int) ≤ m) = false := by simp; omega
    have hn2 : decide (n ≤ m) = false := by simp; omega
    go_wp2_with fail
    go_ret
    exact ⟨false, rfl, rfl, by simp⟩
end fs
namespace fs
set_option maxRecDepth 100000
open Go.ChangeShapes Go.WideShapes Go.ChangeAt Go.RowKit
open rows
open sec
open dsk (grow St CA cfrom_yes st0)
open ly
open pa
open lk
open al
structure SfsHas (FI : Value → World → (Nat → Prop) → Value → dsk.St → Prop) : Prop where
 mount : ∀ (w : World) (F : Nat → Prop) (d : Value) (st : dsk.St) (k : Nat), CA w F d st → st.good k → k ≤ 880 → mountV st = 0 → Calls Tryz.prog 12 #[d] w fun e w' => ∃ ad, e = .returned (.tuple #[.pointer (some ad), .int .i64 0]) ∧ FI d w' (grow F w w') (.pointer (some ad)) st ∧ Below w.heap.size w w'
 disk : ∀ (d : Value) (w : World) (F : Nat → Prop) (f : Value) (st : dsk.St) (k : Nat), FI d w F f st → st.good k → k ≤ 880 → Calls Tryz.prog 31 #[f] w fun e w' => e = .returned d ∧ w' = w
 code : ∀ (d : Value) (w : World) (F : Nat → Prop) (f : Value) (st : dsk.St), FI d w F f st → CA w F d st
theorem empty_mountsF : mountsB emptyImg = true := by kernel_rfl
theorem now_st0 (ss : List (List Int)) : nowL (st0 ss) = ss := rfl
theorem good_st0 {ss : List (List Int)} (hs : Secs ss) (hl : ss.length ≤ 65) : (st0 ss).good 0 :=
 ⟨hs, hl, fun x hx => (by cases hx), fun x hx => (by cases hx), Nat.le_refl _, Nat.le_refl _, Nat.zero_le _, ⟨Int.le_refl _, Int.le_refl _⟩, ⟨Int.le_refl _, Int.le_refl _⟩⟩
theorem mount_fresh : mountV (st0 emptyImg) = 0 := by
 unfold mountV
 rw [now_st0, empty_mountsF, if_neg (show ¬ (st0 emptyImg).safe.length = 0 by show ¬ emptyImg.length = 0; rw [emptyImg_len]; decide), if_pos rfl]
set_option maxRecDepth 100000 in
theorem fresh_any {FI : Value → World → (Nat → Prop) → Value → dsk.St → Prop} (C : ∀ d, SfsIs (FI d)) (D : SfsHas FI) (w : World) (p : Option Addr) (c : Nat) (hr : Rd w 32 (.slice p 65 c) 65 (cellsOf emptyImg)) :
  Calls Tryz.prog 28 #[.slice p 65 c] w fun e w' => ∃ ad d, e = .returned (.pointer (some ad)) ∧ FI d w' (fun b => w.heap.size ≤ b ∧ b < w'.heap.size) (.pointer (some ad)) (st0 emptyImg) ∧ Below w.heap.size w w' := by
 have HF := Lib.hid (cfrom_yes w p 65 c emptyImg emptyImg_secs hr (by decide) (by decide))
 have HM := Lib.hid fun w1 F d (h : CA w1 F d (st0 emptyImg)) => D.mount w1 F d (st0 emptyImg) 0 h (good_st0 emptyImg_secs (Nat.le_of_eq emptyImg_len)) (by decide) mount_fresh
 go_enter Tryz.func28, Tryz.ntmps28
 go_wp2_with (first | (go_at_call 10; refine HF.out.mono ?_; rintro e w1 ⟨ad, rfl, hc, hb⟩; have HC := Lib.hid hc; have B1 := Lib.hid hb; clear hc hb) | (go_at_call 12; refine (HM.out _ _ _ HC.out).mono ?_; rintro e w2 ⟨af, rfl, hf, hb⟩; have HFI := Lib.hid hf; have B2 := Lib.hid hb; clear hf hb))
 go_ret
 have h1 := B1.out
 have h2 := B2.out
 exact ⟨_, _, rfl, (C _).mono _ _ _ _ _ HFI.out (fun b hb => by
  have s1 := h1.size
  have s2 := h2.size
  rcases hb with hb | hb <;> omega), below_trans h1 h2⟩
end fs
namespace fs
set_option maxRecDepth 100000
open Go.ChangeShapes Go.WideShapes Go.ChangeAt Go.RowKit
open rows
open sec
open dsk (St st0)
open ly
open pa
open lk
open al
abbrev txA : ByteArray := { data := #[47, 97] }
def stA : St := (makeV (st0 emptyImg) txA 1).2
theorem kn_create : (makeV (st0 emptyImg) txA 1).1 = 0 := by decide +kernel
end fs
end Go.Proofs.YtpahnfnfoldbhaaGreatDoor
