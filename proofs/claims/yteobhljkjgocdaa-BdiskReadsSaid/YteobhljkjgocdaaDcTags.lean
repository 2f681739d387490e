/- Tags as keys of a map; the code's lastEpoch; how the code's Sync settles, in the document's words. -/
import Derived.Test.YteobhljkjgocdaaDcWriteY
import Derived.DeepKeys5
import Derived.DeepKeys3
namespace Go.Proofs.Yteobhljkjgocdaa.dsk
open Go.ChangeShapes Go.WideShapes Go.ChangeAt Go.RowKit
open Go.Proofs.Yteobhljkjgocdaa.rows
open Go.Proofs.Yteobhljkjgocdaa.sec
open Go.Maps
set_option linter.unusedVariables false
set_option linter.unusedSimpArgs false

theorem laidOutD : laidOutB Try.prog = true := by kernel_rfl
theorem wide_tag : (match Try.prog.underlying 37 with | some (.array _ _) | some (.struct _) => true | _ => false) = true := by kernel_rfl
theorem keyType_tag : Try.prog.keyType 37 = true := by kernel_rfl
theorem key_tag : Keyed Try.prog 37 := Keyed.of_law (deep_law_gate laidOutD (of_decide_eq_true (by kernel_rfl)) (of_decide_eq_true (by kernel_rfl)) keyType_tag wide_tag)
theorem tiled_tag : Try.prog.tiled (Try.prog.types.size + 1) 37 = true := by kernel_rfl
def tagV (k i : Int) : Value := .agg #[.int .i64 k, .int .i64 i]
def tagL (k i : Int) : Lit := .string (keyBytes [.int .i64 k, .int .i64 i])
theorem size_types : ∃ m, Try.prog.types.size = m + 1 := ⟨Try.prog.types.size - 1, of_decide_eq_true (by kernel_rfl)⟩
theorem names_tag : (Try.prog.fieldsOf 37).all (·.name != "_") = true := by kernel_rfl
theorem two_fields {fs : List Field} {a b c d : Nat} (h : fs.map (fun f => (f.type, f.offset)) = [(a, b), (c, d)]) : ∃ f0 f1, fs = [f0, f1] ∧ f0.type = a ∧ f0.offset = b ∧ f1.type = c ∧ f1.offset = d := by
  match fs, h with
  | [f0, f1], h => simp at h; exact ⟨f0, f1, rfl, h.1.1, h.1.2, h.2.1, h.2.2⟩
theorem keyOf_tag {k i : Int} (hk : wf64 k) (hi : wf64 i) : keyOf Try.prog 37 (tagV k i) = some (.string (keyBytes [.int .i64 k, .int .i64 i])) := by
  obtain ⟨m, hm⟩ := size_types
  obtain ⟨f0, f1, hfs, h0, h1, h2, h3⟩ := two_fields fields_tag2
  have hft : (tagV k i).formed Try.prog 37 = true := by simp [Value.formed, tagV, und_tag, cellsTag]
  have hwk : (Lit.int .i64 k).wf = true := hk
  have hwi : (Lit.int .i64 i).wf = true := hi
  unfold keyOf
  simp only [und_tag]
  rw [if_pos (by rw [keyType_tag, hft]; rfl), hm]
  unfold Program.keyLits
  simp only [und_tag, Value.cells, tagV]
  rw [if_pos ⟨by rw [cellsTag]; rfl, names_tag⟩, hfs, List.mapM_cons, List.mapM_cons, List.mapM_nil, h0, h1, h2, h3, cellsInt]
  simp [Program.keyLits, und_int, hwk, hwi]
theorem keyAt_tag {k i : Int} (hk : wf64 k) (hi : wf64 i) : keyOf Try.prog 37 (tagV k i) = some (tagL k i) := keyOf_tag hk hi
theorem tagL_inj {k i k' i' : Int} (hk : wf64 k) (hi : wf64 i) (hk' : wf64 k') (hi' : wf64 i') (h : tagL k i = tagL k' i') : k = k' ∧ i = i' := by
  have h1 := keyAt_tag hk hi
  have h2 := keyAt_tag hk' hi'
  rw [h] at h1
  have := key_tag.inj h1 h2
  simp [tagV] at this
  exact this
theorem und_wanted : Try.prog.underlying 88 = some (.map 37 77) := by kernel_rfl
/-- block b is the set of the tags ts -/
def Wanted (w : World) (b : Nat) (ts : List (Int × Int)) : Prop := ∃ n, ∃ D : DataW Unit, n ≤ ts.length ∧ w.ownsMap Try.prog 37 unitElem b n D ∧ ∀ k i : Int, wf64 k → wf64 i → Maps.has D (tagL k i) = decide ((k, i) ∈ ts)
theorem wanted_kept {S : Nat → Prop} {w w' : World} {b : Nat} {ts : List (Int × Int)} (h : Wanted w b ts) (hb : S b) (k : Keeps S w w') : Wanted w' b ts := by
  obtain ⟨n, D, h1, h2, h3⟩ := h
  have hlt := h2.lt
  obtain ⟨es, clock, he, r⟩ := h2
  exact ⟨n, D, h1, ⟨es, clock, (k.2 b hlt hb).trans he, r⟩, h3⟩
theorem Wanted.lt {w : World} {b : Nat} {ts : List (Int × Int)} (h : Wanted w b ts) : b < w.heap.size := by
  obtain ⟨n, D, h1, h2, h3⟩ := h
  exact h2.lt
theorem wanted_none (w : World) : Wanted (w.alloc (.map #[] 0)) w.heap.size [] := ⟨0, .map [], Nat.le_refl _, World.ownsMap_made _ _ _ _, fun _ _ _ _ => by simp [Maps.has]⟩
/-! what the code's Sync settles -/
def lastE (ts : List (Int × Int)) (ws : List Wr) : Int := ws.foldl (fun a x => if hasT ts x = true then max a x.ep else a) 0
theorem lastE_snoc (ts : List (Int × Int)) (ws : List Wr) (j : Nat) (h : j < ws.length) : lastE ts (ws.take (j + 1)) = if hasT ts ws[j] = true then max (lastE ts (ws.take j)) ws[j].ep else lastE ts (ws.take j) := by
  rw [List.take_succ_eq_append_getElem h, lastE, List.foldl_append]; rfl
theorem lastE_fold (ts : List (Int × Int)) : ∀ (ws : List Wr) (p : Int × Bool) (a : Int), a = (if p.2 = true then p.1 else 0) → 0 ≤ a → (∀ x ∈ ws, 0 ≤ x.ep) →
    ws.foldl (fun a x => if hasT ts x = true then max a x.ep else a) a = (if (ws.foldl (topStep ts) p).2 = true then (ws.foldl (topStep ts) p).1 else 0)
  | [], p, a, h, _, _ => h
  | x :: ws, p, a, h, h0, hx => by
    have hx0 := hx x (List.mem_cons_self ..)
    rw [List.foldl_cons, List.foldl_cons]
    refine lastE_fold ts ws (topStep ts p x) _ ?_ ?_ fun y hy => hx y (List.mem_cons_of_mem _ hy)
    · obtain ⟨t, sb⟩ := p
      unfold topStep
      cases hh : hasT ts x <;> cases sb
      · simpa using h
      · simpa using h
      · simp at h ⊢; omega
      · simp only [if_true] at h
        by_cases hlt : t < x.ep
        · simp [hlt]; omega
        · simp [hlt]; omega
    · split <;> omega
theorem lastE_top (ts : List (Int × Int)) (ws : List Wr) (h : ∀ x ∈ ws, 0 ≤ x.ep) : lastE ts ws = if (topOf ts ws).2 = true then (topOf ts ws).1 else 0 := lastE_fold ts ws (0, false) 0 rfl (Int.le_refl _) h
theorem lastE_nonneg (ts : List (Int × Int)) (ws : List Wr) : ∀ j, 0 ≤ lastE ts (ws.take j) := by
  have key : ∀ (l : List Wr) (a : Int), 0 ≤ a → 0 ≤ l.foldl (fun a x => if hasT ts x = true then max a x.ep else a) a := by
    intro l
    induction l with
    | nil => intro a h; exact h
    | cons x l ih => intro a h; exact ih _ (by dsimp only; split <;> omega)
  exact fun j => key _ 0 (Int.le_refl _)
/-- which writes are made durable, as the code says it -/
def madeC (ts : List (Int × Int)) (last : Int) (x : Wr) : Bool := hasT ts x || decide (x.ep < last)
theorem madeC_is (ts : List (Int × Int)) (ws : List Wr) (h : ∀ x ∈ ws, 0 ≤ x.ep) (x : Wr) (hx : 0 ≤ x.ep) : madeC ts (lastE ts ws) x = madeB ts (topOf ts ws) x := by
  unfold madeC madeB
  rw [lastE_top ts ws h]
  cases hs : (topOf ts ws).2
  · simp; omega
  · simp
theorem staysB_congr {mk mk' : Wr → Bool} (ws : List Wr) (h : ∀ x ∈ ws, mk x = mk' x) (i : Nat) (x : Wr) (hx : x ∈ ws) : staysB mk ws i x = staysB mk' ws i x := by
  unfold staysB
  have e : (ws.drop (i + 1)).any (fun y => mk y && y.pos == x.pos) = (ws.drop (i + 1)).any (fun y => mk' y && y.pos == x.pos) := by
    rw [Bool.eq_iff_iff, List.any_eq_true, List.any_eq_true]
    constructor
    · rintro ⟨y, hy, h1⟩; exact ⟨y, hy, by rw [← h y (List.mem_of_mem_drop hy)]; exact h1⟩
    · rintro ⟨y, hy, h1⟩; exact ⟨y, hy, by rw [h y (List.mem_of_mem_drop hy)]; exact h1⟩
  rw [e, h x hx]
theorem leftUpto_congr {mk mk' : Wr → Bool} (ws : List Wr) (h : ∀ x ∈ ws, mk x = mk' x) : ∀ j, j ≤ ws.length → leftUpto mk ws j = leftUpto mk' ws j
  | 0, _ => by simp [leftUpto]
  | j + 1, hj => by
    have hjl : j < ws.length := by omega
    rw [leftUpto_snoc mk ws j hjl, leftUpto_snoc mk' ws j hjl, leftUpto_congr ws h j (by omega), staysB_congr ws h j _ (List.getElem_mem hjl)]
theorem outOf_congr {mk mk' : Wr → Bool} : ∀ (ws : List Wr) (safe : List (List Int)), (∀ x ∈ ws, mk x = mk' x) → outOf mk ws safe = outOf mk' ws safe
  | [], _, _ => rfl
  | x :: ws, safe, h => by
    show outOf mk ws (outStep mk safe x) = outOf mk' ws (outStep mk' safe x)
    rw [show outStep mk safe x = outStep mk' safe x by unfold outStep; rw [h x (List.mem_cons_self ..)]]
    exact outOf_congr ws _ fun y hy => h y (List.mem_cons_of_mem _ hy)
theorem settleC (safe : List (List Int)) (ws : List Wr) (ts : List (Int × Int)) (h : ∀ x ∈ ws, 0 ≤ x.ep) : settle safe ws ts = (outOf (madeC ts (lastE ts ws)) ws safe, leftUpto (madeC ts (lastE ts ws)) ws ws.length) := by
  have hm : ∀ x ∈ ws, madeB ts (topOf ts ws) x = madeC ts (lastE ts ws) x := fun x hx => (madeC_is ts ws h x (h x hx)).symm
  unfold settle
  rw [outOf_congr ws safe hm, leftUpto_congr ws hm _ (Nat.le_refl _)]
end Go.Proofs.Yteobhljkjgocdaa.dsk
/- What the code's lastEpoch gives. -/
namespace Go.Proofs.Yteobhljkjgocdaa.dsk
open Go.ChangeShapes Go.WideShapes Go.ChangeAt Go.RowKit
open Go.Proofs.Yteobhljkjgocdaa.rows
open Go.Proofs.Yteobhljkjgocdaa.sec
open Go.Maps
set_option linter.unusedVariables false
set_option linter.unusedSimpArgs false

/-- a write into a variable of its own -/
theorem store_wr {ops : Array Oper} {rest : List Oper} {o : Oper} {a : Act} {w : World} {Q : Exit → Act → World → Prop} (hgd : o.guard = none) (x y : Operand) (ho : o.op = .store 74 x y) (hd : o.dst = none)
    (g : Nat) (z old : Wr) (hx : a.eval x = .pointer (some ⟨g, 0, none⟩)) (hy : a.eval y = .agg z.c.toArray) (hs : Sec z.s) (hold : Sec old.s) (hg : AtW w g old)
    (h : ∀ w', AtW w' g z → Below g w w' → wpList Try.prog ops Q rest a w') : wpList Try.prog ops Q (o :: rest) a w := by
  refine wpList_store_row hgd 74 x y ho g z.c.toArray hx hy 74 _ hg (by rw [info_wr]; simp [Wr.c_len hs]) (by simp [Wr.c_len hs, Wr.c_len hold]) (by simp only [List.all_toArray]; exact List.all_eq_true.2 (wr_ones z)) ?_
  rw [hd]
  exact h _ (setRow_heap w g _ _ _ _ hg) ((Below.refl g w).trans ⟨rfl, rfl, rfl, by simp [World.setRow], fun k hk => setRow_other w g k _ (by omega)⟩)
theorem atW_new (w : World) : AtW (w.alloc (.cells (w0.c).toArray 74)) w.heap.size w0 := heap_alloc_new _ _
theorem AtW.parts {w : World} {g : Nat} {x : Wr} (h : AtW w g x) (hs : Sec x.s) : w.cell? ⟨g, 0, none⟩ = some (.int .i64 x.pos) ∧ w.rangeAt g 1 (u8s x.s) ∧ w.cell? ⟨g, 33, none⟩ = some (.int .i64 x.kind) ∧ w.cell? ⟨g, 34, none⟩ = some (.int .i64 x.id) ∧ w.cell? ⟨g, 35, none⟩ = some (.int .i64 x.ep) := by
  have := wr_parts hs h.range
  simpa using this
theorem AtW.later {w w' : World} {g : Nat} {x : Wr} (h : AtW w g x) (hb : Below w.heap.size w w') : AtW w' g x := row_later h hb (Array.getElem?_eq_some_iff.1 h).1
theorem key_T : Keyed Try.prog 37 := key_tag
theorem wanted_look {w : World} {b : Nat} {ts : List (Int × Int)} (h : Wanted w b ts) {k i : Int} (hk : wf64 k) (hi : wf64 i) :
    (Instr.lookup 88 (.map (some b)) (.agg #[.int .i64 k, .int .i64 i]) true).run Try.prog w = .ok (.tuple #[.agg #[], .bool (decide ((k, i) ∈ ts))]) w := by
  obtain ⟨n, D, hn, ho, hh⟩ := h
  obtain ⟨u, ps, hr, hu⟩ := ho.look_ok key_tag und_wanted (zero_unit w) (unitElem_mk) (keyAt_tag hk hi)
  obtain ⟨rfl, _⟩ := unitElem_inv hu
  rw [hh k i hk hi] at hr
  exact hr
set_option maxRecDepth 100000 in
set_option maxHeartbeats 1600000 in
theorem clast (w : World) (p : Option Addr) (m c : Nat) (b : Nat) (ws : List Wr) (ts : List (Int × Int)) (h : Rd w 36 (.slice p m c) m (wrsC ws)) (hs : ∀ x ∈ ws, Sec x.s) (hwf : ∀ x ∈ ws, 0 ≤ x.ep ∧ wf64 x.kind ∧ wf64 x.id) (hm : m ≤ 1000) (hw : Wanted w b ts) :
    Calls Try.prog 47 #[.slice p m c, .map (some b)] w fun e w' => e = .returned (.int .i64 (lastE ts ws)) ∧ Below w.heap.size w w' := by
  have HR := Lib.hid h
  have HWC := Lib.hid fun x hx => Wr.c_len (hs x hx)
  have hml : ws.length = m := Rd.count Wr.c h (fun x hx => Wr.c_len (hs x hx)) (by decide)
  have HML := Lib.hid hml
  have HS := Lib.hid hs
  have HWF := Lib.hid hwf
  have HW := Lib.hid hw
  have hm1 : (m : Int) ≤ 1000 := by omega
  have hbl := hw.lt
  clear h hml hs hwf hw
  go_enter Try.func47, Try.ntmps47
  go_wp2
  go_loopw [5, 12] (fun tv iv wr => ∃ (j : Nat) (t : Int), j ≤ m ∧ iv = .int .i64 (j : Int) ∧ tv = .int .i64 t ∧ Hid (lastE ts (ws.take j) = t) ∧ Below w.heap.size w wr) (fun _ iv _ => m - (intOf iv).toNat)
  case atStart => exact ⟨0, 0, by omega, rfl, rfl, Lib.hid rfl, Below.refl _ _⟩
  case round =>
    obtain ⟨j, t, hj, rfl, rfl, HT, hbr⟩ := hrel
    by_cases ha : j < m
    · have ha1 : (j:Int) < m := by omega
      have hjl : j < ws.length := by rw [HML.out]; exact ha
      obtain ⟨b1, o1, rfl, hc1, hmm1, hh1, hl1, HR1⟩ := Rd.chunk Wr.c HR.out HWC.out (by decide) ha
      have HRG := Lib.hid (Rd.rangeLater (HR1 j hjl) hh1 hbr)
      have HSX := Lib.hid (HS.out _ (List.getElem_mem hjl))
      have hwx := HWF.out _ (List.getElem_mem hjl)
      have hts := lastE_snoc ts ws j hjl
      rw [HT.out] at hts
      have HTS := Lib.hid hts
      have ht0 := lastE_nonneg ts ws j
      rw [HT.out] at ht0
      generalize ws[j] = x at *
      have HWX := Lib.hid hwx
      have HLK : Hid (∀ w', Below w.heap.size w w' → (Instr.lookup 88 (.map (some b)) (.agg #[.int .i64 x.kind, .int .i64 x.id]) true).run Try.prog w' = .ok (.tuple #[.agg #[], .bool (hasT ts x)]) w') := Lib.hid fun w' hb => by
        have h1 := wanted_look (wanted_kept (S := fun _ => True) HW.out trivial (Keeps.of_below hb)) HWX.out.2.1 HWX.out.2.2
        rw [h1]; rfl
      clear HR1 hl1 hts hwx
      cases hq : hasT ts x
      all_goals (rw [hq] at HLK HTS; clear hq)
      all_goals go_wp2_with (first | (refine load_wr rfl (.tmp 14) rfl b1 (o1 + j * 36) rfl x HSX.out HRG.out ?_) | (refine store_wr rfl _ _ rfl rfl wr.heap.size x w0 rfl rfl HSX.out sec_zero (atW_new wr) ?_; intro w2 hx2 hb2; have hbw := (below_alloc (Below.refl _ wr) _).trans hb2; clear hb2; have HX2 := Lib.hid hx2; obtain ⟨_, _, c33, c34, c35⟩ := AtW.parts hx2 HSX.out; clear hx2; have hlk := HLK.out w2 (hbr.trans (hbw.mono hbr.size)); obtain ⟨_, _, _, _, c35a⟩ := AtW.parts (AtW.later HX2.out (below_alloc (Below.refl _ w2) (.cells #[] 77))) HSX.out))
      all_goals refine ⟨⟨j + 1, _, by omega, by go_num, rfl, Lib.hid ?_, hbr.trans ((hbw.mono hbr.size).trans ((below_alloc (Below.refl _ w2) _).mono (by have := hbr.size; have := hbw.size; omega)))⟩, by simp [intOf]; omega⟩
      · rw [HTS.out]; simp
      · rw [HTS.out, if_pos rfl, Int.max_def]; split <;> split <;> omega
    · obtain rfl : j = m := by omega
      have HTE : Hid (lastE ts ws = t) := Lib.hid (by have h := HT.out; rwa [List.take_of_length_le (by rw [HML.out]; omega)] at h)
      go_wp2_with fail
      go_ret
      exact ⟨ret_int HTE.out.symm, hbr⟩
end Go.Proofs.Yteobhljkjgocdaa.dsk
