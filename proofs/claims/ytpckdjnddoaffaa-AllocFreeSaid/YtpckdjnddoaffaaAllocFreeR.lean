/- What AllocFree wants, part 18. -/
import Derived.Test.YtpckdjnddoaffaaAllocFreeB
import Derived.Test.YtpckdjnddoaffaaAllocFreeE
import Derived.Test.YtpckdjnddoaffaaAllocFreeF
import Derived.Test.YtpckdjnddoaffaaAllocFreeG
import Derived.Test.YtpckdjnddoaffaaAllocFreeH
import Derived.Test.YtpckdjnddoaffaaAllocFreeM
import Derived.Test.YtpckdjnddoaffaaAllocFreeP
import Derived.Test.YtpckdjnddoaffaaAllocFreeQ
/- A disk as layer 9 sees it: the sectors that Read gives; an image with writes over it. -/
namespace Go.Proofs.Ytpckdjnddoaffaa.lk
set_option maxRecDepth 100000
open Go.ChangeShapes Go.WideShapes Go.ChangeAt Go.RowKit
open Go.Proofs.Ytpckdjnddoaffaa.rows
open Go.Proofs.Ytpckdjnddoaffaa.sec
open Go.Proofs.Ytpckdjnddoaffaa.dsk (Wr.ok Wr.c Wr.c_len wf64 St Wr CA seenOf readOf readR writeR asks grow cread uread seen_at seenOf_len seenOf_secs codeAt_kept Keeps.of_below seenOf_more)
open Go.Proofs.Ytpckdjnddoaffaa.ly
set_option linter.unusedVariables false
set_option linter.unusedSimpArgs false

/-- d is a disk whose sectors are ss; nobody's disk has none -/
def Dk (w : World) (d : Value) (ss : List (List Int)) : Prop := (d = .pointer none ∧ ss = []) ∨ ∃ F st, CA w F d st ∧ st.fine ∧ seenOf st = ss
theorem CA.later' {w w' : World} {F : Nat → Prop} {d : Value} {st : St} (h : CA w F d st) (hb : Below w.heap.size w w') : CA w' F d st := by
  obtain ⟨z, g, vs, vw, vn, vl, vf, hd, h⟩ := h
  exact ⟨z, g, vs, vw, vn, vl, vf, hd, codeAt_kept h (Keeps.of_below hb)⟩
theorem Dk.later {w w' : World} {d : Value} {ss : List (List Int)} (h : Dk w d ss) (hb : Below w.heap.size w w') : Dk w' d ss := by
  rcases h with h | ⟨F, st, h1, h2, h3⟩
  · exact Or.inl h
  · exact Or.inr ⟨F, st, CA.later' h1 hb, h2, h3⟩
theorem Dk.secs {w : World} {d : Value} {ss : List (List Int)} (h : Dk w d ss) : Secs ss ∧ ss.length ≤ 65 := by
  rcases h with ⟨_, rfl⟩ | ⟨F, st, h1, h2, rfl⟩
  · exact ⟨fun s hs => (by cases hs), Nat.zero_le _⟩
  · exact ⟨seenOf_secs h2, by rw [seenOf_len]; exact h2.n1⟩
/-- sector i, or 0 -/
def secAt (ss : List (List Int)) (i : Int) : List Int := if 0 ≤ i ∧ i < (ss.length : Int) then ss.getD i.toNat zero32 else zero32
theorem secAt_sec {ss : List (List Int)} (h : Secs ss) (i : Int) : Sec (secAt ss i) := by
  unfold secAt
  split
  · rename_i hi
    have hl : i.toNat < ss.length := by omega
    rw [show ss.getD i.toNat zero32 = ss[i.toNat] by simp [List.getD, hl]]
    exact h _ (List.getElem_mem hl)
  · exact sec_zero
theorem dread (w : World) (d : Value) (ss : List (List Int)) (i : Int) (h : Dk w d ss) (hi : wf64 i) :
    Calls Try.prog 47 #[d, .int .i64 i] w fun e w' => e = .returned (.tuple #[agg (secAt ss i), .int .i64 (if 0 ≤ i ∧ i < (ss.length : Int) then 0 else 1)]) ∧ Below w.heap.size w w' := by
  rcases h with ⟨rfl, rfl⟩ | ⟨F, st, h1, h2, rfl⟩
  · have e : ¬ (0 ≤ i ∧ i < (([] : List (List Int)).length : Int)) := by simp; try omega
    rw [secAt, if_neg e, if_neg e]
    exact uread (Or.inl rfl) i
  · have h3 := cread w F d st i h1 h2 hi
    rw [readR] at h3
    rw [secAt, seenOf_len]
    by_cases hin : 0 ≤ i ∧ i < (st.safe.length : Int)
    · rw [if_pos hin] at h3
      rw [if_pos hin, if_pos hin]
      have hk : i.toNat < st.safe.length := by omega
      have e := seen_at i.toNat st.wait st.safe (fun x hx => (h2.pos x hx).1) hk
      have e2 : (seenOf st).getD i.toNat zero32 = readOf st i.toNat := by
        have hl : i.toNat < (seenOf st).length := by rw [seenOf_len]; exact hk
        have h1 : some ((seenOf st)[i.toNat]) = some (readOf st i.toNat) := (List.getElem?_eq_getElem _).symm.trans e
        rw [List.getD, List.getElem?_eq_getElem hl]
        exact Option.some.inj h1
      rw [e2]
      exact h3
    · rw [if_neg hin] at h3
      rw [if_neg hin, if_neg hin]
      exact h3
/-- a write over an image -/
def wr1 (l : List (List Int)) (x : Wr) : List (List Int) := if 0 ≤ x.pos ∧ x.pos < (l.length : Int) then l.set x.pos.toNat x.s else l
def over (ss : List (List Int)) (ws : List Wr) (i : Nat) : List (List Int) := (ws.take i).foldl wr1 ss
theorem over_succ {ss : List (List Int)} {ws : List Wr} {i : Nat} (h : i < ws.length) : over ss ws (i + 1) = wr1 (over ss ws i) ws[i] := by
  rw [over, List.take_succ_eq_append_getElem h, List.foldl_append]; rfl
def withL (ss : List (List Int)) (ws : List Wr) : List (List Int) := if 1 ≤ ss.length ∧ ss.length ≤ 65 then over ss ws ws.length else []
/-- what holds at the head of the round over the writes -/
structure WAt (W : World) (ss : List (List Int)) (ws : List Wr) (i : Nat) (d : Value) (w : World) (F : Nat → Prop) (st : St) : Prop where
  code : CA w F d st
  good : st.good i
  bad : st.bad = []
  seen : seenOf st = over ss ws i
  inF : ∀ b, F b → W.heap.size ≤ b ∧ b < w.heap.size
  below : Below W.heap.size W w
theorem WAt.later {W w w' : World} {ss : List (List Int)} {ws : List Wr} {i : Nat} {d : Value} {F : Nat → Prop} {st : St} (h : WAt W ss ws i d w F st) (hb : Below w.heap.size w w') : WAt W ss ws i d w' F st :=
  ⟨CA.later' h.code hb, h.good, h.bad, h.seen, fun b hF => by have := h.inF b hF; have := hb.size; omega, below_trans h.below hb⟩
theorem WAt.done {W w w' : World} {ss : List (List Int)} {ws : List Wr} {i : Nat} {d : Value} {F : Nat → Prop} {st : St} (h : WAt W ss ws i d w F st) (hi : i < ws.length) (hok : ∀ x ∈ ws, x.ok)
    (hc : CA w' (grow F w w') d (writeR st ws[i].pos ws[i].s ws[i].kind ws[i].id).2) (ht : dsk.Touch F w w') : WAt W ss ws (i + 1) d w' (grow F w w') (writeR st ws[i].pos ws[i].s ws[i].kind ws[i].id).2 := by
  have hz := ht.size
  have hbz := h.below.size
  have hsl : (over ss ws i).length = st.safe.length := by rw [← h.seen, seenOf_len]
  have hx := hok _ (List.getElem_mem hi)
  have hF2 : ∀ b, grow F w w' b → W.heap.size ≤ b ∧ b < w'.heap.size := fun b hF => by
    rcases hF with hF | hF
    · have := h.inF b hF; omega
    · omega
  have hb2 := h.below.trans (ht.below hbz fun i hi => (h.inF i hi).1)
  have hna : asks st = false := by unfold asks; rw [h.bad]; simp
  have hg := h.good
  have hov := over_succ (ss := ss) hi
  generalize ws[i] = x at *
  unfold writeR at hc ⊢
  by_cases hin : 0 ≤ x.pos ∧ x.pos < (st.safe.length : Int)
  · rw [if_pos hin, if_neg (by rw [hna]; decide)] at hc ⊢
    refine ⟨hc, ⟨hg.ss, hg.n1, fun y hy => ?_, fun e he => ?_, ?_, ?_, hg.bn, ⟨hg.ep.1, ?_⟩, ⟨?_, ?_⟩⟩, h.bad, ?_, hF2, hb2⟩
    · rcases List.mem_append.1 hy with hy | hy
      · exact hg.ws y hy
      · rw [List.mem_singleton.1 hy]; exact ⟨hx.1, hin⟩
    · rcases List.mem_append.1 he with he | he
      · exact hg.es e he
      · rw [List.mem_singleton.1 he]; exact ⟨hx.1, Nat.zero_le _⟩
    · have := hg.wn; simp; omega
    · have := hg.ln; simp; omega
    · have := hg.ep.2; show st.ep ≤ ((i + 1 : Nat) : Int); omega
    · have := hg.asked.1; show 0 ≤ st.asked + 1; omega
    · have := hg.asked.2; show st.asked + 1 ≤ ((i + 1 : Nat) : Int); omega
    · have e : seenOf { st with asked := st.asked + 1, wait := st.wait ++ [⟨x.pos, x.s, x.kind, x.id, st.ep⟩], log := st.log ++ [(1, ⟨x.pos, x.s, x.kind, x.id, st.ep⟩, [])] } = (seenOf st).set x.pos.toNat x.s := seenOf_more st ⟨x.pos, x.s, x.kind, x.id, st.ep⟩
      exact e.trans (by rw [h.seen, hov, wr1, hsl, if_pos hin])
  · rw [if_neg hin] at hc ⊢
    refine ⟨hc, ⟨hg.ss, hg.n1, hg.ws, hg.es, ?_, ?_, hg.bn, ⟨hg.ep.1, ?_⟩, ⟨?_, ?_⟩⟩, h.bad, ?_, hF2, hb2⟩
    · have := hg.wn; show st.wait.length ≤ i + 1; omega
    · have := hg.ln; show st.log.length ≤ i + 1; omega
    · have := hg.ep.2; show st.ep ≤ ((i + 1 : Nat) : Int); omega
    · have := hg.asked.1; show 0 ≤ st.asked + 1; omega
    · have := hg.asked.2; show st.asked + 1 ≤ ((i + 1 : Nat) : Int); omega
    · exact h.seen.trans (by rw [hov, wr1, hsl, if_neg hin])
theorem WAt.dk {W w : World} {ss : List (List Int)} {ws : List Wr} {i : Nat} {d : Value} {F : Nat → Prop} {st : St} (h : WAt W ss ws i d w F st) (hi : i ≤ 900) : Dk w d (over ss ws i) := Or.inr ⟨F, st, h.code, h.good.fine hi, h.seen⟩
theorem WAt.start {W w : World} {ss : List (List Int)} {ws : List Wr} {d : Value} (hs : Secs ss) (hl : ss.length ≤ 65) (hb : Below W.heap.size W w) (hc : CA w (fun b => W.heap.size ≤ b ∧ b < w.heap.size) d (dsk.st0 ss)) : WAt W ss ws 0 d w (fun b => W.heap.size ≤ b ∧ b < w.heap.size) (dsk.st0 ss) :=
  ⟨hc, ⟨hs, hl, fun x hx => (by cases hx), fun x hx => (by cases hx), Nat.le_refl _, Nat.le_refl _, Nat.zero_le _, ⟨Int.le_refl _, Int.le_refl _⟩, ⟨Int.le_refl _, Int.le_refl _⟩⟩, rfl, rfl, fun b hb => hb, hb⟩
theorem wrs_of_trod {H : Type} {enc : TypeId × Value → H} {W : World} {p : Option Addr} {len cap : Nat} {d : DataW H} {ps : List MemPlace}
    (h : DataW.Trod enc Try.prog W 0 (fun _ => true) true 23 (.slice p len cap) d ps) : ∃ ws : List Wr, (∀ x ∈ ws, x.ok) ∧ Rd W 36 (.slice p len cap) len (dsk.wrsC ws) ∧ len ≤ maxLen := by
  obtain ⟨fuel, hf⟩ := h
  obtain ⟨p', len', cap', l, hcs, hg, hll, hr, hm⟩ := open_slice Wr.c (by decide) dsk.und_wrs dsk.cellsWr Wr.ok (fun x hx => Wr.c_len hx.1) (fun _ _ _ h => dsk.wr_of_cells h) hf
  simp [Value.cells] at hcs
  obtain ⟨rfl, rfl, rfl⟩ := hcs
  exact ⟨l, hg, hr, hm⟩
end Go.Proofs.Ytpckdjnddoaffaa.lk
/- What the law's Disk gives: of an image, with writes that wait. -/
namespace Go.Proofs.Ytpckdjnddoaffaa.lk
set_option maxRecDepth 100000
open Go.ChangeShapes Go.WideShapes Go.ChangeAt Go.RowKit
open Go.Proofs.Ytpckdjnddoaffaa.rows
open Go.Proofs.Ytpckdjnddoaffaa.sec
open Go.Proofs.Ytpckdjnddoaffaa.dsk (Wr.ok Wr.c Wr.c_len wf64 St Wr CA seenOf readOf readR writeR asks grow wr_parts ld_cell ld_tag wrsC)
open Go.Proofs.Ytpckdjnddoaffaa.ly
set_option linter.unusedVariables false
set_option linter.unusedSimpArgs false

/-- what holds at the head of the round over the writes, of a disk or of none -/
def WD (W : World) (ss : List (List Int)) (ws : List Wr) (i : Nat) (d : Value) (w : World) (F : Nat → Prop) : Prop :=
  (d = .pointer none ∧ ¬ (1 ≤ ss.length ∧ ss.length ≤ 65) ∧ (∀ b, ¬ F b) ∧ Below W.heap.size W w) ∨ ((1 ≤ ss.length ∧ ss.length ≤ 65) ∧ ∃ st, WAt W ss ws i d w F st)
theorem WD.later {W w w' : World} {ss : List (List Int)} {ws : List Wr} {i : Nat} {d : Value} {F : Nat → Prop} (h : WD W ss ws i d w F) (hb : Below w.heap.size w w') : WD W ss ws i d w' F := by
  rcases h with ⟨h1, h2, h3, h4⟩ | ⟨h1, st, h2⟩
  · exact Or.inl ⟨h1, h2, h3, below_trans h4 hb⟩
  · exact Or.inr ⟨h1, st, h2.later hb⟩
theorem WD.below {W w : World} {ss : List (List Int)} {ws : List Wr} {i : Nat} {d : Value} {F : Nat → Prop} (h : WD W ss ws i d w F) : Below W.heap.size W w := by
  rcases h with ⟨_, _, _, h⟩ | ⟨_, st, h⟩
  · exact h
  · exact h.below
theorem WD.inF {W w : World} {ss : List (List Int)} {ws : List Wr} {i : Nat} {d : Value} {F : Nat → Prop} (h : WD W ss ws i d w F) (b : Nat) (hF : F b) : W.heap.size ≤ b := by
  rcases h with ⟨_, _, h, _⟩ | ⟨_, st, h⟩
  · exact absurd hF (h b)
  · exact (h.inF b hF).1
theorem WD.dk {W w : World} {ss : List (List Int)} {ws : List Wr} {d : Value} {F : Nat → Prop} (h : WD W ss ws ws.length d w F) (hl : ws.length ≤ 900) : Dk w d (withL ss ws) := by
  rcases h with ⟨rfl, h2, _, _⟩ | ⟨h1, st, h⟩
  · rw [withL, if_neg h2]; exact Or.inl ⟨rfl, rfl⟩
  · rw [withL, if_pos h1]; exact h.dk hl
theorem dwrite {W w : World} {ss : List (List Int)} {ws : List Wr} {i : Nat} {d : Value} {F : Nat → Prop} (h : WD W ss ws i d w F) (hi : i < ws.length) (hl : i ≤ 900) (hok : ∀ x ∈ ws, x.ok) :
    Calls Try.prog 22 #[d, .int .i64 ws[i].pos, agg ws[i].s, .agg #[.int .i64 ws[i].kind, .int .i64 ws[i].id]] w fun e w' => ∃ r F', e = .returned (.int .i64 r) ∧ WD W ss ws (i + 1) d w' F' ∧ dsk.Touch F w w' := by
  obtain ⟨o1, o2, o3, o4, o5⟩ := hok _ (List.getElem_mem hi)
  rcases h with ⟨rfl, h2, h3, h4⟩ | ⟨h1, st, h⟩
  · refine (dsk.uwrite (Or.inl rfl) _ _ _ _).mono ?_
    rintro e w' ⟨rfl, hb⟩
    exact ⟨_, F, rfl, Or.inl ⟨rfl, h2, h3, below_trans h4 hb⟩, dsk.Touch.of_below hb⟩
  · refine (dsk.cwrite w F d st ws[i].pos ws[i].s ws[i].kind ws[i].id h.code (h.good.fine hl) o2 o1 o3 o4).mono ?_
    rintro e w' ⟨rfl, hc, ht⟩
    exact ⟨_, _, rfl, Or.inr ⟨h1, _, h.done hi hok hc ht⟩, ht⟩
theorem dfrom (w : World) (p : Option Addr) (n c : Nat) (ss : List (List Int)) (ws : List Wr) (hs : Secs ss) (h : Rd w 32 (.slice p n c) n (cellsOf ss)) (hn : n ≤ 200) :
    Calls Try.prog 21 #[.slice p n c] w fun e w' => ∃ d r F, e = .returned (.tuple #[d, .int .i64 r]) ∧ WD w ss ws 0 d w' F := by
  have hl : ss.length = n := by have h := h.cells; rw [cellsOf_len hs] at h; omega
  by_cases h1 : 1 ≤ n ∧ n ≤ 65
  · refine (dsk.cfrom_yes w p n c ss hs h h1.1 h1.2).mono ?_
    rintro e w' ⟨ad, rfl, hc, hb⟩
    exact ⟨_, _, _, rfl, Or.inr ⟨by rw [hl]; exact h1, _, WAt.start hs (by omega) hb hc⟩⟩
  · refine (dsk.cfrom_no w p n c hn (by omega)).mono ?_
    rintro e w' ⟨rfl, hb⟩
    exact ⟨_, _, fun _ => False, rfl, Or.inl ⟨rfl, by rw [hl]; exact h1, fun _ h => h, hb⟩⟩
theorem wr_tagR {w : World} {b o : Nat} {x : Wr} (hs : Sec x.s) (h : w.rangeAt b o x.c) : w.rangeAt b (o + 33) [.int .i64 x.kind, .int .i64 x.id] := fun j u hj => by
  obtain ⟨_, _, c1, c2, _⟩ := wr_parts hs h
  match j, hj with
  | 0, hj => simp at hj; subst hj; simpa using c1
  | 1, hj => simp at hj; subst hj; simpa using c2
set_option maxRecDepth 100000 in
set_option maxHeartbeats 1600000 in
theorem disk_any (p : Option Addr) (n c : Nat) (ss : List (List Int)) (p2 : Option Addr) (m c2 : Nat) (ws : List Wr) (w : World) (h1 : Rd w 32 (.slice p n c) n (cellsOf ss)) (hs : Secs ss) (hn : n ≤ 200)
    (h2 : Rd w 36 (.slice p2 m c2) m (wrsC ws)) (hok : ∀ x ∈ ws, x.ok) (hm : m ≤ 40) :
    Calls Try.prog 6 #[.slice p n c, .slice p2 m c2] w fun e w' => ∃ d, e = .returned d ∧ Dk w' d (withL ss ws) ∧ Below w.heap.size w w' := by
  have H1 := Lib.hid (dfrom w p n c ss ws hs h1 hn)
  have H2 := Lib.hid h2
  have HOK := Lib.hid hok
  have HLL := Lib.hid (dsk.Rd.count Wr.c h2 (fun x hx => Wr.c_len (hok x hx).1) (by decide))
  have hmi : (m : Int) ≤ 40 := by omega
  clear h1 hs h2 hok
  go_enter Try.func6, Try.ntmps6
  go_wp2_with (go_at_call 21; refine H1.out.mono ?_; rintro e w1 ⟨d, r, F0, rfl, hwd⟩; have HWD0 := Lib.hid hwd; clear hwd)
  go_loopw [7] (fun iv wr => ∃ (i : Nat) (F : Nat → Prop), i ≤ m ∧ iv = .int .i64 (i : Int) ∧ Hid (WD w ss ws i d wr F)) (fun iv _ => m - (intOf iv).toNat)
  case atStart => exact ⟨0, _, by omega, rfl, HWD0⟩
  case round =>
    clear HWD0
    obtain ⟨i, F, hi, rfl, HKA⟩ := hrel
    by_cases him : i < m
    · have him1 : (i:Int) < m := by omega
      have hil : i < ws.length := by rw [HLL.out]; exact him
      obtain ⟨b2, o2, rfl, hcc2, hcm2, hb2, _, HR2⟩ := dsk.Rd.chunk Wr.c H2.out (fun x hx => Wr.c_len (HOK.out x hx).1) (by decide) him
      have hmem := List.getElem_mem hil
      have HAO := Lib.hid (HOK.out _ hmem).1
      have HWR := Lib.hid (Rd.rangeLater (HR2 i hil) hb2 HKA.out.below)
      have HDW := Lib.hid fun w' (hw : WD w ss ws i d w' F) => dwrite hw hil (by omega) HOK.out
      generalize ws[i] = x at *
      clear HR2 hmem
      have hw4 := HKA.out.below.size
      have hbw : b2 < wr.heap.size := by omega
      go_wp2_with fail
      have HKD := Lib.hid (HKA.out.later ((Below.refl wr.heap.size wr).drew))
      have hnF : ¬ F b2 := fun hF => by have := HKA.out.inF _ hF; omega
      have hbd : b2 < wr.drew.heap.size := hbw
      have HWD : Hid (wr.drew.rangeAt b2 (o2 + i * 36) x.c) := Lib.hid (Rd.rangeLater HWR.out hbw ((Below.refl wr.heap.size wr).drew))
      refine wp_region_held_drew (S := dsk.Touch F wr.drew) (by kernel_rfl) (dsk.Touch.refl _ _) (fun hH0 => ?_)
      refine wpAnyH_take (i := 0) (oi := { dst := some 19, op := Op.move (Operand.tmp 5), type := 25, pos := "law.go:21", after := #[], guard := none }) (v := ?_) rfl (by kernel_rfl) (by kernel_rfl) (by kernel_rfl) (fun _ _ _ h => h) (Or.inl ⟨by rfl, ?_⟩) (by assumption) ?_
      rotate_left
      · (intro w' hSw; go_simp; try with_reducible rfl)
      try simp only [Act.put, List.setIfInBounds_toArray, List.set_cons_zero, List.set_cons_succ]
      refine wpAnyH_take (i := 1) (oi := { dst := some 20, op := Op.move (Operand.tmp 1), type := 23, pos := "law.go:21", after := #[], guard := none }) (v := ?_) rfl (by kernel_rfl) (by kernel_rfl) (by kernel_rfl) (fun _ _ _ h => h) (Or.inl ⟨by rfl, ?_⟩) (by assumption) ?_
      rotate_left
      · (intro w' hSw; go_simp; try with_reducible rfl)
      try simp only [Act.put, List.setIfInBounds_toArray, List.set_cons_zero, List.set_cons_succ]
      refine wpAnyH_take (i := 2) (oi := { dst := some 21, op := Op.move (Operand.tmp 7), type := 3, pos := "law.go:21", after := #[], guard := none }) (v := ?_) rfl (by kernel_rfl) (by kernel_rfl) (by kernel_rfl) (fun _ _ _ h => h) (Or.inl ⟨by rfl, ?_⟩) (by assumption) ?_
      rotate_left
      · (intro w' hSw; go_simp; try with_reducible rfl)
      try simp only [Act.put, List.setIfInBounds_toArray, List.set_cons_zero, List.set_cons_succ]
      refine wpAnyH_take (i := 3) (oi := { dst := some 22, op := Op.indexAddr 23 (Operand.tmp 20) (Operand.tmp 21), type := 0, pos := "law.go:21", after := #[{ on := 1, ground := Ground.data }, { on := 2, ground := Ground.data }], guard := none }) (v := ?_) rfl (by kernel_rfl) (by kernel_rfl) (by kernel_rfl) (fun _ _ _ h => h) (Or.inl ⟨by rfl, ?_⟩) (by assumption) ?_
      rotate_left
      · (intro w' hSw; go_simp; try with_reducible rfl)
      try simp only [Act.put, List.setIfInBounds_toArray, List.set_cons_zero, List.set_cons_succ]
      refine wpAnyH_take (i := 4) (oi := { dst := some 23, op := Op.fieldAddr 55 (Operand.tmp 22) 0, type := 0, pos := "law.go:21", after := #[{ on := 3, ground := Ground.data }], guard := none }) (v := ?_) rfl (by kernel_rfl) (by kernel_rfl) (by kernel_rfl) (fun _ _ _ h => h) (Or.inl ⟨by rfl, ?_⟩) (by assumption) ?_
      rotate_left
      · (intro w' hSw; go_simp; try with_reducible rfl)
      try simp only [Act.put, List.setIfInBounds_toArray, List.set_cons_zero, List.set_cons_succ]
      refine' wpAnyH_take (i := 5) (oi := { dst := some 24, op := Op.load 3 (Operand.tmp 23), type := 3, pos := "law.go:21", after := #[{ on := 4, ground := Ground.data }], guard := none }) (v := _) rfl (by kernel_rfl) (by kernel_rfl) (by kernel_rfl) (fun _ _ _ h => h) (ld_cell (by rfl) 3 _ Try.underlying3 rfl _ rfl b2 (o2 + i * 36) rfl (.int .i64 x.pos) (fun w' hw => (wr_parts HAO.out (dsk.Touch.range hw hbd hnF HWD.out)).1)) (by assumption) ?_
      try simp only [Act.put, List.setIfInBounds_toArray, List.set_cons_zero, List.set_cons_succ]
      refine wpAnyH_take (i := 6) (oi := { dst := some 25, op := Op.move (Operand.tmp 1), type := 23, pos := "law.go:21", after := #[], guard := none }) (v := ?_) rfl (by kernel_rfl) (by kernel_rfl) (by kernel_rfl) (fun _ _ _ h => h) (Or.inl ⟨by rfl, ?_⟩) (by assumption) ?_
      rotate_left
      · (intro w' hSw; go_simp; try with_reducible rfl)
      try simp only [Act.put, List.setIfInBounds_toArray, List.set_cons_zero, List.set_cons_succ]
      refine wpAnyH_take (i := 7) (oi := { dst := some 26, op := Op.move (Operand.tmp 7), type := 3, pos := "law.go:21", after := #[], guard := none }) (v := ?_) rfl (by kernel_rfl) (by kernel_rfl) (by kernel_rfl) (fun _ _ _ h => h) (Or.inl ⟨by rfl, ?_⟩) (by assumption) ?_
      rotate_left
      · (intro w' hSw; go_simp; try with_reducible rfl)
      try simp only [Act.put, List.setIfInBounds_toArray, List.set_cons_zero, List.set_cons_succ]
      refine wpAnyH_take (i := 8) (oi := { dst := some 27, op := Op.indexAddr 23 (Operand.tmp 25) (Operand.tmp 26), type := 0, pos := "law.go:21", after := #[{ on := 6, ground := Ground.data }, { on := 7, ground := Ground.data }], guard := none }) (v := ?_) rfl (by kernel_rfl) (by kernel_rfl) (by kernel_rfl) (fun _ _ _ h => h) (Or.inl ⟨by rfl, ?_⟩) (by assumption) ?_
      rotate_left
      · (intro w' hSw; go_simp; try with_reducible rfl)
      try simp only [Act.put, List.setIfInBounds_toArray, List.set_cons_zero, List.set_cons_succ]
      refine wpAnyH_take (i := 9) (oi := { dst := some 28, op := Op.fieldAddr 55 (Operand.tmp 27) 1, type := 0, pos := "law.go:21", after := #[{ on := 8, ground := Ground.data }], guard := none }) (v := ?_) rfl (by kernel_rfl) (by kernel_rfl) (by kernel_rfl) (fun _ _ _ h => h) (Or.inl ⟨by rfl, ?_⟩) (by assumption) ?_
      rotate_left
      · (intro w' hSw; go_simp; try with_reducible rfl)
      try simp only [Act.put, List.setIfInBounds_toArray, List.set_cons_zero, List.set_cons_succ]
      refine' wpAnyH_take (i := 10) (oi := { dst := some 29, op := Op.load 51 (Operand.tmp 28), type := 51, pos := "law.go:21", after := #[{ on := 9, ground := Ground.data }], guard := none }) (v := _) rfl (by kernel_rfl) (by kernel_rfl) (by kernel_rfl) (fun _ _ _ h => h) (ld_sec (by rfl) _ rfl b2 (o2 + i * 36 + 1) rfl x.s HAO.out.1 (fun w' hw => (wr_parts HAO.out (dsk.Touch.range hw hbd hnF HWD.out)).2.1)) (by assumption) ?_
      try simp only [Act.put, List.setIfInBounds_toArray, List.set_cons_zero, List.set_cons_succ]
      refine wpAnyH_take (i := 11) (oi := { dst := some 30, op := Op.move (Operand.tmp 1), type := 23, pos := "law.go:21", after := #[], guard := none }) (v := ?_) rfl (by kernel_rfl) (by kernel_rfl) (by kernel_rfl) (fun _ _ _ h => h) (Or.inl ⟨by rfl, ?_⟩) (by assumption) ?_
      rotate_left
      · (intro w' hSw; go_simp; try with_reducible rfl)
      try simp only [Act.put, List.setIfInBounds_toArray, List.set_cons_zero, List.set_cons_succ]
      refine wpAnyH_take (i := 12) (oi := { dst := some 31, op := Op.move (Operand.tmp 7), type := 3, pos := "law.go:21", after := #[], guard := none }) (v := ?_) rfl (by kernel_rfl) (by kernel_rfl) (by kernel_rfl) (fun _ _ _ h => h) (Or.inl ⟨by rfl, ?_⟩) (by assumption) ?_
      rotate_left
      · (intro w' hSw; go_simp; try with_reducible rfl)
      try simp only [Act.put, List.setIfInBounds_toArray, List.set_cons_zero, List.set_cons_succ]
      refine wpAnyH_take (i := 13) (oi := { dst := some 32, op := Op.indexAddr 23 (Operand.tmp 30) (Operand.tmp 31), type := 0, pos := "law.go:21", after := #[{ on := 11, ground := Ground.data }, { on := 12, ground := Ground.data }], guard := none }) (v := ?_) rfl (by kernel_rfl) (by kernel_rfl) (by kernel_rfl) (fun _ _ _ h => h) (Or.inl ⟨by rfl, ?_⟩) (by assumption) ?_
      rotate_left
      · (intro w' hSw; go_simp; try with_reducible rfl)
      try simp only [Act.put, List.setIfInBounds_toArray, List.set_cons_zero, List.set_cons_succ]
      refine wpAnyH_take (i := 14) (oi := { dst := some 33, op := Op.fieldAddr 55 (Operand.tmp 32) 2, type := 0, pos := "law.go:21", after := #[{ on := 13, ground := Ground.data }], guard := none }) (v := ?_) rfl (by kernel_rfl) (by kernel_rfl) (by kernel_rfl) (fun _ _ _ h => h) (Or.inl ⟨by rfl, ?_⟩) (by assumption) ?_
      rotate_left
      · (intro w' hSw; go_simp; try with_reducible rfl)
      try simp only [Act.put, List.setIfInBounds_toArray, List.set_cons_zero, List.set_cons_succ]
      refine' wpAnyH_take (i := 15) (oi := { dst := some 34, op := Op.load 53 (Operand.tmp 33), type := 53, pos := "law.go:21", after := #[{ on := 14, ground := Ground.data }], guard := none }) (v := _) rfl (by kernel_rfl) (by kernel_rfl) (by kernel_rfl) (fun _ _ _ h => h) (ld_tag (by rfl) _ rfl b2 (o2 + i * 36 + 33) rfl x.kind x.id (fun w' hw => wr_tagR HAO.out (dsk.Touch.range hw hbd hnF HWD.out))) (by assumption) ?_
      try simp only [Act.put, List.setIfInBounds_toArray, List.set_cons_zero, List.set_cons_succ]
      -- 16
      refine wpAnyH_ready (rs := [16]) (by kernel_rfl) (by simp) ?_
      refine AllReadyH.cons (o := { dst := some 35, op := Op.call { callee := Callee.value (Operand.func 22), args := #[Operand.tmp 19, Operand.tmp 24, Operand.tmp 29, Operand.tmp 34], argTypes := #[25, 3, 51, 53] }, type := 46, pos := "law.go:21", after := #[{ on := 0, ground := Ground.data }, { on := 5, ground := Ground.data }, { on := 10, ground := Ground.data }, { on := 15, ground := Ground.data }], guard := none }) rfl (fun K hK => ?_) AllReadyH.nil
      go_simp
      refine (HDW.out _ HKD.out).mono ?_
      rintro e v16 ⟨r16, F16, rfl, hc16, ht16⟩
      have HC16 := Lib.hid hc16
      have HT16 := Lib.hid ht16
      clear hc16 ht16
      dsimp only
      refine hK.out _ _ ?_ (fun hHeld => ?_)
      · exact HT16.out
      clear hK K
      try simp only [Act.put, List.setIfInBounds_toArray, List.set_cons_zero, List.set_cons_succ]
      refine wpAnyH_done (by kernel_rfl) ?_ _
      clear hHeld hH0
      go_wp2_with fail
      exact ⟨⟨i + 1, _, by omega, by go_num, HC16⟩, by simp [intOf]; omega⟩
    · obtain rfl : i = m := by omega
      have hfin := HKA.out
      rw [← HLL.out] at hfin
      have HF1 := Lib.hid (hfin.dk (by rw [HLL.out]; omega))
      have HF2 := Lib.hid hfin.below
      clear hfin HKA
      go_wp2_with fail
      go_ret
      exact ⟨d, rfl, HF1.out, HF2.out⟩
end Go.Proofs.Ytpckdjnddoaffaa.lk
/- What the reference's Inode and Entry of layer 9 give. -/
namespace Go.Proofs.Ytpckdjnddoaffaa.lk
set_option maxRecDepth 100000
open Go.ChangeShapes Go.WideShapes Go.ChangeAt Go.RowKit
open Go.Proofs.Ytpckdjnddoaffaa.rows
open Go.Proofs.Ytpckdjnddoaffaa.sec
open Go.Proofs.Ytpckdjnddoaffaa.dsk (wf64)
open Go.Proofs.Ytpckdjnddoaffaa.ly
set_option linter.unusedVariables false
set_option linter.unusedSimpArgs false

theorem atI_lit (w : World) : AtI (w.alloc (.cells #[.int .i64 0, .int .i64 0, .int .i64 0, .int .i64 0, .int .i64 0, .int .i64 0] 80)) w.heap.size ino0 := atI_new w ino0
theorem atE_lit (w : World) : AtE (w.alloc (.cells #[.bool false, .int .i64 0, .string { data := #[] }, .int .i64 0] 42)) w.heap.size ent0 := atE_new w ent0
theorem ret_ino1 {fn : Func} {p : Tmp} {R : Ending → World → Prop} {a : Act} {w : World} (h : fn.results = #[.cell p 80]) (g : Nat) (x : Ino) (hp : a.tmps.getD p undef = .pointer (some ⟨g, 0, none⟩)) (hx : x.b.length = 4) (hg : AtI w g x)
    (hd : a.defers = []) (hR : R (.returned (aggI x)) w) : bodyPost Try.prog fn R .ret a w :=
  bodyPost_ret (results_cell_row h a.tmps w g _ _ _ _ hp hg und_ino rfl (by rw [info_ino]; simp [ino_len hx])) hd hR
theorem ret_ent1 {fn : Func} {p : Tmp} {R : Ending → World → Prop} {a : Act} {w : World} (h : fn.results = #[.cell p 42]) (g : Nat) (x : Ent) (hp : a.tmps.getD p undef = .pointer (some ⟨g, 0, none⟩)) (hg : AtE w g x)
    (hd : a.defers = []) (hR : R (.returned (aggE x)) w) : bodyPost Try.prog fn R .ret a w :=
  bodyPost_ret (results_cell_row h a.tmps w g _ _ _ _ hp hg und_ent rfl (by rw [info_ent]; rfl)) hd hR
/-- inode i of an image, entry k of it -/
def inoAt (ss : List (List Int)) (i : Int) : Ino := if 0 ≤ i ∧ i < 16 then inoOfV (secAt ss (1 + i)) else ino0
def entAt (ss : List (List Int)) (k : Int) : Ent := if 0 ≤ k ∧ k < 24 then entOfV (secAt ss (17 + k)) else ent0
theorem inoAt_four {ss : List (List Int)} (hs : Secs ss) (i : Int) : (inoAt ss i).b.length = 4 := by
  unfold inoAt
  split
  · exact inoOfV_four (secAt_sec hs _)
  · rfl
end Go.Proofs.Ytpckdjnddoaffaa.lk
/- What the reference's Taken of layer 9 gives. -/
namespace Go.Proofs.Ytpckdjnddoaffaa.lk
set_option maxRecDepth 100000
open Go.ChangeShapes Go.WideShapes Go.ChangeAt Go.RowKit
open Go.Proofs.Ytpckdjnddoaffaa.rows
open Go.Proofs.Ytpckdjnddoaffaa.sec
open Go.Proofs.Ytpckdjnddoaffaa.dsk (wf64)
open Go.Proofs.Ytpckdjnddoaffaa.ly
set_option linter.unusedVariables false
set_option linter.unusedSimpArgs false

/-- does one of the first k entries name inode i? -/
def namedIn (ss : List (List Int)) (i : Int) (k : Nat) : Bool := (List.range k).any fun j => (entAt ss (j : Int)).used && decide ((entAt ss (j : Int)).target = i)
theorem namedIn_succ (ss : List (List Int)) (i : Int) (k : Nat) : namedIn ss i (k + 1) = (namedIn ss i k || ((entAt ss (k : Int)).used && decide ((entAt ss (k : Int)).target = i))) := by
  rw [namedIn, List.range_succ, List.any_append]; simp [namedIn]
def takenB (ss : List (List Int)) (i : Int) : Bool := namedIn ss i 24 || decide (i = 0)
end Go.Proofs.Ytpckdjnddoaffaa.lk
/- The lowest number of which a test tells yes. -/
namespace Go.Proofs.Ytpckdjnddoaffaa.lk
set_option maxRecDepth 100000
open Go.ChangeShapes Go.WideShapes Go.ChangeAt Go.RowKit
set_option linter.unusedVariables false
set_option linter.unusedSimpArgs false

/-- the lowest number below k of which p tells yes -/
def upto (p : Nat → Bool) (k : Nat) : Option Nat := (List.range k).find? p
theorem upto_succ (p : Nat → Bool) (k : Nat) : upto p (k + 1) = (upto p k).or (if p k then some k else none) := by
  rw [upto, List.range_succ, List.find?_append]
  cases h : p k <;> simp [upto, h]
theorem upto_hit {p : Nat → Bool} {k : Nat} (h : upto p k = none) (hk : p k = true) : ∀ m, k < m → upto p m = some k
  | 0, hm => by omega
  | m + 1, hm => by
    rw [upto_succ]
    by_cases e : k = m
    · subst e; rw [h, hk]; rfl
    · rw [upto_hit h hk m (by omega)]; rfl
theorem upto_none {p : Nat → Bool} {k : Nat} : upto p k = none ↔ ∀ i, i < k → p i = false := by
  simp [upto, List.find?_eq_none]
theorem upto_some {p : Nat → Bool} {k i : Nat} (h : upto p k = some i) : i < k ∧ p i = true ∧ ∀ j, j < i → p j = false := by
  induction k with
  | zero => cases h
  | succ k ih =>
    rw [upto_succ] at h
    cases hu : upto p k with
    | some j =>
      rw [hu] at h
      obtain rfl : j = i := Option.some.inj h
      obtain ⟨h1, h2, h3⟩ := ih hu
      exact ⟨by omega, h2, h3⟩
    | none =>
      rw [hu] at h
      cases hk : p k with
      | false => rw [hk] at h; cases h
      | true =>
        rw [hk] at h
        obtain rfl : k = i := Option.some.inj h
        exact ⟨by omega, hk, upto_none.1 hu⟩
def optV (o : Option Nat) : Value := .tuple #[.int .i64 ((o.getD 0 : Nat) : Int), .bool o.isSome]
/-- how many of the first k numbers p tells yes of -/
def cntU (p : Nat → Bool) : Nat → Nat
  | 0 => 0
  | k + 1 => if p k then cntU p k + 1 else cntU p k
theorem cntU_le (p : Nat → Bool) : ∀ k, cntU p k ≤ k
  | 0 => Nat.le_refl _
  | k + 1 => by
    have := cntU_le p k
    rw [cntU]
    split <;> omega
theorem cntU_all {p : Nat → Bool} : ∀ {k : Nat}, cntU p k = k ↔ ∀ i, i < k → p i = true
  | 0 => ⟨fun _ i hi => by omega, fun _ => rfl⟩
  | k + 1 => by
    have hle := cntU_le p k
    rw [cntU]
    cases hp : p k with
    | true =>
      rw [if_pos rfl]
      constructor
      · intro h i hi
        by_cases e : i = k
        · subst e; exact hp
        · exact (cntU_all (k := k)).1 (by omega) i (by omega)
      · intro h
        rw [(cntU_all (k := k)).2 fun i hi => h i (by omega)]
    | false =>
      rw [if_neg (by decide)]
      constructor
      · intro h; omega
      · intro h
        have := h k (by omega)
        rw [hp] at this; cases this
end Go.Proofs.Ytpckdjnddoaffaa.lk
/- Layer 10: what is free on a disk. -/
namespace Go.Proofs.Ytpckdjnddoaffaa.al
set_option maxRecDepth 100000
open Go.ChangeShapes Go.WideShapes Go.ChangeAt Go.RowKit
open Go.Proofs.Ytpckdjnddoaffaa.rows
open Go.Proofs.Ytpckdjnddoaffaa.sec
open Go.Proofs.Ytpckdjnddoaffaa.dsk (wf64)
open Go.Proofs.Ytpckdjnddoaffaa.ly
open Go.Proofs.Ytpckdjnddoaffaa.lk
set_option linter.unusedVariables false
set_option linter.unusedSimpArgs false

/-- the lowest free inode, the lowest free entry -/
def frI (ss : List (List Int)) : Option Nat := upto (fun n => !takenB ss (n : Int)) 16
def frE (ss : List (List Int)) : Option Nat := upto (fun k => !(entAt ss (k : Int)).used) 24
theorem ino_fine {ss : List (List Int)} (hs : Secs ss) (i : Int) : InoFine (inoAt ss i) := by
  have f0 : InoFine ino0 := ⟨Int.le_refl _, by decide, Int.le_refl _, by decide, fun z hz => by simp [ino0] at hz; omega⟩
  unfold inoAt
  split
  · rw [inoOfV]
    split
    · rename_i _ h
      rw [inoOfB, Bool.and_eq_true] at h
      exact right_fine (inoOf_four (secAt_sec hs _)) h.1
    · exact f0
  · exact f0
/-- the marks of blocks -/
def setAll (l : List Bool) (bs : List Int) : List Bool := bs.foldl (fun l b => l.set b.toNat true) l
theorem setAll_len (bs : List Int) : ∀ (l : List Bool), (setAll l bs).length = l.length := by
  induction bs with
  | nil => intro l; rfl
  | cons b r ih => intro l; rw [setAll, List.foldl_cons]; exact (ih _).trans (by simp)
theorem setAll_take {l : List Bool} {bs : List Int} {i : Nat} (h : i < bs.length) : setAll l (bs.take (i + 1)) = (setAll l (bs.take i)).set (bs.getD i 0).toNat true := by
  rw [List.take_succ_eq_append_getElem h, setAll, List.foldl_append]
  simp [setAll, List.getD, h]
theorem setAll_at (bs : List Int) (hb : ∀ z ∈ bs, 0 ≤ z) : ∀ (l : List Bool) (b : Nat), b < l.length → (setAll l bs).getD b false = (l.getD b false || bs.contains (b : Int)) := by
  induction bs with
  | nil => intro l b _; simp [setAll]
  | cons x r ih =>
    intro l b hl
    rw [setAll, List.foldl_cons, ← setAll, ih (fun z hz => hb z (List.mem_cons_of_mem _ hz)) _ b (by simpa using hl)]
    have hx := hb x (List.mem_cons_self ..)
    by_cases e : x = (b : Int)
    · subst e
      simp [List.getD, hl]
    · have e2 : x.toNat ≠ b := by omega
      have e3 : ((b : Int) == x) = false := beq_eq_false_iff_ne.2 (fun h => e h.symm)
      rw [List.contains_cons, e3, Bool.false_or]
      simp [List.getD, List.getElem?_set, e2]
def liveB (ss : List (List Int)) (n : Nat) : Bool := decide ((inoAt ss (n : Int)).kind = 1) && takenB ss (n : Int)
def marks0 : List Bool := List.replicate 25 false
/-- is block b in use by one of the first n inodes? -/
def hasU (ss : List (List Int)) (b : Nat) (n : Nat) : Bool := (List.range n).any fun i => liveB ss i && (inoAt ss (i : Int)).b.contains (b : Int)
theorem hasU_succ (ss : List (List Int)) (b n : Nat) : hasU ss b (n + 1) = (hasU ss b n || (liveB ss n && (inoAt ss (n : Int)).b.contains (b : Int))) := by
  rw [hasU, List.range_succ, List.any_append]; simp [hasU]
def usedB (ss : List (List Int)) (b : Nat) : Bool := b == 0 || hasU ss b 16
/-- the free blocks below b, rising -/
def frU (ss : List (List Int)) : Nat → List Nat
  | 0 => []
  | b + 1 => if usedB ss b then frU ss b else frU ss b ++ [b]
def frB (ss : List (List Int)) : List Nat := frU ss 25
theorem frU_mem (ss : List (List Int)) : ∀ (k b : Nat), b ∈ frU ss k ↔ b < k ∧ usedB ss b = false
  | 0, b => by simp [frU]
  | k + 1, b => by
    rw [frU]
    cases hu : usedB ss k with
    | true =>
      rw [if_pos rfl, frU_mem ss k b]
      constructor
      · rintro ⟨h1, h2⟩; exact ⟨by omega, h2⟩
      · rintro ⟨h1, h2⟩
        refine ⟨?_, h2⟩
        by_cases e : b = k
        · subst e; rw [hu] at h2; cases h2
        · omega
    | false =>
      rw [if_neg (by decide), List.mem_append, frU_mem ss k b, List.mem_singleton]
      constructor
      · rintro (⟨h1, h2⟩ | rfl)
        · exact ⟨by omega, h2⟩
        · exact ⟨by omega, hu⟩
      · rintro ⟨h1, h2⟩
        by_cases e : b = k
        · exact Or.inr e
        · exact Or.inl ⟨by omega, h2⟩
theorem frU_sorted (ss : List (List Int)) : ∀ k, (frU ss k).Pairwise (· < ·)
  | 0 => List.Pairwise.nil
  | k + 1 => by
    rw [frU]
    split
    · exact frU_sorted ss k
    · rw [List.pairwise_append]
      refine ⟨frU_sorted ss k, List.pairwise_singleton _ _, fun a ha b hb => ?_⟩
      rw [List.mem_singleton.1 hb]
      exact ((frU_mem ss k a).1 ha).1
theorem frU_len (ss : List (List Int)) : ∀ k, (frU ss k).length ≤ k
  | 0 => Nat.le_refl _
  | k + 1 => by
    have := frU_len ss k
    rw [frU]
    split
    · omega
    · simp; omega
theorem used0 (ss : List (List Int)) : usedB ss 0 = true := rfl
theorem frU_pre (ss : List (List Int)) (k : Nat) : ∀ m, frU ss k <+: frU ss (k + m)
  | 0 => List.prefix_refl _
  | m + 1 => by
    have h := frU_pre ss k m
    rw [← Nat.add_assoc, frU]
    split
    · exact h
    · exact h.trans (List.prefix_append _ _)
def cntI (ss : List (List Int)) : Nat := cntU (fun n => takenB ss (n : Int)) 16
def cntE (ss : List (List Int)) : Nat := cntU (fun k => (entAt ss (k : Int)).used) 24
/-- blocks 1 to k in use -/
def cntBU (ss : List (List Int)) (k : Nat) : Nat := cntU (fun i => usedB ss (i + 1)) k
def cntB (ss : List (List Int)) : Nat := cntBU ss 24
theorem fr_cnt (ss : List (List Int)) : ∀ k, (frU ss (k + 1)).length + cntBU ss k = k
  | 0 => by rw [frU, if_pos (used0 ss)]; rfl
  | k + 1 => by
    have := fr_cnt ss k
    rw [frU, cntBU, cntU]
    unfold cntBU at this
    cases hu : usedB ss (k + 1) with
    | true => rw [if_pos rfl, if_pos rfl]; omega
    | false => rw [if_neg (by decide), if_neg (by decide), List.length_append]; simp; omega
theorem frB_len (ss : List (List Int)) : (frB ss).length = 24 - cntB ss ∧ cntB ss ≤ 24 := by
  have h : (frU ss 25).length + cntBU ss 24 = 24 := fr_cnt ss 24
  have h2 := cntU_le (fun i => usedB ss (i + 1)) 24
  unfold frB cntB
  unfold cntBU at *
  omega
theorem frI_some (ss : List (List Int)) : (frI ss).isSome = decide (cntI ss < 16) := by
  have hle := cntU_le (fun n => takenB ss (n : Int)) 16
  cases h : frI ss with
  | none =>
    have h2 := upto_none.1 h
    have : cntI ss = 16 := cntU_all.2 fun i hi => by simpa using h2 i hi
    rw [this]; rfl
  | some n =>
    obtain ⟨h1, h2, _⟩ := upto_some h
    have hne : cntI ss ≠ 16 := fun e => by
      have := cntU_all.1 e n h1
      simp only [this] at h2
      cases h2
    unfold cntI at *
    rw [decide_eq_true (by omega)]; rfl
theorem frE_some (ss : List (List Int)) : (frE ss).isSome = decide (cntE ss < 24) := by
  have hle := cntU_le (fun k => (entAt ss (k : Int)).used) 24
  cases h : frE ss with
  | none =>
    have h2 := upto_none.1 h
    have : cntE ss = 24 := cntU_all.2 fun i hi => by simpa using h2 i hi
    rw [this]; rfl
  | some n =>
    obtain ⟨h1, h2, _⟩ := upto_some h
    have hne : cntE ss ≠ 24 := fun e => by
      have := cntU_all.1 e n h1
      simp only [this] at h2
      cases h2
    unfold cntE at *
    rw [decide_eq_true (by omega)]; rfl
end Go.Proofs.Ytpckdjnddoaffaa.al
/- Rows of 25 marks in memory. -/
namespace Go.Proofs.Ytpckdjnddoaffaa.al
set_option maxRecDepth 100000
open Go.ChangeShapes Go.WideShapes Go.ChangeAt Go.RowKit
open Go.Proofs.Ytpckdjnddoaffaa.rows
open Go.Proofs.Ytpckdjnddoaffaa.sec
open Go.Proofs.Ytpckdjnddoaffaa.dsk (wf64 setCell_heap cell_row frozen_row)
open Go.Proofs.Ytpckdjnddoaffaa.ly
open Go.Proofs.Ytpckdjnddoaffaa.lk
set_option linter.unusedVariables false
set_option linter.unusedSimpArgs false

def boolsV (l : List Bool) : List Value := l.map .bool
abbrev aggM (l : List Bool) : Value := .agg (boolsV l).toArray
theorem boolsV_len (l : List Bool) : (boolsV l).length = l.length := by simp [boolsV]
theorem boolsV_one (l : List Bool) : ∀ u ∈ boolsV l, u.oneCell' = true := by
  intro u hu
  obtain ⟨b, _, rfl⟩ := List.mem_map.1 hu
  rfl
def AtM (w : World) (g : Nat) (l : List Bool) : Prop := w.heap[g]? = some (.cells (boolsV l).toArray 67 (0, 0))
theorem AtM.later {w w' : World} {g : Nat} {l : List Bool} (h : AtM w g l) (k : Below w.heap.size w w') : AtM w' g l := (k.block g (Array.getElem?_eq_some_iff.1 h).1).trans h
theorem AtM.lt {w : World} {g : Nat} {l : List Bool} (h : AtM w g l) : g < w.heap.size := (Array.getElem?_eq_some_iff.1 h).1
theorem lit_m : (#[.bool false, .bool false, .bool false, .bool false, .bool false, .bool false, .bool false, .bool false, .bool false, .bool false, .bool false, .bool false, .bool false, .bool false, .bool false, .bool false, .bool false, .bool false, .bool false, .bool false, .bool false, .bool false, .bool false, .bool false, .bool false] : Array Value) = (boolsV marks0).toArray := by kernel_rfl
theorem AtM.cell {w : World} {g : Nat} {l : List Bool} (h : AtM w g l) {k : Nat} (hk : k < l.length) : w.cell? ⟨g, k, none⟩ = some (.bool (l.getD k false)) :=
  cell_row h k _ (by simp [boolsV, List.getD, hk])
theorem AtM.frozen {w : World} {g : Nat} {l : List Bool} (h : AtM w g l) (k : Nat) : w.frozen? ⟨g, k, none⟩ = false := frozen_row h k
theorem AtM.set {w : World} {g : Nat} {l : List Bool} (h : AtM w g l) (k : Nat) (b : Bool) : AtM (w.setCell ⟨g, k, none⟩ (.bool b)) g (l.set k b) := by
  unfold AtM
  rw [setCell_heap h]
  congr 2
  simp [boolsV, List.map_set]
end Go.Proofs.Ytpckdjnddoaffaa.al
/- What the reference's Used of layer 10 gives. -/
namespace Go.Proofs.Ytpckdjnddoaffaa.al
set_option maxRecDepth 100000
open Go.ChangeShapes Go.WideShapes Go.ChangeAt Go.RowKit
open Go.Proofs.Ytpckdjnddoaffaa.rows
open Go.Proofs.Ytpckdjnddoaffaa.sec
open Go.Proofs.Ytpckdjnddoaffaa.dsk (wf64)
open Go.Proofs.Ytpckdjnddoaffaa.ly
open Go.Proofs.Ytpckdjnddoaffaa.lk
set_option linter.unusedVariables false
set_option linter.unusedSimpArgs false

theorem AtM.other {w : World} {g k j : Nat} {l : List Bool} (h : AtM w k l) (hk : k ≠ g) (v : Value) : AtM (w.setCell ⟨g, j, none⟩ v) k l := (Below.heap_setCell _ _ _ _ hk).trans h
/-- what holds while the marks of inode k are made; g: the block of the inode -/
structure MarkAt (w : World) (ss : List (List Int)) (l : List Bool) (wr : World) : Prop where
  res : AtM wr w.heap.size marks0
  row : AtM wr (w.heap.size + 1) l
  below : Below w.heap.size w wr
theorem MarkAt.later {w : World} {ss : List (List Int)} {l : List Bool} {a b : World} (h : MarkAt w ss l a) (k : Below a.heap.size a b) : MarkAt w ss l b := ⟨h.res.later k, h.row.later k, below_trans h.below k⟩
theorem MarkAt.set {w : World} {ss : List (List Int)} {l : List Bool} {a : World} (h : MarkAt w ss l a) (k : Nat) : MarkAt w ss (l.set k true) (a.setCell ⟨w.heap.size + 1, k, none⟩ (.bool true)) :=
  ⟨h.res.other (by omega) _, h.row.set k true, h.below.setCell (p := ⟨w.heap.size + 1, k, none⟩) (Nat.le_succ _) _⟩
end Go.Proofs.Ytpckdjnddoaffaa.al
/- What the reference's Blocks and Count of layer 10 give. -/
namespace Go.Proofs.Ytpckdjnddoaffaa.al
set_option maxRecDepth 100000
open Go.ChangeShapes Go.WideShapes Go.ChangeAt Go.RowKit
open Go.Proofs.Ytpckdjnddoaffaa.rows
open Go.Proofs.Ytpckdjnddoaffaa.sec
open Go.Proofs.Ytpckdjnddoaffaa.dsk (wf64)
open Go.Proofs.Ytpckdjnddoaffaa.ly
open Go.Proofs.Ytpckdjnddoaffaa.lk
set_option linter.unusedVariables false
set_option linter.unusedSimpArgs false

theorem elem_is : Elem 31 3 1 8 (.int .i64 0) := ⟨Try.underlying31, by kernel_rfl, by decide, by decide, by decide⟩
def blkB (ss : List (List Int)) (z : Int) : Bool := decide (0 ≤ z ∧ z ≤ ((frB ss).length : Int))
def ofNats (l : List Nat) : List Int := l.map fun b : Nat => (b : Int)
/- needs: cell_row frozen_row row_later setCell_heap row_alloc ld_cell run_store_mid wpList_buildTo build_yields built_wr fill_part step_build load_mid store_mid own_nil own_made ap_rd rd_one Own.rd Own.alloc wf64 Touch touch_setRow Touch.range Touch.below Touch.cell results_cell_row wpList_load_row wpList_store_row eql_yields neq_yields cut_piece field_trod calls_closure step_ap ap_rd3 own_later own_kept -/
/-- the z lowest free blocks, or none -/
def blkL (ss : List (List Int)) (z : Int) : List Int := if blkB ss z then ofNats ((frB ss).take z.toNat) else []
theorem ofNats_len (l : List Nat) : (ofNats l).length = l.length := by simp [ofNats]
theorem ofNats_snoc (l : List Nat) (b : Nat) : ofNats (l ++ [b]) = ofNats l ++ [(b : Int)] := by simp [ofNats]
theorem blk_done {ss : List (List Int)} {z : Int} {b : Nat} (hb : b ≤ 25) (h : ((frU ss b).length : Int) = z) : blkB ss z = true ∧ blkL ss z = ofNats (frU ss b) := by
  have hp := frU_pre ss b (25 - b)
  rw [show b + (25 - b) = 25 by omega] at hp
  have hl := hp.length_le
  have h1 : blkB ss z = true := by
    rw [blkB, decide_eq_true_eq]
    refine ⟨by omega, ?_⟩
    unfold frB
    omega
  refine ⟨h1, ?_⟩
  rw [blkL, if_pos h1, show z.toNat = (frU ss b).length by omega]
  unfold frB
  rw [← List.prefix_iff_eq_take.1 hp]
theorem blk_not {ss : List (List Int)} {z : Int} (h : z < 0 ∨ ((frU ss 25).length : Int) < z) : blkB ss z = false ∧ blkL ss z = [] := by
  have h1 : blkB ss z = false := by
    rw [blkB, decide_eq_false_iff_not]
    unfold frB
    omega
  exact ⟨h1, by rw [blkL, h1]; rfl⟩
theorem i64s_snoc (l : List Int) (z : Int) : i64s l ++ [.int .i64 z] = i64s (l ++ [z]) := by simp [i64s]
def cntV (ss : List (List Int)) : Value := .tuple #[.int .i64 (cntI ss : Int), .int .i64 (cntE ss : Int), .int .i64 (cntB ss : Int)]
theorem cntU_next {p : Nat → Bool} {k : Nat} {b : Bool} (h : p k = b) : cntU p (k + 1) = if b then cntU p k + 1 else cntU p k := by rw [cntU, h]
end Go.Proofs.Ytpckdjnddoaffaa.al
/- knows of layer 10, over what the code's functions give. -/
namespace Go.Proofs.Ytpckdjnddoaffaa.al
set_option maxRecDepth 100000
open Go.ChangeShapes Go.WideShapes Go.ChangeAt Go.RowKit
open Go.Proofs.Ytpckdjnddoaffaa.rows
open Go.Proofs.Ytpckdjnddoaffaa.sec
open Go.Proofs.Ytpckdjnddoaffaa.dsk (wf64 Wr Wr.ok Wr.c Wr.c_len wrsC elem_wrs)
open Go.Proofs.Ytpckdjnddoaffaa.ly
open Go.Proofs.Ytpckdjnddoaffaa.lk
set_option linter.unusedVariables false
set_option linter.unusedSimpArgs false

/-- what is asked of the code -/
structure AllocIs : Prop where
  ino : ∀ (w : World) (d : Value) (ss : List (List Int)), Dk w d ss → Calls Try.prog 8 #[d] w fun e w' => e = .returned (optV (frI ss)) ∧ Below w.heap.size w w'
  slot : ∀ (w : World) (d : Value) (ss : List (List Int)), Dk w d ss → Calls Try.prog 10 #[d] w fun e w' => e = .returned (optV (frE ss)) ∧ Below w.heap.size w w'
  blocks : ∀ (w : World) (d : Value) (ss : List (List Int)) (z : Int), Dk w d ss → wf64 z → Calls Try.prog 12 #[d, .int .i64 z] w fun e w' => ∃ q m k, e = .returned (.tuple #[.slice q m k, .bool (blkB ss z)]) ∧ m = (blkL ss z).length ∧ Rd w' 1 (.slice q m k) m (i64s (blkL ss z)) ∧ Below w.heap.size w w'
  count : ∀ (w : World) (d : Value) (ss : List (List Int)), Dk w d ss → Calls Try.prog 14 #[d] w fun e w' => e = .returned (cntV ss) ∧ Below w.heap.size w w'
theorem rd_two (w : World) (e : TypeId) (a b : Value) : Rd (w.alloc (.cells #[a, b] e)) 1 (.slice (some ⟨w.heap.size, 0, none⟩) 2 2) 2 [a, b] := by
  refine Or.inr ⟨w.heap.size, 0, 2, rfl, by omega, Nat.le_refl _, by unfold maxLen; omega, by simp, by rfl, fun i u hi => ?_⟩
  rw [World.cell?_alloc_new, Nat.zero_add]
  simpa using hi
def knE : List (List Int) := withL emptyImg []
theorem knE_ino : frI knE = some 1 := by kernel_rfl
theorem knE_slot : frE knE = some 0 := by kernel_rfl
theorem knE_blkB : blkB knE 2 = true := by decide +kernel
theorem knE_blkL : blkL knE 2 = [1, 2] := by kernel_rfl
theorem knE_cnt : cntI knE = 1 ∧ cntE knE = 0 ∧ cntB knE = 0 := ⟨by kernel_rfl, by kernel_rfl, by kernel_rfl⟩
set_option maxRecDepth 100000 in
set_option maxHeartbeats 3200000 in
theorem knows_of (C : AllocIs) (w : World) : Calls Try.prog 5 #[] w fun e w' => e = .returned (.bool true) ∧ Below w.heap.size w w' := by
  have K1 := Lib.hid fun w' d (hd : Dk w' d knE) => by
    have h := C.ino w' d knE hd
    rw [knE_ino] at h
    exact (show Calls Try.prog 8 #[d] w' fun e w'' => e = .returned (.tuple #[.int .i64 1, .bool true]) ∧ Below w'.heap.size w' w'' from h)
  have K2 := Lib.hid fun w' d (hd : Dk w' d knE) => by
    have h := C.slot w' d knE hd
    rw [knE_slot] at h
    exact (show Calls Try.prog 10 #[d] w' fun e w'' => e = .returned (.tuple #[.int .i64 0, .bool true]) ∧ Below w'.heap.size w' w'' from h)
  have K3 := Lib.hid fun w' d (hd : Dk w' d knE) => by
    have h := C.blocks w' d knE 2 hd (WalkArith.wf_i64 (by omega))
    rw [knE_blkB, knE_blkL] at h
    exact h
  have K4 := Lib.hid fun w' d (hd : Dk w' d knE) => by
    have h := C.count w' d knE hd
    unfold cntV at h
    rw [knE_cnt.1, knE_cnt.2.1, knE_cnt.2.2] at h
    exact (show Calls Try.prog 14 #[d] w' fun e w'' => e = .returned (.tuple #[.int .i64 1, .int .i64 0, .int .i64 0]) ∧ Below w'.heap.size w' w'' from h)
  clear C
  go_enter Try.func5, Try.ntmps5
  go_wp2_with (first
    | (go_at_call 20; refine (rempty_any _).mono ?_; rintro e w1 ⟨p1, c1, rfl, hr, hb⟩; have B1 := Lib.hid hb; have R1 := Lib.hid hr; clear hb hr)
    | (go_at_call 6; refine (disk_any p1 65 c1 emptyImg none 0 0 [] _ R1.out emptyImg_secs (by omega) (rd_nil _ 36) (by simp) (by omega)).mono ?_; rintro e w2 ⟨d, rfl, hd, hb⟩; have B2 := Lib.hid (below_trans B1.out hb); have D2 : Hid (Dk w2 d knE) := Lib.hid hd; clear hb hd)
    | (go_at_call 8; refine (K1.out _ _ D2.out).mono ?_; rintro e w3 ⟨rfl, hb⟩; have B3 := Lib.hid (below_trans B2.out hb); have D3 := Lib.hid (D2.out.later hb); clear hb)
    | (go_at_call 10; refine (K2.out _ _ D3.out).mono ?_; rintro e w4 ⟨rfl, hb⟩; have B4 := Lib.hid (below_trans B3.out hb); have D4 := Lib.hid (D3.out.later hb); clear hb)
    | (go_at_call 12; refine (K3.out _ _ D4.out).mono ?_; rintro e w5 ⟨q5, m5, k5, rfl, hm5, hr, hb⟩; obtain rfl : m5 = 2 := hm5; have B5 := Lib.hid (below_trans B4.out hb); have D5 := Lib.hid (D4.out.later hb); have R5 := Lib.hid hr; clear hb hr)
    | (go_at_call 14; refine (K4.out _ _ D5.out).mono ?_; rintro e w6 ⟨rfl, hb⟩; have B6 := Lib.hid (below_trans B5.out hb); have R6 := Lib.hid (R5.out.later hb); clear hb)
    | (go_at_call 16; refine (ints_any _ _ 2 _ _ [1, 2] _ (R6.out.later (below_alloc (Below.refl _ _) _)) (rd_two _ _ _ _) (by omega)).mono ?_; rintro e w7 ⟨rfl, hb⟩; have B7 := Lib.hid (below_trans (below_alloc B6.out _) hb); clear hb))
  go_ret
  exact ⟨rfl, B7.out⟩
end Go.Proofs.Ytpckdjnddoaffaa.al
/- What AllocFree's helper owned gives, over what the code's functions give; the law's facts. -/
namespace Go.Proofs.Ytpckdjnddoaffaa.al
set_option maxRecDepth 100000
open Go.ChangeShapes Go.WideShapes Go.ChangeAt Go.RowKit
open Go.Proofs.Ytpckdjnddoaffaa.rows
open Go.Proofs.Ytpckdjnddoaffaa.sec
open Go.Proofs.Ytpckdjnddoaffaa.dsk (wf64)
open Go.Proofs.Ytpckdjnddoaffaa.ly
open Go.Proofs.Ytpckdjnddoaffaa.lk
set_option linter.unusedVariables false
set_option linter.unusedSimpArgs false

/-- what is asked of layer 9's code -/
structure LookIs : Prop where
  inode : ∀ (w : World) (d : Value) (ss : List (List Int)) (i : Int), Dk w d ss → wf64 i → Calls Try.prog 33 #[d, .int .i64 i] w fun e w' => e = .returned (aggI (inoAt ss i)) ∧ Below w.heap.size w w'
  entry : ∀ (w : World) (d : Value) (ss : List (List Int)) (i : Int), Dk w d ss → wf64 i → Calls Try.prog 18 #[d, .int .i64 i] w fun e w' => e = .returned (aggE (entAt ss i)) ∧ Below w.heap.size w w'
  taken : ∀ (w : World) (d : Value) (ss : List (List Int)) (i : Int), Dk w d ss → wf64 i → Calls Try.prog 17 #[d, .int .i64 i] w fun e w' => e = .returned (.bool (takenB ss i)) ∧ Below w.heap.size w w'
theorem ino_plain {ss : List (List Int)} (hs : Secs ss) (i : Int) (h : (inoAt ss i).kind ≠ 1) : ∀ z ∈ (inoAt ss i).b, z = 0 := by
  have f0 : ∀ z ∈ ino0.b, z = 0 := fun z hz => by simp [ino0] at hz; exact hz
  unfold inoAt at h ⊢
  split
  · rename_i hin
    rw [if_pos hin] at h
    rw [inoOfV] at h ⊢
    split
    · rename_i hb
      rw [if_pos hb] at h
      rw [inoOfB, Bool.and_eq_true] at hb
      have hf := right_fine (inoOf_four (secAt_sec hs (1 + i))) hb.1
      have hr := hb.1
      have h02 : (inoOf (secAt ss (1 + i))).kind = 0 ∨ (inoOf (secAt ss (1 + i))).kind = 2 := by have := hf.k0; have := hf.k1; omega
      rw [rightI_plain h02, Bool.and_eq_true, beq_iff_eq, beq_iff_eq] at hr
      intro z hz
      rw [hr.2] at hz
      simpa using hz
    · exact f0
  · exact f0
/-- a free block is none of an inode that is taken -/
theorem free_not {ss : List (List Int)} (hs : Secs ss) {b n i : Nat} (hb : 1 ≤ b) (hf : usedB ss b = false) (hn : n < 16) (hi : i < 4) (he : (inoAt ss (n : Int)).b.getD i 0 = (b : Int)) : takenB ss (n : Int) = false := by
  have h4 := inoAt_four hs (n : Int)
  have hmem : (b : Int) ∈ (inoAt ss (n : Int)).b := by
    rw [← he, show (inoAt ss (n : Int)).b.getD i 0 = (inoAt ss (n : Int)).b[i]'(by omega) by simp [List.getD, h4, hi]]
    exact List.getElem_mem _
  have hk : (inoAt ss (n : Int)).kind = 1 := by
    by_cases h : (inoAt ss (n : Int)).kind = 1
    · exact h
    · have := ino_plain hs (n : Int) h _ hmem
      omega
  rw [usedB, Bool.or_eq_false_iff] at hf
  have h2 := List.any_eq_false.1 hf.2 n (List.mem_range.2 hn)
  simp only [Bool.and_eq_true, not_and, liveB, hk, decide_true, true_and] at h2
  cases ht : takenB ss (n : Int) with
  | false => rfl
  | true => exact absurd (List.contains_iff_mem.2 hmem) (h2 ht)
set_option maxRecDepth 100000 in
set_option maxHeartbeats 3200000 in
theorem owned_no (C : LookIs) (w : World) (d : Value) (ss : List (List Int)) (b : Nat) (hd : Dk w d ss) (hb1 : 1 ≤ b) (hb2 : b ≤ 24) (hf : usedB ss b = false) :
    Calls Try.prog 19 #[d, .int .i64 (b : Int)] w fun e w' => e = .returned (.bool false) ∧ Below w.heap.size w w' := by
  have hss := hd.secs.1
  have HI := Lib.hid fun (k : Nat) (hk : k ≤ 16) w' (hb : Below w.heap.size w w') => C.inode w' d ss (k : Int) (hd.later hb) (WalkArith.wf_i64 (by omega))
  have HT := Lib.hid fun (k : Nat) (hk : k ≤ 16) w' (hb : Below w.heap.size w w') => C.taken w' d ss (k : Int) (hd.later hb) (WalkArith.wf_i64 (by omega))
  have HFN := Lib.hid fun n i (hn : n < 16) (hi : i < 4) he => free_not hss hb1 hf (n := n) (i := i) hn hi he
  have HF4 := Lib.hid fun k => inoAt_four hss k
  clear hd hss hf C
  go_enter Try.func19, Try.ntmps19
  go_wp2_with fail
  go_loopw [5, 6, 7] (fun kv _ _ wr => ∃ k : Nat, k ≤ 16 ∧ kv = .int .i64 (k : Int) ∧ Hid (Below w.heap.size w wr)) (fun kv _ _ _ => 16 - (intOf kv).toNat)
  case atStart => exact ⟨0, by omega, rfl, Lib.hid (Below.refl _ _)⟩
  case round =>
    obtain ⟨k, hk, rfl, HB⟩ := hrel
    by_cases hlt : k < 16
    · have hlti : (k : Int) < 16 := by omega
      have HIk := Lib.hid (HI.out k (by omega) wr HB.out)
      have HTk := Lib.hid fun w' hb => HT.out k (by omega) w' hb
      have H4k := Lib.hid (HF4.out (k : Int))
      have HFk := Lib.hid fun i hi he => HFN.out k i hlt hi he
      generalize inoAt ss (k : Int) = x at HIk H4k HFk
      generalize takenB ss (k : Int) = tk at HTk HFk
      obtain ⟨kd, sz, bl⟩ := x
      have HL4 : Hid (bl.length = 4) := H4k
      go_upto_region 5 with (first | (go_at_call 33; refine HIk.out.mono ?_; rintro e w1 ⟨rfl, hb⟩; have B1 := Lib.hid (below_trans HB.out hb); clear hb) | (refine store_ino rfl (.tmp 6) (.tmp 14) rfl rfl w1.heap.size ⟨kd, sz, bl⟩ ino0 rfl rfl H4k.out rfl (atI_lit w1) ?_; intro w2 hA hB _; have hb := (below_alloc (Below.refl _ w1) _).trans hB; have B2 := Lib.hid (below_trans B1.out hb); have A2 := Lib.hid hA; clear hA hB hb))
      obtain ⟨g, hg⟩ : ∃ g, w1.heap.size = g := ⟨_, rfl⟩
      rw [hg] at A2
      go_wp2_with fail
      go_loopw [7] (fun jv wr => ∃ j : Nat, j ≤ 4 ∧ jv = .int .i64 (j : Int) ∧ Hid (Below w.heap.size w wr) ∧ Hid (AtI wr g ⟨kd, sz, bl⟩)) (fun jv _ => 4 - (intOf jv).toNat)
      case atStart => exact ⟨0, by omega, rfl, B2, A2⟩
      case round =>
        obtain ⟨j, hj, rfl, HBj, HAj⟩ := hrel
        by_cases hltj : j < 4
        · have hltji : (j : Int) < 4 := by omega
          have hjl : j < bl.length := by rw [HL4.out]; exact hltj
          have hcb := HAj.out.cellb hjl
          have HE := Lib.hid fun he => HFk.out j hltj he
          simp only at hcb HE
          generalize bl.getD j 0 = z at hcb HE
          rw [hg]
          by_cases hze : z = (b : Int)
          · have htk := HE.out hze
            subst htk
            have hzb : (z == (b : Int)) = true := by rw [hze]; simp
            rw [hze] at hcb
            clear HE hze hzb
            go_wp2_with (go_at_call 17; refine (HTk.out _ HBj.out).mono ?_; rintro e w3 ⟨rfl, hb⟩; have B3 := Lib.hid (below_trans HBj.out hb); have A3 := Lib.hid (HAj.out.later hb); clear hb)
            go_roundw
            case rel => exact ⟨j + 1, by omega, by go_num, B3, A3⟩
            case measure => simp [intOf]; omega
          · have hzb : (z == (b : Int)) = false := beq_eq_false_iff_ne.2 hze
            clear HE hze
            go_wp2_with fail
            go_roundw
            case rel => exact ⟨j + 1, by omega, by go_num, HBj, HAj⟩
            case measure => simp [intOf]; omega
        · obtain rfl : j = 4 := by omega
          go_wp2_with fail
          go_roundw
          case rel => exact ⟨k + 1, by omega, by go_num, HBj⟩
          case measure => simp [intOf]; omega
    · obtain rfl : k = 16 := by omega
      go_wp2_with fail
      go_ret
      exact ⟨rfl, HB.out⟩
end Go.Proofs.Ytpckdjnddoaffaa.al
/- The marks that the code's named and filled make: what they are. -/
namespace Go.Proofs.Ytpckdjnddoaffaa.al
set_option maxRecDepth 100000
open Go.ChangeShapes Go.WideShapes Go.ChangeAt Go.RowKit
open Go.Proofs.Ytpckdjnddoaffaa.rows
open Go.Proofs.Ytpckdjnddoaffaa.sec
open Go.Proofs.Ytpckdjnddoaffaa.dsk (wf64)
open Go.Proofs.Ytpckdjnddoaffaa.ly
open Go.Proofs.Ytpckdjnddoaffaa.lk
set_option linter.unusedVariables false
set_option linter.unusedSimpArgs false

theorem ent0_rightA : rightE ent0 = true := by decide +kernel
theorem ent_rightA (ss : List (List Int)) (k : Int) : rightE (entAt ss k) = true := by
  unfold entAt
  split
  · unfold entOfV
    split
    · rename_i h
      rw [entOfB, Bool.and_eq_true] at h
      exact h.1
    · exact ent0_rightA
  · exact ent0_rightA
theorem ent_tgt {ss : List (List Int)} {k : Int} (h : (entAt ss k).used = true) : 1 ≤ (entAt ss k).target ∧ (entAt ss k).target < 16 := by
  have hr := ent_rightA ss k
  rw [rightE_used h] at hr
  simp only [Bool.and_eq_true, decide_eq_true_eq] at hr
  exact ⟨hr.1.1.2, hr.1.2⟩
/-- the entries that are used, of the first k -/
def eU (ss : List (List Int)) : Nat → List Bool
  | 0 => List.replicate 24 false
  | k + 1 => if (entAt ss (k : Int)).used then (eU ss k).set k true else eU ss k
/-- the inodes that the first k entries name, and the root -/
def iU (ss : List (List Int)) : Nat → List Bool
  | 0 => true :: List.replicate 15 false
  | k + 1 => if (entAt ss (k : Int)).used then (iU ss k).set (entAt ss (k : Int)).target.toNat true else iU ss k
/-- the blocks of the inodes that are taken, of the first n -/
def bU (ss : List (List Int)) : Nat → List Bool
  | 0 => marks0
  | n + 1 => if takenB ss (n : Int) then setAll (bU ss n) (inoAt ss (n : Int)).b else bU ss n
theorem eU_len (ss : List (List Int)) : ∀ k, (eU ss k).length = 24
  | 0 => by simp [eU]
  | k + 1 => by
    rw [eU]
    split
    · rw [List.length_set, eU_len ss k]
    · exact eU_len ss k
theorem iU_len (ss : List (List Int)) : ∀ k, (iU ss k).length = 16
  | 0 => by simp [iU]
  | k + 1 => by
    rw [iU]
    split
    · rw [List.length_set, iU_len ss k]
    · exact iU_len ss k
theorem bU_len (ss : List (List Int)) : ∀ n, (bU ss n).length = 25
  | 0 => by simp [bU, marks0]
  | n + 1 => by
    rw [bU]
    split
    · rw [setAll_len, bU_len ss n]
    · exact bU_len ss n
theorem getD_set {l : List Bool} {j k : Nat} (hj : j < l.length) : (l.set k true).getD j false = (l.getD j false || decide (j = k)) := by
  by_cases e : j = k
  · subst e; simp [List.getD, hj]
  · have e2 : k ≠ j := fun h => e h.symm
    simp [List.getD, List.getElem?_set, e2, e]
theorem eU_at (ss : List (List Int)) (j : Nat) (hj : j < 24) : ∀ k, (eU ss k).getD j false = (decide (j < k) && (entAt ss (j : Int)).used)
  | 0 => by rw [eU, List.getD, List.getElem?_replicate, if_pos hj]; simp
  | k + 1 => by
    rw [eU]
    by_cases e : j = k
    · subst e
      cases hu : (entAt ss (j : Int)).used with
      | true => rw [if_pos rfl, getD_set (by rw [eU_len]; exact hj)]; simp
      | false => rw [if_neg (by decide), eU_at ss j hj j, hu]; simp
    · have h1 : decide (j < k + 1) = decide (j < k) := decide_eq_decide.2 (by omega)
      rw [h1]
      cases hu : (entAt ss (k : Int)).used with
      | true => rw [if_pos rfl, getD_set (by rw [eU_len]; exact hj), eU_at ss j hj k, decide_eq_false e, Bool.or_false]
      | false => rw [if_neg (by decide), eU_at ss j hj k]
theorem iU_at (ss : List (List Int)) (n : Nat) (hn : n < 16) : ∀ k, (iU ss k).getD n false = (namedIn ss (n : Int) k || decide ((n : Int) = 0))
  | 0 => by
    rw [iU, namedIn]
    cases n with
    | zero => rfl
    | succ n =>
      have : decide (((n + 1 : Nat) : Int) = 0) = false := decide_eq_false (by omega)
      rw [this, List.getD_cons_succ, List.getD, List.getElem?_replicate, if_pos (by omega)]; rfl
  | k + 1 => by
    rw [iU, namedIn_succ]
    cases hu : (entAt ss (k : Int)).used with
    | true =>
      have ht := ent_tgt hu
      have h1 : decide (n = (entAt ss (k : Int)).target.toNat) = decide ((entAt ss (k : Int)).target = (n : Int)) := decide_eq_decide.2 (by omega)
      rw [if_pos rfl, getD_set (by rw [iU_len]; exact hn), iU_at ss n hn k, h1, Bool.true_and, Bool.or_assoc, Bool.or_assoc, Bool.or_comm (decide _) (decide _)]
    | false => rw [if_neg (by decide), iU_at ss n hn k, Bool.false_and, Bool.or_false]
theorem iU_taken (ss : List (List Int)) (n : Nat) (hn : n < 16) : (iU ss 24).getD n false = takenB ss (n : Int) := by rw [iU_at ss n hn 24, takenB]
theorem eU_used (ss : List (List Int)) (j : Nat) (hj : j < 24) : (eU ss 24).getD j false = (entAt ss (j : Int)).used := by rw [eU_at ss j hj 24, decide_eq_true hj, Bool.true_and]
theorem bU_at {ss : List (List Int)} (hs : Secs ss) (b : Nat) (h1 : 1 ≤ b) (hb : b < 25) : ∀ n, (bU ss n).getD b false = hasU ss b n
  | 0 => by rw [bU, marks0, List.getD, List.getElem?_replicate, if_pos hb]; rfl
  | n + 1 => by
    rw [bU, hasU_succ, liveB]
    cases ht : takenB ss (n : Int) with
    | false => rw [if_neg (by decide), bU_at hs b h1 hb n, Bool.and_false, Bool.false_and, Bool.or_false]
    | true =>
      rw [if_pos rfl, setAll_at _ (fun z hz => ((ino_fine hs _).b z hz).1) _ b (by rw [bU_len]; exact hb), bU_at hs b h1 hb n, Bool.and_true]
      by_cases hk : (inoAt ss (n : Int)).kind = 1
      · rw [decide_eq_true hk, Bool.true_and]
      · rw [decide_eq_false hk, Bool.false_and, Bool.or_false]
        have : (inoAt ss (n : Int)).b.contains (b : Int) = false := by
          cases hc : (inoAt ss (n : Int)).b.contains (b : Int) with
          | false => rfl
          | true =>
            have := ino_plain hs (n : Int) hk _ (List.contains_iff_mem.1 hc)
            omega
        rw [this, Bool.or_false]
theorem bU_used {ss : List (List Int)} (hs : Secs ss) (b : Nat) (h1 : 1 ≤ b) (hb : b < 25) : (bU ss 16).getD b false = usedB ss b := by
  rw [bU_at hs b h1 hb 16, usedB, show (b == 0) = false from beq_eq_false_iff_ne.2 (by omega), Bool.false_or]
theorem cntU_congr {p q : Nat → Bool} : ∀ {k : Nat}, (∀ i, i < k → p i = q i) → cntU p k = cntU q k
  | 0, _ => rfl
  | k + 1, h => by rw [cntU, cntU, h k (by omega), cntU_congr (k := k) fun i hi => h i (by omega)]
theorem upto_congr {p q : Nat → Bool} : ∀ {k : Nat}, (∀ i, i < k → p i = q i) → upto p k = upto q k
  | 0, _ => rfl
  | k + 1, h => by rw [upto_succ, upto_succ, h k (by omega), upto_congr (k := k) fun i hi => h i (by omega)]
/-- the lowest number from f on that is not marked -/
def nextF (l : List Bool) (f : Nat) : Option Nat := upto (fun n => decide (f ≤ n) && !l.getD n false) l.length
theorem nextF_some {l : List Bool} {f n : Nat} (h : nextF l f = some n) : f ≤ n ∧ n < l.length ∧ l.getD n false = false ∧ ∀ i, f ≤ i → i < n → l.getD i false = true := by
  obtain ⟨h1, h2, h3⟩ := upto_some h
  rw [Bool.and_eq_true, decide_eq_true_eq, Bool.not_eq_true'] at h2
  refine ⟨h2.1, h1, h2.2, fun i hi hin => ?_⟩
  have := h3 i hin
  rw [decide_eq_true hi, Bool.true_and, Bool.not_eq_false'] at this
  exact this
theorem nextF_none {l : List Bool} {f : Nat} (h : nextF l f = none) : ∀ i, f ≤ i → i < l.length → l.getD i false = true := fun i hi hin => by
  have := upto_none.1 h i hin
  rw [decide_eq_true hi, Bool.true_and, Bool.not_eq_false'] at this
  exact this
theorem nextF_hit {l : List Bool} {f n : Nat} (h1 : f ≤ n) (h2 : n < l.length) (h3 : l.getD n false = false) (h4 : ∀ i, f ≤ i → i < n → l.getD i false = true) : nextF l f = some n := by
  refine upto_hit (upto_none.2 fun i hi => ?_) (by rw [decide_eq_true h1, h3]; rfl) _ h2
  by_cases e : f ≤ i
  · rw [h4 i e hi]; simp
  · rw [decide_eq_false e]; rfl
theorem nextF_miss {l : List Bool} {f : Nat} (h : ∀ i, f ≤ i → i < l.length → l.getD i false = true) : nextF l f = none :=
  upto_none.2 fun i hi => by
    by_cases e : f ≤ i
    · rw [h i e hi]; simp
    · rw [decide_eq_false e]; rfl
theorem next_ino (ss : List (List Int)) : nextF (iU ss 24) 0 = frI ss := by
  rw [nextF, iU_len, frI]
  exact upto_congr fun i hi => by rw [iU_taken ss i hi, decide_eq_true (Nat.zero_le i), Bool.true_and]
theorem next_ent (ss : List (List Int)) : nextF (eU ss 24) 0 = frE ss := by
  rw [nextF, eU_len, frE]
  exact upto_congr fun i hi => by rw [eU_used ss i hi, decide_eq_true (Nat.zero_le i), Bool.true_and]
/-- the free blocks below n, when those from f on below n are used -/
theorem frU_skip {ss : List (List Int)} {f : Nat} : ∀ {n : Nat}, f ≤ n → (∀ i, f ≤ i → i < n → usedB ss i = true) → frU ss n = frU ss f
  | 0, h, _ => by obtain rfl : f = 0 := by omega
                  rfl
  | n + 1, h, hu => by
    by_cases e : f = n + 1
    · rw [e]
    · rw [frU, hu n (by omega) (by omega), if_pos rfl, frU_skip (n := n) (by omega) fun i hi hin => hu i hi (by omega)]
theorem blk_step {ss : List (List Int)} (hs : Secs ss) {f n : Nat} (hf : 1 ≤ f) (h : nextF (bU ss 16) f = some n) : f ≤ n ∧ n < 25 ∧ frU ss (n + 1) = frU ss f ++ [n] := by
  obtain ⟨h1, h2, h3, h4⟩ := nextF_some h
  rw [bU_len] at h2
  refine ⟨h1, h2, ?_⟩
  rw [bU_used hs n (by omega) h2] at h3
  rw [frU, h3, if_neg (by decide), frU_skip h1 fun i hi hin => by rw [← bU_used hs i (by omega) (by omega)]; exact h4 i hi hin]
theorem blk_end {ss : List (List Int)} (hs : Secs ss) {f : Nat} (hf : 1 ≤ f) (hf2 : f ≤ 25) (h : nextF (bU ss 16) f = none) : frU ss 25 = frU ss f := by
  have h4 := nextF_none h
  rw [bU_len] at h4
  exact frU_skip hf2 fun i hi hin => by rw [← bU_used hs i (by omega) hin]; exact h4 i hi hin
theorem cnt_ino (ss : List (List Int)) : cntU (fun n => (iU ss 24).getD (0 + n) false) 16 = cntI ss := cntU_congr fun i hi => by rw [Nat.zero_add]; exact iU_taken ss i hi
theorem cnt_ent (ss : List (List Int)) : cntU (fun n => (eU ss 24).getD (0 + n) false) 24 = cntE ss := cntU_congr fun i hi => by rw [Nat.zero_add]; exact eU_used ss i hi
theorem cnt_blk {ss : List (List Int)} (hs : Secs ss) : cntU (fun n => (bU ss 16).getD (1 + n) false) 24 = cntB ss := by
  unfold cntB cntBU
  exact cntU_congr fun i hi => by rw [bU_used hs (1 + i) (by omega) (by omega), Nat.add_comm]
end Go.Proofs.Ytpckdjnddoaffaa.al
/- What the code's read, Inode and Entry give. -/
namespace Go.Proofs.Ytpckdjnddoaffaa.lk
set_option maxRecDepth 100000
open Go.ChangeShapes Go.WideShapes Go.ChangeAt Go.RowKit
open Go.Proofs.Ytpckdjnddoaffaa.rows
open Go.Proofs.Ytpckdjnddoaffaa.sec
open Go.Proofs.Ytpckdjnddoaffaa.dsk (wf64)
open Go.Proofs.Ytpckdjnddoaffaa.ly
set_option linter.unusedVariables false
set_option linter.unusedSimpArgs false

set_option maxRecDepth 100000 in
set_option maxHeartbeats 1600000 in
theorem sread_any (w : World) (d : Value) (ss : List (List Int)) (i : Int) (h : Dk w d ss) (hi : wf64 i) : Calls Try.prog 32 #[d, .int .i64 i] w fun e w' => e = .returned (agg (secAt ss i)) ∧ Below w.heap.size w w' := by
  have HT := Lib.hid fun w' (hb : Below w.heap.size w w') => dread w' d ss i (h.later hb) hi
  have hS := secAt_sec h.secs.1 i
  have A0 := Lib.hid (at_lit w)
  have hb0 := below_alloc (Below.refl w.heap.size w) (.cells #[Value.int IntKind.u8 0, Value.int IntKind.u8 0, Value.int IntKind.u8 0, Value.int IntKind.u8 0, Value.int IntKind.u8 0, Value.int IntKind.u8 0, Value.int IntKind.u8 0, Value.int IntKind.u8 0, Value.int IntKind.u8 0, Value.int IntKind.u8 0, Value.int IntKind.u8 0, Value.int IntKind.u8 0, Value.int IntKind.u8 0, Value.int IntKind.u8 0, Value.int IntKind.u8 0, Value.int IntKind.u8 0, Value.int IntKind.u8 0, Value.int IntKind.u8 0, Value.int IntKind.u8 0, Value.int IntKind.u8 0, Value.int IntKind.u8 0, Value.int IntKind.u8 0, Value.int IntKind.u8 0, Value.int IntKind.u8 0, Value.int IntKind.u8 0, Value.int IntKind.u8 0, Value.int IntKind.u8 0, Value.int IntKind.u8 0, Value.int IntKind.u8 0, Value.int IntKind.u8 0, Value.int IntKind.u8 0, Value.int IntKind.u8 0] 51)
  obtain ⟨W, hW⟩ : ∃ W, w.alloc (.cells #[Value.int IntKind.u8 0, Value.int IntKind.u8 0, Value.int IntKind.u8 0, Value.int IntKind.u8 0, Value.int IntKind.u8 0, Value.int IntKind.u8 0, Value.int IntKind.u8 0, Value.int IntKind.u8 0, Value.int IntKind.u8 0, Value.int IntKind.u8 0, Value.int IntKind.u8 0, Value.int IntKind.u8 0, Value.int IntKind.u8 0, Value.int IntKind.u8 0, Value.int IntKind.u8 0, Value.int IntKind.u8 0, Value.int IntKind.u8 0, Value.int IntKind.u8 0, Value.int IntKind.u8 0, Value.int IntKind.u8 0, Value.int IntKind.u8 0, Value.int IntKind.u8 0, Value.int IntKind.u8 0, Value.int IntKind.u8 0, Value.int IntKind.u8 0, Value.int IntKind.u8 0, Value.int IntKind.u8 0, Value.int IntKind.u8 0, Value.int IntKind.u8 0, Value.int IntKind.u8 0, Value.int IntKind.u8 0, Value.int IntKind.u8 0] 51) = W := ⟨_, rfl⟩
  rw [hW] at hb0 A0
  have HB0 := Lib.hid hb0
  have HS := Lib.hid hS
  generalize (if 0 ≤ i ∧ i < (ss.length : Int) then (0 : Int) else 1) = r at HT
  generalize secAt ss i = s at *
  clear h hS hb0 hi
  go_enter Try.func32, Try.ntmps32
  go_upto_region 1 with fail
  clear hW
  go_wp2_with (first | (go_at_call 47; refine (HT.out _ HB0.out).mono ?_; rintro e w1 ⟨rfl, hb⟩; have B1 := Lib.hid (below_trans HB0.out hb); have A1 := Lib.hid (A0.out.later hb); clear hb) | (refine store_at rfl (.tmp 5) (.tmp 11) rfl rfl w1.heap.size s zero32 rfl rfl HS.out.1 (by decide) (at_lit w1) ?_; intro w2 hA hB _; have hb := (below_alloc (Below.refl _ w1) _).trans hB; have B2 := Lib.hid (below_trans B1.out hb); have A2 := Lib.hid (A1.out.later hb); have S2 := Lib.hid hA; clear hA hB hb) | (refine load_at rfl (.tmp 5) rfl w1.heap.size rfl s HS.out.1 S2.out ?_) | (refine store_at rfl (.tmp 4) (.tmp 13) rfl rfl w.heap.size s zero32 rfl rfl HS.out.1 (by decide) A2.out ?_; intro w5 hA hB _; have A5 := Lib.hid hA; have B5 := Lib.hid (B2.out.trans hB); clear hA hB))
  exact ret_sec rfl w.heap.size s rfl HS.out.1 A5.out rfl ⟨rfl, B5.out⟩
set_option maxRecDepth 100000 in
set_option maxHeartbeats 1600000 in
theorem cino_any (w : World) (d : Value) (ss : List (List Int)) (i : Int) (h : Dk w d ss) (hi : wf64 i) : Calls Try.prog 33 #[d, .int .i64 i] w fun e w' => e = .returned (aggI (inoAt ss i)) ∧ Below w.heap.size w w' := by
  have A0 := Lib.hid (atI_lit w)
  have hb0 := below_alloc (Below.refl w.heap.size w) (.cells #[.int .i64 0, .int .i64 0, .int .i64 0, .int .i64 0, .int .i64 0, .int .i64 0] 80)
  obtain ⟨i1, i2⟩ := rows.wf_i64 hi
  by_cases hin : 0 ≤ i ∧ i < 16
  · have e : inoAt ss i = inoOfV (secAt ss (1 + i)) := by rw [inoAt, if_pos hin]
    rw [e]
    have HT := Lib.hid fun w' (hb : Below w.heap.size w w') => sread_any w' d ss (1 + i) (h.later hb) (WalkArith.wf_i64 (by omega))
    have hS := secAt_sec h.secs.1 (1 + i)
    have HI := Lib.hid fun w => inodeOf_any (secAt ss (1 + i)) hS w
    have H4 := Lib.hid (inoOfV_four hS)
    obtain ⟨j1, j2⟩ := hin
    obtain ⟨W, hW⟩ : ∃ W, w.alloc (.cells #[.int .i64 0, .int .i64 0, .int .i64 0, .int .i64 0, .int .i64 0, .int .i64 0] 80) = W := ⟨_, rfl⟩
    rw [hW] at hb0 A0
    have HB0 := Lib.hid hb0
    generalize inoOfV (secAt ss (1 + i)) = x at *
    generalize inoOfB (secAt ss (1 + i)) = xb at *
    generalize secAt ss (1 + i) = s at *
    clear h hS e hb0
    go_enter Try.func33, Try.ntmps33
    go_upto_region 1 with fail
    clear hW
    go_wp2_with (first | (go_at_call 32; refine (HT.out _ HB0.out).mono ?_; rintro e w1 ⟨rfl, hb⟩; have B1 := Lib.hid (below_trans HB0.out hb); have A1 := Lib.hid (A0.out.later hb); clear hb) | (go_at_call 48; refine (HI.out _).mono ?_; rintro e w3 ⟨rfl, hb⟩; have B3 := Lib.hid (below_trans B1.out hb); have A3 := Lib.hid (A1.out.later hb); clear hb) | (refine store_ino rfl (.tmp 5) (.tmp 20) rfl rfl w3.heap.size x ino0 rfl rfl H4.out rfl (atI_lit w3) ?_; intro w4 hA hB _; have hb := (below_alloc (Below.refl _ w3) _).trans hB; have B4 := Lib.hid (below_trans B3.out hb); have A4 := Lib.hid (A3.out.later hb); have X4 := Lib.hid hA; clear hA hB hb) | (refine load_ino rfl (.tmp 5) rfl w3.heap.size rfl x H4.out X4.out ?_) | (refine store_ino rfl (.tmp 4) (.tmp 22) rfl rfl w.heap.size x ino0 rfl rfl H4.out rfl A4.out ?_; intro w5 hA hB _; have A5 := Lib.hid hA; have B5 := Lib.hid (B4.out.trans hB); clear hA hB))
    exact ret_ino1 rfl w.heap.size x rfl H4.out A5.out rfl ⟨rfl, B5.out⟩
  · have e : inoAt ss i = ino0 := by rw [inoAt, if_neg hin]
    rw [e]
    clear h e
    obtain ⟨W, hW⟩ : ∃ W, w.alloc (.cells #[.int .i64 0, .int .i64 0, .int .i64 0, .int .i64 0, .int .i64 0, .int .i64 0] 80) = W := ⟨_, rfl⟩
    rw [hW] at hb0 A0
    have HB0 := Lib.hid hb0
    clear hb0
    by_cases hz : i < 0
    · go_enter Try.func33, Try.ntmps33
      go_upto_region 1 with fail
      clear hW
      go_wp2_with (refine store_ino rfl (.tmp 4) (.tmp 13) rfl rfl w.heap.size ino0 ino0 rfl rfl rfl rfl A0.out ?_; intro w5 hA hB _; have A5 := Lib.hid hA; have B5 := Lib.hid (HB0.out.trans hB); clear hA hB)
      exact ret_ino1 rfl w.heap.size ino0 rfl rfl A5.out rfl ⟨rfl, B5.out⟩
    · have hz2 : 16 ≤ i := by omega
      have hz0 : 0 ≤ i := by omega
      go_enter Try.func33, Try.ntmps33
      go_upto_region 1 with fail
      clear hW
      go_wp2_with (refine store_ino rfl (.tmp 4) (.tmp 13) rfl rfl w.heap.size ino0 ino0 rfl rfl rfl rfl A0.out ?_; intro w5 hA hB _; have A5 := Lib.hid hA; have B5 := Lib.hid (HB0.out.trans hB); clear hA hB)
      exact ret_ino1 rfl w.heap.size ino0 rfl rfl A5.out rfl ⟨rfl, B5.out⟩
set_option maxRecDepth 100000 in
set_option maxHeartbeats 1600000 in
theorem cent_any (w : World) (d : Value) (ss : List (List Int)) (i : Int) (h : Dk w d ss) (hi : wf64 i) : Calls Try.prog 18 #[d, .int .i64 i] w fun e w' => e = .returned (aggE (entAt ss i)) ∧ Below w.heap.size w w' := by
  have A0 := Lib.hid (atE_lit w)
  have hb0 := below_alloc (Below.refl w.heap.size w) (.cells #[.bool false, .int .i64 0, .string { data := #[] }, .int .i64 0] 42)
  obtain ⟨i1, i2⟩ := rows.wf_i64 hi
  by_cases hin : 0 ≤ i ∧ i < 24
  · have e : entAt ss i = entOfV (secAt ss (17 + i)) := by rw [entAt, if_pos hin]
    rw [e]
    have HT := Lib.hid fun w' (hb : Below w.heap.size w w') => sread_any w' d ss (17 + i) (h.later hb) (WalkArith.wf_i64 (by omega))
    have hS := secAt_sec h.secs.1 (17 + i)
    have HI := Lib.hid fun w => entryOf_any (secAt ss (17 + i)) hS w
    have _h4 := True.intro
    obtain ⟨j1, j2⟩ := hin
    obtain ⟨W, hW⟩ : ∃ W, w.alloc (.cells #[.bool false, .int .i64 0, .string { data := #[] }, .int .i64 0] 42) = W := ⟨_, rfl⟩
    rw [hW] at hb0 A0
    have HB0 := Lib.hid hb0
    generalize entOfV (secAt ss (17 + i)) = x at *
    generalize entOfB (secAt ss (17 + i)) = xb at *
    generalize secAt ss (17 + i) = s at *
    clear h hS e hb0
    go_enter Try.func18, Try.ntmps18
    go_upto_region 1 with fail
    clear hW
    go_wp2_with (first | (go_at_call 32; refine (HT.out _ HB0.out).mono ?_; rintro e w1 ⟨rfl, hb⟩; have B1 := Lib.hid (below_trans HB0.out hb); have A1 := Lib.hid (A0.out.later hb); clear hb) | (go_at_call 31; refine (HI.out _).mono ?_; rintro e w3 ⟨rfl, hb⟩; have B3 := Lib.hid (below_trans B1.out hb); have A3 := Lib.hid (A1.out.later hb); clear hb) | (refine store_ent rfl (.tmp 5) (.tmp 20) rfl rfl w3.heap.size x ent0 rfl rfl (atE_lit w3) ?_; intro w4 hA hB _; have hb := (below_alloc (Below.refl _ w3) _).trans hB; have B4 := Lib.hid (below_trans B3.out hb); have A4 := Lib.hid (A3.out.later hb); have X4 := Lib.hid hA; clear hA hB hb) | (refine load_ent rfl (.tmp 5) rfl w3.heap.size rfl x X4.out ?_) | (refine store_ent rfl (.tmp 4) (.tmp 22) rfl rfl w.heap.size x ent0 rfl rfl A4.out ?_; intro w5 hA hB _; have A5 := Lib.hid hA; have B5 := Lib.hid (B4.out.trans hB); clear hA hB))
    exact ret_ent1 rfl w.heap.size x rfl A5.out rfl ⟨rfl, B5.out⟩
  · have e : entAt ss i = ent0 := by rw [entAt, if_neg hin]
    rw [e]
    clear h e
    obtain ⟨W, hW⟩ : ∃ W, w.alloc (.cells #[.bool false, .int .i64 0, .string { data := #[] }, .int .i64 0] 42) = W := ⟨_, rfl⟩
    rw [hW] at hb0 A0
    have HB0 := Lib.hid hb0
    clear hb0
    by_cases hz : i < 0
    · go_enter Try.func18, Try.ntmps18
      go_upto_region 1 with fail
      clear hW
      go_wp2_with (refine store_ent rfl (.tmp 4) (.tmp 13) rfl rfl w.heap.size ent0 ent0 rfl rfl A0.out ?_; intro w5 hA hB _; have A5 := Lib.hid hA; have B5 := Lib.hid (HB0.out.trans hB); clear hA hB)
      exact ret_ent1 rfl w.heap.size ent0 rfl A5.out rfl ⟨rfl, B5.out⟩
    · have hz2 : 24 ≤ i := by omega
      have hz0 : 0 ≤ i := by omega
      go_enter Try.func18, Try.ntmps18
      go_upto_region 1 with fail
      clear hW
      go_wp2_with (refine store_ent rfl (.tmp 4) (.tmp 13) rfl rfl w.heap.size ent0 ent0 rfl rfl A0.out ?_; intro w5 hA hB _; have A5 := Lib.hid hA; have B5 := Lib.hid (HB0.out.trans hB); clear hA hB)
      exact ret_ent1 rfl w.heap.size ent0 rfl A5.out rfl ⟨rfl, B5.out⟩
end Go.Proofs.Ytpckdjnddoaffaa.lk
/- AllocFree's walk, over what the code's functions give. -/
namespace Go.Proofs.Ytpckdjnddoaffaa.al
set_option maxRecDepth 100000
open Go.ChangeShapes Go.WideShapes Go.ChangeAt Go.RowKit
open Go.Proofs.Ytpckdjnddoaffaa.rows
open Go.Proofs.Ytpckdjnddoaffaa.sec
open Go.Proofs.Ytpckdjnddoaffaa.dsk (wf64 Wr Wr.ok Wr.c Wr.c_len wrsC)
open Go.Proofs.Ytpckdjnddoaffaa.ly
open Go.Proofs.Ytpckdjnddoaffaa.lk
set_option linter.unusedVariables false
set_option linter.unusedSimpArgs false

theorem blk_all (ss : List (List Int)) (z : Int) (hz : z = 24 - (cntB ss : Int)) : blkB ss z = true ∧ blkL ss z = ofNats (frB ss) := by
  obtain ⟨h1, h2⟩ := frB_len ss
  have hl : ((frU ss 25).length : Int) = z := by unfold frB at h1; omega
  exact blk_done (Nat.le_refl _) hl
theorem blk_over (ss : List (List Int)) (z : Int) (hz : z = 24 - (cntB ss : Int) + 1) : blkB ss z = false ∧ blkL ss z = [] := by
  obtain ⟨h1, h2⟩ := frB_len ss
  exact blk_not (Or.inr (by unfold frB at h1; omega))
theorem blk_some (ss : List (List Int)) (m : Nat) (h : m ≤ (frB ss).length) : blkB ss (m : Int) = true ∧ blkL ss (m : Int) = ofNats ((frB ss).take m) := by
  have h1 : blkB ss (m : Int) = true := by rw [blkB, decide_eq_true_eq]; omega
  exact ⟨h1, by rw [blkL, if_pos h1]; rfl⟩
theorem frI_facts (ss : List (List Int)) (i : Nat) (hi : i < 16) : ((frI ss).isSome = false → takenB ss (i : Int) = true) ∧ ((frI ss).isSome = true → (i < (frI ss).getD 0 → takenB ss (i : Int) = true) ∧ (i = (frI ss).getD 0 → takenB ss (i : Int) = false)) := by
  cases h : frI ss with
  | none =>
    have h2 := upto_none.1 h i hi
    exact ⟨(fun _ => by simpa using h2), (fun h => by cases h)⟩
  | some n =>
    obtain ⟨h1, h2, h3⟩ := upto_some h
    refine ⟨(fun h => by cases h), (fun _ => ⟨fun hl => ?_, fun he => ?_⟩)⟩
    · have := h3 i hl; simpa using this
    · have e : i = n := he
      subst e
      simpa using h2
theorem frE_facts (ss : List (List Int)) (i : Nat) (hi : i < 24) : ((frE ss).isSome = false → (entAt ss (i : Int)).used = true) ∧ ((frE ss).isSome = true → (i < (frE ss).getD 0 → (entAt ss (i : Int)).used = true) ∧ (i = (frE ss).getD 0 → (entAt ss (i : Int)).used = false)) := by
  cases h : frE ss with
  | none =>
    have h2 := upto_none.1 h i hi
    exact ⟨(fun _ => by simpa using h2), (fun h => by cases h)⟩
  | some n =>
    obtain ⟨h1, h2, h3⟩ := upto_some h
    refine ⟨(fun h => by cases h), (fun _ => ⟨fun hl => ?_, fun he => ?_⟩)⟩
    · have := h3 i hl; simpa using this
    · have e : i = n := he
      subst e
      simpa using h2
theorem frB_facts (ss : List (List Int)) (i : Nat) (hi : i < (frB ss).length) : ∃ b : Nat, (ofNats (frB ss)).getD i 0 = (b : Int) ∧ 1 ≤ b ∧ b ≤ 24 ∧ usedB ss b = false ∧ (0 < i → (ofNats (frB ss)).getD (i - 1) 0 < (b : Int)) := by
  have hs := frU_sorted ss 25
  obtain ⟨h1, h2⟩ := (frU_mem ss 25 (frB ss)[i]).1 (List.getElem_mem hi)
  have e : ∀ j (hj : j < (frB ss).length), (ofNats (frB ss)).getD j 0 = ((frB ss)[j] : Int) := fun j hj => by
    have hj2 : j < (ofNats (frB ss)).length := by rw [ofNats_len]; exact hj
    rw [List.getD, List.getElem?_eq_getElem hj2, Option.getD_some]
    simp [ofNats]
  refine ⟨(frB ss)[i], e i hi, ?_, by omega, h2, fun h0 => ?_⟩
  · have : (frB ss)[i] ≠ 0 := fun e0 => by rw [e0, used0] at h2; cases h2
    omega
  · rw [e (i - 1) (by omega)]
    have := List.pairwise_iff_getElem.1 hs (i - 1) i (by unfold frB at hi; omega) hi (by omega)
    exact Int.ofNat_lt.2 this
theorem rd_pre_i {w : World} {p : Option Addr} {n c : Nat} {L : List Int} (h : Rd w 1 (.slice p n c) n (i64s L)) (k : Nat) (hk : k ≤ n) (hc : p = none → k = 0) : Rd w 1 (.slice p k c) k (i64s (L.take k)) := by
  by_cases h0 : k = 0
  · subst h0
    rcases h with ⟨p', cap', h1, _, _, h2⟩ | ⟨b, off, cap', h1, h2, h3, h4, h5, h6, h7⟩
    · cases h1; exact Or.inl ⟨_, _, rfl, rfl, rfl, h2⟩
    · cases h1; exact Or.inl ⟨_, _, rfl, rfl, rfl, fun h => by cases h⟩
  · rcases h with ⟨p', cap', h1, rfl, _⟩ | ⟨b, off, cap', h1, h2, h3, h4, h5, h6, h7⟩
    · omega
    · cases h1
      have hl : L.length = n := by simpa [i64s] using h6
      refine Or.inr ⟨b, off, c, rfl, by omega, by omega, h4, h5, by simp [i64s]; omega, fun i u hi => h7 i u ?_⟩
      simp only [i64s, List.getElem?_map, List.getElem?_take] at hi ⊢
      by_cases hik : i < k
      · simpa [hik] using hi
      · simp [hik] at hi
theorem ofNats_take (l : List Nat) (k : Nat) : ofNats (l.take k) = (ofNats l).take k := by simp [ofNats, List.map_take]
set_option maxRecDepth 100000 in
set_option maxHeartbeats 1600000 in
theorem free_of (C : AllocIs) (K : LookIs)
    (p : Option Addr) (n c : Nat) (ss : List (List Int)) (p2 : Option Addr) (m c2 : Nat) (ws : List Wr) (w : World) (h1 : Rd w 32 (.slice p n c) n (cellsOf ss)) (hn : n ≤ maxLen) (hs : Secs ss)
    (h2 : Rd w 36 (.slice p2 m c2) m (wrsC ws)) (hm : m ≤ maxLen) (hok : ∀ x ∈ ws, x.ok) :
    Calls Try.prog 4 #[.slice p n c, .slice p2 m c2] w fun e w' => e = .returned (.bool true) ∧ Below w.heap.size w w' := by
  have HK := Lib.hid (knows_of C)
  have hn9 : (n : Int) ≤ 9223372036854775807 := by unfold maxLen at hn; omega
  have hm9 : (m : Int) ≤ 9223372036854775807 := by unfold maxLen at hm; omega
  by_cases hbig : 200 < n ∨ 40 < m
  · have h3 : 200 < n ∨ (n ≤ 200 ∧ 40 < m) := by omega
    clear h1 h2 hbig hs hok
    rcases h3 with h | ⟨h, h'⟩
    all_goals
      first | (have j1 : (200 : Int) < n := by omega) | (have j1 : (n : Int) ≤ 200 := by omega)
      first | (have j2 : (40 : Int) < m := by omega) | skip
      clear hn hm
      go_enter Try.func4, Try.ntmps4
      go_wp2_with (go_at_call 5; refine (HK.out _).mono ?_; rintro e w2 ⟨rfl, hb2⟩)
      go_ret
      exact ⟨rfl, hb2⟩
  · have j1 : (n : Int) ≤ 200 := by omega
    have j2 : (m : Int) ≤ 40 := by omega
    have HD := Lib.hid fun w' (hb : Below w.heap.size w w') => disk_any p n c ss p2 m c2 ws w' (h1.later hb) hs (by omega) (h2.later hb) hok (by omega)
    generalize withL ss ws = l at *
    have HC := Lib.hid C
    have HKK := Lib.hid K
    have C1 := Lib.hid fun w' d (hd : Dk w' d l) => HC.out.ino w' d l hd
    have C2 := Lib.hid fun w' d (hd : Dk w' d l) => HC.out.slot w' d l hd
    have C3 := Lib.hid fun w' d (z : Int) (hd : Dk w' d l) (hz : z = 24 - (cntB l : Int)) (hw : wf64 z) => by
      have h := HC.out.blocks w' d l z hd hw
      rw [(blk_all l z hz).1, (blk_all l z hz).2] at h
      exact h
    have C3b := Lib.hid fun w' d (z : Int) (hd : Dk w' d l) (hz : z = 24 - (cntB l : Int) + 1) (hw : wf64 z) => by
      have h := HC.out.blocks w' d l z hd hw
      rw [(blk_over l z hz).1, (blk_over l z hz).2] at h
      exact h
    have C4 := Lib.hid fun w' d (hd : Dk w' d l) => HC.out.count w' d l hd
    have C5 := Lib.hid fun w' d (k : Nat) (hd : Dk w' d l) (hk : k ≤ (frB l).length) (hw : wf64 (k : Int)) => by
      have h := HC.out.blocks w' d l (k : Int) hd hw
      rw [(blk_some l k hk).1, (blk_some l k hk).2] at h
      exact h
    have FI := Lib.hid (frI_facts l)
    have FE := Lib.hid (frE_facts l)
    have FB := Lib.hid (frB_facts l)
    have hsI := frI_some l
    have hsE := frE_some l
    obtain ⟨hB1, hB2⟩ := frB_len l
    have HBL := Lib.hid hB1
    have hcI := cntU_le (fun n => takenB l (n : Int)) 16
    have hcE := cntU_le (fun k => (entAt l (k : Int)).used) 24
    have hI9 : (cntI l : Int) ≤ 16 := by unfold cntI; omega
    have hE9 : (cntE l : Int) ≤ 24 := by unfold cntE; omega
    clear hcI hcE
    unfold optV at C1 C2
    unfold cntV at C4
    generalize (frI l).getD 0 = x1 at *
    generalize (frI l).isSome = b1 at *
    generalize (frE l).getD 0 = x2 at *
    generalize (frE l).isSome = b2 at *
    generalize cntI l = a0 at *
    generalize cntE l = e0 at *
    generalize cntB l = c0 at *
    have hq1 : decide ((a0 : Int) < 16) = b1 := by
      rw [hsI]; congr 1; exact propext (by omega)
    have hq2 : decide ((e0 : Int) < 24) = b2 := by
      rw [hsE]; congr 1; exact propext (by omega)
    have hc24 : (c0 : Int) ≤ 24 := by omega
    clear h1 h2 hbig hs hok hn hm C K hsI hsE hB1
    go_enter Try.func4, Try.ntmps4
    go_upto_region 11 with (first
      | (go_at_call 5; refine (HK.out _).mono ?_; rintro e w1 ⟨rfl, hb⟩; have B1 := Lib.hid hb; clear hb)
      | (go_at_call 6; refine (HD.out _ B1.out).mono ?_; rintro e w2 ⟨d, rfl, hd, hb⟩; have B2 := Lib.hid (below_trans B1.out hb); have D2 := Lib.hid hd; clear hb hd)
      | (go_at_call 14; refine (C4.out _ _ D2.out).mono ?_; rintro e w3 ⟨rfl, hb⟩; have B3 := Lib.hid (below_trans B2.out hb); have D3 := Lib.hid (D2.out.later hb); clear hb)
      | (go_at_call 8; refine (C1.out _ _ D3.out).mono ?_; rintro e w4 ⟨rfl, hb⟩; have B4 := Lib.hid (below_trans B3.out hb); have D4 := Lib.hid (D3.out.later hb); clear hb)
      | (go_at_call 10; refine (C2.out _ _ D4.out).mono ?_; rintro e w5 ⟨rfl, hb⟩; have B5 := Lib.hid (below_trans B4.out hb); have D5 := Lib.hid (D4.out.later hb); clear hb)
      | (go_at_call 12; with_reducible refine (C3.out _ _ _ D5.out (by omega) (wf_byte (by omega))).mono ?_; rintro e w6 ⟨q6, m6, k6, rfl, hm6, hr6, hb⟩; have B6 := Lib.hid (below_trans B5.out hb); have D6 := Lib.hid (D5.out.later hb); rw [ofNats_len, HBL.out] at hm6; have M6 := Lib.hid hm6; have I6 := Lib.hid hr6; have HM6 := Lib.hid (show (m6 : Int) = 24 - (c0 : Int) from (by omega)); have hm6n : ((m6 : Int) != 24 - (c0 : Int)) = false := (by simp; omega); clear hb hm6 hr6)
      | (go_at_call 12; with_reducible refine (C3b.out _ _ _ D6.out (by omega) (wf_byte (by omega))).mono ?_; rintro e w7 ⟨q7, m7, k7, rfl, hm7, hr7, hb⟩; have hz7 : m7 = 0 := (by simpa using hm7); clear hm7; subst hz7; have B7 := Lib.hid (below_trans B6.out hb); have D7 := Lib.hid (D6.out.later hb); have I7 := Lib.hid (I6.out.later hb); clear hb hr7))
    clear B1 B2 B3 B4 B5 B6 D2 D3 D4 D5 D6 I6 C1 C2 C3 C3b C4 HD HK hq1 hq2
    have HT := Lib.hid fun (k : Nat) (hk : k ≤ 24) w' (hb : Below w7.heap.size w7 w') => HKK.out.taken w' d l (k : Int) (D7.out.later hb) (wf_byte (by omega))
    have HE := Lib.hid fun (k : Nat) (hk : k ≤ 24) w' (hb : Below w7.heap.size w7 w') => HKK.out.entry w' d l (k : Int) (D7.out.later hb) (wf_byte (by omega))
    go_wp2_with fail
    go_loopw [17] (fun kv wr => ∃ k : Nat, k ≤ 16 ∧ kv = .int .i64 (k : Int) ∧ Hid (Below w7.heap.size w7 wr)) (fun kv _ => 16 - (intOf kv).toNat)
    case atStart => exact ⟨0, by omega, rfl, Lib.hid (Below.refl _ _)⟩
    case round =>
      obtain ⟨k, hk, rfl, HB⟩ := hrel
      by_cases hlt : k < 16
      · have hlti : (k : Int) < 16 := by omega
        have HTk := Lib.hid fun w' hb => HT.out k (by omega) w' hb
        obtain ⟨f1, f2⟩ := FI.out k hlt
        cases b1 with
        | false =>
          have e1 := f1 rfl
          rw [e1] at HTk
          clear f1 f2 e1
          go_wp2_with (go_at_call 17; (with_reducible refine (HTk.out _ HB.out).mono ?_); rintro e w8 ⟨rfl, hb⟩; have B8 := Lib.hid (below_trans HB.out hb); clear hb)
          go_roundw
          case rel => exact ⟨k + 1, by omega, by go_num, B8⟩
          case measure => simp [intOf]; omega
        | true =>
          obtain ⟨f3, f4⟩ := f2 rfl
          by_cases hkx : k < x1
          · have hkxi : (k : Int) < x1 := by omega
            have hne : ((k : Int) == (x1 : Int)) = false := beq_eq_false_iff_ne.2 (by omega)
            have hne2 : (k == x1) = false := beq_eq_false_iff_ne.2 (by omega)
            have hne3 : ¬ k = x1 := by omega
            have e1 := f3 hkx
            rw [e1] at HTk
            clear f1 f2 f3 f4 e1
            go_wp2_with (go_at_call 17; (with_reducible refine (HTk.out _ HB.out).mono ?_); rintro e w8 ⟨rfl, hb⟩; have B8 := Lib.hid (below_trans HB.out hb); clear hb)
            go_roundw
            case rel => exact ⟨k + 1, by omega, by go_num, B8⟩
            case measure => simp [intOf]; omega
          · have hkxi : (x1 : Int) ≤ k := by omega
            by_cases he : k = x1
            · have e1 := f4 he
              obtain rfl : x1 = k := he.symm
              rw [e1] at HTk
              clear f1 f2 f3 f4 e1
              go_wp2_with (go_at_call 17; (with_reducible refine (HTk.out _ HB.out).mono ?_); rintro e w8 ⟨rfl, hb⟩; have B8 := Lib.hid (below_trans HB.out hb); clear hb)
              go_roundw
              case rel => exact ⟨x1 + 1, by omega, by go_num, B8⟩
              case measure => simp [intOf]; omega
            · have hne : ((k : Int) == (x1 : Int)) = false := beq_eq_false_iff_ne.2 (by omega)
              have hne2 : (k == x1) = false := beq_eq_false_iff_ne.2 (by omega)
              clear f1 f2 f3 f4
              go_wp2_with fail
              go_roundw
              case rel => exact ⟨k + 1, by omega, by go_num, HB⟩
              case measure => simp [intOf]; omega
      · have hge : (16 : Int) ≤ k := by omega
        obtain ⟨wa, hwa⟩ : ∃ wa, wr = wa := ⟨_, rfl⟩
        rw [hwa] at HB
        rw [hwa]
        have HBA := HB
        clear HB hwa
        go_wp2_with fail
        go_loopw [18, 19] (fun kv _ wr => ∃ k : Nat, k ≤ 24 ∧ kv = .int .i64 (k : Int) ∧ Hid (Below w7.heap.size w7 wr)) (fun kv _ _ => 24 - (intOf kv).toNat)
        case atStart => exact ⟨0, by omega, rfl, HBA⟩
        case round =>
          obtain ⟨k2, hk2, rfl, HB⟩ := hrel
          by_cases hlt : k2 < 24
          · have hlti : (k2 : Int) < 24 := by omega
            have HEk := Lib.hid (HE.out k2 (by omega) wr HB.out)
            obtain ⟨f1, f2⟩ := FE.out k2 hlt
            generalize entAt l (k2 : Int) = x at HEk f1 f2
            obtain ⟨u, pa, nm, tg⟩ := x
            simp only at f1 f2
            cases b2 with
            | false =>
              have e1 := f1 rfl
              subst e1
              clear f1 f2
              go_wp2_with (go_at_call 18; refine HEk.out.mono ?_; rintro e w8 ⟨rfl, hb⟩; have B8 := Lib.hid (below_trans HB.out hb); clear hb)
              go_roundw
              case rel => exact ⟨k2 + 1, by omega, by go_num, Lib.hid (below_alloc B8.out _)⟩
              case measure => simp [intOf]; omega
            | true =>
              obtain ⟨f3, f4⟩ := f2 rfl
              by_cases hkx : k2 < x2
              · have hkxi : (k2 : Int) < x2 := by omega
                have hne : ((k2 : Int) == (x2 : Int)) = false := beq_eq_false_iff_ne.2 (by omega)
                have hne2 : (k2 == x2) = false := beq_eq_false_iff_ne.2 (by omega)
                have hne3 : ¬ k2 = x2 := by omega
                have e1 := f3 hkx
                subst e1
                clear f1 f2 f3 f4
                go_wp2_with (go_at_call 18; refine HEk.out.mono ?_; rintro e w8 ⟨rfl, hb⟩; have B8 := Lib.hid (below_trans HB.out hb); clear hb)
                go_roundw
                case rel => exact ⟨k2 + 1, by omega, by go_num, Lib.hid (below_alloc B8.out _)⟩
                case measure => simp [intOf]; omega
              · have hkxi : (x2 : Int) ≤ k2 := by omega
                by_cases he : k2 = x2
                · have e1 := f4 he
                  obtain rfl : x2 = k2 := he.symm
                  subst e1
                  clear f1 f2 f3 f4
                  go_wp2_with (go_at_call 18; refine HEk.out.mono ?_; rintro e w8 ⟨rfl, hb⟩; have B8 := Lib.hid (below_trans HB.out hb); clear hb)
                  go_roundw
                  case rel => exact ⟨x2 + 1, by omega, by go_num, Lib.hid (below_alloc B8.out _)⟩
                  case measure => simp [intOf]; omega
                · have hne : ((k2 : Int) == (x2 : Int)) = false := beq_eq_false_iff_ne.2 (by omega)
                  have hne2 : (k2 == x2) = false := beq_eq_false_iff_ne.2 (by omega)
                  clear f1 f2 f3 f4
                  go_wp2_with (go_at_call 18; refine HEk.out.mono ?_; rintro e w8 ⟨rfl, hb⟩; have B8 := Lib.hid (below_trans HB.out hb); clear hb)
                  go_roundw
                  case rel => exact ⟨k2 + 1, by omega, by go_num, Lib.hid (below_alloc B8.out _)⟩
                  case measure => simp [intOf]; omega
          · have hge2 : (24 : Int) ≤ k2 := by omega
            obtain ⟨wb, hwb⟩ : ∃ wb, wr = wb := ⟨_, rfl⟩
            rw [hwb] at HB
            rw [hwb]
            have HBB := HB
            clear HB hwb HBA
            have hm9 : (m6 : Int) ≤ 24 := by have := HM6.out; omega
            go_wp2_with fail
            go_loopw [20] (fun kv wr => ∃ k : Nat, k ≤ m6 ∧ kv = .int .i64 (k : Int) ∧ Hid (Below w7.heap.size w7 wr)) (fun kv _ => m6 - (intOf kv).toNat)
            case atStart => exact ⟨0, by omega, rfl, HBB⟩
            case round =>
              obtain ⟨i, hi, rfl, HB⟩ := hrel
              by_cases hlt : i < m6
              · have hlti : (i : Int) < m6 := by omega
                have hfl : i < (frB l).length := by have := HBL.out; have := HM6.out; omega
                obtain ⟨f, hf1, hf2, hf3, hfu, hfs⟩ := FB.out i hfl
                obtain ⟨b, o, rfl, hmk, _, hbl, _, hcell⟩ := I7.out.at hlt
                have hmki : (m6 : Int) ≤ k6 := by omega
                have hc1 := hcell i hlt
                rw [hf1] at hc1
                have HC := Lib.hid fun w' (hw : Below wr.heap.size wr w') => ((below_trans HB.out hw).cell (p := ⟨b, o + i, none⟩) hbl).trans hc1
                have HO := Lib.hid fun w' (hw : Below wr.heap.size wr w') => owned_no HKK.out w' d l f (D7.out.later (below_trans HB.out hw)) hf2 hf3 hfu
                have hg1 : (1 : Int) ≤ f := by omega
                have hg2 : (f : Int) ≤ 24 := by omega
                have hd1 : decide ((f : Int) < 1) = false := decide_eq_false (by omega)
                have hd2 : decide ((24 : Int) < (f : Int)) = false := decide_eq_false (by omega)
                by_cases h0 : i = 0
                · have hz : decide ((0 : Int) < (i : Int)) = false := by rw [h0]; rfl
                  have hz2 : decide (0 < i) = false := by rw [h0]; rfl
                  clear hcell hc1 hf1 hfs hfu hfl hf2 hf3 h0
                  have h0 := Below.refl wr.drew.heap.size wr.drew
                  go_wp2_with fail
                  refine wp_region_held_drew (S := ext wr.drew) (by kernel_rfl) (Below.refl _ _) (fun hH0 => ?_)
                  refine wpAnyH_take (i := 0) (oi := { dst := some 166, op := Op.move (Operand.tmp 13), type := 31, pos := "law.go:82", after := #[], guard := none }) (v := ?_) rfl (by kernel_rfl) (by kernel_rfl) (by kernel_rfl) (fun _ _ _ h => h) (Or.inl ⟨by rfl, ?_⟩) (by assumption) ?_
                  rotate_left
                  · (intro w' hSw; go_simp; try with_reducible rfl)
                  try simp only [Act.put, List.setIfInBounds_toArray, List.set_cons_zero, List.set_cons_succ]
                  refine wpAnyH_take (i := 1) (oi := { dst := some 167, op := Op.move (Operand.tmp 20), type := 3, pos := "law.go:82", after := #[], guard := none }) (v := ?_) rfl (by kernel_rfl) (by kernel_rfl) (by kernel_rfl) (fun _ _ _ h => h) (Or.inl ⟨by rfl, ?_⟩) (by assumption) ?_
                  rotate_left
                  · (intro w' hSw; go_simp; try with_reducible rfl)
                  try simp only [Act.put, List.setIfInBounds_toArray, List.set_cons_zero, List.set_cons_succ]
                  refine wpAnyH_take (i := 2) (oi := { dst := some 168, op := Op.indexAddr 31 (Operand.tmp 166) (Operand.tmp 167), type := 0, pos := "law.go:82", after := #[{ on := 0, ground := Ground.data }, { on := 1, ground := Ground.data }], guard := none }) (v := ?_) rfl (by kernel_rfl) (by kernel_rfl) (by kernel_rfl) (fun _ _ _ h => h) (Or.inl ⟨by rfl, ?_⟩) (by assumption) ?_
                  rotate_left
                  · (intro w' hSw; go_simp; try with_reducible rfl)
                  try simp only [Act.put, List.setIfInBounds_toArray, List.set_cons_zero, List.set_cons_succ]
                  refine' wpAnyH_take (i := 3) (oi := { dst := some 169, op := Op.load 3 (Operand.tmp 168), type := 3, pos := "law.go:82", after := #[{ on := 2, ground := Ground.data }], guard := none }) (v := _) rfl (by kernel_rfl) (by kernel_rfl) (by kernel_rfl) (fun _ _ _ h => h) (Go.Proofs.Ytpckdjnddoaffaa.dsk.ld_cell (by rfl) 3 _ Try.underlying3 rfl _ rfl b (o + i) rfl _ (fun w' hw => HC.out w' (below_drew hw))) (by assumption) ?_
                  try simp only [Act.put, List.setIfInBounds_toArray, List.set_cons_zero, List.set_cons_succ]
                  refine wpAnyH_take (i := 4) (oi := { dst := some 170, op := Op.binOp BinOp.lss 3 (Operand.tmp 169) (Operand.const (Value.int IntKind.i64 1)) 3, type := 4, pos := "law.go:82", after := #[{ on := 3, ground := Ground.data }], guard := none }) (v := ?_) rfl (by kernel_rfl) (by kernel_rfl) (by kernel_rfl) (fun _ _ _ h => h) (Or.inl ⟨by rfl, ?_⟩) (by assumption) ?_
                  rotate_left
                  · (intro w' hSw; go_simp; try with_reducible rfl)
                  try simp only [Act.put, List.setIfInBounds_toArray, List.set_cons_zero, List.set_cons_succ]
                  refine wpAnyH_take (i := 5) (oi := { dst := some 171, op := Op.move (Operand.tmp 170), type := 4, pos := "law.go:82", after := #[{ on := 4, ground := Ground.data }], guard := none }) (v := ?_) rfl (by kernel_rfl) (by kernel_rfl) (by kernel_rfl) (fun _ _ _ h => h) (Or.inl ⟨by rfl, ?_⟩) (by assumption) ?_
                  rotate_left
                  · (intro w' hSw; go_simp; try with_reducible rfl)
                  try simp only [Act.put, List.setIfInBounds_toArray, List.set_cons_zero, List.set_cons_succ]
                  refine wpAnyH_take (i := 6) (oi := { dst := some 172, op := Op.move (Operand.tmp 13), type := 31, pos := "law.go:82", after := #[{ on := 5, ground := Ground.guard }], guard := some (5, false) }) (v := ?_) rfl (by kernel_rfl) (by kernel_rfl) (by kernel_rfl) (fun _ _ _ h => h) (Or.inl ⟨by rfl, ?_⟩) (by assumption) ?_
                  rotate_left
                  · (intro w' hSw; go_simp; try with_reducible rfl)
                  try simp only [Act.put, List.setIfInBounds_toArray, List.set_cons_zero, List.set_cons_succ]
                  refine wpAnyH_take (i := 7) (oi := { dst := some 173, op := Op.move (Operand.tmp 20), type := 3, pos := "law.go:82", after := #[{ on := 5, ground := Ground.guard }], guard := some (5, false) }) (v := ?_) rfl (by kernel_rfl) (by kernel_rfl) (by kernel_rfl) (fun _ _ _ h => h) (Or.inl ⟨by rfl, ?_⟩) (by assumption) ?_
                  rotate_left
                  · (intro w' hSw; go_simp; try with_reducible rfl)
                  try simp only [Act.put, List.setIfInBounds_toArray, List.set_cons_zero, List.set_cons_succ]
                  refine wpAnyH_take (i := 8) (oi := { dst := some 174, op := Op.indexAddr 31 (Operand.tmp 172) (Operand.tmp 173), type := 0, pos := "law.go:82", after := #[{ on := 6, ground := Ground.data }, { on := 7, ground := Ground.data }, { on := 5, ground := Ground.guard }], guard := some (5, false) }) (v := ?_) rfl (by kernel_rfl) (by kernel_rfl) (by kernel_rfl) (fun _ _ _ h => h) (Or.inl ⟨by rfl, ?_⟩) (by assumption) ?_
                  rotate_left
                  · (intro w' hSw; go_simp; try with_reducible rfl)
                  try simp only [Act.put, List.setIfInBounds_toArray, List.set_cons_zero, List.set_cons_succ]
                  refine' wpAnyH_take (i := 9) (oi := { dst := some 175, op := Op.load 3 (Operand.tmp 174), type := 3, pos := "law.go:82", after := #[{ on := 8, ground := Ground.data }, { on := 5, ground := Ground.guard }], guard := some (5, false) }) (v := _) rfl (by kernel_rfl) (by kernel_rfl) (by kernel_rfl) (fun _ _ _ h => h) (Go.Proofs.Ytpckdjnddoaffaa.dsk.ld_cell (by rfl) 3 _ Try.underlying3 rfl _ rfl b (o + i) rfl _ (fun w' hw => HC.out w' (below_drew hw))) (by assumption) ?_
                  try simp only [Act.put, List.setIfInBounds_toArray, List.set_cons_zero, List.set_cons_succ]
                  refine wpAnyH_take (i := 10) (oi := { dst := some 176, op := Op.binOp BinOp.gtr 3 (Operand.tmp 175) (Operand.const (Value.int IntKind.i64 24)) 3, type := 4, pos := "law.go:82", after := #[{ on := 9, ground := Ground.data }, { on := 5, ground := Ground.guard }], guard := some (5, false) }) (v := ?_) rfl (by kernel_rfl) (by kernel_rfl) (by kernel_rfl) (fun _ _ _ h => h) (Or.inl ⟨by rfl, ?_⟩) (by assumption) ?_
                  rotate_left
                  · (intro w' hSw; go_simp; try with_reducible rfl)
                  try simp only [Act.put, List.setIfInBounds_toArray, List.set_cons_zero, List.set_cons_succ]
                  refine wpAnyH_take (i := 11) (oi := { dst := some 177, op := Op.pick (Operand.tmp 171) (Operand.const (Value.bool true)) (Operand.tmp 176), type := 4, pos := "law.go:82", after := #[{ on := 5, ground := Ground.data }, { on := 10, ground := Ground.data }], guard := none }) (v := ?_) rfl (by kernel_rfl) (by kernel_rfl) (by kernel_rfl) (fun _ _ _ h => h) (Or.inl ⟨by rfl, ?_⟩) (by assumption) ?_
                  rotate_left
                  · (intro w' hSw; go_simp; try with_reducible rfl)
                  try simp only [Act.put, List.setIfInBounds_toArray, List.set_cons_zero, List.set_cons_succ]
                  refine wpAnyH_take (i := 12) (oi := { dst := some 178, op := Op.move (Operand.tmp 177), type := 4, pos := "law.go:82", after := #[{ on := 11, ground := Ground.data }, { on := 5, ground := Ground.chain }], guard := none }) (v := ?_) rfl (by kernel_rfl) (by kernel_rfl) (by kernel_rfl) (fun _ _ _ h => h) (Or.inl ⟨by rfl, ?_⟩) (by assumption) ?_
                  rotate_left
                  · (intro w' hSw; go_simp; try with_reducible rfl)
                  try simp only [Act.put, List.setIfInBounds_toArray, List.set_cons_zero, List.set_cons_succ]
                  refine wpAnyH_take (i := 13) (oi := { dst := some 179, op := Op.move (Operand.tmp 20), type := 3, pos := "law.go:82", after := #[{ on := 12, ground := Ground.guard }], guard := some (12, false) }) (v := ?_) rfl (by kernel_rfl) (by kernel_rfl) (by kernel_rfl) (fun _ _ _ h => h) (Or.inl ⟨by rfl, ?_⟩) (by assumption) ?_
                  rotate_left
                  · (intro w' hSw; go_simp; try with_reducible rfl)
                  try simp only [Act.put, List.setIfInBounds_toArray, List.set_cons_zero, List.set_cons_succ]
                  refine wpAnyH_take (i := 14) (oi := { dst := some 180, op := Op.binOp BinOp.gtr 3 (Operand.tmp 179) (Operand.const (Value.int IntKind.i64 0)) 3, type := 4, pos := "law.go:82", after := #[{ on := 13, ground := Ground.data }, { on := 12, ground := Ground.guard }], guard := some (12, false) }) (v := ?_) rfl (by kernel_rfl) (by kernel_rfl) (by kernel_rfl) (fun _ _ _ h => h) (Or.inl ⟨by rfl, ?_⟩) (by assumption) ?_
                  rotate_left
                  · (intro w' hSw; go_simp; try with_reducible rfl)
                  try simp only [Act.put, List.setIfInBounds_toArray, List.set_cons_zero, List.set_cons_succ]
                  refine wpAnyH_take (i := 15) (oi := { dst := some 181, op := Op.move (Operand.tmp 180), type := 4, pos := "law.go:82", after := #[{ on := 14, ground := Ground.data }, { on := 12, ground := Ground.chain }, { on := 12, ground := Ground.guard }], guard := some (12, false) }) (v := ?_) rfl (by kernel_rfl) (by kernel_rfl) (by kernel_rfl) (fun _ _ _ h => h) (Or.inl ⟨by rfl, ?_⟩) (by assumption) ?_
                  rotate_left
                  · (intro w' hSw; go_simp; try with_reducible rfl)
                  try simp only [Act.put, List.setIfInBounds_toArray, List.set_cons_zero, List.set_cons_succ]
                  refine wpAnyH_take (i := 16) (oi := { dst := some 182, op := Op.move (Operand.tmp 13), type := 31, pos := "law.go:82", after := #[{ on := 15, ground := Ground.guard }], guard := some (15, true) }) (v := undef) rfl (by kernel_rfl) (by kernel_rfl) (by kernel_rfl) (fun _ _ _ h => h) (Or.inr ⟨by rfl, rfl⟩) (by assumption) ?_
                  try simp only [Act.put, List.setIfInBounds_toArray, List.set_cons_zero, List.set_cons_succ]
                  refine wpAnyH_take (i := 17) (oi := { dst := some 183, op := Op.move (Operand.tmp 20), type := 3, pos := "law.go:82", after := #[{ on := 15, ground := Ground.guard }], guard := some (15, true) }) (v := undef) rfl (by kernel_rfl) (by kernel_rfl) (by kernel_rfl) (fun _ _ _ h => h) (Or.inr ⟨by rfl, rfl⟩) (by assumption) ?_
                  try simp only [Act.put, List.setIfInBounds_toArray, List.set_cons_zero, List.set_cons_succ]
                  refine wpAnyH_take (i := 18) (oi := { dst := some 184, op := Op.indexAddr 31 (Operand.tmp 182) (Operand.tmp 183), type := 0, pos := "law.go:82", after := #[{ on := 16, ground := Ground.data }, { on := 17, ground := Ground.data }, { on := 15, ground := Ground.guard }], guard := some (15, true) }) (v := undef) rfl (by kernel_rfl) (by kernel_rfl) (by kernel_rfl) (fun _ _ _ h => h) (Or.inr ⟨by rfl, rfl⟩) (by assumption) ?_
                  try simp only [Act.put, List.setIfInBounds_toArray, List.set_cons_zero, List.set_cons_succ]
                  refine wpAnyH_take (i := 19) (oi := { dst := some 185, op := Op.load 3 (Operand.tmp 184), type := 3, pos := "law.go:82", after := #[{ on := 18, ground := Ground.data }, { on := 15, ground := Ground.guard }], guard := some (15, true) }) (v := undef) rfl (by kernel_rfl) (by kernel_rfl) (by kernel_rfl) (fun _ _ _ h => h) (Or.inr ⟨by rfl, rfl⟩) (by assumption) ?_
                  try simp only [Act.put, List.setIfInBounds_toArray, List.set_cons_zero, List.set_cons_succ]
                  refine wpAnyH_take (i := 20) (oi := { dst := some 186, op := Op.move (Operand.tmp 13), type := 31, pos := "law.go:82", after := #[{ on := 15, ground := Ground.guard }], guard := some (15, true) }) (v := undef) rfl (by kernel_rfl) (by kernel_rfl) (by kernel_rfl) (fun _ _ _ h => h) (Or.inr ⟨by rfl, rfl⟩) (by assumption) ?_
                  try simp only [Act.put, List.setIfInBounds_toArray, List.set_cons_zero, List.set_cons_succ]
                  refine wpAnyH_take (i := 21) (oi := { dst := some 187, op := Op.move (Operand.tmp 20), type := 3, pos := "law.go:82", after := #[{ on := 15, ground := Ground.guard }], guard := some (15, true) }) (v := undef) rfl (by kernel_rfl) (by kernel_rfl) (by kernel_rfl) (fun _ _ _ h => h) (Or.inr ⟨by rfl, rfl⟩) (by assumption) ?_
                  try simp only [Act.put, List.setIfInBounds_toArray, List.set_cons_zero, List.set_cons_succ]
                  refine wpAnyH_take (i := 22) (oi := { dst := some 188, op := Op.binOp BinOp.sub 3 (Operand.tmp 187) (Operand.const (Value.int IntKind.i64 1)) 3, type := 3, pos := "law.go:82", after := #[{ on := 21, ground := Ground.data }, { on := 15, ground := Ground.guard }], guard := some (15, true) }) (v := undef) rfl (by kernel_rfl) (by kernel_rfl) (by kernel_rfl) (fun _ _ _ h => h) (Or.inr ⟨by rfl, rfl⟩) (by assumption) ?_
                  try simp only [Act.put, List.setIfInBounds_toArray, List.set_cons_zero, List.set_cons_succ]
                  refine wpAnyH_take (i := 23) (oi := { dst := some 189, op := Op.indexAddr 31 (Operand.tmp 186) (Operand.tmp 188), type := 0, pos := "law.go:82", after := #[{ on := 20, ground := Ground.data }, { on := 22, ground := Ground.data }, { on := 15, ground := Ground.guard }], guard := some (15, true) }) (v := undef) rfl (by kernel_rfl) (by kernel_rfl) (by kernel_rfl) (fun _ _ _ h => h) (Or.inr ⟨by rfl, rfl⟩) (by assumption) ?_
                  try simp only [Act.put, List.setIfInBounds_toArray, List.set_cons_zero, List.set_cons_succ]
                  refine wpAnyH_take (i := 24) (oi := { dst := some 190, op := Op.load 3 (Operand.tmp 189), type := 3, pos := "law.go:82", after := #[{ on := 23, ground := Ground.data }, { on := 15, ground := Ground.guard }], guard := some (15, true) }) (v := undef) rfl (by kernel_rfl) (by kernel_rfl) (by kernel_rfl) (fun _ _ _ h => h) (Or.inr ⟨by rfl, rfl⟩) (by assumption) ?_
                  try simp only [Act.put, List.setIfInBounds_toArray, List.set_cons_zero, List.set_cons_succ]
                  refine wpAnyH_take (i := 25) (oi := { dst := some 191, op := Op.binOp BinOp.leq 3 (Operand.tmp 185) (Operand.tmp 190) 3, type := 4, pos := "law.go:82", after := #[{ on := 19, ground := Ground.data }, { on := 24, ground := Ground.data }, { on := 15, ground := Ground.guard }], guard := some (15, true) }) (v := undef) rfl (by kernel_rfl) (by kernel_rfl) (by kernel_rfl) (fun _ _ _ h => h) (Or.inr ⟨by rfl, rfl⟩) (by assumption) ?_
                  try simp only [Act.put, List.setIfInBounds_toArray, List.set_cons_zero, List.set_cons_succ]
                  refine wpAnyH_take (i := 26) (oi := { dst := some 192, op := Op.pick (Operand.tmp 181) (Operand.tmp 191) (Operand.const (Value.bool false)), type := 4, pos := "law.go:82", after := #[{ on := 15, ground := Ground.data }, { on := 25, ground := Ground.data }, { on := 12, ground := Ground.guard }], guard := some (12, false) }) (v := ?_) rfl (by kernel_rfl) (by kernel_rfl) (by kernel_rfl) (fun _ _ _ h => h) (Or.inl ⟨by rfl, ?_⟩) (by assumption) ?_
                  rotate_left
                  · (intro w' hSw; go_simp; try with_reducible rfl)
                  try simp only [Act.put, List.setIfInBounds_toArray, List.set_cons_zero, List.set_cons_succ]
                  refine wpAnyH_take (i := 27) (oi := { dst := some 193, op := Op.pick (Operand.tmp 178) (Operand.const (Value.bool true)) (Operand.tmp 192), type := 4, pos := "law.go:82", after := #[{ on := 12, ground := Ground.data }, { on := 26, ground := Ground.data }], guard := none }) (v := ?_) rfl (by kernel_rfl) (by kernel_rfl) (by kernel_rfl) (fun _ _ _ h => h) (Or.inl ⟨by rfl, ?_⟩) (by assumption) ?_
                  rotate_left
                  · (intro w' hSw; go_simp; try with_reducible rfl)
                  try simp only [Act.put, List.setIfInBounds_toArray, List.set_cons_zero, List.set_cons_succ]
                  refine wpAnyH_take (i := 28) (oi := { dst := some 194, op := Op.move (Operand.tmp 193), type := 4, pos := "law.go:82", after := #[{ on := 27, ground := Ground.data }, { on := 15, ground := Ground.chain }], guard := none }) (v := ?_) rfl (by kernel_rfl) (by kernel_rfl) (by kernel_rfl) (fun _ _ _ h => h) (Or.inl ⟨by rfl, ?_⟩) (by assumption) ?_
                  rotate_left
                  · (intro w' hSw; go_simp; try with_reducible rfl)
                  try simp only [Act.put, List.setIfInBounds_toArray, List.set_cons_zero, List.set_cons_succ]
                  refine wpAnyH_take (i := 29) (oi := { dst := some 195, op := Op.move (Operand.tmp 5), type := 25, pos := "law.go:82", after := #[{ on := 28, ground := Ground.guard }], guard := some (28, false) }) (v := ?_) rfl (by kernel_rfl) (by kernel_rfl) (by kernel_rfl) (fun _ _ _ h => h) (Or.inl ⟨by rfl, ?_⟩) (by assumption) ?_
                  rotate_left
                  · (intro w' hSw; go_simp; try with_reducible rfl)
                  try simp only [Act.put, List.setIfInBounds_toArray, List.set_cons_zero, List.set_cons_succ]
                  refine wpAnyH_take (i := 30) (oi := { dst := some 196, op := Op.move (Operand.tmp 13), type := 31, pos := "law.go:82", after := #[{ on := 28, ground := Ground.guard }], guard := some (28, false) }) (v := ?_) rfl (by kernel_rfl) (by kernel_rfl) (by kernel_rfl) (fun _ _ _ h => h) (Or.inl ⟨by rfl, ?_⟩) (by assumption) ?_
                  rotate_left
                  · (intro w' hSw; go_simp; try with_reducible rfl)
                  try simp only [Act.put, List.setIfInBounds_toArray, List.set_cons_zero, List.set_cons_succ]
                  refine wpAnyH_take (i := 31) (oi := { dst := some 197, op := Op.move (Operand.tmp 20), type := 3, pos := "law.go:82", after := #[{ on := 28, ground := Ground.guard }], guard := some (28, false) }) (v := ?_) rfl (by kernel_rfl) (by kernel_rfl) (by kernel_rfl) (fun _ _ _ h => h) (Or.inl ⟨by rfl, ?_⟩) (by assumption) ?_
                  rotate_left
                  · (intro w' hSw; go_simp; try with_reducible rfl)
                  try simp only [Act.put, List.setIfInBounds_toArray, List.set_cons_zero, List.set_cons_succ]
                  refine wpAnyH_take (i := 32) (oi := { dst := some 198, op := Op.indexAddr 31 (Operand.tmp 196) (Operand.tmp 197), type := 0, pos := "law.go:82", after := #[{ on := 30, ground := Ground.data }, { on := 31, ground := Ground.data }, { on := 28, ground := Ground.guard }], guard := some (28, false) }) (v := ?_) rfl (by kernel_rfl) (by kernel_rfl) (by kernel_rfl) (fun _ _ _ h => h) (Or.inl ⟨by rfl, ?_⟩) (by assumption) ?_
                  rotate_left
                  · (intro w' hSw; go_simp; try with_reducible rfl)
                  try simp only [Act.put, List.setIfInBounds_toArray, List.set_cons_zero, List.set_cons_succ]
                  refine' wpAnyH_take (i := 33) (oi := { dst := some 199, op := Op.load 3 (Operand.tmp 198), type := 3, pos := "law.go:82", after := #[{ on := 32, ground := Ground.data }, { on := 28, ground := Ground.guard }], guard := some (28, false) }) (v := _) rfl (by kernel_rfl) (by kernel_rfl) (by kernel_rfl) (fun _ _ _ h => h) (Go.Proofs.Ytpckdjnddoaffaa.dsk.ld_cell (by rfl) 3 _ Try.underlying3 rfl _ rfl b (o + i) rfl _ (fun w' hw => HC.out w' (below_drew hw))) (by assumption) ?_
                  try simp only [Act.put, List.setIfInBounds_toArray, List.set_cons_zero, List.set_cons_succ]
                  -- 34
                  refine wpAnyH_ready (rs := [34]) (by kernel_rfl) (by simp) ?_
                  refine AllReadyH.cons (o := { dst := some 200, op := Op.call { callee := Callee.value (Operand.func 19), args := #[Operand.tmp 195, Operand.tmp 199], argTypes := #[25, 3] }, type := 4, pos := "law.go:82", after := #[{ on := 29, ground := Ground.data }, { on := 33, ground := Ground.data }, { on := 28, ground := Ground.chain }, { on := 28, ground := Ground.guard }], guard := some (28, false) }) rfl (fun K hK => ?_) AllReadyH.nil
                  go_simp
                  refine (HO.out _ (below_drew h0)).mono ?_
                  rintro e v1 ⟨rfl, hb1⟩
                  have h1 := below_trans h0 hb1
                  dsimp only
                  refine hK.out _ _ ?_ (fun hHeld => ?_)
                  · exact h1
                  clear hK K
                  try simp only [Act.put, List.setIfInBounds_toArray, List.set_cons_zero, List.set_cons_succ]
                  refine wpAnyH_take (i := 35) (oi := { dst := some 201, op := Op.pick (Operand.tmp 194) (Operand.const (Value.bool true)) (Operand.tmp 200), type := 4, pos := "law.go:82", after := #[{ on := 28, ground := Ground.data }, { on := 34, ground := Ground.data }], guard := none }) (v := ?_) rfl (by kernel_rfl) (by kernel_rfl) (by kernel_rfl) (fun _ _ _ h => h) (Or.inl ⟨by rfl, ?_⟩) (by assumption) ?_
                  rotate_left
                  · (intro w' hSw; go_simp; try with_reducible rfl)
                  try simp only [Act.put, List.setIfInBounds_toArray, List.set_cons_zero, List.set_cons_succ]
                  refine wpAnyH_done (by kernel_rfl) ?_ _
                  go_wp2_with fail
                  go_roundw
                  case rel => exact ⟨i + 1, by omega, by go_num, Lib.hid (below_trans HB.out (below_drew h1))⟩
                  case measure => simp [intOf]; omega
                · obtain ⟨j, rfl⟩ : ∃ j, i = j + 1 := ⟨i - 1, by omega⟩
                  have hc2 := hcell j (by omega)
                  have hfs2 := hfs (by omega)
                  rw [Nat.add_sub_cancel] at hfs2
                  generalize (ofNats (frB l)).getD j 0 = pv at hc2 hfs2
                  have HC2 := Lib.hid fun w' (hw : Below wr.heap.size wr w') => ((below_trans HB.out hw).cell (p := ⟨b, o + j, none⟩) hbl).trans hc2
                  have hz : decide ((f : Int) ≤ pv) = false := decide_eq_false (by omega)
                  have hjl : (j : Int) + 1 < m6 := by omega
                  have hj0 : (0 : Int) ≤ (j : Int) + 1 := by omega
                  have hjm : j < m6 := by omega
                  have hj9 : (j : Int) ≤ 24 := by omega
                  have W1 : Hid (IntKind.i64.wrap (j : Int) = (j : Int)) := Lib.hid (by
                    simp [IntKind.wrap, IntKind.signed, IntKind.bits]
                    omega)
                  clear hcell hc1 hc2 hf1 hfs hfu hfl hf2 hf3 h0 hlti hlt hi
                  have h0 := Below.refl wr.drew.heap.size wr.drew
                  go_wp2_with fail
                  refine wp_region_held_drew (S := ext wr.drew) (by kernel_rfl) (Below.refl _ _) (fun hH0 => ?_)
                  refine wpAnyH_take (i := 0) (oi := { dst := some 166, op := Op.move (Operand.tmp 13), type := 31, pos := "law.go:82", after := #[], guard := none }) (v := ?_) rfl (by kernel_rfl) (by kernel_rfl) (by kernel_rfl) (fun _ _ _ h => h) (Or.inl ⟨by rfl, ?_⟩) (by assumption) ?_
                  rotate_left
                  · (intro w' hSw; go_simp; try with_reducible rfl)
                  try simp only [Act.put, List.setIfInBounds_toArray, List.set_cons_zero, List.set_cons_succ]
                  refine wpAnyH_take (i := 1) (oi := { dst := some 167, op := Op.move (Operand.tmp 20), type := 3, pos := "law.go:82", after := #[], guard := none }) (v := ?_) rfl (by kernel_rfl) (by kernel_rfl) (by kernel_rfl) (fun _ _ _ h => h) (Or.inl ⟨by rfl, ?_⟩) (by assumption) ?_
                  rotate_left
                  · (intro w' hSw; go_simp; try with_reducible rfl)
                  try simp only [Act.put, List.setIfInBounds_toArray, List.set_cons_zero, List.set_cons_succ]
                  refine wpAnyH_take (i := 2) (oi := { dst := some 168, op := Op.indexAddr 31 (Operand.tmp 166) (Operand.tmp 167), type := 0, pos := "law.go:82", after := #[{ on := 0, ground := Ground.data }, { on := 1, ground := Ground.data }], guard := none }) (v := ?_) rfl (by kernel_rfl) (by kernel_rfl) (by kernel_rfl) (fun _ _ _ h => h) (Or.inl ⟨by rfl, ?_⟩) (by assumption) ?_
                  rotate_left
                  · (intro w' hSw; go_simp; try with_reducible rfl)
                  try simp only [Act.put, List.setIfInBounds_toArray, List.set_cons_zero, List.set_cons_succ]
                  refine' wpAnyH_take (i := 3) (oi := { dst := some 169, op := Op.load 3 (Operand.tmp 168), type := 3, pos := "law.go:82", after := #[{ on := 2, ground := Ground.data }], guard := none }) (v := _) rfl (by kernel_rfl) (by kernel_rfl) (by kernel_rfl) (fun _ _ _ h => h) (Go.Proofs.Ytpckdjnddoaffaa.dsk.ld_cell (by rfl) 3 _ Try.underlying3 rfl _ rfl b (o + (j + 1)) rfl _ (fun w' hw => HC.out w' (below_drew hw))) (by assumption) ?_
                  try simp only [Act.put, List.setIfInBounds_toArray, List.set_cons_zero, List.set_cons_succ]
                  refine wpAnyH_take (i := 4) (oi := { dst := some 170, op := Op.binOp BinOp.lss 3 (Operand.tmp 169) (Operand.const (Value.int IntKind.i64 1)) 3, type := 4, pos := "law.go:82", after := #[{ on := 3, ground := Ground.data }], guard := none }) (v := ?_) rfl (by kernel_rfl) (by kernel_rfl) (by kernel_rfl) (fun _ _ _ h => h) (Or.inl ⟨by rfl, ?_⟩) (by assumption) ?_
                  rotate_left
                  · (intro w' hSw; go_simp; try with_reducible rfl)
                  try simp only [Act.put, List.setIfInBounds_toArray, List.set_cons_zero, List.set_cons_succ]
                  refine wpAnyH_take (i := 5) (oi := { dst := some 171, op := Op.move (Operand.tmp 170), type := 4, pos := "law.go:82", after := #[{ on := 4, ground := Ground.data }], guard := none }) (v := ?_) rfl (by kernel_rfl) (by kernel_rfl) (by kernel_rfl) (fun _ _ _ h => h) (Or.inl ⟨by rfl, ?_⟩) (by assumption) ?_
                  rotate_left
                  · (intro w' hSw; go_simp; try with_reducible rfl)
                  try simp only [Act.put, List.setIfInBounds_toArray, List.set_cons_zero, List.set_cons_succ]
                  refine wpAnyH_take (i := 6) (oi := { dst := some 172, op := Op.move (Operand.tmp 13), type := 31, pos := "law.go:82", after := #[{ on := 5, ground := Ground.guard }], guard := some (5, false) }) (v := ?_) rfl (by kernel_rfl) (by kernel_rfl) (by kernel_rfl) (fun _ _ _ h => h) (Or.inl ⟨by rfl, ?_⟩) (by assumption) ?_
                  rotate_left
                  · (intro w' hSw; go_simp; try with_reducible rfl)
                  try simp only [Act.put, List.setIfInBounds_toArray, List.set_cons_zero, List.set_cons_succ]
                  refine wpAnyH_take (i := 7) (oi := { dst := some 173, op := Op.move (Operand.tmp 20), type := 3, pos := "law.go:82", after := #[{ on := 5, ground := Ground.guard }], guard := some (5, false) }) (v := ?_) rfl (by kernel_rfl) (by kernel_rfl) (by kernel_rfl) (fun _ _ _ h => h) (Or.inl ⟨by rfl, ?_⟩) (by assumption) ?_
                  rotate_left
                  · (intro w' hSw; go_simp; try with_reducible rfl)
                  try simp only [Act.put, List.setIfInBounds_toArray, List.set_cons_zero, List.set_cons_succ]
                  refine wpAnyH_take (i := 8) (oi := { dst := some 174, op := Op.indexAddr 31 (Operand.tmp 172) (Operand.tmp 173), type := 0, pos := "law.go:82", after := #[{ on := 6, ground := Ground.data }, { on := 7, ground := Ground.data }, { on := 5, ground := Ground.guard }], guard := some (5, false) }) (v := ?_) rfl (by kernel_rfl) (by kernel_rfl) (by kernel_rfl) (fun _ _ _ h => h) (Or.inl ⟨by rfl, ?_⟩) (by assumption) ?_
                  rotate_left
                  · (intro w' hSw; go_simp; try with_reducible rfl)
                  try simp only [Act.put, List.setIfInBounds_toArray, List.set_cons_zero, List.set_cons_succ]
                  refine' wpAnyH_take (i := 9) (oi := { dst := some 175, op := Op.load 3 (Operand.tmp 174), type := 3, pos := "law.go:82", after := #[{ on := 8, ground := Ground.data }, { on := 5, ground := Ground.guard }], guard := some (5, false) }) (v := _) rfl (by kernel_rfl) (by kernel_rfl) (by kernel_rfl) (fun _ _ _ h => h) (Go.Proofs.Ytpckdjnddoaffaa.dsk.ld_cell (by rfl) 3 _ Try.underlying3 rfl _ rfl b (o + (j + 1)) rfl _ (fun w' hw => HC.out w' (below_drew hw))) (by assumption) ?_
                  try simp only [Act.put, List.setIfInBounds_toArray, List.set_cons_zero, List.set_cons_succ]
                  refine wpAnyH_take (i := 10) (oi := { dst := some 176, op := Op.binOp BinOp.gtr 3 (Operand.tmp 175) (Operand.const (Value.int IntKind.i64 24)) 3, type := 4, pos := "law.go:82", after := #[{ on := 9, ground := Ground.data }, { on := 5, ground := Ground.guard }], guard := some (5, false) }) (v := ?_) rfl (by kernel_rfl) (by kernel_rfl) (by kernel_rfl) (fun _ _ _ h => h) (Or.inl ⟨by rfl, ?_⟩) (by assumption) ?_
                  rotate_left
                  · (intro w' hSw; go_simp; try with_reducible rfl)
                  try simp only [Act.put, List.setIfInBounds_toArray, List.set_cons_zero, List.set_cons_succ]
                  refine wpAnyH_take (i := 11) (oi := { dst := some 177, op := Op.pick (Operand.tmp 171) (Operand.const (Value.bool true)) (Operand.tmp 176), type := 4, pos := "law.go:82", after := #[{ on := 5, ground := Ground.data }, { on := 10, ground := Ground.data }], guard := none }) (v := ?_) rfl (by kernel_rfl) (by kernel_rfl) (by kernel_rfl) (fun _ _ _ h => h) (Or.inl ⟨by rfl, ?_⟩) (by assumption) ?_
                  rotate_left
                  · (intro w' hSw; go_simp; try with_reducible rfl)
                  try simp only [Act.put, List.setIfInBounds_toArray, List.set_cons_zero, List.set_cons_succ]
                  refine wpAnyH_take (i := 12) (oi := { dst := some 178, op := Op.move (Operand.tmp 177), type := 4, pos := "law.go:82", after := #[{ on := 11, ground := Ground.data }, { on := 5, ground := Ground.chain }], guard := none }) (v := ?_) rfl (by kernel_rfl) (by kernel_rfl) (by kernel_rfl) (fun _ _ _ h => h) (Or.inl ⟨by rfl, ?_⟩) (by assumption) ?_
                  rotate_left
                  · (intro w' hSw; go_simp; try with_reducible rfl)
                  try simp only [Act.put, List.setIfInBounds_toArray, List.set_cons_zero, List.set_cons_succ]
                  refine wpAnyH_take (i := 13) (oi := { dst := some 179, op := Op.move (Operand.tmp 20), type := 3, pos := "law.go:82", after := #[{ on := 12, ground := Ground.guard }], guard := some (12, false) }) (v := ?_) rfl (by kernel_rfl) (by kernel_rfl) (by kernel_rfl) (fun _ _ _ h => h) (Or.inl ⟨by rfl, ?_⟩) (by assumption) ?_
                  rotate_left
                  · (intro w' hSw; go_simp; try with_reducible rfl)
                  try simp only [Act.put, List.setIfInBounds_toArray, List.set_cons_zero, List.set_cons_succ]
                  refine wpAnyH_take (i := 14) (oi := { dst := some 180, op := Op.binOp BinOp.gtr 3 (Operand.tmp 179) (Operand.const (Value.int IntKind.i64 0)) 3, type := 4, pos := "law.go:82", after := #[{ on := 13, ground := Ground.data }, { on := 12, ground := Ground.guard }], guard := some (12, false) }) (v := ?_) rfl (by kernel_rfl) (by kernel_rfl) (by kernel_rfl) (fun _ _ _ h => h) (Or.inl ⟨by rfl, ?_⟩) (by assumption) ?_
                  rotate_left
                  · (intro w' hSw; go_simp; try with_reducible rfl)
                  try simp only [Act.put, List.setIfInBounds_toArray, List.set_cons_zero, List.set_cons_succ]
                  refine wpAnyH_take (i := 15) (oi := { dst := some 181, op := Op.move (Operand.tmp 180), type := 4, pos := "law.go:82", after := #[{ on := 14, ground := Ground.data }, { on := 12, ground := Ground.chain }, { on := 12, ground := Ground.guard }], guard := some (12, false) }) (v := ?_) rfl (by kernel_rfl) (by kernel_rfl) (by kernel_rfl) (fun _ _ _ h => h) (Or.inl ⟨by rfl, ?_⟩) (by assumption) ?_
                  rotate_left
                  · (intro w' hSw; go_simp; try with_reducible rfl)
                  try simp only [Act.put, List.setIfInBounds_toArray, List.set_cons_zero, List.set_cons_succ]
                  refine wpAnyH_take (i := 16) (oi := { dst := some 182, op := Op.move (Operand.tmp 13), type := 31, pos := "law.go:82", after := #[{ on := 15, ground := Ground.guard }], guard := some (15, true) }) (v := ?_) rfl (by kernel_rfl) (by kernel_rfl) (by kernel_rfl) (fun _ _ _ h => h) (Or.inl ⟨by rfl, ?_⟩) (by assumption) ?_
                  rotate_left
                  · (intro w' hSw; go_simp; try with_reducible rfl)
                  try simp only [Act.put, List.setIfInBounds_toArray, List.set_cons_zero, List.set_cons_succ]
                  refine wpAnyH_take (i := 17) (oi := { dst := some 183, op := Op.move (Operand.tmp 20), type := 3, pos := "law.go:82", after := #[{ on := 15, ground := Ground.guard }], guard := some (15, true) }) (v := ?_) rfl (by kernel_rfl) (by kernel_rfl) (by kernel_rfl) (fun _ _ _ h => h) (Or.inl ⟨by rfl, ?_⟩) (by assumption) ?_
                  rotate_left
                  · (intro w' hSw; go_simp; try with_reducible rfl)
                  try simp only [Act.put, List.setIfInBounds_toArray, List.set_cons_zero, List.set_cons_succ]
                  refine wpAnyH_take (i := 18) (oi := { dst := some 184, op := Op.indexAddr 31 (Operand.tmp 182) (Operand.tmp 183), type := 0, pos := "law.go:82", after := #[{ on := 16, ground := Ground.data }, { on := 17, ground := Ground.data }, { on := 15, ground := Ground.guard }], guard := some (15, true) }) (v := ?_) rfl (by kernel_rfl) (by kernel_rfl) (by kernel_rfl) (fun _ _ _ h => h) (Or.inl ⟨by rfl, ?_⟩) (by assumption) ?_
                  rotate_left
                  · (intro w' hSw; go_simp; try with_reducible rfl)
                  try simp only [Act.put, List.setIfInBounds_toArray, List.set_cons_zero, List.set_cons_succ]
                  refine' wpAnyH_take (i := 19) (oi := { dst := some 185, op := Op.load 3 (Operand.tmp 184), type := 3, pos := "law.go:82", after := #[{ on := 18, ground := Ground.data }, { on := 15, ground := Ground.guard }], guard := some (15, true) }) (v := _) rfl (by kernel_rfl) (by kernel_rfl) (by kernel_rfl) (fun _ _ _ h => h) (Go.Proofs.Ytpckdjnddoaffaa.dsk.ld_cell (by rfl) 3 _ Try.underlying3 rfl _ rfl b (o + (j + 1)) rfl _ (fun w' hw => HC.out w' (below_drew hw))) (by assumption) ?_
                  try simp only [Act.put, List.setIfInBounds_toArray, List.set_cons_zero, List.set_cons_succ]
                  refine wpAnyH_take (i := 20) (oi := { dst := some 186, op := Op.move (Operand.tmp 13), type := 31, pos := "law.go:82", after := #[{ on := 15, ground := Ground.guard }], guard := some (15, true) }) (v := ?_) rfl (by kernel_rfl) (by kernel_rfl) (by kernel_rfl) (fun _ _ _ h => h) (Or.inl ⟨by rfl, ?_⟩) (by assumption) ?_
                  rotate_left
                  · (intro w' hSw; go_simp; try with_reducible rfl)
                  try simp only [Act.put, List.setIfInBounds_toArray, List.set_cons_zero, List.set_cons_succ]
                  refine wpAnyH_take (i := 21) (oi := { dst := some 187, op := Op.move (Operand.tmp 20), type := 3, pos := "law.go:82", after := #[{ on := 15, ground := Ground.guard }], guard := some (15, true) }) (v := ?_) rfl (by kernel_rfl) (by kernel_rfl) (by kernel_rfl) (fun _ _ _ h => h) (Or.inl ⟨by rfl, ?_⟩) (by assumption) ?_
                  rotate_left
                  · (intro w' hSw; go_simp; try with_reducible rfl)
                  try simp only [Act.put, List.setIfInBounds_toArray, List.set_cons_zero, List.set_cons_succ]
                  refine wpAnyH_take (i := 22) (oi := { dst := some 188, op := Op.binOp BinOp.sub 3 (Operand.tmp 187) (Operand.const (Value.int IntKind.i64 1)) 3, type := 3, pos := "law.go:82", after := #[{ on := 21, ground := Ground.data }, { on := 15, ground := Ground.guard }], guard := some (15, true) }) (v := ?_) rfl (by kernel_rfl) (by kernel_rfl) (by kernel_rfl) (fun _ _ _ h => h) (Or.inl ⟨by rfl, ?_⟩) (by assumption) ?_
                  rotate_left
                  · (intro w' hSw; have e := W1.out; go_simp; try with_reducible rfl)
                  try simp only [Act.put, List.setIfInBounds_toArray, List.set_cons_zero, List.set_cons_succ]
                  refine wpAnyH_take (i := 23) (oi := { dst := some 189, op := Op.indexAddr 31 (Operand.tmp 186) (Operand.tmp 188), type := 0, pos := "law.go:82", after := #[{ on := 20, ground := Ground.data }, { on := 22, ground := Ground.data }, { on := 15, ground := Ground.guard }], guard := some (15, true) }) (v := ?_) rfl (by kernel_rfl) (by kernel_rfl) (by kernel_rfl) (fun _ _ _ h => h) (Or.inl ⟨by rfl, ?_⟩) (by assumption) ?_
                  rotate_left
                  · (intro w' hSw; go_simp; try with_reducible rfl)
                  try simp only [Act.put, List.setIfInBounds_toArray, List.set_cons_zero, List.set_cons_succ]
                  refine' wpAnyH_take (i := 24) (oi := { dst := some 190, op := Op.load 3 (Operand.tmp 189), type := 3, pos := "law.go:82", after := #[{ on := 23, ground := Ground.data }, { on := 15, ground := Ground.guard }], guard := some (15, true) }) (v := _) rfl (by kernel_rfl) (by kernel_rfl) (by kernel_rfl) (fun _ _ _ h => h) (Go.Proofs.Ytpckdjnddoaffaa.dsk.ld_cell (by rfl) 3 _ Try.underlying3 rfl _ rfl b (o + j) rfl _ (fun w' hw => HC2.out w' (below_drew hw))) (by assumption) ?_
                  try simp only [Act.put, List.setIfInBounds_toArray, List.set_cons_zero, List.set_cons_succ]
                  refine wpAnyH_take (i := 25) (oi := { dst := some 191, op := Op.binOp BinOp.leq 3 (Operand.tmp 185) (Operand.tmp 190) 3, type := 4, pos := "law.go:82", after := #[{ on := 19, ground := Ground.data }, { on := 24, ground := Ground.data }, { on := 15, ground := Ground.guard }], guard := some (15, true) }) (v := ?_) rfl (by kernel_rfl) (by kernel_rfl) (by kernel_rfl) (fun _ _ _ h => h) (Or.inl ⟨by rfl, ?_⟩) (by assumption) ?_
                  rotate_left
                  · (intro w' hSw; go_simp; try with_reducible rfl)
                  try simp only [Act.put, List.setIfInBounds_toArray, List.set_cons_zero, List.set_cons_succ]
                  refine wpAnyH_take (i := 26) (oi := { dst := some 192, op := Op.pick (Operand.tmp 181) (Operand.tmp 191) (Operand.const (Value.bool false)), type := 4, pos := "law.go:82", after := #[{ on := 15, ground := Ground.data }, { on := 25, ground := Ground.data }, { on := 12, ground := Ground.guard }], guard := some (12, false) }) (v := ?_) rfl (by kernel_rfl) (by kernel_rfl) (by kernel_rfl) (fun _ _ _ h => h) (Or.inl ⟨by rfl, ?_⟩) (by assumption) ?_
                  rotate_left
                  · (intro w' hSw; go_simp; try with_reducible rfl)
                  try simp only [Act.put, List.setIfInBounds_toArray, List.set_cons_zero, List.set_cons_succ]
                  refine wpAnyH_take (i := 27) (oi := { dst := some 193, op := Op.pick (Operand.tmp 178) (Operand.const (Value.bool true)) (Operand.tmp 192), type := 4, pos := "law.go:82", after := #[{ on := 12, ground := Ground.data }, { on := 26, ground := Ground.data }], guard := none }) (v := ?_) rfl (by kernel_rfl) (by kernel_rfl) (by kernel_rfl) (fun _ _ _ h => h) (Or.inl ⟨by rfl, ?_⟩) (by assumption) ?_
                  rotate_left
                  · (intro w' hSw; go_simp; try with_reducible rfl)
                  try simp only [Act.put, List.setIfInBounds_toArray, List.set_cons_zero, List.set_cons_succ]
                  refine wpAnyH_take (i := 28) (oi := { dst := some 194, op := Op.move (Operand.tmp 193), type := 4, pos := "law.go:82", after := #[{ on := 27, ground := Ground.data }, { on := 15, ground := Ground.chain }], guard := none }) (v := ?_) rfl (by kernel_rfl) (by kernel_rfl) (by kernel_rfl) (fun _ _ _ h => h) (Or.inl ⟨by rfl, ?_⟩) (by assumption) ?_
                  rotate_left
                  · (intro w' hSw; go_simp; try with_reducible rfl)
                  try simp only [Act.put, List.setIfInBounds_toArray, List.set_cons_zero, List.set_cons_succ]
                  refine wpAnyH_take (i := 29) (oi := { dst := some 195, op := Op.move (Operand.tmp 5), type := 25, pos := "law.go:82", after := #[{ on := 28, ground := Ground.guard }], guard := some (28, false) }) (v := ?_) rfl (by kernel_rfl) (by kernel_rfl) (by kernel_rfl) (fun _ _ _ h => h) (Or.inl ⟨by rfl, ?_⟩) (by assumption) ?_
                  rotate_left
                  · (intro w' hSw; go_simp; try with_reducible rfl)
                  try simp only [Act.put, List.setIfInBounds_toArray, List.set_cons_zero, List.set_cons_succ]
                  refine wpAnyH_take (i := 30) (oi := { dst := some 196, op := Op.move (Operand.tmp 13), type := 31, pos := "law.go:82", after := #[{ on := 28, ground := Ground.guard }], guard := some (28, false) }) (v := ?_) rfl (by kernel_rfl) (by kernel_rfl) (by kernel_rfl) (fun _ _ _ h => h) (Or.inl ⟨by rfl, ?_⟩) (by assumption) ?_
                  rotate_left
                  · (intro w' hSw; go_simp; try with_reducible rfl)
                  try simp only [Act.put, List.setIfInBounds_toArray, List.set_cons_zero, List.set_cons_succ]
                  refine wpAnyH_take (i := 31) (oi := { dst := some 197, op := Op.move (Operand.tmp 20), type := 3, pos := "law.go:82", after := #[{ on := 28, ground := Ground.guard }], guard := some (28, false) }) (v := ?_) rfl (by kernel_rfl) (by kernel_rfl) (by kernel_rfl) (fun _ _ _ h => h) (Or.inl ⟨by rfl, ?_⟩) (by assumption) ?_
                  rotate_left
                  · (intro w' hSw; go_simp; try with_reducible rfl)
                  try simp only [Act.put, List.setIfInBounds_toArray, List.set_cons_zero, List.set_cons_succ]
                  refine wpAnyH_take (i := 32) (oi := { dst := some 198, op := Op.indexAddr 31 (Operand.tmp 196) (Operand.tmp 197), type := 0, pos := "law.go:82", after := #[{ on := 30, ground := Ground.data }, { on := 31, ground := Ground.data }, { on := 28, ground := Ground.guard }], guard := some (28, false) }) (v := ?_) rfl (by kernel_rfl) (by kernel_rfl) (by kernel_rfl) (fun _ _ _ h => h) (Or.inl ⟨by rfl, ?_⟩) (by assumption) ?_
                  rotate_left
                  · (intro w' hSw; go_simp; try with_reducible rfl)
                  try simp only [Act.put, List.setIfInBounds_toArray, List.set_cons_zero, List.set_cons_succ]
                  refine' wpAnyH_take (i := 33) (oi := { dst := some 199, op := Op.load 3 (Operand.tmp 198), type := 3, pos := "law.go:82", after := #[{ on := 32, ground := Ground.data }, { on := 28, ground := Ground.guard }], guard := some (28, false) }) (v := _) rfl (by kernel_rfl) (by kernel_rfl) (by kernel_rfl) (fun _ _ _ h => h) (Go.Proofs.Ytpckdjnddoaffaa.dsk.ld_cell (by rfl) 3 _ Try.underlying3 rfl _ rfl b (o + (j + 1)) rfl _ (fun w' hw => HC.out w' (below_drew hw))) (by assumption) ?_
                  try simp only [Act.put, List.setIfInBounds_toArray, List.set_cons_zero, List.set_cons_succ]
                  -- 34
                  refine wpAnyH_ready (rs := [34]) (by kernel_rfl) (by simp) ?_
                  refine AllReadyH.cons (o := { dst := some 200, op := Op.call { callee := Callee.value (Operand.func 19), args := #[Operand.tmp 195, Operand.tmp 199], argTypes := #[25, 3] }, type := 4, pos := "law.go:82", after := #[{ on := 29, ground := Ground.data }, { on := 33, ground := Ground.data }, { on := 28, ground := Ground.chain }, { on := 28, ground := Ground.guard }], guard := some (28, false) }) rfl (fun K hK => ?_) AllReadyH.nil
                  go_simp
                  refine (HO.out _ (below_drew h0)).mono ?_
                  rintro e v1 ⟨rfl, hb1⟩
                  have h1 := below_trans h0 hb1
                  dsimp only
                  refine hK.out _ _ ?_ (fun hHeld => ?_)
                  · exact h1
                  clear hK K
                  try simp only [Act.put, List.setIfInBounds_toArray, List.set_cons_zero, List.set_cons_succ]
                  refine wpAnyH_take (i := 35) (oi := { dst := some 201, op := Op.pick (Operand.tmp 194) (Operand.const (Value.bool true)) (Operand.tmp 200), type := 4, pos := "law.go:82", after := #[{ on := 28, ground := Ground.data }, { on := 34, ground := Ground.data }], guard := none }) (v := ?_) rfl (by kernel_rfl) (by kernel_rfl) (by kernel_rfl) (fun _ _ _ h => h) (Or.inl ⟨by rfl, ?_⟩) (by assumption) ?_
                  rotate_left
                  · (intro w' hSw; go_simp; try with_reducible rfl)
                  try simp only [Act.put, List.setIfInBounds_toArray, List.set_cons_zero, List.set_cons_succ]
                  refine wpAnyH_done (by kernel_rfl) ?_ _
                  go_wp2_with fail
                  go_roundw
                  case rel => exact ⟨j + 1 + 1, by omega, by go_num, Lib.hid (below_trans HB.out (below_drew h1))⟩
                  case measure => simp [intOf]; omega
              · have hgei : (m6 : Int) ≤ i := by omega
                have hm60 : (0 : Int) ≤ m6 := by omega
                have D8 := Lib.hid (D7.out.later HB.out)
                have I8 := Lib.hid (I7.out.later HB.out)
                have B8 := Lib.hid (below_trans B7.out HB.out)
                have hcp : (m6 : Int) ≤ k6 := by
                  rcases I7.out with ⟨p', cap', h1, h0, _⟩ | ⟨b, off, cap', h1, h2, h3, _⟩
                  · cases h1; omega
                  · cases h1; omega
                have HHL : Hid ((m6 / 2 : Nat) ≤ (frB l).length) := Lib.hid (by have := HBL.out; have := HM6.out; omega)
                have HD2 := Lib.hid (show ((m6 / 2 : Nat) : Int) = (m6 : Int) / 2 by omega)
                have C6 := Lib.hid fun w' (hd : Dk w' d l) => by
                  have h := C5.out w' d (m6 / 2) hd HHL.out (wf_byte (by have := HM6.out; omega))
                  rw [HD2.out, ofNats_take] at h
                  exact h
                have HLL : Hid (((ofNats (frB l)).take (m6 / 2)).length = m6 / 2) := Lib.hid (by rw [List.length_take, ofNats_len]; have := HHL.out; omega)
                have hq0 : (0 : Int) ≤ (m6 : Int) / 2 := by omega
                have hqk : (m6 : Int) / 2 ≤ k6 := by omega
                have hqn : m6 / 2 ≤ k6 := by omega
                have IP := Lib.hid fun w' (hb : Below wr.heap.size wr w') => rd_pre_i (I8.out.later hb) (m6 / 2) (by omega) (fun hp => by
                  rcases I8.out with ⟨p', cap', h1, h0, _⟩ | ⟨b, off, cap', h1, h2, h3, _⟩
                  · omega
                  · rw [hp] at h1; cases h1)
                clear FB FE FI HBB HT HE
                go_wp2_with (first
                  | (go_at_call 12; refine (C6.out _ D8.out).mono ?_; rintro e w9 ⟨q9, m9, k9, rfl, hm9, hr9, hb⟩; rw [HLL.out] at hm9; subst hm9; have B9 := Lib.hid (below_trans B8.out hb); have I9 := Lib.hid hr9; have P9 := Lib.hid (IP.out _ hb); clear hb hr9)
                  | (go_at_call 16; refine (ints_any _ _ (m6 / 2) _ _ _ _ I9.out P9.out (by have := HM6.out; omega)).mono ?_; rintro e w10 ⟨rfl, hb⟩; have B10 := Lib.hid (below_trans B9.out hb); clear hb))
                go_ret
                exact ⟨rfl, B10.out⟩
end Go.Proofs.Ytpckdjnddoaffaa.al
